import Derived.RowKit
import Derived.IntWalk
import Derived.Laws.Entries
import Derived.Below
/- The words of 32 bits and the operators of package num, in Lean's own terms: no program in sight. -/
namespace Go.Proofs.Ytdlfgfghjdobjaa.Num
open Go.RowKit

def sI (A : BitVec 32) : Int := A.toInt
def oI (a : Int) : BitVec 32 := BitVec.ofInt 32 a

theorem wrap32_bmod (n : Int) : wrap32 n = n.bmod 4294967296 := by
  unfold wrap32; rw [Int.bmod_def]; split <;> omega
theorem sI_oI (n : Int) : sI (oI n) = wrap32 n := by
  rw [wrap32_bmod]; unfold sI oI; rw [BitVec.toInt_ofInt]
theorem oI_sI (A : BitVec 32) : oI (sI A) = A := by unfold sI oI; exact BitVec.ofInt_toInt
theorem sI_lo (A : BitVec 32) : -2147483648 ≤ sI A := by have := BitVec.le_toInt A; unfold sI; simpa using this
theorem sI_hi (A : BitVec 32) : sI A ≤ 2147483647 := by have := BitVec.toInt_lt (x := A); unfold sI; simp at this; omega
theorem sI_in (a : Int) (h1 : -2147483648 ≤ a) (h2 : a ≤ 2147483647) : sI (oI a) = a := by rw [sI_oI]; unfold wrap32; omega
theorem sI_inj {A B : BitVec 32} (h : sI A = sI B) : A = B := BitVec.eq_of_toInt_eq h
theorem sI_beq (A B : BitVec 32) : (sI A == sI B) = (A == B) := by
  rw [Bool.eq_iff_iff, beq_iff_eq, beq_iff_eq]; exact ⟨sI_inj, fun h => by rw [h]⟩
theorem oI_wrap (n : Int) : oI (wrap32 n) = oI n := by rw [← sI_oI, oI_sI]

def tr (c : Bool) : BitVec 32 := if c then 1#32 else 0#32
theorem tr_true : sI (tr true) = 1 := by decide
theorem tr_false : sI (tr false) = 0 := by decide

def dist (B : BitVec 32) : Nat := B.toNat % 32

def binF : Nat → BitVec 32 → BitVec 32 → BitVec 32
  | 0, A, B => A + B
  | 1, A, B => A - B
  | 2, A, B => A * B
  | 3, A, B => if B = 0#32 then 0#32 else A.sdiv B
  | 4, A, B => if B = 0#32 then 0#32 else A.srem B
  | 5, A, B => A &&& B
  | 6, A, B => A ||| B
  | 7, A, B => A ^^^ B
  | 8, A, B => A <<< dist B
  | 9, A, B => A.sshiftRight (dist B)
  | 10, A, B => A >>> dist B
  | 11, A, B => tr (decide (sI A < sI B))
  | 12, A, B => tr (decide (sI A ≤ sI B))
  | 13, A, B => tr (sI A == sI B)
  | 14, A, B => tr (sI A != sI B)
  | 15, A, B => tr (decide (A.toNat < B.toNat))
  | 16, A, B => tr (sI A != 0 && sI B != 0)
  | 17, A, B => tr (sI A != 0 || sI B != 0)
  | 18, A, B => if sI B < sI A then B else A
  | 19, A, B => if sI A < sI B then B else A
  | _, _, _ => 0#32

theorem add_sI (A B : BitVec 32) : wrap32 (sI A + sI B) = sI (A + B) := by
  rw [← sI_oI]; congr 1; unfold oI; rw [BitVec.ofInt_add]; unfold sI; rw [BitVec.ofInt_toInt, BitVec.ofInt_toInt]
theorem sub_sI (A B : BitVec 32) : wrap32 (sI A - sI B) = sI (A - B) := by
  rw [wrap32_bmod]; unfold sI; rw [BitVec.toInt_sub]
theorem mul_sI (A B : BitVec 32) : wrap32 (sI A * sI B) = sI (A * B) := by
  rw [← sI_oI]; congr 1; unfold oI; rw [BitVec.ofInt_mul]; unfold sI; rw [BitVec.ofInt_toInt, BitVec.ofInt_toInt]
theorem div_sI (A B : BitVec 32) : wrap32 ((sI A).tdiv (sI B)) = sI (A.sdiv B) := by
  rw [wrap32_bmod]; unfold sI; rw [BitVec.toInt_sdiv]
theorem rem_sI (A B : BitVec 32) : (sI A).tmod (sI B) = sI (A.srem B) := by
  unfold sI; rw [BitVec.toInt_srem]
theorem bits_sI {op : BinOp} {f : BitVec 32 → BitVec 32 → BitVec 32} (A B : BitVec 32) (h : ∀ x y : Int, bits op .i32 x y = IntKind.i32.wrap (f (BitVec.ofInt 32 x) (BitVec.ofInt 32 y)).toNat) :
    bits op .i32 (sI A) (sI B) = sI (f A B) := by
  rw [h]; unfold sI; rw [BitVec.ofInt_toInt, BitVec.ofInt_toInt, IntWalk.i32_left, ← sI_oI]; unfold sI oI; congr 1; exact BitVec.eq_of_toNat_eq (by simp)
theorem and_sI (A B : BitVec 32) : bits .and .i32 (sI A) (sI B) = sI (A &&& B) := bits_sI (f := (· &&& ·)) A B (fun _ _ => rfl)
theorem or_sI (A B : BitVec 32) : bits .or .i32 (sI A) (sI B) = sI (A ||| B) := bits_sI (f := (· ||| ·)) A B (fun _ _ => rfl)
theorem xor_sI (A B : BitVec 32) : bits .xor .i32 (sI A) (sI B) = sI (A ^^^ B) := bits_sI (f := (· ^^^ ·)) A B (fun _ _ => rfl)
theorem mod_sI (B : BitVec 32) : sI B % 4294967296 = (B.toNat : Int) := by
  have h := B.isLt
  have e : sI B = wrap32 (B.toNat : Int) := by rw [wrap32_bmod]; unfold sI; rw [BitVec.toInt_eq_toNat_bmod]
  rw [e]; unfold wrap32; omega
theorem dist_sI (B : BitVec 32) : bits .and .u32 (sI B % 4294967296) 31 = ((dist B : Nat) : Int) := by
  rw [mod_sI]; unfold dist
  have h := B.isLt
  show IntKind.u32.wrap ((BitVec.ofInt 32 (B.toNat : Int) &&& BitVec.ofInt 32 31).toNat : Int) = _
  have e : (BitVec.ofInt 32 (B.toNat : Int) &&& BitVec.ofInt 32 31).toNat = B.toNat % 32 := by
    rw [BitVec.toNat_and]
    have e1 : (BitVec.ofInt 32 (B.toNat : Int)).toNat = B.toNat := by simp
    rw [e1]
    exact Nat.and_two_pow_sub_one_eq_mod B.toNat 5
  rw [e, IntWalk.u32_in _ (by omega)]
theorem dist_lt (B : BitVec 32) : dist B < 32 := by unfold dist; omega
theorem shl_sI (A B : BitVec 32) : wrap32 (sI A * 2 ^ dist B) = sI (A <<< dist B) := by
  have e : oI (2 ^ dist B) = BitVec.twoPow 32 (dist B) := by
    have h : ∀ n, n < 32 → oI (2 ^ n) = BitVec.twoPow 32 n := by decide
    exact h _ (dist_lt B)
  rw [← sI_oI]; congr 1
  rw [BitVec.shiftLeft_eq_mul_twoPow, ← e]; unfold oI sI; rw [BitVec.ofInt_mul, BitVec.ofInt_toInt]
theorem shr_sI (A B : BitVec 32) : sI A / 2 ^ dist B = sI (A.sshiftRight (dist B)) := by
  unfold sI; rw [BitVec.toInt_sshiftRight, Int.shiftRight_eq_div_pow]; simp
theorem ushr_sI (A B : BitVec 32) : wrap32 ((A.toNat : Int) / 2 ^ dist B) = sI (A >>> dist B) := by
  have h : (A.toNat : Int) / 2 ^ dist B = ((A >>> dist B).toNat : Int) := by
    rw [BitVec.toNat_ushiftRight, Nat.shiftRight_eq_div_pow]; simp
  rw [h, ← sI_oI]; congr 1; unfold oI; rw [BitVec.ofInt_natCast, BitVec.ofNat_toNat, BitVec.setWidth_eq]

def unF : Nat → BitVec 32 → BitVec 32
  | 0, A => -A
  | 1, A => ~~~A
  | 2, A => tr (sI A == 0)
  | _, _ => 0#32
theorem neg_sI (A : BitVec 32) : wrap32 (-sI A) = sI (-A) := by
  have h := sub_sI 0#32 A
  rw [show sI 0#32 = 0 from by decide, Int.zero_sub] at h
  rw [h]; simp
theorem not_sI (A : BitVec 32) : bits .xor .i32 (-1) (sI A) = sI (~~~A) := by
  have h := xor_sI (BitVec.allOnes 32) A
  rw [show sI (BitVec.allOnes 32) = -1 from by decide] at h
  rw [h, BitVec.allOnes_xor]
end Go.Proofs.Ytdlfgfghjdobjaa.Num
