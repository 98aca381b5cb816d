import Derived.Test.YtdlfgfghjdobjaaMath
/- What the laws ask of the operators, in Lean's own terms. -/
namespace Go.Proofs.Ytdlfgfghjdobjaa.Num
open Go.RowKit

theorem beq_of {A B : BitVec 32} (h : A = B) : (sI A == sI B) = true := by rw [h]; simp
theorem bne_of {A B : BitVec 32} (h : A = B) : (sI A != sI B) = false := by rw [h]; simp

/-! P1.2 -/
theorem oI_add (x y : Int) : oI (x + y) = oI x + oI y := BitVec.ofInt_add ..
theorem oI_mul (x y : Int) : oI (x * y) = oI x * oI y := BitVec.ofInt_mul ..
theorem quo_rem (A B : BitVec 32) (h : B ≠ 0#32) : binF 0 (binF 2 (binF 3 A B) B) (binF 4 A B) = A := by
  simp only [binF, if_neg h]
  have h1 : A.sdiv B = oI ((sI A).tdiv (sI B)) := by rw [← oI_sI (A.sdiv B), ← div_sI, oI_wrap]
  have h2 : A.srem B = oI ((sI A).tmod (sI B)) := by rw [← oI_sI (A.srem B), ← rem_sI]
  have h3 : oI ((sI A).tdiv (sI B) * sI B + (sI A).tmod (sI B)) = A := by rw [Int.tdiv_mul_add_tmod]; exact oI_sI A
  rw [oI_add, oI_mul, oI_sI] at h3
  rw [h1, h2, h3]
theorem rem_sign (A B : BitVec 32) (h : B ≠ 0#32) : sI (binF 4 A B) = 0 ∨ (sI (binF 4 A B) < 0 ∧ sI A < 0) ∨ (0 < sI (binF 4 A B) ∧ 0 < sI A) := by
  simp only [binF, if_neg h]
  rw [← rem_sI]
  by_cases hA : 0 ≤ sI A
  · have := Int.tmod_nonneg (sI B) hA
    by_cases h0 : sI A = 0
    · left; rw [h0]; simp
    · by_cases hr : (sI A).tmod (sI B) = 0
      · exact .inl hr
      · right; right; omega
  · have h1 : (-sI A).tmod (sI B) = -(sI A).tmod (sI B) := Int.neg_tmod ..
    have := Int.tmod_nonneg (sI B) (show 0 ≤ -sI A by omega)
    by_cases hr : (sI A).tmod (sI B) = 0
    · exact .inl hr
    · right; left; omega
theorem rem_small (A B : BitVec 32) (h : B ≠ 0#32) : (0 < sI B → -sI B < sI (binF 4 A B) ∧ sI (binF 4 A B) < sI B) ∧ (sI B < 0 → sI B < sI (binF 4 A B) ∧ sI (binF 4 A B) < -sI B) := by
  have hb : sI B ≠ 0 := fun e => h (sI_inj (e.trans (by decide)))
  simp only [binF, if_neg h]
  rw [← rem_sI]
  have h1 := Int.natAbs_tmod (sI A) (sI B)
  have h2 : (sI A).natAbs % (sI B).natAbs < (sI B).natAbs := Nat.mod_lt _ (by omega)
  rw [← h1] at h2
  constructor <;> intro h <;> omega

/-! P1.1 -/
theorem ring_add (A B : BitVec 32) : binF 0 A B = binF 0 B A := BitVec.add_comm A B
theorem ring_mul (A B : BitVec 32) : binF 2 A B = binF 2 B A := BitVec.mul_comm A B
theorem ring_add3 (A B C : BitVec 32) : binF 0 (binF 0 A B) C = binF 0 A (binF 0 B C) := BitVec.add_assoc A B C
theorem ring_mul3 (A B C : BitVec 32) : binF 2 (binF 2 A B) C = binF 2 A (binF 2 B C) := BitVec.mul_assoc A B C
theorem ring_over (A B C : BitVec 32) : binF 2 A (binF 0 B C) = binF 0 (binF 2 A B) (binF 2 A C) := BitVec.mul_add
theorem ring_sub (A B : BitVec 32) : binF 1 A B = binF 0 A (unF 0 B) := BitVec.sub_eq_add_neg A B
theorem ring_neg (A : BitVec 32) : binF 0 A (unF 0 A) = 0#32 := by show A + -A = 0#32; rw [← BitVec.sub_eq_add_neg]; exact BitVec.sub_self A

/-! P1.3 -/
theorem bits_not (A : BitVec 32) : unF 1 A = binF 1 (unF 0 A) 1#32 := by
  show ~~~A = -A - 1#32
  have h := BitVec.neg_eq_not_add A
  rw [h, BitVec.add_sub_cancel]
theorem bits_and (A B : BitVec 32) : unF 1 (binF 5 A B) = binF 6 (unF 1 A) (unF 1 B) := BitVec.not_and
theorem bits_or (A B : BitVec 32) : unF 1 (binF 6 A B) = binF 5 (unF 1 A) (unF 1 B) := BitVec.not_or
theorem bits_self (A : BitVec 32) : binF 7 A A = 0#32 := BitVec.xor_self
theorem bits_xor (A B : BitVec 32) : binF 7 A B = binF 1 (binF 6 A B) (binF 5 A B) := by
  show A ^^^ B = (A ||| B) - (A &&& B)
  have h : (A ^^^ B) &&& (A &&& B) = 0#32 := by
    ext i
    simp only [BitVec.getElem_and, BitVec.getElem_xor, BitVec.getElem_zero]
    cases A[i] <;> cases B[i] <;> rfl
  have e := BitVec.add_eq_or_of_and_eq_zero _ _ h
  have o : (A ^^^ B) ||| (A &&& B) = A ||| B := by
    ext i
    simp only [BitVec.getElem_and, BitVec.getElem_xor, BitVec.getElem_or]
    cases A[i] <;> cases B[i] <;> rfl
  rw [o] at e
  rw [← e, BitVec.add_sub_cancel]
theorem bits_double (A : BitVec 32) : binF 8 A 1#32 = binF 2 A 2#32 := by
  show A <<< 1 = A * 2#32
  rw [BitVec.shiftLeft_eq_mul_twoPow]; rfl
theorem bits_back (A B : BitVec 32) : binF 10 (binF 8 A B) B = binF 5 A (binF 10 (BitVec.allOnes 32) B) := by
  show (A <<< dist B) >>> dist B = A &&& (BitVec.allOnes 32 >>> dist B)
  generalize dist B = n
  refine BitVec.eq_of_getLsbD_eq fun i hi => ?_
  simp only [BitVec.getLsbD_ushiftRight, BitVec.getLsbD_shiftLeft, BitVec.getLsbD_and, BitVec.getLsbD_allOnes]
  by_cases h : n + i < 32
  · simp [h]
  · simp [h]
theorem bits_again (A B : BitVec 32) : binF 8 A (binF 0 B 32#32) = binF 8 A B := by
  show A <<< dist (B + 32#32) = A <<< dist B
  have e : dist (B + 32#32) = dist B := by
    unfold dist; rw [BitVec.toNat_add]; simp
  rw [e]
end Go.Proofs.Ytdlfgfghjdobjaa.Num
