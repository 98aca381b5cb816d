import Derived.Test.YtdlfgfghjdobjaaRd
/- P1.5 in Lean's own terms. -/
namespace Go.Proofs.Ytdlfgfghjdobjaa.Num
open Go.RowKit

theorem fol_cases (i : Nat) (hi : i < 20) (hf : fol i = true) : i = 0 ∨ i = 5 ∨ i = 6 ∨ i = 7 ∨ i = 18 ∨ i = 19 := by
  revert hf
  revert i
  decide
theorem neu_sI (i : Nat) (hi : i < 20) (hf : fol i = true) : neu i = sI (neuB i) := by
  rcases fol_cases i hi hf with rfl | rfl | rfl | rfl | rfl | rfl <;> decide
theorem com_fol (i : Nat) (hi : i < 20) (hf : fol i = true) : com i = true := by
  rcases fol_cases i hi hf with rfl | rfl | rfl | rfl | rfl | rfl <;> decide
theorem fol_left (i : Nat) (hi : i < 20) (hf : fol i = true) (X : BitVec 32) : binF i (neuB i) X = X := by
  rcases fol_cases i hi hf with rfl | rfl | rfl | rfl | rfl | rfl
  · show 0#32 + X = X; simp
  · show BitVec.allOnes 32 &&& X = X; exact BitVec.allOnes_and
  · show 0#32 ||| X = X; simp
  · show 0#32 ^^^ X = X; simp
  · simp only [binF]
    have h := sI_hi X
    have e : sI (neuB 18) = 2147483647 := by decide
    by_cases h1 : sI X < sI (neuB 18)
    · rw [if_pos h1]
    · rw [if_neg h1]; exact sI_inj (by omega)
  · simp only [binF]
    have h := sI_lo X
    have e : sI (neuB 19) = -2147483648 := by decide
    by_cases h1 : sI (neuB 19) < sI X
    · rw [if_pos h1]
    · rw [if_neg h1]; exact sI_inj (by omega)
theorem fol_right (i : Nat) (hi : i < 20) (hf : fol i = true) (X : BitVec 32) : binF i X (neuB i) = X := by
  rw [comm_of i hi (com_fol i hi hf)]; exact fol_left i hi hf X
theorem fol_assoc (i : Nat) (hi : i < 20) (hf : fol i = true) (X Y Z : BitVec 32) : binF i (binF i X Y) Z = binF i X (binF i Y Z) := by
  rcases fol_cases i hi hf with rfl | rfl | rfl | rfl | rfl | rfl
  · exact BitVec.add_assoc X Y Z
  · exact BitVec.and_assoc X Y Z
  · exact BitVec.or_assoc X Y Z
  · exact BitVec.xor_assoc X Y Z
  · simp only [binF]
    by_cases h1 : sI Y < sI X <;> by_cases h2 : sI Z < sI Y <;> by_cases h3 : sI Z < sI X <;> simp only [h1, h2, h3, if_true, if_false] <;> first | rfl | (exfalso; omega)
  · simp only [binF]
    by_cases h1 : sI X < sI Y <;> by_cases h2 : sI Y < sI Z <;> by_cases h3 : sI X < sI Z <;> simp only [h1, h2, h3, if_true, if_false] <;> first | rfl | (exfalso; omega)
theorem foldl_from (i : Nat) (hi : i < 20) (hf : fol i = true) (L : List (BitVec 32)) : ∀ X, L.foldl (binF i) X = binF i X (foldB i L) := by
  induction L with
  | nil => intro X; exact (fol_right i hi hf X).symm
  | cons A r ih =>
    intro X
    have e : foldB i (A :: r) = r.foldl (binF i) (binF i (neuB i) A) := rfl
    rw [List.foldl_cons, ih, e, ih, fol_left i hi hf, fol_assoc i hi hf]
theorem foldB_append (i : Nat) (hi : i < 20) (hf : fol i = true) (L M : List (BitVec 32)) : foldB i (L ++ M) = binF i (foldB i L) (foldB i M) := by
  rw [← foldl_from i hi hf]
  unfold foldB
  rw [List.foldl_append]
theorem foldB_reverse (i : Nat) (hi : i < 20) (hf : fol i = true) (L : List (BitVec 32)) : foldB i L.reverse = foldB i L := by
  induction L with
  | nil => rfl
  | cons A r ih =>
    rw [List.reverse_cons, foldB_append i hi hf, ih]
    have e : foldB i (A :: r) = binF i A (foldB i r) := by
      rw [← foldl_from i hi hf]; unfold foldB; rw [List.foldl_cons, fol_left i hi hf]
    have e1 : foldB i [A] = A := fol_left i hi hf A
    rw [e, e1, comm_of i hi (com_fol i hi hf)]
end Go.Proofs.Ytdlfgfghjdobjaa.Num
