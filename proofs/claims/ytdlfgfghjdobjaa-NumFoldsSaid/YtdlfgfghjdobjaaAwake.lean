import Derived.Test.YtdlfgfghjdobjaaUn
/- The laws' own function awake: the chapter's examples. -/
namespace Go.Proofs.Ytdlfgfghjdobjaa.Num
open Go.ChangeShapes Go.WideShapes Go.ChangeAt Go.RowKit

def Ex (o a b r : Int) : Prop := ∀ w : World, Calls Try.prog 12 #[.int .i64 o, .int .i32 a, .int .i32 b] w fun e w' => e = .returned (.tuple #[.int .i32 r, .bool true]) ∧ Below w.heap.size w w'
theorem ex_of (i : Nat) (o : Int) (h : BinS i o) (a b r : Int) (ha : sI (oI a) = a) (hb : sI (oI b) = b) (hr : sI (binF i (oI a) (oI b)) = r) : Ex o a b r := by
  intro w
  have := h (oI a) (oI b) w
  rw [ha, hb, hr] at this
  exact this
theorem ex1 : Ex 3 (-7) 2 (-3) := ex_of 3 3 bin3 _ _ _ (by decide) (by decide) (by decide)
theorem ex2 : Ex 4 (-7) 2 (-1) := ex_of 4 4 bin4 _ _ _ (by decide) (by decide) (by decide)
theorem ex3 : Ex 9 (-8) 33 (-4) := ex_of 9 9 bin9 _ _ _ (by decide) (by decide) (by decide)
theorem ex4 : Ex 10 (-1) 28 15 := ex_of 10 10 bin10 _ _ _ (by decide) (by decide) (by decide)
theorem ex5 : Ex 15 (-1) 1 0 := ex_of 15 15 bin15 _ _ _ (by decide) (by decide) (by decide)
theorem ex6 (w : World) : Calls Try.prog 25 #[.int .i64 18, .slice none 0 0] w fun e w' => e = .returned (.tuple #[.int .i32 2147483647, .bool true]) ∧ Below w.heap.size w w' := by
  have h := fold18_nil none 0 w
  rw [show sI (foldB 18 []) = 2147483647 from by decide] at h
  exact h

/-- Two calls, one after the other. -/
theorem seq {w a b : World} (h : Below w.heap.size w a) (k : Below a.heap.size a b) : Below w.heap.size w b := h.trans (k.mono h.size)

set_option maxRecDepth 100000 in
theorem awake_ (w : World) : Calls Try.prog 18 #[] w fun e w' => e = .returned (.bool true) ∧ Below w.heap.size w w' := by
  go_enter Try.func18, Try.ntmps18
  go_wp2_with fail
  refine (ex1 _).mono ?_
  rintro e w1 ⟨rfl, h1⟩
  go_wp2_with fail
  refine (ex2 _).mono ?_
  rintro e w2 ⟨rfl, h2⟩
  go_wp2_with fail
  refine (ex3 _).mono ?_
  rintro e w3 ⟨rfl, h3⟩
  go_wp2_with fail
  refine (ex4 _).mono ?_
  rintro e w4 ⟨rfl, h4⟩
  go_wp2_with fail
  refine (ex5 _).mono ?_
  rintro e w5 ⟨rfl, h5⟩
  go_wp2_with fail
  refine (ex6 _).mono ?_
  rintro e w6 ⟨rfl, h6⟩
  go_wp2
  go_ret
  exact ⟨rfl, seq (seq (seq (seq (seq h1 h2) h3) h4) h5) h6⟩
end Go.Proofs.Ytdlfgfghjdobjaa.Num
