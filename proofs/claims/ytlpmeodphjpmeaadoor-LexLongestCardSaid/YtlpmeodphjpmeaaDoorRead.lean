import Derived.Test.YtlpmeodphjpmeaaDoorRSign
import Derived.Test.YtlpmeodphjpmeaaDoorWords
/- lex.read. -/
namespace Go.Proofs.YtlpmeodphjpmeaaDoor.Lex
open Go.ChangeShapes Go.WideShapes Go.ChangeAt Go.RowKit

theorem tokR_form (o : Option Tok) : ∃ k p x n b, tokR o = .tuple #[.agg #[.int .i64 k, .int .i64 p, .string x, .int .i32 n], .bool b] := by
  cases o with
  | none => exact ⟨_, _, _, _, _, rfl⟩
  | some t => exact ⟨_, _, _, _, _, rfl⟩
theorem reads_at {f : FuncId} {args : Array Value} {w : World} {o : Option Tok} {v : Value} (h : Calls Tryd.prog f args w fun e w' => e = .returned (tokR o) ∧ Below w.heap.size w w') (hv : tokR o = v) :
    Calls Tryd.prog f args w fun e w' => e = .returned v ∧ Below w.heap.size w w' := by subst hv; exact h
theorem letter_n (n : Int) (b : Bool) (h : letN n = b) (w : World) : Calls Tryd.prog 30 #[.int .u8 n] w fun e w' => e = .returned (.bool b) ∧ w = w' := by subst h; exact lex_letter n w
theorem digit_n (n : Int) (b : Bool) (h : digN n = b) (w : World) : Calls Tryd.prog 36 #[.int .u8 n] w fun e w' => e = .returned (.bool b) ∧ w = w' := by subst h; exact lex_digit n w

theorem head_form (s : ByteArray) (h : 0 < s.size) : s.data.toList = s[0] :: s.data.toList.drop 1 := by
  have := drop_cons s 0 h
  simpa using this

set_option maxHeartbeats 2000000 in
theorem read_any (s : ByteArray) (h1 : 0 < s.size) (hs : s.size ≤ maxLen) (b : Nat) (w : World) (hW : Words w b) (hS : Sg w) :
    Calls Tryd.prog 27 #[.string s, .map (some b)] w fun e w' => e = .returned (tokR (tokenAt s.data.toList)) ∧ Below w.heap.size w w' := by
  unfold maxLen at hs
  obtain ⟨W1, hB1⟩ : ∃ W1, W1 = w.alloc (.cells #[.int .i64 0, .int .i64 0, .string ⟨#[]⟩, .int .i32 0] 30) := ⟨_, rfl⟩
  have hbel : Below w.heap.size w W1 := by rw [hB1]; exact (Below.refl _ _).alloc (Nat.le_refl _) _
  have hW1 := Lib.hid (hW.below hbel)
  have hS1 := Lib.hid (hS.below hbel)
  rw [hB1] at hW1 hS1
  clear hbel hB1 W1
  cases hl : letN (s[0].toNat : Int)
  · cases hd : digN (s[0].toNat : Int)
    · have hT : tokenAt s.data.toList = signTok s.data.toList := by
        rw [head_form s h1, tokenAt_cons, if_neg (by unfold letB; rw [hl]; decide), if_neg (by unfold digB; rw [hd]; decide)]
      rw [hT]
      clear hT
      obtain ⟨k, p, x, n, v, hv⟩ := tokR_form (signTok s.data.toList)
      rw [hv]
      have HV := Lib.hid hv
      have HL := Lib.hid hl
      have HD := Lib.hid hd
      clear hv hl hd
      go_enter Tryd.func27, Tryd.ntmps27
      go_wp2_with (first | (go_at_call 30; refine (letter_n _ _ HL.out _).mono ?_; rintro e w' ⟨rfl, rfl⟩) | (go_at_call 36; refine (digit_n _ _ HD.out _).mono ?_; rintro e w' ⟨rfl, rfl⟩) | (go_at_call 38; refine (reads_at (readSign_any s (by unfold maxLen; omega) _ hS1.out) HV.out).mono ?_; rintro e w1 ⟨rfl, hb⟩; obtain ⟨hc, hf⟩ := bcell hb; have hz : w.heap.size < w1.heap.size := (by have := hb.size; simp at this; omega)))
      exact bodyPost_ret (v := .tuple #[.agg #[.int .i64 k, .int .i64 p, .string x, .int .i32 n], .bool v]) (by simp [results, Tryd.results27, go_sem, hz, hc]) rfl ⟨rfl, by
        repeat (first | exact (((Below.refl _ _).alloc (Nat.le_refl _) _).trans (hb.mono (by simp))) | refine Below.setCell ?_ (by simp) _ | refine Below.alloc ?_ (by simp; omega) _)⟩
    · have hT : tokenAt s.data.toList = intTok s.data.toList := by
        rw [head_form s h1, tokenAt_cons, if_neg (by unfold letB; rw [hl]; decide), if_pos (by unfold digB; rw [hd])]
      rw [hT]
      clear hT
      obtain ⟨k, p, x, n, v, hv⟩ := tokR_form (intTok s.data.toList)
      rw [hv]
      have HV := Lib.hid hv
      have HL := Lib.hid hl
      have HD := Lib.hid hd
      clear hv hl hd
      go_enter Tryd.func27, Tryd.ntmps27
      go_wp2_with (first | (go_at_call 30; refine (letter_n _ _ HL.out _).mono ?_; rintro e w' ⟨rfl, rfl⟩) | (go_at_call 36; refine (digit_n _ _ HD.out _).mono ?_; rintro e w' ⟨rfl, rfl⟩) | (go_at_call 37; refine (reads_at (readInteger_any s (by unfold maxLen; omega) _) HV.out).mono ?_; rintro e w1 ⟨rfl, hb⟩; obtain ⟨hc, hf⟩ := bcell hb; have hz : w.heap.size < w1.heap.size := (by have := hb.size; simp at this; omega)))
      exact bodyPost_ret (v := .tuple #[.agg #[.int .i64 k, .int .i64 p, .string x, .int .i32 n], .bool v]) (by simp [results, Tryd.results27, go_sem, hz, hc]) rfl ⟨rfl, by
        repeat (first | exact (((Below.refl _ _).alloc (Nat.le_refl _) _).trans (hb.mono (by simp))) | refine Below.setCell ?_ (by simp) _ | refine Below.alloc ?_ (by simp; omega) _)⟩
  · have hT : tokenAt s.data.toList = wordTok s.data.toList := by
      rw [head_form s h1, tokenAt_cons, if_pos (by unfold letB; rw [hl])]
    rw [hT]
    clear hT
    obtain ⟨k, p, x, n, v, hv⟩ := tokR_form (wordTok s.data.toList)
    rw [hv]
    have HV := Lib.hid hv
    have HL := Lib.hid hl
    clear hv hl
    go_enter Tryd.func27, Tryd.ntmps27
    go_wp2_with (first | (go_at_call 30; refine (letter_n _ _ HL.out _).mono ?_; rintro e w' ⟨rfl, rfl⟩) | (go_at_call 31; refine (reads_at (readWord_any s (by unfold maxLen; omega) b _ hW1.out) HV.out).mono ?_; rintro e w1 ⟨rfl, hb⟩; obtain ⟨hc, hf⟩ := bcell hb; have hz : w.heap.size < w1.heap.size := (by have := hb.size; simp at this; omega)))
    exact bodyPost_ret (v := .tuple #[.agg #[.int .i64 k, .int .i64 p, .string x, .int .i32 n], .bool v]) (by simp [results, Tryd.results27, go_sem, hz, hc]) rfl ⟨rfl, by
      repeat (first | exact (((Below.refl _ _).alloc (Nat.le_refl _) _).trans (hb.mono (by simp))) | refine Below.setCell ?_ (by simp) _ | refine Below.alloc ?_ (by simp; omega) _)⟩
end Go.Proofs.YtlpmeodphjpmeaaDoor.Lex
