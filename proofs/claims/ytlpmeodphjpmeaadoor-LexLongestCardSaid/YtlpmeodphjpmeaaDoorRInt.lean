import Derived.Test.YtlpmeodphjpmeaaDoorInt
/- lex.readInteger. -/
namespace Go.Proofs.YtlpmeodphjpmeaaDoor.Lex
open Go.ChangeShapes Go.WideShapes Go.ChangeAt Go.RowKit

def tokV (t : Tok) : Value := .agg #[.int .i64 t.kind, .int .i64 t.pos, .string (bs t.text), .int .i32 t.num]
/-- What lex's readers return. -/
def tokR : Option Tok → Value
  | some t => .tuple #[.agg #[.int .i64 t.kind, .int .i64 t.pos, .string (bs t.text), .int .i32 t.num], .bool true]
  | none => .tuple #[.agg #[.int .i64 0, .int .i64 0, .string ⟨#[]⟩, .int .i32 0], .bool false]

theorem count_digit_n (s : ByteArray) (hs : s.size ≤ maxLen) (n : Nat) (h : cnt digB s.data.toList = n) (w : World) :
    Calls Tryd.prog 25 #[.string s, .func (.func 36) #[] #[]] w fun e w' => e = .returned (.int .i64 (n : Nat)) ∧ w = w' := by
  subst h; exact count_digit s hs w
theorem value_n (s : ByteArray) (hs : s.size ≤ maxLen) (hd : AllDig s.data.toList) (r : Int) (b : Bool) (hr : valI (valAcc 0 s.data.toList) = r) (hb : (valAcc 0 s.data.toList).isSome = b) (w : World) :
    Calls Tryd.prog 44 #[.string s] w fun e w' => e = .returned (.tuple #[.int .i32 r, .bool b]) ∧ w = w' := by
  subst hr; subst hb; exact value_any s hs hd w
theorem headInn_at {s : ByteArray} {n : Nat} (h : n < s.size) : headInn (s.data.toList.drop n) = innN (s[n].toNat : Int) := by
  rw [drop_cons s n h]; rfl
theorem headInn_end {s : ByteArray} {n : Nat} (h : s.size ≤ n) : headInn (s.data.toList.drop n) = false := by
  rw [drop_nil s n h]; rfl
theorem inWord_n (n : Int) (b : Bool) (h : innN n = b) (w : World) : Calls Tryd.prog 42 #[.int .u8 n] w fun e w' => e = .returned (.bool b) ∧ w = w' := by subst h; exact lex_inWord n w

/-- The digits at the beginning. -/
theorem digits_front (s : ByteArray) (n : Nat) (h : cnt digB s.data.toList = n) : n ≤ s.size ∧ (s.extract 0 n).data.toList = s.data.toList.takeWhile digB ∧ AllDig (s.extract 0 n).data.toList := by
  have e : (s.extract 0 n).data.toList = s.data.toList.takeWhile digB := by rw [extract_toList]; simp; rw [← h, take_cnt]
  refine ⟨by rw [← h, ← size_toList]; exact cnt_le _ _, e, ?_⟩
  rw [e]; exact takeWhile_all
theorem intTok_head {l : List UInt8} {n : Nat} (h : cnt digB l = n) (hh : headInn (l.drop n) = true) : intTok l = none := by
  unfold intTok
  rw [show (l.takeWhile digB).length = n from h, if_pos hh]
theorem intTok_val {l : List UInt8} {n : Nat} (h : cnt digB l = n) (hh : headInn (l.drop n) = false) : intTok l = (valAcc 0 (l.takeWhile digB)).map fun v => ⟨1, 0, l.takeWhile digB, wrap32 v⟩ := by
  unfold intTok
  rw [show (l.takeWhile digB).length = n from h, if_neg (by rw [hh]; decide)]

set_option maxHeartbeats 2000000 in
theorem readInteger_any (s : ByteArray) (hs : s.size ≤ maxLen) (w : World) :
    Calls Tryd.prog 37 #[.string s] w fun e w' => e = .returned (tokR (intTok s.data.toList)) ∧ Below w.heap.size w w' := by
  obtain ⟨n, hn⟩ : ∃ n, cnt digB s.data.toList = n := ⟨_, rfl⟩
  obtain ⟨hle, hX0, hA0⟩ := digits_front s n hn
  have hx : (s.extract 0 n).size ≤ maxLen := by
    rw [← size_toList, hX0]; have := cnt_le digB s.data.toList; unfold cnt at this; rw [size_toList] at this; omega
  have hX := Lib.hid hX0
  have hA := Lib.hid hA0
  clear hX0 hA0
  unfold maxLen at hs
  by_cases hlt : n < s.size
  · cases hi : innN (s[n].toNat : Int)
    · have hT := Lib.hid (intTok_val hn ((headInn_at hlt).trans hi))
      have HN := Lib.hid hn
      have HI := Lib.hid hi
      clear hn hi
      cases hv : valAcc 0 (s.data.toList.takeWhile digB) with
      | none =>
        have HV := Lib.hid hv
        clear hv
        go_enter Tryd.func37, Tryd.ntmps37
        go_wp2_with (first | (go_at_call 25; refine (count_digit_n s (by unfold maxLen; omega) n HN.out _).mono ?_; rintro e w' ⟨rfl, rfl⟩) | (go_at_call 42; refine (inWord_n _ false HI.out _).mono ?_; rintro e w' ⟨rfl, rfl⟩) | (go_at_call 44; refine (value_n (s.extract 0 n) hx hA.out 0 false (by rw [hX.out, HV.out]; rfl) (by rw [hX.out, HV.out]; rfl) _).mono ?_; rintro e w' ⟨rfl, rfl⟩))
        exact bodyPost_ret (v := tokR none) (by simp [tokR, results, Tryd.results37, go_sem]) rfl ⟨by rw [hT.out, HV.out]; rfl, by
          repeat (first | exact (Below.refl _ _) | refine Below.setCell ?_ (by simp) _ | refine Below.alloc ?_ (by simp) _)⟩
      | some v =>
        have HV := Lib.hid hv
        clear hv
        go_enter Tryd.func37, Tryd.ntmps37
        go_wp2_with (first | (go_at_call 25; refine (count_digit_n s (by unfold maxLen; omega) n HN.out _).mono ?_; rintro e w' ⟨rfl, rfl⟩) | (go_at_call 42; refine (inWord_n _ false HI.out _).mono ?_; rintro e w' ⟨rfl, rfl⟩) | (go_at_call 44; refine (value_n (s.extract 0 n) hx hA.out (wrap32 v) true (by rw [hX.out, HV.out]; rfl) (by rw [hX.out, HV.out]; rfl) _).mono ?_; rintro e w' ⟨rfl, rfl⟩) | (go_at_call 43; refine (newToken_any 1 (s.extract 0 n) hx _).mono ?_; rintro e w1 ⟨rfl, hb⟩; obtain ⟨hc, hf⟩ := bcell hb; have hz : w.heap.size < w1.heap.size := (by have := hb.size; simp at this; omega)))
        exact bodyPost_ret (v := .tuple #[.agg #[.int .i64 1, .int .i64 0, .string (s.extract 0 n), .int .i32 (wrap32 v)], .bool true]) (by simp [results, Tryd.results37, go_sem, hz, hc]) rfl ⟨by rw [hT.out, HV.out]; rw [eq_bs hX.out]; rfl, by
          repeat (first | exact (((Below.refl _ _).alloc (Nat.le_refl _) _).trans (hb.mono (by simp))) | refine Below.setCell ?_ (by simp) _ | refine Below.alloc ?_ (by simp; omega) _)⟩
    · have hT := Lib.hid (intTok_head hn ((headInn_at hlt).trans hi))
      have HN := Lib.hid hn
      have HI := Lib.hid hi
      clear hn hi
      go_enter Tryd.func37, Tryd.ntmps37
      go_wp2_with (first | (go_at_call 25; refine (count_digit_n s (by unfold maxLen; omega) n HN.out _).mono ?_; rintro e w' ⟨rfl, rfl⟩) | (go_at_call 42; refine (inWord_n _ true HI.out _).mono ?_; rintro e w' ⟨rfl, rfl⟩))
      exact bodyPost_ret (v := tokR none) (by simp [tokR, results, Tryd.results37, go_sem]) rfl ⟨by rw [hT.out], by
        repeat (first | exact (Below.refl _ _) | refine Below.setCell ?_ (by simp) _ | refine Below.alloc ?_ (by simp) _)⟩
  · have hT := Lib.hid (intTok_val hn (headInn_end (s := s) (by omega)))
    have HN := Lib.hid hn
    clear hn
    cases hv : valAcc 0 (s.data.toList.takeWhile digB) with
    | none =>
      have HV := Lib.hid hv
      clear hv
      go_enter Tryd.func37, Tryd.ntmps37
      go_wp2_with (first | (go_at_call 25; refine (count_digit_n s (by unfold maxLen; omega) n HN.out _).mono ?_; rintro e w' ⟨rfl, rfl⟩) | (go_at_call 44; refine (value_n (s.extract 0 n) hx hA.out 0 false (by rw [hX.out, HV.out]; rfl) (by rw [hX.out, HV.out]; rfl) _).mono ?_; rintro e w' ⟨rfl, rfl⟩))
      exact bodyPost_ret (v := tokR none) (by simp [tokR, results, Tryd.results37, go_sem]) rfl ⟨by rw [hT.out, HV.out]; rfl, by
        repeat (first | exact (Below.refl _ _) | refine Below.setCell ?_ (by simp) _ | refine Below.alloc ?_ (by simp) _)⟩
    | some v =>
      have HV := Lib.hid hv
      clear hv
      go_enter Tryd.func37, Tryd.ntmps37
      go_wp2_with (first | (go_at_call 25; refine (count_digit_n s (by unfold maxLen; omega) n HN.out _).mono ?_; rintro e w' ⟨rfl, rfl⟩) | (go_at_call 44; refine (value_n (s.extract 0 n) hx hA.out (wrap32 v) true (by rw [hX.out, HV.out]; rfl) (by rw [hX.out, HV.out]; rfl) _).mono ?_; rintro e w' ⟨rfl, rfl⟩) | (go_at_call 43; refine (newToken_any 1 (s.extract 0 n) hx _).mono ?_; rintro e w1 ⟨rfl, hb⟩; obtain ⟨hc, hf⟩ := bcell hb; have hz : w.heap.size < w1.heap.size := (by have := hb.size; simp at this; omega)))
      exact bodyPost_ret (v := .tuple #[.agg #[.int .i64 1, .int .i64 0, .string (s.extract 0 n), .int .i32 (wrap32 v)], .bool true]) (by simp [results, Tryd.results37, go_sem, hz, hc]) rfl ⟨by rw [hT.out, HV.out]; rw [eq_bs hX.out]; rfl, by
        repeat (first | exact (((Below.refl _ _).alloc (Nat.le_refl _) _).trans (hb.mono (by simp))) | refine Below.setCell ?_ (by simp) _ | refine Below.alloc ?_ (by simp; omega) _)⟩
end Go.Proofs.YtlpmeodphjpmeaaDoor.Lex
