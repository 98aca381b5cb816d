import Derived.Test.YtlpmeodphjpmeaaDoorRef
import Derived.StillTailTactics
import Derived.Deep.QuietTactic
import Derived.BigQuiet
/- The reference's starts and one. -/
namespace Go.Proofs.YtlpmeodphjpmeaaDoor.Lex
open Go.ChangeShapes Go.WideShapes Go.ChangeAt Go.RowKit

theorem mid_eq (s : ByteArray) (i : Nat) (g : List UInt8) (m : Nat) (hm : g.length = m) (h : i + m ≤ s.size) (b : Bool) (hb : g.isPrefixOf (s.data.toList.drop i) = b) : ((s.extract i (i + m)).toList == (bs g).toList) = b := by
  subst hm; subst hb
  rw [prefix_eq _ _ (by rw [List.length_drop, size_toList]; omega), ByteArray.toList_eq, ByteArray.toList_eq, extract_toList, bs_toList]
  rw [show i + g.length - i = g.length by omega]
  rw [Bool.eq_iff_iff]; simp

theorem slice_eq (s : ByteArray) (i m : Nat) (h : i + m ≤ s.size) (W : World) : (Instr.slice 9 (.string s) (some (.int .i64 (i : Nat))) (some (.int .i64 ((i : Int) + (m : Int)))) none).run Tryd.prog W = .ok (.string (s.extract i (i + m))) W := by
  have h1 := run_slice_string (P := Tryd.prog) W 9 s .i64 .i64 (i : Nat) ((i : Int) + (m : Int)) Tryd.underlying9 (by omega) (by omega) (by omega)
  rw [h1, show ((i : Nat) : Int).toNat = i by omega, show ((i : Int) + (m : Int)).toNat = i + m by omega]

theorem starts_any (s : ByteArray) (hs : s.size ≤ 100000) (i : Nat) (hi : i ≤ s.size) (g : List UInt8) (hg : g.length ≤ 3) (b : Bool) (hb : g.isPrefixOf (s.data.toList.drop i) = b) (w : World) :
    Calls Tryd.prog 41 #[.string s, .int .i64 (i : Nat), .string (bs g)] w fun e w' => e = .returned (.bool b) ∧ w = w' := by
  obtain ⟨m, hm⟩ : ∃ m, g.length = m := ⟨_, rfl⟩
  have hsz : (bs g).size = m := (bs_size g).trans hm
  rw [hm] at hg
  by_cases hle : i + m ≤ s.size
  · have hq := mid_eq s i g m hm hle b hb
    have hsl := slice_eq s i m hle
    have HM := Lib.hid hm
    have HB := Lib.hid hb
    clear hm hb
    go_enter Tryd.func41, Tryd.ntmps41
    go_wp2
    go_ret
    exact ⟨rfl, rfl⟩
  · have hp := prefix_short g (s.data.toList.drop i) (by rw [List.length_drop, size_toList, hm]; omega)
    have HB : b = false := hb.symm.trans hp
    subst HB
    clear hm hb hp
    go_enter Tryd.func41, Tryd.ntmps41
    go_wp2
    go_ret
    exact ⟨rfl, rfl⟩

/-- What the reference's 'one' leaves. -/
def OnePost (o : Option Tok) (i : Nat) (e : Ending) : Prop :=
  match o with
  | some t => e = .returned (.tuple #[.agg #[.int .i64 t.kind, .int .i64 (i : Nat), .string (bs t.text), .int .i32 t.num], .bool true])
  | none => ∃ k p x n, e = .returned (.tuple #[.agg #[.int .i64 k, .int .i64 p, .string x, .int .i32 n], .bool false])
theorem end_n (digits : Bool) (p : UInt8 → Bool) (hp : p = if digits then digB else innB) (s : ByteArray) (hs : s.size ≤ maxLen) (i : Nat) (hi : i ≤ s.size) (j : Nat) (hj : i + cnt p (s.data.toList.drop i) = j) (w : World) :
    Calls Tryd.prog 39 #[.string s, .int .i64 (i : Nat), .bool digits] w fun e w' => e = .returned (.int .i64 (j : Nat)) ∧ w = w' := by
  subst hj; exact end_any digits p hp s hs i hi _ rfl w
theorem mid_list (s : ByteArray) (p : UInt8 → Bool) (i j : Nat) (hi : i ≤ s.size) (hj : i + cnt p (s.data.toList.drop i) = j) : j ≤ s.size ∧ (s.extract i j).data.toList = (s.data.toList.drop i).takeWhile p := by
  have h := cnt_le p (s.data.toList.drop i)
  rw [List.length_drop, size_toList] at h
  refine ⟨by omega, ?_⟩
  rw [extract_toList, show j - i = cnt p (s.data.toList.drop i) by omega, take_cnt]
theorem drop_form (s : ByteArray) (i : Nat) (h : i < s.size) : s.data.toList.drop i = s[i] :: s.data.toList.drop (i + 1) := drop_cons s i h

set_option maxHeartbeats 4000000 in
theorem one_word (s : ByteArray) (hs : s.size ≤ 100000) (i : Nat) (hi : i < s.size) (hl : letN (s[i].toNat : Int) = true) (w : World) :
    Calls Tryd.prog 29 #[.string s, .int .i64 (i : Nat)] w fun e w' => OnePost (tokenAt (s.data.toList.drop i)) i e ∧ Below w.heap.size w w' := by
  have hT : tokenAt (s.data.toList.drop i) = wordTok (s.data.toList.drop i) := by
    rw [drop_form s i hi, tokenAt_cons, if_pos (by unfold letB; rw [hl])]
  rw [hT]
  clear hT
  obtain ⟨j, hj⟩ : ∃ j, i + cnt innB (s.data.toList.drop i) = j := ⟨_, rfl⟩
  obtain ⟨hjs, hX0⟩ := mid_list s innB i j (by omega) hj
  have hij : i ≤ j := by omega
  have hsz : (s.extract i j).size = j - i := by
    rw [← size_toList, hX0]; show cnt innB _ = _; omega
  have hlen : ((s.data.toList.drop i).takeWhile innB).length = j - i := by show cnt innB _ = _; omega
  have hX := Lib.hid hX0
  have HJ := Lib.hid hj
  have HL := Lib.hid hl
  clear hX0 hj hl
  cases hw : isWord ((s.data.toList.drop i).takeWhile innB)
  · have HW := Lib.hid hw
    have HX2 : Hid (inL wordsL (s.extract i j).data.toList = false) := Lib.hid (by rw [hX.out]; exact hw)
    by_cases h16 : j - i ≤ 16
    · have HT := Lib.hid (wordTok_name hw (by omega))
      have h16' : (j : Int) - (i : Int) ≤ 16 := by omega
      have hd : decide (((j - i : Nat) : Int) ≤ 16) = true := by simp; omega
      clear hw hlen
      go_enter Tryd.func29, Tryd.ntmps29
      go_wp2_with (first | (go_at_call 34; refine (rletter_n _ _ HL.out _).mono ?_; rintro e w' ⟨rfl, rfl⟩) | (go_at_call 39; refine (end_n false innB rfl s (by unfold maxLen; omega) i (by omega) j HJ.out _).mono ?_; rintro e w' ⟨rfl, rfl⟩) | (go_at_call 33; refine (refWords_any _).mono ?_; rintro e w1 ⟨rfl, hr0, hb⟩; have hr := Lib.hid (show Rs w1 (w.heap.size + 1) wordsL from (by simpa using hr0)); clear hr0; obtain ⟨hc, hf⟩ := bcell hb; have hz : w.heap.size < w1.heap.size := (by have := hb.size; simp at this; omega)) | (go_at_call 20; (with_reducible refine (in_n (s.extract i j) wordsL 25 (w.heap.size + 1) rfl (by omega) _ hr.out _ HX2.out).mono ?_); rintro e w' ⟨rfl, rfl⟩))
      exact bodyPost_ret (v := .tuple #[.agg #[.int .i64 0, .int .i64 (i : Nat), .string (s.extract i j), .int .i32 0], .bool true]) (by simp [results, Tryd.results29, go_sem, hz, hc]) rfl ⟨by rw [HT.out]; unfold OnePost; rw [eq_bs hX.out], by
        repeat (first | exact (((Below.refl _ _).alloc (Nat.le_refl _) _).trans (hb.mono (by simp))) | refine Below.setCell ?_ (by simp) _ | refine Below.alloc ?_ (by simp; omega) _)⟩
    · have HT := Lib.hid (wordTok_long hw (by omega))
      have hd : decide (((j - i : Nat) : Int) ≤ 16) = false := by simp; omega
      clear hw hlen
      go_enter Tryd.func29, Tryd.ntmps29
      go_wp2_with (first | (go_at_call 34; refine (rletter_n _ _ HL.out _).mono ?_; rintro e w' ⟨rfl, rfl⟩) | (go_at_call 39; refine (end_n false innB rfl s (by unfold maxLen; omega) i (by omega) j HJ.out _).mono ?_; rintro e w' ⟨rfl, rfl⟩) | (go_at_call 33; refine (refWords_any _).mono ?_; rintro e w1 ⟨rfl, hr0, hb⟩; have hr := Lib.hid (show Rs w1 (w.heap.size + 1) wordsL from (by simpa using hr0)); clear hr0; obtain ⟨hc, hf⟩ := bcell hb; have hz : w.heap.size < w1.heap.size := (by have := hb.size; simp at this; omega)) | (go_at_call 20; (with_reducible refine (in_n (s.extract i j) wordsL 25 (w.heap.size + 1) rfl (by omega) _ hr.out _ HX2.out).mono ?_); rintro e w' ⟨rfl, rfl⟩))
      exact bodyPost_ret (v := .tuple #[.agg #[.int .i64 0, .int .i64 (i : Nat), .string (s.extract i j), .int .i32 0], .bool false]) (by simp [results, Tryd.results29, go_sem, hz, hc]) rfl ⟨by rw [HT.out]; exact ⟨_, _, _, _, rfl⟩, by
        repeat (first | exact (((Below.refl _ _).alloc (Nat.le_refl _) _).trans (hb.mono (by simp))) | refine Below.setCell ?_ (by simp) _ | refine Below.alloc ?_ (by simp; omega) _)⟩
  · have HT := Lib.hid (wordTok_word hw)
    have HX2 : Hid (inL wordsL (s.extract i j).data.toList = true) := Lib.hid (by rw [hX.out]; exact hw)
    clear hw hlen
    go_enter Tryd.func29, Tryd.ntmps29
    go_wp2_with (first | (go_at_call 34; refine (rletter_n _ _ HL.out _).mono ?_; rintro e w' ⟨rfl, rfl⟩) | (go_at_call 39; refine (end_n false innB rfl s (by unfold maxLen; omega) i (by omega) j HJ.out _).mono ?_; rintro e w' ⟨rfl, rfl⟩) | (go_at_call 33; refine (refWords_any _).mono ?_; rintro e w1 ⟨rfl, hr0, hb⟩; have hr := Lib.hid (show Rs w1 (w.heap.size + 1) wordsL from (by simpa using hr0)); clear hr0; obtain ⟨hc, hf⟩ := bcell hb; have hz : w.heap.size < w1.heap.size := (by have := hb.size; simp at this; omega)) | (go_at_call 20; (with_reducible refine (in_n (s.extract i j) wordsL 25 (w.heap.size + 1) rfl (by omega) _ hr.out _ HX2.out).mono ?_); rintro e w' ⟨rfl, rfl⟩))
    exact bodyPost_ret (v := .tuple #[.agg #[.int .i64 2, .int .i64 (i : Nat), .string (s.extract i j), .int .i32 0], .bool true]) (by simp [results, Tryd.results29, go_sem, hz, hc]) rfl ⟨by rw [HT.out]; unfold OnePost; rw [eq_bs hX.out], by
        repeat (first | exact (((Below.refl _ _).alloc (Nat.le_refl _) _).trans (hb.mono (by simp))) | refine Below.setCell ?_ (by simp) _ | refine Below.alloc ?_ (by simp; omega) _)⟩
end Go.Proofs.YtlpmeodphjpmeaaDoor.Lex
