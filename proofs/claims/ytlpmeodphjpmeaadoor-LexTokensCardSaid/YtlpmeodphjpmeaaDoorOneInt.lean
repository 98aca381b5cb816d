import Derived.Test.YtlpmeodphjpmeaaDoorOne
import Derived.Deep.RegionHeld3
import Derived.BigRegion
import Derived.Laws.BitsLemmas
/- The reference's one at an integer. -/
namespace Go.Proofs.YtlpmeodphjpmeaaDoor.Lex
open Go.ChangeShapes Go.WideShapes Go.ChangeAt Go.RowKit

theorem refValue_n (s : ByteArray) (hs : s.size ≤ maxLen) (hd : AllDig s.data.toList) (r : Int) (b : Bool) (hr : valJ (valAcc 0 s.data.toList) = r) (hb : (valAcc 0 s.data.toList).isSome = b) (w : World) :
    Calls Tryd.prog 40 #[.string s] w fun e w' => e = .returned (.tuple #[.int .i64 r, .bool b]) ∧ w = w' := by
  subst hr; subst hb; exact refValue_any s hs hd w

theorem wrapk (v : Int) (h0 : 0 ≤ v) (h1 : v ≤ 2147483648) : IntKind.i32.wrap v = wrap32 v := by
  rw [IntKind.wrap_i32]; unfold wrap32; split <;> omega

set_option maxHeartbeats 8000000 in
theorem one_int_mid (s : ByteArray) (hs : s.size ≤ 100000) (i j : Nat) (v : Int) (hjs : j < s.size) (h0 : 0 ≤ v) (h1 : v ≤ 2147483648) (hv : Hid (valAcc 0 (s.extract i j).data.toList = some v)) (b : Bool) (hn : Hid (innN (s[j]'hjs).toNat = b)) (hij : i < j) (his : i < s.size) (hl : Hid (letN s[i].toNat = false)) (hd : Hid (digN s[i].toNat = true))
    (hj : Hid (i + cnt digB (s.data.toList.drop i) = j)) (hA : Hid (AllDig (s.extract i j).data.toList)) (hx : (s.extract i j).size ≤ maxLen) (w : World) :
    Calls Tryd.prog 29 #[.string s, .int .i64 (i : Nat)] w fun e w' => e = .returned (.tuple #[.agg #[.int .i64 1, .int .i64 (i : Nat), .string (s.extract i j), .int .i32 (wrap32 v)], .bool (!b)]) ∧ Below w.heap.size w w' := by
  have hjn : ((j : Int) == (s.size : Int)) = false := by simp; omega
  have hjs2 : j ≤ s.size := by omega
  have hij2 : i ≤ j := by omega
  go_enter Tryd.func29, Tryd.ntmps29
  go_wp2_with (first | (go_at_call 34; refine (rletter_n _ _ hl.out _).mono ?_; rintro e w' ⟨rfl, rfl⟩) | (go_at_call 35; refine (rdigit_n _ _ hd.out _).mono ?_; rintro e w' ⟨rfl, rfl⟩) | (go_at_call 39; refine (end_n true digB rfl s (by unfold maxLen; omega) i (by omega) j hj.out _).mono ?_; rintro e w' ⟨rfl, rfl⟩) | (go_at_call 40; refine (refValue_n (s.extract i j) hx hA.out v true (by rw [hv.out]; rfl) (by rw [hv.out]; rfl) _).mono ?_; rintro e w' ⟨rfl, rfl⟩))
  go_region_held3 (fun _ => True) (exact trivial) ((first | (go_at_call 19; refine (inner_n _ _ hn.out _).mono ?_; rintro e w' ⟨rfl, rfl⟩)))
  all_goals
    go_wp2
    refine bodyPost_ret (v := .tuple #[.agg #[.int .i64 1, .int .i64 (i : Nat), .string (s.extract i j), .int .i32 (IntKind.i32.wrap v)], .bool (!b)]) (by simp [results, Tryd.results29, go_sem]) rfl ⟨by rw [wrapk v h0 h1], ?_⟩
    repeat (first | exact Below.refl _ _ | refine Below.setCell ?_ (by simp) _ | refine Below.alloc ?_ (by simp) _ | refine Below.drew ?_)
set_option maxHeartbeats 8000000 in
theorem one_int_end (s : ByteArray) (hs : s.size ≤ 100000) (i j : Nat) (v : Int) (hje : Hid (j = s.size)) (hjs2 : j ≤ s.size) (h0 : 0 ≤ v) (h1 : v ≤ 2147483648) (hv : Hid (valAcc 0 (s.extract i j).data.toList = some v)) (hij : i < j) (his : i < s.size) (hl : Hid (letN s[i].toNat = false)) (hd : Hid (digN s[i].toNat = true))
    (hj : Hid (i + cnt digB (s.data.toList.drop i) = j)) (hA : Hid (AllDig (s.extract i j).data.toList)) (hx : (s.extract i j).size ≤ maxLen) (w : World) :
    Calls Tryd.prog 29 #[.string s, .int .i64 (i : Nat)] w fun e w' => e = .returned (.tuple #[.agg #[.int .i64 1, .int .i64 (i : Nat), .string (s.extract i j), .int .i32 (wrap32 v)], .bool true]) ∧ Below w.heap.size w w' := by
  have hjn : ((j : Int) == (s.size : Int)) = true := by have := hje.out; simp; omega
  have hij2 : i ≤ j := by omega
  go_enter Tryd.func29, Tryd.ntmps29
  go_wp2_with (first | (go_at_call 34; refine (rletter_n _ _ hl.out _).mono ?_; rintro e w' ⟨rfl, rfl⟩) | (go_at_call 35; refine (rdigit_n _ _ hd.out _).mono ?_; rintro e w' ⟨rfl, rfl⟩) | (go_at_call 39; refine (end_n true digB rfl s (by unfold maxLen; omega) i (by omega) j hj.out _).mono ?_; rintro e w' ⟨rfl, rfl⟩) | (go_at_call 40; refine (refValue_n (s.extract i j) hx hA.out v true (by rw [hv.out]; rfl) (by rw [hv.out]; rfl) _).mono ?_; rintro e w' ⟨rfl, rfl⟩))
  go_region
  all_goals
    go_wp2
    refine bodyPost_ret (v := .tuple #[.agg #[.int .i64 1, .int .i64 (i : Nat), .string (s.extract i j), .int .i32 (RowKit.wrap32 v)], .bool true]) (by simp [results, Tryd.results29, go_sem]) rfl ⟨by rw [wrap_val v h0 h1], ?_⟩
    repeat (first | exact Below.refl _ _ | refine Below.setCell ?_ (by simp) _ | refine Below.alloc ?_ (by simp) _ | refine Below.drew ?_)
set_option maxHeartbeats 8000000 in
theorem one_int_great (s : ByteArray) (hs : s.size ≤ 100000) (i j : Nat) (hjs : j ≤ s.size) (hv : Hid (valAcc 0 (s.extract i j).data.toList = none)) (hij : i < j) (his : i < s.size) (hl : Hid (letN s[i].toNat = false)) (hd : Hid (digN s[i].toNat = true))
    (hj : Hid (i + cnt digB (s.data.toList.drop i) = j)) (hA : Hid (AllDig (s.extract i j).data.toList)) (hx : (s.extract i j).size ≤ maxLen) (w : World) :
    Calls Tryd.prog 29 #[.string s, .int .i64 (i : Nat)] w fun e w' => e = .returned (.tuple #[.agg #[.int .i64 1, .int .i64 (i : Nat), .string (s.extract i j), .int .i32 0], .bool false]) ∧ Below w.heap.size w w' := by
  have hij2 : i ≤ j := by omega
  go_enter Tryd.func29, Tryd.ntmps29
  go_wp2_with (first | (go_at_call 34; refine (rletter_n _ _ hl.out _).mono ?_; rintro e w' ⟨rfl, rfl⟩) | (go_at_call 35; refine (rdigit_n _ _ hd.out _).mono ?_; rintro e w' ⟨rfl, rfl⟩) | (go_at_call 39; refine (end_n true digB rfl s (by unfold maxLen; omega) i (by omega) j hj.out _).mono ?_; rintro e w' ⟨rfl, rfl⟩) | (go_at_call 40; refine (refValue_n (s.extract i j) hx hA.out 0 false (by rw [hv.out]; rfl) (by rw [hv.out]; rfl) _).mono ?_; rintro e w' ⟨rfl, rfl⟩))
  go_region
  all_goals
    go_wp2
    refine bodyPost_ret (v := .tuple #[.agg #[.int .i64 1, .int .i64 (i : Nat), .string (s.extract i j), .int .i32 0], .bool false]) (by simp [results, Tryd.results29, go_sem]) rfl ⟨rfl, ?_⟩
    repeat (first | exact Below.refl _ _ | refine Below.setCell ?_ (by simp) _ | refine Below.alloc ?_ (by simp) _ | refine Below.drew ?_)

theorem intTok_at {l : List UInt8} {n : Nat} (h : cnt digB l = n) : intTok l = if headInn (l.drop n) then none else (valAcc 0 (l.takeWhile digB)).map fun v => ⟨1, 0, l.takeWhile digB, wrap32 v⟩ := by
  unfold intTok
  rw [show (l.takeWhile digB).length = n from h]
theorem valAcc_bounds : ∀ (l : List UInt8) (a v : Int), AllDig l → 0 ≤ a → a ≤ 2147483648 → valAcc a l = some v → 0 ≤ v ∧ v ≤ 2147483648
  | [], a, v, _, h0, h1, h => by
    have : a = v := Option.some.inj h
    omega
  | c :: r, a, v, hd, h0, h1, h => by
    have hc := hd c (by simp)
    unfold digB digN at hc
    simp at hc
    unfold valAcc at h
    split at h
    · cases h
    · exact valAcc_bounds r _ v (fun x hx => hd x (by simp [hx])) (by omega) (by omega) h

theorem one_int (s : ByteArray) (hs : s.size ≤ 100000) (i : Nat) (hi : i < s.size) (hl : letN (s[i].toNat : Int) = false) (hd : digN (s[i].toNat : Int) = true) (w : World) :
    Calls Tryd.prog 29 #[.string s, .int .i64 (i : Nat)] w fun e w' => OnePost (tokenAt (s.data.toList.drop i)) i e ∧ Below w.heap.size w w' := by
  have hT : tokenAt (s.data.toList.drop i) = intTok (s.data.toList.drop i) := by
    rw [drop_form s i hi, tokenAt_cons, if_neg (by unfold letB; rw [hl]; decide), if_pos (by unfold digB; rw [hd])]
  obtain ⟨n, hn⟩ : ∃ n, cnt digB (s.data.toList.drop i) = n := ⟨_, rfl⟩
  obtain ⟨j, hj⟩ : ∃ j, i + n = j := ⟨_, rfl⟩
  have hj' : i + cnt digB (s.data.toList.drop i) = j := by rw [hn, hj]
  obtain ⟨hjs, hX⟩ := mid_list s digB i j (by omega) hj'
  have hn1 : 1 ≤ n := by rw [← hn, drop_form s i hi, cnt_cons_pos (by exact hd)]; omega
  have hA : AllDig (s.extract i j).data.toList := by rw [hX]; exact takeWhile_all
  have hx : (s.extract i j).size ≤ maxLen := by
    rw [← size_toList, hX]; have := cnt_le digB (s.data.toList.drop i); unfold cnt at this; rw [List.length_drop, size_toList] at this; unfold maxLen; omega
  have hI := intTok_at hn
  rw [List.drop_drop, hj] at hI
  rw [hT, hI]
  by_cases hjl : j < s.size
  · rw [headInn_at hjl]
    cases hv : valAcc 0 (s.extract i j).data.toList with
    | none =>
      refine (one_int_great s hs i j hjs (Lib.hid hv) (by omega) hi (Lib.hid hl) (Lib.hid hd) (Lib.hid hj') (Lib.hid hA) hx w).mono fun e w' ⟨he, hb⟩ => ⟨?_, hb⟩
      rw [hX] at hv
      rw [hv]
      split
      · exact ⟨_, _, _, _, he⟩
      · exact ⟨_, _, _, _, he⟩
    | some v =>
      obtain ⟨v0, v1⟩ := valAcc_bounds _ 0 v hA (by omega) (by omega) hv
      refine (one_int_mid s hs i j v hjl v0 v1 (Lib.hid hv) _ (Lib.hid rfl) (by omega) hi (Lib.hid hl) (Lib.hid hd) (Lib.hid hj') (Lib.hid hA) hx w).mono fun e w' ⟨he, hb⟩ => ⟨?_, hb⟩
      rw [hX] at hv
      rw [hv]
      cases hb2 : innN (s[j].toNat : Int)
      · rw [hb2] at he
        rw [if_neg (by decide)]
        show e = _
        rw [he, eq_bs hX]; rfl
      · rw [hb2] at he
        rw [if_pos rfl]
        exact ⟨_, _, _, _, he⟩
  · rw [headInn_end (s := s) (by omega), if_neg (by decide)]
    cases hv : valAcc 0 (s.extract i j).data.toList with
    | none =>
      refine (one_int_great s hs i j hjs (Lib.hid hv) (by omega) hi (Lib.hid hl) (Lib.hid hd) (Lib.hid hj') (Lib.hid hA) hx w).mono fun e w' ⟨he, hb⟩ => ⟨?_, hb⟩
      rw [hX] at hv
      rw [hv]
      exact ⟨_, _, _, _, he⟩
    | some v =>
      obtain ⟨v0, v1⟩ := valAcc_bounds _ 0 v hA (by omega) (by omega) hv
      refine (one_int_end s hs i j v (Lib.hid (by omega)) hjs v0 v1 (Lib.hid hv) (by omega) hi (Lib.hid hl) (Lib.hid hd) (Lib.hid hj') (Lib.hid hA) hx w).mono fun e w' ⟨he, hb⟩ => ⟨?_, hb⟩
      rw [hX] at hv
      rw [hv]
      show e = _
      rw [he, eq_bs hX]
end Go.Proofs.YtlpmeodphjpmeaaDoor.Lex
