import Derived.Test.YtlpmeodphjpmeaaDoorWCovers
import Derived.Test.YtlpmeodphjpmeaaDoorRJoin
import Derived.Deep.RegionHeld
/- The walk of the law of the longest token. -/
namespace Go.Proofs.YtlpmeodphjpmeaaDoor.Lex
open Go.ChangeShapes Go.WideShapes Go.ChangeAt Go.RowKit

theorem refSigns_keep (w : World) : Calls Tryd.prog 21 #[] w fun e w' => e = .returned (.slice (some ⟨w.heap.size, 0, none⟩) 31 31) ∧ Rs w' w.heap.size signsL ∧ Below w.heap.size w w' ∧ ∀ p v, w.cell? p = some v → w'.cell? p = some v :=
  (refSigns_any w).mono fun e w' ⟨h1, h2, h3⟩ => ⟨h1, h2, h3, fun _ _ h => cell_keep h3 h⟩

theorem seq_same {a b W c : World} (h : Below a.heap.size a b) (k : Below W.heap.size W c) (e1 : W.heap = b.heap) (e2 : W.os = b.os) (e3 : W.tape = b.tape) (e4 : W.output = b.output) : Below a.heap.size a c :=
  ⟨k.os.trans (e2.trans h.os), k.tape.trans (e3.trans h.tape), k.output.trans (e4.trans h.output), Nat.le_trans h.size (by have := k.size; rw [e1] at this; exact this), fun i hi => (k.block i (by rw [e1]; exact Nat.lt_of_lt_of_le hi h.size)).trans ((show W.heap[i]? = b.heap[i]? by rw [e1]).trans (h.block i hi))⟩

/-- The round's region, behind the place: what the law asks of a token and the byte behind it. -/
theorem longest_facts {s : ByteArray} {r : Nat} {t : Tok} (hr : r < s.size) (h : tokenAt (t.text ++ s.data.toList.drop r) = some { t with pos := 0 }) (hx : 0 < (bs t.text).size) :
    (innN ((bs t.text)[0].toNat : Int) && innN (s[r].toNat : Int)) = false ∧ inL signsL (bs (t.text ++ [s[r]])).data.toList = false ∧ s.extract r (r + 1) = bs [s[r]] := by
  rw [drop_cons s r hr] at h
  obtain ⟨h1, h2⟩ := longest h rfl
  have hf := head_form (bs t.text) hx
  rw [bs_toList] at hf
  refine ⟨h1 _ _ hf, by rw [bs_toList]; exact h2, ?_⟩
  · apply eq_bs
    rw [extract_toList, drop_cons s r hr, show r + 1 - r = 1 by omega]; rfl

set_option maxHeartbeats 4000000 in
theorem longest_loop (s : ByteArray) (h4 : s.size ≤ 4000) (L : List Tok) (ho : sc s.data.toList 0 = (L, none)) (w : World) (hS : Sg w) (hd : decide ((6000 : Int) < s.size) = false) (hs : s.size ≤ 9223372036854775807) :
    Calls Tryd.prog 8 #[.string s] w fun e w' => e = .returned (.bool true) ∧ Below w.heap.size w w' := by
  have HS := Lib.hid hS
  clear hS
  obtain ⟨b1, b2, b3⟩ := sc_bounds ho
  obtain ⟨n, hn⟩ : ∃ n, L.length = n := ⟨_, rfl⟩
  rw [hn] at b1
  have HO := Lib.hid ho
  have HN := Lib.hid hn
  clear ho b2 b3 hn
  go_enter Tryd.func8, Tryd.ntmps8
  go_wp2_with fail
  refine (tokens_good s h4 L HO.out _ HS.out).mono ?_
  rintro e w1 ⟨⟨A, c, rfl, hr1⟩, hb1⟩
  have HR1 := Lib.hid hr1
  have HB1 := Lib.hid hb1
  clear hr1 hb1
  rw [HN.out]
  go_wp2
  go_loopw [6] (fun i wr => ∃ k p : Nat, k ≤ n ∧ p ≤ s.size ∧ i = .int .i64 k ∧ sc (s.data.toList.drop p) p = (L.drop k, none) ∧ Below w1.heap.size w1 wr) (fun i _ => n - (intOf i).toNat)
  case atStart => exact ⟨0, 0, Nat.zero_le _, Nat.zero_le _, rfl, by simpa using HO.out, Below.refl _ _⟩
  case round =>
    obtain ⟨k, p, hk, hp, rfl, hsc, hbr⟩ := hrel
    have HBR := Lib.hid hbr
    clear hbr
    by_cases hlt : k < n
    · have hkL : k < L.length := by have := HN.out; omega
      obtain ⟨t, ht⟩ : ∃ t, L[k]? = some t := ⟨_, List.getElem?_eq_getElem hkL⟩
      obtain ⟨A', c', hv, hA⟩ := (HR1.out.below HBR.out).open_
      cases hv
      obtain ⟨b, off, rfl, a0, a1, a2, a3⟩ := hA k t ht
      obtain ⟨q, r, hpos, hpq, hqr, hrs, htl, hX, hG, hsc2, htk⟩ := cover_facts ht hp hsc
      obtain ⟨x, hx⟩ : ∃ x, t.text.length = x := ⟨_, rfl⟩
      have htz : (bs t.text).size = x := (bs_size _).trans hx
      rw [hx] at hqr htl
      rw [hpos] at a1
      have HSC := Lib.hid hsc2
      have hsum : (q : Int) + (x : Int) = (r : Int) := by omega
      have hwrap : IntKind.i64.wrap ((q : Int) + (x : Int)) = (r : Int) := by rw [hsum]; exact IntWalk.i64_in _ (by omega)
      by_cases hre : r < s.size
      · have hx0 : 0 < (bs t.text).size := by omega
        obtain ⟨f1, f2, f3⟩ := longest_facts hre htk hx0
        obtain ⟨r1, hr1⟩ : ∃ r1, r + 1 = r1 := ⟨_, rfl⟩
        have hwrap1 : IntKind.i64.wrap ((r : Int) + 1) = (r1 : Int) := by rw [show (r : Int) + 1 = (r1 : Int) by omega]; exact IntWalk.i64_in _ (by omega)
        rw [hr1] at f3
        have hadd := run_add_bs t.text [s[r]] (t.text ++ [s[r]]) rfl (by simp; omega)
        rw [← f3] at hadd
        have HIN := Lib.hid f2
        have hrr : r ≤ r1 := by omega
        have hr1s : r1 ≤ s.size := by omega
        have A2 := Lib.hid a2
        clear ht hsc hpos hX hG hsc2 hqr hsum htk f2 f3 hA hr1
        cases hi0 : innN ((bs t.text)[0].toNat : Int)
        · have HI0 := Lib.hid hi0
          clear hi0 f1
          go_wp2_with fail
          go_quiet (fail)
          clear hwrap
          go_wp2_with fail
          first | (go_region_held (fun w' => w'.cell? ⟨b, off + k * 4 + 2, none⟩ = some (.string (bs t.text))) (first | exact A2.out | assumption | (apply hkeep; first | exact A2.out | assumption)) ((first | (go_at_call 19; (with_reducible refine (inner_n _ _ HI0.out _).mono ?_); rintro e w' ⟨rfl, rfl⟩) | (go_at_call 21; refine (refSigns_keep _).mono ?_; rintro e w2 ⟨rfl, hr2, hb2, hkeep⟩) | (go_at_call 20; refine (in_n (bs (t.text ++ [s[r]])) signsL 31 _ rfl (by omega) _ hr2 _ HIN.out).mono ?_; rintro e w' ⟨rfl, rfl⟩)))) | fail
          all_goals
            go_wp2
            go_roundw
            case rel => exact ⟨k + 1, r, by omega, hrs, by go_num, HSC.out, seq_same HBR.out hb2 rfl rfl rfl rfl⟩
            case measure => simp [intOf]; omega
        · have hi1 : innN (s[r].toNat : Int) = false := by rw [hi0] at f1; simpa using f1
          have HI0 := Lib.hid hi0
          have HI1 := Lib.hid hi1
          clear hi0 f1 hi1
          go_wp2_with fail
          go_quiet (fail)
          clear hwrap
          go_wp2_with fail
          first | (go_region_held (fun w' => w'.cell? ⟨b, off + k * 4 + 2, none⟩ = some (.string (bs t.text))) (first | exact A2.out | assumption | (apply hkeep; first | exact A2.out | assumption)) ((first | (go_at_call 19; (with_reducible refine (inner_n _ _ HI0.out _).mono ?_); rintro e w' ⟨rfl, rfl⟩) | (go_at_call 19; (with_reducible refine (inner_n _ _ HI1.out _).mono ?_); rintro e w' ⟨rfl, rfl⟩) | (go_at_call 21; refine (refSigns_keep _).mono ?_; rintro e w2 ⟨rfl, hr2, hb2, hkeep⟩) | (go_at_call 20; refine (in_n (bs (t.text ++ [s[r]])) signsL 31 _ rfl (by omega) _ hr2 _ HIN.out).mono ?_; rintro e w' ⟨rfl, rfl⟩)))) | fail
          all_goals
            go_wp2
            go_roundw
            case rel => exact ⟨k + 1, r, by omega, hrs, by go_num, HSC.out, seq_same HBR.out hb2 rfl rfl rfl rfl⟩
            case measure => simp [intOf]; omega
      · clear ht hsc hpos hX hG hsc2 hqr hsum htk hA
        go_wp2_with fail
        go_quiet (fail)
        clear hwrap
        go_wp2
        go_roundw
        case rel => exact ⟨k + 1, r, by omega, hrs, by go_num, HSC.out, seq HBR.out (below_drewN (Below.refl _ _) _)⟩
        case measure => simp [intOf]; omega
    · have HB2 := seq HB1.out HBR.out
      go_wp2_with fail
      refine (awake_any _ (HS.out.below HB2)).mono ?_
      rintro e w3 ⟨rfl, hb3⟩
      go_wp2
      go_ret
      exact ⟨rfl, seq HB2 hb3⟩

theorem longest_walk (s : ByteArray) (hs : s.size ≤ maxLen) (w : World) (hS : Sg w) : Calls Tryd.prog 8 #[.string s] w fun e w' => e = .returned (.bool true) ∧ Below w.heap.size w w' := by
  have hs2 := hs
  unfold maxLen at hs
  have HS := Lib.hid hS
  clear hS
  by_cases h6 : 6000 < s.size
  · go_enter Tryd.func8, Tryd.ntmps8
    go_wp2_with fail
    refine (awake_any _ HS.out).mono ?_
    rintro e w1 ⟨rfl, hb1⟩
    go_wp2
    go_ret
    exact ⟨rfl, hb1⟩
  · have hd : decide ((6000 : Int) < s.size) = false := by simp; omega
    by_cases h4 : 4000 < s.size
    · go_enter Tryd.func8, Tryd.ntmps8
      go_wp2_with fail
      refine (tokens_long s hs2 h4 _).mono ?_
      rintro e w1 ⟨rfl, hb1⟩
      go_wp2_with fail
      refine (awake_any _ (HS.out.below hb1)).mono ?_
      rintro e w2 ⟨rfl, hb2⟩
      go_wp2
      go_ret
      exact ⟨rfl, seq hb1 hb2⟩
    · have h4' : s.size ≤ 4000 := by omega
      obtain ⟨L, o, ho⟩ : ∃ L o, sc s.data.toList 0 = (L, o) := ⟨_, _, rfl⟩
      cases o with
      | none => exact longest_loop s h4' L ho w HS.out hd (by omega)
      | some i =>
        have HO : Hid ((sc s.data.toList 0).2 = some i) := Lib.hid (by rw [ho])
        clear ho h4
        go_enter Tryd.func8, Tryd.ntmps8
        go_wp2_with fail
        refine (tokens_bad s h4' i HO.out _ HS.out).mono ?_
        rintro e w1 ⟨rfl, hb1⟩
        go_wp2_with fail
        refine (awake_any _ (HS.out.below hb1)).mono ?_
        rintro e w2 ⟨rfl, hb2⟩
        go_wp2
        go_ret
        exact ⟨rfl, seq hb1 hb2⟩
end Go.Proofs.YtlpmeodphjpmeaaDoor.Lex
