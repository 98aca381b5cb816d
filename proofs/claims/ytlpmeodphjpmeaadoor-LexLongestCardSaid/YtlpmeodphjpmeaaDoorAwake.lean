import Derived.Test.YtlpmeodphjpmeaaDoorName
import Derived.Test.YtlpmeodphjpmeaaDoorSame
/- The laws' own awake. -/
namespace Go.Proofs.YtlpmeodphjpmeaaDoor.Lex
open Go.ChangeShapes Go.WideShapes Go.ChangeAt Go.RowKit

/-- Tokens of a text that has just these. -/
theorem tokens_good (s : ByteArray) (h4 : s.size ≤ 4000) (L : List Tok) (h : sc s.data.toList 0 = (L, none)) (w : World) (hS : Sg w) :
    Calls Tryd.prog 11 #[.string s] w fun e w' => (∃ A c, e = .returned (.tuple #[.slice A L.length c, .int .i64 0, .int .i64 0]) ∧ Rt w' (.slice A L.length c) L) ∧ Below w.heap.size w w' :=
  (tokens_short s h4 w hS).mono fun e w' ⟨hp, hb⟩ => ⟨(by
    rcases hp with ⟨v, hn, he, hr⟩ | ⟨i, hi, _⟩
    · rw [h] at hr
      obtain ⟨A, c, hv, _⟩ := hr.open_
      subst hv
      exact ⟨A, c, he, hr⟩
    · rw [h] at hi
      cases hi), hb⟩
theorem tokens_bad (s : ByteArray) (h4 : s.size ≤ 4000) (i : Nat) (h : (sc s.data.toList 0).2 = some i) (w : World) (hS : Sg w) :
    Calls Tryd.prog 11 #[.string s] w fun e w' => e = .returned (.tuple #[.slice none 0 0, .int .i64 i, .int .i64 2]) ∧ Below w.heap.size w w' :=
  (tokens_short s h4 w hS).mono fun e w' ⟨hp, hb⟩ => ⟨(by
    rcases hp with ⟨v, hn, he, hr⟩ | ⟨j, hj, he⟩
    · rw [h] at hn
      cases hn
    · rw [h] at hj
      cases hj
      exact he), hb⟩

def ex1 : List Tok := [⟨0, 0, [97], 0⟩, ⟨2, 1, [62, 62, 62], 0⟩, ⟨2, 4, [61], 0⟩, ⟨0, 5, [98], 0⟩]
def ex2 : List Tok := [⟨2, 0, [108, 101, 116], 0⟩, ⟨0, 4, [120, 49], 0⟩, ⟨2, 7, [61], 0⟩, ⟨1, 9, [49, 48], 10⟩, ⟨2, 11, [59], 0⟩]
theorem ex1_sc : sc [97, 62, 62, 62, 61, 98] 0 = (ex1, none) := by decide +kernel
theorem ex2_sc : sc [108, 101, 116, 32, 120, 49, 32, 61, 32, 49, 48, 59, 32, 35, 32, 116, 101, 110] 0 = (ex2, none) := by decide +kernel
theorem ex3_sc : (sc [49, 50, 97] 0).2 = some 0 := by decide +kernel
theorem ex4_sc : (sc [36] 0).2 = some 0 := by decide +kernel

theorem tokens_ex1 (w : World) (hS : Sg w) :
    Calls Tryd.prog 11 #[.string ⟨#[97, 62, 62, 62, 61, 98]⟩] w fun e w' => (∃ b o c, e = .returned (.tuple #[.slice (some ⟨b, o, none⟩) 4 c, .int .i64 0, .int .i64 0]) ∧ w'.cell? ⟨b, o + 6, none⟩ = some (.string ⟨#[62, 62, 62]⟩)) ∧ Below w.heap.size w w' :=
  (tokens_good ⟨#[97, 62, 62, 62, 61, 98]⟩ (by decide) ex1 ex1_sc w hS).mono fun e w' ⟨⟨A, c, he, hr⟩, hb⟩ => ⟨(by
    obtain ⟨A', c', hv, ht⟩ := hr.open_
    cases hv
    obtain ⟨b, o, rfl, _, _, h2, _⟩ := ht 1 _ rfl
    exact ⟨b, o, c, he, h2⟩), hb⟩
theorem tokens_ex2 (w : World) (hS : Sg w) :
    Calls Tryd.prog 11 #[.string ⟨#[108, 101, 116, 32, 120, 49, 32, 61, 32, 49, 48, 59, 32, 35, 32, 116, 101, 110]⟩] w fun e w' => (∃ b o c, e = .returned (.tuple #[.slice (some ⟨b, o, none⟩) 5 c, .int .i64 0, .int .i64 0]) ∧ w'.cell? ⟨b, o + 15, none⟩ = some (.int .i32 10)) ∧ Below w.heap.size w w' :=
  (tokens_good ⟨#[108, 101, 116, 32, 120, 49, 32, 61, 32, 49, 48, 59, 32, 35, 32, 116, 101, 110]⟩ (by decide) ex2 ex2_sc w hS).mono fun e w' ⟨⟨A, c, he, hr⟩, hb⟩ => ⟨(by
    obtain ⟨A', c', hv, ht⟩ := hr.open_
    cases hv
    obtain ⟨b, o, rfl, _, _, _, h3⟩ := ht 3 _ rfl
    exact ⟨b, o, c, he, h3⟩), hb⟩
theorem tokens_ex3 (w : World) (hS : Sg w) : Calls Tryd.prog 11 #[.string ⟨#[49, 50, 97]⟩] w fun e w' => e = .returned (.tuple #[.slice none 0 0, .int .i64 0, .int .i64 2]) ∧ Below w.heap.size w w' :=
  tokens_bad ⟨#[49, 50, 97]⟩ (by decide) 0 ex3_sc w hS
theorem tokens_ex4 (w : World) (hS : Sg w) : Calls Tryd.prog 11 #[.string ⟨#[36]⟩] w fun e w' => e = .returned (.tuple #[.slice none 0 0, .int .i64 0, .int .i64 2]) ∧ Below w.heap.size w w' :=
  tokens_bad ⟨#[36]⟩ (by decide) 0 ex4_sc w hS
theorem name_ex1 (w : World) : Calls Tryd.prog 14 #[.string ⟨#[120, 49]⟩] w fun e w' => e = .returned (.bool true) ∧ Below w.heap.size w w' := by
  have := name_any ⟨#[120, 49]⟩ (by decide) w
  rwa [show isName (⟨#[120, 49]⟩ : ByteArray).data.toList = true by decide] at this
theorem name_ex2 (w : World) : Calls Tryd.prog 14 #[.string ⟨#[108, 101, 116]⟩] w fun e w' => e = .returned (.bool false) ∧ Below w.heap.size w w' := by
  have := name_any ⟨#[108, 101, 116]⟩ (by decide) w
  rwa [show isName (⟨#[108, 101, 116]⟩ : ByteArray).data.toList = false by decide] at this

theorem seq {a b c : World} (h : Below a.heap.size a b) (k : Below b.heap.size b c) : Below a.heap.size a c := h.trans (k.mono h.size)
theorem cell_keep {a b : World} (h : Below a.heap.size a b) {p : Addr} {v : Value} (hc : a.cell? p = some v) : b.cell? p = some v :=
  (h.cell (World.block_lt_of_cell? a _ hc)).trans hc

set_option maxRecDepth 100000 in
set_option maxHeartbeats 2000000 in
theorem awake_any (w : World) (hS : Sg w) : Calls Tryd.prog 10 #[] w fun e w' => e = .returned (.bool true) ∧ Below w.heap.size w w' := by
  have HS := Lib.hid hS
  clear hS
  go_enter Tryd.func10, Tryd.ntmps10
  go_wp2_with fail
  refine (tokens_ex1 _ HS.out).mono ?_
  rintro e w1 ⟨⟨b1, o1, c1, rfl, hc1⟩, hb1⟩
  have HC1 := Lib.hid hc1
  clear hc1
  go_wp2_with fail
  refine (tokens_ex2 _ (HS.out.below hb1)).mono ?_
  rintro e w2 ⟨⟨b2, o2, c2, rfl, hc2⟩, hb2⟩
  have HC2 := Lib.hid hc2
  have HB2 := seq hb1 hb2
  clear hc2
  go_wp2_with fail
  refine (tokens_ex3 _ (HS.out.below HB2)).mono ?_
  rintro e w3 ⟨rfl, hb3⟩
  have HB3 := seq HB2 hb3
  go_wp2_with fail
  refine (tokens_ex4 _ (HS.out.below HB3)).mono ?_
  rintro e w4 ⟨rfl, hb4⟩
  have HB4 := seq HB3 hb4
  have k1 := cell_keep (seq (seq hb2 hb3) hb4) HC1.out
  have k2 := cell_keep (seq hb3 hb4) HC2.out
  go_wp2_with fail
  refine (name_ex1 _).mono ?_
  rintro e w5 ⟨rfl, hb5⟩
  go_wp2_with fail
  refine (name_ex2 _).mono ?_
  rintro e w6 ⟨rfl, hb6⟩
  go_wp2
  go_ret
  exact ⟨rfl, seq (seq HB4 hb5) hb6⟩
end Go.Proofs.YtlpmeodphjpmeaaDoor.Lex
