import Derived.Test.YtbkhnilbgocpnaaGreatDoorM25
import Derived.Test.YtbkhnilbgocpnaaGreatDoorM0
import Derived.Test.YtbkhnilbgocpnaaGreatDoorM28
set_option linter.unusedVariables false
set_option linter.unusedSimpArgs false
/- drawloomlaw03's spaced: the tokens of a text with blanks and comments between them. -/
namespace Go.Proofs.YtbkhnilbgocpnaaGreatDoor.SynC
open Go.Proofs.YtbkhnilbgocpnaaGreatDoor.LexC
open Go Go.ChangeShapes Go.WideShapes Go.ChangeAt Go.RowKit Go.Deep

/-- Byte i of the slice at A. -/
def ByteAt (w : World) (A : Option Addr) (i : Nat) (c : UInt8) : Prop := ∃ b off, A = some ⟨b, off, none⟩ ∧ w.cell? ⟨b, off + i, none⟩ = some (.int .u8 (c.toNat : Int))
theorem rb_open {w : World} {X : Value} {l : List UInt8} (h : Rb w X l) : ∃ A c, X = .slice A l.length c ∧ ∀ i c, l[i]? = some c → ByteAt w A i c := by
  rcases h with ⟨hX, hl⟩ | ⟨x, c, hX, hc⟩
  · subst hl
    exact ⟨none, 0, hX, fun i t h => by simp at h⟩
  · refine ⟨some x, c, hX, fun i t ht => ?_⟩
    have h0 := hc i _ (show (byteCells l)[i]? = some (byteV t) by simp [byteCells, ht])
    obtain ⟨b, off, sp⟩ := x
    have hsp : sp = none := by
      have hl : 0 < l.length := by have := (List.getElem?_eq_some_iff.1 ht).1; omega
      have h := hc 0 _ (show (byteCells l)[0]? = some (byteV l[0]) by simp [byteCells, hl])
      simpa [Addr.add] using World.cell?_spot h
    subst hsp
    have hadd : ∀ j, (⟨b, off, none⟩ : Addr).add j = ⟨b, off + j, none⟩ := fun j => by unfold Addr.add; split <;> simp_all
    rw [hadd] at h0
    exact ⟨b, off, rfl, h0⟩
theorem rb_below {w w' : World} {X : Value} {l : List UInt8} (h : Rb w X l) (k : Below w.heap.size w w') : Rb w' X l := by
  rcases h with h | ⟨x, c, hX, hc⟩
  · exact .inl h
  · refine .inr ⟨x, c, hX, fun j u hu => ?_⟩
    have e := hc j u hu
    exact (k.cell (World.block_lt_of_cell? w _ e)).trans e
def gpB (l : List UInt8) (i : Nat) : Nat := if i < l.length then (l.getD i 0).toNat else i % 256
def gpK (l : List UInt8) (i : Nat) : Nat := gpB l i % 6
theorem gpB_lt (l : List UInt8) (i : Nat) : gpB l i < 256 := by
  unfold gpB; split
  · exact (l.getD i 0).toNat_lt
  · omega
def spT (g : List UInt8) (L : List Tok) : List UInt8 := blt (gpK g) 0 (texts L)
theorem tx_sum (s : List UInt8) : ∀ (L : List Tok), sc s 0 = (L, none) → ((texts L).map (·.length)).sum ≤ s.length := by
  intro L h
  have h1 := scan_sum s.length s 0
  rw [show scan s.length s 0 = sc s 0 from rfl, h] at h1
  unfold texts
  rw [List.map_map]
  exact h1
theorem sp_len {s : List UInt8} {L : List Tok} (g : List UInt8) (h : sc s 0 = (L, none)) (h4 : s.length ≤ 4000) : ∀ k, (blt (gpK g) 0 ((texts L).take k)).length ≤ 20000 := by
  intro k
  have h1 := blt_len (gpK g) ((texts L).take k) 0
  have h2 := tx_sum s L h
  have h3 := sc_count s 0
  rw [h] at h3
  have h5 : (((texts L).take k).map (·.length)).sum ≤ ((texts L).map (·.length)).sum := by
    conv => rhs; rw [← List.take_append_drop k (texts L), List.map_append, List.sum_append]
    omega
  have h6 : ((texts L).take k).length ≤ L.length := by rw [List.length_take]; unfold texts; rw [List.length_map]; omega
  simp only at h3
  omega

theorem add_bs2 (a b : List UInt8) (h : a.length + b.length ≤ 100000) : ∀ w : World, (Op.stringOp .add (bs a) (bs b)).run Tryz.prog w = .ok (.string (bs (a ++ b))) w := fun w => by
  rw [run_string_add_sum w _ _ (by rw [bs_size, bs_size]; omega), bs_append]
theorem add_lit (a b : List UInt8) (s : ByteArray) (hs : bs b = s) (h : a.length + b.length ≤ 100000) : ∀ w : World, (Op.stringOp .add (bs a) s).run Tryz.prog w = .ok (.string (bs (a ++ b))) w := hs ▸ add_bs2 a b h
set_option maxRecDepth 100000 in
set_option maxHeartbeats 2000000 in
theorem spaced_bad (s : ByteArray) (G : Value) (at_ er : Int) (her : (er != 0) = true) (w : World) (hT : Calls Tryz.prog 36 #[.string s] w fun e w' => e = .returned (.tuple #[.slice none 0 0, .int .i64 at_, .int .i64 er]) ∧ Below w.heap.size w w') :
    Calls Tryz.prog 31 #[.string s, G] w fun e w' => e = .returned (.tuple #[.string ⟨#[]⟩, .bool false]) ∧ Below w.heap.size w w' := by
  have HT := Lib.hid hT
  clear hT
  go_enter Tryz.func31, Tryz.ntmps31
  go_wp2_with fail
  refine HT.out.mono ?_
  rintro e w1 ⟨rfl, hb1⟩
  have HB1 := Lib.hid hb1
  clear hb1
  go_wp2
  go_ret2
  exact ⟨rfl, HB1.out⟩
set_option maxRecDepth 100000 in
set_option maxHeartbeats 2000000 in
theorem spaced_good (s : ByteArray) (h4 : s.size ≤ 4000) (L : List Tok) (hL : sc s.data.toList 0 = (L, none)) (G : Value) (l : List UInt8) (hl : l.length ≤ 3000) (w : World) (hG : Rb w G l) (hS : Sg w) :
    Calls Tryz.prog 31 #[.string s, G] w fun e w' => e = .returned (.tuple #[.string (bs (spT l L)), .bool (decide ((spT l L).length ≤ 4000))]) ∧ Below w.heap.size w w' := by
  obtain ⟨gA, gc, rfl, hgA⟩ := rb_open hG
  have hT := tokens_good s h4 L hL w hS
  have hsp := sp_len l hL (by rw [size_toList]; exact h4)
  have hcn := sc_count s.data.toList 0
  rw [hL, size_toList] at hcn
  simp only at hcn
  have HT := Lib.hid hT
  have HG := Lib.hid hG
  have HL := Lib.hid hL
  have HSP := Lib.hid hsp
  clear hT hgA hG hL hsp
  go_enter Tryz.func31, Tryz.ntmps31
  go_wp2_with fail
  refine HT.out.mono ?_
  rintro e w1 ⟨⟨A, c, rfl, hr1⟩, hb1⟩
  have HB1 := Lib.hid hb1
  have HR1 := Lib.hid hr1
  clear hb1 hr1
  go_wp2
  go_loopw [9, 10] (fun t i wr => ∃ (k : Nat), k ≤ L.length ∧ i = .int .i64 k ∧ t = .string (bs (blt (gpK l) 0 ((texts L).take k))) ∧ Below w.heap.size w wr ∧ Below w1.heap.size w1 wr) (fun _ i _ => L.length - (intOf i).toNat)
  case atStart => exact ⟨0, Nat.zero_le _, rfl, by simp [blt]; rfl, HB1.out, Below.refl _ _⟩
  case round =>
    obtain ⟨k, hk, rfl, rfl, hbr, hbr1⟩ := hrel
    have HBR := Lib.hid hbr
    have HBR1 := Lib.hid hbr1
    have hzr := hbr.size
    have hz1r := hbr1.size
    by_cases hlt : k < L.length
    · obtain ⟨t, ht⟩ : ∃ t, L[k]? = some t := ⟨_, List.getElem?_eq_getElem hlt⟩
      obtain ⟨A', c', hv, hA⟩ := (HR1.out.below hbr1).open_
      cases hv
      obtain ⟨b, off, rfl, a0, a1, a2, a3⟩ := hA k t ht
      have hin : (0 : Int) ≤ k ∧ (k : Int) < L.length := ⟨by omega, by omega⟩
      have hbl : b < wr.heap.size := World.block_lt_of_cell? wr _ a2
      obtain ⟨n, hn⟩ : ∃ n, gpB l k = n := ⟨_, rfl⟩
      have hn2 := gpB_lt l k
      have hstep : blt (gpK l) 0 ((texts L).take (k + 1)) = blt (gpK l) 0 ((texts L).take k) ++ (gapT (n % 6) ++ t.text) := by
        have hk2 : ((texts L).take k).length = k := by rw [List.length_take, texts_len]; omega
        rw [take_succ_of (texts_at ht), blt_snoc, hk2, Nat.zero_add, ← hn]; rfl
      obtain ⟨acc, hacc⟩ : ∃ acc, blt (gpK l) 0 ((texts L).take k) = acc := ⟨_, rfl⟩
      rw [hacc] at hstep
      rw [hacc]
      have hl1 := HSP.out (k + 1)
      rw [hstep] at hl1
      simp only [List.length_append] at hl1
      rw [hn] at hn2
      have HST := Lib.hid hstep
      clear hstep hacc ht hA hbr hbr1
      obtain ⟨m, hm⟩ : ∃ m, n % 6 = m := ⟨_, rfl⟩
      have hmod : (n : Int).tmod 6 = (m : Int) := by rw [← hm]; rfl
      have hmod2 : (n : Int) % 6 = (m : Int) := by omega
      have hn3 : (n : Int) ≤ 255 := by omega
      have hm6 : m < 6 := by omega
      rw [hm] at hl1 HST
      by_cases hkg : k < l.length
      · have hgb : n = (l.getD k 0).toNat := by rw [← hn]; unfold gpB; rw [if_pos hkg]
        obtain ⟨g1, hg1⟩ : ∃ g1, l[k]? = some g1 := ⟨_, List.getElem?_eq_getElem hkg⟩
        obtain ⟨A'', c'', hv2, hA2⟩ := rb_open (rb_below HG.out HBR.out)
        cases hv2
        obtain ⟨b2, off2, rfl, hc2⟩ := hA2 k g1 hg1
        have hg2 : g1.toNat = n := by rw [hgb, List.getD_eq_getElem?_getD, hg1]; rfl
        rw [hg2] at hc2
        have hin2 : (0 : Int) ≤ k ∧ (k : Int) < l.length := ⟨by omega, by omega⟩
        clear hA2 hg2 hg1 hgb hn
        have h8 : m = 0 ∨ m = 1 ∨ m = 2 ∨ m = 3 ∨ m = 4 ∨ m = 5 := by omega
        clear hm hm6
        rcases h8 with rfl | rfl | rfl | rfl | rfl | rfl
        · have hadd1 := add_lit acc [32] ⟨#[32]⟩ rfl (by simp [gapT] at hl1 ⊢; omega)
          have hadd2 := add_bs2 (acc ++ [32]) t.text (by simp [gapT] at hl1 ⊢; omega)
          go_wp2_with fail
          go_region
          go_wp2
          go_roundw
          case rel => exact ⟨k + 1, by omega, by go_num, by rw [HST.out]; rfl, (HBR.out.alloc hzr _).drew, (HBR1.out.alloc hz1r _).drew⟩
          case measure => simp [intOf]; omega
        · have hadd1 := add_lit acc [10] ⟨#[10]⟩ rfl (by simp [gapT] at hl1 ⊢; omega)
          have hadd2 := add_bs2 (acc ++ [10]) t.text (by simp [gapT] at hl1 ⊢; omega)
          go_wp2_with fail
          go_region
          go_wp2
          go_roundw
          case rel => exact ⟨k + 1, by omega, by go_num, by rw [HST.out]; rfl, (HBR.out.alloc hzr _).drew, (HBR1.out.alloc hz1r _).drew⟩
          case measure => simp [intOf]; omega
        · have hadd1 := add_lit acc [9] ⟨#[9]⟩ rfl (by simp [gapT] at hl1 ⊢; omega)
          have hadd2 := add_bs2 (acc ++ [9]) t.text (by simp [gapT] at hl1 ⊢; omega)
          go_wp2_with fail
          go_region
          go_wp2
          go_roundw
          case rel => exact ⟨k + 1, by omega, by go_num, by rw [HST.out]; rfl, (HBR.out.alloc hzr _).drew, (HBR1.out.alloc hz1r _).drew⟩
          case measure => simp [intOf]; omega
        · have hadd1 := add_lit acc [35, 32, 125, 10] ⟨#[35, 32, 125, 10]⟩ rfl (by simp [gapT] at hl1 ⊢; omega)
          have hadd2 := add_bs2 (acc ++ [35, 32, 125, 10]) t.text (by simp [gapT] at hl1 ⊢; omega)
          go_wp2_with fail
          go_region
          go_wp2
          go_roundw
          case rel => exact ⟨k + 1, by omega, by go_num, by rw [HST.out]; rfl, (HBR.out.alloc hzr _).drew, (HBR1.out.alloc hz1r _).drew⟩
          case measure => simp [intOf]; omega
        · have hadd1 := add_lit acc [32, 35, 10, 32] ⟨#[32, 35, 10, 32]⟩ rfl (by simp [gapT] at hl1 ⊢; omega)
          have hadd2 := add_bs2 (acc ++ [32, 35, 10, 32]) t.text (by simp [gapT] at hl1 ⊢; omega)
          go_wp2_with fail
          go_region
          go_wp2
          go_roundw
          case rel => exact ⟨k + 1, by omega, by go_num, by rw [HST.out]; rfl, (HBR.out.alloc hzr _).drew, (HBR1.out.alloc hz1r _).drew⟩
          case measure => simp [intOf]; omega
        · have hadd1 := add_lit acc [13, 10] ⟨#[13, 10]⟩ rfl (by simp [gapT] at hl1 ⊢; omega)
          have hadd2 := add_bs2 (acc ++ [13, 10]) t.text (by simp [gapT] at hl1 ⊢; omega)
          go_wp2_with fail
          go_region
          go_wp2
          go_roundw
          case rel => exact ⟨k + 1, by omega, by go_num, by rw [HST.out]; rfl, (HBR.out.alloc hzr _).drew, (HBR1.out.alloc hz1r _).drew⟩
          case measure => simp [intOf]; omega
      · have hgb : n = k % 256 := by rw [← hn]; unfold gpB; rw [if_neg hkg]
        have hw8 : IntKind.u8.wrap (k : Int) = (n : Int) := by rw [hgb]; unfold IntKind.wrap; simp [IntKind.signed, IntKind.bits]
        clear hgb hn
        have h8 : m = 0 ∨ m = 1 ∨ m = 2 ∨ m = 3 ∨ m = 4 ∨ m = 5 := by omega
        clear hm hm6
        rcases h8 with rfl | rfl | rfl | rfl | rfl | rfl
        · have hadd1 := add_lit acc [32] ⟨#[32]⟩ rfl (by simp [gapT] at hl1 ⊢; omega)
          have hadd2 := add_bs2 (acc ++ [32]) t.text (by simp [gapT] at hl1 ⊢; omega)
          go_wp2_with fail
          go_region
          go_wp2
          go_roundw
          case rel => exact ⟨k + 1, by omega, by go_num, by rw [HST.out]; rfl, (HBR.out.alloc hzr _).drew, (HBR1.out.alloc hz1r _).drew⟩
          case measure => simp [intOf]; omega
        · have hadd1 := add_lit acc [10] ⟨#[10]⟩ rfl (by simp [gapT] at hl1 ⊢; omega)
          have hadd2 := add_bs2 (acc ++ [10]) t.text (by simp [gapT] at hl1 ⊢; omega)
          go_wp2_with fail
          go_region
          go_wp2
          go_roundw
          case rel => exact ⟨k + 1, by omega, by go_num, by rw [HST.out]; rfl, (HBR.out.alloc hzr _).drew, (HBR1.out.alloc hz1r _).drew⟩
          case measure => simp [intOf]; omega
        · have hadd1 := add_lit acc [9] ⟨#[9]⟩ rfl (by simp [gapT] at hl1 ⊢; omega)
          have hadd2 := add_bs2 (acc ++ [9]) t.text (by simp [gapT] at hl1 ⊢; omega)
          go_wp2_with fail
          go_region
          go_wp2
          go_roundw
          case rel => exact ⟨k + 1, by omega, by go_num, by rw [HST.out]; rfl, (HBR.out.alloc hzr _).drew, (HBR1.out.alloc hz1r _).drew⟩
          case measure => simp [intOf]; omega
        · have hadd1 := add_lit acc [35, 32, 125, 10] ⟨#[35, 32, 125, 10]⟩ rfl (by simp [gapT] at hl1 ⊢; omega)
          have hadd2 := add_bs2 (acc ++ [35, 32, 125, 10]) t.text (by simp [gapT] at hl1 ⊢; omega)
          go_wp2_with fail
          go_region
          go_wp2
          go_roundw
          case rel => exact ⟨k + 1, by omega, by go_num, by rw [HST.out]; rfl, (HBR.out.alloc hzr _).drew, (HBR1.out.alloc hz1r _).drew⟩
          case measure => simp [intOf]; omega
        · have hadd1 := add_lit acc [32, 35, 10, 32] ⟨#[32, 35, 10, 32]⟩ rfl (by simp [gapT] at hl1 ⊢; omega)
          have hadd2 := add_bs2 (acc ++ [32, 35, 10, 32]) t.text (by simp [gapT] at hl1 ⊢; omega)
          go_wp2_with fail
          go_region
          go_wp2
          go_roundw
          case rel => exact ⟨k + 1, by omega, by go_num, by rw [HST.out]; rfl, (HBR.out.alloc hzr _).drew, (HBR1.out.alloc hz1r _).drew⟩
          case measure => simp [intOf]; omega
        · have hadd1 := add_lit acc [13, 10] ⟨#[13, 10]⟩ rfl (by simp [gapT] at hl1 ⊢; omega)
          have hadd2 := add_bs2 (acc ++ [13, 10]) t.text (by simp [gapT] at hl1 ⊢; omega)
          go_wp2_with fail
          go_region
          go_wp2
          go_roundw
          case rel => exact ⟨k + 1, by omega, by go_num, by rw [HST.out]; rfl, (HBR.out.alloc hzr _).drew, (HBR1.out.alloc hz1r _).drew⟩
          case measure => simp [intOf]; omega
    · have hfull : (texts L).take k = texts L := List.take_of_length_le (by rw [texts_len]; omega)
      rw [hfull]
      obtain ⟨acc, hacc⟩ : ∃ acc, blt (gpK l) 0 (texts L) = acc := ⟨_, rfl⟩
      have hsp' : spT l L = acc := hacc
      rw [hacc]
      have HSPT := Lib.hid hsp'
      have hle : decide ((((bs acc).size : Nat) : Int) ≤ 4000) = decide (acc.length ≤ 4000) := by rw [bs_size]; by_cases h : acc.length ≤ 4000 <;> simp [h] <;> omega
      clear hacc hsp' hfull
      go_wp2
      go_ret2
      exact ⟨by rw [HSPT.out, ← hle]; first | rfl | simp, HBR.out⟩
end Go.Proofs.YtbkhnilbgocpnaaGreatDoor.SynC
/- The walk of the law of blanks and comments. -/
namespace Go.Proofs.YtbkhnilbgocpnaaGreatDoor.SynC
open Go.Proofs.YtbkhnilbgocpnaaGreatDoor.LexC
open Go Go.ChangeShapes Go.WideShapes Go.ChangeAt Go.RowKit Go.Deep

theorem outM_keys {α : Type} {zero : α} {L M : List Tok} {n m : Nat} {one : List K → Res α} (h : M.map SynC.key = L.map SynC.key) : (outM zero M m (one (M.map SynC.key))).1 = (outM zero L n (one (L.map SynC.key))).1 ∧ (outM zero M m (one (M.map SynC.key))).2.2 = (outM zero L n (one (L.map SynC.key))).2.2 := by
  rw [h]
  unfold outM
  split <;> exact ⟨rfl, rfl⟩
theorem parseM_keys {α : Type} {zero : α} {one : List K → Res α} {s t : List UInt8} {L M : List Tok} (hs : s.length ≤ 4000) (ht : t.length ≤ 4000) (hL : sc s 0 = (L, none)) (hM : sc t 0 = (M, none)) (h : M.map SynC.key = L.map SynC.key) :
    (parseM zero one t).1 = (parseM zero one s).1 ∧ (parseM zero one t).2.2 = (parseM zero one s).2.2 := by
  have e1 : parseM zero one s = outM zero L s.length (one (L.map SynC.key)) := by unfold parseM; rw [if_neg (by omega), hL]
  have e2 : parseM zero one t = outM zero M t.length (one (M.map SynC.key)) := by unfold parseM; rw [if_neg (by omega), hM]
  rw [e1, e2]
  exact outM_keys h
theorem progM_keys {s t : List UInt8} (h : (parseM (⟨[], []⟩ : Pg) progR t).1 = (parseM (⟨[], []⟩ : Pg) progR s).1 ∧ (parseM (⟨[], []⟩ : Pg) progR t).2.2 = (parseM (⟨[], []⟩ : Pg) progR s).2.2) : (progM t).1 = (progM s).1 ∧ (progM t).2.2 = (progM s).2.2 := by
  unfold progM
  simp only
  rw [h.1, h.2]
  split
  · exact ⟨rfl, rfl⟩
  · exact h
theorem exprM_keys {s t : List UInt8} (h : (parseM (Ex.mk 0 0 0 [] []) (PE (.ex 1)) t).1 = (parseM (Ex.mk 0 0 0 [] []) (PE (.ex 1)) s).1 ∧ (parseM (Ex.mk 0 0 0 [] []) (PE (.ex 1)) t).2.2 = (parseM (Ex.mk 0 0 0 [] []) (PE (.ex 1)) s).2.2) : (exprM t).1 = (exprM s).1 ∧ (exprM t).2.2 = (exprM s).2.2 := by
  unfold exprM
  simp only
  rw [h.1, h.2]
  split
  · exact ⟨rfl, rfl⟩
  · exact h
theorem spT_keys {s : List UInt8} {L : List Tok} (g : List UInt8) (hL : sc s 0 = (L, none)) : ∃ M, sc (spT g L) 0 = (M, none) ∧ M.map SynC.key = L.map SynC.key := by
  obtain ⟨M, h1, h2⟩ := sc_blt (gpK g) L (sc_good hL) 0 0
  exact ⟨M, h1, h2⟩

set_option maxRecDepth 100000 in
set_option maxHeartbeats 2000000 in
theorem blanks_in (s : ByteArray) (hs : s.size ≤ maxLen) (G : Value) (l : List UInt8) (hl : l.length ≤ 3000) (w : World) (hG : Gl w) (hR : Rb w G l) (h6 : s.size ≤ 6000) (b : Bool) (t : List UInt8) (ht : t.length ≤ 20000)
    (hsp : Calls Tryz.prog 31 #[.string s, G] w fun e w' => e = .returned (.tuple #[.string (bs t), .bool b]) ∧ Below w.heap.size w w')
    (hp : b = true → (progM t).1 = (progM s.data.toList).1 ∧ (progM t).2.2 = (progM s.data.toList).2.2) (he : b = true → (exprM t).1 = (exprM s.data.toList).1 ∧ (exprM t).2.2 = (exprM s.data.toList).2.2) :
    Calls Tryz.prog 9 #[.string s, G] w fun e w' => e = .returned (.bool true) ∧ Below w.heap.size w w' := by
  obtain ⟨gA, gc, rfl, -⟩ := rb_open hR
  have HG := Lib.hid hG
  have HSP := Lib.hid hsp
  clear hR hsp hG
  cases b
  · clear hp he
    go_enter Tryz.func9, Tryz.ntmps9
    go_wp2_with fail
    refine HSP.out.mono ?_
    rintro e w1 ⟨rfl, hb1⟩
    have HB1 := Lib.hid hb1
    clear hb1
    go_wp2_with fail
    refine (awake_any _ (HG.out.bel HB1.out)).mono ?_
    rintro e w2 ⟨rfl, hb2⟩
    have HB2 := Lib.hid (seq HB1.out hb2)
    clear hb2
    go_wp2
    go_ret
    exact ⟨rfl, HB2.out⟩
  · have HP := Lib.hid (hp rfl)
    have HE := Lib.hid (he rfl)
    clear hp he
    have ht2 : (bs t).size ≤ maxLen := by rw [bs_size]; unfold maxLen; omega
    go_enter Tryz.func9, Tryz.ntmps9
    go_wp2_with fail
    refine HSP.out.mono ?_
    rintro e w1 ⟨rfl, hb1⟩
    have HB1 := Lib.hid hb1
    clear hb1
    go_wp2_with fail
    refine (parse_15 s hs _ (HG.out.bel HB1.out)).mono ?_
    rintro e w2 ⟨hb2, A, m, c, B, mb, cb, q, i, er, rfl, hpq, hx⟩
    have HPQ := Lib.hid hpq
    have HX := Lib.hid hx
    have HB2 := Lib.hid (seq HB1.out hb2)
    clear hpq hx hb2
    go_wp2_with fail
    refine (parse_15 (bs t) ht2 _ ((HG.out.bel HB2.out).alloc _)).mono ?_
    rintro e w3 ⟨hb3, A2, m2, c2, B2, mb2, cb2, q2, i2, er2, rfl, hpq2, hx2⟩
    rw [bs_toList] at hx2
    have hq2 : q2 = q ∧ er2 = er := by
      have h1 := HP.out
      rw [← hx2, ← HX.out] at h1
      exact h1
    obtain ⟨rfl, rfl⟩ : q = q2 ∧ er = er2 := ⟨hq2.1.symm, hq2.2.symm⟩
    clear hq2
    obtain ⟨_, _, _, l1⟩ := loc_keep (q := w2.heap.size) (gb_below hb3 (some (w2.heap.size + 10))) (heap_alloc_new _ _) (by omega)
    have HW3 := Lib.hid (seq (bel_al w2 (.cells #[.slice A m c, .slice B mb cb] 26)) hb3)
    have HPQ2 := Lib.hid hpq2
    have hz3 := HW3.out.size
    clear hpq2 hx2 hb3
    go_wp2_with fail
    refine (expr_18 s hs _ ((HG.out.bel (seq HB2.out HW3.out)).alloc _)).mono ?_
    rintro e w4 ⟨hb4, v4, a, i4, er4, rfl, ⟨bk, bo, bn, bx, bA, bm, bc, rfl, hr4⟩, hg4, hx4⟩
    obtain ⟨_, _, _, l2⟩ := loc_keep (q := w2.heap.size) (gb_below hb4 (some (w2.heap.size + 10))) (heap_old (by omega) l1) (by omega)
    obtain ⟨_, _, _, l3⟩ := loc_keep (q := w3.heap.size) (gb_below hb4 (some (w3.heap.size + w2.heap.size + 10))) (heap_alloc_new _ _) (by omega)
    have HW4 := Lib.hid (seq (bel_al w3 (.cells #[.slice A2 m2 c2, .slice B2 mb2 cb2] 26)) hb4)
    have HR4 := Lib.hid (re_of hr4)
    have HX4 := Lib.hid hx4
    have hz4 := HW4.out.size
    clear hr4 hx4 hb4
    go_wp2_with fail
    refine (expr_18 (bs t) ht2 _ ((HG.out.bel (seq (seq HB2.out HW3.out) HW4.out)).alloc _)).mono ?_
    rintro e w5 ⟨hb5, v5, a5, i5, er5, rfl, ⟨yk, yo, yn, yx, yA, ym, yc, rfl, hr5⟩, hg5, hx5⟩
    rw [bs_toList] at hx5
    have hq5 : a5 = a ∧ er5 = er4 := by
      have h1 := HE.out
      rw [← hx5, ← HX4.out] at h1
      exact h1
    obtain ⟨rfl, rfl⟩ : a = a5 ∧ er4 = er5 := ⟨hq5.1.symm, hq5.2.symm⟩
    clear hq5
    obtain ⟨_, _, _, l4⟩ := loc_keep (q := w2.heap.size) (gb_below hb5 (some (w2.heap.size + 10))) (heap_old (by omega) l2) (by omega)
    obtain ⟨_, _, _, l5⟩ := loc_keep (q := w3.heap.size) (gb_below hb5 (some (w3.heap.size + w2.heap.size + 10))) (heap_old (by omega) l3) (by omega)
    obtain ⟨_, _, _, l6⟩ := loc_keep (q := w4.heap.size) (gb_below hb5 (some (w4.heap.size + w2.heap.size + 10))) (heap_alloc_new _ _) (by omega)
    have HW5 := Lib.hid (seq (bel_al w4 (.cells #[.int .i64 bk, .int .i64 bo, .int .i32 bn, .string (bs bx), .slice bA bm bc] 34)) hb5)
    have HR5 := Lib.hid (re_of hr5)
    have hz5 := HW5.out.size
    have e1 : ((er : Int) == er) = true := by simp
    have e2 : ((er4 : Int) == er4) = true := by simp
    have HA5 := Lib.hid (bel_al w5 (.cells #[.int .i64 yk, .int .i64 yo, .int .i32 yn, .string (bs yx), .slice yA ym yc] 34))
    clear hr5 hx5 hb5
    go_wp2_with fail
    refine (same_17 q _ A m c B mb cb A2 m2 c2 B2 mb2 cb2 (HPQ.out.below (seq (seq (seq HW3.out HW4.out) HW5.out) HA5.out)) (HPQ2.out.below (seq (seq HW4.out HW5.out) HA5.out))).mono ?_
    rintro e w6 ⟨rfl, hb6⟩
    obtain ⟨_, _, _, l7⟩ := loc_keep (q := w4.heap.size) (gb_below hb6 (some (w4.heap.size + w5.heap.size + 10))) (heap_old (by omega) l6) (by omega)
    obtain ⟨_, _, _, l8⟩ := loc_keep (q := w5.heap.size) (gb_below hb6 (some (w4.heap.size + w5.heap.size + 10))) (heap_alloc_new _ _) (by omega)
    have HW6 := Lib.hid (seq HA5.out hb6)
    clear hb6
    go_wp2_with fail
    refine (sm_all a _ _ _ _ _ _ _ _ _ _ _ _ _ _ _ (re_bel HR4.out (seq HW5.out HW6.out)) (re_bel HR5.out HW6.out) hg4).mono ?_
    rintro e w7 ⟨rfl, hb7⟩
    have HW7 := Lib.hid (seq HW6.out hb7)
    clear hb7
    have HB7 := Lib.hid (seq (seq (seq (seq HB2.out HW3.out) HW4.out) HW5.out) HW7.out)
    go_wp2_with fail
    refine (awake_any _ (HG.out.bel HB7.out)).mono ?_
    rintro e w8 ⟨rfl, hb8⟩
    have HB8 := Lib.hid (seq HB7.out hb8)
    clear hb8
    go_wp2
    go_ret
    exact ⟨rfl, HB8.out⟩
set_option maxRecDepth 100000 in
set_option maxHeartbeats 2000000 in
theorem blanks_walk (s : ByteArray) (hs : s.size ≤ maxLen) (G : Value) (l : List UInt8) (hl : l.length ≤ maxLen) (w : World) (hR : Rb w G l) (hG : Gl w) : Calls Tryz.prog 9 #[.string s, G] w fun e w' => e = .returned (.bool true) ∧ Below w.heap.size w w' := by
  have hs2 := hs
  unfold maxLen at hs hl
  by_cases h6 : 6000 < s.size
  · obtain ⟨gA, gc, rfl, -⟩ := rb_open hR
    clear hR
    go_enter Tryz.func9, Tryz.ntmps9
    go_wp2_with fail
    refine (awake_any _ hG).mono ?_
    rintro e w1 ⟨rfl, hb1⟩
    go_wp2
    go_ret
    exact ⟨rfl, hb1⟩
  have hd : decide ((6000 : Int) < s.size) = false := by simp; omega
  by_cases h3 : 3000 < l.length
  · obtain ⟨gA, gc, rfl, -⟩ := rb_open hR
    clear hR
    have hd3 : decide ((3000 : Int) < l.length) = true := by simp; omega
    go_enter Tryz.func9, Tryz.ntmps9
    go_wp2_with fail
    refine (awake_any _ hG).mono ?_
    rintro e w1 ⟨rfl, hb1⟩
    go_wp2
    go_ret
    exact ⟨rfl, hb1⟩
  have bad : ∀ at_ er : Int, (er != 0) = true → (Calls Tryz.prog 36 #[.string s] w fun e w' => e = .returned (.tuple #[.slice none 0 0, .int .i64 at_, .int .i64 er]) ∧ Below w.heap.size w w') → Calls Tryz.prog 9 #[.string s, G] w fun e w' => e = .returned (.bool true) ∧ Below w.heap.size w w' :=
    fun at_ er her hT => blanks_in s hs2 G l (by omega) w hG hR (by omega) false [] (by simp) (spaced_bad s G at_ er her w hT) (fun h => by cases h) (fun h => by cases h)
  by_cases h4 : 4000 < s.size
  · exact bad 0 5 rfl (tokens_long s hs2 h4 w)
  obtain ⟨L, o, ho⟩ : ∃ L o, sc s.data.toList 0 = (L, o) := ⟨_, _, rfl⟩
  cases o with
  | some i => exact bad i 2 rfl (tokens_bad s (by omega) i (by rw [ho]) w hG.glob.sg)
  | none =>
    have h4' : s.data.toList.length ≤ 4000 := by rw [size_toList]; omega
    obtain ⟨M, hM, hk⟩ := spT_keys l ho
    have hlen : (spT l L).length ≤ 20000 := by
      have := sp_len l ho h4' L.length
      rwa [List.take_of_length_le (by rw [texts_len]; exact Nat.le_refl _)] at this
    refine blanks_in s hs2 G l (by omega) w hG hR (by omega) _ (spT l L) hlen (spaced_good s (by omega) L ho G l (by omega) w hR hG.glob.sg) (fun h => ?_) (fun h => ?_)
    · exact progM_keys (parseM_keys h4' (by simpa using h) ho hM hk)
    · exact exprM_keys (parseM_keys h4' (by simpa using h) ho hM hk)
end Go.Proofs.YtbkhnilbgocpnaaGreatDoor.SynC
