import Derived.Test.YtbkhnilbgocpnaaGreatDoorZ0
import Derived.Test.YtbkhnilbgocpnaaGreatDoorZ36
import Derived.Deep.RegionHeld3
import Derived.Handy
import Derived.Deep.RegionLaw
set_option linter.unusedVariables false
set_option linter.unusedSimpArgs false
set_option linter.unusedVariables false
set_option linter.unusedSimpArgs false
namespace Go.Proofs.YtbkhnilbgocpnaaGreatDoor.SynC
open Go.Proofs.YtbkhnilbgocpnaaGreatDoor.LexC
open Go Go.ChangeShapes Go.WideShapes Go.ChangeAt Go.RowKit Go.Deep
def RxC (E : Rv) (i : Nat) (b : Bool) : Prop := ∀ (n : Nat) (w : World), 1 ≤ n → n ≤ 11 → Rp E w i b → Calls Tryz.prog 49 #[.pointer (some ⟨E.b, 0, none⟩), .int .i64 n] w (Ro E w (at0 E i b (PE (.ex n))) (RxV w.heap.size))
def RuC (E : Rv) (i : Nat) (b : Bool) : Prop := ∀ (w : World), Rp E w i b → Calls Tryz.prog 93 #[.pointer (some ⟨E.b, 0, none⟩)] w (Ro E w (at0 E i b (PE .un)) (RxV w.heap.size))
set_option maxRecDepth 100000 in
set_option maxHeartbeats 2000000 in
theorem rexpr_bad {E : Rv} (hE : E.Ok) (i : Nat) : RxC E i true := by
  intro n w h1 h2 hp
  obtain ⟨c0, c1, c2, _, _⟩ := (hp.keepB hE (bel_al w (.cells #[.int .i64 0, .int .i64 0, .int .i32 0, .string ⟨#[]⟩, .slice none 0 0] 34))).c
  have HP := Lib.hid hp
  have hsz := hp.sz
  have hlt := hE.lt
  clear hp
  go_enter Tryz.func49, Tryz.ntmps49
  go_wp2
  refine ret_ex rfl rfl rfl tRES ?_
  refine ⟨tGB, true, i, _, .mk 0 0 0 [] [], rfl, HP.out.keepB hE tBEL, rfl, rx_mk (name := []) sl_nil⟩
set_option maxRecDepth 100000 in
set_option maxHeartbeats 2000000 in
theorem rexpr_11 {E : Rv} (hE : E.Ok) (i : Nat) (hU : RuC E i false) (w : World) (hp : Rp E w i false) : Calls Tryz.prog 49 #[.pointer (some ⟨E.b, 0, none⟩), .int .i64 11] w (Ro E w (at0 E i false (PE (.ex 11))) (RxV w.heap.size)) := by
  obtain ⟨c0, c1, c2, _, _⟩ := (hp.keepB hE (bel_al w (.cells #[.int .i64 0, .int .i64 0, .int .i32 0, .string ⟨#[]⟩, .slice none 0 0] 34))).c
  have HP := Lib.hid hp
  have HU := Lib.hid hU
  have hsz := hp.sz
  have hlt := hE.lt
  clear hp hU
  go_enter Tryz.func49, Tryz.ntmps49
  go_wp2_with fail
  refine (HU.out _ (HP.out.keepB hE tBEL)).mono ?_
  rintro e w1 ⟨hg1, b1, j1, v1, a1, hR, hp1, rfl, ⟨ak, ao, an, ax, aA, am, ac, rfl, ha⟩⟩
  have HR := Lib.hid hR
  clear hR
  have hz := hg1.size
  (try simp only [sz_al, sz_set, sz_dr] at hz)
  obtain ⟨_, _, _, l1⟩ := loc_keep (q := w.heap.size) hg1 tLOC tSZ
  go_wp2
  refine ret_ex rfl rfl rfl tRES ?_
  refine ⟨tGB, b1, j1, _, a1, ?_, hp1.keep hE tBEL, rfl, ⟨ak, ao, an, ax, aA, am, ac, rfl, rx_keep ha tKP tSZ tSZ⟩⟩
  have := HR.out
  rw [at0_false] at this ⊢
  rw [ex11]; exact this
def muR (E : Rv) (w : World) : Nat := match w.cell? ⟨E.b, 2, none⟩ with
  | some (.bool true) => 0
  | _ => match w.cell? ⟨E.b, 1, none⟩ with
    | some v => E.L.length + 1 - (intOf v).toNat
    | none => 0
theorem Rp.mu {E : Rv} {w : World} {i : Nat} {b : Bool} (h : Rp E w i b) : muR E w = if b then 0 else E.L.length + 1 - i := by
  obtain ⟨_, c1, c2, _, _⟩ := h.c
  unfold muR
  rw [c2, c1]
  cases b <;> simp [intOf]
def ReRel (E : Rv) (w : World) (n i q : Nat) (wr : World) : Prop := ∃ (j : Nat) (b : Bool) (a : Ex) (ak ao an : Int) (ax : List UInt8) (aA : Option Addr) (am ac : Nat), (b = false → i < j) ∧ w.grownBy wr (some E.b) ∧ Rp E wr j b ∧ PE (.ex n) (E.ks.drop i) = (mkR b a (E.ks.drop j)).bind (fun a r => PE (.tail n a) r) ∧
  wr.heap[w.heap.size]? = some (.cells #[.int .i64 0, .int .i64 0, .int .i32 0, .string ⟨#[]⟩, .slice none 0 0] 34 (0, 0)) ∧ wr.heap[q]? = some (.cells #[.int .i64 ak, .int .i64 ao, .int .i32 an, .string (bs ax), .slice aA am ac] 34 (0, 0)) ∧
  RE wr (fun g => (w.heap.size + 1 ≤ g ∧ g ≠ q) ∧ g < wr.heap.size) [.int .i64 ak, .int .i64 ao, .int .i32 an, .string (bs ax), .slice aA am ac] a
theorem tail_no {n : Nat} {a : Ex} {E : Rv} {j : Nat} {t : Tok} (hj : j ≤ E.L.length) (ht : nxt E j false = t) (h : (t.kind == 2) = false ∨ inL ((lev n).map (·.1)) t.text = false) : PE (.tail n a) (E.ks.drop j) = .ok a (E.ks.drop j) := by
  refine tail_stop fun t' r e => ?_
  rcases Rv.next_ hj with ⟨_, u, hu, _, hd⟩ | ⟨_, _, hd⟩
  · have e2 : nxt E j false = u := by simp [nxt, hu]
    rw [ht] at e2
    subst e2
    rw [hd] at e
    cases e
    unfold opOf key
    rcases h with h | h
    · simp only [h]; rfl
    · split
      · refine lookup_none _ fun x hx e => ?_
        unfold inL at h
        have : ((lev n).map (·.1)).contains t.text = true := List.contains_iff_mem.2 (List.mem_map.2 ⟨x, hx, e⟩)
        rw [h] at this; cases this
      · rfl
  · rw [hd] at e; cases e
theorem tail_yes {n : Nat} {a : Ex} {E : Rv} {j : Nat} {t : Tok} (hj : j ≤ E.L.length) (ht : nxt E j false = t) (h : (t.kind == 2) = true) (h2 : inL ((lev n).map (·.1)) t.text = true) :
    ∃ op, (lev n).lookup t.text = some op ∧ j < E.L.length ∧ PE (.tail n a) (E.ks.drop j) = (PE (.ex (n + 1)) (E.ks.drop (j + 1))).bind fun b q => PE (.tail n (bin op t.text a b)) q := by
  rcases Rv.next_ hj with ⟨hl, u, hu, _, hd⟩ | ⟨_, hn, _⟩
  · have e2 : nxt E j false = u := by simp [nxt, hu]
    rw [ht] at e2
    subst e2
    unfold inL at h2
    obtain ⟨x, hx, e⟩ := List.mem_map.1 (List.contains_iff_mem.1 h2)
    have : ∀ (M : List (List UInt8 × Int)), x ∈ M → ∃ op, M.lookup t.text = some op := by
      intro M
      induction M with
      | nil => intro h; cases h
      | cons y M ih =>
        intro h
        by_cases hy : t.text = y.1
        · exact ⟨y.2, by rw [List.lookup_cons, hy]; simp⟩
        · rcases List.mem_cons.1 h with rfl | h
          · exact absurd e.symm hy
          · obtain ⟨op, ho⟩ := ih h
            exact ⟨op, by rw [List.lookup_cons, beq_false_of_ne hy]; exact ho⟩
    obtain ⟨op, ho⟩ := this _ hx
    refine ⟨op, ho, hl, ?_⟩
    rw [hd, PE_eq]
    have hop : opOf n (key t) = some op := by unfold opOf key; simp only [h, if_true]; exact ho
    simp only [step, hop]
    rfl
  · have : t = ⟨0, 0, [], 0⟩ := by rw [← ht]; simp [nxt, hn]
    subst this; cases h
theorem at0_ex {E : Rv} {i j : Nat} {b' : Bool} {a : Ex} {n : Nat} (hj : j ≤ E.L.length) {b : Bool} (h : at0 E i b (PE (.ex n)) = mkR b' a (E.ks.drop j)) (hb : b' = false) : i < j :=
  mk_adv hj (fun l a r h => by have := PE_len _ _ _ _ h; simp only [dl] at this; omega) h hb
end Go.Proofs.YtbkhnilbgocpnaaGreatDoor.SynC
set_option linter.unusedVariables false
set_option linter.unusedSimpArgs false
namespace Go.Proofs.YtbkhnilbgocpnaaGreatDoor.SynC
open Go.Proofs.YtbkhnilbgocpnaaGreatDoor.LexC
open Go Go.ChangeShapes Go.WideShapes Go.ChangeAt Go.RowKit Go.Deep
set_option maxRecDepth 100000 in
set_option maxHeartbeats 2000000 in
theorem rexpr_lv {E : Rv} (hE : E.Ok) (n : Nat) (hn1 : 1 ≤ n) (hn2 : n ≤ 10) (w : World) (i : Nat) (hN : ∀ j, i ≤ j → ∀ w, Rp E w j false → Calls Tryz.prog 49 #[.pointer (some ⟨E.b, 0, none⟩), .int .i64 ((n : Int) + 1)] w (Ro E w (at0 E j false (PE (.ex (n + 1)))) (RxV w.heap.size))) (hp : Rp E w i false) :
    Calls Tryz.prog 49 #[.pointer (some ⟨E.b, 0, none⟩), .int .i64 n] w (Ro E w (at0 E i false (PE (.ex n))) (RxV w.heap.size)) := by
  obtain ⟨c0, c1, c2, _, _⟩ := (hp.keepB hE (bel_al w (.cells #[.int .i64 0, .int .i64 0, .int .i32 0, .string ⟨#[]⟩, .slice none 0 0] 34))).c
  have HP := Lib.hid hp
  have HN := Lib.hid hN
  have hsz := hp.sz
  have hlt := hE.lt
  have hlen := hE.len
  have hd10 : decide ((10 : Int) < n) = false := by simp; omega
  clear hp hN
  go_enter Tryz.func49, Tryz.ntmps49
  go_wp2_with fail
  refine (HN.out i (Nat.le_refl _) _ (HP.out.keepB hE tBEL)).mono ?_
  rintro e w1 ⟨hg1, b1, j1, v1, a1, hR, hp1, rfl, ⟨ak, ao, an, ax, aA, am, ac, rfl, ha⟩⟩
  have HR1 := Lib.hid hR
  clear hR c0 c1 c2 hd10
  have hz1 := hg1.size
  simp only [sz_al] at hz1
  obtain ⟨_, _, _, l1⟩ := loc_keep (q := w.heap.size) hg1 tLOC tSZ
  go_wp2_with fail
  go_loopw [6] (fun _ wr => ReRel E w n i w1.heap.size wr) (fun _ wr => muR E wr)
  case atStart =>
    refine ⟨j1, b1, a1, ak, ao, an, ax, aA, am, ac, fun hb => at0_ex hp1.hi HR1.out hb, tGB, hp1.keep hE tBEL, ?_, tLOC, tLOC, RE.keeps (P := fun g => (w.alloc _).heap.size ≤ g ∧ g < w1.heap.size) (fun p u hp hu => past hu _) (fun g hg => ⟨⟨by have := hg.1; simpa using this, by have := hg.2; omega⟩, by have := hg.2; simp; omega⟩) _ _ ha⟩
    rw [PE_eq, step, if_neg (by omega)]
    exact mk_first HR1.out _
  case round =>
    obtain ⟨j, b, a, ak, ao, an, ax, aA, am, ac, hij, hgr, hp, hTL, hq0, hq5, hre⟩ := hrel
    have HT := Lib.hid hTL
    have HRE := Lib.hid hre
    have hz0 := hgr.size
    have hs5 : w1.heap.size < wr.heap.size := (Array.getElem?_eq_some_iff.1 hq5).1
    have hs0 : w.heap.size < wr.heap.size := (Array.getElem?_eq_some_iff.1 hq0).1
    have HP2 := Lib.hid hp
    obtain ⟨c0, c1, c2, f1, f2⟩ := hp.c
    clear hTL hre hp
    cases b
    rotate_left 1
    · have r5 : ∀ k, wr.cell? ⟨w1.heap.size, k, none⟩ = #[.int .i64 ak, .int .i64 ao, .int .i32 an, .string (bs ax), .slice aA am ac][k]? := fun k => cell_of_row _ _ k _ _ _ hq5
      have r0 : ∀ k, wr.cell? ⟨w.heap.size, k, none⟩ = #[.int .i64 0, .int .i64 0, .int .i32 0, .string ⟨#[]⟩, .slice none 0 0][k]? := fun k => cell_of_row _ _ k _ _ _ hq0
      have f0 : ∀ k, wr.frozen? ⟨w.heap.size, k, none⟩ = false := fun k => by simp [World.frozen?, hq0]
      go_wp2
      refine ret_ex rfl rfl rfl tRES ?_
      refine ⟨tGB, true, j, _, a, by rw [at0_false, HT.out]; rfl, HP2.out.keep hE tBEL, rfl, ⟨ak, ao, an, ax, aA, am, ac, rfl, rq_keep HRE.out tKQ tSZ tSZ⟩⟩
    have hij := hij rfl
    obtain ⟨t, ht⟩ : ∃ t, nxt E j false = t := ⟨_, rfl⟩
    have HTK := Lib.hid ht
    clear ht
    go_wp2_with fail
    refine (rlevel n hn1 hn2 _).mono ?_
    rintro e w2 ⟨g1, g2, rfl, hb2, hg1a, hg1b, hg2a, hg2b, hcs⟩
    have hp2 := HP2.out.keepB hE hb2
    have hz2 := hb2.size
    have hg2 := gb_below hb2 (some E.b)
    obtain ⟨_, _, _, l02⟩ := loc_keep (q := w.heap.size) hg2 hq0 tSZ
    obtain ⟨_, _, _, l52⟩ := loc_keep (q := w1.heap.size) hg2 hq5 tSZ
    have HCS := Lib.hid hcs
    clear hcs c0 c1 c2 f1 f2
    go_wp2_with fail
    refine (rnext hE _ j false hp2 t HTK.out).mono ?_
    rintro e w3 ⟨rfl, hb3⟩
    have hp3 := hp2.keepB hE hb3
    have hz3 := hb3.size
    have hg3 := gb_below hb3 (some E.b)
    obtain ⟨_, _, _, l03⟩ := loc_keep (q := w.heap.size) hg3 l02 tSZ
    obtain ⟨_, _, _, l53⟩ := loc_keep (q := w1.heap.size) hg3 l52 tSZ
    have hRs : Rs (w3.alloc (.cells #[.int .i64 t.kind, .int .i64 t.pos, .string (bs t.text), .int .i32 t.num] 67)) g1 ((lev n).map (·.1)) := by
      intro k hk
      simp only [List.length_map] at hk
      have := (HCS.out k _ (List.getElem?_eq_getElem hk)).1
      rw [show ((lev n).map (·.1)).getD k [] = (lev n)[k].1 by simp [List.getD, hk]]
      exact past ((hb3.cell (p := ⟨g1, k, none⟩) hg1b).trans this) _
    obtain ⟨q, hq⟩ : ∃ q, inL ((lev n).map (·.1)) t.text = q := ⟨_, rfl⟩
    have hIn := in_any (bs t.text) ((lev n).map (·.1)) (lev n).length g1 (by simp) (by
      have h : n = 1 ∨ n = 2 ∨ n = 3 ∨ n = 4 ∨ n = 5 ∨ n = 6 ∨ n = 7 ∨ n = 8 ∨ n = 9 ∨ n = 10 := by omega
      rcases h with rfl | rfl | rfl | rfl | rfl | rfl | rfl | rfl | rfl | rfl <;> decide) _ hRs
    rw [bs_toList, hq] at hIn
    have HIN := Lib.hid hIn
    have HQ := Lib.hid hq
    have HP3 := Lib.hid hp3
    clear hIn hRs hq hp3 hp2
    have hgA : w.grownBy w3 (some E.b) := gb_trans (gb_trans hgr hg2) hg3
    have KA : Kq (w.heap.size + 1) w1.heap.size wr w3 := fun p u hp hu => (hb3.cell (by have := World.block_lt_of_cell? wr _ hu; omega)).trans ((hb2.cell (World.block_lt_of_cell? wr _ hu)).trans hu)
    have hre3 := rq_same HRE.out KA (by omega)
    have HRE3 := Lib.hid hre3
    have HGA := Lib.hid hgA
    clear hgA hre3 KA hgr hg2 hg3 hb2 hb3 l02 l52 hq0 hq5
    cases hk : (t.kind == 2)
    · have hk' : (t.kind != 2) = true := by simp [bne, hk]
      have HNO := Lib.hid (tail_no (n := n) (a := a) HP3.out.hi HTK.out (.inl hk))
      clear hk
      go_wp2
      refine ret_ex rfl rfl rfl tRES ?_
      refine ⟨?_, false, j, _, a, by rw [at0_false, HT.out, mk_false, ok_bind, HNO.out], HP3.out.keep hE tBEL, rfl, ⟨ak, ao, an, ax, aA, am, ac, rfl, rq_keep HRE3.out tKQ tSZ tSZ⟩⟩
      have hg := HGA.out
      exact tGB
    have hk' : (t.kind != 2) = false := by simp [bne, hk]
    cases q
    · have HNO := Lib.hid (tail_no (n := n) (a := a) HP3.out.hi HTK.out (.inr HQ.out))
      clear hk
      go_wp2_with fail
      refine HIN.out.mono ?_
      rintro e w4 ⟨rfl, rfl⟩
      go_wp2
      refine ret_ex rfl rfl rfl tRES ?_
      refine ⟨?_, false, j, _, a, by rw [at0_false, HT.out, mk_false, ok_bind, HNO.out], HP3.out.keep hE tBEL, rfl, ⟨ak, ao, an, ax, aA, am, ac, rfl, rq_keep HRE3.out tKQ tSZ tSZ⟩⟩
      have hg := HGA.out
      exact tGB
    · obtain ⟨op, hlk, hjl, hpe⟩ := tail_yes (n := n) (a := a) HP3.out.hi HTK.out hk HQ.out
      have HLK := Lib.hid hlk
      have HPE := Lib.hid hpe
      obtain ⟨c0, c1, c2, f1, f2⟩ := (HP3.out.keep hE (show Below E.base w3 (w3.alloc (.cells #[.int .i64 t.kind, .int .i64 t.pos, .string (bs t.text), .int .i32 t.num] 67)) from tBEL)).c
      have l1 : E.b < w3.heap.size := HP3.out.lt
      clear hk hlk hpe c0 c2 f2
      go_wp2_with fail
      refine HIN.out.mono ?_
      rintro e w4 ⟨rfl, rfl⟩
      go_wp2_with fail
      generalize hW : World.alloc (World.setCell _ _ _) _ = W4
      have hp4 : Rp E W4 (j + 1) false := by
        rw [← hW]
        have := HP3.out.step hE (j := j + 1) (by omega)
        exact (show Rp E (w3.setCell ⟨E.b, 1, none⟩ (.int .i64 ((j : Int) + 1))) (j + 1) false by simpa using this).keep hE tBEL
      have t4 : W4.heap[w3.heap.size]? = some (.cells #[.int .i64 t.kind, .int .i64 t.pos, .string (bs t.text), .int .i32 t.num] 67 (0, 0)) := by rw [← hW]; exact tLOC
      have a4 : W4.heap[w1.heap.size]? = some (.cells #[.int .i64 ak, .int .i64 ao, .int .i32 an, .string (bs ax), .slice aA am ac] 34 (0, 0)) := by rw [← hW]; exact tLOC
      have z4 : W4.heap[w.heap.size]? = some (.cells #[.int .i64 0, .int .i64 0, .int .i32 0, .string ⟨#[]⟩, .slice none 0 0] 34 (0, 0)) := by rw [← hW]; exact tLOC
      have hz4 : W4.heap.size = w3.heap.size + 1 := by rw [← hW]; simp only [sz_al, sz_set]
      have hg4 : w.grownBy W4 (some E.b) := by
        rw [← hW]
        have hg := HGA.out
        exact tGB
      have hre4 : RE W4 (fun g => (w.heap.size + 1 ≤ g ∧ g ≠ w1.heap.size) ∧ g < W4.heap.size) [.int .i64 ak, .int .i64 ao, .int .i32 an, .string (bs ax), .slice aA am ac] a := by rw [← hW]; exact rq_same HRE3.out tKQ tSZ
      have HP4 := Lib.hid hp4
      have HG4 := Lib.hid hg4
      have HRE4 := Lib.hid hre4
      have T4 := Lib.hid t4
      have A4 := Lib.hid a4
      have Z4 := Lib.hid z4
      have q2 : W4.cell? ⟨w3.heap.size, 2, none⟩ = some (.string (bs t.text)) := by rw [cell_of_row _ _ 2 _ _ _ t4]; rfl
      have x0 : W4.cell? ⟨w1.heap.size, 0, none⟩ = some (.int .i64 ak) := by rw [cell_of_row _ _ 0 _ _ _ a4]; rfl
      have x1 : W4.cell? ⟨w1.heap.size, 1, none⟩ = some (.int .i64 ao) := by rw [cell_of_row _ _ 1 _ _ _ a4]; rfl
      have x2 : W4.cell? ⟨w1.heap.size, 2, none⟩ = some (.int .i32 an) := by rw [cell_of_row _ _ 2 _ _ _ a4]; rfl
      have x3 : W4.cell? ⟨w1.heap.size, 3, none⟩ = some (.string (bs ax)) := by rw [cell_of_row _ _ 3 _ _ _ a4]; rfl
      have x4 : W4.cell? ⟨w1.heap.size, 4, none⟩ = some (.slice aA am ac) := by rw [cell_of_row _ _ 4 _ _ _ a4]; rfl
      have HNW := Lib.hid (show ∀ w, Rp E w (j + 1) false → Calls Tryz.prog 49 #[.pointer (some ⟨E.b, 0, none⟩), .int .i64 (IntKind.i64.wrap ((n : Int) + 1))] w (Ro E w (at0 E (j + 1) false (PE (.ex (n + 1)))) (RxV w.heap.size)) from fun w h => by rw [show IntKind.i64.wrap ((n : Int) + 1) = (n : Int) + 1 by rw [IntKind.wrap_i64]; omega]; exact HN.out (j + 1) (by omega) w h)
      clear hp4 t4 a4 z4 hg4 hre4 hW c1 f1 HIN HRE HRE3 HGA HCS
      go_region_law (first | (go_simp; go_at_call 49; refine (HNW.out _ (HP4.out.keep hE tBEL)).mono ?_; rintro e w5 ⟨hg5, b5, j5, v5, a5, hR, hp5, rfl, ⟨bk, bo, bn, bx, bA, bm, bc, rfl, hb⟩⟩; have HR5 := Lib.hid hR; clear hR; obtain ⟨qt5, _, _, t5⟩ := loc_keep (q := w3.heap.size) hg5 (heap_dr T4.out) (by omega); obtain ⟨qa5, _, _, a5'⟩ := loc_keep (q := w1.heap.size) hg5 (heap_dr A4.out) (by omega)) | (go_simp; go_at_call 60; refine (rbinary n hn1 hn2 t.text op HLK.out _ ak ao an ax aA am ac bk bo bn bx bA bm bc).mono ?_; rintro e w6 ⟨nb, hb6, hnb, rfl, hnq⟩; obtain ⟨qt6, _, _, _⟩ := loc_keep (q := w3.heap.size) (gb_below hb6 (some E.b)) t5 (by omega); obtain ⟨qa6, _, _, a6'⟩ := loc_keep (q := w1.heap.size) (gb_below hb6 (some E.b)) a5' (by omega)))
      all_goals
        obtain ⟨_, _, _, z5⟩ := loc_keep (q := w.heap.size) hg5 (heap_dr Z4.out) (by omega)
        obtain ⟨_, _, _, z6⟩ := loc_keep (q := w.heap.size) (gb_below hb6 (some E.b)) z5 (by omega)
        have hnl := (Array.getElem?_eq_some_iff.1 hnq).1
        have hz5 := hg5.size
        have hz6 := hb6.size
        simp only [sz_dr] at hz5
        have K5 : Kq (w.heap.size + 1) w1.heap.size W4 w5 := kq_call (b := E.b) (show Kq _ _ W4 W4.drew from fun _ _ _ hu => hu) hg5 (by omega)
        have K65 : Kq (w.heap.size + 1) w1.heap.size w5 w6 := kq_call (b := E.b) (kq_refl _ _ _) (gb_below hb6 _) (by omega)
        have K6 : Kq (w.heap.size + 1) w1.heap.size W4 w6 := kq_call (b := E.b) K5 (gb_below hb6 _) (by omega)
        have G6 : w.grownBy w6 (some E.b) := gb_trans (gb_trans (gb_drew HG4.out) hg5) (gb_below hb6 _)
        have P6 := hp5.keepB hE hb6
        have RA := rq_same HRE4.out K6 (by omega)
        have RB := rq_new (h := w.heap.size + 1) (q := w1.heap.size) hb K65 (by simp only [sz_dr]; omega) (by simp only [sz_dr]; omega) (by omega)
        have hne : nb ≠ w1.heap.size := by omega
        generalize hV : World.setCell _ ⟨w1.heap.size, 4, none⟩ _ = V
        have gV : w.grownBy V (some E.b) := by
          rw [← hV]
          refine gb_setCell (gb_setCell (gb_setCell (gb_setCell (gb_setCell G6 ?_ _) ?_ _) ?_ _) ?_ _) ?_ _ <;> exact .inr (show w.heap.size ≤ w1.heap.size by omega)
        have pV : Rp E V j5 b5 := by rw [← hV]; exact P6.keep hE tBEL
        have zV : V.heap[w.heap.size]? = some (.cells #[.int .i64 0, .int .i64 0, .int .i32 0, .string ⟨#[]⟩, .slice none 0 0] 34 (0, 0)) := by rw [← hV]; exact tLOC
        have cV : V.heap[w1.heap.size]? = some (.cells #[.int .i64 4, .int .i64 op, .int .i32 0, .string (bs []), .slice (some ⟨nb, 0, none⟩) 2 2] 34 (0, 0)) := by rw [← hV]; exact put5 _ _ _ _ _ a6'
        have rV : RE V (fun g => (w.heap.size + 1 ≤ g ∧ g ≠ w1.heap.size) ∧ g < V.heap.size) [.int .i64 4, .int .i64 op, .int .i32 0, .string (bs []), .slice (some ⟨nb, 0, none⟩) 2 2] (bin op t.text a a5) := by
          have szV : V.heap.size = w6.heap.size := by rw [← hV]; simp only [sz_set]
          refine RE.keeps (w := w6) (P := fun g => (w.heap.size + 1 ≤ g ∧ g ≠ w1.heap.size) ∧ g < w6.heap.size) (fun p u hp hu => by rw [← hV]; exact (show Kq (w.heap.size + 1) w1.heap.size w6 _ from tKQ) p u hp.1 hu) (fun g hg => ⟨hg.1, by rw [szV]; exact hg.2⟩) _ _ ?_
          rw [show bin op t.text a a5 = if (t.text == [62] || t.text == [62, 61]) then .mk 4 op 0 [] [a5, a] else .mk 4 op 0 [] [a, a5] from rfl]
          cases htu : (t.text == [62] || t.text == [62, 61])
          · rw [htu] at hnq
            exact rq_mk (name := []) (slq_two (nb := nb) _ _ _ _ _ _ _ _ _ _ _ _ _ _ (by simpa using hnq) ⟨⟨by omega, hne⟩, hnl⟩ RA RB)
          · rw [htu] at hnq
            exact rq_mk (name := []) (slq_two (nb := nb) _ _ _ _ _ _ _ _ _ _ _ _ _ _ (by simpa using hnq) ⟨⟨by omega, hne⟩, hnl⟩ RB RA)
        have hj5 := fun hb : b5 = false => at0_ex hp5.hi HR5.out hb
        have MM : PE (.ex n) (E.ks.drop i) = (mkR b5 (bin op t.text a a5) (E.ks.drop j5)).bind (fun a r => PE (.tail n a) r) := by
          have h5 := HR5.out
          rw [at0_false] at h5
          rw [HT.out, mk_false, ok_bind, HPE.out, h5]
          cases b5 <;> rfl
        have hmu := HP2.out.mu
        have hmv := pV.mu
        have HRELS := Lib.hid (show ReRel E w n i w1.heap.size V from ⟨j5, b5, _, _, _, _, _, _, _, _, fun hb => by have := hj5 hb; omega, gV, pV, MM, zV, cV, rV⟩)
        have HMU : muR E V < muR E wr := by
          rw [hmu, hmv]
          have := HP2.out.hi
          cases b5
          · have := hj5 rfl
            simp; omega
          · simp; omega
        clear hV gV pV zV cV rV MM hmu hmv RA RB K5 K6 K65 G6 P6 hnq hb
        go_wp2
        go_roundw
        case rel => exact HRELS.out
        case measure => exact HMU
end Go.Proofs.YtbkhnilbgocpnaaGreatDoor.SynC
