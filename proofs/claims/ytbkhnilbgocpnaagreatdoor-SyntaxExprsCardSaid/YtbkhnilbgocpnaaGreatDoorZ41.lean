import Derived.Test.YtbkhnilbgocpnaaGreatDoorZ0
import Derived.Test.YtbkhnilbgocpnaaGreatDoorZ40
import Derived.Test.YtbkhnilbgocpnaaGreatDoorZ37
import Derived.Test.YtbkhnilbgocpnaaGreatDoorZ34
import Derived.Test.YtbkhnilbgocpnaaGreatDoorZ22
import Derived.Test.YtbkhnilbgocpnaaGreatDoorZ23
set_option linter.unusedVariables false
set_option linter.unusedSimpArgs false
set_option linter.unusedVariables false
set_option linter.unusedSimpArgs false
namespace Go.Proofs.YtbkhnilbgocpnaaGreatDoor.SynC
open Go.Proofs.YtbkhnilbgocpnaaGreatDoor.LexC
open Go Go.ChangeShapes Go.WideShapes Go.ChangeAt Go.RowKit Go.Deep
theorem prim_rest {l : List K} (ho : Other l) (h1 : hit [109, 105, 110] l = false) (h2 : hit [109, 97, 120] l = false) (h3 : ∀ k, k < 4 → hit (spL.getD k []) l = false) :
    PE .prim l = (needS [40] l).bind fun _ r => (PE (.ex 1) r).bind fun e r2 => (needS [41] r2).bind fun _ r3 => .ok e r3 := by
  cases h0 : hit [40] l
  · rw [prim_none ho h0 h1 h2 h3]
    cases l with
    | nil => rfl
    | cons t r => unfold needS need; simp only [hit] at h0; simp [h0]; rfl
  · obtain ⟨n, r, rfl⟩ := hit_cons h0
    rw [prim_paren]
    unfold parenR
    simp only [need_S]
    rfl
set_option maxRecDepth 100000 in
set_option maxHeartbeats 2000000 in
theorem rprim_rest {E : Rv} (hE : E.Ok) (w : World) (i : Nat) (hL : ∀ j, i < j → RxC E j false) (hp0 : Rp E w i false) (t : Tok) (ht : nxt E i false = t) (hk1 : (t.kind == 1) = false) (hk0 : (t.kind == 0) = false ∨ ((t.kind == 0) = true ∧ t.text = [])) (hm : hitB E i false [109, 105, 110] = false) (hx : hitB E i false [109, 97, 120] = false) :
    Calls Tryz.prog 147 #[.pointer (some ⟨E.b, 0, none⟩)] w (Ro E w (at0 E i false (PE .prim)) (RxV w.heap.size)) := by
  have hsz := hp0.sz
  have hlt := hE.lt
  have hi := hp0.hi
  have hlen := hE.len
  have HL := Lib.hid (rx_any hE hL)
  have HT := Lib.hid ht
  have ho : Other (E.ks.drop i) := by
    refine nxt_other hE hi ht (by rw [hk1]; rfl) ?_
    rcases hk0 with h | ⟨h, hx⟩
    · rw [h]; rfl
    · rw [hx]; simp
  have HM := Lib.hid hm
  have HX := Lib.hid hx
  have HOT := Lib.hid ho
  clear hm hx ho
  have hcc : (t.kind == 0) = false ∨ ((t.kind == 0) = true ∧ (bs t.text).toList.isEmpty = true) := by
    rcases hk0 with h | ⟨h, hx⟩
    · exact .inl h
    · exact .inr ⟨h, by rw [bs_isE]; simp [hx]⟩
  obtain ⟨c0, c1, c2, _, _⟩ := (hp0.keepB hE (bel_al w (.cells #[.int .i64 0, .int .i64 0, .int .i32 0, .string ⟨#[]⟩, .slice none 0 0] 34))).c
  have HP := Lib.hid hp0
  clear hp0 ht hL hk0
  rcases hcc with hk0 | ⟨hk0, hq⟩
  all_goals
    go_enter Tryz.func147, Tryz.ntmps147
    go_wp2_with fail
    refine (rnext hE _ i false (HP.out.keep hE tBEL) t HT.out).mono ?_
    rintro e w1 ⟨rfl, hb1⟩
    have hg1 := gb_below hb1 (some E.b)
    have hp1 := ((HP.out.keep hE (show Below E.base w (w.alloc (.cells #[.int .i64 0, .int .i64 0, .int .i32 0, .string ⟨#[]⟩, .slice none 0 0] 34)) from tBEL)).keepB hE hb1).keepB hE (bel_al w1 (.cells #[.int .i64 t.kind, .int .i64 t.pos, .string (bs t.text), .int .i32 t.num] 67))
    have hz1 := hg1.size
    (try simp only [sz_al, sz_set, sz_dr] at hz1)
    obtain ⟨_, _, _, l1'⟩ := loc_keep (q := w.heap.size) hg1 tLOC tSZ
    have l1 := heap_old (o := .cells #[.int .i64 t.kind, .int .i64 t.pos, .string (bs t.text), .int .i32 t.num] 67) tSZ l1'
    go_wp2_with fail
    refine (ris hE _ i false hp1 [109, 105, 110] _ HM.out).mono ?_
    rintro e w2 ⟨rfl, hb2⟩
    have hg2 := gb_below hb2 (some E.b)
    have hp2 := hp1.keepB hE hb2
    have hz2 := hg2.size
    obtain ⟨_, _, _, l2⟩ := loc_keep (q := w.heap.size) hg2 l1 tSZ
    go_wp2_with fail
    refine (ris hE _ i false hp2 [109, 97, 120] _ HX.out).mono ?_
    rintro e w3 ⟨rfl, hb3⟩
    have hg3 := gb_below hb3 (some E.b)
    have hp3 := hp2.keepB hE hb3
    have hz3 := hg3.size
    obtain ⟨_, _, _, l3⟩ := loc_keep (q := w.heap.size) hg3 l2 tSZ
    go_wp2_with fail
    refine (special_111 _).mono ?_
    rintro e w4 ⟨rfl, rfl⟩
    have HP3 := Lib.hid (hp3.keepB hE (bel_al w3 (.cells #[.string (bs [116, 105, 100]), .string (bs [98, 105, 100]), .string (bs [100, 105, 109]), .string (bs [103, 114, 105, 100])] 9)))
    have HG3 := Lib.hid (show w.grownBy (w3.alloc (.cells #[.string (bs [116, 105, 100]), .string (bs [98, 105, 100]), .string (bs [100, 105, 109]), .string (bs [103, 114, 105, 100])] 9)) (some E.b) from tGB)
    have l4 := heap_old (o := .cells #[.string (bs [116, 105, 100]), .string (bs [98, 105, 100]), .string (bs [100, 105, 109]), .string (bs [103, 114, 105, 100])] 9) tSZ l3
    have s4 := heap_alloc_new w3 (.cells #[.string (bs [116, 105, 100]), .string (bs [98, 105, 100]), .string (bs [100, 105, 109]), .string (bs [103, 114, 105, 100])] 9)
    have hz4 : (w3.alloc (.cells #[.string (bs [116, 105, 100]), .string (bs [98, 105, 100]), .string (bs [100, 105, 109]), .string (bs [103, 114, 105, 100])] 9)).heap.size = w3.heap.size + 1 := sz_al _ _
    have HL4 := Lib.hid l4
    have HS4 := Lib.hid s4
    clear l4 s4 hg1 hg2 hg3 hp1 hp2 hp3 l1 l1' l2 l3 hb1 hb2 hb3 c0 c1 c2
    go_wp2_with fail
    go_loopw [8] (fun n wr => ∃ k : Nat, k ≤ 4 ∧ n = .int .i64 k ∧ (∀ m, m < k → hitB E i false (spL.getD m []) = false) ∧ w.grownBy wr (some E.b) ∧ Rp E wr i false ∧ wr.heap[w.heap.size]? = some (.cells #[.int .i64 0, .int .i64 0, .int .i32 0, .string ⟨#[]⟩, .slice none 0 0] 34 (0, 0)) ∧ wr.heap[w3.heap.size]? = some (.cells #[.string (bs [116, 105, 100]), .string (bs [98, 105, 100]), .string (bs [100, 105, 109]), .string (bs [103, 114, 105, 100])] 9 (0, 0))) (fun n _ => 4 - (intOf n).toNat)
    case atStart => exact ⟨0, Nat.zero_le _, rfl, fun m hm => absurd hm (Nat.not_lt_zero m), HG3.out, HP3.out, HL4.out, HS4.out⟩
    case round =>
      obtain ⟨k, hk, rfl, hno, hgr, hp, hq, hs⟩ := hrel
      have HK := Lib.hid hno
      have hz0 := hgr.size
      have HPR := Lib.hid hp
      clear hno hp
      by_cases hlt4 : k < 4
      · obtain ⟨g, hg⟩ : ∃ g, spL.getD k [] = g := ⟨_, rfl⟩
        have HG := Lib.hid hg
        have hin : (0 : Int) ≤ k ∧ (k : Int) < 4 := ⟨by omega, by omega⟩
        have dk : wr.cell? ⟨w3.heap.size, k, none⟩ = some (.string (bs g)) := by
          rw [cell_of_row _ _ k _ _ _ hs, ← hg]
          have : k = 0 ∨ k = 1 ∨ k = 2 ∨ k = 3 := by omega
          rcases this with rfl | rfl | rfl | rfl <;> rfl
        clear hg
        go_wp2_with fail
        refine (reat hE _ i false HPR.out g).mono ?_
        rintro e y1 ⟨gy1, ⟨hh, rfl, py1⟩ | ⟨hh, rfl, py1⟩⟩
        all_goals (have HH := Lib.hid hh; clear hh; have zy1 := gy1.size; obtain ⟨_, _, _, ly1⟩ := loc_keep (q := w.heap.size) gy1 hq (by omega); obtain ⟨_, _, _, sy1⟩ := loc_keep (q := w3.heap.size) gy1 hs (by omega))
        · obtain ⟨_, h1, _⟩ := hitB_lt HH.out
          rw [← HG.out] at h1
          obtain ⟨nn, hd⟩ := rdrop_hit hi h1
          have HR := Lib.hid (show PE .prim (E.ks.drop i) = .ok (.mk 2 k 0 [] []) (E.ks.drop (i + 1)) by rw [hd]; exact prim_sp k hlt4)
          clear hd h1
          go_wp2
          refine ret_ex rfl rfl rfl tRES ?_
          exact ⟨tGB, false, i + 1, _, .mk 2 k 0 [] [], by rw [at0_false, HR.out]; rfl, py1.keep hE tBEL, rfl, rx_mk (name := []) sl_nil⟩
        · go_wp2
          go_roundw
          case rel => exact ⟨k + 1, by omega, by go_num, fun m hm => (by
            by_cases e : m = k
            · rw [e, HG.out]; exact HH.out
            · exact HK.out m (by omega)), tGB, py1, ly1, sy1⟩
          case measure => simp [intOf]; omega
      · have HR0 := Lib.hid (prim_rest HOT.out (by have := HM.out; simpa [hitB] using this) (by have := HX.out; simpa [hitB] using this) (fun m hm => by have := HK.out m (by omega); simpa [hitB] using this))
        go_wp2_with fail
        refine (rneed hE _ i false HPR.out [40]).mono ?_
        rintro e x1 ⟨gg1, d1, k1, v1, u1, hR, pp1, rfl, rfl⟩
        have S1 := Lib.hid hR
        clear hR
        have zz1 := gg1.size
        obtain ⟨_, _, _, y1⟩ := loc_keep (q := w.heap.size) gg1 hq tSZ
        go_wp2_with fail
        refine (HL.out k1 d1 (fun h => by have := rS_adv pp1.hi S1.out h; omega) 1 _ (by decide) (by decide) pp1).mono ?_
        rintro e x2 ⟨gg2, d2, k2, v2, a2, hR, pp2, rfl, ⟨ak, ao, an, ax, aA, am, ac, rfl, ha2⟩⟩
        have S2 := Lib.hid hR
        clear hR
        have zz2 := gg2.size
        obtain ⟨_, _, _, y2⟩ := loc_keep (q := w.heap.size) gg2 y1 tSZ
        go_wp2_with fail
        refine (rneed hE _ k2 d2 (pp2.keep hE tBEL) [41]).mono ?_
        rintro e x3 ⟨gg3, d3, k3, v3, u3, hR, pp3, rfl, rfl⟩
        have S3 := Lib.hid hR
        clear hR
        have zz3 := gg3.size
        (try simp only [sz_al, sz_set, sz_dr] at zz3)
        obtain ⟨_, _, _, y3⟩ := loc_keep (q := w.heap.size) gg3 tLOC tSZ
        obtain ⟨_, _, _, t3⟩ := loc_keep (q := x2.heap.size) gg3 tLOC tSZ
        go_wp2
        refine ret_ex rfl rfl rfl tRES ?_
        refine ⟨tGB, d3, k3, _, a2, ?_, pp3.keep hE tBEL, rfl, ⟨ak, ao, an, ax, aA, am, ac, rfl, rx_keep ha2 tKP tSZ tSZ⟩⟩
        rw [at0_false, HR0.out, ← at0_false (E := E) (f := fun l => (needS [40] l).bind fun _ r => (PE (.ex 1) r).bind fun e r2 => (needS [41] r2).bind fun _ r3 => .ok e r3)]
        rw [mk_first S1.out, mk_next S2.out, mk_next S3.out]
        exact mk_last fun _ => a2
theorem rprimary {E : Rv} (hE : E.Ok) (i : Nat) (hL : ∀ j, i < j → RxC E j false) : RpC E i false := by
  intro w hp
  obtain ⟨t, ht⟩ : ∃ t, nxt E i false = t := ⟨_, rfl⟩
  cases hk1 : (t.kind == 1)
  · by_cases hN : (t.kind == 0) = true ∧ t.text ≠ []
    · exact rprim_name hE w i hL hp t ht hN.1 hN.2
    · have hk0 : (t.kind == 0) = false ∨ ((t.kind == 0) = true ∧ t.text = []) := by
        cases h : (t.kind == 0)
        · exact .inl rfl
        · exact .inr ⟨rfl, by
            by_cases hx : t.text = []
            · exact hx
            · exact absurd ⟨h, hx⟩ hN⟩
      cases hm : hitB E i false [109, 105, 110]
      · cases hx : hitB E i false [109, 97, 120]
        · exact rprim_rest hE w i hL hp t ht hk1 hk0 hm hx
        · exact rprim_max hE w i hL hp t ht hk1 hk0 hx
      · exact rprim_min hE w i hL hp t ht hk1 hk0 hm
  · exact rprim_int hE w i hp t ht hk1
theorem rlevels {E : Rv} (hE : E.Ok) (i : Nat) (hU : RuC E i false) (hL : ∀ j, i < j → RxC E j false) : ∀ d n : Nat, n + d = 11 → 1 ≤ n → ∀ w, Rp E w i false → Calls Tryz.prog 49 #[.pointer (some ⟨E.b, 0, none⟩), .int .i64 n] w (Ro E w (at0 E i false (PE (.ex n))) (RxV w.heap.size))
  | 0, n, h, h1, w, hp => by
    have : n = 11 := by omega
    subst this
    exact rexpr_11 hE i hU w hp
  | d + 1, n, h, h1, w, hp => by
    refine rexpr_lv hE n h1 (by omega) w i (fun j hj w' hp' => ?_) hp
    by_cases e : i = j
    · subst e
      have := rlevels hE i hU hL d (n + 1) (by omega) (by omega) w' hp'
      rwa [show (((n + 1 : Nat)) : Int) = (n : Int) + 1 by omega] at this
    · have := hL j (by omega) (n + 1) w' (by omega) (by omega) hp'
      rwa [show (((n + 1 : Nat)) : Int) = (n : Int) + 1 by omega] at this
theorem rrules {E : Rv} (hE : E.Ok) : ∀ (m i : Nat), E.L.length - i < m → RxC E i false ∧ RuC E i false
  | 0, _, h => absurd h (Nat.not_lt_zero _)
  | m + 1, i, h => by
    have up : ∀ j, i < j → RxC E j false ∧ RuC E j false := fun j hj => by
      by_cases hl : i < E.L.length
      · exact rrules hE m j (by omega)
      · exact ⟨fun n w _ _ hp => absurd hp.hi (by omega), fun w hp => absurd hp.hi (by omega)⟩
    have hu : RuC E i false := fun w hp => runary hE w i false (fun j hj => (up j hj).2) (rprimary hE i fun j hj => (up j hj).1) hp
    exact ⟨fun n w h1 h2 hp => rlevels hE i hu (fun j hj => (up j hj).1) (11 - n) n (by omega) h1 w hp, hu⟩
theorem rx_all {E : Rv} (hE : E.Ok) (i : Nat) (b : Bool) : RxC E i b := by
  cases b
  · exact (rrules hE _ i (Nat.lt_succ_self _)).1
  · exact rexpr_bad hE i
end Go.Proofs.YtbkhnilbgocpnaaGreatDoor.SynC
set_option linter.unusedVariables false
set_option linter.unusedSimpArgs false
namespace Go.Proofs.YtbkhnilbgocpnaaGreatDoor.SynC
open Go.Proofs.YtbkhnilbgocpnaaGreatDoor.LexC
open Go Go.ChangeShapes Go.WideShapes Go.ChangeAt Go.RowKit Go.Deep
def posR (L : List Tok) (n j : Nat) : Int := match L[j]? with
  | some t => t.pos
  | none => n
theorem posR_at {L : List Tok} {n j : Nat} (hj : j ≤ L.length) (r : List K) (hr : r.length = L.length - j) : posAt L n r = posR L n j := by
  unfold posAt posR
  rw [hr, show L.length - (L.length - j) = j by omega, List.getD_eq_getElem?_getD]
  by_cases h : j < L.length
  · rw [List.getElem?_append_left h, List.getElem?_eq_getElem h]; rfl
  · have : j = L.length := by omega
    subst this
    rw [List.getElem?_append_right (Nat.le_refl _), Nat.sub_self, List.getElem?_eq_none (Nat.le_refl _)]; rfl
set_option maxRecDepth 100000 in
set_option maxHeartbeats 2000000 in
theorem rwhere {E : Rv} (hE : E.Ok) (w : World) (j : Nat) (b : Bool) (h : Rp E w j b) (s : ByteArray) (hs : s.size ≤ maxLen) :
    Calls Tryz.prog 43 #[.pointer (some ⟨E.b, 0, none⟩), .string s] w fun e w' => e = .returned (.int .i64 (posR E.L s.size j)) ∧ Below w.heap.size w w' := by
  unfold maxLen at hs
  obtain ⟨c0, c1, c2, _, _⟩ := h.c
  have hlen := hE.len
  have hj := h.hi
  by_cases hl : j < E.L.length
  · obtain ⟨t, ht⟩ : ∃ t, E.L[j]? = some t := ⟨_, List.getElem?_eq_getElem hl⟩
    obtain ⟨k0, k1, k2, k3⟩ := h.tok ht
    have hA := hE.A (by intro e; rw [e] at ht; simp at ht)
    rw [hA] at c0
    have hR : posR E.L s.size j = t.pos := by unfold posR; rw [ht]
    rw [hR]
    have hx : (0 : Int) ≤ j ∧ (j : Int) < E.L.length := ⟨by omega, by omega⟩
    clear h ht hA hR
    go_enter Tryz.func43, Tryz.ntmps43
    go_wp2
    go_quiet (fail)
    go_wp2
    go_quiet (fail)
    go_wp2
    go_ret
    exact ⟨rfl, tBELD⟩
  · have hR : posR E.L s.size j = s.size := by unfold posR; rw [List.getElem?_eq_none (by omega)]
    rw [hR]
    have hd : decide ((j : Int) < E.L.length) = false := by simp; omega
    have hx : ¬ (j : Int) < E.L.length := by omega
    clear h hR
    go_enter Tryz.func43, Tryz.ntmps43
    go_wp2
    go_quiet (fail)
    go_wp2
    go_ret
    exact ⟨rfl, tBELD⟩
end Go.Proofs.YtbkhnilbgocpnaaGreatDoor.SynC
set_option linter.unusedVariables false
set_option linter.unusedSimpArgs false
namespace Go.Proofs.YtbkhnilbgocpnaaGreatDoor.SynC
open Go.Proofs.YtbkhnilbgocpnaaGreatDoor.LexC
open Go Go.ChangeShapes Go.WideShapes Go.ChangeAt Go.RowKit Go.Deep
theorem one_any : OneAny := by
  intro s hs i hi w
  cases hl : letN (s[i].toNat : Int)
  · cases hd : digN (s[i].toNat : Int)
    · exact one_sign s hs i hi hl hd w
    · exact one_int s hs i hi hl hd w
  · exact one_word s hs i hi hl w
theorem own_tok {w : World} {B : Nat} {v : Value} {L : List Tok} (h : OwnT w B v L) : ∃ (A : Option Addr) (c x : Nat), v = .slice A L.length c ∧ (L ≠ [] → A = some ⟨x, 0, none⟩) ∧ (x < w.heap.size ∨ x = 0) ∧ ∀ j u, (cellsT L)[j]? = some u → w.cell? ⟨x, j, none⟩ = some u := by
  rcases h.2 with ⟨hv, hn⟩ | ⟨g, cap, cur, hv, hb, hgg, _⟩
  · have : L = [] := List.eq_nil_of_length_eq_zero hn
    subst this
    exact ⟨none, 0, 0, hv, fun h => absurd rfl h, .inr rfl, fun j u hu => by simp [cellsT] at hu⟩
  · refine ⟨some ⟨g, 0, none⟩, cap, g, hv, fun _ => rfl, .inl (Array.getElem?_eq_some_iff.1 hgg).1, fun j u hu => ?_⟩
    have := World.ownsRow.cells h (g := g) (by rw [hv]; rfl) j u hu
    have e : (⟨g, 0, none⟩ : Addr).add j = ⟨g, j, none⟩ := by unfold Addr.add; split <;> simp_all
    rwa [e] at this
theorem exprM_err {s : List UInt8} {i er : Int} (h : parseM (Ex.mk 0 0 0 [] []) (PE (.ex 1)) s = (Ex.mk 0 0 0 [] [], i, er)) (he : er ≠ 0) : exprM s = (Ex.mk 0 0 0 [] [], i, er) := by
  unfold exprM
  simp only [h]
  have : (er == 0) = false := by simpa using he
  simp [this]
set_option maxRecDepth 100000 in
set_option maxHeartbeats 2000000 in
theorem refExpr_err (s : ByteArray) (w : World) (i er : Int) (he : er = 2 ∨ er = 5) (hT : ∀ w, Calls Tryz.prog 41 #[.string s] w fun e w' => e = .returned (.tuple #[.slice none 0 0, .int .i64 i, .int .i64 er]) ∧ Below w.heap.size w w')
    (hM : exprM s.data.toList = (Ex.mk 0 0 0 [] [], i, er)) : Calls Tryz.prog 19 #[.string s] w (ExprOut s w) := by
  have HT := Lib.hid hT
  clear hT
  rcases he with rfl | rfl
  all_goals
    go_enter Tryz.func19, Tryz.ntmps19
    go_wp2_with fail
    refine (HT.out _).mono ?_
    rintro e w1 ⟨rfl, hb1⟩
    obtain ⟨_, _, _, l1⟩ := loc_keep (q := w.heap.size) (gb_below hb1 (some (w.heap.size + 1))) (heap_alloc_new _ _) (by omega)
    have HB1 := Lib.hid (seq (bel_al _ _) hb1)
    clear hb1
    go_wp2
    refine ret_x3 rfl rfl rfl rfl rfl (put5 _ _ _ _ _ l1) ⟨?_, _, _, _, _, rfl, rx_mk (name := []) sl_nil, zero_rg, hM.symm⟩
    repeat (first | with_reducible exact Below.refl _ _ | with_reducible refine Below.alloc ?_ (by first | omega | (simp only [sz_al, sz_set, sz_dr]; omega) | (simp; omega) | (simp; done)) _ | with_reducible refine Below.setCell ?_ (by first | omega | (simp only [sz_al, sz_set, sz_dr]; omega) | (simp; omega) | (simp; done)) _ | with_reducible refine Below.drew ?_)
    exact HB1.out
set_option maxRecDepth 100000 in
set_option maxHeartbeats 2000000 in
theorem refExpr_ok (s : ByteArray) (h4 : s.size ≤ 4000) (hsc : (sc s.data.toList 0).2 = none) (w : World) : Calls Tryz.prog 19 #[.string s] w (ExprOut s w) := by
  have HT := Lib.hid (rtokens_short one_any s h4)
  obtain ⟨L, hL⟩ : ∃ L, (sc s.data.toList 0).1 = L := ⟨_, rfl⟩
  have hwf := sc_wf (l := s.data.toList) (i := 0)
  have hcnt := sc_count s.data.toList 0
  rw [hL] at hwf hcnt
  rw [size_toList] at hcnt
  have HWF := Lib.hid hwf
  have hPM : parseM (Ex.mk 0 0 0 [] []) (PE (.ex 1)) s.data.toList = outM (Ex.mk 0 0 0 [] []) L s.size (PE (.ex 1) (L.map key)) := by
    unfold parseM; rw [if_neg (by rw [size_toList]; omega), hsc, hL, size_toList]
  have HPM := Lib.hid hPM
  have HL := Lib.hid hL
  have HSC := Lib.hid hsc
  clear hwf hPM hL hsc
  go_enter Tryz.func19, Tryz.ntmps19
  go_wp2_with fail
  refine (HT.out _).mono ?_
  rintro e w1 ⟨hp, hb1⟩
  rcases hp with ⟨v, _, rfl, hown⟩ | ⟨i, hi, _⟩
  rotate_left 1
  · rw [HSC.out] at hi; cases hi
  rw [HL.out] at hown
  obtain ⟨A, c, x, rfl, hA, hx, hcs⟩ := own_tok hown
  obtain ⟨_, _, _, l1⟩ := loc_keep (q := w.heap.size) (gb_below hb1 (some (w.heap.size + 1))) (heap_alloc_new _ _) (by omega)
  have hz1 := hb1.size
  simp only [sz_al] at hz1
  have HB1 := Lib.hid (seq (bel_al _ _) hb1)
  obtain ⟨E, hEd⟩ : ∃ E : Rv, E = ⟨w1.heap.size, w1.heap.size + 1, x, c, A, L⟩ := ⟨_, rfl⟩
  have hE : E.Ok := by
    subst hEd
    exact ⟨Nat.lt_succ_self _, by show x ≠ w1.heap.size; omega, by show x < w1.heap.size + 1; omega, by show L.length ≤ 4000; omega, hA, fun t ht => ⟨(HWF.out t ht).1, (HWF.out t ht).2.1⟩⟩
  have hP2 : Rp E (w1.alloc (.cells #[.slice A L.length c, .int .i64 0, .bool false] 81)) 0 false := by
    subst hEd
    exact ⟨heap_alloc_new _ _, fun j u hu => past (hcs j u hu) _, Nat.zero_le _, by show w1.heap.size + 1 ≤ _; simp only [sz_al]; omega⟩
  have hEb : E.b = w1.heap.size := by rw [hEd]
  have hEL : E.L = L := by rw [hEd]
  have hEk : E.ks.drop 0 = L.map key := by rw [hEd]; rfl
  have hEc : (Value.slice E.A E.L.length E.c) = .slice A L.length c := by rw [hEd]
  have HEX := rx_all hE 0 false 1 _ (by decide) (by decide) hP2
  rw [hEb] at HEX
  have HEX2 := Lib.hid HEX
  have HE := Lib.hid hE
  clear HEX hown hcs hb1 hA hP2 hEd
  go_wp2_with fail
  refine HEX2.out.mono ?_
  rintro e w3 ⟨hg3, b3, j3, v3, a3, hR, hp3, rfl, ⟨ak, ao, an, ax, aA, am, ac, rfl, ha3⟩⟩
  rw [hEb] at hg3
  have hz3 := hg3.size
  simp only [sz_al] at hz3 ha3
  obtain ⟨_, _, _, l3⟩ := loc_keep (q := w.heap.size) hg3 (heap_old (by omega) l1) (by omega)
  have hR : PE (.ex 1) (L.map key) = mkR b3 a3 (E.ks.drop j3) := by rw [at0_false, hEk] at hR; exact hR
  have hrl : (E.ks.drop j3).length = L.length - j3 := by unfold Rv.ks; rw [hEL]; simp
  have hj3 := hp3.hi
  rw [hEL] at hj3
  have hp3' := hp3.keepB HE.out (bel_al w3 (.cells #[.int .i64 ak, .int .i64 ao, .int .i32 an, .string (bs ax), .slice aA am ac] 34))
  obtain ⟨d0, d1, d2, _, _⟩ := hp3'.c
  rw [hEb] at d0 d1 d2
  rw [hEc] at d0
  have HW := Lib.hid (rwhere HE.out _ j3 b3 hp3' s (by unfold maxLen; omega))
  rw [hEb, hEL] at HW
  have HB3 : Hid (∀ w', Below w3.heap.size w3 w' → Below w.heap.size w w') := Lib.hid fun w' h => (HB1.out.trans (Below.grown (Below.refl _ _) (gb_trans (World.grownBy_alloc w1 _ _) hg3) (by omega) (fun k hk => by cases hk; omega))).trans (h.mono (by omega))
  have HL3 := Lib.hid l3
  have HR := Lib.hid hR
  have HRL := Lib.hid hrl
  have HA3 := Lib.hid ha3
  clear hg3 hp3 hp3' hR hrl l3 ha3 l1
  have bad : (b3 = true ∨ j3 < L.length) → exprM s.data.toList = (Ex.mk 0 0 0 [] [], posR L s.size j3, 2) := by
    intro h
    refine exprM_err ?_ (by decide)
    rw [HPM.out, HR.out]
    unfold outM whole
    cases b3
    · rcases h with h | h
      · cases h
      · have : (E.ks.drop j3).isEmpty = false := by
          cases he : E.ks.drop j3 with
          | nil => have := HRL.out; rw [he] at this; simp at this; omega
          | cons _ _ => rfl
        simp only [mk_false, ok_bind, this]
        show (_, posAt L s.size (E.ks.drop j3), _) = _
        rw [posR_at (by omega) _ HRL.out]
    · simp only [mk_true, no_bind]
      rw [posR_at (by omega) _ HRL.out]
  have HBAD := Lib.hid bad
  clear bad
  by_cases hc : b3 = true ∨ j3 < L.length
  · have HM := Lib.hid (HBAD.out hc)
    have hcc : (b3 = true) ∨ (b3 = false ∧ (j3 : Int) < L.length) := by
      cases b3
      · rcases hc with h | h
        · cases h
        · exact .inr ⟨rfl, by omega⟩
      · exact .inl rfl
    clear hc
    rcases hcc with rfl | ⟨rfl, hlt⟩
    all_goals
      go_wp2_with fail
      refine HW.out.mono ?_
      rintro e w4 ⟨rfl, hb4⟩
      obtain ⟨_, _, _, l4⟩ := loc_keep (q := w.heap.size) (gb_below hb4 (some (w.heap.size + 1))) (heap_old (by omega) HL3.out) (by omega)
      have HB4 := Lib.hid (HB3.out _ (seq (bel_al _ _) hb4))
      clear hb4
      go_wp2
      refine ret_x3 rfl rfl rfl rfl rfl (put5 _ _ _ _ _ l4) ⟨?_, _, _, _, _, rfl, rx_mk (name := []) sl_nil, zero_rg, HM.out.symm⟩
      repeat (first | with_reducible exact Below.refl _ _ | with_reducible refine Below.alloc ?_ (by first | omega | (simp only [sz_al, sz_set, sz_dr]; omega) | (simp; omega) | (simp; done)) _ | with_reducible refine Below.setCell ?_ (by first | omega | (simp only [sz_al, sz_set, sz_dr]; omega) | (simp; omega) | (simp; done)) _ | with_reducible refine Below.drew ?_)
      exact HB4.out
  · have hb3 : b3 = false := by cases b3; rfl; exact absurd (.inl rfl) hc
    subst hb3
    have hjL : j3 = L.length := by omega
    have hok : parseM (Ex.mk 0 0 0 [] []) (PE (.ex 1)) s.data.toList = (a3, 0, 0) := by
      rw [HPM.out, HR.out]
      have : (E.ks.drop j3).isEmpty = true := by
        cases he : E.ks.drop j3 with
        | nil => rfl
        | cons _ _ => have := HRL.out; rw [he] at this; simp at this; omega
      unfold outM whole
      simp only [mk_false, ok_bind, this]
      rfl
    have hrg := exprP_rg (i := 0) hok.symm
    have hlt : ¬ (j3 : Int) < L.length := by omega
    have hld : decide ((j3 : Int) < L.length) = false := by simp; omega
    have HV : Hid (∀ w', Below w3.heap.size w3 w' → Calls Tryz.prog 35 #[.agg #[.int .i64 ak, .int .i64 ao, .int .i32 an, .string (bs ax), .slice aA am ac]] w' fun e w2 => e = .returned (.bool (validE a3)) ∧ Below w'.heap.size w' w2) := Lib.hid fun w' h =>
      refValid_35 a3 w' _ _ _ _ _ _ _ (RE.keeps (keeps_below h fun _ hb => hb.2) (fun _ hb => Nat.lt_of_lt_of_le hb.2 h.size) _ _ HA3.out) hrg
    have HRG := Lib.hid hrg
    have HKEEP : Hid (∀ w', Kp (w.heap.size + 1) w3 w' → w3.heap.size ≤ w'.heap.size → RE w' (fun g => w.heap.size ≤ g ∧ g < w'.heap.size) [.int .i64 ak, .int .i64 ao, .int .i32 an, .string (bs ax), .slice aA am ac] a3) := Lib.hid fun w' k hz => RE.keeps (fun p u hp hu => k p u (by have := hp.1; show w.heap.size + 1 ≤ _; omega) hu) (fun _ hb => ⟨by have := hb.1; omega, Nat.lt_of_lt_of_le hb.2 hz⟩) _ _ HA3.out
    have HOKM := Lib.hid hok
    clear hok hrg hc HBAD HW
    cases hv : validE a3
    · have HM : Hid (exprM s.data.toList = (Ex.mk 0 0 0 [] [], 0, 5)) := Lib.hid (by unfold exprM; simp only [HOKM.out, hv]; rfl)
      rw [hv] at HV
      clear hv
      go_wp2_with fail
      refine (HV.out _ (bel_al _ _)).mono ?_
      rintro e w4 ⟨rfl, hb4⟩
      obtain ⟨_, _, _, l4⟩ := loc_keep (q := w.heap.size) (gb_below hb4 (some (w.heap.size + 1))) (heap_old (by omega) HL3.out) (by omega)
      have HB4 := Lib.hid (HB3.out _ (seq (bel_al _ _) hb4))
      clear hb4
      go_wp2
      refine ret_x3 rfl rfl rfl rfl rfl (put5 _ _ _ _ _ l4) ⟨?_, _, _, _, _, rfl, rx_mk (name := []) sl_nil, zero_rg, HM.out.symm⟩
      repeat (first | with_reducible exact Below.refl _ _ | with_reducible refine Below.alloc ?_ (by first | omega | (simp only [sz_al, sz_set, sz_dr]; omega) | (simp; omega) | (simp; done)) _ | with_reducible refine Below.setCell ?_ (by first | omega | (simp only [sz_al, sz_set, sz_dr]; omega) | (simp; omega) | (simp; done)) _ | with_reducible refine Below.drew ?_)
      exact HB4.out
    · have HM : Hid (exprM s.data.toList = (a3, 0, 0)) := Lib.hid (by unfold exprM; simp only [HOKM.out, hv]; rfl)
      rw [hv] at HV
      clear hv
      go_wp2_with fail
      refine (HV.out _ (bel_al _ _)).mono ?_
      rintro e w4 ⟨rfl, hb4⟩
      obtain ⟨_, _, _, l4⟩ := loc_keep (q := w.heap.size) (gb_below hb4 (some (w.heap.size + 1))) (heap_old (by omega) HL3.out) (by omega)
      obtain ⟨_, _, _, m4⟩ := loc_keep (q := w3.heap.size) (gb_below hb4 (some (w.heap.size + 1))) (heap_alloc_new _ _) (by omega)
      have hk4 : Kp (w.heap.size + 1) w3 w4 := fun p u hp hu => (hb4.cell (by have := World.block_lt_of_cell? w3 _ hu; simp only [sz_al]; omega)).trans (past hu _)
      have hz4 := hb4.size
      simp only [sz_al] at hz4
      have HB4 := Lib.hid (HB3.out _ (seq (bel_al _ _) hb4))
      clear hb4
      go_wp2
      refine ret_x3 rfl rfl rfl rfl rfl (put5 _ _ _ _ _ l4) ⟨?_, _, _, _, _, rfl, ⟨ak, ao, an, ax, aA, am, ac, rfl, HKEEP.out _ ?_ tSZ⟩, HRG.out, HM.out.symm⟩
      · repeat (first | with_reducible exact Below.refl _ _ | with_reducible refine Below.alloc ?_ (by first | omega | (simp only [sz_al, sz_set, sz_dr]; omega) | (simp; omega) | (simp; done)) _ | with_reducible refine Below.setCell ?_ (by first | omega | (simp only [sz_al, sz_set, sz_dr]; omega) | (simp; omega) | (simp; done)) _ | with_reducible refine Below.drew ?_)
        exact HB4.out
      · repeat (first | with_reducible exact kp_refl _ _ | with_reducible refine kp_alloc ?_ _ | (with_reducible refine kp_set ?_ ?_ _; rotate_left 1; focus (first | omega | (simp only [sz_al, sz_set, sz_dr]; omega) | (simp; omega) | (simp; done))) | (with_reducible refine kp_call ?_ (by with_reducible assumption) ?_; rotate_left 1; focus (first | omega | (simp only [sz_al, sz_set, sz_dr]; omega) | (simp; omega) | (simp; done))))
        exact hk4
theorem refExpr_19 (s : ByteArray) (hs : s.size ≤ maxLen) (w : World) : Calls Tryz.prog 19 #[.string s] w (ExprOut s w) := by
  by_cases h4 : 4000 < s.size
  · refine refExpr_err s w 0 5 (.inr rfl) (fun w => rtokens_long s hs h4 w) (exprM_err ?_ (by decide))
    unfold parseM; rw [if_pos (by rw [size_toList]; exact h4)]
  · cases hsc : (sc s.data.toList 0).2 with
    | none => exact refExpr_ok s (by omega) hsc w
    | some i =>
      refine refExpr_err s w i 2 (.inl rfl) (fun w => (rtokens_short one_any s (by omega) w).mono fun e w' ⟨hp, hb⟩ => ⟨?_, hb⟩) (exprM_err ?_ (by decide))
      · rcases hp with ⟨v, hn, _⟩ | ⟨j, hj, he⟩
        · rw [hsc] at hn; cases hn
        · rw [hsc] at hj; cases hj; exact he
      · unfold parseM; rw [if_neg (by rw [size_toList]; omega), hsc]
end Go.Proofs.YtbkhnilbgocpnaaGreatDoor.SynC
set_option linter.unusedVariables false
set_option linter.unusedSimpArgs false
namespace Go.Proofs.YtbkhnilbgocpnaaGreatDoor.SynC
open Go.Proofs.YtbkhnilbgocpnaaGreatDoor.LexC
open Go Go.ChangeShapes Go.WideShapes Go.ChangeAt Go.RowKit Go.Deep
set_option maxRecDepth 100000 in
set_option maxHeartbeats 2000000 in
theorem exprs_walk (s : ByteArray) (hs : s.size ≤ maxLen) (w : World) (hG : Gl w) : Calls Tryz.prog 4 #[.string s] w fun e w' => e = .returned (.bool true) ∧ Below w.heap.size w w' := by
  have HG := Lib.hid hG
  clear hG
  have HE := Lib.hid (expr_18 s hs)
  have HR := Lib.hid (refExpr_19 s hs)
  have hs' := hs
  unfold maxLen at hs'
  by_cases h6 : (6000 : Int) < s.size
  · clear HE HR
    go_enter Tryz.func4, Tryz.ntmps4
    go_wp2_with fail
    refine (awake_any _ HG.out).mono ?_
    rintro e w9 ⟨rfl, hb9⟩
    have HB9 := Lib.hid hb9
    clear hb9
    go_wp2
    go_ret
    exact ⟨rfl, HB9.out⟩
  go_enter Tryz.func4, Tryz.ntmps4
  go_wp2_with fail
  refine (HE.out _ HG.out).mono ?_
  rintro e w1 ⟨hb1, v, a, i, er, rfl, ⟨ak, ao, an, ax, aA, am, ac, rfl, ha⟩, hg, hM⟩
  have HB1 := Lib.hid hb1
  have HA := Lib.hid (re_of ha)
  have HM := Lib.hid hM
  have hz1 := hb1.size
  clear hb1 ha hM
  go_wp2_with fail
  refine (HR.out _).mono ?_
  rintro e w2 ⟨hb2, v2, a2, i2, er2, rfl, ⟨bk, bo, bn, bx, bA, bm, bc, rfl, hb⟩, hg2, hM2⟩
  have hMM := HM.out.trans hM2.symm
  simp only [Prod.mk.injEq] at hMM
  obtain ⟨rfl, rfl, rfl⟩ := hMM
  obtain ⟨_, _, _, l2⟩ := loc_keep (q := w1.heap.size) (gb_below hb2 (some (w1.heap.size + 1))) (heap_alloc_new _ _) (by omega)
  have HA2 := Lib.hid (re_bel HA.out ((bel_al w1 (.cells #[.int .i64 ak, .int .i64 ao, .int .i32 an, .string (bs ax), .slice aA am ac] 34)).trans (hb2.mono (by simp only [sz_al]; omega))))
  have HB2 := Lib.hid (seq (seq HB1.out (bel_al w1 (.cells #[.int .i64 ak, .int .i64 ao, .int .i32 an, .string (bs ax), .slice aA am ac] 34))) hb2)
  have HC2 := Lib.hid (re_of hb)
  have HG3 := Lib.hid hg
  have hz2 := hb2.size
  simp only [sz_al] at hz2
  clear hb2 hb hM2 HM HE HR hg hg2
  go_wp2_with fail
  refine (sm_all a _ _ _ _ _ _ _ _ _ _ _ _ _ _ _ (re_bel HA2.out (bel_al _ _)) (re_bel HC2.out (bel_al _ _)) HG3.out).mono ?_
  rintro e w3 ⟨rfl, hb3⟩
  have HB3 := Lib.hid (seq (seq HB2.out (bel_al _ _)) hb3)
  have e1 : (i == i) = true := by simp
  have e2 : (er == er) = true := by simp
  clear hb3
  go_wp2_with fail
  refine (awake_any _ (HG.out.bel HB3.out)).mono ?_
  rintro e w9 ⟨rfl, hb9⟩
  have HB9 := Lib.hid (seq HB3.out hb9)
  clear hb9
  go_wp2
  go_ret
  exact ⟨rfl, HB9.out⟩
end Go.Proofs.YtbkhnilbgocpnaaGreatDoor.SynC
