import Derived.Test.YtbkhnilbgocpnaaGreatDoorZ0
import Derived.Test.YtbkhnilbgocpnaaGreatDoorZ37
import Derived.Deep.AppendLies
import Derived.Deep.RegionLaw
set_option linter.unusedVariables false
set_option linter.unusedSimpArgs false
set_option linter.unusedVariables false
set_option linter.unusedSimpArgs false
namespace Go.Proofs.YtbkhnilbgocpnaaGreatDoor.SynC
open Go.Proofs.YtbkhnilbgocpnaaGreatDoor.LexC
open Go Go.ChangeShapes Go.WideShapes Go.ChangeAt Go.RowKit Go.Deep
def RpC (E : Rv) (i : Nat) (b : Bool) : Prop := ∀ (w : World), Rp E w i b → Calls Tryz.prog 147 #[.pointer (some ⟨E.b, 0, none⟩)] w (Ro E w (at0 E i b (PE .prim)) (RxV w.heap.size))
theorem rdrop_hit {E : Rv} {i : Nat} {s : List UInt8} (hi : i ≤ E.L.length) (h : hit s (E.ks.drop i) = true) : ∃ n, E.ks.drop i = (2, s, n) :: E.ks.drop (i + 1) := by
  rcases Rv.next_ hi with ⟨_, t, _, _, hd⟩ | ⟨e, _, hd⟩
  · obtain ⟨n, r, e⟩ := hit_cons h
    rw [hd] at e
    injection e with e1 e2
    exact ⟨n, by rw [hd, e1]⟩
  · rw [hd] at h; cases h
theorem unText_unL : ∀ k, k < 3 → unText (k : Nat) = unL.getD k [] := by
  repeat (first | exact below_zero | refine below_succ ?_ (by decide))
set_option maxRecDepth 100000 in
set_option maxHeartbeats 2000000 in
theorem runary {E : Rv} (hE : E.Ok) (w : World) (i : Nat) (b : Bool) (hU : ∀ j, i < j → RuC E j false) (hPr : RpC E i b) (hp0 : Rp E w i b) :
    Calls Tryz.prog 93 #[.pointer (some ⟨E.b, 0, none⟩)] w (Ro E w (at0 E i b (PE .un)) (RxV w.heap.size)) := by
  have HU := Lib.hid hU
  have HPr := Lib.hid hPr
  have hsz := hp0.sz
  have hlt := hE.lt
  have hi := hp0.hi
  have HP := Lib.hid hp0
  clear hU hPr hp0
  go_enter Tryz.func93, Tryz.ntmps93
  go_wp2_with fail
  go_loopw [3] (fun n wr => ∃ k : Nat, k ≤ 3 ∧ n = .int .i64 k ∧ (∀ m, m < k → hitB E i b (unL.getD m []) = false) ∧ w.grownBy wr (some E.b) ∧ Rp E wr i b ∧ wr.heap[w.heap.size]? = some (.cells #[.int .i64 0, .int .i64 0, .int .i32 0, .string ⟨#[]⟩, .slice none 0 0] 34 (0, 0))) (fun n _ => 3 - (intOf n).toNat)
  case atStart => exact ⟨0, Nat.zero_le _, rfl, fun m hm => absurd hm (Nat.not_lt_zero m), tGB, HP.out.keep hE tBEL, tLOC⟩
  case round =>
    obtain ⟨k, hk, rfl, hno, hgr, hp, hq⟩ := hrel
    have HK := Lib.hid hno
    have hz0 := hgr.size
    have r3 : w.heap.size < wr.heap.size := (Array.getElem?_eq_some_iff.1 hq).1
    have HPr2 := Lib.hid hp
    clear hno hp
    by_cases hlt4 : k < 3
    · obtain ⟨g, hg⟩ : ∃ g, unText (k : Nat) = g := ⟨_, rfl⟩
      have HG := Lib.hid ((unText_unL k hlt4).symm.trans hg)
      have HT := Lib.hid (unText_112 (k : Nat) (by omega) (by omega))
      rw [hg] at HT
      clear hg
      go_wp2_with fail
      refine (HT.out _).mono ?_
      rintro e w1 ⟨rfl, hb1⟩
      have hz1 := hb1.size
      have hg1 := gb_below hb1 (some E.b)
      obtain ⟨_, _, _, l1⟩ := loc_keep (q := w.heap.size) hg1 hq tSZ
      go_wp2_with fail
      refine (reat hE _ i b (HPr2.out.keepB hE hb1) g).mono ?_
      rintro e w2 ⟨hg2, ⟨hh, rfl, hp2⟩ | ⟨hh, rfl, hp2⟩⟩
      all_goals (have HH := Lib.hid hh; clear hh; have hz2 := hg2.size; have hl := loc_keep (q := w.heap.size) hg2 l1 tSZ; obtain ⟨_, _, _, l2⟩ := hl)
      · have hd0 := HH.out
        rw [← HG.out] at hd0
        obtain ⟨rfl, hd1, hil⟩ := hitB_lt hd0
        obtain ⟨nn, hd⟩ := rdrop_hit hi hd1
        have HD := Lib.hid (show PE .un (E.ks.drop i) = (PE .un (E.ks.drop (i + 1))).bind fun a q => .ok (.mk 3 k 0 [] [a]) q by rw [hd]; exact un_hit k hlt4)
        clear hd hd0 hd1
        go_wp2_with fail
        refine (HU.out (i + 1) (by omega) _ (hp2.keep hE tBEL)).mono ?_
        rintro e w3 ⟨hg3, b3, j, v, a, hR, hp3, rfl, ⟨ak, ao, an, ax, aA, am, ac, rfl, ha⟩⟩
        have HR := Lib.hid hR
        clear hR
        have hz3 := hg3.size
        (try simp only [sz_al, sz_set, sz_dr] at hz3)
        obtain ⟨_, _, _, l3⟩ := loc_keep (q := w.heap.size) hg3 tLOC tSZ
        go_wp2
        refine ret_ex rfl rfl rfl tRES ?_
        refine ⟨tGB, b3, j, _, .mk 3 k 0 [] [a], ?_, hp3.keep hE tBEL, rfl, rx_mk (name := []) (sl_one (nb := w3.heap.size) _ _ _ _ _ _ _ tLOC tSZ (rx_keep ha tKP tSZ tSZ))⟩
        have h := HR.out
        rw [at0_false] at h ⊢
        rw [HD.out, h]
        exact mk_last fun a => Ex.mk 3 k 0 [] [a]
      · go_wp2
        go_roundw
        case rel => exact ⟨k + 1, by omega, by go_num, fun m hm => (by
          by_cases e : m = k
          · rw [e, HG.out]; exact HH.out
          · exact HK.out m (by omega)), tGB, hp2, l2⟩
        case measure => simp [intOf]; omega
    · have HD : Hid (at0 E i b (PE .un) = at0 E i b (PE .prim)) := Lib.hid (by
        cases b
        · rw [at0_false, at0_false]
          exact un_no fun m hm => by have := HK.out m (by omega); simpa [hitB] using this
        · rfl)
      go_wp2_with fail
      refine (HPr.out _ (HPr2.out.keep hE tBEL)).mono ?_
      rintro e w2 ⟨hg2, b2, j, v, a, hR, hp2, rfl, ⟨ak, ao, an, ax, aA, am, ac, rfl, ha⟩⟩
      have HR := Lib.hid hR
      clear hR
      have hz2 := hg2.size
      (try simp only [sz_al, sz_set, sz_dr] at hz2)
      obtain ⟨_, _, _, l2⟩ := loc_keep (q := w.heap.size) hg2 hq tSZ
      go_wp2
      refine ret_ex rfl rfl rfl tRES ?_
      exact ⟨tGB, b2, j, _, a, by rw [HD.out, HR.out], hp2.keep hE tBEL, rfl, ⟨ak, ao, an, ax, aA, am, ac, rfl, rx_keep ha tKP tSZ tSZ⟩⟩
end Go.Proofs.YtbkhnilbgocpnaaGreatDoor.SynC
set_option linter.unusedVariables false
set_option linter.unusedSimpArgs false
namespace Go.Proofs.YtbkhnilbgocpnaaGreatDoor.SynC
open Go.Proofs.YtbkhnilbgocpnaaGreatDoor.LexC
open Go Go.ChangeShapes Go.WideShapes Go.ChangeAt Go.RowKit Go.Deep
section
variable {α : Type} {rd : Rd α} {T sz : Nat}
theorem run_append_L (ok : rd.Ok) (w : World) (t ty : TypeId) (z : Value) (bytes : Nat)
    (info : (Tryz.prog.info? T).map (fun i => (i.zero, i.size, i.bytes)) = some (some z, sz, bytes)) (ht : Tryz.prog.underlying t = some (.slice T)) (hzs : z.cells.size = sz) (hsz : 0 < sz) (hby : bytes ≤ 1000)
    (base : Nat) (v : Value) (L : List α) (hown : OwnL rd T sz w base v L) (g : Nat) (cs : Array Value) (fr : Nat × Nat) (hq : w.heap[g]? = some (.cells cs T fr)) (hcs : cs.size = sz)
    (h1 : ∀ u ∈ cs.toList, u.oneCell' = true) (e : α) (h : Nat) (he : rd (fun g => h ≤ g ∧ g < w.heap.size) w cs.toList e) (hbh : base ≤ h) (hvh : ∀ g, v.ownBlock = some g → g < h) (hl : L.length ≤ 1000000) (hbase : base ≤ w.heap.size) :
    ∃ g' cap w', (Builtin.append_ #[t, t] ty #[v, .slice (some ⟨g, 0, none⟩) 1 1]).run Tryz.prog w = .ok (.slice (some ⟨g', 0, none⟩) (L.length + 1) cap) w' ∧ OwnL rd T sz w' base (.slice (some ⟨g', 0, none⟩) (L.length + 1) cap) (L ++ [e]) ∧ w.grownBy w' v.ownBlock ∧
      (v.ownBlock = some g' ∨ g' = w.heap.size) ∧ g' < w'.heap.size := by
  obtain ⟨rows, r1, r2, r3⟩ := hown
  obtain ⟨i, hi, hz, hs1, hb⟩ := info_parts info
  obtain ⟨g', cap, w', hr, k1, k2, k4, k5⟩ := run_append_lies (P := Tryz.prog) w t ty base T i z sz bytes ht hi hz hs1 hb hzs hsz v L.length rows.flatten r3 ⟨g, 0, none⟩ 1 1 cs.toList (by simp [hcs]) (fun j u hu => (at_row hq 0 cs.toList (fun j u hu => by simpa using hu)) j u hu) h1 (by omega) (by unfold maxLen; omega) (by
    calc (L.length + 1) * bytes ≤ 1000001 * 1000 := Nat.mul_le_mul (by omega) hby
      _ ≤ 140737488355328 := by decide) hbase w.heap.size rfl
  refine ⟨g', cap, w', hr, ⟨rows ++ [cs.toList], by simp [r1], fun j r b hr hb' => ?_, by simpa using k1⟩, k2, k4, k5⟩
  have own' : ∀ g, g < w.heap.size → v.ownBlock ≠ some g → (Value.slice (some ⟨g', 0, none⟩) (L.length + 1) cap).ownBlock ≠ some g := by
    intro g hg1 hg2 e
    have e : g' = g := by simpa [Value.ownBlock] using e
    rcases k4 with k | k
    · exact hg2 (e ▸ k)
    · omega
  have kp : KeepsP (fun g => (base ≤ g ∧ v.ownBlock ≠ some g) ∧ g < w.heap.size) w w' := fun p u hp hu => k2.cell hu (fun e => hp.1.2 e.symm)
  by_cases hj : j < L.length
  · rw [List.getElem?_append_left (by omega)] at hr hb'
    obtain ⟨m1, m2⟩ := r2 j r b hr hb'
    exact ⟨m1, ok _ _ w w' r b kp (fun g hg => ⟨⟨hg.1.1, own' g hg.2 hg.1.2⟩, Nat.lt_of_lt_of_le hg.2 k2.size⟩) m2⟩
  · have hj2 := (List.getElem?_eq_some_iff.1 hb').1
    simp at hj2
    have e1 : j = L.length := by omega
    subst e1
    rw [List.getElem?_append_right (by omega)] at hr hb'
    simp [r1] at hr hb'
    subst hr; subst hb'
    refine ⟨by simp [hcs], ok _ _ w w' _ _ (fun p u hp hu => kp p u ⟨⟨Nat.le_trans hbh hp.1, fun e => by have := hvh _ e; have := hp.1; omega⟩, hp.2⟩ hu) (fun g hg => ⟨⟨Nat.le_trans hbh hg.1, own' g hg.2 (fun e => by have := hvh _ e; have := hg.1; omega)⟩, Nat.lt_of_lt_of_le hg.2 k2.size⟩) he⟩
theorem step_append_L (ok : rd.Ok) {ops : Array Oper} {o : Oper} {a : Act} {w : World} {K : Act → World → Prop} {Q : Exit → Act → World → Prop} {E : Prop} (hgd : o.guard = none) (s x : Operand) (t : TypeId)
    (ho : o.op = .call { callee := .builtin .append, args := #[s, x], argTypes := #[t, t] }) (z : Value) (bytes : Nat)
    (info : (Tryz.prog.info? T).map (fun i => (i.zero, i.size, i.bytes)) = some (some z, sz, bytes)) (ht : Tryz.prog.underlying t = some (.slice T)) (hzs : z.cells.size = sz) (hsz : 0 < sz) (hby : bytes ≤ 1000)
    (base : Nat) (v : Value) (L : List α) (hs : a.eval s = v) (hown : OwnL rd T sz w base v L) (g : Nat) (hx : a.eval x = .slice (some ⟨g, 0, none⟩) 1 1) (cs : Array Value) (fr : Nat × Nat) (hq : w.heap[g]? = some (.cells cs T fr)) (hcs : cs.size = sz)
    (h1 : ∀ u ∈ cs.toList, u.oneCell' = true) (e : α) (h : Nat) (he : rd (fun g => h ≤ g ∧ g < w.heap.size) w cs.toList e) (hbh : base ≤ h) (hvh : ∀ g, v.ownBlock = some g → g < h) (hl : L.length ≤ 1000000) (hbase : base ≤ w.heap.size)
    (hK : ∀ g' cap w', OwnL rd T sz w' base (.slice (some ⟨g', 0, none⟩) (L.length + 1) cap) (L ++ [e]) → w.grownBy w' v.ownBlock → (v.ownBlock = some g' ∨ g' = w.heap.size) → g' < w'.heap.size → K (a.put o.dst (.slice (some ⟨g', 0, none⟩) (L.length + 1) cap)) w') :
    if Region.wanted o (yielded ops a.tmps) = true then Oper.wp Tryz.prog o a w K Q else E := by
  have hw : Region.wanted o (yielded ops a.tmps) = true := by simp [Region.wanted, hgd]
  rw [if_pos hw]
  obtain ⟨g', cap, w', hr, h2, h3, h4, h5⟩ := run_append_L ok w t o.type z bytes info ht hzs hsz hby base v L hown g cs fr hq hcs h1 e h he hbh hvh hl hbase
  unfold Oper.wp execOp
  simp only [ho, resolve, invoke, builtin, Sem.run_bind, Sem.run_pure, Result.andThen_ok, List.map_toArray, List.map_cons, List.map_nil, hs, hx, hr]
  exact hK g' cap w' h2 h3 h4 h5
end
end Go.Proofs.YtbkhnilbgocpnaaGreatDoor.SynC
set_option linter.unusedVariables false
set_option linter.unusedSimpArgs false
namespace Go.Proofs.YtbkhnilbgocpnaaGreatDoor.SynC
open Go.Proofs.YtbkhnilbgocpnaaGreatDoor.LexC
open Go Go.ChangeShapes Go.WideShapes Go.ChangeAt Go.RowKit Go.Deep
theorem rx_any {E : Rv} (hE : E.Ok) {i : Nat} (h : ∀ j, i < j → RxC E j false) (j : Nat) (b : Bool) (hb : b = false → i < j) : RxC E j b := by
  cases b
  · exact h j (hb rfl)
  · exact rexpr_bad hE j
theorem rS_adv {E : Rv} {i j : Nat} {b b' : Bool} {s : List UInt8} {u : Unit} (hj : j ≤ E.L.length) (h : at0 E i b (needS s) = mkR b' u (E.ks.drop j)) (hb : b' = false) : i < j :=
  mk_adv hj (fun l a r h => lenS h) h hb
theorem nxt_other {E : Rv} (hE : E.Ok) {i : Nat} (hi : i ≤ E.L.length) {t : Tok} (ht : nxt E i false = t) (h1 : ((t.kind == 1) && !(decide (t.text = []))) = false) (h0 : ((t.kind == 0) && !(decide (t.text = []))) = false) : Other (E.ks.drop i) := by
  subst ht
  rcases Rv.next_ hi with ⟨hl, t, ht, hm, hd⟩ | ⟨e, hn, hd⟩
  · have e : nxt E i false = t := by simp [nxt, ht]
    rw [e] at h1 h0
    obtain ⟨hw, hx⟩ := hE.wf t hm
    simp only [hx, decide_false, Bool.not_false, Bool.and_true, beq_eq_false_iff_ne] at h1 h0
    have k2 : t.kind = 2 := by omega
    exact .inr ⟨t.text, t.num, _, by rw [hd]; unfold key; rw [k2]⟩
  · exact .inl hd
end Go.Proofs.YtbkhnilbgocpnaaGreatDoor.SynC
