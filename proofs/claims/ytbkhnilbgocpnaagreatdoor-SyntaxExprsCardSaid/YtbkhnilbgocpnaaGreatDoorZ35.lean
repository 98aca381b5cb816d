import Derived.Test.YtbkhnilbgocpnaaGreatDoorZ0
import Derived.Test.YtbkhnilbgocpnaaGreatDoorZ30
import Derived.BigQuiet
set_option linter.unusedVariables false
set_option linter.unusedSimpArgs false
set_option linter.unusedVariables false
set_option linter.unusedSimpArgs false
namespace Go.Proofs.YtbkhnilbgocpnaaGreatDoor.SynC
open Go.Proofs.YtbkhnilbgocpnaaGreatDoor.LexC
open Go Go.ChangeShapes Go.WideShapes Go.ChangeAt Go.RowKit Go.Deep
structure Rv where
  b : Nat
  base : Nat
  x : Nat
  c : Nat
  A : Option Addr
  L : List Tok
def Rv.ks (E : Rv) : List K := E.L.map key
structure Rv.Ok (E : Rv) : Prop where
  lt : E.b < E.base
  x : E.x ≠ E.b
  xlt : E.x < E.base
  len : E.L.length ≤ 4000
  A : E.L ≠ [] → E.A = some ⟨E.x, 0, none⟩
  wf : ∀ t ∈ E.L, (t.kind = 0 ∨ t.kind = 1 ∨ t.kind = 2) ∧ t.text ≠ []
structure Rp (E : Rv) (w : World) (i : Nat) (b : Bool) : Prop where
  hb : w.heap[E.b]? = some (.cells #[.slice E.A E.L.length E.c, .int .i64 i, .bool b] 81 (0, 0))
  ht : ∀ j u, (cellsT E.L)[j]? = some u → w.cell? ⟨E.x, j, none⟩ = some u
  hi : i ≤ E.L.length
  sz : E.base ≤ w.heap.size
theorem Rp.keep {E : Rv} (hE : E.Ok) {w w' : World} {i : Nat} {b : Bool} (h : Rp E w i b) (k : Below E.base w w') : Rp E w' i b := by
  have hlt := hE.lt
  exact ⟨(k.block E.b hlt).trans h.hb, fun j u hu => (k.cell hE.xlt).trans (h.ht j u hu), h.hi, Nat.le_trans h.sz k.size⟩
theorem Rp.keepB {E : Rv} (hE : E.Ok) {w w' : World} {i : Nat} {b : Bool} (h : Rp E w i b) (k : Below w.heap.size w w') : Rp E w' i b := h.keep hE (k.mono h.sz)
theorem Rp.lt {E : Rv} {w : World} {i : Nat} {b : Bool} (h : Rp E w i b) : E.b < w.heap.size := (Array.getElem?_eq_some_iff.1 h.hb).1
theorem Rp.c {E : Rv} {w : World} {i : Nat} {b : Bool} (h : Rp E w i b) : w.cell? ⟨E.b, 0, none⟩ = some (.slice E.A E.L.length E.c) ∧ w.cell? ⟨E.b, 1, none⟩ = some (.int .i64 i) ∧ w.cell? ⟨E.b, 2, none⟩ = some (.bool b) ∧
    w.frozen? ⟨E.b, 1, none⟩ = false ∧ w.frozen? ⟨E.b, 2, none⟩ = false :=
  ⟨by rw [cell_of_row _ _ 0 _ _ _ h.hb]; rfl, by rw [cell_of_row _ _ 1 _ _ _ h.hb]; rfl, by rw [cell_of_row _ _ 2 _ _ _ h.hb]; rfl, by simp [World.frozen?, h.hb], by simp [World.frozen?, h.hb]⟩
theorem Rp.step {E : Rv} (hE : E.Ok) {w : World} {i j : Nat} {b : Bool} (h : Rp E w i b) (hj : j ≤ E.L.length) : Rp E (w.setCell ⟨E.b, 1, none⟩ (.int .i64 j)) j b := by
  have hk : w.grownBy (w.setCell ⟨E.b, 1, none⟩ (.int .i64 j)) (some E.b) := gb_setCell (gb_refl _ _) (.inl rfl) _
  refine ⟨?_, fun k u hu => hk.cell (h.ht k u hu) (by simp; exact hE.x), hj, Nat.le_trans h.sz hk.size⟩
  simp only [World.setCell, Array.getElem?_modify, if_true, h.hb]
  rfl
theorem Rp.spoil {E : Rv} (hE : E.Ok) {w : World} {i : Nat} {b : Bool} (h : Rp E w i b) : Rp E (w.setCell ⟨E.b, 2, none⟩ (.bool true)) i true := by
  have hk : w.grownBy (w.setCell ⟨E.b, 2, none⟩ (.bool true)) (some E.b) := gb_setCell (gb_refl _ _) (.inl rfl) _
  refine ⟨?_, fun k u hu => hk.cell (h.ht k u hu) (by simp; exact hE.x), h.hi, Nat.le_trans h.sz hk.size⟩
  simp only [World.setCell, Array.getElem?_modify, if_true, h.hb]
  rfl
theorem Rp.tok {E : Rv} {w : World} {i : Nat} {b : Bool} (h : Rp E w i b) {t : Tok} (ht : E.L[i]? = some t) :
    w.cell? ⟨E.x, i * 4, none⟩ = some (.int .i64 t.kind) ∧ w.cell? ⟨E.x, i * 4 + 1, none⟩ = some (.int .i64 t.pos) ∧ w.cell? ⟨E.x, i * 4 + 2, none⟩ = some (.string (bs t.text)) ∧ w.cell? ⟨E.x, i * 4 + 3, none⟩ = some (.int .i32 t.num) :=
  ⟨h.ht _ _ (cellsT_at ht 0 (by omega)), h.ht _ _ (cellsT_at ht 1 (by omega)), h.ht _ _ (cellsT_at ht 2 (by omega)), h.ht _ _ (cellsT_at ht 3 (by omega))⟩
theorem sz_dn (w : World) (n : Nat) : (w.drewN n).heap.size = w.heap.size := rfl
def nxt (E : Rv) (i : Nat) (b : Bool) : Tok := if b then ⟨0, 0, [], 0⟩ else (E.L[i]?).getD ⟨0, 0, [], 0⟩
set_option maxRecDepth 100000 in
set_option maxHeartbeats 2000000 in
theorem rnext_bad {E : Rv} (hE : E.Ok) (w : World) (i : Nat) (h : Rp E w i true) :
    Calls Tryz.prog 95 #[.pointer (some ⟨E.b, 0, none⟩)] w fun e w' => e = .returned (.agg #[.int .i64 0, .int .i64 0, .string (bs []), .int .i32 0]) ∧ Below w.heap.size w w' := by
  obtain ⟨c0, c1, c2, _, _⟩ := (h.keepB hE (bel_al w (.cells #[.int .i64 0, .int .i64 0, .string ⟨#[]⟩, .int .i32 0] 67))).c
  have hlen := hE.len
  clear h
  go_enter Tryz.func95, Tryz.ntmps95
  go_wp2
  go_quiet (fail)
  go_wp2
  refine ret_tok (v0 := .int .i64 0) (v1 := .int .i64 0) (v2 := .string ⟨#[]⟩) (v3 := .int .i32 0) rfl rfl rfl tRESD ⟨rfl, tBELD⟩
end Go.Proofs.YtbkhnilbgocpnaaGreatDoor.SynC
set_option linter.unusedVariables false
set_option linter.unusedSimpArgs false
namespace Go.Proofs.YtbkhnilbgocpnaaGreatDoor.SynC
open Go.Proofs.YtbkhnilbgocpnaaGreatDoor.LexC
open Go Go.ChangeShapes Go.WideShapes Go.ChangeAt Go.RowKit Go.Deep
set_option maxRecDepth 100000 in
set_option maxHeartbeats 2000000 in
theorem rnext_end {E : Rv} (hE : E.Ok) (w : World) (i : Nat) (h : Rp E w i false) (hi : E.L.length ≤ i) :
    Calls Tryz.prog 95 #[.pointer (some ⟨E.b, 0, none⟩)] w fun e w' => e = .returned (.agg #[.int .i64 0, .int .i64 0, .string (bs []), .int .i32 0]) ∧ Below w.heap.size w w' := by
  obtain ⟨c0, c1, c2, _, _⟩ := (h.keepB hE (bel_al w (.cells #[.int .i64 0, .int .i64 0, .string ⟨#[]⟩, .int .i32 0] 67))).c
  have hlen := hE.len
  have hd : decide ((E.L.length : Int) ≤ i) = true := by simp; omega
  clear h
  go_enter Tryz.func95, Tryz.ntmps95
  go_wp2
  go_quiet (fail)
  go_wp2
  refine ret_tok (v0 := .int .i64 0) (v1 := .int .i64 0) (v2 := .string ⟨#[]⟩) (v3 := .int .i32 0) rfl rfl rfl tRESD ⟨rfl, tBELD⟩
set_option maxRecDepth 100000 in
set_option maxHeartbeats 2000000 in
theorem rnext_good {E : Rv} (hE : E.Ok) (w : World) (i : Nat) (h : Rp E w i false) (t : Tok) (ht : E.L[i]? = some t) :
    Calls Tryz.prog 95 #[.pointer (some ⟨E.b, 0, none⟩)] w fun e w' => e = .returned (.agg #[.int .i64 t.kind, .int .i64 t.pos, .string (bs t.text), .int .i32 t.num]) ∧ Below w.heap.size w w' := by
  have h' := h.keepB hE (bel_al w (.cells #[.int .i64 0, .int .i64 0, .string ⟨#[]⟩, .int .i32 0] 67))
  obtain ⟨c0, c1, c2, _, _⟩ := h'.c
  obtain ⟨k0, k1, k2, k3⟩ := h'.tok ht
  have hA := hE.A (by intro e; rw [e] at ht; simp at ht)
  rw [hA] at c0
  have hl := (List.getElem?_eq_some_iff.1 ht).1
  have hx : (0 : Int) ≤ i ∧ (i : Int) < E.L.length := ⟨by omega, by omega⟩
  have hd : decide ((E.L.length : Int) ≤ i) = false := by simp; omega
  have hlen := hE.len
  clear h h' ht hA
  go_enter Tryz.func95, Tryz.ntmps95
  go_wp2
  go_quiet (fail)
  go_wp2
  go_region
  all_goals (try go_wp2)
  all_goals refine ret_tok rfl rfl rfl tRESD ⟨rfl, tBELD⟩
theorem Rv.next_ {E : Rv} {i : Nat} (hi : i ≤ E.L.length) :
    (i < E.L.length ∧ ∃ t, E.L[i]? = some t ∧ t ∈ E.L ∧ E.ks.drop i = key t :: E.ks.drop (i + 1)) ∨ (i = E.L.length ∧ E.L[i]? = none ∧ E.ks.drop i = []) := by
  by_cases h : i < E.L.length
  · refine .inl ⟨h, E.L[i], List.getElem?_eq_getElem h, List.getElem_mem h, ?_⟩
    unfold Rv.ks; rw [List.drop_eq_getElem_cons (by simpa using h)]; simp
  · have e : i = E.L.length := by omega
    refine .inr ⟨e, by simp [e], ?_⟩
    unfold Rv.ks; rw [List.drop_eq_nil_of_le (by simp; omega)]
theorem rnext {E : Rv} (hE : E.Ok) (w : World) (i : Nat) (b : Bool) (h : Rp E w i b) (t : Tok) (ht : nxt E i b = t) :
    Calls Tryz.prog 95 #[.pointer (some ⟨E.b, 0, none⟩)] w fun e w' => e = .returned (.agg #[.int .i64 t.kind, .int .i64 t.pos, .string (bs t.text), .int .i32 t.num]) ∧ Below w.heap.size w w' := by
  subst ht
  cases b
  · rcases Rv.next_ h.hi with ⟨_, t, ht, _⟩ | ⟨e, hn, _⟩
    · have : nxt E i false = t := by simp [nxt, ht]
      rw [this]; exact rnext_good hE w i h t ht
    · have : nxt E i false = ⟨0, 0, [], 0⟩ := by simp [nxt, hn]
      rw [this]; exact rnext_end hE w i h (by omega)
  · exact rnext_bad hE w i h
def hitB (E : Rv) (i : Nat) (b : Bool) (s : List UInt8) : Bool := !b && hit s (E.ks.drop i)
theorem nxt_hit {E : Rv} {i : Nat} {b : Bool} (hi : i ≤ E.L.length) {t : Tok} (ht : nxt E i b = t) (s : List UInt8) : (t.kind == 2 && decide (t.text = s)) = hitB E i b s := by
  subst ht
  unfold hitB
  cases b
  · rcases Rv.next_ hi with ⟨_, t, ht, _, hd⟩ | ⟨e, hn, hd⟩
    · have : nxt E i false = t := by simp [nxt, ht]
      rw [this, hd]
      simp [hit, isS, key]
      rw [Bool.eq_iff_iff]; simp
    · have : nxt E i false = ⟨0, 0, [], 0⟩ := by simp [nxt, hn]
      rw [this, hd]; simp [hit]
  · simp [nxt]
set_option maxRecDepth 100000 in
set_option maxHeartbeats 2000000 in
theorem ris {E : Rv} (hE : E.Ok) (w : World) (i : Nat) (b : Bool) (h : Rp E w i b) (s : List UInt8) (r : Bool) (hr : hitB E i b s = r) :
    Calls Tryz.prog 137 #[.pointer (some ⟨E.b, 0, none⟩), .string (bs s)] w fun e w' => e = .returned (.bool r) ∧ Below w.heap.size w w' := by
  subst hr
  obtain ⟨t, ht⟩ : ∃ t, nxt E i b = t := ⟨_, rfl⟩
  have hh := nxt_hit h.hi ht s
  have HN := Lib.hid (rnext hE w i b h t ht)
  rw [← hh]
  clear h ht hh
  cases hk : (t.kind == 2)
  · go_enter Tryz.func137, Tryz.ntmps137
    go_wp2_with fail
    refine HN.out.mono ?_
    rintro e w1 ⟨rfl, hb1⟩
    have HB := Lib.hid hb1
    clear hb1
    go_wp2
    go_ret
    exact ⟨rfl, seq HB.out (bel_al _ _)⟩
  · have hq := beq_bs t.text s
    obtain ⟨q, hq2⟩ : ∃ q, decide (t.text = s) = q := ⟨_, rfl⟩
    rw [hq2] at hq ⊢
    clear hq2
    go_enter Tryz.func137, Tryz.ntmps137
    go_wp2_with fail
    refine HN.out.mono ?_
    rintro e w1 ⟨rfl, hb1⟩
    have HB := Lib.hid hb1
    clear hb1
    go_wp2
    go_ret
    exact ⟨rfl, seq HB.out (bel_al _ _)⟩
theorem hitB_lt {E : Rv} {i : Nat} {b : Bool} {s : List UInt8} (h : hitB E i b s = true) : b = false ∧ hit s (E.ks.drop i) = true ∧ i < E.L.length := by
  unfold hitB at h
  simp only [Bool.and_eq_true, Bool.not_eq_true'] at h
  refine ⟨h.1, h.2, ?_⟩
  by_cases hi : i < E.L.length
  · exact hi
  · have h2 := h.2; unfold Rv.ks at h2; rw [List.drop_eq_nil_of_le (by simp; omega)] at h2; cases h2
set_option maxRecDepth 100000 in
set_option maxHeartbeats 2000000 in
theorem reat {E : Rv} (hE : E.Ok) (w : World) (i : Nat) (b : Bool) (h : Rp E w i b) (s : List UInt8) :
    Calls Tryz.prog 80 #[.pointer (some ⟨E.b, 0, none⟩), .string (bs s)] w fun e w' => w.grownBy w' (some E.b) ∧
      ((hitB E i b s = true ∧ e = .returned (.bool true) ∧ Rp E w' (i + 1) false) ∨ (hitB E i b s = false ∧ e = .returned (.bool false) ∧ Rp E w' i b)) := by
  have HP := Lib.hid h
  have hlen := hE.len
  have hsz := h.sz
  have hlt := hE.lt
  cases hh : hitB E i b s
  · have HI := Lib.hid (ris hE w i b h s _ hh)
    clear h hh
    go_enter Tryz.func80, Tryz.ntmps80
    go_wp2_with fail
    refine HI.out.mono ?_
    rintro e w1 ⟨rfl, hb1⟩
    have HB := Lib.hid hb1
    clear hb1
    go_wp2
    go_ret
    exact ⟨gb_below HB.out _, .inr ⟨trivial, rfl, HP.out.keepB hE HB.out⟩⟩
  · have HI := Lib.hid (ris hE w i b h s _ hh)
    obtain ⟨rfl, _, hil⟩ := hitB_lt hh
    clear h hh
    go_enter Tryz.func80, Tryz.ntmps80
    go_wp2_with fail
    refine HI.out.mono ?_
    rintro e w1 ⟨rfl, hb1⟩
    have HB := Lib.hid hb1
    have hp1 := HP.out.keepB hE hb1
    obtain ⟨c0, c1, c2, f1, f2⟩ := hp1.c
    have HP1 := Lib.hid hp1
    clear hb1 hp1 c0 c2 f2
    go_wp2
    go_ret
    refine ⟨gb_setCell (gb_below HB.out _) (.inl rfl) _, .inl ⟨trivial, rfl, ?_⟩⟩
    have := HP1.out.step hE (j := i + 1) (by omega)
    simpa using this
end Go.Proofs.YtbkhnilbgocpnaaGreatDoor.SynC
set_option linter.unusedVariables false
set_option linter.unusedSimpArgs false
namespace Go.Proofs.YtbkhnilbgocpnaaGreatDoor.SynC
open Go.Proofs.YtbkhnilbgocpnaaGreatDoor.LexC
open Go Go.ChangeShapes Go.WideShapes Go.ChangeAt Go.RowKit Go.Deep
def mkR {α : Type} (b : Bool) (a : α) (l : List K) : Res α := if b then .no l else .ok a l
def Ro {α : Type} (E : Rv) (w : World) (R : Res α) (V : World → Value → α → Prop) (e : Ending) (w' : World) : Prop :=
  w.grownBy w' (some E.b) ∧ ∃ (b : Bool) (j : Nat) (v : Value) (a : α), R = mkR b a (E.ks.drop j) ∧ Rp E w' j b ∧ e = .returned v ∧ V w' v a
def at0 {α : Type} (E : Rv) (i : Nat) (b : Bool) (f : List K → Res α) : Res α := (mkR b () (E.ks.drop i)).bind fun _ r => f r
theorem at0_true {α : Type} {E : Rv} {i : Nat} {f : List K → Res α} : at0 E i true f = .no (E.ks.drop i) := rfl
theorem at0_false {α : Type} {E : Rv} {i : Nat} {f : List K → Res α} : at0 E i false f = f (E.ks.drop i) := rfl
theorem mk_true {α : Type} {a : α} {l : List K} : mkR true a l = .no l := rfl
theorem mk_false {α : Type} {a : α} {l : List K} : mkR false a l = .ok a l := rfl
theorem mk_next {α β γ : Type} {E : Rv} {i j : Nat} {b b' : Bool} {a : α} {a' : β} {f : List K → Res β} (h : at0 E i b f = mkR b' a' (E.ks.drop j)) (k : α → β → List K → Res γ) :
    (mkR b a (E.ks.drop i)).bind (fun e r => (f r).bind (k e)) = (mkR b' a' (E.ks.drop j)).bind (k a) := by
  cases b
  · rw [at0_false] at h; rw [mk_false, ok_bind, h]
  · rw [at0_true] at h; rw [mk_true, no_bind]
    cases b'
    · cases h
    · rw [mk_true] at h ⊢; injection h with h; rw [h]; rfl
theorem mk_first {β γ : Type} {E : Rv} {i j : Nat} {b b' : Bool} {a' : β} {f : List K → Res β} (h : at0 E i b f = mkR b' a' (E.ks.drop j)) (k : β → List K → Res γ) :
    at0 E i b (fun r => (f r).bind k) = (mkR b' a' (E.ks.drop j)).bind k := mk_next (a := ()) h fun _ => k
theorem mk_last {α β : Type} {b : Bool} {a : α} {l : List K} (g : α → β) : (mkR b a l).bind (fun e r => .ok (g e) r) = mkR b (g a) l := by cases b <;> rfl
theorem mk_adv {α : Type} {E : Rv} {i j : Nat} {b b' : Bool} {a : α} {f : List K → Res α} (hj : j ≤ E.L.length) (hf : ∀ l a r, f l = .ok a r → r.length < l.length) (h : at0 E i b f = mkR b' a (E.ks.drop j)) (hb : b' = false) : i < j := by
  subst hb
  cases b
  · rw [at0_false, mk_false] at h
    have := hf _ _ _ h
    simp [Rv.ks] at this; omega
  · cases h
theorem rneedS_yes {E : Rv} {i : Nat} {s : List UInt8} (h : hit s (E.ks.drop i) = true) (hi : i ≤ E.L.length) : needS s (E.ks.drop i) = .ok () (E.ks.drop (i + 1)) := by
  rcases Rv.next_ hi with ⟨_, t, _, _, hd⟩ | ⟨e, _, hd⟩
  · rw [hd] at h ⊢; exact need_hit h
  · rw [hd] at h; cases h
theorem rneedS_no {E : Rv} {i : Nat} {s : List UInt8} (hi : i ≤ E.L.length) (h : hit s (E.ks.drop i) = false) : needS s (E.ks.drop i) = .no (E.ks.drop i) := by
  rcases Rv.next_ hi with ⟨_, t, _, _, hd⟩ | ⟨_, _, hd⟩
  · rw [hd] at h ⊢
    unfold needS need
    simp only [hit] at h
    simp [h]
  · rw [hd]; rfl
set_option maxRecDepth 100000 in
set_option maxHeartbeats 2000000 in
theorem rneed {E : Rv} (hE : E.Ok) (w : World) (i : Nat) (b : Bool) (h : Rp E w i b) (s : List UInt8) :
    Calls Tryz.prog 84 #[.pointer (some ⟨E.b, 0, none⟩), .string (bs s)] w (Ro E w (at0 E i b (needS s)) VU) := by
  have HP := Lib.hid h
  have HE := Lib.hid (reat hE w i b h s)
  have hi := h.hi
  have hsz := h.sz
  have hlt := hE.lt
  clear h
  go_enter Tryz.func84, Tryz.ntmps84
  go_wp2_with fail
  refine HE.out.mono ?_
  rintro e w1 ⟨hg, ⟨hh, rfl, hp⟩ | ⟨hh, rfl, hp⟩⟩
  · have HH := Lib.hid hh
    clear hh
    go_wp2
    go_end0
    obtain ⟨rfl, h1, _⟩ := hitB_lt HH.out
    exact ⟨hg, false, i + 1, _, (), by rw [at0_false, mk_false, rneedS_yes h1 hi], hp, rfl, rfl⟩
  · have HH := Lib.hid hh
    have HP1 := Lib.hid hp
    obtain ⟨c0, c1, c2, f1, f2⟩ := hp.c
    clear hh hp c0 c1 f1
    go_wp2
    go_end0
    refine ⟨gb_setCell hg (.inl rfl) _, true, i, _, (), ?_, HP1.out.spoil hE, rfl, rfl⟩
    rw [mk_true]
    cases b
    · rw [at0_false]; exact rneedS_no hi (by simpa [hitB] using HH.out)
    · rfl
theorem nxt_name {E : Rv} (hE : E.Ok) {i : Nat} {b : Bool} (hi : i ≤ E.L.length) {t : Tok} (ht : nxt E i b = t) :
    ((t.kind == 0) = true ∧ t.text ≠ [] ∧ b = false ∧ i < E.L.length ∧ at0 E i b needN' = .ok t.text (E.ks.drop (i + 1))) ∨ (((t.kind == 0) = false ∨ t.text = []) ∧ at0 E i b needN' = .no (E.ks.drop i)) := by
  subst ht
  cases b
  · rcases Rv.next_ hi with ⟨hl, t, ht, hm, hd⟩ | ⟨e, hn, hd⟩
    · have : nxt E i false = t := by simp [nxt, ht]
      rw [this, at0_false, hd]
      have hw := (hE.wf t hm).2
      cases hk : (t.kind == 0)
      · exact .inr ⟨.inl rfl, by unfold needN' needN; simp [key] at hk ⊢; simp [hk]⟩
      · exact .inl ⟨rfl, hw, rfl, hl, by unfold needN' needN; simp [key] at hk ⊢; simp [hk]⟩
    · have : nxt E i false = ⟨0, 0, [], 0⟩ := by simp [nxt, hn]
      rw [this, at0_false, hd]
      exact .inr ⟨.inr rfl, rfl⟩
  · exact .inr ⟨.inr rfl, rfl⟩
theorem nxt_int {E : Rv} {i : Nat} {b : Bool} (hi : i ≤ E.L.length) {t : Tok} (ht : nxt E i b = t) :
    ((t.kind == 1) = true ∧ b = false ∧ i < E.L.length ∧ at0 E i b needI' = .ok t.num (E.ks.drop (i + 1))) ∨ ((t.kind == 1) = false ∧ at0 E i b needI' = .no (E.ks.drop i)) := by
  subst ht
  cases b
  · rcases Rv.next_ hi with ⟨hl, t, ht, hm, hd⟩ | ⟨e, hn, hd⟩
    · have : nxt E i false = t := by simp [nxt, ht]
      rw [this, at0_false, hd]
      cases hk : (t.kind == 1)
      · exact .inr ⟨rfl, by unfold needI' needI; simp [key] at hk ⊢; simp [hk]⟩
      · exact .inl ⟨rfl, rfl, hl, by unfold needI' needI; simp [key] at hk ⊢; simp [hk]⟩
    · have : nxt E i false = ⟨0, 0, [], 0⟩ := by simp [nxt, hn]
      rw [this, at0_false, hd]
      exact .inr ⟨rfl, rfl⟩
  · exact .inr ⟨rfl, rfl⟩
theorem bs_isE (x : List UInt8) : (bs x).toList.isEmpty = decide (x = []) := by
  rw [bs_empty]; cases x <;> rfl
set_option maxRecDepth 100000 in
set_option maxHeartbeats 2000000 in
theorem rname {E : Rv} (hE : E.Ok) (w : World) (i : Nat) (b : Bool) (h : Rp E w i b) :
    Calls Tryz.prog 81 #[.pointer (some ⟨E.b, 0, none⟩)] w (Ro E w (at0 E i b needN') VN) := by
  have HP := Lib.hid h
  obtain ⟨t, ht⟩ : ∃ t, nxt E i b = t := ⟨_, rfl⟩
  have HN := Lib.hid (rnext hE w i b h t ht)
  have hlen := hE.len
  have hi := h.hi
  have hsz := h.sz
  have hlt := hE.lt
  have hq := bs_isE t.text
  rcases nxt_name hE hi ht with ⟨hk, hx, rfl, hil, hR⟩ | ⟨hk, hR⟩
  · rw [decide_eq_false hx] at hq
    have hk' : (t.kind != 0) = false := by simp [bne, hk]
    have HR := Lib.hid hR
    clear h ht hR hk hx
    go_enter Tryz.func81, Tryz.ntmps81
    go_wp2_with fail
    refine HN.out.mono ?_
    rintro e w1 ⟨rfl, hb1⟩
    have HB := Lib.hid hb1
    have hz1 := hb1.size
    have hp1 := (HP.out.keepB hE hb1).keepB hE (bel_al w1 (.cells #[.int .i64 t.kind, .int .i64 t.pos, .string (bs t.text), .int .i32 t.num] 67))
    obtain ⟨c0, c1, c2, f1, f2⟩ := hp1.c
    have HP1 := Lib.hid hp1
    clear hb1 hp1 c0 c2 f2
    go_wp2
    go_ret
    refine ⟨gb_setCell (gb_alloc (gb_below HB.out _) _) (.inl rfl) _, false, i + 1, _, t.text, HR.out, ?_, rfl, rfl⟩
    have := HP1.out.step hE (j := i + 1) (by omega)
    simpa using this
  · have HR := Lib.hid hR
    clear h ht hR
    have hcc : (t.kind != 0) = true ∨ ((t.kind != 0) = false ∧ (bs t.text).toList.isEmpty = true) := by
      cases hk2 : (t.kind == 0)
      · left; simp [bne, hk2]
      · right
        refine ⟨by simp [bne, hk2], ?_⟩
        rcases hk with hk | hk
        · rw [hk2] at hk; cases hk
        · rw [hq]; simp [hk]
    clear hk hq
    rcases hcc with hk | ⟨hk, hq⟩
    all_goals
      go_enter Tryz.func81, Tryz.ntmps81
      go_wp2_with fail
      refine HN.out.mono ?_
      rintro e w1 ⟨rfl, hb1⟩
      have HB := Lib.hid hb1
      have hz1 := hb1.size
      have hp1 := (HP.out.keepB hE hb1).keepB hE (bel_al w1 (.cells #[.int .i64 t.kind, .int .i64 t.pos, .string (bs t.text), .int .i32 t.num] 67))
      obtain ⟨c0, c1, c2, f1, f2⟩ := hp1.c
      have HP1 := Lib.hid hp1
      clear hb1 hp1 c0 c1 f1
      go_wp2
      go_ret
      exact ⟨gb_setCell (gb_alloc (gb_below HB.out _) _) (.inl rfl) _, true, i, _, [], HR.out, HP1.out.spoil hE, rfl, rfl⟩
def VI (_ : World) (v : Value) (n : Int) : Prop := v = .int .i32 n
set_option maxRecDepth 100000 in
set_option maxHeartbeats 2000000 in
theorem rint {E : Rv} (hE : E.Ok) (w : World) (i : Nat) (b : Bool) (h : Rp E w i b) :
    Calls Tryz.prog 140 #[.pointer (some ⟨E.b, 0, none⟩)] w (Ro E w (at0 E i b needI') VI) := by
  have HP := Lib.hid h
  obtain ⟨t, ht⟩ : ∃ t, nxt E i b = t := ⟨_, rfl⟩
  have HN := Lib.hid (rnext hE w i b h t ht)
  have hlen := hE.len
  have hi := h.hi
  have hsz := h.sz
  have hlt := hE.lt
  rcases nxt_int hi ht with ⟨hk, rfl, hil, hR⟩ | ⟨hk, hR⟩
  · have hk' : (t.kind != 1) = false := by simp [bne, hk]
    have HR := Lib.hid hR
    clear h ht hR hk
    go_enter Tryz.func140, Tryz.ntmps140
    go_wp2_with fail
    refine HN.out.mono ?_
    rintro e w1 ⟨rfl, hb1⟩
    have HB := Lib.hid hb1
    have hz1 := hb1.size
    have hp1 := (HP.out.keepB hE hb1).keepB hE (bel_al w1 (.cells #[.int .i64 t.kind, .int .i64 t.pos, .string (bs t.text), .int .i32 t.num] 67))
    obtain ⟨c0, c1, c2, f1, f2⟩ := hp1.c
    have HP1 := Lib.hid hp1
    clear hb1 hp1 c0 c2 f2
    go_wp2
    go_ret
    refine ⟨gb_setCell (gb_alloc (gb_below HB.out _) _) (.inl rfl) _, false, i + 1, _, t.num, HR.out, ?_, rfl, rfl⟩
    have := HP1.out.step hE (j := i + 1) (by omega)
    simpa using this
  · have hk' : (t.kind != 1) = true := by simp [bne, hk]
    have HR := Lib.hid hR
    clear h ht hR hk
    go_enter Tryz.func140, Tryz.ntmps140
    go_wp2_with fail
    refine HN.out.mono ?_
    rintro e w1 ⟨rfl, hb1⟩
    have HB := Lib.hid hb1
    have hz1 := hb1.size
    have hp1 := (HP.out.keepB hE hb1).keepB hE (bel_al w1 (.cells #[.int .i64 t.kind, .int .i64 t.pos, .string (bs t.text), .int .i32 t.num] 67))
    obtain ⟨c0, c1, c2, f1, f2⟩ := hp1.c
    have HP1 := Lib.hid hp1
    clear hb1 hp1 c0 c1 f1
    go_wp2
    go_ret
    exact ⟨gb_setCell (gb_alloc (gb_below HB.out _) _) (.inl rfl) _, true, i, _, 0, HR.out, HP1.out.spoil hE, rfl, rfl⟩
end Go.Proofs.YtbkhnilbgocpnaaGreatDoor.SynC
