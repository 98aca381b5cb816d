import Derived.Test.YtbkhnilbgocpnaaGreatDoorZ0
import Derived.Test.YtbkhnilbgocpnaaGreatDoorZ18
import Derived.Test.YtbkhnilbgocpnaaGreatDoorZ1
import Derived.Deep.QuietTactic
set_option linter.unusedVariables false
set_option linter.unusedSimpArgs false
namespace Go.Proofs.YtbkhnilbgocpnaaGreatDoor.SynC
open Go.Proofs.YtbkhnilbgocpnaaGreatDoor.LexC
open Go Go.ChangeShapes Go.WideShapes Go.ChangeAt Go.RowKit Go.Deep
theorem nm_eq : isName = nmL := by
  funext l
  cases l with
  | nil => rfl
  | cons c r => rfl
def writ (q : Pg) : List UInt8 := txt (q.its.flatMap (tI dgL))
def validP (q : Pg) : Bool := fitP q && decide ((writ q).length ≤ 4000)
def textP (q : Pg) : List UInt8 × Int := if validP q then (writ q, 0) else ([], 1)
theorem fitSs_ok {nm : List UInt8 → Bool} {p lv : Int} {l : List St} (h : fitSs nm p lv l = true) : okSs nm l = true := by
  unfold fitSs at h; simp only [Bool.and_eq_true] at h; exact h.1.1.1
theorem fitF_ok {p : Int} {f : Fn} (h : fitF p f = true) : okI isName f.it = true := by
  unfold fitF at h
  simp only [Bool.and_eq_true, decide_eq_true_eq] at h
  show ((isName f.name && f.params.all isName && decide (f.params.length ≤ 6)) && okSs isName f.body) = true
  rw [h.1.1.1, h.1.2, fitSs_ok h.2]
  simp; exact h.1.1.2
theorem fitK_ok {p : Int} {f : Kr} (h : fitK p f = true) : okI isName f.it = true := by
  unfold fitK at h
  simp only [Bool.and_eq_true, decide_eq_true_eq] at h
  obtain ⟨⟨⟨⟨⟨h1, h2⟩, h3⟩, h4⟩, h5⟩, h6⟩ := h
  show ((isName f.name && f.params.all (fun a => isName a.1) && decide (f.params.length ≤ 6) && f.shared.all (fun a => isName a.1 && decide (1 ≤ a.2 ∧ a.2 ≤ 64)) && decide (f.shared.length ≤ 4)) && okSs isName f.body) = true
  have e1 : f.params.all (fun a => isName a.1) = true := h3
  have e2 : f.shared.all (fun a => isName a.1 && decide (1 ≤ a.2 ∧ a.2 ≤ 64)) = true := by
    rw [List.all_eq_true] at h5 ⊢
    intro a ha
    have := h5 a ha
    simp only [arrB, Bool.and_eq_true, decide_eq_true_eq] at this
    simp [this.1.1, this.1.2, this.2]
  rw [h1, e1, e2, fitSs_ok h6]
  simp; omega
theorem fitFs_ok : ∀ (l : List Fn) (p : Int), fitFs p l = true → ∀ f ∈ l, okI isName f.it = true
  | [], _, _ => fun _ h => by cases h
  | f :: r, p, h => by
    rw [fitFs, Bool.and_eq_true] at h
    intro g hg
    rcases List.mem_cons.1 hg with rfl | hg
    · exact fitF_ok h.1
    · exact fitFs_ok r _ h.2 g hg
theorem fitKs_ok : ∀ (l : List Kr) (p : Int), fitKs p l = true → ∀ f ∈ l, okI isName f.it = true
  | [], _, _ => fun _ h => by cases h
  | f :: r, p, h => by
    rw [fitKs, Bool.and_eq_true] at h
    intro g hg
    rcases List.mem_cons.1 hg with rfl | hg
    · exact fitK_ok h.1
    · exact fitKs_ok r _ h.2 g hg
theorem fitKs_le : ∀ (l : List Kr) (p : Int), p ≤ 400 → fitKs p l = true → p + sumP (bodK l) ≤ 400
  | [], p, hp, _ => by simp [bodK, sumP]; exact hp
  | f :: r, p, hp, h => by
    rw [fitKs, Bool.and_eq_true] at h
    have h1 := fitK_le h.1
    have := fitKs_le r _ h1 h.2
    show p + sumP (f.body :: bodK r) ≤ 400
    rw [sumP]; omega
theorem fitP_ok {q : Pg} (h : fitP q = true) : OkP isName q := by
  unfold fitP at h
  rw [Bool.and_eq_true] at h
  intro i hi
  rcases List.mem_append.1 hi with hi | hi
  · obtain ⟨f, hf, rfl⟩ := List.mem_map.1 hi
    exact fitFs_ok _ _ h.1 f hf
  · obtain ⟨f, hf, rfl⟩ := List.mem_map.1 hi
    exact fitKs_ok _ _ h.2 f hf
theorem fitP_le {q : Pg} (h : fitP q = true) : partsP q ≤ 400 := by
  unfold fitP at h
  rw [Bool.and_eq_true] at h
  have h1 := fitFs_le _ _ (by omega) h.1
  exact fitKs_le _ _ (by omega) h.2
theorem partsIs_append (a b : List It) : partsIs (a ++ b) = partsIs a + partsIs b := by
  induction a with
  | nil => simp [partsIs]
  | cons i a ih => rw [List.cons_append, partsIs, partsIs, ih]; omega
theorem partsIs_its (q : Pg) : partsIs q.its = partsP q := by
  unfold Pg.its partsP
  rw [partsIs_append]
  have h1 : ∀ l : List Fn, partsIs (l.map Fn.it) = sumP (bodF l) := by
    intro l
    induction l with
    | nil => rfl
    | cons f l ih => rw [List.map_cons, partsIs, ih]; rfl
  have h2 : ∀ l : List Kr, partsIs (l.map Kr.it) = sumP (bodK l) := by
    intro l
    induction l with
    | nil => rfl
    | cons f l ih => rw [List.map_cons, partsIs, ih]; rfl
  rw [h1, h2]
theorem its_len (q : Pg) : q.its.length = q.fns.length + q.krs.length := by simp [Pg.its]
theorem fit_room {q : Pg} (h : fitP q = true) (hl : q.fns.length + q.krs.length ≤ 4001) : (q.its.flatMap (tI dgL)).length ≤ 400000 ∧ (writ q).length ≤ 5000000 := by
  have hok := fitP_ok h
  have h1 := tIs_len isName q.its hok
  rw [partsIs_its, its_len] at h1
  have h2 := fitP_le h
  have h3 : SmKs (q.its.flatMap (tI dgL)) := smKs_flat fun i hi => sm_I i (by rw [← nm_eq]; exact hok i hi)
  have h4 := txt_len _ h3
  have h5 : (q.its.flatMap (tI dgL)).length ≤ 243660 := by omega
  exact ⟨by omega, by show (txt _).length ≤ _; omega⟩
structure Gl (w : World) : Prop where
  glob : Glob w
  pow : Gv w 7 powA
  tabs : Tabs w
  z : 10 ≤ w.heap.size
theorem Gl.below {w w' : World} {B : Nat} (h : Gl w) (k : Below B w w') (hB : 10 ≤ B) : Gl w' := by
  have gv : ∀ {g cs}, g < 10 → Gv w g cs → Gv w' g cs := fun hg ⟨ty, fr, h⟩ => ⟨ty, fr, (k.block _ (by omega)).trans h⟩
  exact ⟨h.glob.below k hB, gv (by omega) h.pow, ⟨gv (by omega) h.tabs.exs, gv (by omega) h.tabs.sts, gv (by omega) h.tabs.fold⟩, Nat.le_trans h.z k.size⟩
theorem Gl.bel {w w' : World} (h : Gl w) (k : Below w.heap.size w w') : Gl w' := h.below k h.z
theorem Gl.alloc {w : World} (h : Gl w) (o : Obj) : Gl (w.alloc o) := h.bel ((Below.refl _ _).alloc (Nat.le_refl _) _)
theorem Gl.drew {w : World} (h : Gl w) : Gl w.drew := h.bel ((Below.refl _ _).drew)
structure PgIn (w : World) (A : Option Addr) (m c : Nat) (B : Option Addr) (mb cb : Nat) (q : Pg) : Prop where
  f : SlR rdF 3 (fun g => g < w.heap.size) w (.slice A m c) q.fns
  k : SlR rdK 4 (fun g => g < w.heap.size) w (.slice B mb cb) q.krs
  gf : ∀ a ∈ q.fns, rgF a
  gk : ∀ a ∈ q.krs, rgK a
  len : q.fns.length + q.krs.length ≤ 4001
theorem PgIn.below {w w' : World} {A : Option Addr} {m c : Nat} {B : Option Addr} {mb cb : Nat} {q : Pg} (h : PgIn w A m c B mb cb q) (k : Below w.heap.size w w') : PgIn w' A m c B mb cb q :=
  ⟨h.f.keeps rdF_ok (keeps_below k fun _ hb => hb) (fun _ hb => Nat.lt_of_lt_of_le hb k.size), h.k.keeps rdK_ok (keeps_below k fun _ hb => hb) (fun _ hb => Nat.lt_of_lt_of_le hb k.size), h.gf, h.gk, h.len⟩
theorem bel_al (w : World) (o : Obj) : Below w.heap.size w (w.alloc o) := (Below.refl _ _).alloc (Nat.le_refl _) _
theorem seq {a b c : World} (h : Below a.heap.size a b) (k : Below b.heap.size b c) : Below a.heap.size a c := h.trans (k.mono h.size)
set_option maxRecDepth 100000 in
set_option maxHeartbeats 2000000 in
theorem text_any (q : Pg) (w : World) (A : Option Addr) (m c : Nat) (B : Option Addr) (mb cb : Nat) (hG : Gl w) (hp : PgIn w A m c B mb cb q) :
    Calls Tryz.prog 22 #[.agg #[.slice A m c, .slice B mb cb]] w fun e w' => e = .returned (.tuple #[.string (bs (textP q).1), .int .i64 (textP q).2]) ∧ Below w.heap.size w w' := by
  have hM : ∀ w1, Below w.heap.size w w1 → Calls Tryz.prog 53 #[.agg #[.slice A m c, .slice B mb cb]] w1 fun e w' => Below w1.heap.size w1 w' ∧ ∃ p2 d2 : Int, e = .returned (.tuple #[.agg #[.int .i64 p2, .int .i64 d2], .bool (fitP q)]) ∧ (fitP q = true → p2 = partsP q ∧ d2 = depthP q) :=
    fun w1 h1 => measureProgram_any q w1 A m c B mb cb (hG.bel h1).z (hG.bel h1).tabs (hp.below h1).f (hp.below h1).k hp.gf hp.gk (by have := hp.len; omega) (by have := hp.len; omega)
  have HM := Lib.hid hM
  clear hM
  cases hb : fitP q
  · have hv : textP q = ([], 1) := by unfold textP validP; rw [hb]; rfl
    rw [hv]
    have HB := Lib.hid hb
    clear hv hb hp
    go_enter Tryz.func22, Tryz.ntmps22
    go_wp2_with fail
    refine (HM.out _ (bel_al _ _)).mono ?_
    rintro e w1 ⟨hb1, p2, d2, rfl, -⟩
    rw [HB.out]
    have HB1 := Lib.hid (seq (bel_al _ _) hb1)
    clear hb1
    go_wp2
    go_ret2
    exact ⟨rfl, by have := HB1.out; exact seq (seq this (bel_al _ _)) tBEL⟩
  · have hr := fit_room hb hp.len
    have hW : ∀ w1, Below w.heap.size w w1 → Calls Tryz.prog 54 #[.agg #[.slice A m c, .slice B mb cb]] w1 fun e w' => e = .returned (.string (bs (writ q))) ∧ Below w1.heap.size w1 w' :=
      fun w1 h1 => programText_w fmtU itoS q (fitP_ok hb) w1 (hG.bel h1).glob (hG.bel h1).pow (hG.bel h1).z A m c B mb cb (hp.below h1).f (hp.below h1).k hr.1 hr.2
    have HW := Lib.hid hW
    have HB := Lib.hid hb
    have hlt : decide ((4000 : Int) < ((bs (writ q)).size : Nat)) = !decide ((writ q).length ≤ 4000) := by rw [bs_size]; by_cases h : (writ q).length ≤ 4000 <;> simp [h] <;> omega
    have hv : textP q = if (writ q).length ≤ 4000 then (writ q, 0) else ([], 1) := by unfold textP validP; rw [hb]; simp
    rw [hv]
    clear hv hb hp hW hr
    by_cases h4 : (writ q).length ≤ 4000
    · rw [if_pos h4]
      simp only [h4, decide_true, Bool.not_true] at hlt
      clear h4
      go_enter Tryz.func22, Tryz.ntmps22
      go_wp2_with fail
      refine (HM.out _ (bel_al _ _)).mono ?_
      rintro e w1 ⟨hb1, p2, d2, rfl, -⟩
      rw [HB.out]
      obtain ⟨_, _, _, k0⟩ := loc_keep (q := w.heap.size) (gb_below hb1 (some 1)) tLOC (by have := hG.z; omega)
      have HB1 := Lib.hid (seq (bel_al _ _) hb1)
      clear hb1
      go_wp2_with fail
      refine (HW.out _ (seq HB1.out ((bel_al _ _).trans tBEL))).mono ?_
      rintro e w2 ⟨rfl, hb2⟩
      have HB2 := Lib.hid (seq (seq HB1.out (bel_al _ (.cells #[.int .i64 p2, .int .i64 d2] 96))) hb2)
      clear hb2
      go_wp2
      go_ret2
      exact ⟨rfl, HB2.out⟩
    · rw [if_neg h4]
      simp only [h4, decide_false, Bool.not_false] at hlt
      clear h4
      go_enter Tryz.func22, Tryz.ntmps22
      go_wp2_with fail
      refine (HM.out _ (bel_al _ _)).mono ?_
      rintro e w1 ⟨hb1, p2, d2, rfl, -⟩
      rw [HB.out]
      obtain ⟨_, _, _, k0⟩ := loc_keep (q := w.heap.size) (gb_below hb1 (some 1)) tLOC (by have := hG.z; omega)
      have HB1 := Lib.hid (seq (bel_al _ _) hb1)
      clear hb1
      go_wp2_with fail
      refine (HW.out _ (seq HB1.out ((bel_al _ _).trans tBEL))).mono ?_
      rintro e w2 ⟨rfl, hb2⟩
      have HB2 := Lib.hid (seq (seq HB1.out (bel_al _ (.cells #[.int .i64 p2, .int .i64 d2] 96))) hb2)
      clear hb2
      go_wp2
      go_ret2
      exact ⟨rfl, HB2.out⟩
set_option maxRecDepth 100000 in
set_option maxHeartbeats 2000000 in
theorem valid_any (q : Pg) (w : World) (A : Option Addr) (m c : Nat) (B : Option Addr) (mb cb : Nat) (hG : Gl w) (hp : PgIn w A m c B mb cb q) :
    Calls Tryz.prog 26 #[.agg #[.slice A m c, .slice B mb cb]] w fun e w' => e = .returned (.bool (validP q)) ∧ Below w.heap.size w w' := by
  have hT := text_any q _ A m c B mb cb (hG.alloc (.cells #[.slice A m c, .slice B mb cb] 26)) (hp.below (bel_al _ _))
  have hv : (textP q).2 = if validP q then 0 else 1 := by unfold textP; split <;> rfl
  obtain ⟨x, hx⟩ : ∃ x, bs (textP q).1 = x := ⟨_, rfl⟩
  rw [hv, hx] at hT
  clear hv hx
  cases hb : validP q
  · rw [hb] at hT
    simp only [Bool.false_eq_true, if_false] at hT
    have HT := Lib.hid hT
    clear hT hb hp
    go_enter Tryz.func26, Tryz.ntmps26
    go_wp2_with fail
    refine HT.out.mono ?_
    rintro e w1 ⟨rfl, hb1⟩
    have HB1 := Lib.hid (seq (bel_al _ _) hb1)
    clear hb1
    go_wp2
    go_ret
    exact ⟨rfl, HB1.out⟩
  · rw [hb] at hT
    simp only [if_true] at hT
    have HT := Lib.hid hT
    clear hT hb hp
    go_enter Tryz.func26, Tryz.ntmps26
    go_wp2_with fail
    refine HT.out.mono ?_
    rintro e w1 ⟨rfl, hb1⟩
    have HB1 := Lib.hid (seq (bel_al _ _) hb1)
    clear hb1
    go_wp2
    go_ret
    exact ⟨rfl, HB1.out⟩
end Go.Proofs.YtbkhnilbgocpnaaGreatDoor.SynC
