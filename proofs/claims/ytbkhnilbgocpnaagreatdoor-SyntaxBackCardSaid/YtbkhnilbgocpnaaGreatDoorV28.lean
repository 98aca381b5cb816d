import Derived.Test.YtbkhnilbgocpnaaGreatDoorV27
import Derived.Test.YtbkhnilbgocpnaaGreatDoorV26
import Derived.Deep.RegionHeld3
import Derived.Handy
set_option linter.unusedVariables false
set_option linter.unusedSimpArgs false
namespace Go.Proofs.YtbkhnilbgocpnaaGreatDoor.SynC
open Go.Proofs.YtbkhnilbgocpnaaGreatDoor.LexC
open Go Go.ChangeShapes Go.WideShapes Go.ChangeAt Go.RowKit Go.Deep

theorem fitFs_at : ∀ (l : List Fn) (p : Int), 0 ≤ p → fitFs p l = true → ∀ f ∈ l, ∃ p', 0 ≤ p' ∧ fitF p' f = true
  | [], _, _, _ => fun _ h => by cases h
  | f :: r, p, hp, h => by
    rw [fitFs, Bool.and_eq_true] at h
    intro g hg
    rcases List.mem_cons.1 hg with rfl | hg
    · exact ⟨p, hp, h.1⟩
    · exact fitFs_at r _ (by have := partsSs_pos f.body; omega) h.2 g hg
theorem fitKs_at : ∀ (l : List Kr) (p : Int), 0 ≤ p → fitKs p l = true → ∀ f ∈ l, ∃ p', 0 ≤ p' ∧ fitK p' f = true
  | [], _, _, _ => fun _ h => by cases h
  | f :: r, p, hp, h => by
    rw [fitKs, Bool.and_eq_true] at h
    intro g hg
    rcases List.mem_cons.1 hg with rfl | hg
    · exact ⟨p, hp, h.1⟩
    · exact fitKs_at r _ (by have := partsSs_pos f.body; omega) h.2 g hg
theorem body_nice {p : Int} {l : List St} (hp : 0 ≤ p) (h : fitSs isName p 1 l = true) : 0 ≤ cntSs l 1000 0 ∧ cntSs l 1000 0 ≤ 400 := by
  have h1 := fitSs_ok h
  have h2 := fitSs_le h
  have h3 := partsSs_pos l
  rw [cntSs_ok l 1000 0 h1 (by omega) (by omega) (by omega)]
  omega
theorem fn_nice {q : Pg} (h : fitP q = true) {f : Fn} (hf : f ∈ q.fns) : f.params.length ≤ 6 ∧ (∀ x ∈ f.params, lgB x = 0) ∧ lgB f.name = 0 ∧ 0 ≤ cntSs f.body 1000 0 ∧ cntSs f.body 1000 0 ≤ 400 := by
  unfold fitP at h
  rw [Bool.and_eq_true] at h
  obtain ⟨p, hp, h⟩ := fitFs_at _ _ (by omega) h.1 f hf
  unfold fitF at h
  simp only [Bool.and_eq_true, decide_eq_true_eq, List.all_eq_true] at h
  obtain ⟨⟨⟨h1, h2⟩, h3⟩, h4⟩ := h
  exact ⟨h2, fun x hx => lg_ok (name_le (h3 x hx)), lg_ok (name_le h1), body_nice hp h4⟩
theorem kr_nice {q : Pg} (h : fitP q = true) {f : Kr} (hf : f ∈ q.krs) : f.params.length ≤ 6 ∧ (∀ x ∈ f.params, lgB x.1 = 0) ∧ f.shared.length ≤ 4 ∧ (∀ x ∈ f.shared, lgB x.1 = 0) ∧ lgB f.name = 0 ∧ 0 ≤ cntSs f.body 1000 0 ∧ cntSs f.body 1000 0 ≤ 400 := by
  unfold fitP at h
  rw [Bool.and_eq_true] at h
  obtain ⟨p, hp, h⟩ := fitKs_at _ _ (sumP_pos _) h.2 f hf
  unfold fitK at h
  simp only [Bool.and_eq_true, decide_eq_true_eq, List.all_eq_true] at h
  obtain ⟨⟨⟨⟨⟨h1, h2⟩, h3⟩, h4⟩, h5⟩, h6⟩ := h
  refine ⟨h2, fun x hx => lg_ok (name_le (h3 x hx)), h4, fun x hx => ?_, lg_ok (name_le h1), body_nice hp h6⟩
  have := h5 x hx
  simp only [arrB, Bool.and_eq_true] at this
  exact lg_ok (name_le this.1.1)
def NB (q : Pg) (n : Int) : Prop := fitP q = true → ((q.fns.length + q.krs.length : Nat) : Int) ≤ n ∧ n ≤ 4503599627370496
theorem NB.step {q : Pg} {n v : Int} (h : NB q n) (hn : n ≤ 1000) (hv : fitP q = true → 0 ≤ n → n ≤ v ∧ v ≤ 10000) : NB q v := fun hf => by
  have h1 := h hf
  have h2 := hv hf (by omega)
  omega

def GP (q : Pg) (w : World) (e : Ending) (w' : World) : Prop := (∃ g, e = .returned (.bool g) ∧ (g = false → fitP q = true → q.fns.length + q.krs.length ≤ 1000)) ∧ Below w.heap.size w w'
set_option maxRecDepth 100000 in
set_option maxHeartbeats 2000000 in
theorem great_21 (q : Pg) (w : World) (A : Option Addr) (m c : Nat) (B : Option Addr) (mb cb : Nat) (hp : PgAr w A m c B mb cb q) :
    Calls Tryz.prog 21 #[.agg #[.slice A m c, .slice B mb cb]] w (GP q w) := by
  have z1 := hp.f.len
  have z2 := hp.k.len
  have lf := hp.lf
  have lk := hp.lk
  subst z1
  subst z2
  have HP := Lib.hid hp
  clear hp
  go_enter Tryz.func21, Tryz.ntmps21
  go_wp2_with fail
  go_loopw [3, 4] (fun n i wr => ∃ (k : Nat) (v : Int), k ≤ q.fns.length ∧ i = .int .i64 k ∧ n = .int .i64 v ∧ NB q v ∧ Below (w.heap.size + 1) (w.alloc (.cells #[.slice A q.fns.length c, .slice B q.krs.length cb] 26)) wr) (fun _ i _ => q.fns.length - (intOf i).toNat)
  case atStart => exact ⟨0, _, Nat.zero_le _, rfl, rfl, fun _ => by omega, Below.refl _ _⟩
  case round =>
    obtain ⟨k, v, hk, rfl, rfl, hnb, hbr⟩ := hrel
    obtain ⟨wo, rfl⟩ : ∃ z, z = wr := ⟨_, rfl⟩
    have hw : Below w.heap.size w wo := (bel_al _ _).trans (hbr.mono (by omega))
    have la : wo.heap[w.heap.size]? = some (.cells #[.slice A q.fns.length c, .slice B q.krs.length cb] 26 (0, 0)) := (hbr.block _ (by omega)).trans (heap_alloc_new _ _)
    have xa0 := cell_of_row _ _ 0 _ _ _ la
    have xa1 := cell_of_row _ _ 1 _ _ _ la
    have HBR := Lib.hid hbr
    have HNB := Lib.hid hnb
    have HW := Lib.hid hw
    have hzr := hbr.size
    simp only [sz_al] at hzr
    by_cases hgo : k < q.fns.length ∧ v ≤ 1000
    · obtain ⟨hlt, hv⟩ := hgo
      obtain ⟨a, ha⟩ : ∃ a, q.fns[k]? = some a := ⟨q.fns[k], List.getElem?_eq_getElem hlt⟩
      obtain ⟨g, o, rfl, _, hPg, hrows⟩ := rows_at (by decide) (fun P w cs a h => ⟨.string (bs a.name), by obtain ⟨_, _, _, _, _, _, h, _⟩ := h; subst h; rfl⟩) (HP.out.below hw).f (by omega)
      obtain ⟨cs, hcs, fA, fm, fc, fB, fm', fc', rfl, hfp, hfb⟩ := hrows k a ha
      have hmem := List.mem_of_getElem? ha
      have hga := HP.out.gf a hmem
      have hm2 := hfp.len
      have hm3 := slS_len hfb
      subst hm2
      subst hm3
      have c0 := hcs 0 _ rfl
      have c1 := hcs 1 _ rfl
      have c2' := hcs 2 _ rfl
      simp only [Nat.add_zero] at c0
      have hin : (0 : Int) ≤ k ∧ (k : Int) < q.fns.length := ⟨by omega, by omega⟩
      obtain ⟨r1, hr1⟩ : ∃ r1, cntSs a.body 1000 0 = r1 := ⟨_, rfl⟩
      obtain ⟨lg, hlg⟩ : ∃ lg, lgB a.name = lg := ⟨_, rfl⟩
      have hba : Below wo.heap.size wo ((wo.alloc (.cells #[.string (bs a.name), .slice fA a.params.length fc, .slice fB a.body.length fc'] 71)).drew) := ((Below.refl _ _).alloc (Nat.le_refl _) _).drew
      have HST := Lib.hid (stmts_51 a.body _ 1000 _ _ _ (ss_bel hfb hba) hga.2.2.2.2 hga.2.2.2.1)
      have hlong : ∀ w', Calls Tryz.prog 52 #[.string (bs a.name)] w' fun e w2 => e = .returned (.int .i64 lg) ∧ w2 = w' := by rw [← hlg]; exact fun w' => long_any a.name hga.1 w'
      have HLN := Lib.hid hlong
      have hpl0 := hga.2.2.1
      have hnice := fun hf => fn_nice (q := q) hf hmem
      rw [hr1, hlg] at hnice
      rw [hr1] at HST
      have HNI := Lib.hid hnice
      have HFP := Lib.hid hfp
      have HGA := Lib.hid hga
      clear hrows ha hcs hfp hfb la hbr hw hnb hmem hga hr1 hlg hlong hnice
      go_wp2_with fail
      go_region_held3 (fun w' => w'.cell? ⟨wo.heap.size, 0, none⟩ = some (.string (bs a.name)) ∧ w'.cell? ⟨wo.heap.size, 1, none⟩ = some (.slice fA a.params.length fc) ∧ w'.cell? ⟨wo.heap.size, 2, none⟩ = some (.slice fB a.body.length fc')) (first | exact ⟨by simp, by simp, by simp⟩ | exact ⟨(qc 0).trans rfl, (qc 1).trans rfl, (qc 2).trans rfl⟩) ((first | (go_at_call 52; refine (HLN.out _).mono ?_; rintro e w' ⟨rfl, rfl⟩) | (go_at_call 51; refine HST.out.mono ?_; rintro e w4 ⟨rfl, hb4⟩; obtain ⟨qc, _, _, l4⟩ := loc_keep (q := wo.heap.size) (gb_below hb4 (some (wo.heap.size + 10))) (heap_dr (heap_alloc_new _ _)) (by omega))))
      obtain ⟨v', hv'⟩ : ∃ v', IntKind.i64.wrap (IntKind.i64.wrap (IntKind.i64.wrap (v + ↑a.params.length) + r1) + lg) = v' := ⟨_, rfl⟩
      have hnb2 : NB q v' := NB.step HNB.out hv (fun hf h0 => by have := HNI.out hf; rw [← hv']; go_arith)
      rw [hv']
      have HNB2 := Lib.hid hnb2
      have HL4 := Lib.hid l4
      have HW4 := Lib.hid (seq hba hb4)
      have hz4 := HW4.out.size
      clear hnb2 hv' l4 hb4 qc hba
      go_wp2_with fail
      go_loopw [3, 6] (fun n i wrA => ∃ (jA : Nat) (vA : Int), jA ≤ a.params.length ∧ i = .int .i64 jA ∧ n = .int .i64 vA ∧ NB q vA ∧ Below (wo.heap.size + 1) w' wrA) (fun _ i _ => a.params.length - (intOf i).toNat)
      case atStart => exact ⟨0, _, Nat.zero_le _, rfl, rfl, HNB2.out, Below.refl _ _⟩
      case round =>
        obtain ⟨jA, vA, hjA, rfl, rfl, hnbA, hbrA⟩ := hrel
        obtain ⟨wrA, rfl⟩ : ∃ z, z = wr := ⟨_, rfl⟩
        have l5 : wrA.heap[wo.heap.size]? = some (.cells #[.string (bs a.name), .slice fA a.params.length fc, .slice fB a.body.length fc'] 71 (0, 0)) := (hbrA.block wo.heap.size (by omega)).trans HL4.out
        have xbA := cell_of_row _ _ 1 _ _ _ l5
        have hw5 : Below wo.heap.size wo wrA := HW4.out.trans (hbrA.mono (by omega))
        have HWA := Lib.hid hw5
        have HNBA := Lib.hid hnbA
        have HBRA := Lib.hid hbrA
        have HLA := Lib.hid l5
        have hzA := hw5.size
        by_cases hgo2 : jA < a.params.length ∧ vA ≤ 1000
        · obtain ⟨hlt2, hv2⟩ := hgo2
          obtain ⟨y, hy⟩ : ∃ y, a.params[jA]? = some y := ⟨a.params[jA], List.getElem?_eq_getElem hlt2⟩
          obtain ⟨g2, o2, rfl, _, hPg2, hrows2⟩ := rows_at (by decide) (fun P w cs a h => ⟨.string (bs a), by unfold rdN at h; subst h; rfl⟩) (HFP.out.keeps rdN_ok (keeps_below HWA.out fun _ hb => hb) (fun _ hb => hb)) (by omega)
          obtain ⟨cs2, hcs2, hrd2⟩ := hrows2 jA y hy
          have hrd2 : cs2 = [.string (bs y)] := hrd2
          subst hrd2
          have d0 := hcs2 0 _ rfl
          simp only [Nat.mul_one, Nat.add_zero] at d0
          have hin2 : (0 : Int) ≤ jA ∧ (jA : Int) < a.params.length := ⟨by omega, by omega⟩
          have hmy := List.mem_of_getElem? hy
          obtain ⟨lg2, hlg2⟩ : ∃ lg2, lgB y = lg2 := ⟨_, rfl⟩
          have hlong2 : ∀ w', Calls Tryz.prog 52 #[.string (bs y)] w' fun e w2 => e = .returned (.int .i64 lg2) ∧ w2 = w' := by rw [← hlg2]; exact fun w' => long_any y (HGA.out.2.1 y hmy) w'
          have HLN2 := Lib.hid hlong2
          have hn3 : fitP q = true → lg2 = 0 := fun hf => by rw [← hlg2]; exact (HNI.out hf).2.1 y hmy
          have hnb4 : NB q (wrap64 (vA + lg2)) := NB.step HNBA.out hv2 (fun hf h0 => by have := hn3 hf; unfold wrap64; omega)
          have HNB4 := Lib.hid hnb4
          clear hrows2 hcs2 hy hmy hlg2 hlong2 hn3 hnb4 hnbA hbrA hw5 l5
          go_wp2_with fail
          refine (HLN2.out _).mono ?_
          rintro e w3 ⟨rfl, rfl⟩
          go_wp2
          go_roundw
          case rel => exact ⟨jA + 1, _, by omega, by go_num, rfl, HNB4.out, HBRA.out⟩
          case measure => simp [intOf]; omega
        · have hor : (¬ jA < a.params.length) ∨ (jA < a.params.length ∧ ¬ vA ≤ 1000) := by omega
          clear hgo2 hnbA hbrA hw5 l5
          rcases hor with hlt2 | ⟨hlt2, hv2⟩
          all_goals
            go_wp2
            go_roundw
            case rel => exact ⟨k + 1, vA, by omega, by go_num, rfl, HNBA.out, HBR.out.trans (HWA.out.mono hzr)⟩
            case measure => simp [intOf]; omega

    · have hor : (¬ k < q.fns.length) ∨ (k < q.fns.length ∧ ¬ v ≤ 1000) := by omega
      clear hgo hnb hbr hw la
      rcases hor with hlt | ⟨hlt, hv⟩
      all_goals
        go_wp2_with fail
        clear hlt
        go_loopw [3, 7] (fun n i wr => ∃ (k : Nat) (v : Int), k ≤ q.krs.length ∧ i = .int .i64 k ∧ n = .int .i64 v ∧ NB q v ∧ Below (w.heap.size + 1) (w.alloc (.cells #[.slice A q.fns.length c, .slice B q.krs.length cb] 26)) wr) (fun _ i _ => q.krs.length - (intOf i).toNat)
        case atStart => exact ⟨0, _, Nat.zero_le _, rfl, rfl, HNB.out, HBR.out⟩
        case round =>
          clear HBR HNB HW hzr xa0 xa1 hk
          obtain ⟨k, v, hk, rfl, rfl, hnb, hbr⟩ := hrel
          obtain ⟨wo, rfl⟩ : ∃ z, z = wr := ⟨_, rfl⟩
          have hw : Below w.heap.size w wo := (bel_al _ _).trans (hbr.mono (by omega))
          have la : wo.heap[w.heap.size]? = some (.cells #[.slice A q.fns.length c, .slice B q.krs.length cb] 26 (0, 0)) := (hbr.block _ (by omega)).trans (heap_alloc_new _ _)
          have xa0 := cell_of_row _ _ 0 _ _ _ la
          have xa1 := cell_of_row _ _ 1 _ _ _ la
          have HBR := Lib.hid hbr
          have HNB := Lib.hid hnb
          have HW := Lib.hid hw
          have hzr := hbr.size
          simp only [sz_al] at hzr
          by_cases hgo : k < q.krs.length ∧ v ≤ 1000
          · obtain ⟨hlt, hv⟩ := hgo
            obtain ⟨a, ha⟩ : ∃ a, q.krs[k]? = some a := ⟨q.krs[k], List.getElem?_eq_getElem hlt⟩
            obtain ⟨g, o, rfl, _, hPg, hrows⟩ := rows_at (by decide) (fun P w cs a h => ⟨.string (bs a.name), by obtain ⟨_, _, _, _, _, _, _, _, _, h, _⟩ := h; subst h; rfl⟩) (HP.out.below hw).k (by omega)
            obtain ⟨cs, hcs, fA, fm, fc, fB, fm', fc', fC, fm'', fc'', rfl, hfp, hfd, hfb⟩ := hrows k a ha
            have hmem := List.mem_of_getElem? ha
            have hga := HP.out.gk a hmem
            have hm2 := hfp.len
            have hm4 := hfd.len
            have hm3 := slS_len hfb
            subst hm2
            subst hm4
            subst hm3
            have c0 := hcs 0 _ rfl
            have c1 := hcs 1 _ rfl
            have c2' := hcs 2 _ rfl
            have c3 := hcs 3 _ rfl
            simp only [Nat.add_zero] at c0
            have hin : (0 : Int) ≤ k ∧ (k : Int) < q.krs.length := ⟨by omega, by omega⟩
            obtain ⟨r1, hr1⟩ : ∃ r1, cntSs a.body 1000 0 = r1 := ⟨_, rfl⟩
            obtain ⟨lg, hlg⟩ : ∃ lg, lgB a.name = lg := ⟨_, rfl⟩
            have hba : Below wo.heap.size wo ((wo.alloc (.cells #[.string (bs a.name), .slice fA a.params.length fc, .slice fB a.shared.length fc', .slice fC a.body.length fc''] 75)).drew) := ((Below.refl _ _).alloc (Nat.le_refl _) _).drew
            have HST := Lib.hid (stmts_51 a.body _ 1000 _ _ _ (ss_bel hfb hba) hga.2.2.2.2.2.2 hga.2.2.2.2.2.1)
            have hlong : ∀ w', Calls Tryz.prog 52 #[.string (bs a.name)] w' fun e w2 => e = .returned (.int .i64 lg) ∧ w2 = w' := by rw [← hlg]; exact fun w' => long_any a.name hga.1 w'
            have HLN := Lib.hid hlong
            have hpl0 := hga.2.2.1
            have hpl1 := hga.2.2.2.2.1
            have hnice := fun hf => kr_nice (q := q) hf hmem
            rw [hr1, hlg] at hnice
            rw [hr1] at HST
            have HNI := Lib.hid hnice
            have HFP := Lib.hid hfp
            have HFD := Lib.hid hfd
            have HGA := Lib.hid hga
            clear hrows ha hcs hfp hfb la hbr hw hnb hmem hga hr1 hlg hlong hnice hfd
            go_wp2_with fail
            go_region_held3 (fun w' => w'.cell? ⟨wo.heap.size, 0, none⟩ = some (.string (bs a.name)) ∧ w'.cell? ⟨wo.heap.size, 1, none⟩ = some (.slice fA a.params.length fc) ∧ w'.cell? ⟨wo.heap.size, 2, none⟩ = some (.slice fB a.shared.length fc') ∧ w'.cell? ⟨wo.heap.size, 3, none⟩ = some (.slice fC a.body.length fc'')) (first | exact ⟨by simp, by simp, by simp, by simp⟩ | exact ⟨(qc 0).trans rfl, (qc 1).trans rfl, (qc 2).trans rfl, (qc 3).trans rfl⟩) ((first | (go_at_call 52; refine (HLN.out _).mono ?_; rintro e w' ⟨rfl, rfl⟩) | (go_at_call 51; refine HST.out.mono ?_; rintro e w4 ⟨rfl, hb4⟩; obtain ⟨qc, _, _, l4⟩ := loc_keep (q := wo.heap.size) (gb_below hb4 (some (wo.heap.size + 10))) (heap_dr (heap_alloc_new _ _)) (by omega))))
            obtain ⟨v', hv'⟩ : ∃ v', IntKind.i64.wrap (IntKind.i64.wrap (IntKind.i64.wrap (IntKind.i64.wrap (v + ↑a.params.length) + ↑a.shared.length) + r1) + lg) = v' := ⟨_, rfl⟩
            have hnb2 : NB q v' := NB.step HNB.out hv (fun hf h0 => by have := HNI.out hf; rw [← hv']; go_arith)
            rw [hv']
            have HNB2 := Lib.hid hnb2
            have HL4 := Lib.hid l4
            have HW4 := Lib.hid (seq hba hb4)
            have hz4 := HW4.out.size
            clear hnb2 hv' l4 hb4 qc hba
            go_wp2_with fail
            go_loopw [3, 9] (fun n i wrA => ∃ (jA : Nat) (vA : Int), jA ≤ a.params.length ∧ i = .int .i64 jA ∧ n = .int .i64 vA ∧ NB q vA ∧ Below (wo.heap.size + 1) w' wrA) (fun _ i _ => a.params.length - (intOf i).toNat)
            case atStart => exact ⟨0, _, Nat.zero_le _, rfl, rfl, HNB2.out, Below.refl _ _⟩
            case round =>
              obtain ⟨jA, vA, hjA, rfl, rfl, hnbA, hbrA⟩ := hrel
              obtain ⟨wrA, rfl⟩ : ∃ z, z = wr := ⟨_, rfl⟩
              have l5 : wrA.heap[wo.heap.size]? = some (.cells #[.string (bs a.name), .slice fA a.params.length fc, .slice fB a.shared.length fc', .slice fC a.body.length fc''] 75 (0, 0)) := (hbrA.block wo.heap.size (by omega)).trans HL4.out
              have xbA := cell_of_row _ _ 1 _ _ _ l5
              have xbA2 := cell_of_row _ _ 2 _ _ _ l5
              have hw5 : Below wo.heap.size wo wrA := HW4.out.trans (hbrA.mono (by omega))
              have HWA := Lib.hid hw5
              have HNBA := Lib.hid hnbA
              have HBRA := Lib.hid hbrA
              have HLA := Lib.hid l5
              have hzA := hw5.size
              by_cases hgo2 : jA < a.params.length ∧ vA ≤ 1000
              · obtain ⟨hlt2, hv2⟩ := hgo2
                obtain ⟨y, hy⟩ : ∃ y, a.params[jA]? = some y := ⟨a.params[jA], List.getElem?_eq_getElem hlt2⟩
                obtain ⟨g2, o2, rfl, _, hPg2, hrows2⟩ := rows_at (by decide) (fun P w cs a h => ⟨.string (bs a.1), by unfold rdP at h; subst h; rfl⟩) (HFP.out.keeps rdP_ok (keeps_below HWA.out fun _ hb => hb) (fun _ hb => hb)) (by omega)
                obtain ⟨cs2, hcs2, hrd2⟩ := hrows2 jA y hy
                have hrd2 : cs2 = [.string (bs y.1), .bool y.2] := hrd2
                subst hrd2
                have d0 := hcs2 0 _ rfl
                simp only [Nat.mul_one, Nat.add_zero] at d0
                have hin2 : (0 : Int) ≤ jA ∧ (jA : Int) < a.params.length := ⟨by omega, by omega⟩
                have hmy := List.mem_of_getElem? hy
                obtain ⟨lg2, hlg2⟩ : ∃ lg2, lgB y.1 = lg2 := ⟨_, rfl⟩
                have hlong2 : ∀ w', Calls Tryz.prog 52 #[.string (bs y.1)] w' fun e w2 => e = .returned (.int .i64 lg2) ∧ w2 = w' := by rw [← hlg2]; exact fun w' => long_any y.1 (HGA.out.2.1 y hmy) w'
                have HLN2 := Lib.hid hlong2
                have hn3 : fitP q = true → lg2 = 0 := fun hf => by rw [← hlg2]; exact (HNI.out hf).2.1 y hmy
                have hnb4 : NB q (wrap64 (vA + lg2)) := NB.step HNBA.out hv2 (fun hf h0 => by have := hn3 hf; unfold wrap64; omega)
                have HNB4 := Lib.hid hnb4
                clear hrows2 hcs2 hy hmy hlg2 hlong2 hn3 hnb4 hnbA hbrA hw5 l5
                go_wp2_with fail
                refine (HLN2.out _).mono ?_
                rintro e w3 ⟨rfl, rfl⟩
                go_wp2
                go_roundw
                case rel => exact ⟨jA + 1, _, by omega, by go_num, rfl, HNB4.out, HBRA.out⟩
                case measure => simp [intOf]; omega
              · have hor : (¬ jA < a.params.length) ∨ (jA < a.params.length ∧ ¬ vA ≤ 1000) := by omega
                clear hgo2 hnbA hbrA hw5 l5
                rcases hor with hlt2 | ⟨hlt2, hv2⟩
                all_goals
                  go_wp2_with fail
                  clear hlt2
                  go_loopw [3, 10] (fun n i wrB => ∃ (jB : Nat) (vB : Int), jB ≤ a.shared.length ∧ i = .int .i64 jB ∧ n = .int .i64 vB ∧ NB q vB ∧ Below (wo.heap.size + 1) wrA wrB) (fun _ i _ => a.shared.length - (intOf i).toNat)
                  case atStart => exact ⟨0, _, Nat.zero_le _, rfl, rfl, HNBA.out, Below.refl _ _⟩
                  case round =>
                    obtain ⟨jB, vB, hjB, rfl, rfl, hnbB, hbrB⟩ := hrel
                    obtain ⟨wrB, rfl⟩ : ∃ z, z = wr := ⟨_, rfl⟩
                    have l5 : wrB.heap[wo.heap.size]? = some (.cells #[.string (bs a.name), .slice fA a.params.length fc, .slice fB a.shared.length fc', .slice fC a.body.length fc''] 75 (0, 0)) := (hbrB.block wo.heap.size (by omega)).trans HLA.out
                    have xbB := cell_of_row _ _ 2 _ _ _ l5
                    have hw5 : Below wo.heap.size wo wrB := HWA.out.trans (hbrB.mono (by omega))
                    have HWB := Lib.hid hw5
                    have HNBB := Lib.hid hnbB
                    have HBRB := Lib.hid hbrB
                    have HLB := Lib.hid l5
                    have hzB := hw5.size
                    by_cases hgo2 : jB < a.shared.length ∧ vB ≤ 1000
                    · obtain ⟨hlt2, hv2⟩ := hgo2
                      obtain ⟨y, hy⟩ : ∃ y, a.shared[jB]? = some y := ⟨a.shared[jB], List.getElem?_eq_getElem hlt2⟩
                      obtain ⟨g2, o2, rfl, _, hPg2, hrows2⟩ := rows_at (by decide) (fun P w cs a h => ⟨.string (bs a.1), by unfold rdA at h; subst h; rfl⟩) (HFD.out.keeps rdA_ok (keeps_below HWB.out fun _ hb => hb) (fun _ hb => hb)) (by omega)
                      obtain ⟨cs2, hcs2, hrd2⟩ := hrows2 jB y hy
                      have hrd2 : cs2 = [.string (bs y.1), .int .i64 y.2] := hrd2
                      subst hrd2
                      have d0 := hcs2 0 _ rfl
                      simp only [Nat.mul_one, Nat.add_zero] at d0
                      have hin2 : (0 : Int) ≤ jB ∧ (jB : Int) < a.shared.length := ⟨by omega, by omega⟩
                      have hmy := List.mem_of_getElem? hy
                      obtain ⟨lg2, hlg2⟩ : ∃ lg2, lgB y.1 = lg2 := ⟨_, rfl⟩
                      have hlong2 : ∀ w', Calls Tryz.prog 52 #[.string (bs y.1)] w' fun e w2 => e = .returned (.int .i64 lg2) ∧ w2 = w' := by rw [← hlg2]; exact fun w' => long_any y.1 (HGA.out.2.2.2.1 y hmy) w'
                      have HLN2 := Lib.hid hlong2
                      have hn3 : fitP q = true → lg2 = 0 := fun hf => by rw [← hlg2]; exact (HNI.out hf).2.2.2.1 y hmy
                      have hnb4 : NB q (wrap64 (vB + lg2)) := NB.step HNBB.out hv2 (fun hf h0 => by have := hn3 hf; unfold wrap64; omega)
                      have HNB4 := Lib.hid hnb4
                      clear hrows2 hcs2 hy hmy hlg2 hlong2 hn3 hnb4 hnbB hbrB hw5 l5
                      go_wp2_with fail
                      refine (HLN2.out _).mono ?_
                      rintro e w3 ⟨rfl, rfl⟩
                      go_wp2
                      go_roundw
                      case rel => exact ⟨jB + 1, _, by omega, by go_num, rfl, HNB4.out, HBRB.out⟩
                      case measure => simp [intOf]; omega
                    · have hor : (¬ jB < a.shared.length) ∨ (jB < a.shared.length ∧ ¬ vB ≤ 1000) := by omega
                      clear hgo2 hnbB hbrB hw5 l5
                      rcases hor with hlt2 | ⟨hlt2, hv2⟩
                      all_goals
                        go_wp2
                        go_roundw
                        case rel => exact ⟨k + 1, vB, by omega, by go_num, rfl, HNBB.out, HBR.out.trans (HWB.out.mono hzr)⟩
                        case measure => simp [intOf]; omega


          · have hor : (¬ k < q.krs.length) ∨ (k < q.krs.length ∧ ¬ v ≤ 1000) := by omega
            clear hgo hnb hbr hw la
            rcases hor with hlt | ⟨hlt, hv⟩
            all_goals
              go_wp2
              go_ret
              exact ⟨⟨_, rfl, fun hg hf => by have := HNB.out hf; (simp at hg <;> omega)⟩, HW.out⟩


end Go.Proofs.YtbkhnilbgocpnaaGreatDoor.SynC
