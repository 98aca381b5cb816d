import Derived.Test.YtbkhnilbgocpnaaGreatDoorW30
import Derived.Deep.RegionHeld3
import Derived.Handy
import Derived.BigQuiet
set_option linter.unusedVariables false
set_option linter.unusedSimpArgs false
namespace Go.Proofs.YtbkhnilbgocpnaaGreatDoor.SynC
open Go.Proofs.YtbkhnilbgocpnaaGreatDoor.LexC
open Go Go.ChangeShapes Go.WideShapes Go.ChangeAt Go.RowKit Go.Deep

def GT (e : Ex) : Prop := ∀ (w : World) (bk bo bn : Int) (bx : List UInt8) (bA : Option Addr) (bm bc : Nat), okE isName e = true → (gE e).length ≤ 1000000 → RE w (fun g => g < w.heap.size) [.int .i64 bk, .int .i64 bo, .int .i32 bn, .string (bs bx), .slice bA bm bc] e → rgE e →
  Calls Tryz.prog 58 #[.agg #[.int .i64 bk, .int .i64 bo, .int .i32 bn, .string (bs bx), .slice bA bm bc]] w fun e' w' => e' = .returned (.string (bs (gE e))) ∧ Below w.heap.size w w'
theorem commasL_mem {L : List (List UInt8)} {t : List UInt8} (h : t ∈ L) : t.length ≤ (commasL L).length := by
  obtain ⟨k, hk, he⟩ := List.getElem_of_mem h
  have h1 := commasL_take (show L[k]? = some t by rw [List.getElem?_eq_getElem hk, he])
  have h2 := commasL_le (L := L) (k + 1)
  rw [h1] at h2
  simp only [List.length_append, List.length_cons] at h2
  omega
theorem kid_len {nm : List UInt8 → Bool} {kind op num : Int} {x : List UInt8} {L : List (List UInt8)} (h : shapeB nm kind op num x L.length = true) : ∀ t ∈ L, t.length ≤ (bodyG kind op num x L).length := by
  intro t ht
  have h6 := commasL_mem ht
  have one : L.length = 1 → t = L.getD 0 [] := fun hl => by
    match L, hl with
    | [a], _ => simpa using ht
  have two : L.length = 2 → t = L.getD 0 [] ∨ t = L.getD 1 [] := fun hl => by
    match L, hl with
    | [a, b], _ => simpa using ht
  have hne : L.length ≠ 0 := fun h0 => by
    have := List.eq_nil_of_length_eq_zero h0
    subst this; cases ht
  unfold shapeB at h
  unfold bodyG
  repeat' split at h
  all_goals (try (cases h; done))
  all_goals (simp only [Bool.and_eq_true, beq_iff_eq, decide_eq_true_eq] at h)
  all_goals (try (exact absurd h.2 hne))
  · rename_i h0 h1 h2 h3
    rw [if_neg h0, if_neg h2, if_pos h3, one h.2]
    simp only [List.length_append, List.length_cons]; omega
  · rename_i h0 h1 h2 h3 h4
    rw [if_neg h0, if_neg h2, if_neg h3, if_pos h4]
    split
    · simp only [List.length_append, List.length_cons]; omega
    · rcases two h.2 with e | e <;> rw [e] <;> simp only [List.length_append, List.length_cons] <;> omega
  · rename_i h0 h1 h2 h3 h4 h5
    rw [if_neg h0, if_neg h2, if_neg h3, if_neg h4, if_pos h5, one h.2]
    simp only [List.length_append, List.length_cons]; omega
  · rename_i h0 h1 h2 h3 h4 h5 h6'
    rw [if_neg h0, if_neg h2, if_neg h3, if_neg h4, if_neg h5, if_pos h6']
    simp only [List.length_append, List.length_cons]; omega
end Go.Proofs.YtbkhnilbgocpnaaGreatDoor.SynC
namespace Go.Proofs.YtbkhnilbgocpnaaGreatDoor.SynC
open Go.Proofs.YtbkhnilbgocpnaaGreatDoor.LexC
open Go Go.ChangeShapes Go.WideShapes Go.ChangeAt Go.RowKit Go.Deep

structure Kd (w wo : World) (k o n : Int) (x : List UInt8) (A : Option Addr) (mm c : Nat) (B : Option Addr) (cc : Nat) (L : List (List UInt8)) : Prop where
  row : wo.heap[w.heap.size]? = some (.cells #[.int .i64 k, .int .i64 o, .int .i32 n, .string (bs x), .slice A mm c] 34 (0, 0))
  own : OwnS wo (w.heap.size + 1) (.slice B L.length cc) L
  bel : Below w.heap.size w wo
set_option maxRecDepth 100000 in
set_option maxHeartbeats 2000000 in
theorem gt_loop (kind op num : Int) (name : List UInt8) (kids : List Ex) (hK : ∀ a ∈ kids, GT a) (w : World) (A : Option Addr) (c : Nat) (hok : okEs isName kids = true) (hsh : shapeB isName kind op num name kids.length = true)
    (hlen : (bodyG kind op num name (kids.map gE)).length ≤ 1000000) (hs : SlE w (fun g => g < w.heap.size) (.slice A kids.length c) kids) (hg : rgEs kids) (hn : -2147483648 ≤ num ∧ num ≤ 2147483647) (h456 : kind < 4) :
    Calls Tryz.prog 58 #[.agg #[.int .i64 kind, .int .i64 op, .int .i32 num, .string (bs name), .slice A kids.length c]] w fun e' w' => e' = .returned (.string (bs (bodyG kind op num name (kids.map gE)))) ∧ Below w.heap.size w w' := by
  have h6 := shape_len hsh
  have hkl : ∀ a ∈ kids, (gE a).length ≤ 1000000 := fun a ha => by
    have := kid_len (nm := isName) (kind := kind) (op := op) (num := num) (x := name) (L := kids.map gE) (by rw [List.length_map]; exact hsh) (gE a) (List.mem_map_of_mem ha)
    omega
  rw [okEs_all] at hok
  have hok := List.all_eq_true.1 hok
  have HK := Lib.hid hK
  have HKL := Lib.hid hkl
  have HOK := Lib.hid hok
  have HS := Lib.hid hs
  have HG := Lib.hid hg
  clear hK hkl hok hs hg
  go_enter Tryz.func58, Tryz.ntmps58
  go_wp2_with fail
  go_loopw [3, 4] (fun s i wr => ∃ (k : Nat) (v : Value), k ≤ kids.length ∧ i = .int .i64 k ∧ s = v ∧ OwnS wr (w.heap.size + 1) v ((kids.take k).map gE) ∧ Below (w.heap.size + 1) (w.alloc (.cells #[.int .i64 kind, .int .i64 op, .int .i32 num, .string (bs name), .slice A kids.length c] 34)) wr) (fun _ i _ => kids.length - (intOf i).toNat)
  case atStart => exact ⟨0, _, Nat.zero_le _, rfl, rfl, OwnS.nil _ _, Below.refl _ _⟩
  case round =>
    obtain ⟨k, v, hk, rfl, rfl, hown, hbr⟩ := hrel
    obtain ⟨wo, rfl⟩ : ∃ z, z = wr := ⟨_, rfl⟩
    have hzr := hbr.size
    simp only [sz_al] at hzr
    have le2 : wo.heap[w.heap.size]? = some (.cells #[.int .i64 kind, .int .i64 op, .int .i32 num, .string (bs name), .slice A kids.length c] 34 (0, 0)) := (hbr.block _ (by omega)).trans (heap_alloc_new _ _)
    have xe4 := cell_of_row _ _ 4 _ _ _ le2
    have hbw : Below w.heap.size w wo := (bel_al _ _).trans (hbr.mono (by omega))
    have HBR := Lib.hid hbr
    have HBW := Lib.hid hbw
    have HOWN := Lib.hid hown
    have HLE := Lib.hid le2
    by_cases hlt : k < kids.length
    · obtain ⟨a, ha⟩ : ∃ a, kids[k]? = some a := ⟨kids[k], List.getElem?_eq_getElem hlt⟩
      have hmem := List.mem_of_getElem? ha
      obtain ⟨g, oo, rfl, _, hPg, hrows⟩ := kids_at (sl_bel HS.out hbw) (by omega)
      obtain ⟨yk, yo, yn, yx, yA, ym, yc, ⟨d0, d1, d2, d3, d4⟩, hrx⟩ := hrows k a ha
      have hin : (0 : Int) ≤ k ∧ (k : Int) < kids.length := ⟨by omega, by omega⟩
      have hC := HK.out a hmem wo _ _ _ _ _ _ _ (HOK.out a hmem) (HKL.out a hmem) hrx (rgEs_at HG.out a hmem)
      have hT : (kids.take (k + 1)).map gE = (kids.take k).map gE ++ [gE a] := by rw [List.take_add_one, ha, List.map_append]; rfl
      have HC := Lib.hid hC
      have HT := Lib.hid hT
      clear hrows hrx ha hT hC hbr hbw hown le2 hmem
      go_wp2_with fail
      refine HC.out.mono ?_
      rintro e w3 ⟨rfl, hb3⟩
      have HB3 := Lib.hid hb3
      have hz3 := hb3.size
      have HOWN3 := Lib.hid (OwnS.below HOWN.out hb3)
      clear hb3
      go_wp2_with (refine wpList_append_str rfl _ _ rfl (w.heap.size + 1) _ ((kids.take k).map gE) (gE a) rfl (by exact HOWN3.out) w3.heap.size rfl rfl (by rw [List.length_map, List.length_take]; omega) (by omega) ?_; intro v' w4 ho4 hb4; have HO4 := Lib.hid ho4; have HB4 := Lib.hid hb4; clear ho4 hb4)
      go_roundw
      case rel => exact ⟨k + 1, _, by omega, by go_num, rfl, by rw [HT.out]; exact HO4.out, HBR.out.trans ((HB3.out.mono (by omega)).trans HB4.out)⟩
      case measure => simp [intOf]; omega
    · have ht : kids.take k = kids := List.take_of_length_le (by omega)
      rw [ht] at HOWN
      obtain ⟨B, cc, rfl, hat⟩ := HOWN.out.open_
      have hqz : w.heap.size < wo.heap.size := by omega
      have xe0 := cell_of_row _ _ 0 _ _ _ le2
      have xe1 := cell_of_row _ _ 1 _ _ _ le2
      have xe2 := cell_of_row _ _ 2 _ _ _ le2
      have xe3 := cell_of_row _ _ 3 _ _ _ le2
      have hlm : (kids.map gE).length = kids.length := List.length_map _
      have hkind : kind = 0 ∨ kind = 1 ∨ kind = 2 ∨ kind = 3 ∨ kind = 4 ∨ kind = 5 ∨ kind = 6 := by
        rcases Decidable.em (kind = 0 ∨ kind = 1 ∨ kind = 2 ∨ kind = 3 ∨ kind = 4 ∨ kind = 5 ∨ kind = 6) with h | h
        · exact h
        · simp only [not_or] at h
          obtain ⟨a0, a1, a2, a3, a4, a5, a6⟩ := h
          unfold shapeB at hsh
          rw [if_neg a0, if_neg a1, if_neg a2, if_neg a3, if_neg a4, if_neg a5, if_neg a6] at hsh
          cases hsh
      clear hbr hbw hown
      rcases hkind with rfl | rfl | rfl | rfl | rfl | rfl | rfl
      · go_wp2_with fail
        refine (whole_110 num hn _).mono ?_
        rintro e w1 ⟨rfl, hb1⟩
        have HB1 := Lib.hid hb1
        clear hb1
        go_wp2
        go_ret
        exact ⟨rfl, seq HBW.out HB1.out⟩
      · go_wp2
        go_ret
        exact ⟨rfl, HBW.out⟩
      · have ho : op = 0 ∨ op = 1 ∨ op = 2 ∨ op = 3 := by
          unfold shapeB at hsh
          simp at hsh
          omega
        rcases ho with rfl | rfl | rfl | rfl
        · go_wp2_with fail
          go_region_with ((first | (go_at_call 111; refine (special_111 _).mono ?_; rintro e w' ⟨rfl, rfl⟩)))
          all_goals
            go_wp2
            go_ret
            exact ⟨rfl, seq HBW.out (bel_al _ _).drew⟩
        · go_wp2_with fail
          go_region_with ((first | (go_at_call 111; refine (special_111 _).mono ?_; rintro e w' ⟨rfl, rfl⟩)))
          all_goals
            go_wp2
            go_ret
            exact ⟨rfl, seq HBW.out (bel_al _ _).drew⟩
        · go_wp2_with fail
          go_region_with ((first | (go_at_call 111; refine (special_111 _).mono ?_; rintro e w' ⟨rfl, rfl⟩)))
          all_goals
            go_wp2
            go_ret
            exact ⟨rfl, seq HBW.out (bel_al _ _).drew⟩
        · go_wp2_with fail
          go_region_with ((first | (go_at_call 111; refine (special_111 _).mono ?_; rintro e w' ⟨rfl, rfl⟩)))
          all_goals
            go_wp2
            go_ret
            exact ⟨rfl, seq HBW.out (bel_al _ _).drew⟩
      · have ho : (0 ≤ op ∧ op < 3) ∧ kids.length = 1 := by
          unfold shapeB at hsh
          simp at hsh
          omega
        obtain ⟨t0, ht0⟩ : ∃ t, (kids.map gE)[0]? = some t := ⟨(kids.map gE)[0]'(by omega), List.getElem?_eq_getElem (by omega)⟩
        obtain ⟨g, rfl, _, hg0, hc0⟩ := hat 0 t0 ht0
        have hb : bodyG 3 op num name (kids.map gE) = unText op ++ [32] ++ t0 := by
          unfold bodyG
          simp [List.getD_eq_getElem?_getD, ht0]
        rw [hb] at hlen
        rw [hlm, ho.2]
        simp only [List.length_append] at hlen
        have a1 := add_l3 (unText op) [32] ⟨#[32]⟩ rfl (by simp; omega)
        have a2 := add_b3 (unText op ++ [32]) t0 (by simp; omega)
        have HU := Lib.hid (unText_112 op ho.1.1 ho.1.2)
        obtain ⟨P1, hP1⟩ : ∃ P, unText op ++ [32] = P := ⟨_, rfl⟩
        rw [hP1] at a1 a2 hb
        obtain ⟨P2, hP2⟩ : ∃ P, P1 ++ t0 = P := ⟨_, rfl⟩
        rw [hP2] at a2 hb
        have HBD := Lib.hid hb
        clear hb hlen hP1 hP2 hat ht0 HK HKL HOK hsh ho hok
        go_wp2_with fail
        go_region_with ((first | (go_at_call 112; refine (HU.out _).mono ?_; rintro e w1 ⟨rfl, hb1⟩; have y0 := (hb1.cell hg0).trans hc0; have y1 := (hb1.cell hqz).trans xe1; have HB1 := Lib.hid hb1; clear hb1)))
        all_goals
          go_wp2
          go_ret
          rw [HBD.out]
          exact ⟨rfl, by first | exact seq HBW.out HB1.out | exact (seq HBW.out HB1.out).drew | exact seq HBW.out (seq (Below.refl _ _).drew HB1.out) | exact (seq HBW.out (seq (Below.refl _ _).drew HB1.out)).drew | exact seq HBW.out (seq (Below.refl _ _).drew.drew HB1.out)⟩
      all_goals omega
end Go.Proofs.YtbkhnilbgocpnaaGreatDoor.SynC
