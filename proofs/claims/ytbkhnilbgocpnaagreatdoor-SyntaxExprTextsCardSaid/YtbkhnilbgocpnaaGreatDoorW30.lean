import Derived.Test.YtbkhnilbgocpnaaGreatDoorW22
import Derived.Test.YtbkhnilbgocpnaaGreatDoorW29
import Derived.Test.YtbkhnilbgocpnaaGreatDoorW1
import Derived.Test.YtbkhnilbgocpnaaGreatDoorW14
set_option linter.unusedVariables false
set_option linter.unusedSimpArgs false
namespace Go.Proofs.YtbkhnilbgocpnaaGreatDoor.SynC
open Go.Proofs.YtbkhnilbgocpnaaGreatDoor.LexC
open Go Go.ChangeShapes Go.WideShapes Go.ChangeAt Go.RowKit Go.Deep

theorem add_bs2 (a b : List UInt8) (h : a.length + b.length ≤ 100000) : ∀ w : World, (Op.stringOp .add (bs a) (bs b)).run Tryz.prog w = .ok (.string (bs (a ++ b))) w := fun w => by
  rw [run_string_add_sum w _ _ (by rw [bs_size, bs_size]; omega), bs_append]
theorem add_lit (a b : List UInt8) (s : ByteArray) (hs : bs b = s) (h : a.length + b.length ≤ 100000) : ∀ w : World, (Op.stringOp .add (bs a) s).run Tryz.prog w = .ok (.string (bs (a ++ b))) w := hs ▸ add_bs2 a b h
end Go.Proofs.YtbkhnilbgocpnaaGreatDoor.SynC
namespace Go.Proofs.YtbkhnilbgocpnaaGreatDoor.SynC
open Go.Proofs.YtbkhnilbgocpnaaGreatDoor.LexC
open Go Go.ChangeShapes Go.WideShapes Go.ChangeAt Go.RowKit Go.Deep

set_option maxRecDepth 100000 in
set_option maxHeartbeats 2000000 in
theorem digits_low (n : Nat) (hn : n < 10) (w : World) : Calls Tryz.prog 163 #[.int .i64 n] w fun e w' => e = .returned (.string (bs (digL n))) ∧ Below w.heap.size w w' := by
  have hd : digL n = [UInt8.ofNat (48 + n)] := by rw [digL, dif_pos hn]
  have hcv : (convert 47 9 (.slice (some ⟨w.heap.size, 0, none⟩) 1 1)).run Tryz.prog (w.alloc (.cells #[.int .u8 (48 + (n : Int))] 5)) = .ok (.string (bs [UInt8.ofNat (48 + n)])) (w.alloc (.cells #[.int .u8 (48 + (n : Int))] 5)) := by
    have h := run_convert_bytes_back (P := Tryz.prog) (w.alloc (.cells #[.int .u8 (48 + (n : Int))] 5)) 47 9 5 ⟨w.heap.size, 0, none⟩ 1 [UInt8.ofNat (48 + n)] Tryz.underlying47 Tryz.underlying5 Tryz.underlying9 (fun j hj => by
      have : j = 0 := by simp at hj; omega
      subst this
      show World.cell? _ ⟨w.heap.size, 0, none⟩ = _
      rw [cell_of_row _ _ 0 _ _ _ (heap_alloc_new _ _)]
      have e := dig_byte hn
      simp only [List.getElem_cons_zero, e]
      simp)
    exact h
  rw [hd]
  obtain ⟨S, hS⟩ : ∃ S, bs [UInt8.ofNat (48 + n)] = S := ⟨_, rfl⟩
  rw [hS] at hcv ⊢
  clear hd hS
  go_enter Tryz.func163, Tryz.ntmps163
  go_wp2
  go_ret
  exact ⟨rfl, bel_al _ _⟩
theorem digits_any (n : Nat) : n ≤ 4294967296 → ∀ w : World, Calls Tryz.prog 163 #[.int .i64 n] w fun e w' => e = .returned (.string (bs (digL n))) ∧ Below w.heap.size w w' := by
  induction n using Nat.strongRecOn with
  | ind n ih =>
    intro hn w
    by_cases h : n < 10
    · exact digits_low n h w
    have h1 : Int.tdiv (n : Int) 10 = ((n / 10 : Nat) : Int) := by rw [Int.tdiv_eq_ediv_of_nonneg (by omega)]; omega
    have h2 : Int.tmod (n : Int) 10 = ((n % 10 : Nat) : Int) := by rw [Int.tmod_eq_emod_of_nonneg (by omega)]; omega
    have HA := Lib.hid (ih (n / 10) (by omega) (by omega))
    have HB := Lib.hid (digits_low (n % 10) (by omega))
    have hl := digL_len 10 (n / 10) (by omega)
    have hd : digL n = digL (n / 10) ++ digL (n % 10) := by rw [digL, dif_neg h]; rw [digL.eq_def (n % 10), dif_pos (by omega)]
    have hl2 : (digL (n % 10)).length ≤ 11 := digL_len 10 _ (by omega)
    rw [hd]
    have hadd := add_bs2 (digL (n / 10)) (digL (n % 10)) (by omega)
    clear hd ih
    go_enter Tryz.func163, Tryz.ntmps163
    go_wp2_with fail
    refine (HA.out _).mono ?_
    rintro e w1 ⟨rfl, hb1⟩
    have HB1 := Lib.hid hb1
    clear hb1
    go_wp2_with fail
    refine (HB.out _).mono ?_
    rintro e w2 ⟨rfl, hb2⟩
    have HB2 := Lib.hid (seq HB1.out hb2)
    clear hb2
    go_wp2
    go_ret
    exact ⟨rfl, HB2.out⟩
set_option maxRecDepth 100000 in
set_option maxHeartbeats 2000000 in
theorem whole_110 (n : Int) (hn : -2147483648 ≤ n ∧ n ≤ 2147483647) (w : World) : Calls Tryz.prog 110 #[.int .i32 n] w fun e w' => e = .returned (.string (bs (dgL n))) ∧ Below w.heap.size w w' := by
  have HA := Lib.hid (digits_any n.natAbs (by omega))
  unfold dgL
  by_cases h : n < 0
  · have e : (n.natAbs : Int) = -n := by omega
    rw [e] at HA
    go_enter Tryz.func110, Tryz.ntmps110
    go_wp2_with fail
    refine (HA.out _).mono ?_
    rintro e w1 ⟨rfl, hb1⟩
    have HB1 := Lib.hid hb1
    clear hb1
    go_wp2
    go_ret
    exact ⟨rfl, HB1.out⟩
  · have e : (n.natAbs : Int) = n := by omega
    rw [e] at HA
    go_enter Tryz.func110, Tryz.ntmps110
    go_wp2_with fail
    refine (HA.out _).mono ?_
    rintro e w1 ⟨rfl, hb1⟩
    have HB1 := Lib.hid hb1
    clear hb1
    go_wp2
    go_ret
    exact ⟨rfl, HB1.out⟩
set_option maxRecDepth 100000 in
set_option maxHeartbeats 2000000 in
theorem unText_112 (op : Int) (h0 : 0 ≤ op) (h1 : op < 3) (w : World) : Calls Tryz.prog 112 #[.int .i64 op] w fun e w' => e = .returned (.string (bs (unText op))) ∧ Below w.heap.size w w' := by
  have HU := Lib.hid (ref_un op)
  rw [show decide (0 ≤ op ∧ op < 3) = true by simp; omega] at HU
  have h : op = 0 ∨ op = 1 ∨ op = 2 := by omega
  rcases h with rfl | rfl | rfl
  all_goals
    go_enter Tryz.func112, Tryz.ntmps112
    go_wp2_with fail
    refine (HU.out _).mono ?_
    rintro e w1 ⟨rfl, rfl⟩
    go_wp2
    go_ret
    exact ⟨rfl, bel_al _ _⟩
set_option maxRecDepth 100000 in
set_option maxHeartbeats 2000000 in
theorem opText_113 (op : Int) (h0 : 0 ≤ op) (h1 : op < 20) (w : World) : Calls Tryz.prog 113 #[.int .i64 op] w fun e w' => e = .returned (.string (bs (opText op))) ∧ Below w.heap.size w w' := by
  have HU := Lib.hid (ref_bin op)
  rw [show decide (0 ≤ op ∧ op < 20) = true by simp; omega] at HU
  have h : op = 0 ∨ op = 1 ∨ op = 2 ∨ op = 3 ∨ op = 4 ∨ op = 5 ∨ op = 6 ∨ op = 7 ∨ op = 8 ∨ op = 9 ∨ op = 10 ∨ op = 11 ∨ op = 12 ∨ op = 13 ∨ op = 14 ∨ op = 15 ∨ op = 16 ∨ op = 17 ∨ op = 18 ∨ op = 19 := by omega
  rcases h with rfl | rfl | rfl | rfl | rfl | rfl | rfl | rfl | rfl | rfl | rfl | rfl | rfl | rfl | rfl | rfl | rfl | rfl | rfl | rfl
  all_goals
    go_enter Tryz.func113, Tryz.ntmps113
    go_wp2_with fail
    refine (HU.out _).mono ?_
    rintro e w1 ⟨rfl, rfl⟩
    go_wp2
    go_ret
    exact ⟨rfl, bel_al _ _⟩
set_option maxRecDepth 100000 in
set_option maxHeartbeats 2000000 in
theorem special_111 (w : World) : Calls Tryz.prog 111 #[] w fun e w' => e = .returned (.slice (some ⟨w.heap.size, 0, none⟩) 4 4) ∧ w' = w.alloc (.cells #[.string (bs [116, 105, 100]), .string (bs [98, 105, 100]), .string (bs [100, 105, 109]), .string (bs [103, 114, 105, 100])] 9) := by
  go_enter Tryz.func111, Tryz.ntmps111
  go_wp2
  go_ret
  first | exact ⟨rfl, rfl⟩
end Go.Proofs.YtbkhnilbgocpnaaGreatDoor.SynC
namespace Go.Proofs.YtbkhnilbgocpnaaGreatDoor.SynC
open Go.Proofs.YtbkhnilbgocpnaaGreatDoor.LexC
open Go Go.ChangeShapes Go.WideShapes Go.ChangeAt Go.RowKit Go.Deep

def sv (t : List UInt8) : Value := .string (bs t)
def OwnS (w : World) (base : Nat) (v : Value) (L : List (List UInt8)) : Prop := w.ownsRow base 9 1 v L.length (L.map sv)
theorem OwnS.nil (w : World) (base : Nat) : OwnS w base (.slice none 0 0) [] := ⟨rfl, .inl ⟨rfl, rfl⟩⟩
theorem OwnS.below {w w' : World} {base : Nat} {v : Value} {L : List (List UInt8)} (h : OwnS w base v L) (hb : Below w.heap.size w w') : OwnS w' base v L := by
  refine ⟨h.1, ?_⟩
  rcases h.2 with hv | ⟨g, cap, cur, hv, h1, h2, h3⟩
  · exact .inl hv
  · exact .inr ⟨g, cap, cur, hv, h1, (hb.block g (Array.getElem?_eq_some_iff.1 h2).1).trans h2, h3⟩
theorem wpList_append_str {ops : Array Oper} {rest : List Oper} {o : Oper} {a : Act} {W : World} {Q : Exit → Act → World → Prop} (hgd : o.guard = none) (s x : Operand)
    (ho : o.op = .call { callee := .builtin .append, args := #[s, x], argTypes := #[68, 68] }) (base : Nat) (v : Value) (L : List (List UInt8)) (t : List UInt8)
    (hs : a.eval s = v) (hown : OwnS W base v L) (g : Nat) (hg : g = W.heap.size) (hx : a.eval x = .slice (some ⟨g, 0, none⟩) 1 1) (hl : L.length ≤ 1000000) (hbase : base ≤ W.heap.size)
    (h : ∀ v' w', OwnS w' base v' (L ++ [t]) → Below base W w' → wpList Tryz.prog ops Q rest (a.put o.dst v') w') :
    wpList Tryz.prog ops Q (o :: rest) a (W.alloc (.cells #[.string (bs t)] 9)) := by
  subst hg
  obtain ⟨i, hi, hz, hs1, hb⟩ := info_parts info9
  have hown' : (W.alloc (.cells #[.string (bs t)] 9)).ownsRow base 9 1 v L.length (L.map sv) :=
    hown.below ((Below.refl _ _).alloc (Nat.le_refl _) _)
  refine wpList_append_own _ hgd s x 68 ho base 9 i _ 1 16 Tryz.underlying68 hi hz hs1 hb rfl (by decide) v L.length (L.map sv) hs hown' ⟨W.heap.size, 0, none⟩ 1 1 [.string (bs t)] hx rfl ?_ (fun u hu => by simp at hu; subst hu; rfl) (by unfold maxLen; omega) (by omega) (by simp; omega) ?_
  · intro j u hu
    have hadd : (⟨W.heap.size, 0, none⟩ : Addr).add j = ⟨W.heap.size, j, none⟩ := by unfold Addr.add; split <;> simp_all
    rw [hadd, cell_of_row _ _ j #[.string (bs t)] 9 (0, 0) (by show (W.heap.push _)[W.heap.size]? = _; simp)]
    rw [← hu]
    simp
  · intro v' w' h1 h2 _
    have e : L.map sv ++ [.string (bs t)] = (L ++ [t]).map sv := by simp [sv]
    rw [e] at h1
    have hall : W.grownBy w' v.ownBlock := (World.grownBy_alloc _ _ _).trans h2
    refine h v' w' ?_ ((Below.refl base W).grown hall hbase (fun k hk => ((World.ownsRow.lt hown) k hk).1))
    unfold OwnS
    rw [List.length_append]
    exact h1
theorem OwnS.open_ {w : World} {base : Nat} {v : Value} {L : List (List UInt8)} (h : OwnS w base v L) : ∃ A c, v = .slice A L.length c ∧ ∀ i t, L[i]? = some t → ∃ g, A = some ⟨g, 0, none⟩ ∧ base ≤ g ∧ g < w.heap.size ∧ w.cell? ⟨g, i, none⟩ = some (.string (bs t)) := by
  obtain ⟨h0, h1⟩ := h
  rcases h1 with ⟨hv, hl⟩ | ⟨g, cap, cur, hv, hb, hq, hn, _, hsz, ht⟩
  · exact ⟨none, 0, by rw [hv, hl], fun i t hi => by
      have := (List.getElem?_eq_some_iff.1 hi).1
      omega⟩
  · refine ⟨some ⟨g, 0, none⟩, cap, hv, fun i t hi => ⟨g, rfl, hb, (Array.getElem?_eq_some_iff.1 hq).1, ?_⟩⟩
    rw [cell_of_row _ _ i _ _ _ hq]
    have hi' : (L.map sv)[i]? = some (sv t) := by simp [hi]
    have hlt := (List.getElem?_eq_some_iff.1 hi).1
    rw [← ht, List.getElem?_take, if_pos (by omega), Array.getElem?_toList] at hi'
    exact hi'
theorem add_b3 (a b : List UInt8) (h : a.length + b.length ≤ 10000000) : ∀ w : World, (Op.stringOp .add (bs a) (bs b)).run Tryz.prog w = .ok (.string (bs (a ++ b))) w := fun w => by
  rw [run_string_add_sum w _ _ (by rw [bs_size, bs_size]; omega), bs_append]
theorem add_l3 (a b : List UInt8) (s : ByteArray) (hs : bs b = s) (h : a.length + b.length ≤ 10000000) : ∀ w : World, (Op.stringOp .add (bs a) s).run Tryz.prog w = .ok (.string (bs (a ++ b))) w := hs ▸ add_b3 a b h
theorem add_r3 (a b : List UInt8) (s : ByteArray) (hs : bs a = s) (h : a.length + b.length ≤ 10000000) : ∀ w : World, (Op.stringOp .add s (bs b)).run Tryz.prog w = .ok (.string (bs (a ++ b))) w := hs ▸ add_b3 a b h
theorem commasL_take {L : List (List UInt8)} {k : Nat} {t : List UInt8} (h : L[k]? = some t) : commasL (L.take (k + 1)) = (if 0 < k then commasL (L.take k) ++ [32, 44] else []) ++ 32 :: t := by
  cases L with
  | nil => simp at h
  | cons a r =>
    cases k with
    | zero => simp at h; subst h; simp [commasL]
    | succ k =>
      have hr : r[k]? = some t := by simpa using h
      have e : r.take (k + 1) = r.take k ++ [t] := by rw [List.take_add_one, hr]; rfl
      rw [List.take_succ_cons, List.take_succ_cons, commasL, commasL, if_pos (by omega), e, List.flatMap_append]
      simp
theorem commasL_le {L : List (List UInt8)} (k : Nat) : (commasL (L.take k)).length ≤ (commasL L).length := by
  cases L with
  | nil => simp
  | cons a r =>
    cases k with
    | zero => simp [commasL]
    | succ k =>
      rw [List.take_succ_cons, commasL, commasL]
      have h : ((r.take k).flatMap fun u => (32 : UInt8) :: 44 :: 32 :: u).length ≤ (r.flatMap fun u => (32 : UInt8) :: 44 :: 32 :: u).length := by
        conv => rhs; rw [← List.take_append_drop k r, List.flatMap_append, List.length_append]
        omega
      simp only [List.length_cons, List.length_append]
      omega
set_option maxRecDepth 100000 in
set_option maxHeartbeats 2000000 in
theorem commas_103 (L : List (List UInt8)) (hL : (commasL L).length ≤ 1000000) (hn : L.length ≤ 1000000) (w : World) (base : Nat) (v : Value) (hv : OwnS w base v L) :
    Calls Tryz.prog 103 #[v] w fun e w' => e = .returned (.string (bs (commasL L))) ∧ Below w.heap.size w w' := by
  obtain ⟨A, c, rfl, hat⟩ := hv.open_
  have HA := Lib.hid hat
  clear hat hv
  go_enter Tryz.func103, Tryz.ntmps103
  go_wp2_with fail
  go_loopw [3, 4] (fun s i wr => ∃ (k : Nat), k ≤ L.length ∧ i = .int .i64 k ∧ s = .string (bs (commasL (L.take k))) ∧ Below w.heap.size w wr) (fun _ i _ => L.length - (intOf i).toNat)
  case atStart => exact ⟨0, Nat.zero_le _, rfl, rfl, Below.refl _ _⟩
  case round =>
    obtain ⟨k, hk, rfl, rfl, hbr⟩ := hrel
    obtain ⟨wo, rfl⟩ : ∃ z, z = wr := ⟨_, rfl⟩
    have HBR := Lib.hid hbr
    by_cases hlt : k < L.length
    · obtain ⟨t, ht⟩ : ∃ t, L[k]? = some t := ⟨L[k], List.getElem?_eq_getElem hlt⟩
      obtain ⟨g, rfl, _, hg, hc⟩ := HA.out k t ht
      have d0 : wo.cell? ⟨g, k, none⟩ = some (.string (bs t)) := (hbr.cell hg).trans hc
      have hin : (0 : Int) ≤ k ∧ (k : Int) < L.length := ⟨by omega, by omega⟩
      have hT := commasL_take ht
      have hle := commasL_le (L := L) (k + 1)
      by_cases h0 : 0 < k
      · rw [if_pos h0] at hT
        have hle2 := hle
        rw [hT] at hle2
        simp only [List.length_append, List.length_cons, List.length_nil] at hle2
        have a1 := add_l3 (commasL (L.take k)) [32, 44] ⟨#[32, 44]⟩ rfl (by simp; omega)
        have a2 := add_l3 (commasL (L.take k) ++ [32, 44]) [32] ⟨#[32]⟩ rfl (by simp; omega)
        have a3 := add_b3 (commasL (L.take k) ++ [32, 44] ++ [32]) t (by simp; omega)
        have hT : commasL (L.take (k + 1)) = commasL (L.take k) ++ [32, 44] ++ [32] ++ t := by rw [hT]; simp
        obtain ⟨P0, hP0⟩ : ∃ P, commasL (L.take k) = P := ⟨_, rfl⟩
        rw [hP0] at a1 a2 a3 hT ⊢
        obtain ⟨P1, hP1⟩ : ∃ P, P0 ++ [32, 44] = P := ⟨_, rfl⟩
        rw [hP1] at a1 a2 a3 hT
        obtain ⟨P2, hP2⟩ : ∃ P, P1 ++ [32] = P := ⟨_, rfl⟩
        rw [hP2] at a2 a3 hT
        obtain ⟨P3, hP3⟩ : ∃ P, P2 ++ t = P := ⟨_, rfl⟩
        rw [hP3] at a3 hT
        have HT := Lib.hid hT
        clear hbr hc ht hT hle hle2 hP0 hP1 hP2 hP3
        go_wp2
        go_roundw
        case rel => exact ⟨k + 1, by omega, by go_num, by rw [HT.out], HBR.out⟩
        case measure => simp [intOf]; omega
      · have hk0 : k = 0 := by omega
        subst hk0
        rw [if_neg h0] at hT
        have hle2 := hle
        rw [hT] at hle2
        simp only [List.length_append, List.length_cons, List.length_nil] at hle2
        have e0 : commasL (L.take 0) = [] := by simp [commasL]
        have a2 := add_l3 [] [32] ⟨#[32]⟩ rfl (by simp)
        have a3 := add_b3 [32] t (by simp; omega)
        have hT : commasL (L.take (0 + 1)) = [32] ++ t := by rw [hT]; simp
        have e1 : ([] : List UInt8) ++ [32] = [32] := rfl
        rw [e1] at a2
        obtain ⟨E0, hE0⟩ : ∃ P, bs [] = P := ⟨_, rfl⟩
        obtain ⟨P2, hP2⟩ : ∃ P, bs [32] = P := ⟨_, rfl⟩
        obtain ⟨P3, hP3⟩ : ∃ P, [32] ++ t = P := ⟨_, rfl⟩
        rw [e0]
        rw [hP2] at a2 a3
        rw [hP3] at a3 hT
        rw [hE0] at a2 ⊢
        have HT := Lib.hid hT
        clear hbr hc ht hT hle hle2 e0 e1 hP2 hP3 hE0
        go_wp2
        go_roundw
        case rel => exact ⟨1, by omega, by go_num, by rw [HT.out], HBR.out⟩
        case measure => simp [intOf]; omega
    · have ht : L.take k = L := List.take_of_length_le (by omega)
      rw [ht]
      clear hbr
      go_wp2
      go_ret
      exact ⟨rfl, HBR.out⟩
end Go.Proofs.YtbkhnilbgocpnaaGreatDoor.SynC
