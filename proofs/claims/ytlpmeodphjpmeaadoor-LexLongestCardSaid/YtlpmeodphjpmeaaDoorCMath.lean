import Derived.Test.YtlpmeodphjpmeaaDoorBMath
/- Gaps between tokens; a token cannot be extended; texts with blanks and comments between the tokens. No program in it. -/
namespace Go.Proofs.YtlpmeodphjpmeaaDoor.Lex

/-- Blanks and comments: is a comment open behind them? -/
def gaps : Bool → List UInt8 → Option Bool
  | o, [] => some o
  | o, c :: r => if c = 10 then gaps false r else if c = 35 then gaps true r else if o = false ∧ blkB c = false then none else gaps o r
theorem gaps_cons (o : Bool) (c : UInt8) (r : List UInt8) : gaps o (c :: r) = if c = 10 then gaps false r else if c = 35 then gaps true r else if o = false ∧ blkB c = false then none else gaps o r := by
  rw [gaps]
theorem gaps_append (o : Bool) (a b : List UInt8) : gaps o (a ++ b) = (gaps o a).bind fun p => gaps p b := by
  induction a generalizing o with
  | nil => rfl
  | cons c r ih =>
    rw [List.cons_append, gaps_cons, gaps_cons]
    by_cases h1 : c = 10
    · rw [if_pos h1, if_pos h1]; exact ih _
    · rw [if_neg h1, if_neg h1]
      by_cases h2 : c = 35
      · rw [if_pos h2, if_pos h2]; exact ih _
      · rw [if_neg h2, if_neg h2]
        by_cases h3 : o = false ∧ blkB c = false
        · rw [if_pos h3, if_pos h3]; rfl
        · rw [if_neg h3, if_neg h3]; exact ih _
/-- A comment. -/
theorem gaps_comment : ∀ l : List UInt8, (∀ c ∈ l, noE c = true) → gaps true l = some true
  | [], _ => rfl
  | c :: r, h => by
    have hc := h c (by simp)
    have h10 : c ≠ 10 := by rintro rfl; exact absurd hc (by decide)
    have := gaps_comment r (fun x hx => h x (by simp [hx]))
    rw [gaps_cons, if_neg h10]
    by_cases h2 : c = 35
    · rw [if_pos h2]; exact this
    · rw [if_neg h2, if_neg (by simp)]; exact this
theorem gaps_hash (r : List UInt8) : gaps false ((35 :: r).take (cnt noE (35 :: r))) = some true := by
  rw [take_cnt]
  have h : ∀ c ∈ (35 :: r : List UInt8).takeWhile noE, noE c = true := takeWhile_all
  have e : (35 :: r : List UInt8).takeWhile noE = 35 :: r.takeWhile noE := List.takeWhile_cons_of_pos (by decide)
  rw [e] at h ⊢
  rw [gaps_cons, if_neg (by decide), if_pos rfl]
  exact gaps_comment _ (fun c hc => h c (by simp [hc]))
/-- Behind a comment stands its end. -/
theorem after_comment (p : UInt8 → Bool) (l : List UInt8) : ∀ d r, l.drop (cnt p l) = d :: r → p d = false := by
  intro d r h
  have e := List.takeWhile_append_dropWhile (p := p) (l := l)
  have e3 : (l.takeWhile p ++ l.dropWhile p).drop (l.takeWhile p).length = l.dropWhile p := by simp only [List.drop_left]
  rw [e] at e3
  have e2 : l.dropWhile p = d :: r := e3.symm.trans h
  cases hd : p d
  · rfl
  · exfalso
    have := List.head_dropWhile_not p (show l.dropWhile p ≠ [] by rw [e2]; simp)
    simp only [e2, List.head_cons] at this
    rw [hd] at this
    cases this
theorem not_noE {d : UInt8} (h : noE d = false) : d = 10 := by
  unfold noE noEN at h
  simp at h
  apply UInt8.toNat_inj.1
  have : d.toNat = 10 := by omega
  rw [this]; rfl
theorem ten_blank : blkB 10 = true := by decide

/-- The first token: what stands before it is blanks and comments; it is a token; the rest follows. -/
def First (u : List UInt8) (i : Nat) (t : Tok) (rest : List Tok) : Prop :=
  ∃ g u', u = g ++ (t.text ++ u') ∧ t.pos = ((i + g.length : Nat) : Int) ∧ gaps false g = some false ∧ t.text ≠ [] ∧ sc u' (i + g.length + t.text.length) = (rest, none) ∧ tokenAt (t.text ++ u') = some { t with pos := 0 }
theorem first_aux : ∀ (n : Nat) (u : List UInt8) (i : Nat) (t : Tok) (rest : List Tok), u.length ≤ n → sc u i = (t :: rest, none) → First u i t rest := by
  intro n
  induction n with
  | zero =>
    intro u i t rest hn h
    have : u = [] := List.eq_nil_of_length_eq_zero (by omega)
    subst this
    rw [sc_nil] at h
    cases h
  | succ n ih =>
    intro u i t rest hn h
    cases u with
    | nil => rw [sc_nil] at h; cases h
    | cons c r =>
      simp only [List.length_cons] at hn
      by_cases h35 : c = 35
      · subst h35
        rw [sc_hash] at h
        have hc1 := cnt_hash r
        obtain ⟨g, u', e, hp, hg, hne, hsc, htk⟩ := ih _ _ t rest (by simp; omega) h
        have hcl := cnt_le noE (35 :: r)
        have hkl : ((35 :: r).take (cnt noE (35 :: r))).length = cnt noE (35 :: r) := by rw [List.length_take]; omega
        refine ⟨(35 :: r).take (cnt noE (35 :: r)) ++ g, u', ?_, ?_, ?_, hne, ?_, htk⟩
        · rw [List.append_assoc, ← e, List.take_append_drop]
        · rw [hp, List.length_append, hkl]; omega
        · rw [gaps_append, gaps_hash]
          show gaps true g = some false
          have ha := after_comment noE (35 :: r)
          cases g with
          | nil =>
            exfalso
            rw [List.nil_append] at e
            cases hx : t.text with
            | nil => exact hne hx
            | cons d q =>
              rw [hx] at e
              have hd := not_noE (ha d (q ++ u') e)
              subst hd
              obtain ⟨⟨c', q', hq', n1, n2⟩, _⟩ := tokenAt_good htk
              have : ({ t with pos := 0 } : Tok).text = 10 :: q := hx
              rw [this] at hq'
              cases hq'
              rw [ten_blank] at n2
              cases n2
          | cons d q =>
            have hd := not_noE (ha d (q ++ (t.text ++ u')) e)
            subst hd
            rw [gaps_cons, if_pos rfl] at hg ⊢
            exact hg
        · rw [List.length_append, hkl, ← Nat.add_assoc]; exact hsc
      · cases hb : blkB c
        · cases ht : tokenAt (c :: r) with
          | none => rw [sc_bad h35 hb ht] at h; cases h
          | some t0 =>
            rw [sc_tok h35 hb ht] at h
            simp only [Prod.mk.injEq, List.cons.injEq] at h
            obtain ⟨⟨rfl, h1⟩, h2⟩ := h
            obtain ⟨v, hv⟩ := tokenAt_prefix ht
            have hl := tokenAt_len ht
            refine ⟨[], v, by rw [List.nil_append]; exact hv, by simp, rfl, by intro e; rw [show t0.text = [] from e] at hl; simp at hl, ?_, ?_⟩
            · have e : (c :: r).drop t0.text.length = v := by rw [hv, drop_append_len]
              rw [e] at h1 h2
              show sc v (i + 0 + t0.text.length) = (rest, none)
              rw [Nat.add_zero, ← h1, ← h2]
            · show tokenAt (t0.text ++ v) = some { t0 with pos := 0 }
              rw [← hv, ht]
              have := tokenAt_pos ht
              cases t0
              simp at this
              rw [this]
        · rw [sc_blank _ _ hb] at h
          obtain ⟨g, u', e, hp, hg, hne, hsc, htk⟩ := ih _ _ t rest (by omega) h
          refine ⟨c :: g, u', by rw [e]; rfl, by rw [hp, List.length_cons]; omega, ?_, hne, by rw [List.length_cons, show i + (g.length + 1) = i + 1 + g.length by omega]; exact hsc, htk⟩
          rw [gaps_cons]
          by_cases h10 : c = 10
          · rw [if_pos h10]; exact hg
          · rw [if_neg h10, if_neg h35, if_neg (by rw [hb]; simp)]; exact hg
theorem first {u : List UInt8} {i : Nat} {t : Tok} {rest : List Tok} (h : sc u i = (t :: rest, none)) : First u i t rest := first_aux u.length u i t rest (Nat.le_refl _) h
theorem last_aux : ∀ (n : Nat) (u : List UInt8) (i : Nat), u.length ≤ n → sc u i = ([], none) → gaps false u ≠ none := by
  intro n
  induction n with
  | zero =>
    intro u i hn h
    have : u = [] := List.eq_nil_of_length_eq_zero (by omega)
    subst this
    intro e; cases e
  | succ n ih =>
    intro u i hn h
    cases u with
    | nil => intro e; cases e
    | cons c r =>
      simp only [List.length_cons] at hn
      by_cases h35 : c = 35
      · subst h35
        rw [sc_hash] at h
        have hc1 := cnt_hash r
        have h2 := ih _ _ (by simp; omega) h
        have e : (35 :: r) = (35 :: r).take (cnt noE (35 :: r)) ++ (35 :: r).drop (cnt noE (35 :: r)) := (List.take_append_drop _ _).symm
        rw [e, gaps_append, gaps_hash]
        show gaps true _ ≠ none
        have ha := after_comment noE (35 :: r)
        cases hx : (35 :: r).drop (cnt noE (35 :: r)) with
        | nil => intro e; cases e
        | cons d q =>
          have hd := not_noE (ha d q hx)
          subst hd
          rw [hx] at h2
          rw [gaps_cons, if_pos rfl] at h2 ⊢
          exact h2
      · cases hb : blkB c
        · cases ht : tokenAt (c :: r) with
          | none => rw [sc_bad h35 hb ht] at h; cases h
          | some t0 => rw [sc_tok h35 hb ht] at h; cases h
        · rw [sc_blank _ _ hb] at h
          have h2 := ih _ _ (by omega) h
          rw [gaps_cons]
          by_cases h10 : c = 10
          · rw [if_pos h10]; exact h2
          · rw [if_neg h10, if_neg h35, if_neg (by rw [hb]; simp)]; exact h2
theorem last_ {u : List UInt8} {i : Nat} (h : sc u i = ([], none)) : gaps false u ≠ none := last_aux u.length u i (Nat.le_refl _) h

/-! The longest token -/
theorem sign_order : (List.range 31).all (fun i => (List.range 31).all fun j => !(signsL.getD i []).isPrefixOf (signsL.getD j []) || i == j || decide (j < i)) = true := by decide +kernel
theorem longest {x : List UInt8} {d : UInt8} {v : List UInt8} {t : Tok} (h : tokenAt (x ++ d :: v) = some t) (hx : t.text = x) :
    (∀ c r, x = c :: r → (innB c && innB d) = false) ∧ isSign (x ++ [d]) = false := by
  subst hx
  have hlen := tokenAt_len h
  have hg := tokenAt_good h
  rcases tokenAt_cases h with ⟨c, r, hl, h1, ht, _, _⟩ | ⟨c, r, n, hl, h1, h2, ht, _, _, _, hd⟩ | ⟨c, r, hl, h1, h2, hf, _, _⟩
  · have hs := takeWhile_stop ht.symm d v rfl
    refine ⟨fun c' r' _ => by rw [hs]; simp, ?_⟩
    cases hq : isSign (t.text ++ [d])
    · rfl
    · exfalso
      have hm : t.text ++ [d] ∈ signsL := by unfold isSign at hq; simpa using hq
      obtain ⟨c', q, hq', _, _, n3, _, _⟩ := sign_head hm
      have hc : ∃ z, t.text = c :: z := by rw [ht, hl]; exact ⟨_, List.takeWhile_cons_of_pos (inn_of_let h1)⟩
      obtain ⟨z, hz⟩ := hc
      rw [hz] at hq'
      cases hq'
      rw [h1] at n3; cases n3
  · have hs := hd d v (by rw [drop_append_len])
    refine ⟨fun c' r' _ => by rw [hs]; simp, ?_⟩
    cases hq : isSign (t.text ++ [d])
    · rfl
    · exfalso
      have hm : t.text ++ [d] ∈ signsL := by unfold isSign at hq; simpa using hq
      obtain ⟨c', q, hq', _, _, _, n4, _⟩ := sign_head hm
      have hc : ∃ z, t.text = c :: z := by rw [ht, hl]; exact ⟨_, List.takeWhile_cons_of_pos h2⟩
      obtain ⟨z, hz⟩ := hc
      rw [hz] at hq'
      cases hq'
      rw [h2] at n4; cases n4
  · have hm := List.mem_of_find?_eq_some hf
    obtain ⟨c', q, hq, _, _, _, _, n5⟩ := sign_head hm
    refine ⟨fun c2 r2 e => by rw [hq] at e; cases e; rw [n5]; rfl, ?_⟩
    cases hqq : isSign (t.text ++ [d])
    · rfl
    · exfalso
      have hm2 : t.text ++ [d] ∈ signsL := by unfold isSign at hqq; simpa using hqq
      rw [List.find?_eq_some_iff_getElem] at hf
      obtain ⟨_, i, hi, hgi, hn⟩ := hf
      obtain ⟨j, hj, hgj⟩ := List.getElem_of_mem hm2
      have hi31 : i < 31 := by simpa [signsL] using hi
      have hj31 : j < 31 := by simpa [signsL] using hj
      have ho := List.all_eq_true.1 (List.all_eq_true.1 sign_order i (by simp; exact hi31)) j (by simp; exact hj31)
      rw [List.getD_eq_getElem?_getD, List.getElem?_eq_getElem hi, List.getD_eq_getElem?_getD, List.getElem?_eq_getElem hj, Option.getD_some, Option.getD_some, hgi, hgj] at ho
      have hp : t.text.isPrefixOf (t.text ++ [d]) = true := List.isPrefixOf_iff_prefix.2 ⟨_, rfl⟩
      rw [hp] at ho
      simp at ho
      rcases ho with ho | ho
      · subst ho
        rw [hgi] at hgj
        have := congrArg List.length hgj
        simp at this
      · have hnj := hn j ho
        rw [hgj] at hnj
        have : (t.text ++ [d]).isPrefixOf (t.text ++ d :: v) = true := List.isPrefixOf_iff_prefix.2 ⟨v, by simp⟩
        simp [this] at hnj

/-! Blanks and comments between tokens -/
def gapS : Nat → List UInt8
  | 0 => [32] | 1 => [10] | 2 => [9, 32] | 3 => [32, 13, 10] | 4 => [35, 32, 99, 10] | 5 => [32, 35, 10, 32] | 6 => [35, 59, 32, 108, 101, 116, 32, 49, 97, 32, 36, 10] | _ => [32, 32]
theorem gap_sc (k : Nat) (u : List UInt8) (i : Nat) : sc (gapS k ++ u) i = sc u (i + (gapS k).length) ∧ Sep (gapS k ++ u) ∧ (gapS k).length ≤ 12 := by
  unfold gapS
  split
  · exact ⟨sc_blank _ _ (by decide), .inr ⟨_, _, rfl, .inl (by decide)⟩, by decide⟩
  · exact ⟨sc_blank _ _ (by decide), .inr ⟨_, _, rfl, .inl (by decide)⟩, by decide⟩
  · exact ⟨(sc_blank _ _ (by decide)).trans (sc_blank _ _ (by decide)), .inr ⟨_, _, rfl, .inl (by decide)⟩, by decide⟩
  · exact ⟨((sc_blank _ _ (by decide)).trans (sc_blank _ _ (by decide))).trans (sc_blank _ _ (by decide)), .inr ⟨_, _, rfl, .inl (by decide)⟩, by decide⟩
  · exact ⟨(sc_hash (32 :: 99 :: 10 :: u) i).trans (sc_blank u (i + 3) ten_blank), .inr ⟨_, _, rfl, .inr rfl⟩, by decide⟩
  · exact ⟨((sc_blank _ _ (by decide)).trans (sc_hash (10 :: 32 :: u) (i + 1))).trans ((sc_blank (32 :: u) (i + 2) ten_blank).trans (sc_blank u (i + 3) (by decide))), .inr ⟨_, _, rfl, .inl (by decide)⟩, by decide⟩
  · exact ⟨(sc_hash (59 :: 32 :: 108 :: 101 :: 116 :: 32 :: 49 :: 97 :: 32 :: 36 :: 10 :: u) i).trans (sc_blank u (i + 11) ten_blank), .inr ⟨_, _, rfl, .inr rfl⟩, by decide⟩
  · exact ⟨(sc_blank _ _ (by decide)).trans (sc_blank _ _ (by decide)), .inr ⟨_, _, rfl, .inl (by decide)⟩, by decide⟩

/-- The texts with gaps before, between and behind them. -/
def blk (ks : Nat → Nat) : Nat → List (List UInt8) → List UInt8
  | i, [] => gapS (ks i)
  | i, t :: r => gapS (ks i) ++ (t ++ blk ks (i + 1) r)
theorem blk_sep (ks : Nat → Nat) (i : Nat) (T : List (List UInt8)) : Sep (blk ks i T) := by
  cases T with
  | nil => have := (gap_sc (ks i) [] 0).2.1; rwa [List.append_nil] at this
  | cons t r => exact (gap_sc (ks i) _ 0).2.1
theorem sc_blk (ks : Nat → Nat) (L : List Tok) : (∀ t ∈ L, Good t) → ∀ i j, ∃ M, sc (blk ks j (L.map (·.text))) i = (M, none) ∧ M.map key = L.map key := by
  induction L with
  | nil =>
    intro _ i j
    have := (gap_sc (ks j) [] i).1
    rw [List.append_nil, sc_nil] at this
    exact ⟨[], this, rfl⟩
  | cons t r ih =>
    intro hg i j
    have ht := hg t (by simp)
    obtain ⟨M, hM, hk⟩ := ih (fun x hx => hg x (by simp [hx])) (i + (gapS (ks j)).length + t.text.length) (j + 1)
    refine ⟨{ t with pos := ((i + (gapS (ks j)).length : Nat) : Int) } :: M, ?_, ?_⟩
    · show sc (gapS (ks j) ++ (t.text ++ blk ks (j + 1) (r.map (·.text)))) i = _
      rw [(gap_sc (ks j) _ i).1, sc_good_cons ht (blk_sep ks (j + 1) _), hM]
    · simp only [List.map_cons]
      rw [hk]; rfl
theorem blk_len (ks : Nat → Nat) : ∀ (T : List (List UInt8)) (i : Nat), (blk ks i T).length ≤ (T.map (·.length)).sum + 12 * (T.length + 1)
  | [], i => by have := (gap_sc (ks i) [] 0).2.2; simp [blk]; omega
  | t :: r, i => by
    have h1 := (gap_sc (ks i) [] 0).2.2
    have h2 := blk_len ks r (i + 1)
    simp only [blk, List.length_append, List.map_cons, List.sum_cons, List.length_cons]
    omega
end Go.Proofs.YtlpmeodphjpmeaaDoor.Lex
