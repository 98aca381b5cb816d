import Derived.Test.YtlpmeodphjpmeaaDoorJMath
/- What the scanning of texts says: tokens stand by themselves; gaps; the longest token. No program in it. -/
namespace Go.Proofs.YtlpmeodphjpmeaaDoor.Lex

/-- What may stand behind a token without touching it. -/
def Sep (w : List UInt8) : Prop := w = [] ∨ ∃ d r, w = d :: r ∧ (blkB d = true ∨ d = 35)
theorem Sep.not_inn {w : List UInt8} (h : Sep w) : ∀ d r, w = d :: r → innB d = false ∧ digB d = false := by
  intro d r e
  rcases h with h | ⟨d', r', h, hb⟩
  · rw [h] at e; cases e
  · rw [h] at e
    cases e
    rcases hb with hb | rfl
    · unfold blkB blkN at hb
      unfold innB innN letN digN digB digN
      simp at hb ⊢
      omega
    · decide
theorem sign_heads : signsL.all (fun g => match g with | [] => false | c :: _ => decide (c ≠ 35) && !blkB c && !letB c && !digB c && !innB c) = true := by decide
theorem sign_chars : signsL.all (fun g => g.all fun c => decide (c ≠ 35) && !blkB c && !innB c) = true := by decide
theorem sign_head {g : List UInt8} (h : g ∈ signsL) : ∃ c r, g = c :: r ∧ c ≠ 35 ∧ blkB c = false ∧ letB c = false ∧ digB c = false ∧ innB c = false := by
  have := List.all_eq_true.1 sign_heads g h
  cases g with
  | nil => cases this
  | cons c r =>
    simp at this
    exact ⟨c, r, rfl, this.1.1.1.1, this.1.1.1.2, this.1.1.2, this.1.2, this.2⟩
theorem sign_char {g : List UInt8} (h : g ∈ signsL) {c : UInt8} (hc : c ∈ g) : c ≠ 35 ∧ blkB c = false ∧ innB c = false := by
  have := List.all_eq_true.1 (List.all_eq_true.1 sign_chars g h) c hc
  simp at this
  exact ⟨this.1.1, this.1.2, this.2⟩
theorem let_head {c : UInt8} (h : letB c = true) : c ≠ 35 ∧ blkB c = false := by
  unfold letB letN at h
  unfold blkB blkN
  simp at h ⊢
  refine ⟨?_, by omega⟩
  rintro rfl
  simp at h
theorem dig_head {c : UInt8} (h : digB c = true) : c ≠ 35 ∧ blkB c = false := by
  unfold digB digN at h
  unfold blkB blkN
  simp at h ⊢
  refine ⟨?_, by omega⟩
  rintro rfl
  simp at h

def Good (t : Tok) : Prop := (∃ c r, t.text = c :: r ∧ c ≠ 35 ∧ blkB c = false) ∧ ∀ w, Sep w → tokenAt (t.text ++ w) = some { t with pos := 0 }
theorem Good.pos {t : Tok} (h : Good t) (i : Int) : Good { t with pos := i } := h

theorem sign_stable {t w v : List UInt8} (h : signsL.find? (fun g => g.isPrefixOf (t ++ v)) = some t) (hw : Sep w) : signsL.find? (fun g => g.isPrefixOf (t ++ w)) = some t := by
  rw [List.find?_eq_some_iff_append] at h ⊢
  obtain ⟨_, as, bs_, e, hn⟩ := h
  refine ⟨List.isPrefixOf_iff_prefix.2 ⟨w, rfl⟩, as, bs_, e, fun a ha => ?_⟩
  have hna := hn a ha
  cases hp : a.isPrefixOf (t ++ w)
  · rfl
  · exfalso
    have ha2 : a ∈ signsL := by rw [e]; simp [ha]
    have hpre := List.isPrefixOf_iff_prefix.1 hp
    have hat : a <+: t := by
      rcases List.prefix_or_prefix_of_prefix hpre (List.prefix_append t w) with h1 | ⟨q, h1⟩
      · exact h1
      · cases q with
        | nil => rw [← h1]; simp
        | cons d q =>
          rw [← h1, List.prefix_append_right_inj] at hpre
          obtain ⟨z, hz⟩ := hpre
          have hd : d ∈ a := by rw [← h1]; simp
          obtain ⟨c1, c2, _⟩ := sign_char ha2 hd
          rcases hw with h2 | ⟨d', r', h2, hb⟩
          · rw [h2] at hz; cases hz
          · rw [h2] at hz
            cases hz
            rcases hb with hb | hb
            · rw [hb] at c2; cases c2
            · exact absurd hb c1
    have : a.isPrefixOf (t ++ v) = true := List.isPrefixOf_iff_prefix.2 (hat.trans (List.prefix_append t v))
    simp [this] at hna

theorem drop_append_len (t w : List UInt8) : (t ++ w).drop t.length = w := by simp

theorem tokenAt_good {l : List UInt8} {t : Tok} (h : tokenAt l = some t) : Good t := by
  have hpos := tokenAt_pos h
  have hself : ({ t with pos := 0 } : Tok) = t := by cases t; simp at hpos; subst hpos; rfl
  unfold Good
  rw [hself]
  obtain ⟨v, hv⟩ := tokenAt_prefix h
  have hlen := tokenAt_len h
  rcases tokenAt_cases h with ⟨c, r, hl, h1, ht, hnum, hk⟩ | ⟨c, r, n, hl, h1, h2, ht, hk, hval, hnum, hd⟩ | ⟨c, r, hl, h1, h2, hf, hk, hnum⟩
  · have hc : ∃ q, t.text = c :: q := by rw [ht, hl]; exact ⟨_, List.takeWhile_cons_of_pos (inn_of_let h1)⟩
    obtain ⟨q, hq⟩ := hc
    obtain ⟨n1, n2⟩ := let_head h1
    refine ⟨⟨c, q, hq, n1, n2⟩, fun w hw => ?_⟩
    have htw : (t.text ++ w).takeWhile innB = t.text := takeWhile_append_stop (by rw [ht]; exact takeWhile_all) (fun d r e => (hw.not_inn d r e).1)
    have e : t.text ++ w = c :: (q ++ w) := by rw [hq]; rfl
    rw [e, tokenAt_cons, if_pos h1, ← e]
    unfold wordTok
    rw [htw]
    obtain ⟨k, p, x, m⟩ := t
    simp only at hnum hk hpos ⊢
    subst hnum; subst hpos
    rcases hk with ⟨h3, rfl⟩ | ⟨h3, h4, rfl⟩
    · rw [if_pos h3]
    · rw [if_neg (by rw [h3]; decide), if_neg (by omega)]
  · have hc : ∃ q, t.text = c :: q := by rw [ht, hl]; exact ⟨_, List.takeWhile_cons_of_pos h2⟩
    obtain ⟨q, hq⟩ := hc
    obtain ⟨n1, n2⟩ := dig_head h2
    refine ⟨⟨c, q, hq, n1, n2⟩, fun w hw => ?_⟩
    have htw : (t.text ++ w).takeWhile digB = t.text := takeWhile_append_stop (by rw [ht]; exact takeWhile_all) (fun d r e => (hw.not_inn d r e).2)
    have e : t.text ++ w = c :: (q ++ w) := by rw [hq]; rfl
    rw [e, tokenAt_cons, if_neg (by rw [h1]; decide), if_pos h2, ← e]
    unfold intTok
    rw [htw, drop_append_len, if_neg (by
      cases w with
      | nil => simp [headInn]
      | cons d z => simp [headInn, (hw.not_inn d z rfl).1]), hval]
    obtain ⟨k, p, x, m⟩ := t
    simp only at hnum hk hpos ⊢
    subst hnum; subst hpos; subst hk
    rfl
  · have hm := List.mem_of_find?_eq_some hf
    obtain ⟨c', q, hq, n1, n2, n3, n4, _⟩ := sign_head hm
    refine ⟨⟨c', q, hq, n1, n2⟩, fun w hw => ?_⟩
    have e : t.text ++ w = c' :: (q ++ w) := by rw [hq]; rfl
    rw [e, tokenAt_cons, if_neg (by rw [n3]; decide), if_neg (by rw [n4]; decide), ← e]
    unfold signTok
    rw [hv] at hf
    rw [sign_stable hf hw]
    obtain ⟨k, p, x, m⟩ := t
    simp only at hnum hk hpos ⊢
    subst hnum; subst hpos; subst hk
    rfl

theorem scan_good : ∀ (n : Nat) (l : List UInt8) (i : Nat), ∀ t ∈ (scan n l i).1, Good t
  | 0, _, _ => by intro t h; simp [scan] at h
  | _ + 1, [], _ => by intro t h; simp [scan] at h
  | n + 1, c :: r, i => by
    unfold scan
    split
    · exact scan_good n _ _
    · split
      · exact scan_good n _ _
      · split
        · intro t h; simp at h
        · rename_i t0 ht0
          intro t h
          rcases List.mem_cons.1 h with rfl | h
          · exact (tokenAt_good ht0).pos _
          · exact scan_good n _ _ t h
theorem sc_good {l : List UInt8} {i : Nat} {L : List Tok} {o : Option Nat} (h : sc l i = (L, o)) : ∀ t ∈ L, Good t := by
  have := scan_good l.length l i
  rw [show scan l.length l i = (L, o) from h] at this
  exact this
theorem scan_sum : ∀ (n : Nat) (l : List UInt8) (i : Nat), ((scan n l i).1.map (·.text.length)).sum ≤ l.length
  | 0, _, _ => by simp [scan]
  | _ + 1, [], _ => by simp [scan]
  | n + 1, c :: r, i => by
    unfold scan
    split
    · have := scan_sum n ((c :: r).drop (cnt noE (c :: r))) (i + cnt noE (c :: r))
      rw [List.length_drop] at this
      omega
    · split
      · have := scan_sum n r (i + 1)
        simp; omega
      · split
        · simp
        · rename_i t0 ht0
          have h1 := tokenAt_le ht0
          have := scan_sum n ((c :: r).drop t0.text.length) (i + t0.text.length)
          rw [List.length_drop] at this
          simp only [List.map_cons, List.sum_cons]
          omega
theorem joinL_sum : ∀ T : List (List UInt8), (joinL T).length ≤ (T.map (·.length)).sum + T.length
  | [] => by simp [joinL]
  | [t] => by simp [joinL]
  | t :: u :: r => by
    have := joinL_sum (u :: r)
    rw [joinL_cons _ _ (by simp), List.length_append, List.length_cons]
    simp only [List.map_cons, List.sum_cons, List.length_cons] at this ⊢
    omega

/-- A good token at the beginning. -/
theorem sc_good_cons {t : Tok} (h : Good t) {w : List UInt8} (hw : Sep w) (i : Nat) :
    sc (t.text ++ w) i = ({ t with pos := (i : Int) } :: (sc w (i + t.text.length)).1, (sc w (i + t.text.length)).2) := by
  obtain ⟨⟨c, q, hq, n1, n2⟩, hT⟩ := h
  have ht := hT w hw
  have e : t.text ++ w = c :: (q ++ w) := by rw [hq]; rfl
  have e2 := sc_tok (c := c) (r := q ++ w) (i := i) (t := { t with pos := 0 }) n1 n2 (by rw [← e]; exact ht)
  rw [← e] at e2
  rw [e2, drop_append_len]

/-- What a token is, but for its place. -/
def key (t : Tok) : Int × List UInt8 × Int := (t.kind, t.text, t.num)
theorem sc_join (L : List Tok) : (∀ t ∈ L, Good t) → ∀ i, ∃ M, sc (joinL (L.map (·.text))) i = (M, none) ∧ M.map key = L.map key := by
  induction L with
  | nil => exact fun _ i => ⟨[], rfl, rfl⟩
  | cons t r ih =>
    intro hg i
    have ht := hg t (by simp)
    cases r with
    | nil =>
      have := sc_good_cons ht (.inl rfl : Sep []) i
      rw [List.append_nil, sc_nil] at this
      exact ⟨_, this, rfl⟩
    | cons u q =>
      have hs : Sep (32 :: joinL ((u :: q).map (·.text))) := .inr ⟨32, _, rfl, .inl (by decide)⟩
      have h1 := sc_good_cons ht hs i
      rw [sc_blank _ _ (by decide)] at h1
      obtain ⟨M, hM, hk⟩ := ih (fun x hx => hg x (by simp [hx])) (i + t.text.length + 1)
      rw [hM] at h1
      refine ⟨{ t with pos := (i : Int) } :: M, ?_, ?_⟩
      · rw [List.map_cons, joinL_cons _ _ (by simp)]
        exact h1
      · simp only [List.map_cons] at hk ⊢
        rw [hk]; rfl
end Go.Proofs.YtlpmeodphjpmeaaDoor.Lex
