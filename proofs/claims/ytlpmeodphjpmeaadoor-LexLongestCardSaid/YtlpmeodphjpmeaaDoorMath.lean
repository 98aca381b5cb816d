/- Bytes, classes of bytes, tokens and scanning as plain functions of lists; no program in it. -/
namespace Go.Proofs.YtlpmeodphjpmeaaDoor.Lex

/-- Bytes as a string. -/
def bs (l : List UInt8) : ByteArray := ⟨l.toArray⟩
theorem bs_toList (l : List UInt8) : (bs l).data.toList = l := by simp [bs]
theorem bs_self (s : ByteArray) : bs s.data.toList = s := by cases s; simp [bs]
theorem size_toList (s : ByteArray) : s.data.toList.length = s.size := Array.length_toList
theorem bs_size (l : List UInt8) : (bs l).size = l.length := by rw [← size_toList, bs_toList]
theorem eq_bs {s : ByteArray} {l : List UInt8} (h : s.data.toList = l) : s = bs l := by rw [← h, bs_self]
theorem bs_inj {l m : List UInt8} (h : bs l = bs m) : l = m := by rw [← bs_toList l, ← bs_toList m, h]
theorem extract_toList (s : ByteArray) (a b : Nat) : (s.extract a b).data.toList = (s.data.toList.drop a).take (b - a) := by
  simp [ByteArray.data_extract]
theorem extract_bs (s : ByteArray) (a b : Nat) : s.extract a b = bs ((s.data.toList.drop a).take (b - a)) := eq_bs (extract_toList s a b)
theorem get_toList (s : ByteArray) (k : Nat) (h : k < s.size) : s.data.toList[k]? = some s[k] := by
  rw [List.getElem?_eq_getElem (by rw [size_toList]; exact h)]; rfl
theorem drop_cons (s : ByteArray) (k : Nat) (h : k < s.size) : s.data.toList.drop k = s[k] :: s.data.toList.drop (k + 1) := by
  rw [List.drop_eq_getElem_cons (by rw [size_toList]; exact h)]; rfl
theorem drop_nil (s : ByteArray) (k : Nat) (h : s.size ≤ k) : s.data.toList.drop k = [] := by
  rw [List.drop_eq_nil_iff, size_toList]; exact h

/-! Classes of bytes -/
def letN (n : Int) : Bool := decide (97 ≤ n ∧ n ≤ 122 ∨ 65 ≤ n ∧ n ≤ 90)
def digN (n : Int) : Bool := decide (48 ≤ n ∧ n ≤ 57)
def innN (n : Int) : Bool := letN n || digN n || decide (n = 95)
def blkN (n : Int) : Bool := decide (n = 32 ∨ n = 9 ∨ n = 10 ∨ n = 13)
def noEN (n : Int) : Bool := decide (n ≠ 10)
def letB (c : UInt8) : Bool := letN c.toNat
def digB (c : UInt8) : Bool := digN c.toNat
def innB (c : UInt8) : Bool := innN c.toNat
def blkB (c : UInt8) : Bool := blkN c.toNat
def noE (c : UInt8) : Bool := noEN c.toNat

theorem inn_of_let {c : UInt8} (h : letB c = true) : innB c = true := by unfold innB innN; rw [show letN c.toNat = true from h]; rfl
theorem inn_of_dig {c : UInt8} (h : digB c = true) : innB c = true := by unfold innB innN; rw [show digN c.toNat = true from h]; simp
theorem let_dig {c : UInt8} (h : letB c = true) : digB c = false := by
  unfold letB letN at h; unfold digB digN; simp at h ⊢; omega

/-! Prefixes -/
/-- How many bytes at the beginning belong to a class. -/
def cnt (p : UInt8 → Bool) (l : List UInt8) : Nat := (l.takeWhile p).length
theorem cnt_le (p : UInt8 → Bool) (l : List UInt8) : cnt p l ≤ l.length := by
  unfold cnt; exact (List.takeWhile_prefix p).length_le
theorem cnt_nil (p : UInt8 → Bool) : cnt p [] = 0 := rfl
theorem cnt_cons_pos {p : UInt8 → Bool} {c : UInt8} {r : List UInt8} (h : p c = true) : cnt p (c :: r) = cnt p r + 1 := by simp [cnt, h]
theorem cnt_cons_neg {p : UInt8 → Bool} {c : UInt8} {r : List UInt8} (h : p c = false) : cnt p (c :: r) = 0 := by simp [cnt, h]
theorem take_cnt (p : UInt8 → Bool) (l : List UInt8) : l.take (cnt p l) = l.takeWhile p := by
  unfold cnt
  exact (List.prefix_iff_eq_take.1 (List.takeWhile_prefix p)).symm
/-- The bytes up to k belong to the class. -/
def AllUp (p : UInt8 → Bool) (s : List UInt8) (k : Nat) : Prop := k ≤ s.length ∧ cnt p s = k + cnt p (s.drop k)
theorem allUp_zero (p : UInt8 → Bool) (s : List UInt8) : AllUp p s 0 := ⟨by omega, by simp⟩
theorem AllUp.step {p : UInt8 → Bool} {s : List UInt8} {k : Nat} {c : UInt8} (h : AllUp p s k) (hc : s[k]? = some c) (hp : p c = true) : AllUp p s (k + 1) := by
  obtain ⟨hl, he⟩ := List.getElem?_eq_some_iff.1 hc
  refine ⟨hl, ?_⟩
  rw [h.2, List.drop_eq_getElem_cons hl, he, cnt_cons_pos hp]; omega
theorem AllUp.stop {p : UInt8 → Bool} {s : List UInt8} {k : Nat} {c : UInt8} (h : AllUp p s k) (hc : s[k]? = some c) (hp : p c = false) : cnt p s = k := by
  obtain ⟨hl, he⟩ := List.getElem?_eq_some_iff.1 hc
  rw [h.2, List.drop_eq_getElem_cons hl, he, cnt_cons_neg hp]; omega
theorem AllUp.last {p : UInt8 → Bool} {s : List UInt8} {k : Nat} (h : AllUp p s k) (hk : s.length ≤ k) : cnt p s = k := by
  rw [h.2, List.drop_eq_nil_of_le hk, cnt_nil]; omega

theorem takeWhile_append_stop {p : UInt8 → Bool} {t w : List UInt8} (ht : ∀ c ∈ t, p c = true) (hw : ∀ d r, w = d :: r → p d = false) : (t ++ w).takeWhile p = t := by
  induction t with
  | nil =>
    cases w with
    | nil => rfl
    | cons d r => simp [hw d r rfl]
  | cons c r ih =>
    have := ih (fun c hc => ht c (by simp [hc]))
    simp [ht c (by simp), this]
theorem takeWhile_all {p : UInt8 → Bool} {l : List UInt8} : ∀ c ∈ l.takeWhile p, p c = true := by
  induction l with
  | nil => intro c hc; simp at hc
  | cons d r ih =>
    intro c hc
    by_cases hd : p d = true
    · simp [hd] at hc
      rcases hc with rfl | hc
      · exact hd
      · exact ih c hc
    · simp [hd] at hc
theorem takeWhile_stop {p : UInt8 → Bool} {t w : List UInt8} (h : (t ++ w).takeWhile p = t) : ∀ d r, w = d :: r → p d = false := by
  intro d r e
  subst e
  induction t with
  | nil =>
    by_cases hd : p d = true
    · simp [hd] at h
    · simpa using hd
  | cons c q ih =>
    by_cases hc : p c = true
    · simp [hc] at h
      exact ih h
    · simp [hc] at h

/-! Words and signs -/
def wordsL : List (List UInt8) := [[102, 117, 110, 99], [107, 101, 114, 110, 101, 108], [98, 117, 102, 102, 101, 114], [105, 110, 116], [115, 104, 97, 114, 101, 100], [108, 101, 116], [105, 102], [101, 108, 115, 101], [119, 104, 105, 108, 101], [98, 114, 101, 97, 107], [99, 111, 110, 116, 105, 110, 117, 101], [114, 101, 116, 117, 114, 110], [98, 97, 114, 114, 105, 101, 114], [97, 116, 111, 109, 105, 99], [99, 111, 108, 108, 101, 99, 116], [116, 105, 100], [98, 105, 100], [100, 105, 109], [103, 114, 105, 100], [109, 105, 110], [109, 97, 120], [97, 100, 100], [97, 110, 100], [111, 114], [120, 111, 114]]
def signsL : List (List UInt8) := [[62, 62, 62], [60, 60], [62, 62], [60, 61], [62, 61], [61, 61], [33, 61], [60, 58], [38, 38], [124, 124], [40], [41], [123], [125], [91], [93], [44], [59], [61], [43], [45], [42], [47], [37], [38], [124], [94], [126], [33], [60], [62]]
def isWord (t : List UInt8) : Bool := wordsL.contains t
def isSign (t : List UInt8) : Bool := signsL.contains t

/-- The value of digits behind others; nothing where it is greater than 2147483648. -/
def valAcc : Int → List UInt8 → Option Int
  | a, [] => some a
  | a, c :: r => if 2147483648 < a * 10 + ((c.toNat : Int) - 48) then none else valAcc (a * 10 + ((c.toNat : Int) - 48)) r

/-- A word of 32 bits. -/
def wrap32 (n : Int) : Int := if n = 2147483648 then -2147483648 else n

structure Tok where
  kind : Int
  pos : Int
  text : List UInt8
  num : Int
deriving DecidableEq

def wordTok (l : List UInt8) : Option Tok :=
  if isWord (l.takeWhile innB) then some ⟨2, 0, l.takeWhile innB, 0⟩ else if 16 < (l.takeWhile innB).length then none else some ⟨0, 0, l.takeWhile innB, 0⟩
def headInn : List UInt8 → Bool
  | d :: _ => innB d
  | [] => false
def intTok (l : List UInt8) : Option Tok :=
  if headInn (l.drop (l.takeWhile digB).length) then none else (valAcc 0 (l.takeWhile digB)).map fun v => ⟨1, 0, l.takeWhile digB, wrap32 v⟩
def signTok (l : List UInt8) : Option Tok := (signsL.find? fun g => g.isPrefixOf l).map fun g => ⟨2, 0, g, 0⟩
/-- The token with which a text begins. -/
def tokenAt : List UInt8 → Option Tok
  | [] => none
  | c :: r => if letB c then wordTok (c :: r) else if digB c then intTok (c :: r) else signTok (c :: r)

theorem tokenAt_cons (c : UInt8) (r : List UInt8) : tokenAt (c :: r) = if letB c then wordTok (c :: r) else if digB c then intTok (c :: r) else signTok (c :: r) := rfl
def scan : Nat → List UInt8 → Nat → List Tok × Option Nat
  | 0, _, _ => ([], none)
  | _ + 1, [], _ => ([], none)
  | n + 1, c :: r, i =>
    if c = 35 then scan n ((c :: r).drop (cnt noE (c :: r))) (i + cnt noE (c :: r))
    else if blkB c then scan n r (i + 1)
    else match tokenAt (c :: r) with
      | none => ([], some i)
      | some t => ({ t with pos := i } :: (scan n ((c :: r).drop t.text.length) (i + t.text.length)).1, (scan n ((c :: r).drop t.text.length) (i + t.text.length)).2)

/-! What tokenAt gives -/
theorem sign_len : ∀ g ∈ signsL, 1 ≤ g.length ∧ g.length ≤ 3 := by decide
/-- A token is of one of three kinds. -/
theorem tokenAt_cases {l : List UInt8} {t : Tok} (h : tokenAt l = some t) :
    (∃ c r, l = c :: r ∧ letB c = true ∧ t.text = l.takeWhile innB ∧ t.num = 0 ∧ (isWord t.text = true ∧ t.kind = 2 ∨ isWord t.text = false ∧ t.text.length ≤ 16 ∧ t.kind = 0)) ∨
    (∃ c r v, l = c :: r ∧ letB c = false ∧ digB c = true ∧ t.text = l.takeWhile digB ∧ t.kind = 1 ∧ valAcc 0 t.text = some v ∧ t.num = wrap32 v ∧ ∀ d q, l.drop t.text.length = d :: q → innB d = false) ∨
    (∃ c r, l = c :: r ∧ letB c = false ∧ digB c = false ∧ signsL.find? (fun g => g.isPrefixOf l) = some t.text ∧ t.kind = 2 ∧ t.num = 0) := by
  cases l with
  | nil => cases h
  | cons c r =>
    rw [tokenAt_cons] at h
    by_cases h1 : letB c = true
    · rw [if_pos h1] at h
      unfold wordTok at h
      refine .inl ⟨c, r, rfl, h1, ?_⟩
      by_cases h2 : isWord ((c :: r).takeWhile innB) = true
      · rw [if_pos h2] at h; cases h; exact ⟨rfl, rfl, .inl ⟨h2, rfl⟩⟩
      · rw [if_neg h2] at h
        by_cases h3 : 16 < ((c :: r).takeWhile innB).length
        · rw [if_pos h3] at h; cases h
        · rw [if_neg h3] at h; cases h; exact ⟨rfl, rfl, .inr ⟨by simpa using h2, Nat.le_of_not_lt h3, rfl⟩⟩
    · rw [if_neg h1] at h
      have h1' : letB c = false := by simpa using h1
      by_cases h2 : digB c = true
      · rw [if_pos h2] at h
        unfold intTok at h
        refine .inr (.inl ?_)
        by_cases h3 : headInn ((c :: r).drop ((c :: r).takeWhile digB).length) = true
        · rw [if_pos h3] at h; cases h
        · rw [if_neg h3] at h
          obtain ⟨v, hv, rfl⟩ := Option.map_eq_some_iff.1 h
          refine ⟨c, r, v, rfl, h1', h2, rfl, rfl, hv, rfl, fun d' q' e' => ?_⟩
          rw [show ((c :: r).drop ((c :: r).takeWhile digB).length) = d' :: q' from e'] at h3
          simpa [headInn] using h3
      · rw [if_neg h2] at h
        obtain ⟨g, hg, rfl⟩ := Option.map_eq_some_iff.1 h
        exact .inr (.inr ⟨c, r, rfl, h1', by simpa using h2, hg, rfl, rfl⟩)
theorem tokenAt_pos {l : List UInt8} {t : Tok} (h : tokenAt l = some t) : t.pos = 0 := by
  cases l with
  | nil => cases h
  | cons c r =>
    rw [tokenAt_cons] at h
    split at h
    · unfold wordTok at h
      split at h
      · cases h; rfl
      · split at h
        · cases h
        · cases h; rfl
    · split at h
      · unfold intTok at h
        split at h
        · cases h
        · obtain ⟨v, _, rfl⟩ := Option.map_eq_some_iff.1 h; rfl
      · obtain ⟨v, _, rfl⟩ := Option.map_eq_some_iff.1 h; rfl

theorem take_takeWhile (p : UInt8 → Bool) (l : List UInt8) : ∃ v, l = l.takeWhile p ++ v := by
  obtain ⟨v, hv⟩ := List.takeWhile_prefix (l := l) p
  exact ⟨v, hv.symm⟩

theorem tokenAt_prefix {l : List UInt8} {t : Tok} (h : tokenAt l = some t) : ∃ v, l = t.text ++ v := by
  rcases tokenAt_cases h with ⟨c, r, _, _, ht, _⟩ | ⟨c, r, v, _, _, _, ht, _⟩ | ⟨c, r, _, _, _, hf, _⟩
  · rw [ht]; exact take_takeWhile _ _
  · rw [ht]; exact take_takeWhile _ _
  · have := List.find?_some hf
    obtain ⟨v, hv⟩ := List.isPrefixOf_iff_prefix.1 this
    exact ⟨v, hv.symm⟩

theorem tokenAt_len {l : List UInt8} {t : Tok} (h : tokenAt l = some t) : 1 ≤ t.text.length := by
  rcases tokenAt_cases h with ⟨c, r, hl, h1, ht, _⟩ | ⟨c, r, v, hl, _, h2, ht, _⟩ | ⟨c, r, _, _, _, hf, _⟩
  · rw [ht, hl]; simp [inn_of_let h1]
  · rw [ht, hl]; simp [h2]
  · exact (sign_len _ (List.mem_of_find?_eq_some hf)).1

theorem tokenAt_le {l : List UInt8} {t : Tok} (h : tokenAt l = some t) : t.text.length ≤ l.length := by
  obtain ⟨v, hv⟩ := tokenAt_prefix h
  rw [hv]; simp

/-! Scanning, whatever the fuel -/
theorem cnt_hash (r : List UInt8) : 1 ≤ cnt noE (35 :: r) := by
  rw [cnt_cons_pos (by decide)]; omega
theorem scan_fuel : ∀ (n m : Nat) (l : List UInt8) (i : Nat), l.length ≤ n → l.length ≤ m → scan n l i = scan m l i
  | 0, 0, _, _, _, _ => rfl
  | 0, m + 1, [], i, _, _ => rfl
  | 0, _ + 1, _ :: _, _, h, _ => by simp at h
  | n + 1, 0, [], i, _, _ => rfl
  | _ + 1, 0, _ :: _, _, _, h => by simp at h
  | n + 1, m + 1, [], _, _, _ => rfl
  | n + 1, m + 1, c :: r, i, hn, hm => by
    simp at hn hm
    unfold scan
    by_cases h1 : c = 35
    · rw [if_pos h1, if_pos h1]
      subst h1
      have := cnt_hash r
      exact scan_fuel n m _ _ (by simp; omega) (by simp; omega)
    · rw [if_neg h1, if_neg h1]
      by_cases h2 : blkB c = true
      · rw [if_pos h2, if_pos h2]; exact scan_fuel n m _ _ hn hm
      · rw [if_neg h2, if_neg h2]
        cases ht : tokenAt (c :: r) with
        | none => rfl
        | some t =>
          have := tokenAt_len ht
          simp only
          rw [scan_fuel n m ((c :: r).drop t.text.length) (i + t.text.length) (by simp; omega) (by simp; omega)]

/-- The tokens of a text from an index on, and where it goes wrong. -/
def sc (l : List UInt8) (i : Nat) : List Tok × Option Nat := scan l.length l i
theorem sc_nil (i : Nat) : sc [] i = ([], none) := rfl
theorem sc_hash (r : List UInt8) (i : Nat) : sc (35 :: r) i = sc ((35 :: r).drop (cnt noE (35 :: r))) (i + cnt noE (35 :: r)) := by
  have := cnt_hash r
  show scan (r.length + 1) (35 :: r) i = _
  unfold scan
  rw [if_pos rfl]
  exact scan_fuel _ _ _ _ (by simp; omega) (Nat.le_refl _)
theorem blk_hash {c : UInt8} (h : blkB c = true) : c ≠ 35 := by rintro rfl; exact absurd h (by decide)
theorem sc_blank {c : UInt8} (r : List UInt8) (i : Nat) (h : blkB c = true) : sc (c :: r) i = sc r (i + 1) := by
  show scan (r.length + 1) (c :: r) i = _
  unfold scan
  rw [if_neg (blk_hash h), if_pos h]; rfl
theorem sc_bad {c : UInt8} {r : List UInt8} {i : Nat} (h1 : c ≠ 35) (h2 : blkB c = false) (h3 : tokenAt (c :: r) = none) : sc (c :: r) i = ([], some i) := by
  show scan (r.length + 1) (c :: r) i = _
  unfold scan
  rw [if_neg h1, if_neg (by simp [h2]), h3]
theorem sc_tok {c : UInt8} {r : List UInt8} {i : Nat} {t : Tok} (h1 : c ≠ 35) (h2 : blkB c = false) (h3 : tokenAt (c :: r) = some t) :
    sc (c :: r) i = ({ t with pos := i } :: (sc ((c :: r).drop t.text.length) (i + t.text.length)).1, (sc ((c :: r).drop t.text.length) (i + t.text.length)).2) := by
  have := tokenAt_len h3
  show scan (r.length + 1) (c :: r) i = _
  unfold scan
  rw [if_neg h1, if_neg (by simp [h2]), h3]
  simp only
  rw [scan_fuel r.length ((c :: r).drop t.text.length).length ((c :: r).drop t.text.length) (i + t.text.length) (by simp; omega) (Nat.le_refl _)]
  rfl
end Go.Proofs.YtlpmeodphjpmeaaDoor.Lex
