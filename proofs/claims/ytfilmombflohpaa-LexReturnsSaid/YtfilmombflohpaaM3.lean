/- Joined tokens are read as they were. -/
import Derived.Test.YtfilmombflohpaaM2
import Derived.Test.YtfilmombflohpaaR5
set_option linter.unusedSimpArgs false
set_option linter.unusedVariables false
namespace Go.Proofs.Ytfilmombflohpaa
open Go.RowKit Go.ChangeMaps Go.WideMaps
set_option maxRecDepth 100000

theorem countL_app (p : Int → Bool) : ∀ (a r : List UInt8), (countL p a < a.length ∨ p (hdI r) = false) → p (-1) = false → countL p (a ++ r) = countL p a
  | [], r, h, hn => by
    have h' : p (hdI r) = false := by
      rcases h with h | h
      · simp [countL] at h
      · exact h
    cases r with
    | nil => rfl
    | cons c r =>
      show (if p (c.toNat : Int) then countL p r + 1 else 0) = 0
      rw [if_neg]
      simpa [hdI] using h'
  | c :: a, r, h, hn => by
    show (if p (c.toNat : Int) then countL p (a ++ r) + 1 else 0) = if p (c.toNat : Int) then countL p a + 1 else 0
    by_cases hc : p (c.toNat : Int) = true
    · rw [if_pos hc, if_pos hc, countL_app p a r ?_ hn]
      rcases h with h | h
      · refine .inl ?_
        have : countL p (c :: a) = countL p a + 1 := by show (if p (c.toNat : Int) then countL p a + 1 else 0) = _; rw [if_pos hc]
        rw [this] at h
        simpa using h
      · exact .inr h
    · rw [if_neg hc, if_neg hc]

theorem hdI_app {a r : List UInt8} (h : a ≠ []) : hdI (a ++ r) = hdI a := by
  cases a with
  | nil => exact absurd rfl h
  | cons c a => rfl
theorem headL_app {a r : List UInt8} (h : a ≠ []) : headL (a ++ r) = headL a := by
  cases a with
  | nil => exact absurd rfl h
  | cons c a => rfl

theorem wlen_app {a r : List UInt8} (h : wlen a < a.length ∨ isPartI (hdI r) = false) (hr : isLetterI (hdI r) = false ∨ a ≠ []) : wlen (a ++ r) = wlen a := by
  cases a with
  | nil =>
    have h' : isLetterI (hdI r) = false := by
      rcases hr with h | h
      · exact h
      · exact absurd rfl h
    cases r with
    | nil => rfl
    | cons c r =>
      unfold wlen
      rw [if_neg, if_neg]
      · intro e; cases e
      · intro e
        have : headL (c :: r) = isLetterI (c.toNat : Int) := rfl
        rw [List.nil_append, this] at e
        simp [hdI, e] at h'
  | cons c a =>
    unfold wlen at h ⊢
    rw [headL_app (by simp)]
    by_cases hl : headL (c :: a) = true
    · rw [if_pos hl, if_pos hl]
      rw [if_pos hl] at h
      exact countL_app isPartI _ _ h (by decide)
    · rw [if_neg hl, if_neg hl]

theorem wordL_app {a r : List UInt8} (h : wlen (a ++ r) = wlen a) : wordL (a ++ r) = wordL a := by
  rw [wordL_take, wordL_take, h, List.take_append_of_le_length (wlen_le a)]

/-- What may stand behind a word. -/
def endWord (c : Int) : Prop := isPartI c = false ∧ c ≠ 58
/-- What may stand behind a number. -/
def endNum (c : Int) : Prop := isPartI c = false ∧ c ≠ 46

theorem part_letter' {c : Int} (h : isPartI c = false) : isLetterI c = false := by
  cases hl : isLetterI c
  · rfl
  · rw [part_letter hl] at h; cases h
theorem part_digit' {c : Int} (h : isPartI c = false) : isDigitI c = false := by
  cases hl : isDigitI c
  · rfl
  · rw [part_digit hl] at h; cases h
theorem part_95 {c : Int} (h : isPartI c = false) : c ≠ 95 := by
  rintro rfl; cases h

theorem named_app {a r : List UInt8} {k : Int} (h : namedK a = (k, (a.length : Int), 0)) (hc : endWord (hdI r)) : namedK (a ++ r) = (k, (a.length : Int), 0) := by
  have hl : isLetterI (hdI r) = false := part_letter' hc.1
  have hwe : wlen (a ++ r) = wlen a := wlen_app (.inr hc.1) (.inl hl)
  have hwd := wordL_app hwe
  have hle := wlen_le a
  have hwl := wordL_len a
  rw [namedK_open] at h ⊢
  unfold kwOr at h ⊢
  rw [hwl] at h
  rw [hwd, hwl]
  by_cases h24 : 24 < wlen a
  · rw [if_pos h24] at h
    simp at h
  · rw [if_neg h24] at h ⊢
    by_cases hn : wlen a = a.length
    · have hnc : ¬ (rUpperL (wordL a) = true ∧ wlen a + 2 < (a ++ r).length ∧ ((a ++ r).drop (wlen a)).take 2 = [58, 58]) := by
        rintro ⟨_, _, h2⟩
        rw [hn, List.drop_left] at h2
        cases r with
        | nil => simp at h2
        | cons c r =>
          have : c = 58 := by
            have := congrArg List.head? h2
            simpa using this
          subst this
          exact hc.2 rfl
      have hnc2 : ¬ (rUpperL (wordL a) = true ∧ wlen a + 2 < a.length ∧ (a.drop (wlen a)).take 2 = [58, 58]) := by
        rintro ⟨_, h2, _⟩; omega
      rw [if_neg hnc2] at h
      rw [if_neg hnc]
      exact h
    · have hlt : wlen a < a.length := by omega
      by_cases hq : rUpperL (wordL a) = true ∧ wlen a + 2 < a.length ∧ (a.drop (wlen a)).take 2 = [58, 58]
      · have hq2 : rUpperL (wordL a) = true ∧ wlen a + 2 < (a ++ r).length ∧ ((a ++ r).drop (wlen a)).take 2 = [58, 58] := by
          refine ⟨hq.1, by rw [List.length_append]; omega, ?_⟩
          rw [List.drop_append_of_le_length (by omega), List.take_append_of_le_length (by rw [List.length_drop]; omega)]
          exact hq.2.2
        rw [if_pos hq] at h
        rw [if_pos hq2]
        have hd : (a ++ r).drop (wlen a + 2) = a.drop (wlen a + 2) ++ r := List.drop_append_of_le_length (by omega)
        have hne : a.drop (wlen a + 2) ≠ [] := by
          intro e
          have := congrArg List.length e
          rw [List.length_drop, List.length_nil] at this
          omega
        have hwe2 : wordL (a.drop (wlen a + 2) ++ r) = wordL (a.drop (wlen a + 2)) := wordL_app (wlen_app (.inr hc.1) (.inl hl))
        rw [hd, hwe2]
        exact h
      · rw [if_neg hq] at h
        exfalso
        simp only [Prod.mk.injEq] at h
        omega

theorem number_app {a r : List UInt8} {k : Int} (hd : isDigitI (hdI a) = true) (h : numberK a = (k, (a.length : Int), 0)) (hc : endNum (hdI r)) : numberK (a ++ r) = (k, (a.length : Int), 0) := by
  have hne : a ≠ [] := by rintro rfl; cases hd
  have hdr := part_digit' hc.1
  have hn : countL isDigitI (a ++ r) = countL isDigitI a := countL_app isDigitI a r (.inr hdr) (by decide)
  have hle := countL_le isDigitI a
  have hle2 := countL_le isDigitI (a.drop (countL isDigitI a + 1))
  rw [List.length_drop] at hle2
  have hkey : decK (a ++ r) = decK a ∧ sizeK (a ++ r) = sizeK a := by
    have h1 : decK (a ++ r) = decK a := by
      unfold decK
      rw [hn]
      by_cases hlt : countL isDigitI a < a.length
      · rw [List.drop_append_of_le_length (by omega), List.drop_append_of_le_length (by omega), hdI_app, countL_app isDigitI _ r (.inr hdr) (by decide)]
        intro e
        have := congrArg List.length e
        rw [List.length_drop, List.length_nil] at this
        omega
      · have he : countL isDigitI a = a.length := by omega
        rw [he, List.drop_left, List.drop_length]
        have : (hdI r == 46) = false := by simpa using hc.2
        rw [this]
        rfl
    refine ⟨h1, ?_⟩
    unfold sizeK
    rw [h1, hn]
    by_cases hdk : decK a = true
    · rw [if_pos hdk, if_pos hdk]
      have hlt : countL isDigitI a < a.length := by
        unfold decK at hdk
        simp only [Bool.and_eq_true, decide_eq_true_eq] at hdk
        omega
      rw [List.drop_append_of_le_length (by omega), countL_app isDigitI _ r (.inr hdr) (by decide)]
    · rw [if_neg hdk, if_neg hdk]
  rw [numberK_open] at h ⊢
  rw [hn, hdI_app hne, hkey.1, hkey.2]
  by_cases hz : 1 < countL isDigitI a ∧ hdI a = 48
  · rw [if_pos hz] at h
    simp at h
  · rw [if_neg hz] at h ⊢
    by_cases hx : isLetterI (hdI (a.drop (sizeK a))) = true ∨ hdI (a.drop (sizeK a)) = 95
    · rw [if_pos hx] at h
      simp at h
    · rw [if_neg hx] at h
      have hsz : sizeK a = a.length := by
        simp only [Prod.mk.injEq] at h
        omega
      rw [hsz, List.drop_left, if_neg]
      · rw [hsz] at h; exact h
      · rintro (h1 | h1)
        · rw [part_letter' hc.1] at h1; cases h1
        · exact part_95 hc.1 h1

theorem longest_eq {l : List UInt8} {n : Nat} (h1 : ∀ x ∈ sgL, x.length ≤ l.length → l.take x.length = x → x.length ≤ n) (h2 : n = 0 ∨ ∃ x ∈ sgL, x.length ≤ l.length ∧ l.take x.length = x ∧ x.length = n) : longest l sgL 0 = n := by
  have ha : longest l sgL 0 ≤ n := by
    rcases longest_one l sgL 0 with h | ⟨x, hx, hl, ht, h⟩
    · omega
    · rw [h]; exact h1 x hx hl ht
  have hb : n ≤ longest l sgL 0 := by
    rcases h2 with h | ⟨x, hx, hl, ht, h⟩
    · omega
    · rw [← h]; exact longest_all l sgL 0 x hx hl ht
  omega

/-- A sign goes on being the longest one where no longer sign begins with it and what stands behind it. -/
theorem sign_app {a r : List UInt8} (ha : a ≠ []) (hs : rSignL a = a.length) (hr : ∀ x ∈ sgL, a.length < x.length → x.length ≤ (a ++ r).length → (a ++ r).take x.length ≠ x) : rSignL (a ++ r) = a.length := by
  by_cases hu : headU a = true
  · have hu2 : headU (a ++ r) = true := by
      cases a with
      | nil => cases hu
      | cons c a => exact hu
    unfold rSignL at hs ⊢
    rw [longest_under hu, if_pos ⟨rfl, hu⟩] at hs
    rw [longest_under hu2, if_pos ⟨rfl, hu2⟩]
    exact hs
  · have hu2 : ¬ headU (a ++ r) = true := by
      cases a with
      | nil => exact absurd rfl ha
      | cons c a => exact hu
    unfold rSignL at hs ⊢
    rw [if_neg (fun e => hu e.2)] at hs
    rw [if_neg (fun e => hu2 e.2)]
    refine longest_eq (fun x hx hl ht => ?_) ?_
    · by_cases hxl : x.length ≤ a.length
      · exact hxl
      · exact absurd ht (hr x hx (by omega) hl)
    · rcases longest_one a sgL 0 with h | ⟨x, hx, hl, ht, h⟩
      · exact .inl (by omega)
      · refine .inr ⟨x, hx, by rw [List.length_append]; omega, ?_, by omega⟩
        rw [List.take_append_of_le_length hl]
        exact ht

/-- A token that is read, alone, as it is. -/
def Good (x : Span) : Prop := x.text ≠ [] ∧ blankL x.text = 0 ∧ readK x.text = (x.kind, (x.text.length : Int), 0)
def isDotS (x : Span) : Bool := decide (x.kind = 4) && (x.text == [46])
def isNumS (x : Span) : Bool := decide (x.kind = 2) || decide (x.kind = 3)
def oneOf (x : Span) (l : List UInt8) : Bool := decide (x.kind = 4) && (decide (x.text.length = 1) && l.contains (x.text.headD 0))
def aSet : List UInt8 := [40, 91, 35, 33, 46]
def bSet : List UInt8 := [41, 93, 44, 59, 46, 63, 91]
def spansL (l : List UInt8) : List Span := spansF kwL sgL (l.length + 1) l 0
/-- Are the two not read as these two if nothing stands between them? -/
def mergeS (a b : Span) : Bool := match spansL (a.text ++ b.text) with
  | [x, y] => !(decide (x.err = 0) && decide (y.err = 0) && decide (x.kind = a.kind) && (x.text == a.text) && decide (x.at_ = 0) && decide (y.kind = b.kind) && (y.text == b.text) && decide (y.at_ = a.text.length))
  | _ => true
def gapB (a b : Span) : Bool :=
  if (isDotS a && isNumS b || isNumS a && isDotS b) = true then true
  else if (oneOf a aSet || oneOf b bSet) = true then mergeS a b else true

theorem blankZ {l : List UInt8} (hl : l ≠ []) : blankL l = 0 ↔ isSp (hdI l) = false ∧ (hdI l ≠ 47 ∨ (hdI (l.drop 1) ≠ 47 ∧ hdI (l.drop 1) ≠ 42)) := by
  match l, hl with
  | [c], _ =>
    have h1 : hdI [c] = (c.toNat : Int) := rfl
    have h2 : hdI ([c].drop 1) = -1 := rfl
    rw [h1, h2]
    simp only [blankL]
    by_cases hs : isSp (c.toNat : Int) = true
    · simp [hs]
    · simp [hs]
  | c :: d :: r, _ =>
    have h1 : hdI (c :: d :: r) = (c.toNat : Int) := rfl
    have h2 : hdI ((c :: d :: r).drop 1) = (d.toNat : Int) := rfl
    have hg := Lib.index_ge r [42, 47]
    rw [h1, h2]
    simp only [blankL]
    by_cases hs : isSp (c.toNat : Int) = true
    · simp [hs]
    · rw [if_neg hs]
      have hs' : isSp (c.toNat : Int) = false := by simpa using hs
      by_cases hc : (c.toNat : Int) ≠ 47
      · rw [if_pos hc]; exact ⟨fun _ => ⟨hs', .inl hc⟩, fun _ => rfl⟩
      · rw [if_neg hc]
        by_cases hd : (d.toNat : Int) = 47
        · rw [if_pos hd]
          exact ⟨fun h => by omega, fun h => by rcases h.2 with h | h; exact absurd h hc; exact absurd hd h.1⟩
        · rw [if_neg hd]
          by_cases hd2 : (d.toNat : Int) ≠ 42
          · rw [if_pos hd2]; exact ⟨fun _ => ⟨hs', .inr ⟨hd, hd2⟩⟩, fun _ => rfl⟩
          · rw [if_neg hd2]
            refine ⟨fun h => ?_, fun h => ?_⟩
            · split at h <;> omega
            · rcases h.2 with h | h
              · exact absurd h hc
              · exact absurd h.2 hd2

theorem spansL_T (s : ByteArray) (l : List UInt8) (h : l.length ≤ s.size) : spansL l = spansT s l 0 := spansF_fuel kwL sgL _ _ _ _ (by omega) (by omega)

theorem head_ge {s : ByteArray} {l : List UInt8} {k : Nat} {y : Span} {t : List Span} (hl : l.length ≤ s.size) (h : spansT s l k = y :: t) : (k : Int) ≤ y.at_ := by
  have hg := (gapI_bd l.length l).1
  rw [spansT_step hl] at h
  split at h
  · simp only [List.cons.injEq] at h
    rw [← h.1]
    show (k : Int) ≤ k + _
    omega
  · split at h
    · cases h
    · split at h
      · simp only [List.cons.injEq] at h
        rw [← h.1]
        show (k : Int) ≤ k + _
        omega
      · split at h
        · simp only [List.cons.injEq] at h
          rw [← h.1]
          show (k : Int) ≤ k + _
          omega
        · simp only [List.cons.injEq] at h
          rw [← h.1]
          show (k : Int) ≤ k + _
          omega

/-- The first that is read stands at the start: nothing is skipped. -/
theorem head_read {l : List UInt8} {y : Span} {t : List Span} (h : spansL l = y :: t) (he : y.err = 0) (ha : y.at_ = 0) : l ≠ [] ∧ blankL l = 0 ∧ ∃ m : Nat, readK l = (y.kind, (m : Int), 0) ∧ y.text = l.take m ∧ m ≤ l.length ∧ 0 < m := by
  have hT := spansL_T (mk l) l (by rw [show (mk l).size = l.length from rfl]; exact Nat.le_refl _)
  rw [hT] at h
  have hle : l.length ≤ (mk l).size := Nat.le_refl _
  by_cases hl : l = []
  · subst hl
    rw [spans_nil] at h
    cases h
  · have hb := blankL_ge l
    have hg := gapI_bd (l.drop (blankL l).toNat).length (l.drop (blankL l).toNat)
    refine ⟨hl, ?_⟩
    by_cases h1 : blankL l = -1
    · rw [spans_stop hle hl h1] at h
      simp only [List.cons.injEq] at h
      rw [← h.1] at he
      cases he
    · by_cases h0 : blankL l = 0
      · refine ⟨h0, ?_⟩
        rw [spans_read hle hl h0] at h
        have hbd := @readK_bd l
        obtain ⟨⟨q, m, e⟩, hq⟩ : ∃ q, readK l = q := ⟨_, rfl⟩
        rw [hq] at h hbd ⊢
        dsimp only at h hbd ⊢
        by_cases hr : e ≠ 0
        · rw [if_pos hr] at h
          simp only [List.cons.injEq] at h
          rw [← h.1] at he
          exact absurd he hr
        · rw [if_neg hr] at h
          simp only [List.cons.injEq] at h
          have hr' : e = 0 := by omega
          have hbd := hbd hr'
          refine ⟨m.toNat, ?_, ?_, by omega, by omega⟩
          · rw [← h.1, hr', Int.toNat_of_nonneg (by omega)]
          · rw [← h.1]
      · exfalso
        obtain ⟨n, hn⟩ := Int.eq_ofNat_of_zero_le (show 0 ≤ blankL l by omega)
        have hnp : 0 < n := by omega
        rw [spans_blank hle hl hn hnp] at h
        have := head_ge (by rw [List.length_drop]; omega) h
        omega

theorem readK_kind {l : List UInt8} {k n : Int} (h : readK l = (k, n, 0)) :
    (0 < wlen l ∧ namedK l = (k, n, 0) ∧ (k = 0 ∨ k = 1)) ∨ (wlen l = 0 ∧ isDigitI (hdI l) = true ∧ numberK l = (k, n, 0) ∧ (k = 2 ∨ k = 3)) ∨
    (wlen l = 0 ∧ isDigitI (hdI l) = false ∧ (rSignL l : Int) = n ∧ 0 < rSignL l ∧ k = 4) := by
  unfold readK at h
  by_cases hw : 0 < wlen l
  · rw [if_pos hw] at h
    refine .inl ⟨hw, h, ?_⟩
    rw [namedK_open] at h
    unfold kwOr at h
    split at h
    · simp at h
    · split at h
      · split at h
        · simp at h
        · split at h
          · simp only [Prod.mk.injEq] at h; omega
          · simp only [Prod.mk.injEq] at h
            split at h <;> omega
      · simp only [Prod.mk.injEq] at h
        split at h <;> omega
  · rw [if_neg hw] at h
    have hw0 : wlen l = 0 := by omega
    by_cases hd : isDigitI (hdI l) = true
    · rw [if_pos hd] at h
      refine .inr (.inl ⟨hw0, hd, h, ?_⟩)
      rw [numberK_open] at h
      split at h
      · simp at h
      · split at h
        · simp at h
        · simp only [Prod.mk.injEq] at h
          split at h <;> omega
    · rw [if_neg hd] at h
      refine .inr (.inr ⟨hw0, by simpa using hd, ?_⟩)
      split at h
      · simp at h
      · simp only [Prod.mk.injEq] at h
        omega

theorem readK_word {l : List UInt8} (h : 0 < wlen l) : readK l = namedK l := by unfold readK; rw [if_pos h]
theorem readK_num {l : List UInt8} (h : wlen l = 0) (hd : isDigitI (hdI l) = true) : readK l = numberK l := by unfold readK; rw [if_neg (by omega), if_pos hd]
theorem readK_sign {l : List UInt8} (h : wlen l = 0) (hd : isDigitI (hdI l) = false) (hp : 0 < rSignL l) : readK l = (4, (rSignL l : Int), 0) := by
  unfold readK; rw [if_neg (by omega), hd, if_neg (by simp), if_neg (by omega)]

theorem wlen_head {l : List UInt8} (hl : l ≠ []) : wlen l = 0 ↔ headL l = false := by
  unfold wlen
  cases l with
  | nil => exact absurd rfl hl
  | cons c r =>
    by_cases h : headL (c :: r) = true
    · rw [if_pos h, h]
      have hp : isPartI (c.toNat : Int) = true := part_letter h
      have : countL isPartI (c :: r) = countL isPartI r + 1 := by show (if isPartI (c.toNat : Int) then countL isPartI r + 1 else 0) = _; rw [if_pos hp]
      rw [this]
      simp
    · rw [if_neg h]
      simpa using h

theorem mem_at {y : List UInt8} {i : Nat} {c : UInt8} (h : y[i]? = some c) : c ∈ y := List.mem_of_getElem? h
theorem sg_no32 : ∀ y ∈ sgL, (32 : UInt8) ∉ y := by decide
theorem sg_long : ∀ y ∈ sgL, 3 ≤ y.length → ∀ c ∈ y, c = 60 ∨ c = 61 ∨ c = 62 := by decide
theorem aSet_no : ∀ c ∈ aSet, ¬ (c = 60 ∨ c = 61 ∨ c = 62) := by decide
theorem bSet_no : ∀ c ∈ bSet, ¬ (c = 60 ∨ c = 61 ∨ c = 62) := by decide
theorem bSet_word : ∀ c ∈ bSet, isPartI (c.toNat : Int) = false ∧ (c.toNat : Int) ≠ 58 := by decide

/-- What may stand behind a token in a joined text. -/
def Follow (x : Span) (r : List UInt8) : Prop := r = [] ∨ (∃ r', r = 32 :: r') ∨ (∃ u r', r = u.text ++ r' ∧ Good u ∧ gapB x u = false)

theorem one_head {u : Span} {l : List UInt8} (h : oneOf u l = true) : u.kind = 4 ∧ ∃ c, u.text = [c] ∧ c ∈ l := by
  unfold oneOf at h
  simp only [Bool.and_eq_true, decide_eq_true_eq] at h
  obtain ⟨h1, h2, h3⟩ := h
  obtain ⟨c, hc⟩ := List.length_eq_one_iff.1 h2
  rw [hc] at h3
  exact ⟨h1, c, hc, by simpa using h3⟩

theorem merge_no {x u : Span} (h : mergeS x u = false) : blankL (x.text ++ u.text) = 0 ∧ readK (x.text ++ u.text) = (x.kind, (x.text.length : Int), 0) := by
  unfold mergeS at h
  split at h
  · rename_i y z hs
    simp only [Bool.not_eq_false', Bool.and_eq_true, decide_eq_true_eq, beq_iff_eq] at h
    obtain ⟨⟨⟨⟨⟨⟨⟨h1, _⟩, h3⟩, h4⟩, h5⟩, _⟩, _⟩, _⟩ := h
    obtain ⟨_, hb, m, hr, ht, hm, _⟩ := head_read hs h1 h5
    refine ⟨hb, ?_⟩
    rw [hr, h3]
    have : m = x.text.length := by
      have := congrArg List.length ht
      rw [h4, List.length_take] at this
      omega
    rw [this]
  · cases h

theorem gapB_no {x u : Span} (h : gapB x u = false) : ¬ (isDotS x = true ∧ isNumS u = true) ∧ ¬ (isNumS x = true ∧ isDotS u = true) ∧ (oneOf x aSet = true ∨ oneOf u bSet = true) ∧ mergeS x u = false := by
  unfold gapB at h
  split at h
  · cases h
  · rename_i h1
    split at h
    · rename_i h2
      simp only [Bool.or_eq_true, Bool.and_eq_true, not_or] at h1 h2
      exact ⟨h1.1, h1.2, h2, h⟩
    · cases h

theorem hd32 (r : List UInt8) : hdI (32 :: r) = 32 := rfl

/-- The first token of a joined text is read as it was. -/
theorem first_join {x : Span} {r : List UInt8} (hx : Good x) (hr : Follow x r) : blankL (x.text ++ r) = 0 ∧ readK (x.text ++ r) = (x.kind, (x.text.length : Int), 0) := by
  obtain ⟨hne, hb, hk⟩ := hx
  have hne2 : x.text ++ r ≠ [] := by simp [hne]
  have hhd : hdI (x.text ++ r) = hdI x.text := hdI_app hne
  refine ⟨?_, ?_⟩
  · rw [blankZ hne] at hb
    rw [blankZ hne2, hhd]
    refine ⟨hb.1, ?_⟩
    by_cases h47 : hdI x.text = 47
    · refine .inr ?_
      by_cases hl : 1 < x.text.length
      · have hd : x.text.drop 1 ≠ [] := by intro e; have := congrArg List.length e; rw [List.length_drop, List.length_nil] at this; omega
        rw [List.drop_append_of_le_length (by omega), hdI_app hd]
        rcases hb.2 with h | h
        · exact absurd h47 h
        · exact h
      · have hl1 : x.text.length = 1 := by have := List.length_pos_iff.2 hne; omega
        have hdr : (x.text ++ r).drop 1 = r := by rw [← hl1, List.drop_left]
        rw [hdr]
        rcases hr with rfl | ⟨r', rfl⟩ | ⟨u, r', rfl, hu, hs⟩
        · decide
        · rw [hd32]; decide
        · have hm := (merge_no (gapB_no hs).2.2.2).1
          have hne3 : x.text ++ u.text ≠ [] := by simp [hne]
          rw [blankZ hne3, hdI_app hne] at hm
          have hdr2 : (x.text ++ u.text).drop 1 = u.text := by rw [← hl1, List.drop_left]
          rw [hdr2] at hm
          rw [hdI_app hu.1]
          rcases hm.2 with h | h
          · exact absurd h47 h
          · exact h
    · exact .inl h47
  · have hword : ∀ u : Span, oneOf u bSet = true → endWord (hdI u.text) := by
      intro u hu
      obtain ⟨_, c, hc, hm⟩ := one_head hu
      rw [hc]
      exact bSet_word c hm
    rcases readK_kind hk with ⟨hw, hn, hkk⟩ | ⟨hw, hd, hn, hkk⟩ | ⟨hw, hd, hn, hp, hkk⟩
    · have he : endWord (hdI r) := by
        rcases hr with rfl | ⟨r', rfl⟩ | ⟨u, r', rfl, hu, hs⟩
        · exact ⟨by decide, by decide⟩
        · rw [hd32]; exact ⟨by decide, by decide⟩
        · rw [hdI_app hu.1]
          rcases (gapB_no hs).2.2.1 with h | h
          · have := (one_head h).1; omega
          · exact hword u h
      have hw2 : wlen (x.text ++ r) = wlen x.text := wlen_app (.inr he.1) (.inr hne)
      rw [readK_word (by omega)]
      exact named_app hn he
    · have he : endNum (hdI r) := by
        rcases hr with rfl | ⟨r', rfl⟩ | ⟨u, r', rfl, hu, hs⟩
        · exact ⟨by decide, by decide⟩
        · rw [hd32]; exact ⟨by decide, by decide⟩
        · have h0 := gapB_no hs
          rw [hdI_app hu.1]
          rcases h0.2.2.1 with h | h
          · have := (one_head h).1; omega
          · refine ⟨(hword u h).1, fun e => h0.2.1 ⟨?_, ?_⟩⟩
            · unfold isNumS
              rcases hkk with h | h <;> simp [h]
            · obtain ⟨h4, c, hc, _⟩ := one_head h
              unfold isDotS
              rw [h4, hc]
              rw [hc] at e
              have : c = 46 := by rw [← UInt8.toNat_inj]; exact Int.ofNat.inj e
              rw [this]; rfl
      have hhl : headL x.text = false := (wlen_head hne).1 hw
      have hw2 : wlen (x.text ++ r) = 0 := (wlen_head hne2).2 (by rw [headL_app hne]; exact hhl)
      rw [readK_num hw2 (by rw [hhd]; exact hd)]
      exact number_app hd hn he
    · have hhl : headL x.text = false := (wlen_head hne).1 hw
      have hw2 : ∀ r', wlen (x.text ++ r') = 0 := fun r' => (wlen_head (by simp [hne])).2 (by rw [headL_app hne]; exact hhl)
      have hsl : rSignL x.text = x.text.length := by omega
      have hlen : 0 < x.text.length := List.length_pos_iff.2 hne
      have hgo : rSignL (x.text ++ r) = x.text.length := by
        refine sign_app hne hsl ?_
        intro y hy h1 h2 h3
        rcases hr with rfl | ⟨r', rfl⟩ | ⟨u, r', rfl, hu, hs⟩
        · rw [List.append_nil] at h2; omega
        · have hc : y[x.text.length]? = some 32 := by
            rw [← h3, List.getElem?_take, if_pos h1]
            simp
          exact sg_no32 y hy (mem_at hc)
        · have h0 := gapB_no hs
          have hm := (merge_no h0.2.2.2).2
          have hulen : 0 < u.text.length := List.length_pos_iff.2 hu.1
          by_cases hyl : y.length ≤ (x.text ++ u.text).length
          · rw [← List.append_assoc, List.take_append_of_le_length hyl] at h3
            have hlo := longest_all (x.text ++ u.text) sgL 0 y hy hyl h3
            rcases readK_kind hm with ⟨h, _⟩ | ⟨_, h, _⟩ | ⟨_, _, h, _⟩
            · rw [hw2] at h; omega
            · rw [hdI_app hne, hd] at h; cases h
            · have : longest (x.text ++ u.text) sgL 0 ≤ rSignL (x.text ++ u.text) := by
                unfold rSignL; split <;> omega
              omega
          · rw [List.length_append] at hyl
            have hlong := sg_long y hy (by omega)
            rcases h0.2.2.1 with h | h
            · obtain ⟨_, c, hc, hcm⟩ := one_head h
              have hy0 : y[0]? = some c := by
                rw [← h3, List.getElem?_take, if_pos (by omega), hc]
                simp
              exact aSet_no c hcm (hlong c (mem_at hy0))
            · obtain ⟨_, c, hc, hcm⟩ := one_head h
              have hy0 : y[x.text.length]? = some c := by
                rw [← h3, List.getElem?_take, if_pos h1, hc]
                simp
              exact bSet_no c hcm (hlong c (mem_at hy0))
      rw [readK_sign (hw2 r) (by rw [hhd]; exact hd) (by omega), hgo, hkk]

/-- What follows a token in a joined text. -/
def restL (x : Span) : List Span → List UInt8
  | [] => []
  | u :: us => (if gapB x u = true then 32 :: u.text else u.text) ++ restL u us
/-- The joined text. -/
def joinL : List Span → List UInt8
  | [] => []
  | x :: xs => x.text ++ restL x xs
/-- The tokens of a joined text, from a place on. -/
def placeS (x : Span) (k : Nat) : List Span → List Span
  | [] => [⟨x.kind, x.text, k, (k : Int) + x.text.length, 0⟩]
  | u :: us => ⟨x.kind, x.text, k, (k : Int) + x.text.length, 0⟩ :: placeS u (k + x.text.length + if gapB x u = true then 1 else 0) us

theorem rest_follow {x : Span} {xs : List Span} (hg : ∀ y ∈ xs, Good y) : Follow x (restL x xs) := by
  cases xs with
  | nil => exact .inl rfl
  | cons u us =>
    unfold restL
    by_cases hs : gapB x u = true
    · rw [if_pos hs]
      exact .inr (.inl ⟨_, rfl⟩)
    · rw [if_neg hs]
      exact .inr (.inr ⟨u, _, rfl, hg u (by simp), by simpa using hs⟩)

theorem blank32 (l : List UInt8) : blankL (32 :: l) = 1 := by
  cases l with
  | nil => rfl
  | cons d r => rfl

/-- The tokens of a joined text are the given ones, at their places. -/
theorem spans_join {s : ByteArray} : ∀ (xs : List Span) (x : Span) (k : Nat), Good x → (∀ y ∈ xs, Good y) → (x.text ++ restL x xs).length ≤ s.size → spansT s (x.text ++ restL x xs) k = placeS x k xs
  | xs, x, k, hx, hxs, hl => by
    have hf := first_join hx (rest_follow (x := x) hxs)
    have hne : x.text ++ restL x xs ≠ [] := by simp [hx.1]
    rw [spans_read hl hne hf.1, hf.2]
    dsimp only
    rw [if_neg (by simp), Int.toNat_natCast, List.drop_left, List.take_left]
    cases xs with
    | nil =>
      show _ :: spansT s [] _ = _
      rw [spans_nil]
      rfl
    | cons u us =>
      have hu := hxs u (by simp)
      have hus : ∀ y ∈ us, Good y := fun y hy => hxs y (by simp [hy])
      have hlr : (restL x (u :: us)).length ≤ s.size := by rw [List.length_append] at hl; omega
      unfold placeS
      by_cases hs : gapB x u = true
      · have e : restL x (u :: us) = 32 :: (u.text ++ restL u us) := by
          conv => lhs; unfold restL
          rw [if_pos hs]; rfl
        rw [e] at hlr
        rw [e, spans_blank hlr (by simp) (n := 1) (blank32 _) (by omega), if_pos hs]
        rw [show List.drop 1 (32 :: (u.text ++ restL u us)) = u.text ++ restL u us from rfl]
        rw [spans_join us u _ hu hus (by simp at hlr ⊢; omega)]
      · have e : restL x (u :: us) = u.text ++ restL u us := by
          conv => lhs; unfold restL
          rw [if_neg hs]
        rw [e] at hlr
        rw [e, if_neg hs, spans_join us u _ hu hus hlr]
        rfl
  termination_by xs => xs.length

/-- A token passes the check exactly if it is good. -/
theorem good_iff (x : Span) : Good x ↔ ∃ y t, spansL x.text = y :: t ∧ y.err = 0 ∧ y.kind = x.kind ∧ y.text = x.text ∧ y.at_ = 0 := by
  constructor
  · rintro ⟨h1, h2, h3⟩
    have hle : x.text.length ≤ (mk x.text).size := Nat.le_refl _
    rw [spansL_T (mk x.text) x.text hle, spans_read hle h1 h2, h3]
    dsimp only
    rw [if_neg (by simp)]
    exact ⟨_, _, rfl, rfl, rfl, by rw [Int.toNat_natCast, List.take_length], rfl⟩
  · rintro ⟨y, t, h, h1, h2, h3, h4⟩
    obtain ⟨ha, hb, m, hr, ht, hm, hm0⟩ := head_read h h1 h4
    refine ⟨ha, hb, ?_⟩
    rw [hr, h2]
    have : m = x.text.length := by
      have := congrArg List.length ht
      rw [h3, List.length_take] at this
      omega
    rw [this]
end Go.Proofs.Ytfilmombflohpaa
