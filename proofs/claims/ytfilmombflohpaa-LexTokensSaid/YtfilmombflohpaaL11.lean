/- Plain facts on the tokens of a text: sizes. -/
import Derived.Test.YtfilmombflohpaaL10
set_option linter.unusedSimpArgs false
set_option linter.unusedVariables false
namespace Go.Proofs.Ytfilmombflohpaa
open Go.RowKit Go.ChangeMaps Go.WideMaps
set_option maxRecDepth 100000

theorem gapI_bd : ∀ (f : Nat) (l : List UInt8), 0 ≤ (gapI f l).1 ∧ (gapI f l).1 ≤ l.length
  | 0, _ => by simp [gapI]
  | _ + 1, [] => by simp [gapI]
  | f + 1, c :: r => by
    have i1 := gapI_bd f r
    have h2 := lib_cut_le (c :: r) [10]
    have i2 := gapI_bd f ((c :: r).drop (Lib.cut (c :: r) [10]).1.length)
    have i3 := gapI_bd f ((c :: r).drop (2 + (Lib.cut ((c :: r).drop 2) [42, 47]).1.length + 2))
    rw [List.length_drop] at i2 i3
    have hl : (c :: r).length = r.length + 1 := rfl
    unfold gapI
    split
    · simp only; omega
    · split
      · simp only; omega
      · split
        · rename_i hp
          split
          · rename_i hc
            have h4 := lib_cut_found hc
            rw [List.length_drop] at h4
            have h5 : 2 ≤ (c :: r).length := by
              match r, hp with
              | [], hp => simp [Lib.hasPrefix, List.isPrefixOf] at hp
              | _ :: _, _ => simp
            have h6 : ([42, 47] : List UInt8).length = 2 := rfl
            simp only; omega
          · simp only; omega
        · simp only; omega

theorem checkDigitsI_bd (l : List UInt8) (a b : Int) (h : (checkDigitsI l a b).2 = 0) : (checkDigitsI l a b).1 = b := by
  unfold checkDigitsI at h ⊢
  split
  · rename_i hc; rw [if_pos hc] at h; cases h
  · rfl

theorem trimPrefix_len {l p : List UInt8} (h : Lib.hasPrefix l p = true) : (Lib.trimPrefix l p).length + p.length = l.length := by
  unfold Lib.trimPrefix
  rw [if_pos h, List.length_drop]
  have : p.length ≤ l.length := by
    have := List.isPrefixOf_iff_prefix.1 h
    exact this.length_le
  omega

theorem signFrom_bd (sg : List (List UInt8)) (l : List UInt8) : ∀ k, 0 ≤ (signFrom sg l k).1 ∧ (signFrom sg l k).1 ≤ k ∧ (signFrom sg l k).2 = 0
  | 0 => by simp [signFrom]
  | k + 1 => by
    have := signFrom_bd sg l k
    unfold signFrom
    split
    · refine ⟨by simp only; omega, by simp only; omega, rfl⟩
    · exact ⟨this.1, by omega, this.2.2⟩

theorem ruleI_bd (kw sg : List (List UInt8)) (i : Nat) (l : List UInt8) (h : (ruleI kw sg i l).2 = 0) : 0 ≤ (ruleI kw sg i l).1 ∧ (ruleI kw sg i l).1 ≤ l.length := by
  have hw := wordL_le l
  have hd := countL_le isDigitI l
  unfold ruleI at h ⊢
  split at h
  · have h2 := wordL_le (Lib.trimPrefix (l.drop (wordL l).length) [58, 58])
    unfold qualifiedI qualC
    split
    · simp
    · rename_i hc
      split
      · simp
      · have hf : Lib.hasPrefix (l.drop (wordL l).length) [58, 58] = true := by
          cases hx : Lib.hasPrefix (l.drop (wordL l).length) [58, 58]
          · exact absurd (.inr (.inl hx)) hc
          · rfl
        have h3 := trimPrefix_len hf
        rw [List.length_drop] at h3
        simp only [List.length_cons, List.length_nil] at h3
        simp only; omega
  · unfold keywordI; split <;> simp <;> omega
  · unfold nameI; split <;> simp <;> omega
  · unfold underscoreI
    split
    · rename_i hc
      cases l with
      | nil => simp [hdI] at hc
      | cons c r => exact ⟨by simp, by simp; omega⟩
    · simp
  · unfold decimalI at h ⊢
    dsimp only at h ⊢
    split
    · simp
    · rename_i hc
      rw [if_neg hc] at h
      rw [checkDigitsI_bd _ _ _ h]
      have hf : Lib.hasPrefix (l.drop (countL isDigitI l)) [46] = true := by
        cases hx : Lib.hasPrefix (l.drop (countL isDigitI l)) [46]
        · exact absurd (.inr (.inl hx)) hc
        · rfl
      have h3 := trimPrefix_len hf
      have h4 := countL_le isDigitI (Lib.trimPrefix (l.drop (countL isDigitI l)) [46])
      rw [List.length_drop] at h3
      simp only [List.length_cons, List.length_nil] at h3
      omega
  · unfold numberI at h ⊢
    rw [checkDigitsI_bd _ _ _ h]
    omega
  · have := signFrom_bd sg l (min 4 l.length)
    unfold signI
    omega

theorem firstRule_bd (kw sg : List (List UInt8)) (l : List UInt8) : ∀ n i k m, firstRule kw sg l n i = some (k, m, 0) → 0 < m ∧ m ≤ l.length
  | 0, _, _, _, h => by cases h
  | n + 1, i, k, m, h => by
    unfold firstRule at h
    split at h
    · rename_i h1; simp at h; omega
    · rename_i h1
      have h1' : (ruleI kw sg i l).2 = 0 := by omega
      have hb := ruleI_bd kw sg i l h1'
      split at h
      · simp at h; omega
      · exact firstRule_bd kw sg l n (i + 1) k m h


theorem spansF_fuel (kw sg : List (List UInt8)) : ∀ (f g : Nat) (l : List UInt8) (a : Nat), l.length < f → l.length < g → spansF kw sg f l a = spansF kw sg g l a
  | 0, _, l, _, h, _ => by omega
  | _, 0, l, _, _, h => by omega
  | f + 1, g + 1, l, a, hf, hg => by
    unfold spansF
    have hg := gapI_bd l.length l
    split
    · rfl
    · split
      · rfl
      · split
        · rfl
        · rename_i k n e hfr
          split
          · rfl
          · rename_i he
            have he' : e = 0 := by omega
            subst he'
            have hb := firstRule_bd kw sg _ 7 0 k n hfr
            rw [List.length_drop] at hb
            rw [spansF_fuel kw sg f g _ _ (by rw [List.length_drop, List.length_drop]; omega) (by rw [List.length_drop, List.length_drop]; omega)]

/-- The fuel that is enough for a text. -/
abbrev spansT (s : ByteArray) (l : List UInt8) (k : Nat) : List Span := spansF kwL sgL (s.size + 1) l k

theorem spansT_step {s : ByteArray} {l : List UInt8} {k : Nat} (h : l.length ≤ s.size) : spansT s l k =
    if (gapI l.length l).2 ≠ 0 then [⟨0, [], k + (gapI l.length l).1, 0, (gapI l.length l).2⟩]
    else if l.drop (gapI l.length l).1.toNat = [] then []
    else match firstRule kwL sgL (l.drop (gapI l.length l).1.toNat) 7 0 with
      | none => [⟨0, [], k + (gapI l.length l).1, 0, 22⟩]
      | some (q, n, e) =>
        if e ≠ 0 then [⟨0, [], k + (gapI l.length l).1, 0, e⟩]
        else ⟨q, (l.drop (gapI l.length l).1.toNat).take n.toNat, k + (gapI l.length l).1, k + (gapI l.length l).1 + n, 0⟩ ::
          spansT s ((l.drop (gapI l.length l).1.toNat).drop n.toNat) (k + (gapI l.length l).1.toNat + n.toNat) := by
  show spansF kwL sgL (s.size + 1) l k = _
  conv => lhs; unfold spansF
  split
  · rfl
  · split
    · rfl
    · split
      · rename_i hfr; rw [hfr]
      · rename_i q n e hfr
        simp only [hfr]
        by_cases he : e ≠ 0
        · rw [if_pos he, if_pos he]
        · rw [if_neg he, if_neg he]
          have he' : e = 0 := by omega
          subst he'
          have hb := firstRule_bd kwL sgL _ 7 0 q n hfr
          have hg := gapI_bd l.length l
          rw [List.length_drop] at hb
          rw [spansF_fuel kwL sgL s.size (s.size + 1) _ _ (by rw [List.length_drop, List.length_drop]; omega) (by rw [List.length_drop, List.length_drop]; omega)]

theorem fr_err {l : List UInt8} {i : Nat} {sz er : Int} (hi : i < 7) (hr : ruleI kwL sgL i l = (sz, er)) (he : er ≠ 0) : firstRule kwL sgL l (7 - i) i = some (0, 0, er) := by
  obtain ⟨j, hj⟩ : ∃ j, 7 - i = j + 1 := ⟨7 - i - 1, by omega⟩
  rw [hj]
  unfold firstRule
  rw [hr]
  simp [he]
theorem fr_hit {l : List UInt8} {i : Nat} {sz er : Int} (hi : i < 7) (hr : ruleI kwL sgL i l = (sz, er)) (he : er = 0) (hs : 0 < sz) : firstRule kwL sgL l (7 - i) i = some (kindI i, sz, 0) := by
  obtain ⟨j, hj⟩ : ∃ j, 7 - i = j + 1 := ⟨7 - i - 1, by omega⟩
  rw [hj]
  unfold firstRule
  rw [hr]
  simp [he, hs]
theorem fr_next {l : List UInt8} {i : Nat} {sz er : Int} (hi : i < 7) (hr : ruleI kwL sgL i l = (sz, er)) (he : er = 0) (hs : ¬ 0 < sz) : firstRule kwL sgL l (7 - i) i = firstRule kwL sgL l (7 - (i + 1)) (i + 1) := by
  obtain ⟨j, hj⟩ : ∃ j, 7 - i = j + 1 := ⟨7 - i - 1, by omega⟩
  rw [hj, show 7 - (i + 1) = j by omega]
  conv => lhs; unfold firstRule
  rw [hr]
  simp [he, hs]
end Go.Proofs.Ytfilmombflohpaa
