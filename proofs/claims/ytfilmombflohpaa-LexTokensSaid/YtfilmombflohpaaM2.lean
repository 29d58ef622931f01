/- The tokens of a text, read step by step: a blank, a token, an error. -/
import Derived.Test.YtfilmombflohpaaM1
set_option linter.unusedSimpArgs false
set_option linter.unusedVariables false
namespace Go.Proofs.Ytfilmombflohpaa
open Go.RowKit Go.ChangeMaps Go.WideMaps
set_option maxRecDepth 100000

theorem readK_bd {l : List UInt8} (h : (readK l).2.2 = 0) : 0 < (readK l).2.1 ∧ (readK l).2.1 ≤ l.length := by
  have hf := first_read l
  cases hr : firstRule kwL sgL l 7 0 with
  | none => rw [hr] at hf; rw [← hf] at h; cases h
  | some x =>
    obtain ⟨k, n, e⟩ := x
    rw [hr] at hf
    rw [← hf] at h ⊢
    have he : e = 0 := h
    subst he
    exact firstRule_bd kwL sgL l 7 0 k n hr

theorem spans_stop {s : ByteArray} {l : List UInt8} {k : Nat} (hl : l.length ≤ s.size) (hn : l ≠ []) (hb : blankL l = -1) : spansT s l k = [⟨0, [], k, 0, 22⟩] := by
  have hgap := gap_blank (Nat.le_refl l.length) hn
  rw [if_pos hb] at hgap
  rw [spansT_step hl, hgap]
  simp

theorem spans_blank {s : ByteArray} {l : List UInt8} {k n : Nat} (hl : l.length ≤ s.size) (hn : l ≠ []) (hb : blankL l = n) (h0 : 0 < n) : spansT s l k = spansT s (l.drop n) (k + n) := by
  have hl2 : (l.drop n).length ≤ s.size := by rw [List.length_drop]; omega
  have hg := gapI_bd (l.drop n).length (l.drop n)
  have h1 : ¬ (n : Int) = -1 := by omega
  have h2 : ¬ (n : Int) = 0 := by omega
  have hgap := gap_blank (Nat.le_refl l.length) hn
  rw [hb, if_neg h1, if_neg h2, Int.toNat_natCast, gapI_fuel l.length (l.drop n).length (l.drop n) (by rw [List.length_drop]; omega) (Nat.le_refl _)] at hgap
  rw [spansT_step hl, spansT_step hl2, hgap]
  obtain ⟨g, hgg⟩ : ∃ g, gapI (l.drop n).length (l.drop n) = g := ⟨_, rfl⟩
  rw [hgg] at hg ⊢
  obtain ⟨g, e⟩ := g
  dsimp only at hg ⊢
  obtain ⟨g, rfl⟩ := Int.eq_ofNat_of_zero_le hg.1
  rw [Int.toNat_natCast, show ((g : Int) + (n : Int)).toNat = n + g by omega, ← List.drop_drop]
  rw [show (k : Int) + ((g : Int) + (n : Int)) = ((k + n : Nat) : Int) + (g : Int) by omega, show k + (n + g) = k + n + g by omega]

theorem spans_read {s : ByteArray} {l : List UInt8} {k : Nat} (hl : l.length ≤ s.size) (hn : l ≠ []) (hb : blankL l = 0) : spansT s l k =
    if (readK l).2.2 ≠ 0 then [⟨0, [], k, 0, (readK l).2.2⟩]
    else ⟨(readK l).1, l.take (readK l).2.1.toNat, k, (k : Int) + (readK l).2.1, 0⟩ :: spansT s (l.drop (readK l).2.1.toNat) (k + (readK l).2.1.toNat) := by
  have hf := first_read l
  have hgap := gap_blank (Nat.le_refl l.length) hn
  rw [hb, if_neg (by decide), if_pos rfl] at hgap
  rw [spansT_step hl, hgap]
  simp only [ne_eq, not_true_eq_false, if_false, Int.toNat_zero, List.drop_zero, Int.add_zero, Nat.add_zero]
  rw [if_neg hn]
  cases hr : firstRule kwL sgL l 7 0 with
  | none =>
    rw [hr] at hf
    rw [← hf]
    simp [frK]
  | some x =>
    obtain ⟨q, m, e⟩ := x
    rw [hr] at hf
    rw [← hf]
    rfl

theorem spans_nil (s : ByteArray) (k : Nat) : spansT s [] k = [] := by
  rw [spansT_step (by simp)]
  simp [gapI]

/-- Two readings up to the first error are one. -/
theorem first_bad {p p' : List Span} {x x' : Span} (h : p ++ [x] <+: p' ++ [x']) (hp' : ∀ y ∈ p', y.err = 0) (hx : x.err ≠ 0) : p = p' ∧ x = x' := by
  obtain ⟨t, ht⟩ := h
  rcases List.eq_nil_or_concat t with rfl | ⟨t', z, rfl⟩
  · rw [List.append_nil] at ht
    have := List.append_inj' ht rfl
    exact ⟨this.1, by simpa using this.2⟩
  · exfalso
    rw [List.concat_eq_append, ← List.append_assoc] at ht
    have h1 := (List.append_inj' ht rfl).1
    exact hx (hp' x (by rw [← h1]; simp))
end Go.Proofs.Ytfilmombflohpaa
