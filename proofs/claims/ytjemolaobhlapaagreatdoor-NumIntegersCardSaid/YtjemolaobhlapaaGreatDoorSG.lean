/- Integers: the reference's sums and order at them; digits; First of three. -/
import Derived.Test.YtjemolaobhlapaaGreatDoorN60
import Derived.Test.YtjemolaobhlapaaGreatDoorRX
set_option linter.unusedSimpArgs false
set_option linter.unusedVariables false
namespace Go.Proofs.YtjemolaobhlapaaGreatDoor
open Go.RowKit
set_option maxRecDepth 100000

theorem sumB_int (x y : Int) : ∃ r', sumB (isNeg x) (isNeg y) x.natAbs y.natAbs = (r', (x + y).natAbs) ∧ (r' && !decide ((x + y).natAbs = 0)) = isNeg (x + y) := by
  unfold sumB isNeg
  by_cases hx : x < 0 <;> by_cases hy : y < 0
  · rw [decide_eq_true hx, decide_eq_true hy, if_pos rfl]
    refine ⟨true, ?_, ?_⟩
    · rw [Prod.mk.injEq]; exact ⟨rfl, by omega⟩
    · rw [decide_eq_true (show x + y < 0 by omega), decide_eq_false (by omega)]; rfl
  · rw [decide_eq_true hx, decide_eq_false hy, if_neg (by simp)]
    by_cases h : y.natAbs ≤ x.natAbs
    · rw [if_pos h]
      refine ⟨true, ?_, ?_⟩
      · rw [Prod.mk.injEq]; exact ⟨rfl, by omega⟩
      · by_cases h0 : (x + y).natAbs = 0
        · rw [decide_eq_true h0, decide_eq_false (by omega)]; rfl
        · rw [decide_eq_false h0, decide_eq_true (by omega)]; rfl
    · rw [if_neg h]
      refine ⟨false, ?_, ?_⟩
      · rw [Prod.mk.injEq]; exact ⟨rfl, by omega⟩
      · rw [decide_eq_false (show ¬ x + y < 0 by omega)]; rfl
  · rw [decide_eq_false hx, decide_eq_true hy, if_neg (by simp)]
    by_cases h : y.natAbs ≤ x.natAbs
    · rw [if_pos h]
      refine ⟨false, ?_, ?_⟩
      · rw [Prod.mk.injEq]; exact ⟨rfl, by omega⟩
      · rw [decide_eq_false (show ¬ x + y < 0 by omega)]; rfl
    · rw [if_neg h]
      refine ⟨true, ?_, ?_⟩
      · rw [Prod.mk.injEq]; exact ⟨rfl, by omega⟩
      · rw [decide_eq_true (show x + y < 0 by omega), decide_eq_false (by omega)]; rfl
  · rw [decide_eq_false hx, decide_eq_false hy, if_pos rfl]
    refine ⟨false, ?_, ?_⟩
    · rw [Prod.mk.injEq]; exact ⟨rfl, by omega⟩
    · rw [decide_eq_false (show ¬ x + y < 0 by omega)]; rfl
theorem ordB_int (x y : Int) : ordB (isNeg (x - y)) (x - y).natAbs = cmpZ x y := by
  unfold ordB isNeg cmpZ
  by_cases h : x = y
  · rw [if_pos h, if_pos (by omega)]
  · rw [if_neg h, if_neg (by omega)]
    by_cases h2 : x < y
    · rw [if_pos h2, decide_eq_true (by omega), if_pos rfl]
    · rw [if_neg h2, decide_eq_false (by omega), if_neg (by decide)]
theorem neg_ne {z : Int} (h : isNeg z = true) : z.natAbs ≠ 0 := by
  have := of_decide_eq_true h
  omega
theorem digits_mono {a b : Nat} (h : a ≤ b) (hb : Lib.nDigits b ≤ 120) : Lib.nDigits a ≤ 120 :=
  digits_le 119 a (Nat.lt_of_le_of_lt h (Nat.lt_of_lt_of_le (Lib.lt_pow_nDigits b) (Nat.pow_le_pow_right (by decide) hb)))
theorem floor_le {s : Bool} {a b q r : Nat} (hb : 0 < b) (hq : (if (s && !decide (a % b = 0)) = true then (a / b + 1, b - a % b) else (a / b, a % b)) = (q, r)) : q ≤ a := by
  split at hq
  · rename_i h
    rw [Prod.mk.injEq] at hq
    have h1 : a % b ≠ 0 := by intro h0; rw [h0] at h; simp at h
    have h2 : b ≠ 1 := by rintro rfl; exact h1 (Nat.mod_one a)
    have h3 : a ≠ 0 := by rintro rfl; exact h1 (Nat.zero_mod b)
    have h4 : a / b < a := Nat.div_lt_self (by omega) (by omega)
    omega
  · rw [Prod.mk.injEq] at hq
    have := Nat.div_le_self a b
    omega
theorem sign_ne {s t : Bool} {q : Nat} {z : Bool} (hz : ((s != t) && !decide (q = 0)) = z) : z = true → q ≠ 0 := by
  intro h h0
  rw [← hz, h0] at h
  simp at h

theorem rFirst_three (a b c r : Int) (h : (if a = 0 then (if b = 0 then c else b) else a) = r) (w : World) :
    Calls Tryz.prog 81 #[.slice (some ⟨w.heap.size, 0, none⟩) 3 3] (w.alloc (.cells #[.int .i64 a, .int .i64 b, .int .i64 c] 3)) fun e w' => e = .returned (.int .i64 r) ∧ w.alloc (.cells #[.int .i64 a, .int .i64 b, .int .i64 c] 3) = w' :=
  rFirst_any [a, b, c] w.heap.size _ (by simp) (by
    intro j hj
    match j, hj with
    | 0, _ => exact (BlockIs.new w 3 #[.int .i64 a, .int .i64 b, .int .i64 c]).at 0
    | 1, _ => exact (BlockIs.new w 3 #[.int .i64 a, .int .i64 b, .int .i64 c]).at 1
    | 2, _ => exact (BlockIs.new w 3 #[.int .i64 a, .int .i64 b, .int .i64 c]).at 2) r (by
    rw [← h]
    simp only [firstE]
    by_cases hc : c = 0
    · subst hc; simp
    · simp [hc])
end Go.Proofs.YtjemolaobhlapaaGreatDoor
