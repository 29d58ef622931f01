/- The plain numbers behind the reference's integers: limbs to the base 10^4. -/
import Derived.Test.YtjemolaobhlapaaGreatDoorND
import Derived.ProofKit
import Derived.WalkKit
import Derived.WalkSpells
import Derived.WalkLawsBesides
import Derived.Lib.Hide
import Derived.WalkSmall
import Derived.IntWalk
import Derived.Deep.QuietTactic
import Derived.BigQuiet
import Derived.Laws.Rows
import Derived.Laws.MakeOwn
import Derived.Test.YtjemolaobhlapaaGreatDoorProg
set_option linter.unusedSimpArgs false
set_option linter.unusedVariables false
namespace Go.Proofs.YtjemolaobhlapaaGreatDoor

def qw : Nat → Nat
  | 0 => 1
  | i + 1 => qw i * 10000

theorem qw_pos (i : Nat) : 0 < qw i := by
  induction i with
  | zero => decide
  | succ i ih => unfold qw; omega
theorem qw_succ (i : Nat) : qw (i + 1) = qw i * 10000 := rfl
theorem qw_mono {i j : Nat} (h : i ≤ j) : qw i ≤ qw j := by
  induction j with
  | zero => have : i = 0 := by omega
            subst this; exact Nat.le_refl _
  | succ j ih =>
    by_cases hj : i = j + 1
    · subst hj; exact Nat.le_refl _
    · have := ih (by omega); rw [qw_succ]; omega
theorem qw_add (i j : Nat) : qw (i + j) = qw i * qw j := by
  induction j with
  | zero => simp [qw]
  | succ j ih => rw [← Nat.add_assoc, qw_succ, qw_succ, ih, Nat.mul_assoc]

def dq (n i : Nat) : Nat := n / qw i % 10000
theorem dq_lt (n i : Nat) : dq n i < 10000 := Nat.mod_lt _ (by decide)
theorem dq_big {n i : Nat} (h : n < qw i) : dq n i = 0 := by
  unfold dq; rw [Nat.div_eq_of_lt h]
theorem qdiv_step (n i : Nat) : n / qw i = n / qw (i + 1) * 10000 + dq n i := by
  unfold dq
  rw [qw_succ, ← Nat.div_div_eq_div_mul]
  omega
theorem qmod_step (n i : Nat) : n % qw (i + 1) = n % qw i + dq n i * qw i := by
  have h1 := Nat.div_add_mod n (qw (i + 1))
  have h2 := Nat.div_add_mod n (qw i)
  have h3 := qdiv_step n i
  rw [h3, Nat.mul_add] at h2
  rw [qw_succ] at h1 ⊢
  have h4 : qw i * (n / qw (i + 1) * 10000) = qw i * 10000 * (n / (qw i * 10000)) := by
    rw [qw_succ, Nat.mul_comm (n / _), Nat.mul_assoc]
  rw [h4] at h2
  have h5 : qw i * dq n i = dq n i * qw i := Nat.mul_comm _ _
  omega

/-! ### The number of a row of limbs -/
def qv (f : Nat → Nat) : Nat → Nat
  | 0 => 0
  | k + 1 => qv f k + f k * qw k
theorem qv_succ (f : Nat → Nat) (k : Nat) : qv f (k + 1) = qv f k + f k * qw k := rfl
theorem qv_lt {f : Nat → Nat} {k : Nat} (h : ∀ i, i < k → f i < 10000) : qv f k < qw k := by
  induction k with
  | zero => simp [qv, qw]
  | succ k ih =>
    have h1 := ih fun i hi => h i (by omega)
    have h2 := h k (by omega)
    have h3 : f k * qw k ≤ 9999 * qw k := Nat.mul_le_mul_right _ (by omega)
    unfold qv; rw [qw_succ]; omega
theorem qv_dq (n k : Nat) : qv (dq n) k = n % qw k := by
  induction k with
  | zero => simp [qv, qw, Nat.mod_one]
  | succ k ih => rw [qmod_step]; simp [qv, ih]
theorem qv_congr {f g : Nat → Nat} {k : Nat} (h : ∀ i, i < k → f i = g i) : qv f k = qv g k := by
  induction k with
  | zero => rfl
  | succ k ih => simp [qv, ih fun i hi => h i (by omega), h k (by omega)]
theorem dq_qv {f : Nat → Nat} {k i : Nat} (h : ∀ i, i < k → f i < 10000) (hi : i < k) : dq (qv f k) i = f i := by
  induction k with
  | zero => omega
  | succ k ih =>
    have h1 := qv_lt (k := k) fun i hi => h i (by omega)
    have h2 := h k (by omega)
    by_cases e : i = k
    · subst e
      unfold dq qv
      rw [Nat.add_mul_div_right _ _ (qw_pos _), Nat.div_eq_of_lt h1, Nat.zero_add, Nat.mod_eq_of_lt h2]
    · have ih' := ih (fun i hi => h i (by omega)) (by omega)
      rw [← ih', qv_succ]
      unfold dq
      obtain ⟨d, rfl⟩ : ∃ d, k = i + 1 + d := ⟨k - (i + 1), by omega⟩
      have e2 : f (i + 1 + d) * qw (i + 1 + d) = (f (i + 1 + d) * qw d * 10000) * qw i := by
        rw [qw_add, qw_succ]; ac_rfl
      rw [e2, Nat.add_mul_div_right _ _ (qw_pos _), Nat.add_mul_mod_self_right]
theorem qv_more {f : Nat → Nat} {k m : Nat} (h : ∀ i, k ≤ i → f i = 0) (hm : k ≤ m) : qv f m = qv f k := by
  induction m with
  | zero => have : k = 0 := by omega
            subst this; rfl
  | succ m ih =>
    by_cases e : k = m + 1
    · subst e; rfl
    · rw [qv_succ, h m (by omega), ih (by omega)]; simp
theorem qv_upd (f : Nat → Nat) {i k : Nat} (x : Nat) (h : i < k) : qv (upd f i x) k + f i * qw i = qv f k + x * qw i := by
  induction k with
  | zero => omega
  | succ k ih =>
    by_cases e : i = k
    · subst e
      have : qv (upd f i x) i = qv f i := qv_congr fun j hj => upd_other f x (by omega)
      simp only [qv, this, upd_same]
      omega
    · have h1 := ih (by omega)
      simp only [qv, upd_other f x (show k ≠ i by omega)]
      omega

/-! ### Sums and differences -/
def qcar (a b i : Nat) : Nat := (a % qw i + b % qw i) / qw i
theorem qcar_le (a b i : Nat) : qcar a b i ≤ 1 := by
  unfold qcar
  have h1 := Nat.mod_lt a (qw_pos i)
  have h2 := Nat.mod_lt b (qw_pos i)
  have : (a % qw i + b % qw i) / qw i < 2 := Nat.div_lt_of_lt_mul (by omega)
  omega
theorem qcar_zero (a b : Nat) : qcar a b 0 = 0 := by simp [qcar, qw, Nat.mod_one]
theorem qsum_step (a b i : Nat) : a / qw i + b / qw i + qcar a b i = (a + b) / qw i := by
  unfold qcar
  have h := qw_pos i
  conv => rhs; rw [← Nat.div_add_mod a (qw i), ← Nat.div_add_mod b (qw i)]
  have e : qw i * (a / qw i) + a % qw i + (qw i * (b / qw i) + b % qw i) = (a % qw i + b % qw i) + qw i * (a / qw i + b / qw i) := by rw [Nat.mul_add]; omega
  rw [e, Nat.add_mul_div_left _ _ h]; omega
theorem dq_sum (a b i : Nat) : dq (a + b) i = (dq a i + dq b i + qcar a b i) % 10000 := by
  have h := qsum_step a b i
  unfold dq
  rw [← h]
  omega
theorem qcar_next (a b i : Nat) : qcar a b (i + 1) = (dq a i + dq b i + qcar a b i) / 10000 := by
  unfold qcar
  rw [qmod_step, qmod_step, qw_succ, ← Nat.div_div_eq_div_mul]
  congr 1
  have e : a % qw i + dq a i * qw i + (b % qw i + dq b i * qw i) = (a % qw i + b % qw i) + qw i * (dq a i + dq b i) := by
    rw [Nat.mul_add, Nat.mul_comm (qw i), Nat.mul_comm (qw i)]; omega
  rw [e, Nat.add_mul_div_left _ _ (qw_pos i)]
  omega
def qbor (a b i : Nat) : Nat := if a % qw i < b % qw i then 1 else 0
theorem qbor_le (a b i : Nat) : qbor a b i ≤ 1 := by unfold qbor; split <;> omega
theorem qbor_zero (a b : Nat) : qbor a b 0 = 0 := by simp [qbor, qw, Nat.mod_one]
theorem qbor_next (a b i : Nat) : qbor a b (i + 1) = 1 - (dq a i + 10000 - dq b i - qbor a b i) / 10000 := by
  have h1 := Nat.mod_lt a (qw_pos i)
  have h2 := Nat.mod_lt b (qw_pos i)
  have ha := dq_lt a i
  have hb := dq_lt b i
  unfold qbor
  rw [qmod_step, qmod_step]
  rcases Nat.lt_trichotomy (dq a i) (dq b i) with h | h | h
  · have : (dq a i + 1) * qw i ≤ dq b i * qw i := Nat.mul_le_mul_right _ (by omega)
    rw [Nat.add_mul, Nat.one_mul] at this
    rw [if_pos (by omega)]
    split <;> omega
  · rw [h]
    split <;> split <;> omega
  · have : (dq b i + 1) * qw i ≤ dq a i * qw i := Nat.mul_le_mul_right _ (by omega)
    rw [Nat.add_mul, Nat.one_mul] at this
    rw [if_neg (by omega)]
    split <;> omega
theorem dq_diff (a b i : Nat) (h : b ≤ a) : dq (a - b) i = (dq a i + 10000 - dq b i - qbor a b i) % 10000 := by
  obtain ⟨c, rfl⟩ : ∃ c, a = b + c := ⟨a - b, by omega⟩
  rw [Nat.add_sub_cancel_left]
  have h1 := qsum_step b c i
  have h2 : qbor (b + c) b i = qcar b c i := by
    unfold qbor qcar
    have hb := Nat.mod_lt b (qw_pos i)
    have hc := Nat.mod_lt c (qw_pos i)
    rw [Nat.add_mod]
    by_cases hs : b % qw i + c % qw i < qw i
    · rw [Nat.mod_eq_of_lt hs, if_neg (by omega), Nat.div_eq_of_lt hs]
    · have e : (b % qw i + c % qw i) = (b % qw i + c % qw i - qw i) + qw i * 1 := by omega
      rw [e, Nat.add_mul_mod_self_left, Nat.mod_eq_of_lt (by omega), Nat.add_mul_div_left _ _ (qw_pos i), Nat.div_eq_of_lt (by omega), if_pos (by omega)]
  rw [h2]
  have h3 := qcar_le b c i
  have hb := dq_lt b i
  unfold dq at *
  rw [← h1]
  omega
theorem qbor_end {a b i : Nat} (h : b ≤ a) (ha : a < qw i) : qbor a b i = 0 := by
  unfold qbor
  rw [Nat.mod_eq_of_lt ha, Nat.mod_eq_of_lt (by omega), if_neg (by omega)]
/-! ### Products -/
/-- The part of a product that has been summed up after j limbs of b in round i. -/
def qprod (a b i j : Nat) : Nat := a % qw i * b + dq a i * (b % qw j) * qw i
theorem qpart_zero (a b i : Nat) : qprod a b i 0 = a % qw i * b := by simp [qprod, qw, Nat.mod_one]
theorem qpart_next (a b i j : Nat) : qprod a b i (j + 1) = qprod a b i j + dq a i * dq b j * qw (i + j) := by
  unfold qprod
  rw [qmod_step b j, qw_add, Nat.mul_add, Nat.add_mul, Nat.add_assoc]
  congr 2
  ac_rfl
theorem qpart_end {a b i l : Nat} (h : b < qw l) : qprod a b i l = a % qw (i + 1) * b := by
  unfold qprod
  rw [Nat.mod_eq_of_lt h, qmod_step, Nat.add_mul]
  congr 1
  ac_rfl
theorem qprod_lt {x y z c : Nat} (hx : x < 10000) (hy : y < 10000) (hz : z < 10000) (hc : c < 10000) : x * y + z + c < 100000000000 := by
  have : x * y ≤ 9999 * 9999 := Nat.mul_le_mul (by omega) (by omega)
  omega
/-! ### Quotients by a dq -/
theorem qdiv_low (n d i : Nat) (hd : 0 < d) : n / qw i / d = n / qw (i + 1) / d * 10000 + (n / qw (i + 1) % d * 10000 + dq n i) / d := by
  rw [qdiv_step n i]
  generalize n / qw (i + 1) = q
  obtain ⟨x, y, rfl, hy⟩ : ∃ x y, q = d * x + y ∧ y < d := ⟨q / d, q % d, (Nat.div_add_mod q d).symm, Nat.mod_lt _ hd⟩
  have e1 : (d * x + y) / d = x := by rw [Nat.mul_add_div hd, Nat.div_eq_of_lt hy]; omega
  have e2 : (d * x + y) % d = y := by rw [Nat.mul_add_mod]; exact Nat.mod_eq_of_lt hy
  rw [e1, e2]
  have e : (d * x + y) * 10000 + dq n i = d * (x * 10000) + (y * 10000 + dq n i) := by
    rw [Nat.add_mul, Nat.mul_assoc]; omega
  rw [e, Nat.mul_add_div hd]
theorem qrest_low (n d i : Nat) (hd : 0 < d) : n / qw i % d = (n / qw (i + 1) % d * 10000 + dq n i) % d := by
  rw [qdiv_step n i]
  generalize n / qw (i + 1) = q
  obtain ⟨x, y, rfl, hy⟩ : ∃ x y, q = d * x + y ∧ y < d := ⟨q / d, q % d, (Nat.div_add_mod q d).symm, Nat.mod_lt _ hd⟩
  have e2 : (d * x + y) % d = y := by rw [Nat.mul_add_mod]; exact Nat.mod_eq_of_lt hy
  rw [e2]
  have e : (d * x + y) * 10000 + dq n i = d * (x * 10000) + (y * 10000 + dq n i) := by
    rw [Nat.add_mul, Nat.mul_assoc]; omega
  rw [e, Nat.mul_add_mod]
theorem qdigit_lt {r d l : Nat} (hr : r < d) (hl : l < 10000) : (r * 10000 + l) / d < 10000 := by
  apply Nat.div_lt_of_lt_mul
  have : (r + 1) * 10000 ≤ d * 10000 := Nat.mul_le_mul_right _ (by omega)
  omega
theorem dq_div (n d i : Nat) (hd : 0 < d) : dq (n / d) i = (n / qw (i + 1) % d * 10000 + dq n i) / d := by
  unfold dq
  rw [Nat.div_div_eq_div_mul, Nat.mul_comm d, ← Nat.div_div_eq_div_mul, qdiv_low n d i hd, Nat.mul_comm (n / qw (i + 1) / d), Nat.mul_add_mod]
  exact Nat.mod_eq_of_lt (qdigit_lt (Nat.mod_lt _ hd) (dq_lt n i))
theorem qdiv_past {n d u : Nat} (h : n < qw u) : n / qw u % d = 0 := by rw [Nat.div_eq_of_lt h]; simp
theorem qdiv_first (n : Nat) : n / qw 0 = n := by simp [qw]

/-! ### Comparisons -/
theorem qlt_of_dq {a b i : Nat} (he : a / qw (i + 1) = b / qw (i + 1)) (h : dq a i < dq b i) : a < b := by
  have h1 := qdiv_step a i
  have h2 := qdiv_step b i
  rw [he] at h1
  have h3 : a / qw i < b / qw i := by omega
  exact Nat.lt_of_div_lt_div h3
theorem qdiv_same {a b i : Nat} (he : a / qw (i + 1) = b / qw (i + 1)) (h : dq a i = dq b i) : a / qw i = b / qw i := by
  rw [qdiv_step a i, qdiv_step b i, he, h]

/-! ### How many limbs there are -/
def qlF : Nat → Nat → Nat
  | 0, _ => 0
  | f + 1, n => if n = 0 then 0 else qlF f (n / 10000) + 1
/-- How many limbs a number has. -/
def ql (n : Nat) : Nat := qlF (n + 1) n
theorem qlF_all (f n : Nat) (h : n < qw f) : n < qw (qlF f n) ∧ (0 < n → 0 < qlF f n ∧ qw (qlF f n - 1) ≤ n) := by
  induction f generalizing n with
  | zero => simp [qw] at h; subst h; simp [qlF, qw]
  | succ f ih =>
    by_cases h0 : n = 0
    · subst h0; simp [qlF, qw]
    · have hd : n / 10000 < qw f := by rw [qw_succ] at h; exact Nat.div_lt_of_lt_mul (by omega)
      obtain ⟨h2, h3⟩ := ih _ hd
      have e : qlF (f + 1) n = qlF f (n / 10000) + 1 := by simp [qlF, h0]
      rw [e]
      refine ⟨by rw [qw_succ]; omega, fun _ => ⟨by omega, ?_⟩⟩
      rw [Nat.add_sub_cancel]
      by_cases hq : n / 10000 = 0
      · rw [hq]
        have : qlF f 0 = 0 := by cases f <;> simp [qlF]
        rw [this]; simp [qw]; omega
      · obtain ⟨h4, h5⟩ := h3 (by omega)
        have : qlF f (n / 10000) = (qlF f (n / 10000) - 1) + 1 := by omega
        rw [this, qw_succ]; omega
theorem qw_id (n : Nat) : n < qw n := by
  induction n with
  | zero => decide
  | succ n ih => rw [qw_succ]; omega
theorem ql_lt (n : Nat) : n < qw (ql n) := (qlF_all (n + 1) n (Nat.lt_of_lt_of_le (qw_id n) (qw_mono (by omega)))).1
theorem ql_low {n : Nat} (h0 : 0 < n) : 0 < ql n ∧ qw (ql n - 1) ≤ n := (qlF_all (n + 1) n (Nat.lt_of_lt_of_le (qw_id n) (qw_mono (by omega)))).2 h0
theorem ql_le {n k : Nat} (hk : n < qw k) : ql n ≤ k := by
  by_cases h0 : n = 0
  · subst h0; simp [ql, qlF]
  · obtain ⟨h1, h2⟩ := ql_low (n := n) (by omega)
    by_cases hc : ql n ≤ k
    · exact hc
    · have := qw_mono (i := k) (j := ql n - 1) (by omega)
      omega
theorem ql_zero : ql 0 = 0 := by simp [ql, qlF]
theorem ql_eq_zero {n : Nat} : ql n = 0 ↔ n = 0 := by
  constructor
  · intro e
    have := ql_lt n
    rw [e] at this
    simp [qw] at this
    exact this
  · rintro rfl; exact ql_zero
theorem lt_qw_iff {n k : Nat} : n < qw k ↔ ql n ≤ k := by
  constructor
  · exact ql_le
  · intro hk; exact Nat.lt_of_lt_of_le (ql_lt n) (qw_mono hk)
theorem dq_past {n i : Nat} (hi : ql n ≤ i) : dq n i = 0 := dq_big (lt_qw_iff.2 hi)
theorem dq_top {n : Nat} (h0 : 0 < n) : 0 < dq n (ql n - 1) := by
  obtain ⟨h1, h2⟩ := ql_low h0
  have h3 := ql_lt n
  have e : ql n = ql n - 1 + 1 := by omega
  rw [e, qw_succ] at h3
  unfold dq
  rw [Nat.mod_eq_of_lt (Nat.div_lt_of_lt_mul (by rw [Nat.mul_comm] at h3; rw [Nat.mul_comm]; exact h3))]
  exact Nat.div_pos h2 (qw_pos _)
theorem ql_mono {a b : Nat} (h : a ≤ b) : ql a ≤ ql b := ql_le (Nat.lt_of_le_of_lt h (ql_lt b))
theorem ql_mul (a b : Nat) : ql (a * b) ≤ ql a + ql b := by
  apply ql_le
  rw [qw_add]
  have h1 := ql_lt a
  have h2 := ql_lt b
  have := Nat.mul_lt_mul'' h1 h2
  omega
theorem ql_add (a b : Nat) : ql (a + b) ≤ max (ql a) (ql b) + 1 := by
  apply ql_le
  have h1 := Nat.lt_of_lt_of_le (ql_lt a) (qw_mono (Nat.le_max_left (ql a) (ql b)))
  have h2 := Nat.lt_of_lt_of_le (ql_lt b) (qw_mono (Nat.le_max_right (ql a) (ql b)))
  rw [qw_succ]; omega
/-- A row without a zero on top has as many limbs as its number. -/
theorem ql_of {f : Nat → Nat} {u : Nat} (hb : ∀ k, k < u → f k < 10000) (ht : u = 0 ∨ 0 < f (u - 1)) : ql (qv f u) = u := by
  have h1 := ql_le (qv_lt hb)
  rcases ht with rfl | ht
  · omega
  · by_cases hu0 : u = 0
    · omega
    · have e : u = u - 1 + 1 := by omega
      have hp : qw (u - 1) ≤ qv f u := by
        rw [e, qv_succ, Nat.add_sub_cancel]
        have : 1 * qw (u - 1) ≤ f (u - 1) * qw (u - 1) := Nat.mul_le_mul_right _ ht
        omega
      by_cases hc : u ≤ ql (qv f u)
      · omega
      · have h2 := ql_lt (qv f u)
        have := qw_mono (i := ql (qv f u)) (j := u - 1) (by omega)
        omega
theorem qv_self (n : Nat) : qv (dq n) (ql n) = n := by rw [qv_dq, Nat.mod_eq_of_lt (ql_lt n)]
theorem qv_cut {f : Nat → Nat} {k m : Nat} (hm : k ≤ m) (h : ∀ i, k ≤ i → i < m → f i = 0) : qv f m = qv f k := by
  induction m with
  | zero => have : k = 0 := by omega
            subst this; rfl
  | succ m ih =>
    by_cases e : k = m + 1
    · subst e; rfl
    · rw [qv_succ, h m (by omega) (by omega), ih (by omega) fun i h1 h2 => h i h1 (by omega)]; simp

theorem qpart_step {K a b i j c : Nat} {f : Nat → Nat} (hij : i + j < K) (h : qv f K + c * qw (i + j) = qprod a b i j) :
    qv (upd f (i + j) ((f (i + j) + dq a i * dq b j + c) % 10000)) K + (f (i + j) + dq a i * dq b j + c) / 10000 * qw (i + j + 1) = qprod a b i (j + 1) := by
  rw [qpart_next, ← h]
  have h1 := qv_upd f ((f (i + j) + dq a i * dq b j + c) % 10000) hij
  generalize hs : f (i + j) + dq a i * dq b j + c = s at h1 ⊢
  have h2 : s / 10000 * qw (i + j + 1) = s / 10000 * 10000 * qw (i + j) := by rw [qw_succ]; ac_rfl
  have h3 : s * qw (i + j) = s / 10000 * 10000 * qw (i + j) + s % 10000 * qw (i + j) := by
    rw [← Nat.add_mul]; congr 1; omega
  have h4 : s * qw (i + j) = f (i + j) * qw (i + j) + dq a i * dq b j * qw (i + j) + c * qw (i + j) := by
    rw [← hs, Nat.add_mul, Nat.add_mul]
  rw [h2]
  omega
theorem qpart_room {K a b i j c : Nat} {f : Nat → Nat} (h : qv f K + c * qw (i + j) = qprod a b i j) (hj : ql b < j) : c = 0 := by
  rw [qpart_end (Nat.lt_of_lt_of_le (ql_lt b) (qw_mono (by omega)))] at h
  have h1 : a % qw (i + 1) * b < qw (i + 1) * qw (ql b) := by
    have h2 := Nat.mod_lt a (qw_pos (i + 1))
    have := ql_lt b
    exact Nat.mul_lt_mul'' h2 this
  rw [← qw_add] at h1
  have h2 := qw_mono (i := i + 1 + ql b) (j := i + j) (by omega)
  rcases Nat.eq_zero_or_pos c with h0 | h0
  · exact h0
  · have : 1 * qw (i + j) ≤ c * qw (i + j) := Nat.mul_le_mul_right _ h0
    omega
end Go.Proofs.YtjemolaobhlapaaGreatDoor

namespace Go.Proofs.YtjemolaobhlapaaGreatDoor
open Go.Lib

theorem qw_ten (i : Nat) : qw i = 10 ^ (4 * i) := by
  induction i with
  | zero => rfl
  | succ i ih => rw [qw_succ, ih, Nat.mul_add, Nat.pow_add]
theorem numOf_chunk4 {l : List UInt8} (h : ∀ c ∈ l, isDig c = true) {i e : Nat} (he : e + 4 * i = l.length) : numOf ((l.take e).drop (e - 4)) = dq (numOf l) i := by
  have ht : ∀ c ∈ l.take e, isDig c = true := fun c hc => h c (List.mem_of_mem_take hc)
  rw [numOf_drop ht, numOf_take h e, List.length_take, Nat.min_eq_left (by omega)]
  unfold dq
  rw [qw_ten, show l.length - e = 4 * i by omega]
  by_cases h4 : 4 ≤ e
  · rw [show e - (e - 4) = 4 by omega]
  · rw [show e - (e - 4) = e by omega]
    have h1 := numOf_lt ht
    rw [numOf_take h e, List.length_take, Nat.min_eq_left (by omega), show l.length - e = 4 * i by omega] at h1
    have h2 : 10 ^ e ≤ 10 ^ 4 := Nat.pow_le_pow_right (by decide) (by omega)
    rw [Nat.mod_eq_of_lt h1, Nat.mod_eq_of_lt (Nat.lt_of_lt_of_le h1 h2)]
theorem num_qw {l : List UInt8} (h : ∀ c ∈ l, isDig c = true) {i : Nat} (hl : l.length ≤ 4 * i) : numOf l < qw i := by
  rw [qw_ten]
  exact Nat.lt_of_lt_of_le (numOf_lt h) (Nat.pow_le_pow_right (by decide) hl)

theorem digit_place4 (n i p : Nat) (hp : p < 4) : dq n i / 10 ^ p % 10 = n / 10 ^ (4 * i + p) % 10 := by
  unfold dq
  rw [qw_ten, Nat.pow_add, ← Nat.div_div_eq_div_mul]
  generalize n / 10 ^ (4 * i) = m
  have : 10000 = 10 ^ p * (10 * 10 ^ (3 - p)) := by
    rw [← Nat.pow_succ', ← Nat.pow_add, show p + (3 - p + 1) = 4 by omega]
  rw [this, Nat.mod_mul_right_div_self, Nat.mod_mul_right_mod]

theorem numOf_nil : numOf [] = 0 := rfl
theorem ql_digits (n : Nat) : n < 10 ^ (4 * ql n) := by rw [← qw_ten]; exact ql_lt n
theorem ql_dig {n d : Nat} (h : nDigits n ≤ d) : ql n ≤ d / 4 + 1 := by
  apply ql_le
  rw [qw_ten]
  exact Nat.lt_of_lt_of_le (lt_pow_nDigits n) (Nat.pow_le_pow_right (by decide) (by omega))
/-- The part of digits that lies above. -/
theorem take_num {l : List UInt8} (h : ∀ c ∈ l, isDig c = true) {e i : Nat} (he : e + 4 * i = l.length) : numOf (l.take e) = numOf l / qw i := by
  rw [numOf_take h e, qw_ten, show l.length - e = 4 * i by omega]
theorem num_le_four {l : List UInt8} (h : ∀ c ∈ l, isDig c = true) (hl : l.length ≤ 4) : numOf l < 10000 := by
  have := numOf_lt h
  exact Nat.lt_of_lt_of_le this (Nat.pow_le_pow_right (by decide) hl)
end Go.Proofs.YtjemolaobhlapaaGreatDoor

namespace Go.Proofs.YtjemolaobhlapaaGreatDoor
open Go.RowKit
set_option maxRecDepth 100000

/-- The first k limbs as cells. -/
def rowL (f : Nat → Nat) (k : Nat) : List Value := (List.range k).map fun i => Value.int .i64 (f i)
theorem rowL_len (f : Nat → Nat) (k : Nat) : (rowL f k).length = k := by simp [rowL]
theorem rowL_get (f : Nat → Nat) {k i : Nat} (h : i < k) : (rowL f k)[i]? = some (.int .i64 (f i)) := by simp [rowL, h]
theorem rowL_zero (f : Nat → Nat) : rowL f 0 = [] := rfl
theorem rowL_succ (f : Nat → Nat) (k : Nat) : rowL f (k + 1) = rowL f k ++ [.int .i64 (f k)] := by
  unfold rowL; rw [List.range_succ, List.map_append]; rfl
theorem rowL_congr {f g : Nat → Nat} {k : Nat} (h : ∀ i, i < k → f i = g i) : rowL f k = rowL g k := by
  unfold rowL
  apply List.map_congr_left
  intro i hi
  rw [h i (by simpa using hi)]
theorem rowL_take (f : Nat → Nat) {k m : Nat} (h : m ≤ k) : (rowL f k).take m = rowL f m := by
  unfold rowL
  rw [← List.map_take, List.take_range, Nat.min_eq_left h]
theorem rowL_set (f : Nat → Nat) {k i : Nat} (x : Nat) (h : i < k) : (rowL f k).set i (.int .i64 x) = rowL (upd f i x) k := by
  apply List.ext_getElem?
  intro j
  rw [List.getElem?_set, rowL_len]
  by_cases hj : i = j
  · subst hj
    rw [if_pos rfl, if_pos h, rowL_get _ h, upd_same]
  · rw [if_neg hj]
    by_cases hk : j < k
    · rw [rowL_get _ hk, rowL_get _ hk, upd_other _ _ (by omega)]
    · rw [List.getElem?_eq_none (by rw [rowL_len]; omega), List.getElem?_eq_none (by rw [rowL_len]; omega)]
theorem rowL_one (f : Nat → Nat) (k : Nat) : ∀ v ∈ rowL f k, v.oneCell' = true := by
  intro v hv
  unfold rowL at hv
  simp only [List.mem_map] at hv
  obtain ⟨i, _, rfl⟩ := hv
  rfl
theorem rowL_rep (k : Nat) : rowL (fun _ => 0) k = List.replicate k (.int .i64 0) := by
  apply List.ext_getElem?
  intro j
  by_cases hk : j < k
  · rw [rowL_get _ hk]; simp [hk]
  · rw [List.getElem?_eq_none (by rw [rowL_len]; omega), List.getElem?_eq_none (by simp; omega)]

/-- A slice that holds a row of limbs, in a block from base on. -/
def Row (W : World) (base : Nat) (v : Value) (f : Nat → Nat) (k : Nat) : Prop := W.ownsRow base 3 1 v k (rowL f k)
/-- A slice that holds the limbs of a number. -/
def Mag (W : World) (v : Value) (n : Nat) : Prop := Row W 0 v (dq n) (ql n)

theorem own_below {w w' : World} {base size n : Nat} {e : TypeId} {v : Value} {xs : List Value} (h : w.ownsRow base e size v n xs) (hb : Below w.heap.size w w') : w'.ownsRow base e size v n xs :=
  h.kept (row := none) ⟨hb.os, hb.tape, hb.output, hb.size, fun k hk _ => hb.block k hk⟩ (by cases v.ownBlock <;> simp)
theorem Row.below {w w' : World} {base k : Nat} {v : Value} {f : Nat → Nat} (h : Row w base v f k) (hb : Below w.heap.size w w') : Row w' base v f k := own_below h hb
theorem Mag.below {w w' : World} {n : Nat} {v : Value} (h : Mag w v n) (hb : Below w.heap.size w w') : Mag w' v n := Row.below h hb
theorem Row.base {w : World} {b c k : Nat} {v : Value} {f : Nat → Nat} (h : Row w b v f k) (hc : c ≤ b) : Row w c v f k := by
  refine ⟨h.1, ?_⟩
  rcases h.2 with h1 | ⟨g, cap, cur, h1, h2, h3⟩
  · exact .inl h1
  · exact .inr ⟨g, cap, cur, h1, by omega, h3⟩
theorem Row.congr {w : World} {b k : Nat} {v : Value} {f g : Nat → Nat} (h : Row w b v f k) (hf : ∀ i, i < k → f i = g i) : Row w b v g k := by
  unfold Row at *; rwa [← rowL_congr hf]
theorem Row.mag {w : World} {b k n : Nat} {v : Value} {f : Nat → Nat} (h : Row w b v f k) (hn : qv f k = n) (hb : ∀ i, i < k → f i < 10000) (ht : k = 0 ∨ 0 < f (k - 1)) : Mag w v n := by
  subst hn
  unfold Mag
  rw [ql_of hb ht]
  exact (h.base (Nat.zero_le _)).congr fun i hi => (dq_qv hb hi).symm
theorem Row.magB {w : World} {b k n : Nat} {v : Value} {f : Nat → Nat} (h : Row w b v f k) (hn : qv f k = n) (hb : ∀ i, i < k → f i < 10000) (ht : k = 0 ∨ 0 < f (k - 1)) : Row w b v (dq n) (ql n) := by
  subst hn
  rw [ql_of hb ht]
  exact h.congr fun i hi => (dq_qv hb hi).symm
/-- nil, or a block. -/
theorem Row.cases {w : World} {b k : Nat} {v : Value} {f : Nat → Nat} (h : Row w b v f k) : (v = .slice none 0 0 ∧ k = 0) ∨ ∃ g cap, v = .slice (some ⟨g, 0, none⟩) k cap ∧ b ≤ g ∧ g < w.heap.size ∧ k ≤ cap ∧ cap ≤ maxLen ∧ ∀ i, i < k → w.cell? ⟨g, i, none⟩ = some (.int .i64 (f i)) := by
  have h0 := h
  rcases h.2 with h1 | ⟨g, cap, cur, h1, h2, h3, h4, h5, h6⟩
  · exact .inl h1
  · refine .inr ⟨g, cap, h1, h2, ?_, h4, h5, fun i hi => ?_⟩
    · rcases Nat.lt_or_ge g w.heap.size with h' | h'
      · exact h'
      · rw [Array.getElem?_eq_none h'] at h3; cases h3
    · subst h1
      rw [World.ownsRow.cellAt h0 i (by omega), rowL_get _ hi]
/-- The beginning of a row. -/
theorem Row.take {w : World} {b k m g cap : Nat} {f : Nat → Nat} (h : Row w b (.slice (some ⟨g, 0, none⟩) k cap) f k) (hm : m ≤ k) : Row w b (.slice (some ⟨g, 0, none⟩) m cap) f m := by
  rcases h.2 with ⟨h1, _⟩ | ⟨g', cap', cur, h1, h2, h3, h4, h5, h6, h7⟩
  · cases h1
  · simp only [Value.slice.injEq, Option.some.injEq, Addr.mk.injEq, and_true, true_and] at h1
    obtain ⟨rfl, rfl⟩ := h1
    refine ⟨by rw [rowL_len]; omega, .inr ⟨g, cap, cur, rfl, h2, h3, by omega, h5, h6, ?_⟩⟩
    rw [← rowL_take f hm, ← h7, List.take_take, Nat.mul_one, Nat.mul_one, Nat.min_eq_left hm]
theorem Mag.zero (w : World) : Mag w (.slice none 0 0) 0 := by
  unfold Mag Row
  rw [ql_zero]
  exact World.ownsRow_nil _ _ _ _
theorem Mag.len (w : World) (v : Value) (n : Nat) (h : Mag w v n) : ∃ po cap, v = .slice po (ql n) cap := by
  rcases Row.cases h with ⟨h1, h2⟩ | ⟨g, cap, h1, _⟩
  · exact ⟨none, 0, by rw [h1, h2]⟩
  · exact ⟨_, _, h1⟩

/-- An integer of the reference. -/
def Big (W : World) (V : Value) (s : Bool) (n : Nat) : Prop := ∃ v, V = .agg #[.bool s, v] ∧ Mag W v n
theorem Big.below {w w' : World} {n : Nat} {s : Bool} {v : Value} (h : Big w v s n) (hb : Below w.heap.size w w') : Big w' v s n := by
  obtain ⟨u, h1, h2⟩ := h
  exact ⟨u, h1, h2.below hb⟩
end Go.Proofs.YtjemolaobhlapaaGreatDoor

namespace Go.Proofs.YtjemolaobhlapaaGreatDoor
open Go.RowKit
set_option maxRecDepth 100000

theorem rret_bool {a b : Bool} (h : a = b) : Ending.returned (.bool a) = .returned (.bool b) := by rw [h]
theorem rret_int {k : IntKind} {a b : Int} (h : a = b) : Ending.returned (.int k a) = .returned (.int k b) := by rw [h]

theorem rWhen_any (b : Bool) (n : Int) (w : World) (r : Int) (hr : (if b = true then n else 0) = r) :
    Calls Tryz.prog 65 #[.bool b, .int .i64 n] w fun e w' => e = .returned (.int .i64 r) ∧ w = w' := by
  subst hr
  cases b
  all_goals
    go_enter Tryz.func65, Tryz.ntmps65
    go_wp2
    go_ret
    exact ⟨rfl, rfl⟩

theorem rIsDigit_any (c : Nat) (w : World) (b : Bool) (hb : (decide (48 ≤ c) && decide (c ≤ 57)) = b) :
    Calls Tryz.prog 111 #[.int .u8 c] w fun e w' => e = .returned (.bool b) ∧ w = w' := by
  subst hb
  go_enter Tryz.func111, Tryz.ntmps111
  go_wp2
  all_goals
    go_ret
    exact ⟨rret_bool (by rw [Bool.eq_iff_iff]; simp; omega), rfl⟩

/-- The first error of a list. -/
def firstE : List Int → Int
  | [] => 0
  | e :: l => if e = 0 then firstE l else e
theorem firstE_drop {l : List Int} {k : Nat} (h : k < l.length) : firstE (l.drop k) = if l.getD k 0 = 0 then firstE (l.drop (k + 1)) else l.getD k 0 := by
  rw [List.drop_eq_getElem_cons h]
  simp [firstE, h]
set_option maxHeartbeats 1000000 in
theorem rFirst_any (l : List Int) (G : Nat) (w : World) (hl : l.length ≤ 8) (hG : ∀ j, j < l.length → w.cell? ⟨G, j, none⟩ = some (.int .i64 (l.getD j 0))) (r : Int) (hr : firstE l = r) :
    Calls Tryz.prog 81 #[.slice (some ⟨G, 0, none⟩) l.length l.length] w fun e w' => e = .returned (.int .i64 r) ∧ w = w' := by
  have HR := Lib.hid (show firstE (l.drop 0) = r by simpa using hr)
  have HG := Lib.hid hG
  have HD := Lib.hid (fun k => @firstE_drop l k)
  have HN := Lib.hid (fun k (h : l.length ≤ k) => show firstE (l.drop k) = 0 by rw [List.drop_eq_nil_of_le h]; rfl)
  obtain ⟨n, hn⟩ : ∃ n, l.length = n := ⟨_, rfl⟩
  rw [hn] at hl HG HD HN ⊢
  clear hG hr hn
  go_enter Tryz.func81, Tryz.ntmps81
  go_wp2
  go_loop [3] (fun x => ∃ k : Nat, k ≤ n ∧ x = .int .i64 k ∧ Hid (firstE (l.drop k) = r)) (fun x => n - (intOf x).toNat)
  case atStart => exact ⟨0, Nat.zero_le _, rfl, HR⟩
  case round =>
    clear HR
    obtain ⟨k, hk, rfl, HK⟩ := hrel
    by_cases hlt : k < n
    · have hc := HG.out k hlt
      have hd := HD.out k hlt
      rw [HK.out] at hd
      obtain ⟨x, hx⟩ : ∃ x, l.getD k 0 = x := ⟨_, rfl⟩
      rw [hx] at hc hd
      by_cases h0 : x = 0
      · subst h0
        have HE := Lib.hid (show firstE (l.drop (k + 1)) = r by rw [hd, if_pos rfl])
        clear hd hx
        go_wp2
        go_round
        case rel => exact ⟨k + 1, by omega, by go_num, HE⟩
        case measure => simp [intOf]; omega
      · have HE := Lib.hid (show r = x by rw [hd, if_neg h0])
        have h1 : (x != 0) = true := by simpa using h0
        clear hd hx h0
        go_wp2
        go_ret
        exact ⟨rret_int HE.out.symm, rfl⟩
    · have HE := Lib.hid (show r = 0 by rw [← HK.out]; exact HN.out k (by omega))
      go_wp2
      go_ret
      exact ⟨rret_int HE.out.symm, rfl⟩

set_option maxHeartbeats 1000000 in
theorem rLimb_any (f : Nat → Nat) (k : Nat) (v : Value) (b : Nat) (w : World) (hv : Row w b v f k) (i : Nat) (hi : i < 1000000) (x : Nat) (hx : (if i < k then f i else 0) = x) :
    Calls Tryz.prog 141 #[v, .int .i64 i] w fun e w' => e = .returned (.int .i64 x) ∧ w = w' := by
  rcases hv.cases with ⟨rfl, rfl⟩ | ⟨g, cap, rfl, _, _, _, _, hc⟩
  · rw [if_neg (by omega)] at hx
    subst hx
    have hd : decide ((i : Int) < 0) = false := by simp
    clear hv
    go_enter Tryz.func141, Tryz.ntmps141
    go_wp2
    go_ret
    exact ⟨rfl, rfl⟩
  · clear hv
    by_cases hlt : i < k
    · rw [if_pos hlt] at hx
      have c := hc i hlt
      rw [hx] at c
      clear hc hx
      go_enter Tryz.func141, Tryz.ntmps141
      go_wp2
      go_ret
      exact ⟨rfl, rfl⟩
    · rw [if_neg hlt] at hx
      subst hx
      clear hc
      go_enter Tryz.func141, Tryz.ntmps141
      go_wp2
      go_ret
      exact ⟨rfl, rfl⟩
end Go.Proofs.YtjemolaobhlapaaGreatDoor

namespace Go.Proofs.YtjemolaobhlapaaGreatDoor
open Go.RowKit
set_option maxRecDepth 100000

theorem trimQ_step {f : Nat → Nat} {k m : Nat} (h0 : f (m - 1) = 0) (h : ∀ i, m ≤ i → i < k → f i = 0) : ∀ i, m - 1 ≤ i → i < k → f i = 0 := by
  intro i h1 h2
  by_cases e : i = m - 1
  · subst e; exact h0
  · exact h i (by omega) h2
/-- Two new blocks of integers. -/
structure Bg2 (w0 : World) (B : Nat) (a b c d : Value) (w : World) : Prop where
  b0 : BlockIs w B 74 #[a, b]
  b1 : BlockIs w (B + 1) 74 #[c, d]
  bl : Below B w0 w
theorem Bg2.start {w W : World} {B : Nat} {a b c d : Value} (hB : w.heap.size = B) (hW : (w.alloc (.cells #[a, b] 74)).alloc (.cells #[c, d] 74) = W) : Bg2 w B a b c d W := by
  rw [← hW, ← hB]
  refine ⟨(BlockIs.new w _ _).alloc _, ?_, ((Below.refl _ _).alloc (Nat.le_refl _) _).alloc (by simp) _⟩
  have := BlockIs.new (w.alloc (.cells #[a, b] 74)) 74 #[c, d]
  rwa [World.size_alloc] at this
theorem Row.start {w W : World} {B b k : Nat} {v : Value} {f : Nat → Nat} (h : Row w b v f k) (hB : w.heap.size = B) (hb : Below B w W) : Row W b v f k := h.below (by rw [hB]; exact hb)

theorem trim_done {w : World} {b k m n : Nat} {v : Value} {f : Nat → Nat} (h : Row w b v f m) (hf : ∀ i, i < k → f i < 10000) (hm : m ≤ k) (hn : qv f k = n) (hz : ∀ i, m ≤ i → i < k → f i = 0) (ht : m = 0 ∨ 0 < f (m - 1)) : Row w b v (dq n) (ql n) :=
  h.magB (by rw [← hn]; exact (qv_cut hm hz).symm) (fun i hi => hf i (by omega)) ht
theorem trim_pos {k m n : Nat} {f : Nat → Nat} (hm : m ≤ k) (hn : qv f k = n) (hz : ∀ i, m ≤ i → i < k → f i = 0) (h0 : 0 < m) (ht : 0 < f (m - 1)) : n ≠ 0 := by
  rw [← hn, qv_cut hm hz]
  obtain ⟨j, rfl⟩ : ∃ j, m = j + 1 := ⟨m - 1, by omega⟩
  rw [Nat.add_sub_cancel] at ht
  rw [qv_succ]
  have h1 := Nat.mul_pos ht (qw_pos j)
  omega
theorem infoBig (a b : Value) : (Tryz.prog.info? 74).map (·.size) = some (#[a, b] : Array Value).size := by
  show (Tryz.prog.info? 74).map (·.size) = some 2
  kernel_rfl
/-- An integer is returned out of a block. -/
theorem retBig {fn : Func} {p : Tmp} (h : fn.results = #[.cell p 74]) (tmps : Array Value) (w : World) (B : Nat) (hp : tmps.getD p undef = .pointer (some ⟨B, 0, none⟩)) {a b : Value} (hB : BlockIs w B 74 #[a, b]) :
    (results fn tmps).run Tryz.prog w = .ok (.agg #[a, b]) w :=
  results_cell_row h tmps w B 74 #[a, b] (0, 0) _ hp hB Tryz.underlying74 rfl (infoBig a b)
theorem BlockIs.two {w : World} {B : Nat} {a b c d : Value} (h : BlockIs w B 74 #[a, b]) : BlockIs ((w.setCell ⟨B, 0, none⟩ c).setCell ⟨B, 1, none⟩ d) B 74 #[c, d] := (h.set 0 c).set 1 d

set_option maxHeartbeats 2000000 in
theorem rTrim_row (s : Bool) (f : Nat → Nat) (k : Nat) (v : Value) (b : Nat) (w : World) (hv : Row w b v f k) (hk : k < 1000000) (hf : ∀ i, i < k → f i < 10000) (n : Nat) (hn : qv f k = n) (r : Bool) (hr : (s && !decide (n = 0)) = r) :
    Calls Tryz.prog 133 #[.agg #[.bool s, v]] w fun e w' => ∃ v', e = .returned (.agg #[.bool r, v']) ∧ Row w' b v' (dq n) (ql n) ∧ Below w.heap.size w w' := by
  obtain ⟨B, hB⟩ : ∃ B, w.heap.size = B := ⟨_, rfl⟩
  rcases hv.cases with ⟨rfl, rfl⟩ | ⟨g, cap, rfl, _, hg, hkc, hcm, hc⟩
  · have hn0 : n = 0 := by rw [← hn]; rfl
    subst hn0
    have hr0 : r = false := by rw [← hr]; simp
    subst hr0
    clear hv hf hn hr
    obtain ⟨W, hW⟩ : ∃ W, (w.alloc (.cells #[.bool s, .slice none 0 0] 74)).alloc (.cells #[.bool false, .slice none 0 0] 74) = W := ⟨_, rfl⟩
    have HH := Lib.hid (Bg2.start hB hW)
    have c0 := HH.out.b0.at 0
    have c1 := HH.out.b0.at 1
    have z0 := HH.out.b0.thawed 0
    have z1 := HH.out.b0.thawed 1
    have c2 := HH.out.b1.at 0
    have c3 := HH.out.b1.at 1
    have z2 := HH.out.b1.thawed 0
    have z3 := HH.out.b1.thawed 1
    go_enter Tryz.func133, Tryz.ntmps133
    go_wp2
    refine wp_loop_rounds 1 ?_
    rw [rounds_succ]
    go_wp2
    have hbl := (((HH.out.bl.setCell (p := ⟨B, 1, none⟩) (by simp) (.slice none 0 0)).setCell (p := ⟨B, 0, none⟩) (by simp) (.bool false)).setCell (p := ⟨B + 1, 0, none⟩) (by simp) (.bool false)).setCell (p := ⟨B + 1, 1, none⟩) (by simp) (.slice none 0 0)
    exact bodyPost_ret (retBig rfl _ _ (B + 1) rfl ((HH.out.b1.other _ _ (by simp)).other _ _ (by simp)).two) rfl ⟨_, rfl, by rw [ql_zero]; exact World.ownsRow_nil _ _ _ _, hB ▸ hbl⟩
  · obtain ⟨W, hW⟩ : ∃ W, (w.alloc (.cells #[.bool s, .slice (some ⟨g, 0, none⟩) k cap] 74)).alloc (.cells #[.bool false, .slice none 0 0] 74) = W := ⟨_, rfl⟩
    have HH := Lib.hid (Bg2.start hB hW)
    have hv2 := hv.start hB HH.out.bl
    rcases hv2.cases with ⟨h1, _⟩ | ⟨g2, cap2, h1, _, _, _, _, hc2⟩
    · cases h1
    simp only [Value.slice.injEq, Option.some.injEq, Addr.mk.injEq, and_true, true_and] at h1
    obtain ⟨rfl, rfl⟩ := h1
    have HV := Lib.hid hv
    have HF := Lib.hid hf
    have HN := Lib.hid hn
    have HR := Lib.hid hr
    have HC := Lib.hid hc2
    have c0 := HH.out.b0.at 0
    have c1 := HH.out.b0.at 1
    have z0 := HH.out.b0.thawed 0
    have z1 := HH.out.b0.thawed 1
    have c2 := HH.out.b1.at 0
    have c3 := HH.out.b1.at 1
    have z2 := HH.out.b1.thawed 0
    have z3 := HH.out.b1.thawed 1
    clear hv hf hn hr hc hv2 hc2
    go_enter Tryz.func133, Tryz.ntmps133
    go_wp2
    go_loop [3] (fun x => ∃ m : Nat, m ≤ k ∧ x = .int .i64 m ∧ Hid (∀ i, m ≤ i → i < k → f i = 0)) (fun x => (intOf x).toNat)
    case atStart => exact ⟨k, Nat.le_refl _, rfl, Lib.hid (fun i h1 h2 => by omega)⟩
    case round =>
      obtain ⟨m, hm, rfl, HM⟩ := hrel
      by_cases h0 : 0 < m
      · have c := HC.out (m - 1) (by omega)
        obtain ⟨x, hx⟩ : ∃ x, f (m - 1) = x := ⟨_, rfl⟩
        rw [hx] at c
        by_cases hx0 : x = 0
        · subst hx0
          have HE := Lib.hid (trimQ_step hx HM.out)
          clear hx
          go_wp2
          go_round
          case rel => exact ⟨m - 1, by omega, by congr 1; omega, HE⟩
          case measure => simp [intOf]; omega
        · have h1 : ((x : Int) == 0) = false := by simp; omega
          have HX := Lib.hid hx
          clear hx hx0
          have hq : decide (n = 0) = false := by simp; exact trim_pos hm HN.out HM.out h0 (by rw [HX.out]; simp at h1; omega)
          have hsr : s = r := by have h2 := HR.out; rw [hq] at h2; simpa using h2
          subst hsr
          clear hq
          go_wp2
          have hbl := ((HH.out.bl.setCell (p := ⟨B, 1, none⟩) (by simp) (.slice (some ⟨g, 0, none⟩) m cap)).setCell (p := ⟨B + 1, 0, none⟩) (by simp) (.bool s)).setCell (p := ⟨B + 1, 1, none⟩) (by simp) (.slice (some ⟨g, 0, none⟩) m cap)
          exact bodyPost_ret (retBig rfl _ _ (B + 1) rfl (HH.out.b1.other _ _ (by simp)).two) rfl ⟨_, rfl, trim_done ((HV.out.below (by rw [hB]; exact hbl)).take hm) HF.out hm HN.out HM.out (Or.inr (by rw [HX.out]; simp at h1; omega)), hbl⟩
      · obtain rfl : m = 0 := by omega
        have hn0 : n = 0 := by rw [← HN.out, qv_cut (Nat.zero_le _) HM.out]; rfl
        have hr0 : r = false := by rw [← HR.out, hn0]; simp
        subst hr0
        go_wp2
        have hbl := (((HH.out.bl.setCell (p := ⟨B, 1, none⟩) (by simp) (.slice (some ⟨g, 0, none⟩) 0 cap)).setCell (p := ⟨B, 0, none⟩) (by simp) (.bool false)).setCell (p := ⟨B + 1, 0, none⟩) (by simp) (.bool false)).setCell (p := ⟨B + 1, 1, none⟩) (by simp) (.slice (some ⟨g, 0, none⟩) 0 cap)
        exact bodyPost_ret (retBig rfl _ _ (B + 1) rfl ((HH.out.b1.other _ _ (by simp)).other _ _ (by simp)).two) rfl ⟨_, rfl, trim_done ((HV.out.below (by rw [hB]; exact hbl)).take hm) HF.out hm (HN.out.trans hn0) HM.out (Or.inl rfl), hbl⟩
theorem rTrim_any (s : Bool) (f : Nat → Nat) (k : Nat) (v : Value) (b : Nat) (w : World) (hv : Row w b v f k) (hk : k < 1000000) (hf : ∀ i, i < k → f i < 10000) (n : Nat) (hn : qv f k = n) (r : Bool) (hr : (s && !decide (n = 0)) = r) :
    Calls Tryz.prog 133 #[.agg #[.bool s, v]] w fun e w' => ∃ v', e = .returned (.agg #[.bool r, v']) ∧ Mag w' v' n ∧ Below w.heap.size w w' :=
  (rTrim_row s f k v b w hv hk hf n hn r hr).mono fun _ _ ⟨v', h1, h2, h3⟩ => ⟨v', h1, h2.base (Nat.zero_le _), h3⟩
end Go.Proofs.YtjemolaobhlapaaGreatDoor
