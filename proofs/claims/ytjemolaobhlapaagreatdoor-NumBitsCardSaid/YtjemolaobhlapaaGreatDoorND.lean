/- The plain numbers behind magnitudes: limbs to the base 10^9, how many are used, and what sums, differences and products make of them. -/
import Derived.Lib.ItoaMem
import Derived.WalkKit
import Derived.Lib.Hide
import Derived.Laws.Rows
import Derived.Deep.MidRow
set_option linter.unusedSimpArgs false
set_option linter.unusedVariables false
namespace Go.Proofs.YtjemolaobhlapaaGreatDoor
theorem A1 {α : Type} {xs : List α} {i : Nat} (h : i < xs.toArray.size) : xs.toArray[i]'h = xs[i]'h := rfl
theorem A2 {α : Type} (a : α) (as : List α) (h : 0 < (a :: as).length) : (a :: as)[0]'h = a := rfl
theorem A3 {α : Type} (a : α) (as : List α) (i : Nat) (h : i + 1 < (a :: as).length) : (a :: as)[i + 1]'h = as[i]'(Nat.lt_of_succ_lt_succ h) := rfl
theorem A4 {α : Type} (l : List α) (i : Nat) (a : α) : l.toArray.setIfInBounds i a = (l.set i a).toArray := List.setIfInBounds_toArray l i a
theorem A5 {α : Type} {x : α} {xs : List α} {a : α} : (x :: xs).set 0 a = a :: xs := rfl
theorem A6 {α : Type} {x : α} {xs : List α} {i : Nat} {a : α} : (x :: xs).set (i + 1) a = x :: xs.set i a := rfl

def pw : Nat → Nat
  | 0 => 1
  | i + 1 => pw i * 1000000000

theorem pw_pos (i : Nat) : 0 < pw i := by
  induction i with
  | zero => decide
  | succ i ih => unfold pw; omega
theorem pw_succ (i : Nat) : pw (i + 1) = pw i * 1000000000 := rfl
theorem pw_mono {i j : Nat} (h : i ≤ j) : pw i ≤ pw j := by
  induction j with
  | zero => have : i = 0 := by omega
            subst this; exact Nat.le_refl _
  | succ j ih =>
    by_cases hj : i = j + 1
    · subst hj; exact Nat.le_refl _
    · have := ih (by omega); rw [pw_succ]; omega
theorem pw_add (i j : Nat) : pw (i + j) = pw i * pw j := by
  induction j with
  | zero => simp [pw]
  | succ j ih => rw [← Nat.add_assoc, pw_succ, pw_succ, ih, Nat.mul_assoc]

def limb (n i : Nat) : Nat := n / pw i % 1000000000
theorem limb_lt (n i : Nat) : limb n i < 1000000000 := Nat.mod_lt _ (by decide)
theorem limb_big {n i : Nat} (h : n < pw i) : limb n i = 0 := by
  unfold limb; rw [Nat.div_eq_of_lt h]
theorem div_step (n i : Nat) : n / pw i = n / pw (i + 1) * 1000000000 + limb n i := by
  unfold limb
  rw [pw_succ, ← Nat.div_div_eq_div_mul]
  omega
theorem mod_step (n i : Nat) : n % pw (i + 1) = n % pw i + limb n i * pw i := by
  have h1 := Nat.div_add_mod n (pw (i + 1))
  have h2 := Nat.div_add_mod n (pw i)
  have h3 := div_step n i
  rw [h3, Nat.mul_add] at h2
  rw [pw_succ] at h1 ⊢
  have h4 : pw i * (n / pw (i + 1) * 1000000000) = pw i * 1000000000 * (n / (pw i * 1000000000)) := by
    rw [pw_succ, Nat.mul_comm (n / _), Nat.mul_assoc]
  rw [h4] at h2
  have h5 : pw i * limb n i = limb n i * pw i := Nat.mul_comm _ _
  omega

def lenF : Nat → Nat → Nat
  | 0, _ => 0
  | f + 1, n => if n = 0 then 0 else lenF f (n / 1000000000) + 1
/-- How many limbs are used. -/
def len (n : Nat) : Nat := lenF 31 n

theorem lenF_all (f n : Nat) (h : n < pw f) : lenF f n ≤ f ∧ n < pw (lenF f n) ∧ (0 < n → 0 < lenF f n ∧ pw (lenF f n - 1) ≤ n) := by
  induction f generalizing n with
  | zero => simp [pw] at h; subst h; simp [lenF, pw]
  | succ f ih =>
    by_cases h0 : n = 0
    · subst h0; simp [lenF, pw]
    · have hd : n / 1000000000 < pw f := by rw [pw_succ] at h; exact Nat.div_lt_of_lt_mul (by omega)
      obtain ⟨h1, h2, h3⟩ := ih _ hd
      have e : lenF (f + 1) n = lenF f (n / 1000000000) + 1 := by simp [lenF, h0]
      rw [e]
      refine ⟨by omega, by rw [pw_succ]; omega, fun _ => ⟨by omega, ?_⟩⟩
      rw [Nat.add_sub_cancel]
      by_cases hq : n / 1000000000 = 0
      · rw [hq]
        have : lenF f 0 = 0 := by cases f <;> simp [lenF]
        rw [this]; simp [pw]; omega
      · obtain ⟨h4, h5⟩ := h3 (by omega)
        have : lenF f (n / 1000000000) = (lenF f (n / 1000000000) - 1) + 1 := by omega
        rw [this, pw_succ]; omega

theorem len_lt {n : Nat} (h : n < pw 30) : n < pw (len n) := (lenF_all 31 n (Nat.lt_of_lt_of_le h (pw_mono (by omega)))).2.1
theorem len_low {n : Nat} (h : n < pw 30) (h0 : 0 < n) : 0 < len n ∧ pw (len n - 1) ≤ n := (lenF_all 31 n (Nat.lt_of_lt_of_le h (pw_mono (by omega)))).2.2 h0
theorem len_le {n k : Nat} (h : n < pw 30) (hk : n < pw k) : len n ≤ k := by
  by_cases h0 : n = 0
  · subst h0; simp [len, lenF]
  · obtain ⟨h1, h2⟩ := len_low h (by omega)
    by_cases hc : len n ≤ k
    · exact hc
    · have := pw_mono (i := k) (j := len n - 1) (by omega)
      omega
theorem len_30 {n : Nat} (h : n < pw 30) : len n ≤ 30 := len_le h h
theorem len_zero : len 0 = 0 := by simp [len, lenF]
theorem len_eq_zero {n : Nat} (h : n < pw 30) : len n = 0 ↔ n = 0 := by
  constructor
  · intro e
    have := len_lt h
    rw [e] at this
    simp [pw] at this
    exact this
  · rintro rfl; exact len_zero
theorem lt_pw_iff {n k : Nat} (h : n < pw 30) : n < pw k ↔ len n ≤ k := by
  constructor
  · exact len_le h
  · intro hk; exact Nat.lt_of_lt_of_le (len_lt h) (pw_mono hk)
theorem limb_past {n i : Nat} (h : n < pw 30) (hi : len n ≤ i) : limb n i = 0 := limb_big ((lt_pw_iff h).2 hi)
theorem limb_top {n : Nat} (h : n < pw 30) (h0 : 0 < n) : 0 < limb n (len n - 1) := by
  obtain ⟨h1, h2⟩ := len_low h h0
  have h3 := len_lt h
  have e : len n = len n - 1 + 1 := by omega
  rw [e, pw_succ] at h3
  unfold limb
  rw [Nat.mod_eq_of_lt (Nat.div_lt_of_lt_mul (by rw [Nat.mul_comm] at h3; rw [Nat.mul_comm]; exact h3))]
  exact Nat.div_pos h2 (pw_pos _)

/-! ### The number of a row of limbs -/
def val (f : Nat → Nat) : Nat → Nat
  | 0 => 0
  | k + 1 => val f k + f k * pw k
theorem val_succ (f : Nat → Nat) (k : Nat) : val f (k + 1) = val f k + f k * pw k := rfl
theorem val_lt {f : Nat → Nat} {k : Nat} (h : ∀ i, i < k → f i < 1000000000) : val f k < pw k := by
  induction k with
  | zero => simp [val, pw]
  | succ k ih =>
    have h1 := ih fun i hi => h i (by omega)
    have h2 := h k (by omega)
    have h3 : f k * pw k ≤ 999999999 * pw k := Nat.mul_le_mul_right _ (by omega)
    unfold val; rw [pw_succ]; omega
theorem val_limb (n k : Nat) : val (limb n) k = n % pw k := by
  induction k with
  | zero => simp [val, pw, Nat.mod_one]
  | succ k ih => rw [mod_step]; simp [val, ih]
theorem val_congr {f g : Nat → Nat} {k : Nat} (h : ∀ i, i < k → f i = g i) : val f k = val g k := by
  induction k with
  | zero => rfl
  | succ k ih => simp [val, ih fun i hi => h i (by omega), h k (by omega)]
theorem limb_val {f : Nat → Nat} {k i : Nat} (h : ∀ i, i < k → f i < 1000000000) (hi : i < k) : limb (val f k) i = f i := by
  induction k with
  | zero => omega
  | succ k ih =>
    have h1 := val_lt (k := k) fun i hi => h i (by omega)
    have h2 := h k (by omega)
    by_cases e : i = k
    · subst e
      unfold limb val
      rw [Nat.add_mul_div_right _ _ (pw_pos _), Nat.div_eq_of_lt h1, Nat.zero_add, Nat.mod_eq_of_lt h2]
    · have ih' := ih (fun i hi => h i (by omega)) (by omega)
      rw [← ih', val_succ]
      unfold limb
      obtain ⟨d, rfl⟩ : ∃ d, k = i + 1 + d := ⟨k - (i + 1), by omega⟩
      have e2 : f (i + 1 + d) * pw (i + 1 + d) = (f (i + 1 + d) * pw d * 1000000000) * pw i := by
        rw [pw_add, pw_succ]; ac_rfl
      rw [e2, Nat.add_mul_div_right _ _ (pw_pos _), Nat.add_mul_mod_self_right]
theorem val_more {f : Nat → Nat} {k m : Nat} (h : ∀ i, k ≤ i → f i = 0) (hm : k ≤ m) : val f m = val f k := by
  induction m with
  | zero => have : k = 0 := by omega
            subst this; rfl
  | succ m ih =>
    by_cases e : k = m + 1
    · subst e; rfl
    · rw [val_succ, h m (by omega), ih (by omega)]; simp
def upd (f : Nat → Nat) (i x : Nat) : Nat → Nat := fun j => if j = i then x else f j
theorem upd_same (f : Nat → Nat) (i x : Nat) : upd f i x i = x := by simp [upd]
theorem upd_other (f : Nat → Nat) {i j : Nat} (x : Nat) (h : j ≠ i) : upd f i x j = f j := by simp [upd, h]
theorem val_upd (f : Nat → Nat) {i k : Nat} (x : Nat) (h : i < k) : val (upd f i x) k + f i * pw i = val f k + x * pw i := by
  induction k with
  | zero => omega
  | succ k ih =>
    by_cases e : i = k
    · subst e
      have : val (upd f i x) i = val f i := val_congr fun j hj => upd_other f x (by omega)
      simp only [val, this, upd_same]
      omega
    · have h1 := ih (by omega)
      simp only [val, upd_other f x (show k ≠ i by omega)]
      omega

/-! ### Sums and differences -/
def carry (a b i : Nat) : Nat := (a % pw i + b % pw i) / pw i
theorem carry_le (a b i : Nat) : carry a b i ≤ 1 := by
  unfold carry
  have h1 := Nat.mod_lt a (pw_pos i)
  have h2 := Nat.mod_lt b (pw_pos i)
  have : (a % pw i + b % pw i) / pw i < 2 := Nat.div_lt_of_lt_mul (by omega)
  omega
theorem carry_zero (a b : Nat) : carry a b 0 = 0 := by simp [carry, pw, Nat.mod_one]
theorem sum_step (a b i : Nat) : a / pw i + b / pw i + carry a b i = (a + b) / pw i := by
  unfold carry
  have h := pw_pos i
  conv => rhs; rw [← Nat.div_add_mod a (pw i), ← Nat.div_add_mod b (pw i)]
  have e : pw i * (a / pw i) + a % pw i + (pw i * (b / pw i) + b % pw i) = (a % pw i + b % pw i) + pw i * (a / pw i + b / pw i) := by rw [Nat.mul_add]; omega
  rw [e, Nat.add_mul_div_left _ _ h]; omega
theorem limb_sum (a b i : Nat) : limb (a + b) i = (limb a i + limb b i + carry a b i) % 1000000000 := by
  have h := sum_step a b i
  unfold limb
  rw [← h]
  omega
theorem carry_next (a b i : Nat) : carry a b (i + 1) = (limb a i + limb b i + carry a b i) / 1000000000 := by
  unfold carry
  rw [mod_step, mod_step, pw_succ, ← Nat.div_div_eq_div_mul]
  congr 1
  have e : a % pw i + limb a i * pw i + (b % pw i + limb b i * pw i) = (a % pw i + b % pw i) + pw i * (limb a i + limb b i) := by
    rw [Nat.mul_add, Nat.mul_comm (pw i), Nat.mul_comm (pw i)]; omega
  rw [e, Nat.add_mul_div_left _ _ (pw_pos i)]
  omega
def borrow (a b i : Nat) : Nat := if a % pw i < b % pw i then 1 else 0
theorem borrow_le (a b i : Nat) : borrow a b i ≤ 1 := by unfold borrow; split <;> omega
theorem borrow_zero (a b : Nat) : borrow a b 0 = 0 := by simp [borrow, pw, Nat.mod_one]
theorem borrow_next (a b i : Nat) : borrow a b (i + 1) = 1 - (limb a i + 1000000000 - limb b i - borrow a b i) / 1000000000 := by
  have h1 := Nat.mod_lt a (pw_pos i)
  have h2 := Nat.mod_lt b (pw_pos i)
  have ha := limb_lt a i
  have hb := limb_lt b i
  unfold borrow
  rw [mod_step, mod_step]
  rcases Nat.lt_trichotomy (limb a i) (limb b i) with h | h | h
  · have : (limb a i + 1) * pw i ≤ limb b i * pw i := Nat.mul_le_mul_right _ (by omega)
    rw [Nat.add_mul, Nat.one_mul] at this
    rw [if_pos (by omega)]
    split <;> omega
  · rw [h]
    split <;> split <;> omega
  · have : (limb b i + 1) * pw i ≤ limb a i * pw i := Nat.mul_le_mul_right _ (by omega)
    rw [Nat.add_mul, Nat.one_mul] at this
    rw [if_neg (by omega)]
    split <;> omega
theorem limb_diff (a b i : Nat) (h : b ≤ a) : limb (a - b) i = (limb a i + 1000000000 - limb b i - borrow a b i) % 1000000000 := by
  obtain ⟨c, rfl⟩ : ∃ c, a = b + c := ⟨a - b, by omega⟩
  rw [Nat.add_sub_cancel_left]
  have h1 := sum_step b c i
  have h2 : borrow (b + c) b i = carry b c i := by
    unfold borrow carry
    have hb := Nat.mod_lt b (pw_pos i)
    have hc := Nat.mod_lt c (pw_pos i)
    rw [Nat.add_mod]
    by_cases hs : b % pw i + c % pw i < pw i
    · rw [Nat.mod_eq_of_lt hs, if_neg (by omega), Nat.div_eq_of_lt hs]
    · have e : (b % pw i + c % pw i) = (b % pw i + c % pw i - pw i) + pw i * 1 := by omega
      rw [e, Nat.add_mul_mod_self_left, Nat.mod_eq_of_lt (by omega), Nat.add_mul_div_left _ _ (pw_pos i), Nat.div_eq_of_lt (by omega), if_pos (by omega)]
  rw [h2]
  have h3 := carry_le b c i
  have hb := limb_lt b i
  unfold limb at *
  rw [← h1]
  omega
theorem borrow_end {a b i : Nat} (h : b ≤ a) (ha : a < pw i) : borrow a b i = 0 := by
  unfold borrow
  rw [Nat.mod_eq_of_lt ha, Nat.mod_eq_of_lt (by omega), if_neg (by omega)]
theorem pw_two : pw 2 = 1000000000000000000 := by decide
end Go.Proofs.YtjemolaobhlapaaGreatDoor

namespace Go.Proofs.YtjemolaobhlapaaGreatDoor

/-! ### When the used limbs are the number's -/
theorem len_of {f : Nat → Nat} {u : Nat} (hb : ∀ k, k < 30 → f k < 1000000000) (hz : ∀ k, u ≤ k → k < 30 → f k = 0) (hu : u ≤ 30) (ht : u = 0 ∨ 0 < f (u - 1)) : len (val f 30) = u := by
  have hv : val f 30 = val f u := by
    have : ∀ m, u ≤ m → m ≤ 30 → val f m = val f u := by
      intro m
      induction m with
      | zero => intro h _; have : u = 0 := by omega
                subst this; rfl
      | succ m ih =>
        intro h h30
        by_cases e : u = m + 1
        · subst e; rfl
        · rw [val_succ, hz m (by omega) (by omega), ih (by omega) (by omega)]; simp
    exact this 30 hu (Nat.le_refl _)
  rw [hv]
  have hl : val f u < pw u := val_lt fun k hk => hb k (by omega)
  have h30 : val f u < pw 30 := Nat.lt_of_lt_of_le hl (pw_mono hu)
  have h1 := len_le h30 hl
  rcases ht with rfl | ht
  · omega
  · by_cases hu0 : u = 0
    · omega
    · have e : u = u - 1 + 1 := by omega
      have hp : pw (u - 1) ≤ val f u := by
        rw [e, val_succ, Nat.add_sub_cancel]
        have : 1 * pw (u - 1) ≤ f (u - 1) * pw (u - 1) := Nat.mul_le_mul_right _ ht
        omega
      by_cases hc : u ≤ len (val f u)
      · omega
      · have h2 := len_lt h30
        have := pw_mono (i := len (val f u)) (j := u - 1) (by omega)
        omega

/-! ### Products -/
/-- The part of a product that has been summed up after j limbs of b in round i. -/
def prodPart (a b i j : Nat) : Nat := a % pw i * b + limb a i * (b % pw j) * pw i
theorem part_zero (a b i : Nat) : prodPart a b i 0 = a % pw i * b := by simp [prodPart, pw, Nat.mod_one]
theorem part_next (a b i j : Nat) : prodPart a b i (j + 1) = prodPart a b i j + limb a i * limb b j * pw (i + j) := by
  unfold prodPart
  rw [mod_step b j, pw_add, Nat.mul_add, Nat.add_mul, Nat.add_assoc]
  congr 2
  ac_rfl
theorem part_end {a b i l : Nat} (h : b < pw l) : prodPart a b i l = a % pw (i + 1) * b := by
  unfold prodPart
  rw [Nat.mod_eq_of_lt h, mod_step, Nat.add_mul]
  congr 1
  ac_rfl
theorem prod_lt {x y z c : Nat} (hx : x < 1000000000) (hy : y < 1000000000) (hz : z < 1000000000) (hc : c < 1000000000) : x * y + z + c < 1000000000000000000 := by
  have : x * y ≤ 999999999 * 999999999 := Nat.mul_le_mul (by omega) (by omega)
  omega
theorem part_step {a b i j c : Nat} {f : Nat → Nat} (hij : i + j < 30) (h : val f 30 + c * pw (i + j) = prodPart a b i j) :
    val (upd f (i + j) ((limb a i * limb b j + f (i + j) + c) % 1000000000)) 30 + (limb a i * limb b j + f (i + j) + c) / 1000000000 * pw (i + j + 1) = prodPart a b i (j + 1) := by
  rw [part_next, ← h]
  have h1 := val_upd f ((limb a i * limb b j + f (i + j) + c) % 1000000000) hij
  generalize hs : limb a i * limb b j + f (i + j) + c = s at h1 ⊢
  have h2 : s / 1000000000 * pw (i + j + 1) = s / 1000000000 * 1000000000 * pw (i + j) := by rw [pw_succ]; ac_rfl
  have h3 : s * pw (i + j) = s / 1000000000 * 1000000000 * pw (i + j) + s % 1000000000 * pw (i + j) := by
    rw [← Nat.add_mul]; congr 1; omega
  have h4 : s * pw (i + j) = limb a i * limb b j * pw (i + j) + f (i + j) * pw (i + j) + c * pw (i + j) := by
    rw [← hs, Nat.add_mul, Nat.add_mul]
  rw [h2]
  omega

/-! ### Quotients by a limb -/
theorem div_low (n d i : Nat) (hd : 0 < d) : n / pw i / d = n / pw (i + 1) / d * 1000000000 + (n / pw (i + 1) % d * 1000000000 + limb n i) / d := by
  rw [div_step n i]
  generalize n / pw (i + 1) = q
  obtain ⟨x, y, rfl, hy⟩ : ∃ x y, q = d * x + y ∧ y < d := ⟨q / d, q % d, (Nat.div_add_mod q d).symm, Nat.mod_lt _ hd⟩
  have e1 : (d * x + y) / d = x := by rw [Nat.mul_add_div hd, Nat.div_eq_of_lt hy]; omega
  have e2 : (d * x + y) % d = y := by rw [Nat.mul_add_mod]; exact Nat.mod_eq_of_lt hy
  rw [e1, e2]
  have e : (d * x + y) * 1000000000 + limb n i = d * (x * 1000000000) + (y * 1000000000 + limb n i) := by
    rw [Nat.add_mul, Nat.mul_assoc]; omega
  rw [e, Nat.mul_add_div hd]
theorem rest_low (n d i : Nat) (hd : 0 < d) : n / pw i % d = (n / pw (i + 1) % d * 1000000000 + limb n i) % d := by
  rw [div_step n i]
  generalize n / pw (i + 1) = q
  obtain ⟨x, y, rfl, hy⟩ : ∃ x y, q = d * x + y ∧ y < d := ⟨q / d, q % d, (Nat.div_add_mod q d).symm, Nat.mod_lt _ hd⟩
  have e2 : (d * x + y) % d = y := by rw [Nat.mul_add_mod]; exact Nat.mod_eq_of_lt hy
  rw [e2]
  have e : (d * x + y) * 1000000000 + limb n i = d * (x * 1000000000) + (y * 1000000000 + limb n i) := by
    rw [Nat.add_mul, Nat.mul_assoc]; omega
  rw [e, Nat.mul_add_mod]
theorem digit_lt {r d l : Nat} (hr : r < d) (hl : l < 1000000000) : (r * 1000000000 + l) / d < 1000000000 := by
  apply Nat.div_lt_of_lt_mul
  have : (r + 1) * 1000000000 ≤ d * 1000000000 := Nat.mul_le_mul_right _ (by omega)
  omega
theorem limb_div (n d i : Nat) (hd : 0 < d) : limb (n / d) i = (n / pw (i + 1) % d * 1000000000 + limb n i) / d := by
  unfold limb
  rw [Nat.div_div_eq_div_mul, Nat.mul_comm d, ← Nat.div_div_eq_div_mul, div_low n d i hd, Nat.mul_comm (n / pw (i + 1) / d), Nat.mul_add_mod]
  exact Nat.mod_eq_of_lt (digit_lt (Nat.mod_lt _ hd) (limb_lt n i))
theorem div_past {n d u : Nat} (h : n < pw u) : n / pw u % d = 0 := by rw [Nat.div_eq_of_lt h]; simp
theorem div_first (n : Nat) : n / pw 0 = n := by simp [pw]

/-! ### Comparisons -/
theorem lt_of_limb {a b i : Nat} (he : a / pw (i + 1) = b / pw (i + 1)) (h : limb a i < limb b i) : a < b := by
  have h1 := div_step a i
  have h2 := div_step b i
  rw [he] at h1
  have h3 : a / pw i < b / pw i := by omega
  exact Nat.lt_of_div_lt_div h3
theorem div_same {a b i : Nat} (he : a / pw (i + 1) = b / pw (i + 1)) (h : limb a i = limb b i) : a / pw i = b / pw i := by
  rw [div_step a i, div_step b i, he, h]
theorem eq_of_limbs {a b : Nat} (ha : a < pw 30) (hb : b < pw 30) (h : ∀ i, i < 30 → limb a i = limb b i) : a = b := by
  have h1 := val_limb a 30
  have h2 := val_limb b 30
  rw [Nat.mod_eq_of_lt ha] at h1
  rw [Nat.mod_eq_of_lt hb] at h2
  rw [← h1, ← h2]
  exact val_congr h
end Go.Proofs.YtjemolaobhlapaaGreatDoor

namespace Go.Proofs.YtjemolaobhlapaaGreatDoor
open Go.Lib

theorem pw_ten (i : Nat) : pw i = 10 ^ (9 * i) := by
  induction i with
  | zero => rfl
  | succ i ih => rw [pw_succ, ih, Nat.mul_add, Nat.pow_add]

def isDig (c : UInt8) : Bool := decide (48 ≤ c.toNat) && decide (c.toNat ≤ 57)
theorem isDig_le {c : UInt8} (h : isDig c = true) : 48 ≤ c.toNat ∧ c.toNat ≤ 57 := by
  unfold isDig at h; simpa using h
/-- The number that digits denote. -/
def numFrom (a : Nat) (l : List UInt8) : Nat := l.foldl (fun a c => a * 10 + (c.toNat - 48)) a
def numOf (l : List UInt8) : Nat := numFrom 0 l
theorem numFrom_cons (a : Nat) (c : UInt8) (l : List UInt8) : numFrom a (c :: l) = numFrom (a * 10 + (c.toNat - 48)) l := by simp [numFrom]
theorem numFrom_eq (a : Nat) (l : List UInt8) : numFrom a l = a * 10 ^ l.length + numOf l := by
  induction l generalizing a with
  | nil => simp [numFrom, numOf]
  | cons c l ih =>
    rw [numFrom_cons, ih]
    have h2 : numOf (c :: l) = (c.toNat - 48) * 10 ^ l.length + numOf l := by rw [← ih]; simp [numOf, numFrom]
    rw [h2, List.length_cons, Nat.pow_succ, Nat.add_mul]
    have : a * 10 * 10 ^ l.length = a * (10 ^ l.length * 10) := by ac_rfl
    omega
theorem numOf_append (a b : List UInt8) : numOf (a ++ b) = numOf a * 10 ^ b.length + numOf b := by
  rw [← numFrom_eq]; unfold numOf numFrom; rw [List.foldl_append]
theorem numOf_snoc (l : List UInt8) (c : UInt8) : numOf (l ++ [c]) = numOf l * 10 + (c.toNat - 48) := by
  rw [numOf_append]; simp [numOf, numFrom]
theorem numFrom_lt {l : List UInt8} (h : ∀ c ∈ l, isDig c = true) (a : Nat) : numFrom a l < (a + 1) * 10 ^ l.length := by
  induction l generalizing a with
  | nil => simp [numFrom]
  | cons c l ih =>
    have h1 := ih (fun x hx => h x (by simp [hx])) (a * 10 + (c.toNat - 48))
    have h2 := isDig_le (h c (by simp))
    rw [numFrom_cons, List.length_cons, Nat.pow_succ]
    have h3 : (a * 10 + (c.toNat - 48) + 1) * 10 ^ l.length ≤ (a + 1) * 10 * 10 ^ l.length := Nat.mul_le_mul_right _ (by omega)
    have h4 : (a + 1) * (10 ^ l.length * 10) = (a + 1) * 10 * 10 ^ l.length := by ac_rfl
    omega
theorem numOf_lt {l : List UInt8} (h : ∀ c ∈ l, isDig c = true) : numOf l < 10 ^ l.length := by
  have := numFrom_lt h 0
  unfold numOf; omega
theorem numOf_take {l : List UInt8} (h : ∀ c ∈ l, isDig c = true) (e : Nat) : numOf (l.take e) = numOf l / 10 ^ (l.length - e) := by
  have h1 := numOf_append (l.take e) (l.drop e)
  rw [List.take_append_drop] at h1
  have h2 := numOf_lt (l := l.drop e) fun c hc => h c (List.mem_of_mem_drop hc)
  rw [h1, List.length_drop, Nat.mul_comm, Nat.mul_add_div (Nat.pow_pos (by decide))]
  rw [List.length_drop] at h2
  rw [Nat.div_eq_of_lt h2]; simp
theorem numOf_drop {l : List UInt8} (h : ∀ c ∈ l, isDig c = true) (d : Nat) : numOf (l.drop d) = numOf l % 10 ^ (l.length - d) := by
  have h1 := numOf_append (l.take d) (l.drop d)
  rw [List.take_append_drop] at h1
  have h2 := numOf_lt (l := l.drop d) fun c hc => h c (List.mem_of_mem_drop hc)
  rw [List.length_drop] at h1 h2
  rw [h1, Nat.mul_comm, Nat.mul_add_mod]
  exact (Nat.mod_eq_of_lt h2).symm
theorem numOf_chunk {l : List UInt8} (h : ∀ c ∈ l, isDig c = true) {i e : Nat} (he : e + 9 * i = l.length) : numOf ((l.take e).drop (e - 9)) = limb (numOf l) i := by
  have ht : ∀ c ∈ l.take e, isDig c = true := fun c hc => h c (List.mem_of_mem_take hc)
  rw [numOf_drop ht, numOf_take h e, List.length_take, Nat.min_eq_left (by omega)]
  unfold limb
  rw [pw_ten, show l.length - e = 9 * i by omega]
  by_cases h9 : 9 ≤ e
  · rw [show e - (e - 9) = 9 by omega]
  · rw [show e - (e - 9) = e by omega]
    have h1 := numOf_lt ht
    rw [numOf_take h e, List.length_take, Nat.min_eq_left (by omega), show l.length - e = 9 * i by omega] at h1
    have h2 : 10 ^ e ≤ 10 ^ 9 := Nat.pow_le_pow_right (by decide) (by omega)
    rw [Nat.mod_eq_of_lt h1, Nat.mod_eq_of_lt (Nat.lt_of_lt_of_le h1 h2)]
theorem num_pw {l : List UInt8} (h : ∀ c ∈ l, isDig c = true) {i : Nat} (hl : l.length ≤ 9 * i) : numOf l < pw i := by
  rw [pw_ten]
  exact Nat.lt_of_lt_of_le (numOf_lt h) (Nat.pow_le_pow_right (by decide) hl)

/-! ### The numeral of a number -/
theorem decDigits_small {u : Nat} (h : u < 10) : decDigits u = [UInt8.ofNat (48 + u)] := by rw [decDigits, dif_pos h]
theorem decDigits_big {u : Nat} (h : ¬ u < 10) : decDigits u = decDigits (u / 10) ++ [UInt8.ofNat (48 + u % 10)] := by rw [decDigits, dif_neg h]
theorem digit_byte {d : Nat} (h : d < 10) : (UInt8.ofNat (48 + d)).toNat = 48 + d := by
  rw [UInt8.toNat_ofNat']; omega
theorem decDigits_dig (u : Nat) : ∀ c ∈ decDigits u, isDig c = true := by
  induction u using Nat.strongRecOn with
  | _ u ih =>
    have hd : ∀ d, d < 10 → isDig (UInt8.ofNat (48 + d)) = true := by
      intro d hd; unfold isDig; rw [digit_byte hd]; simp; omega
    by_cases h : u < 10
    · rw [decDigits_small h]; intro c hc; rw [List.mem_singleton] at hc; subst hc; exact hd u h
    · rw [decDigits_big h]
      intro c hc
      rw [List.mem_append] at hc
      rcases hc with hc | hc
      · exact ih (u / 10) (by omega) c hc
      · simp only [List.mem_singleton] at hc; subst hc; exact hd _ (by omega)
theorem numOf_dec (u : Nat) : numOf (decDigits u) = u := by
  induction u using Nat.strongRecOn with
  | _ u ih =>
    by_cases h : u < 10
    · rw [decDigits_small h]; show 0 * 10 + _ = _; rw [digit_byte h]; omega
    · rw [decDigits_big h, numOf_snoc, ih (u / 10) (by omega), digit_byte (by omega)]; omega
theorem dec_pos (u : Nat) : 0 < (decDigits u).length := by rw [decDigits_length]; exact nDigits_pos u
theorem nDigits_limbs {n k : Nat} (h1 : pw k ≤ n) : nDigits n = 9 * k + nDigits (n / pw k) := by
  induction k generalizing n with
  | zero => simp [pw]
  | succ k ih =>
    have hb : 1000000000 ≤ n := by
      have := pw_pos k; rw [pw_succ] at h1; omega
    have hs : ∀ m, 1000000000 ≤ m → nDigits m = 9 + nDigits (m / 1000000000) := by
      intro m hm
      rw [nDigits_big (u := m) (by omega), nDigits_big (u := m / 10) (by omega), nDigits_big (u := m / 10 / 10) (by omega), nDigits_big (u := m / 10 / 10 / 10) (by omega), nDigits_big (u := m / 10 / 10 / 10 / 10) (by omega), nDigits_big (u := m / 10 / 10 / 10 / 10 / 10) (by omega), nDigits_big (u := m / 10 / 10 / 10 / 10 / 10 / 10) (by omega), nDigits_big (u := m / 10 / 10 / 10 / 10 / 10 / 10 / 10) (by omega), nDigits_big (u := m / 10 / 10 / 10 / 10 / 10 / 10 / 10 / 10) (by omega)]
      have : m / 10 / 10 / 10 / 10 / 10 / 10 / 10 / 10 / 10 = m / 1000000000 := by simp only [Nat.div_div_eq_div_mul]
      rw [this]; omega
    rw [hs n hb, ih (n := n / 1000000000) (by rw [pw_succ] at h1; exact (Nat.le_div_iff_mul_le (by decide)).2 h1), Nat.div_div_eq_div_mul, pw_succ, Nat.mul_comm 1000000000]
    omega
/-- What has been written of a number when k decimal places are left. -/
def wrote (n k : Nat) : List UInt8 := if n / 10 ^ k = 0 then [] else decDigits (n / 10 ^ k)
theorem wrote_next (n k : Nat) : wrote n k = if n / 10 ^ k = 0 then [] else wrote n (k + 1) ++ [UInt8.ofNat (48 + n / 10 ^ k % 10)] := by
  have e : n / 10 ^ (k + 1) = n / 10 ^ k / 10 := by rw [Nat.pow_succ, Nat.div_div_eq_div_mul]
  unfold wrote
  by_cases h0 : n / 10 ^ k = 0
  · rw [if_pos h0, if_pos h0]
  · rw [if_neg h0, if_neg h0, e]
    generalize n / 10 ^ k = q at h0 ⊢
    by_cases h : q < 10
    · rw [decDigits_small h, if_pos (by omega), Nat.mod_eq_of_lt h]; rfl
    · rw [decDigits_big h, if_neg (by omega)]
theorem wrote_zero {n : Nat} (h : 0 < n) : wrote n 0 = decDigits n := by
  unfold wrote; rw [Nat.pow_zero, Nat.div_one, if_neg (by omega)]
theorem wrote_none {n k : Nat} (h : n < 10 ^ k) : wrote n k = [] := by
  unfold wrote; rw [if_pos (Nat.div_eq_of_lt h)]
theorem digit_place (n i p : Nat) (hp : p < 9) : limb n i / 10 ^ p % 10 = n / 10 ^ (9 * i + p) % 10 := by
  unfold limb
  rw [pw_ten, Nat.pow_add, ← Nat.div_div_eq_div_mul]
  generalize n / 10 ^ (9 * i) = m
  have : 1000000000 = 10 ^ p * (10 * 10 ^ (8 - p)) := by
    rw [← Nat.pow_succ', ← Nat.pow_add, show p + (8 - p + 1) = 9 by omega]
  rw [this, Nat.mod_mul_right_div_self, Nat.mod_mul_right_mod]
end Go.Proofs.YtjemolaobhlapaaGreatDoor

namespace Go.Proofs.YtjemolaobhlapaaGreatDoor
open Go.RowKit

/-- The cells of a magnitude with limbs f and u of them used. -/
def magL (f : Nat → Nat) (u : Nat) : List Value := ((List.range 30).map fun i => Value.int .u32 (f i)) ++ [.int .i64 u]
abbrev magF (f : Nat → Nat) (u : Nat) : Array Value := (magL f u).toArray
/-- The cells of a number. -/
abbrev mag (n : Nat) : Array Value := magF (limb n) (len n)
def limbsL (f : Nat → Nat) : List Value := (List.range 30).map fun i => Value.int .u32 (f i)

theorem magL_len (f : Nat → Nat) (u : Nat) : (magL f u).length = 31 := by simp [magL]
theorem magF_size (f : Nat → Nat) (u : Nat) : (magF f u).size = 31 := by simp [magF, magL_len]
theorem magL_get (f : Nat → Nat) (u : Nat) {i : Nat} (h : i < 30) : (magL f u)[i]? = some (.int .u32 (f i)) := by
  unfold magL
  rw [List.getElem?_append_left (by simpa using h)]
  simp [h]
theorem magL_used (f : Nat → Nat) (u : Nat) : (magL f u)[30]? = some (.int .i64 u) := by
  unfold magL
  rw [List.getElem?_append_right (by simp)]
  simp
theorem magF_get (f : Nat → Nat) (u : Nat) {i : Nat} (h : i < 30) : (magF f u)[i]? = some (.int .u32 (f i)) := by
  unfold magF; rw [List.getElem?_toArray]; exact magL_get f u h
theorem magF_used (f : Nat → Nat) (u : Nat) : (magF f u)[30]? = some (.int .i64 u) := by
  unfold magF; rw [List.getElem?_toArray]; exact magL_used f u
theorem magF_set (f : Nat → Nat) (u : Nat) {i : Nat} (x : Nat) (h : i < 30) : (magF f u).setIfInBounds i (.int .u32 x) = magF (upd f i x) u := by
  apply Array.ext_getElem?
  intro j
  rw [Array.getElem?_setIfInBounds, magF_size]
  by_cases hj : i = j
  · subst hj
    rw [if_pos rfl, if_pos (by omega), magF_get _ _ h, upd_same]
  · rw [if_neg hj]
    by_cases h30 : j < 30
    · rw [magF_get _ _ h30, magF_get _ _ h30, upd_other _ _ (by omega)]
    · by_cases e : j = 30
      · subst e; rw [magF_used, magF_used]
      · rw [Array.getElem?_eq_none (by rw [magF_size]; omega), Array.getElem?_eq_none (by rw [magF_size]; omega)]
theorem magF_setu (f : Nat → Nat) (u v : Nat) : (magF f u).setIfInBounds 30 (.int .i64 v) = magF f v := by
  apply Array.ext_getElem?
  intro j
  rw [Array.getElem?_setIfInBounds, magF_size]
  by_cases hj : 30 = j
  · subst hj; rw [if_pos rfl, if_pos (by omega), magF_used]
  · rw [if_neg hj]
    by_cases h30 : j < 30
    · rw [magF_get _ _ h30, magF_get _ _ h30]
    · rw [Array.getElem?_eq_none (by rw [magF_size]; omega), Array.getElem?_eq_none (by rw [magF_size]; omega)]
theorem magF_congr {f g : Nat → Nat} (u : Nat) (h : ∀ i, i < 30 → f i = g i) : magF f u = magF g u := by
  unfold magF magL
  congr 2
  apply List.map_congr_left
  intro i hi
  rw [h i (by simpa using hi)]
theorem magL_one (f : Nat → Nat) (u : Nat) : ∀ v ∈ magL f u, v.oneCell' = true := by
  intro v hv
  unfold magL at hv
  simp only [List.mem_append, List.mem_map, List.mem_singleton] at hv
  rcases hv with ⟨i, _, rfl⟩ | rfl <;> rfl
theorem magF_one (f : Nat → Nat) (u : Nat) : (magF f u).all (·.oneCell') = true := all_oneCell_toArray (magL_one f u)

/-- A block that holds given cells. -/
def BlockIs (W : World) (B : Nat) (t : TypeId) (cs : Array Value) : Prop := W.heap[B]? = some (.cells cs t (0, 0))
theorem BlockIs.new (w : World) (t : TypeId) (cs : Array Value) : BlockIs (w.alloc (.cells cs t)) w.heap.size t cs := by
  show (w.heap.push _)[w.heap.size]? = _
  simp
theorem BlockIs.at {W : World} {B : Nat} {t : TypeId} {cs : Array Value} (h : BlockIs W B t cs) (i : Nat) : W.cell? ⟨B, i, none⟩ = cs[i]? := by
  unfold World.cell?
  rw [show W.heap[B]? = _ from h]
  rfl
theorem BlockIs.thawed {W : World} {B : Nat} {t : TypeId} {cs : Array Value} (h : BlockIs W B t cs) (i : Nat) : W.frozen? ⟨B, i, none⟩ = false :=
  frozen_of_row W B i cs t h
theorem BlockIs.set {W : World} {B : Nat} {t : TypeId} {cs : Array Value} (h : BlockIs W B t cs) (i : Nat) (v : Value) : BlockIs (W.setCell ⟨B, i, none⟩ v) B t (cs.setIfInBounds i v) :=
  heap_setCell_same W B i cs t v h
theorem BlockIs.other {W : World} {B : Nat} {t : TypeId} {cs : Array Value} (h : BlockIs W B t cs) (a : Addr) (v : Value) (hn : B ≠ a.block) : BlockIs (W.setCell a v) B t cs := by
  show (W.setCell a v).heap[B]? = _
  rw [heap_setCell_other W a B v hn]; exact h
theorem BlockIs.drew {W : World} {B : Nat} {t : TypeId} {cs : Array Value} (h : BlockIs W B t cs) : BlockIs W.drew B t cs := h
theorem BlockIs.below {W W' : World} {B N : Nat} {t : TypeId} {cs : Array Value} (h : BlockIs W B t cs) (hb : Below N W W') (hn : B < N) : BlockIs W' B t cs := by
  show W'.heap[B]? = _
  rw [hb.block B hn]; exact h
theorem BlockIs.alloc {W : World} {B : Nat} {t : TypeId} {cs : Array Value} (h : BlockIs W B t cs) (o : Obj) : BlockIs (W.alloc o) B t cs := by
  have hs : B < W.heap.size := by
    by_cases e : B < W.heap.size
    · exact e
    · have h' : W.heap[B]? = _ := h
      rw [Array.getElem?_eq_none (by omega)] at h'
      cases h'
  show (W.heap.push o)[B]? = _
  rw [Array.getElem?_push, if_neg (Nat.ne_of_lt hs)]; exact h
theorem BlockIs.range {W : World} {B : Nat} {t : TypeId} {cs : List Value} (h : BlockIs W B t cs.toArray) : W.rangeAt B 0 cs := by
  intro j v hv
  rw [Nat.zero_add, h.at, List.getElem?_toArray]
  exact hv
theorem BlockIs.lt {W : World} {B : Nat} {t : TypeId} {cs : Array Value} (h : BlockIs W B t cs) : B < W.heap.size := (Array.getElem?_eq_some_iff.1 (show W.heap[B]? = _ from h)).1
theorem BlockIs.row {W : World} {B : Nat} {t : TypeId} {cs : Array Value} (h : BlockIs W B t cs) (cs' : Array Value) : BlockIs (W.setRow B cs') B t cs' := setRow_heap W B cs cs' t (0, 0) h
theorem BlockIs.rowOther {W : World} {B : Nat} {t : TypeId} {cs : Array Value} (h : BlockIs W B t cs) (g : Nat) (cs' : Array Value) (hn : B ≠ g) : BlockIs (W.setRow g cs') B t cs := (setRow_other W g B cs' hn).trans h
theorem below_row {N : Nat} {w W : World} (h : Below N w W) (g : Nat) (cs : Array Value) (hn : N ≤ g) : Below N w (W.setRow g cs) :=
  h.trans ⟨rfl, rfl, rfl, by simp [World.setRow], fun k hk => setRow_other W g k _ (by omega)⟩
/-- The number in the cell of the used limbs. -/
def usedAt (W : World) (B : Nat) : Nat := match W.cell? ⟨B, 30, none⟩ with
  | some (.int _ z) => z.toNat
  | _ => 0
theorem usedAt_mag {W : World} {B : Nat} {t : TypeId} {f : Nat → Nat} {u : Nat} (h : BlockIs W B t (magF f u)) : usedAt W B = u := by
  unfold usedAt
  rw [h.at, magF_used]
  rfl
theorem BlockIs.limb {W : World} {B : Nat} {t : TypeId} {f : Nat → Nat} {u : Nat} (h : BlockIs W B t (magF f u)) {i x : Nat} {z : Int} (hi : i < 30) (hz : z = x) : BlockIs (W.setCell ⟨B, i, none⟩ (.int .u32 z)) B t (magF (upd f i x) u) := by
  subst hz; rw [← magF_set f u x hi]; exact h.set i _
theorem BlockIs.used {W : World} {B : Nat} {t : TypeId} {f : Nat → Nat} {u : Nat} (h : BlockIs W B t (magF f u)) {x : Nat} {z : Int} (hz : z = x) : BlockIs (W.setCell ⟨B, 30, none⟩ (.int .i64 z)) B t (magF f x) := by
  subst hz; rw [← magF_setu f u x]; exact h.set 30 _
theorem zeroM : (#[.int .u32 0, .int .u32 0, .int .u32 0, .int .u32 0, .int .u32 0, .int .u32 0, .int .u32 0, .int .u32 0, .int .u32 0, .int .u32 0, .int .u32 0, .int .u32 0, .int .u32 0, .int .u32 0, .int .u32 0, .int .u32 0, .int .u32 0, .int .u32 0, .int .u32 0, .int .u32 0, .int .u32 0, .int .u32 0, .int .u32 0, .int .u32 0, .int .u32 0, .int .u32 0, .int .u32 0, .int .u32 0, .int .u32 0, .int .u32 0, .int .i64 0] : Array Value) = magF (fun _ => 0) 0 := rfl
theorem BlockIs.limbs {W : World} {B : Nat} {t : TypeId} {f : Nat → Nat} {u : Nat} (h : BlockIs W B t (magF f u)) : W.rangeAt B 0 (limbsL f) := by
  intro j v hv
  rw [Nat.zero_add, h.at]
  have hj : j < 30 := by
    have := (List.getElem?_eq_some_iff.1 hv).1
    simpa [limbsL] using this
  rw [magF_get _ _ hj]
  rw [← hv]
  simp [limbsL, hj]
end Go.Proofs.YtjemolaobhlapaaGreatDoor
