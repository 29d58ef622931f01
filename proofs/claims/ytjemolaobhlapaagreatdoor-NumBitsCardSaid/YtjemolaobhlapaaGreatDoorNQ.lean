/- Long division: the plain numbers. -/
import Derived.Test.YtjemolaobhlapaaGreatDoorND
import Derived.Test.YtjemolaobhlapaaGreatDoorN12
import Derived.Outline
import Derived.WalkMore
import Derived.BigFrame
import Derived.Deep.LoopGhost
set_option linter.unusedSimpArgs false
set_option linter.unusedVariables false
namespace Go.Proofs.YtjemolaobhlapaaGreatDoor

/-! ### The estimate of a digit: R is the rest, D the divisor of u limbs, i the place -/
structure Est (R D i u : Nat) : Prop where
  hD : D < pw u
  lo : pw (u - 1) ≤ D
  u2 : 2 ≤ u
  hi : i + u ≤ 29
  hR : R < D * pw (i + 1)

theorem Est.pos {R D i u : Nat} (h : Est R D i u) : 0 < D * pw i := Nat.mul_pos (Nat.lt_of_lt_of_le (pw_pos _) h.lo) (pw_pos _)
theorem Est.hRu {R D i u : Nat} (h : Est R D i u) : R < pw (i + u + 1) := by
  refine Nat.lt_of_lt_of_le h.hR ?_
  have : D * pw (i + 1) ≤ pw u * pw (i + 1) := Nat.mul_le_mul_right _ (Nat.le_of_lt h.hD)
  rw [← pw_add, show u + (i + 1) = i + u + 1 by omega] at this
  exact this
theorem Est.high {R D i u : Nat} (h : Est R D i u) : R / pw (i + u - 1) = limb R (i + u) * 1000000000 + limb R (i + u - 1) := by
  have hu := h.u2
  rw [div_step R (i + u - 1), show i + u - 1 + 1 = i + u by omega, div_step R (i + u), Nat.div_eq_of_lt h.hRu, Nat.zero_mul, Nat.zero_add]
theorem Est.three {R D i u : Nat} (h : Est R D i u) : R / pw (i + u - 2) = R / pw (i + u - 1) * 1000000000 + limb R (i + u - 2) := by
  have hu := h.u2
  rw [div_step R (i + u - 2), show i + u - 2 + 1 = i + u - 1 by omega]
theorem Est.first {R D i u : Nat} (h : Est R D i u) : limb D (u - 1) = D / pw (u - 1) := by
  have hu := h.u2
  have := div_step D (u - 1)
  rw [show u - 1 + 1 = u by omega, Nat.div_eq_of_lt h.hD, Nat.zero_mul, Nat.zero_add] at this
  exact this.symm
theorem Est.first_pos {R D i u : Nat} (h : Est R D i u) : 0 < limb D (u - 1) := by
  rw [h.first]; exact Nat.div_pos h.lo (pw_pos _)
theorem Est.two {R D i u : Nat} (h : Est R D i u) : D / pw (u - 2) = limb D (u - 1) * 1000000000 + limb D (u - 2) := by
  have hu := h.u2
  rw [div_step D (u - 2), show u - 2 + 1 = u - 1 by omega, h.first]
theorem Est.q_lt {R D i u : Nat} (h : Est R D i u) : R / (D * pw i) < 1000000000 := by
  apply Nat.div_lt_of_lt_mul
  have := h.hR
  rw [pw_succ, ← Nat.mul_assoc] at this
  exact this
theorem Est.high_lt {R D i u : Nat} (h : Est R D i u) : R / pw (i + u - 1) < (limb D (u - 1) + 1) * 1000000000 := by
  have hu := h.u2
  apply Nat.div_lt_of_lt_mul
  refine Nat.lt_of_lt_of_le h.hR ?_
  have h1 : D < pw (u - 1) * (D / pw (u - 1) + 1) := Nat.lt_mul_div_succ D (pw_pos _)
  rw [← h.first] at h1
  have h2 : D * pw (i + 1) ≤ pw (u - 1) * (limb D (u - 1) + 1) * pw (i + 1) := Nat.mul_le_mul_right _ (Nat.le_of_lt h1)
  refine Nat.le_trans h2 (Nat.le_of_eq ?_)
  rw [show i + u - 1 = i + (u - 1) by omega, pw_add i (u - 1), pw_succ]
  ac_rfl
theorem Est.q_two {R D i u : Nat} (h : Est R D i u) : R / (D * pw i) * (D / pw (u - 2)) ≤ R / pw (i + u - 2) := by
  have hu := h.u2
  rw [Nat.le_div_iff_mul_le (pw_pos _), show i + u - 2 = (u - 2) + i by omega, pw_add]
  have h1 : D / pw (u - 2) * pw (u - 2) ≤ D := Nat.div_mul_le_self _ _
  have h2 : R / (D * pw i) * (D * pw i) ≤ R := Nat.div_mul_le_self _ _
  refine Nat.le_trans ?_ h2
  have h3 : R / (D * pw i) * (D / pw (u - 2)) * (pw (u - 2) * pw i) = R / (D * pw i) * ((D / pw (u - 2) * pw (u - 2)) * pw i) := by ac_rfl
  rw [h3]
  exact Nat.mul_le_mul_left _ (Nat.mul_le_mul_right _ h1)
/-- The estimate falls only while it is too large. -/
theorem Est.fall {R D i u d l : Nat} (h : Est R D i u) (hl : d * limb D (u - 1) + l = R / pw (i + u - 1)) (hq : R / (D * pw i) ≤ d)
    (hc : 1000000000 ≤ d ∨ l * 1000000000 + limb R (i + u - 2) < d * limb D (u - 2)) : R / (D * pw i) < d := by
  rcases hc with hc | hc
  · exact Nat.lt_of_lt_of_le h.q_lt hc
  · refine Nat.lt_of_not_le fun hd => ?_
    have e : d = R / (D * pw i) := Nat.le_antisymm hd hq
    have h2 := h.q_two
    rw [← e, h.three, h.two, ← hl, Nat.mul_add, ← Nat.mul_assoc, Nat.add_mul] at h2
    omega
/-- Where it stops it is at most one too large. -/
theorem Est.stop {R D i u d l : Nat} (h : Est R D i u) (hl : d * limb D (u - 1) + l = R / pw (i + u - 1))
    (hc : 1000000000 ≤ l ∨ (d < 1000000000 ∧ d * limb D (u - 2) ≤ l * 1000000000 + limb R (i + u - 2))) : d < 1000000000 ∧ d ≤ R / (D * pw i) + 1 := by
  have hu := h.u2
  have h1 := h.high_lt
  have hd : d < 1000000000 := by
    rcases hc with hc | hc
    · refine Nat.lt_of_not_le fun hd => ?_
      have : 1000000000 * limb D (u - 1) ≤ d * limb D (u - 1) := Nat.mul_le_mul_right _ hd
      rw [← hl] at h1
      omega
    · exact hc.1
  have hs : d * limb D (u - 2) ≤ l * 1000000000 + limb R (i + u - 2) := by
    rcases hc with hc | hc
    · have h3 := limb_lt D (u - 2)
      have h4 : d * limb D (u - 2) ≤ 999999999 * 999999999 := Nat.mul_le_mul (by omega) (by omega)
      omega
    · exact hc.2
  refine ⟨hd, ?_⟩
  have h5 : d * (D / pw (u - 2)) ≤ R / pw (i + u - 2) := by
    rw [h.three, h.two, ← hl, Nat.mul_add, ← Nat.mul_assoc, Nat.add_mul]
    omega
  rcases Nat.eq_zero_or_pos d with h0 | h0
  · rw [h0]; exact Nat.zero_le _
  · have h6 : (d - 1) * (D * pw i) ≤ R := by
      have h7 : D < pw (u - 2) * (D / pw (u - 2) + 1) := Nat.lt_mul_div_succ D (pw_pos _)
      have h8 : R / pw (i + u - 2) * pw (i + u - 2) ≤ R := Nat.div_mul_le_self _ _
      have h9 : d * D ≤ d * (pw (u - 2) * (D / pw (u - 2) + 1)) := Nat.mul_le_mul_left _ (Nat.le_of_lt h7)
      have h10 : d * D * pw i ≤ d * (pw (u - 2) * (D / pw (u - 2) + 1)) * pw i := Nat.mul_le_mul_right _ h9
      have h11 : d * (pw (u - 2) * (D / pw (u - 2) + 1)) * pw i = d * (D / pw (u - 2)) * pw (i + u - 2) + d * pw (i + u - 2) := by
        rw [show i + u - 2 = (u - 2) + i by omega, pw_add, Nat.mul_add (pw (u - 2)), Nat.mul_one, Nat.mul_add, Nat.add_mul]
        congr 1 <;> ac_rfl
      have h12 : d * (D / pw (u - 2)) * pw (i + u - 2) ≤ R := Nat.le_trans (Nat.mul_le_mul_right _ h5) h8
      have h13 : d * pw (i + u - 2) ≤ 1000000000 * pw (i + u - 2) := Nat.mul_le_mul_right _ (Nat.le_of_lt hd)
      have h14 : 1000000000 * pw (i + u - 2) = pw i * pw (u - 1) := by
        rw [← pw_add, show i + (u - 1) = i + u - 2 + 1 by omega, pw_succ, Nat.mul_comm]
      have h15 : pw i * pw (u - 1) ≤ D * pw i := by rw [Nat.mul_comm]; exact Nat.mul_le_mul_right _ h.lo
      have h16 : (d - 1) * (D * pw i) + D * pw i = d * D * pw i := by
        obtain ⟨e, rfl⟩ : ∃ e, d = e + 1 := ⟨d - 1, by omega⟩
        rw [Nat.add_sub_cancel, Nat.mul_assoc, Nat.add_mul, Nat.one_mul]
      omega
    have h17 := (Nat.le_div_iff_mul_le h.pos).2 h6
    omega
theorem twice_lt {y z : Nat} (h1 : y < (z + 1) * 1000000000) (h2 : 0 < z) : y / z < 2000000000 := by
  rw [Nat.div_lt_iff_lt_mul h2]
  omega
theorem Est.start {R D i u : Nat} (h : Est R D i u) : R / (D * pw i) ≤ R / pw (i + u - 1) / limb D (u - 1) ∧ R / pw (i + u - 1) / limb D (u - 1) < 2000000000 := by
  have hu := h.u2
  refine ⟨?_, ?_⟩
  · rw [Nat.le_div_iff_mul_le h.first_pos, Nat.le_div_iff_mul_le (pw_pos _), show i + u - 1 = (u - 1) + i by omega, pw_add, h.first]
    have h1 : D / pw (u - 1) * pw (u - 1) ≤ D := Nat.div_mul_le_self _ _
    have h2 : R / (D * pw i) * (D * pw i) ≤ R := Nat.div_mul_le_self _ _
    refine Nat.le_trans ?_ h2
    have h3 : R / (D * pw i) * (D / pw (u - 1)) * (pw (u - 1) * pw i) = R / (D * pw i) * ((D / pw (u - 1) * pw (u - 1)) * pw i) := by ac_rfl
    rw [h3]
    exact Nat.mul_le_mul_left _ (Nat.mul_le_mul_right _ h1)
  · have h1 := h.high_lt
    have h2 := h.first_pos
    exact twice_lt h1 h2

/-! ### Taking the divisor off, and putting it back -/
theorem sub_step {f : Nat → Nat} {R D d i k c x' c' : Nat} (hk : i + k < 30) (h : val f 30 + d * (D % pw k) * pw i = R + c * pw (i + k))
    (hx : x' + (d * limb D k + c) = f (i + k) + c' * 1000000000) : val (upd f (i + k) x') 30 + d * (D % pw (k + 1)) * pw i = R + c' * pw (i + k + 1) := by
  have h1 := val_upd f x' hk
  have h2 : d * (D % pw (k + 1)) * pw i = d * (D % pw k) * pw i + d * limb D k * pw (i + k) := by
    rw [mod_step, Nat.mul_add, Nat.add_mul, pw_add]
    congr 1
    ac_rfl
  have h3 : c' * pw (i + k + 1) = c' * 1000000000 * pw (i + k) := by rw [pw_succ]; ac_rfl
  have h4 : (x' + (d * limb D k + c)) * pw (i + k) = (f (i + k) + c' * 1000000000) * pw (i + k) := by rw [hx]
  rw [Nat.add_mul, Nat.add_mul, Nat.add_mul] at h4
  rw [h2, h3]
  omega
theorem sub_end {f : Nat → Nat} {R D d i u c x' t : Nat} (hD : D < pw u) (hk : i + u < 30) (h : val f 30 + d * (D % pw u) * pw i = R + c * pw (i + u))
    (hx : x' + c = f (i + u) + t * 1000000000) : val (upd f (i + u) x') 30 + d * (D * pw i) = R + t * pw (i + u + 1) := by
  have h1 := val_upd f x' hk
  rw [Nat.mod_eq_of_lt hD, Nat.mul_assoc] at h
  have h3 : t * pw (i + u + 1) = t * 1000000000 * pw (i + u) := by rw [pw_succ]; ac_rfl
  have h4 : (x' + c) * pw (i + u) = (f (i + u) + t * 1000000000) * pw (i + u) := by rw [hx]
  rw [Nat.add_mul, Nat.add_mul] at h4
  rw [h3]
  omega
theorem put_step {f : Nat → Nat} {V D i k c x' c' : Nat} (hk : i + k < 30) (h : val f 30 + c * pw (i + k) = V + D % pw k * pw i)
    (hx : x' + c' * 1000000000 = f (i + k) + limb D k + c) : val (upd f (i + k) x') 30 + c' * pw (i + k + 1) = V + D % pw (k + 1) * pw i := by
  have h1 := val_upd f x' hk
  have h2 : D % pw (k + 1) * pw i = D % pw k * pw i + limb D k * pw (i + k) := by
    rw [mod_step, Nat.add_mul, pw_add]
    congr 1
    ac_rfl
  have h3 : c' * pw (i + k + 1) = c' * 1000000000 * pw (i + k) := by rw [pw_succ]; ac_rfl
  have h4 : (x' + c' * 1000000000) * pw (i + k) = (f (i + k) + limb D k + c) * pw (i + k) := by rw [hx]
  rw [Nat.add_mul, Nat.add_mul, Nat.add_mul] at h4
  rw [h2, h3]
  omega
theorem put_end {f : Nat → Nat} {V D i u c x' t : Nat} (hD : D < pw u) (hk : i + u < 30) (h : val f 30 + c * pw (i + u) = V + D % pw u * pw i)
    (hx : x' + t * 1000000000 = f (i + u) + c) : val (upd f (i + u) x') 30 + t * pw (i + u + 1) = V + D * pw i := by
  have h1 := val_upd f x' hk
  rw [Nat.mod_eq_of_lt hD] at h
  have h3 : t * pw (i + u + 1) = t * 1000000000 * pw (i + u) := by rw [pw_succ]; ac_rfl
  have h4 : (x' + t * 1000000000) * pw (i + u) = (f (i + u) + c) * pw (i + u) := by rw [hx]
  rw [Nat.add_mul, Nat.add_mul] at h4
  rw [h3]
  omega
/-- The number of a row whose limbs from e on are zero. -/
theorem val_top {f : Nat → Nat} {e : Nat} (hb : ∀ k, k < 30 → f k < 1000000000) (hz : ∀ k, e ≤ k → k < 30 → f k = 0) (he : e ≤ 30) : val f 30 < pw e := by
  have hv : val f 30 = val f e := by
    have : ∀ m, e ≤ m → m ≤ 30 → val f m = val f e := by
      intro m
      induction m with
      | zero => intro h _; have : e = 0 := by omega
                subst this; rfl
      | succ m ih =>
        intro h h30
        by_cases e' : e = m + 1
        · subst e'; rfl
        · rw [val_succ, hz m (by omega) (by omega), ih (by omega) (by omega)]; simp
    exact this 30 he (Nat.le_refl _)
  rw [hv]
  exact val_lt fun k hk => hb k (by omega)
/-- No borrow: the digit was right. A borrow: it was one too large. -/
theorem Est.right {R D i u d v : Nat} (h : Est R D i u) (hq : R / (D * pw i) ≤ d) (hv : v + d * (D * pw i) = R) : d = R / (D * pw i) ∧ v = R % (D * pw i) := by
  have h1 : d ≤ R / (D * pw i) := (Nat.le_div_iff_mul_le h.pos).2 (by omega)
  have e : d = R / (D * pw i) := Nat.le_antisymm h1 hq
  refine ⟨e, ?_⟩
  have := Nat.div_add_mod R (D * pw i)
  rw [← e, Nat.mul_comm] at this
  omega
theorem Est.wrong {R D i u d v : Nat} (h : Est R D i u) (hq : d ≤ R / (D * pw i) + 1) (hl : v < pw (i + u + 1)) (hv : v + d * (D * pw i) = R + pw (i + u + 1)) : d = R / (D * pw i) + 1 := by
  refine Nat.le_antisymm hq (Nat.succ_le_of_lt ((Nat.div_lt_iff_lt_mul h.pos).2 ?_))
  omega
theorem Est.back {R D i u v x t : Nat} (h : Est R D i u) (hv : v + (R / (D * pw i) + 1) * (D * pw i) = R + pw (i + u + 1)) (hl : x < pw (i + u + 1)) (ht : t ≤ 1) (hx : x + t * pw (i + u + 1) = v + D * pw i) : x = R % (D * pw i) := by
  have h1 := Nat.div_add_mod R (D * pw i)
  rw [Nat.mul_comm] at h1
  rw [Nat.add_mul, Nat.one_mul] at hv
  have h2 := Nat.mod_lt R h.pos
  have h3 : D * pw i ≤ pw (i + u + 1) := by
    have : D * pw i ≤ pw u * pw i := Nat.mul_le_mul_right _ (Nat.le_of_lt h.hD)
    rw [← pw_add, Nat.add_comm u i] at this
    exact Nat.le_trans this (pw_mono (by omega))
  have h4 : t = 0 ∨ t = 1 := by omega
  rcases h4 with rfl | rfl
  · omega
  · omega

/-! ### The whole division -/
theorem rest_next (M D i : Nat) : M % (D * pw (i + 1)) % (D * pw i) = M % (D * pw i) :=
  Nat.mod_mod_of_dvd _ ⟨1000000000, by rw [pw_succ, Nat.mul_assoc]⟩
theorem digit_next (M D i : Nat) : M % (D * pw (i + 1)) / (D * pw i) = limb (M / D) i := by
  unfold limb
  rw [pw_succ, ← Nat.mul_assoc, Nat.mod_mul_right_div_self, Nat.div_div_eq_div_mul]
theorem long_start {m n : Nat} (hn : 0 < n) (hm : m < pw 30) (hn30 : n < pw 30) (hnm : n ≤ m) : len n ≤ len m ∧ m < n * pw (len m - len n + 1) ∧ m / n < pw (len m - len n + 1) := by
  have h1 : len n ≤ len m := len_le hn30 (Nat.lt_of_le_of_lt hnm (len_lt hm))
  obtain ⟨h2, h3⟩ := len_low hn30 hn
  have h4 := len_lt hm
  have h5 : m < n * pw (len m - len n + 1) := by
    refine Nat.lt_of_lt_of_le h4 ?_
    have : pw (len n - 1) * pw (len m - len n + 1) ≤ n * pw (len m - len n + 1) := Nat.mul_le_mul_right _ h3
    rw [← pw_add, show len n - 1 + (len m - len n + 1) = len m by omega] at this
    exact this
  exact ⟨h1, h5, Nat.div_lt_of_lt_mul h5⟩
/-- The scale brings no further limb to the divisor. -/
theorem scale_len {n s : Nat} (hn : 0 < n) (hn30 : n < pw 30) (hs0 : 0 < s) (hs : s * (limb n (len n - 1) + 1) ≤ 1000000000) : n * s < pw (len n) ∧ pw (len n - 1) ≤ n * s := by
  obtain ⟨h1, h2⟩ := len_low hn30 hn
  have h3 : limb n (len n - 1) = n / pw (len n - 1) := by
    have := div_step n (len n - 1)
    rw [show len n - 1 + 1 = len n by omega, Nat.div_eq_of_lt (len_lt hn30), Nat.zero_mul, Nat.zero_add] at this
    exact this.symm
  refine ⟨?_, Nat.le_trans h2 (Nat.le_mul_of_pos_right _ hs0)⟩
  have h4 : n < pw (len n - 1) * (limb n (len n - 1) + 1) := by rw [h3]; exact Nat.lt_mul_div_succ n (pw_pos _)
  have h5 : n * s < pw (len n - 1) * (limb n (len n - 1) + 1) * s := Nat.mul_lt_mul_of_pos_right h4 hs0
  have h6 : pw (len n - 1) * (limb n (len n - 1) + 1) * s = pw (len n - 1) * (s * (limb n (len n - 1) + 1)) := by ac_rfl
  have h7 : pw (len n - 1) * (s * (limb n (len n - 1) + 1)) ≤ pw (len n - 1) * 1000000000 := Nat.mul_le_mul_left _ hs
  have h8 : pw (len n) = pw (len n - 1) * 1000000000 := by
    obtain ⟨k, hk⟩ : ∃ k, len n = k + 1 := ⟨len n - 1, by omega⟩
    rw [hk, Nat.add_sub_cancel, pw_succ]
  omega
end Go.Proofs.YtjemolaobhlapaaGreatDoor

namespace Go.Proofs.YtjemolaobhlapaaGreatDoor
open Go.RowKit
set_option maxRecDepth 100000

/-- The digit of the quotient, or one more. -/
def EstPost (w : World) (q : Nat) (e : Ending) (w' : World) : Prop := ∃ d : Nat, d < 1000000000 ∧ q ≤ d ∧ d ≤ q + 1 ∧ e = .returned (.int .u64 d) ∧ Below w.heap.size w w'

theorem ret_u64 {a b : Int} (h : a = b) : Value.int .u64 a = .int .u64 b := by rw [h]

set_option maxHeartbeats 4000000 in
theorem estimate_any (R D i k : Nat) (h : Est R D i (k + 2)) (hu : len D = k + 2) (v G : Nat) (w : World) (hG : BlockIs w G 80 (magF (limb R) v)) :
    Calls Tryz.prog 194 #[.pointer (some ⟨G, 0, none⟩), .agg (mag D), .int .i64 i] w (EstPost w (R / (D * pw i))) := by
  obtain ⟨B, hB⟩ : ∃ B, w.heap.size = B := ⟨_, rfl⟩
  obtain ⟨W, hW⟩ : ∃ W, w.alloc (.cells (mag D) 80) = W := ⟨_, rfl⟩
  have hb1 : BlockIs W B 80 (magF (limb D) (k + 2)) := by rw [← hW, ← hB, ← hu]; exact BlockIs.new _ _ _
  have hg1 : BlockIs W G 80 (magF (limb R) v) := by rw [← hW]; exact hG.alloc _
  have HBL := Lib.hid (show Below B w W by rw [← hW, ← hB]; exact (Below.refl _ _).alloc (Nat.le_refl _) _)
  have h29 := h.hi
  have hi27 : i ≤ 27 := by omega
  have hk27 : k ≤ 27 := by omega
  have c30 : W.cell? ⟨B, 30, none⟩ = some (.int .i64 ((k : Int) + 2)) := (hb1.at 30).trans (magF_used _ _)
  have cf := (hb1.at (k + 1)).trans (magF_get _ _ (by omega))
  have cs := (hb1.at k).trans (magF_get _ _ (by omega))
  have g0 := (hg1.at (i + (k + 2))).trans (magF_get _ _ (by omega))
  have g1 := (hg1.at (i + (k + 1))).trans (magF_get _ _ (by omega))
  have g2 := (hg1.at (i + k)).trans (magF_get _ _ (by omega))
  have H := Lib.hid h
  have hf0 := h.first_pos
  have hf := limb_lt D (k + 1)
  have hs := limb_lt D k
  have hz0 := limb_lt R (i + (k + 2))
  have hz1 := limb_lt R (i + (k + 1))
  have hz2 := limb_lt R (i + k)
  have HH := Lib.hid h.high
  have HS := Lib.hid h.start
  obtain ⟨f1, hf1⟩ : ∃ x, limb D (k + 1) = x := ⟨_, rfl⟩
  obtain ⟨f2, hf2⟩ : ∃ x, limb D k = x := ⟨_, rfl⟩
  obtain ⟨z0, hz0e⟩ : ∃ x, limb R (i + (k + 2)) = x := ⟨_, rfl⟩
  obtain ⟨z1, hz1e⟩ : ∃ x, limb R (i + (k + 1)) = x := ⟨_, rfl⟩
  obtain ⟨z2, hz2e⟩ : ∃ x, limb R (i + k) = x := ⟨_, rfl⟩
  obtain ⟨q, hq⟩ : ∃ q, R / (D * pw i) = q := ⟨_, rfl⟩
  obtain ⟨hh, hhe⟩ : ∃ x, R / pw (i + (k + 2) - 1) = x := ⟨_, rfl⟩
  have HF := Lib.hid (fun (d l : Nat) (a : d * f1 + l = hh) (b : q ≤ d) (c : 1000000000 ≤ d ∨ l * 1000000000 + z2 < d * f2) => show q < d by
    have := H.out.fall (d := d) (l := l); rw [show k + 2 - 1 = k + 1 by omega, show k + 2 - 2 = k by omega, show i + (k + 2) - 2 = i + k by omega, hf1, hf2, hz2e, hq, hhe] at this; exact this a b c)
  have HT := Lib.hid (fun (d l : Nat) (a : d * f1 + l = hh) (c : 1000000000 ≤ l ∨ (d < 1000000000 ∧ d * f2 ≤ l * 1000000000 + z2)) => show d < 1000000000 ∧ d ≤ q + 1 by
    have := H.out.stop (d := d) (l := l); rw [show k + 2 - 1 = k + 1 by omega, show k + 2 - 2 = k by omega, show i + (k + 2) - 2 = i + k by omega, hf1, hf2, hz2e, hq, hhe] at this; exact this a c)
  rw [hf1] at cf hf
  rw [show k + 2 - 1 = k + 1 by omega, hf1] at hf0 HS
  rw [hf2] at cs hs
  rw [hhe] at HH HS
  rw [show i + (k + 2) - 1 = i + (k + 1) by omega, hz0e, hz1e] at HH
  rw [hz0e] at g0 hz0
  rw [hz1e] at g1 hz1
  rw [hz2e] at g2 hz2
  rw [hq] at HS ⊢
  clear hf1 hf2 hz0e hz1e hz2e hq hhe H h hb1 hg1 hu hG
  have hhl : hh < 1000000000000000000 := by have := HH.out; omega
  have HHH := Lib.hid HH.out
  go_enter Tryz.func194, Tryz.ntmps194
  go_wp2
  go_step3
  go_wp2
  go_quiet (fail)
  obtain ⟨n1, rfl⟩ : ∃ n, n = nq := ⟨_, rfl⟩
  go_wp2
  go_quiet (fail)
  obtain ⟨n2, rfl⟩ : ∃ n, n = nq := ⟨_, rfl⟩
  go_wp2
  go_quiet (fail)
  obtain ⟨n3, rfl⟩ : ∃ n, n = nq := ⟨_, rfl⟩
  go_wp2
  go_step3
  go_wp2
  clear g0 g1 c30 cf cs hz0 hz1
  have HBW := Lib.hid (below_dN (below_dN (below_dN HBL.out n1) n2) n3)
  have g3 : (((W.drewN n1).drewN n2).drewN n3).cell? ⟨G, i + k, none⟩ = some (.int .u32 z2) := g2
  have g4 : (((W.drewN n1).drewN n2).drewN n3).cell? ⟨G, i + (k + 2) - 2, none⟩ = some (.int .u32 z2) := by rw [show i + (k + 2) - 2 = i + k by omega]; exact g2
  clear g2 HBL
  obtain ⟨V, hV⟩ : ∃ V, ((W.drewN n1).drewN n2).drewN n3 = V := ⟨_, rfl⟩
  rw [hV] at HBW g3 g4 ⊢
  clear hV hW
  go_loopw [11, 12] (fun x y wr => wr = V ∧ ∃ d l : Nat, d < 2000000000 ∧ l < 2000000000 ∧ x = .int .u64 d ∧ y = .int .u64 l ∧ Hid (d * f1 + l = hh ∧ q ≤ d)) (fun x _ _ => (intOf x).toNat)
  case atStart =>
    refine ⟨rfl, hh / f1, hh % f1, HS.out.2, ?_, by rw [HH.out]; rfl, by rw [HH.out]; rfl, ?_, HS.out.1⟩
    · have := Nat.mod_lt hh hf0; omega
    · rw [Nat.mul_comm]; exact Nat.div_add_mod hh f1
  case round =>
    obtain ⟨rfl, d, l, hd, hl, rfl, rfl, HR⟩ := hrel
    have hm : d * f2 ≤ 1999999999 * 999999999 := Nat.mul_le_mul (by omega) (by omega)
    have hp0 : 0 ≤ (d : Int) * f2 := by omega
    have hp1 : (d : Int) * f2 < 2000000000000000000 := by omega
    clear hm
    by_cases hlb : l < 1000000000
    · have b1 : decide ((l : Int) < 1000000000) = true := by simp; omega
      by_cases hdb : d < 1000000000
      · have b2 : decide (1000000000 ≤ (d : Int)) = false := by simp; omega
        by_cases hc : (l : Int) * 1000000000 + z2 < (d : Int) * f2
        · have b3 : decide ((l : Int) * 1000000000 + z2 < (d : Int) * f2) = true := by simpa using hc
          have HQ := Lib.hid (HF.out d l HR.out.1 HR.out.2 (Or.inr (by omega)))
          have h1 : 1 ≤ d := by have := HQ.out; omega
          clear hc
          go_wp2
          go_roundw
          case rel => exact ⟨trivial, d - 1, l + f1, by omega, by omega, ret_u64 (by omega), rfl, by have := HR.out.1; obtain ⟨e, rfl⟩ : ∃ e, d = e + 1 := ⟨d - 1, by omega⟩; rw [Nat.add_sub_cancel]; rw [Nat.add_mul] at this; omega, by have := HQ.out; omega⟩
          case measure => simp [intOf]; omega
        · have b3 : decide ((l : Int) * 1000000000 + z2 < (d : Int) * f2) = false := by simpa using hc
          have HE := Lib.hid (HT.out d l HR.out.1 (Or.inr ⟨hdb, by omega⟩))
          clear hc
          go_wp2
          rw [Exit.noGoto_ret]
          go_ret
          exact ⟨d, HE.out.1, HR.out.2, HE.out.2, rfl, hB ▸ HBW.out⟩
      · have b2 : decide (1000000000 ≤ (d : Int)) = true := by simp; omega
        have HQ := Lib.hid (HF.out d l HR.out.1 HR.out.2 (Or.inl (by omega)))
        have h1 : 1 ≤ d := by omega
        clear hdb
        go_wp2
        go_roundw
        case rel => exact ⟨trivial, d - 1, l + f1, by omega, by omega, ret_u64 (by omega), rfl, by have := HR.out.1; obtain ⟨e, rfl⟩ : ∃ e, d = e + 1 := ⟨d - 1, by omega⟩; rw [Nat.add_sub_cancel]; rw [Nat.add_mul] at this; omega, by have := HQ.out; omega⟩
        case measure => simp [intOf]; omega
    · have b1 : decide ((l : Int) < 1000000000) = false := by simp; omega
      have HE := Lib.hid (HT.out d l HR.out.1 (Or.inl (by omega)))
      clear hlb
      go_wp2
      rw [Exit.noGoto_ret]
      go_ret
      exact ⟨d, HE.out.1, HR.out.2, HE.out.2, rfl, hB ▸ HBW.out⟩
end Go.Proofs.YtjemolaobhlapaaGreatDoor
