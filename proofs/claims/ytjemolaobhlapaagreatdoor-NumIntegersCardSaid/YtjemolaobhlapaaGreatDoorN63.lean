/- Fractions as rational numbers: sum, difference, product, quotient of two fractions' numerals. -/
import Derived.Test.YtjemolaobhlapaaGreatDoorN52
import Derived.Test.YtjemolaobhlapaaGreatDoorN55
import Derived.Test.YtjemolaobhlapaaGreatDoorN60
set_option linter.unusedSimpArgs false
set_option linter.unusedVariables false
namespace Go.Proofs.YtjemolaobhlapaaGreatDoor
open Go.RowKit
set_option maxRecDepth 100000

/-- The numeral of a rational number. -/
def rnum (x : Rat) : ByteArray := bs (ratio (isNeg x.num) x.num.natAbs false x.den)
/-- Both parts of at most 120 digits. -/
structure FitsR (x : Rat) : Prop where
  top : Fits x.num
  bot : Lib.nDigits x.den ≤ 120
theorem FitsR.rat {x : Rat} (h : FitsR x) : Rat2 (isNeg x.num) x.num.natAbs x.den := by
  refine ⟨h.top.num, ⟨(fun h => by cases h), h.bot⟩, ?_⟩
  unfold realE
  rw [if_neg]
  rintro (h1 | h1 | h1)
  · exact x.den_nz h1
  · cases h1
  · exact h1 x.reduced
/-- What an operation answers whose result is z. -/
def finQ (z : Rat) : ByteArray × Int := finR (isNeg z.num) z.num.natAbs z.den
theorem finQ_ok {z : Rat} (h : FitsR z) : finQ z = (rnum z, 0) := by
  unfold finQ finR
  rw [if_neg (by have := h.top; have := h.bot; unfold Fits at *; omega)]; rfl
theorem finQ_err {z : Rat} (h : ¬ FitsR z) : finQ z = (⟨#[]⟩, 4) := by
  unfold finQ finR
  rw [if_pos]
  by_cases h1 : 120 < Lib.nDigits z.num.natAbs
  · exact Or.inl h1
  · by_cases h2 : 120 < Lib.nDigits z.den
    · exact Or.inr h2
    · exact absurd ⟨by unfold Fits; omega, by omega⟩ h

theorem sign_den (z : Int) (d : Nat) : (isNeg z && !decide (z.natAbs * d = 0)) = isNeg (z * d) := by
  have h := sign_mul z (d : Int)
  rw [Int.natAbs_natCast] at h
  rw [← h]
  have : isNeg (d : Int) = false := decide_eq_false (by omega)
  rw [this]
  cases isNeg z <;> rfl
theorem mk_top (n : Int) (d : Nat) (hd : d ≠ 0) : n.natAbs / Nat.gcd n.natAbs d = (mkRat n d).num.natAbs := by
  rw [Rat.num_mkRat, if_neg hd, Nat.gcd_comm]
  have hdv : ((Nat.gcd d n.natAbs : Nat) : Int) ∣ n := Int.ofNat_dvd_left.2 (Nat.gcd_dvd_right _ _)
  obtain ⟨k, hk⟩ := hdv
  have hg : 0 < Nat.gcd d n.natAbs := Nat.gcd_pos_of_pos_left _ (by omega)
  obtain ⟨g, hgg⟩ : ∃ g, Nat.gcd d n.natAbs = g := ⟨_, rfl⟩
  rw [hgg] at hk hg ⊢
  rw [hk, Int.mul_ediv_cancel_left _ (by omega), Int.natAbs_mul, Int.natAbs_natCast, Nat.mul_div_cancel_left _ hg]
theorem mk_bot (n : Int) (d : Nat) (hd : d ≠ 0) : d / Nat.gcd n.natAbs d = (mkRat n d).den := by
  rw [Rat.den_mkRat, if_neg hd, Nat.gcd_comm]
theorem mk_sign (n : Int) (d : Nat) (hd : d ≠ 0) : ((isNeg n != false) && !decide ((mkRat n d).num.natAbs = 0)) = isNeg (mkRat n d).num := by
  have h0 : (mkRat n d).num = 0 ↔ n = 0 := by rw [Rat.num_eq_zero, Rat.mkRat_eq_zero hd]
  have h1 : (mkRat n d).num < 0 ↔ n < 0 := by
    rw [Rat.num_mkRat, if_neg hd]
    have hdv : ((Nat.gcd d n.natAbs : Nat) : Int) ∣ n := Int.ofNat_dvd_left.2 (Nat.gcd_dvd_right _ _)
    obtain ⟨k, hk⟩ := hdv
    have hg : 0 < Nat.gcd d n.natAbs := Nat.gcd_pos_of_pos_left _ (by omega)
    obtain ⟨g, hgg⟩ : ∃ g, Nat.gcd d n.natAbs = g := ⟨_, rfl⟩
    rw [hgg] at hk hg ⊢
    rw [hk, Int.mul_ediv_cancel_left _ (by omega)]
    constructor
    · intro h; exact Int.mul_neg_of_pos_of_neg (by omega) h
    · intro h
      by_cases hk0 : k < 0
      · exact hk0
      · have := Int.mul_nonneg (show (0 : Int) ≤ g by omega) (show 0 ≤ k by omega); omega
  unfold isNeg
  by_cases h2 : n < 0
  · rw [decide_eq_true h2, decide_eq_true (h1.2 h2), decide_eq_false (by rw [Int.natAbs_eq_zero, h0]; omega)]; rfl
  · rw [decide_eq_false h2, decide_eq_false (fun h => h2 (h1.1 h))]; rfl

theorem lt_two {a b c d : Nat} (ha : a < pw 14) (hb : b < pw 14) (hc : c < pw 14) (hd : d < pw 14) : a * b + c * d < pw 29 := by
  have h1 : a * b ≤ pw 14 * pw 14 := Nat.mul_le_mul (by omega) (by omega)
  have h2 : c * d ≤ pw 14 * pw 14 := Nat.mul_le_mul (by omega) (by omega)
  have h3 : pw 14 * pw 14 + pw 14 * pw 14 < pw 29 := by decide +kernel
  omega
theorem FitsR.lt {x : Rat} (h : FitsR x) : x.num.natAbs < pw 14 ∧ x.den < pw 14 := ⟨short_lt h.top, short_lt h.bot⟩
theorem mk_lt {n : Int} {d : Nat} (hn : n.natAbs < pw 29) (hd : d < pw 29) (hd0 : d ≠ 0) : (mkRat n d).num.natAbs < pw 30 ∧ (mkRat n d).den < pw 30 := by
  rw [← mk_top n d hd0, ← mk_bot n d hd0]
  have := Nat.div_le_self n.natAbs (Nat.gcd n.natAbs d)
  have := Nat.div_le_self d (Nat.gcd n.natAbs d)
  have : pw 29 < pw 30 := by decide +kernel
  omega

theorem AddReal_rat {x y : Rat} (hx : FitsR x) (hy : FitsR y) (z : Rat) (hz : x + y = z) (res : ByteArray) (er : Int) (hr : finQ z = (res, er)) (w : World) (hm : MLen w) :
    Calls Tryz.prog 35 #[.string (rnum x), .string (rnum y)] w fun e w' => e = .returned (.tuple #[.string res, .int .i64 er]) ∧ Below w.heap.size w w' := by
  have hd0 : x.den * y.den ≠ 0 := Nat.mul_ne_zero x.den_nz y.den_nz
  obtain ⟨N, hN⟩ : ∃ N : Int, x.num * y.den + y.num * x.den = N := ⟨_, rfl⟩
  have hs := sum_int (x.num * y.den) (y.num * x.den)
  rw [Int.natAbs_mul, Int.natAbs_mul, Int.natAbs_natCast, Int.natAbs_natCast, hN] at hs
  have hz2 : mkRat N (x.den * y.den) = z := by rw [← hN, ← hz, Rat.add_def']
  have hN29 : N.natAbs < pw 29 := by
    have h1 := lt_two hx.lt.1 hy.lt.2 hy.lt.1 hx.lt.2
    have h2 : N.natAbs ≤ x.num.natAbs * y.den + y.num.natAbs * x.den := by
      rw [← hN]
      refine Nat.le_trans (Int.natAbs_add_le _ _) ?_
      rw [Int.natAbs_mul, Int.natAbs_mul, Int.natAbs_natCast, Int.natAbs_natCast]; omega
    omega
  have hD29 : x.den * y.den < pw 29 := by
    have h1 := lt_two hx.lt.2 hy.lt.2 hx.lt.2 hy.lt.2
    omega
  have hpq := mk_lt hN29 hD29 hd0
  have hP := plus_frac (isNeg x.num) (isNeg y.num) x.num.natAbs x.den y.num.natAbs y.den hx.lt.1 hx.lt.2 hy.lt.1 hy.lt.2 x.den_pos y.den_pos _ _ _ (sign_den _ _) (sign_den _ _) _ hs _ _ (mk_top N _ hd0) (mk_bot N _ hd0) _ (mk_sign N _ hd0)
  rw [hz2] at hpq hP
  exact AddReal_of _ _ res er w (calc_plus _ _ _ _ _ _ hx.rat hy.rat _ _ _ hpq.1 hpq.2 res er (fun W => finishReal_any _ _ _ hpq.1 hpq.2 W res er hr) hP w hm)

theorem neg_sign (z : Int) : ((!isNeg z) && !decide (z.natAbs = 0)) = isNeg (-z) := by
  unfold isNeg
  by_cases h1 : z < 0
  · rw [decide_eq_true h1, decide_eq_false (show ¬ z.natAbs = 0 by omega), decide_eq_false (show ¬ -z < 0 by omega)]; rfl
  · rw [decide_eq_false h1]
    by_cases h0 : z = 0
    · subst h0; rfl
    · rw [decide_eq_true (show -z < 0 by omega), decide_eq_false (show ¬ z.natAbs = 0 by omega)]; rfl

theorem SubReal_rat {x y : Rat} (hx : FitsR x) (hy : FitsR y) (z : Rat) (hz : x - y = z) (res : ByteArray) (er : Int) (hr : finQ z = (res, er)) (w : World) (hm : MLen w) :
    Calls Tryz.prog 37 #[.string (rnum x), .string (rnum y)] w fun e w' => e = .returned (.tuple #[.string res, .int .i64 er]) ∧ Below w.heap.size w w' := by
  have hd0 : x.den * y.den ≠ 0 := Nat.mul_ne_zero x.den_nz y.den_nz
  obtain ⟨N, hN⟩ : ∃ N : Int, x.num * y.den + (-y.num) * x.den = N := ⟨_, rfl⟩
  have hs := sum_int (x.num * y.den) ((-y.num) * x.den)
  rw [Int.natAbs_mul, Int.natAbs_mul, Int.natAbs_natCast, Int.natAbs_natCast, Int.natAbs_neg, hN] at hs
  have hz2 : mkRat N (x.den * y.den) = z := by rw [← hN, ← hz, Rat.sub_def', Int.neg_mul, ← Int.sub_eq_add_neg]
  have hN29 : N.natAbs < pw 29 := by
    have h1 := lt_two hx.lt.1 hy.lt.2 hy.lt.1 hx.lt.2
    have h2 : N.natAbs ≤ x.num.natAbs * y.den + y.num.natAbs * x.den := by
      rw [← hN]
      refine Nat.le_trans (Int.natAbs_add_le _ _) ?_
      rw [Int.natAbs_mul, Int.natAbs_mul, Int.natAbs_natCast, Int.natAbs_natCast, Int.natAbs_neg]; omega
    omega
  have hD29 : x.den * y.den < pw 29 := by
    have h1 := lt_two hx.lt.2 hy.lt.2 hx.lt.2 hy.lt.2
    omega
  have hpq := mk_lt hN29 hD29 hd0
  have hsy := sign_den (-y.num) x.den
  rw [Int.natAbs_neg] at hsy
  have hP := minus_frac (isNeg x.num) (isNeg y.num) x.num.natAbs x.den y.num.natAbs y.den hx.lt.1 hx.lt.2 hy.lt.1 hy.lt.2 x.den_pos y.den_pos _ _ _ _ (neg_sign _) (sign_den _ _) hsy _ hs _ _ (mk_top N _ hd0) (mk_bot N _ hd0) _ (mk_sign N _ hd0)
  rw [hz2] at hpq hP
  exact SubReal_of _ _ res er w (calc_minus _ _ _ _ _ _ hx.rat hy.rat _ _ _ hpq.1 hpq.2 res er (fun W => finishReal_any _ _ _ hpq.1 hpq.2 W res er hr) hP w hm)

theorem MulReal_rat {x y : Rat} (hx : FitsR x) (hy : FitsR y) (z : Rat) (hz : x * y = z) (res : ByteArray) (er : Int) (hr : finQ z = (res, er)) (w : World) (hm : MLen w) :
    Calls Tryz.prog 39 #[.string (rnum x), .string (rnum y)] w fun e w' => e = .returned (.tuple #[.string res, .int .i64 er]) ∧ Below w.heap.size w w' := by
  have hd0 : x.den * y.den ≠ 0 := Nat.mul_ne_zero x.den_nz y.den_nz
  have hz2 : mkRat (x.num * y.num) (x.den * y.den) = z := by rw [← hz, Rat.mul_def']
  have hN29 : (x.num * y.num).natAbs < pw 29 := by
    have h1 := lt_two hx.lt.1 hy.lt.1 hx.lt.1 hy.lt.1
    rw [Int.natAbs_mul]; omega
  have hD29 : x.den * y.den < pw 29 := by
    have h1 := lt_two hx.lt.2 hy.lt.2 hx.lt.2 hy.lt.2
    omega
  have hpq := mk_lt hN29 hD29 hd0
  have htop := mk_top (x.num * y.num) _ hd0
  have hbot := mk_bot (x.num * y.num) _ hd0
  rw [Int.natAbs_mul] at htop hbot
  have hP := times_frac (isNeg x.num) (isNeg y.num) x.num.natAbs x.den y.num.natAbs y.den hx.lt.1 hx.lt.2 hy.lt.1 hy.lt.2 x.den_pos y.den_pos _ (sign_mul _ _) _ _ htop hbot _ (mk_sign (x.num * y.num) _ hd0)
  rw [hz2] at hpq hP
  exact MulReal_of _ _ res er w (calc_times _ _ _ _ _ _ hx.rat hy.rat _ _ _ hpq.1 hpq.2 res er (fun W => finishReal_any _ _ _ hpq.1 hpq.2 W res er hr) hP w hm)

theorem sign_sign {a b : Int} (hb : b ≠ 0) (p : Nat) (hp : p = 0 ↔ a = 0) : ((isNeg a != isNeg b) && !decide (p = 0)) = ((isNeg (a * b.sign) != false) && !decide (p = 0)) := by
  by_cases h0 : p = 0
  · rw [decide_eq_true h0]; simp
  · have ha : a ≠ 0 := fun h => h0 (hp.2 h)
    unfold isNeg
    by_cases h2 : b < 0
    · rw [Int.sign_eq_neg_one_of_neg h2, decide_eq_true h2]
      by_cases h1 : a < 0
      · rw [decide_eq_true h1, decide_eq_false (show ¬ a * -1 < 0 by omega)]; rfl
      · rw [decide_eq_false h1, decide_eq_true (show a * -1 < 0 by omega)]; rfl
    · rw [Int.sign_eq_one_of_pos (by omega), decide_eq_false h2, Int.mul_one]

theorem DivReal_rat {x y : Rat} (hx : FitsR x) (hy : FitsR y) (h0 : y ≠ 0) (z : Rat) (hz : x / y = z) (res : ByteArray) (er : Int) (hr : finQ z = (res, er)) (w : World) (hm : MLen w) :
    Calls Tryz.prog 41 #[.string (rnum x), .string (rnum y)] w fun e w' => e = .returned (.tuple #[.string res, .int .i64 er]) ∧ Below w.heap.size w w' := by
  have hy0 : y.num ≠ 0 := fun h => h0 (Rat.num_eq_zero.1 h)
  have hyn : y.num.natAbs ≠ 0 := by omega
  have hd0 : x.den * y.num.natAbs ≠ 0 := Nat.mul_ne_zero x.den_nz hyn
  obtain ⟨N, hN⟩ : ∃ N : Int, x.num * y.den * y.num.sign = N := ⟨_, rfl⟩
  have hz2 : mkRat N (x.den * y.num.natAbs) = z := by
    rw [← hN, ← hz, Rat.div_def, Rat.mul_def', Rat.num_inv, Rat.den_inv, if_neg hy0, Int.mul_assoc, Int.mul_comm (y.den : Int)]
  have hNa : N.natAbs = x.num.natAbs * y.den := by
    rw [← hN, Int.natAbs_mul, Int.natAbs_mul, Int.natAbs_natCast, Int.natAbs_sign, if_neg hy0, Nat.mul_one]
  have hN29 : N.natAbs < pw 29 := by
    have h1 := lt_two hx.lt.1 hy.lt.2 hx.lt.1 hy.lt.2
    omega
  have hD29 : x.den * y.num.natAbs < pw 29 := by
    have h1 := lt_two hx.lt.2 hy.lt.1 hx.lt.2 hy.lt.1
    omega
  have hpq := mk_lt hN29 hD29 hd0
  have htop := mk_top N _ hd0
  have hbot := mk_bot N _ hd0
  have hsg := mk_sign N _ hd0
  rw [← hN] at hsg
  rw [← sign_sign hy0 _ (by rw [hN, Int.natAbs_eq_zero, Rat.num_eq_zero, Rat.mkRat_eq_zero hd0, ← hN, Int.mul_eq_zero]; constructor
                            · rintro (h | h)
                              · exact h
                              · exact absurd (Int.sign_eq_zero_iff_zero.1 h) hy0
                            · exact Or.inl), hN] at hsg
  rw [hNa] at htop hbot
  have hP := over_frac (isNeg x.num) (isNeg y.num) x.num.natAbs x.den y.num.natAbs y.den hx.lt.1 hx.lt.2 hy.lt.1 hy.lt.2 x.den_pos y.den_pos (by omega) _ (sign_den _ _) _ _ htop hbot _ hsg
  rw [hz2] at hpq hP
  exact DivReal_of _ _ res er w (calc_over _ _ _ _ _ _ hx.rat hy.rat (by omega) _ _ _ hpq.1 hpq.2 res er (fun W => finishReal_any _ _ _ hpq.1 hpq.2 W res er hr) hP w hm)

theorem CompareReal_rat {x y : Rat} (hx : FitsR x) (hy : FitsR y) (w : World) (hm : MLen w) :
    Calls Tryz.prog 43 #[.string (rnum x), .string (rnum y)] w fun e w' => e = .returned (.tuple #[.int .i64 (cmpZ (x.num * y.den) (y.num * x.den)), .int .i64 0]) ∧ Below w.heap.size w w' := by
  have h := order_int (x.num * y.den) (y.num * x.den)
  rw [Int.natAbs_mul, Int.natAbs_mul, Int.natAbs_natCast, Int.natAbs_natCast] at h
  exact CompareReal_any _ _ _ _ _ _ hx.rat hy.rat _ _ (sign_den _ _) (sign_den _ _) _ h w hm
end Go.Proofs.YtjemolaobhlapaaGreatDoor
