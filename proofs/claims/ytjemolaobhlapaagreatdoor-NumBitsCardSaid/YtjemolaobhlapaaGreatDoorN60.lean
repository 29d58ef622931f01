/- Integers as numerals: sums, products, order, quotient and remainder of Int; each call of the package at integers below 10^120. -/
import Derived.Test.YtjemolaobhlapaaGreatDoorN25
import Derived.Test.YtjemolaobhlapaaGreatDoorN46
import Derived.Test.YtjemolaobhlapaaGreatDoorNU
set_option linter.unusedSimpArgs false
set_option linter.unusedVariables false
namespace Go.Proofs.YtjemolaobhlapaaGreatDoor
open Go.RowKit
set_option maxRecDepth 100000

def isNeg (z : Int) : Bool := decide (z < 0)
/-- The numeral of an integer. -/
def inum (z : Int) : ByteArray := bs (numeral (isNeg z) z.natAbs)
/-- At most 120 digits. -/
def Fits (z : Int) : Prop := Lib.nDigits z.natAbs ≤ 120
theorem digits_le : ∀ (k n : Nat), n < 10 ^ (k + 1) → Lib.nDigits n ≤ k + 1
  | 0, n, h => by rw [Lib.nDigits_small (by simpa using h)]; omega
  | k + 1, n, h => by
    by_cases h1 : n < 10
    · rw [Lib.nDigits_small h1]; omega
    · rw [Lib.nDigits_big h1]
      have := digits_le k (n / 10) (by rw [Nat.pow_succ] at h; omega)
      omega
theorem Fits.of {z : Int} {k : Nat} (h : z.natAbs < 10 ^ k) (hk : k ≤ 120) : Fits z :=
  digits_le 119 _ (Nat.lt_of_lt_of_le h (Nat.pow_le_pow_right (by decide) hk))
theorem Fits.num {z : Int} (h : Fits z) : Num (isNeg z) z.natAbs := ⟨fun h1 => by
  have : z < 0 := of_decide_eq_true h1
  omega, h⟩

theorem sum_int (x y : Int) : sumS (isNeg x) (isNeg y) x.natAbs y.natAbs = (isNeg (x + y), (x + y).natAbs) := by
  unfold sumS isNeg
  by_cases hx : x < 0 <;> by_cases hy : y < 0
  · rw [decide_eq_true hx, decide_eq_true hy, if_pos rfl, Prod.mk.injEq, decide_eq_true (show x + y < 0 by omega), decide_eq_false (by omega)]
    exact ⟨rfl, by omega⟩
  · rw [decide_eq_true hx, decide_eq_false hy, if_neg (by decide)]
    by_cases h : x.natAbs < y.natAbs
    · rw [if_pos h, Prod.mk.injEq, decide_eq_false (show ¬ x + y < 0 by omega)]
      exact ⟨rfl, by omega⟩
    · rw [if_neg h, Prod.mk.injEq]
      refine ⟨?_, by omega⟩
      by_cases h0 : x + y < 0
      · rw [decide_eq_true h0, decide_eq_false (by omega)]; rfl
      · rw [decide_eq_false h0, decide_eq_true (by omega)]; rfl
  · rw [decide_eq_false hx, decide_eq_true hy, if_neg (by decide)]
    by_cases h : x.natAbs < y.natAbs
    · rw [if_pos h, Prod.mk.injEq, decide_eq_true (show x + y < 0 by omega), decide_eq_false (by omega)]
      exact ⟨rfl, by omega⟩
    · rw [if_neg h, Prod.mk.injEq, decide_eq_false (show ¬ x + y < 0 by omega)]
      exact ⟨rfl, by omega⟩
  · rw [decide_eq_false hx, decide_eq_false hy, if_pos rfl, Prod.mk.injEq, decide_eq_false (show ¬ x + y < 0 by omega)]
    exact ⟨rfl, by omega⟩

theorem sign_mul (x y : Int) : ((isNeg x != isNeg y) && !decide (x.natAbs * y.natAbs = 0)) = isNeg (x * y) := by
  rw [← Int.natAbs_mul]
  unfold isNeg
  by_cases hx : x < 0 <;> by_cases hy : y < 0
  · have := Int.mul_pos_of_neg_of_neg hx hy
    rw [decide_eq_true hx, decide_eq_true hy, decide_eq_false (show ¬ x * y < 0 by omega)]; rfl
  · by_cases h0 : y = 0
    · subst h0; rw [Int.mul_zero]; simp
    · have := Int.mul_neg_of_neg_of_pos hx (show 0 < y by omega)
      rw [decide_eq_true hx, decide_eq_false hy, decide_eq_true this, decide_eq_false (by omega)]; rfl
  · by_cases h0 : x = 0
    · subst h0; rw [Int.zero_mul]; simp
    · have := Int.mul_neg_of_pos_of_neg (show 0 < x by omega) hy
      rw [decide_eq_false hx, decide_eq_true hy, decide_eq_true this, decide_eq_false (by omega)]; rfl
  · have := Int.mul_nonneg (show 0 ≤ x by omega) (show 0 ≤ y by omega)
    rw [decide_eq_false hx, decide_eq_false hy, decide_eq_false (show ¬ x * y < 0 by omega)]; rfl

def cmpZ (x y : Int) : Int := if x = y then 0 else if x < y then -1 else 1
theorem order_int (x y : Int) : orderS (isNeg x) (isNeg y) x.natAbs y.natAbs = cmpZ x y := by
  unfold orderS isNeg cmpN cmpZ
  by_cases hx : x < 0 <;> by_cases hy : y < 0
  · rw [decide_eq_true hx, decide_eq_true hy, if_pos rfl, if_pos rfl]
    repeat' split
    all_goals first | rfl | omega
  · rw [decide_eq_true hx, decide_eq_false hy, if_pos rfl, if_neg (by decide), if_neg (by omega), if_pos (by omega)]
  · rw [decide_eq_false hx, decide_eq_true hy, if_neg (by decide), if_pos rfl, if_neg (by omega), if_neg (by omega)]
  · rw [decide_eq_false hx, decide_eq_false hy, if_neg (by decide), if_neg (by decide)]
    repeat' split
    all_goals first | rfl | omega

theorem Add_int {x y : Int} (hx : Fits x) (hy : Fits y) (z : Int) (hz : x + y = z) (hf : Fits z) (w : World) :
    Calls Tryz.prog 21 #[.string (inum x), .string (inum y)] w fun e w' => e = .returned (.tuple #[.string (inum z), .int .i64 0]) ∧ Below w.heap.size w w' := by
  subst hz
  exact Add_ok _ _ _ _ hx.num hy.num w _ _ (sum_int x y) hf
theorem Sub_int {x y : Int} (hx : Fits x) (hy : Fits y) (z : Int) (hz : x - y = z) (hf : Fits z) (w : World) :
    Calls Tryz.prog 23 #[.string (inum x), .string (inum y)] w fun e w' => e = .returned (.tuple #[.string (inum z), .int .i64 0]) ∧ Below w.heap.size w w' := by
  subst hz
  have h := sum_int x (-y)
  rw [Int.natAbs_neg, ← Int.sub_eq_add_neg] at h
  refine Sub_ok _ _ _ _ hx.num hy.num w (isNeg (-y)) ?_ _ _ h hf
  unfold isNeg
  by_cases h1 : y < 0
  · rw [decide_eq_true h1, decide_eq_false (show ¬ y.natAbs = 0 by omega), decide_eq_false (show ¬ -y < 0 by omega)]; rfl
  · rw [decide_eq_false h1]
    by_cases h0 : y = 0
    · subst h0; rfl
    · rw [decide_eq_true (show -y < 0 by omega), decide_eq_false (show ¬ y.natAbs = 0 by omega)]; rfl
theorem Mul_int {x y : Int} (hx : Fits x) (hy : Fits y) (z : Int) (hz : x * y = z) (hf : Fits z) (w : World) :
    Calls Tryz.prog 25 #[.string (inum x), .string (inum y)] w fun e w' => e = .returned (.tuple #[.string (inum z), .int .i64 0]) ∧ Below w.heap.size w w' := by
  subst hz
  unfold Fits at hf
  rw [Int.natAbs_mul] at hf
  have h := Mul_ok _ _ _ _ hx.num hy.num w _ (sign_mul x y) hf
  rw [← Int.natAbs_mul] at h
  exact h
theorem Compare_int {x y : Int} (hx : Fits x) (hy : Fits y) (w : World) :
    Calls Tryz.prog 29 #[.string (inum x), .string (inum y)] w fun e w' => e = .returned (.tuple #[.int .i64 (cmpZ x y), .int .i64 0]) ∧ Below w.heap.size w w' :=
  Compare_ok _ _ _ _ hx.num hy.num w _ (order_int x y)
theorem inum_inj {x y : Int} : inum x = inum y ↔ x = y := by
  constructor
  · intro h
    have hl : numeral (isNeg x) x.natAbs = numeral (isNeg y) y.natAbs := by
      have := congrArg (fun b : ByteArray => b.data.toList) h
      simpa only [inum, bs_list] using this
    have hd : Lib.decDigits x.natAbs = Lib.decDigits y.natAbs := by rw [← trim_numeral (isNeg x), hl, trim_numeral]
    have hn : x.natAbs = y.natAbs := by rw [← numOf_dec x.natAbs, hd, numOf_dec]
    have hs : isNeg x = isNeg y := by
      have h2 := congrArg List.length hl
      rw [hn] at h2
      unfold numeral at h2
      rw [List.length_append, List.length_append] at h2
      cases h3 : isNeg x <;> cases h4 : isNeg y <;> rw [h3, h4] at h2 <;> simp at h2 ⊢
    have h3 : x < 0 ↔ y < 0 := by simpa [isNeg] using hs
    omega
  · rintro rfl; rfl
theorem inum_pos (n : Nat) : bs (numeral false n) = inum (n : Int) := by
  unfold inum isNeg
  rw [decide_eq_false (by omega), Int.natAbs_natCast]
theorem inum_of {z : Bool} {q : Nat} (h : z = true → q ≠ 0) : bs (numeral z q) = inum (if z then -(q : Int) else q) := by
  cases z
  · exact inum_pos q
  · have := h rfl
    unfold inum isNeg
    rw [if_pos rfl, decide_eq_true (show -(q : Int) < 0 by omega), Int.natAbs_neg, Int.natAbs_natCast]

theorem DivMod_int {x y : Int} (hx : x.natAbs < 10 ^ 41) (hy : y.natAbs < 10 ^ 41) (h0 : y ≠ 0) :
    ∃ d m : Int, y * d + m = x ∧ 0 ≤ m ∧ m < y.natAbs ∧ d.natAbs ≤ x.natAbs + 1 ∧ ∀ w : World, Calls Tryz.prog 27 #[.string (inum x), .string (inum y)] w fun e w' => e = .returned (.tuple #[.string (inum d), .string (inum m), .int .i64 0]) ∧ Below w.heap.size w w' := by
  have fx : Fits x := Fits.of hx (by decide)
  have fy : Fits y := Fits.of hy (by decide)
  obtain ⟨a, ha⟩ : ∃ a, x.natAbs = a := ⟨_, rfl⟩
  obtain ⟨b, hb⟩ : ∃ b, y.natAbs = b := ⟨_, rfl⟩
  have hb0 : 0 < b := by omega
  have hk := Nat.div_add_mod a b
  have hk2 : a / b ≤ a := Nat.div_le_self _ _
  have he := Nat.mod_lt a hb0
  obtain ⟨k, hkk⟩ : ∃ k, a / b = k := ⟨_, rfl⟩
  obtain ⟨e, hee⟩ : ∃ e, a % b = e := ⟨_, rfl⟩
  obtain ⟨q, hq⟩ : ∃ q, (if (isNeg x && !decide (e = 0)) = true then k + 1 else k) = q := ⟨_, rfl⟩
  obtain ⟨r, hr⟩ : ∃ r, (if (isNeg x && !decide (e = 0)) = true then b - e else e) = r := ⟨_, rfl⟩
  obtain ⟨z, hz⟩ : ∃ z, ((isNeg x != isNeg y) && !decide (q = 0)) = z := ⟨_, rfl⟩
  have hz0 : z = true → q ≠ 0 := by
    intro h h1
    rw [← hz, h1] at h
    simp at h
  rw [hkk, hee] at hk
  rw [hkk] at hk2
  rw [hee] at he
  have hq2 : q ≤ a + 1 := by rw [← hq]; split <;> omega
  have hr2 : r < b ∧ r ≤ a + b := by
    rw [← hr]; split
    · rename_i h
      have : e ≠ 0 := by intro h1; rw [h1] at h; simp at h
      omega
    · omega
  refine ⟨if z then -(q : Int) else q, (r : Int), ?_, by omega, by omega, by split <;> omega, fun w => ?_⟩
  · have hm : (b : Int) * ((k : Int) + 1) = b * k + b := by rw [Int.mul_add, Int.mul_one]
    have hK : ((b * k : Nat) : Int) = (b : Int) * k := Int.natCast_mul b k
    have hyz : y * (if z then -(q : Int) else q) = if isNeg x then -((b : Int) * q) else (b : Int) * q := by
      by_cases hq0 : q = 0
      · subst hq0; simp
      · have hz1 : z = (isNeg x != isNeg y) := by rw [← hz, decide_eq_false hq0]; simp
        rw [hz1]
        unfold isNeg
        by_cases h1 : x < 0 <;> by_cases h2 : y < 0
        · rw [decide_eq_true h1, decide_eq_true h2, show y = -(b : Int) by omega]; simp [Int.neg_mul]
        · rw [decide_eq_true h1, decide_eq_false h2, show y = (b : Int) by omega]; simp [Int.mul_neg]
        · rw [decide_eq_false h1, decide_eq_true h2, show y = -(b : Int) by omega]; simp [Int.neg_mul, Int.mul_neg]
        · rw [decide_eq_false h1, decide_eq_false h2, show y = (b : Int) by omega]; simp
    rw [hyz, ← hq, ← hr]
    unfold isNeg
    by_cases h1 : x < 0
    · rw [decide_eq_true h1]
      by_cases h2 : e = 0
      · rw [decide_eq_true h2]; simp only [Bool.not_true, Bool.and_false, Bool.false_eq_true, if_false, if_true]; omega
      · rw [decide_eq_false h2]; simp only [Bool.not_false, Bool.and_true, if_true]; rw [Int.natCast_add, show ((1 : Nat) : Int) = 1 from rfl, hm]; omega
    · rw [decide_eq_false h1]; simp only [Bool.false_and, Bool.false_eq_true, if_false]; omega
  · have hdq : Lib.nDigits q ≤ 120 := digits_le 119 _ (by have : (10 : Nat) ^ 41 < 10 ^ 120 := by decide
                                                          show q < 10 ^ 120
                                                          omega)
    have hdr : Lib.nDigits r ≤ 120 := digits_le 119 _ (by have : (10 : Nat) ^ 41 + 10 ^ 41 < 10 ^ 120 := by decide
                                                          show r < 10 ^ 120
                                                          omega)
    have hn1 := fx.num
    have hn2 := fy.num
    rw [ha] at hn1
    rw [hb] at hn2
    have h := DivMod_ok (isNeg x) (isNeg y) a b hn1 hn2 w hb0 (fun W => divide_any a b (Nat.lt_of_lt_of_le (short_lt hn1.short) (pw_mono (by decide))) hb0 (Nat.lt_of_lt_of_le (short_lt hn2.short) (pw_mono (by decide))) W) q r z (by rw [hkk, hee, ← hq, ← hr]; split <;> rfl) hz hdq hdr
    rw [inum_of hz0, inum_pos] at h
    unfold inum
    rw [ha, hb]
    exact h
end Go.Proofs.YtjemolaobhlapaaGreatDoor
