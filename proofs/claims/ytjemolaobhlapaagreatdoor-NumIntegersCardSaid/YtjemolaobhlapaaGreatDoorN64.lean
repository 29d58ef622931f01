/- CheckReal of any string; Floor over rational numbers. -/
import Derived.Test.YtjemolaobhlapaaGreatDoorN63
set_option linter.unusedSimpArgs false
set_option linter.unusedVariables false
namespace Go.Proofs.YtjemolaobhlapaaGreatDoor
open Go.RowKit
set_option maxRecDepth 100000

theorem one_slash {l : List UInt8} (h : l.count 47 = 1) : ∃ X Y, l = X ++ 47 :: Y ∧ 47 ∉ X ∧ 47 ∉ Y := by
  have hm : (47 : UInt8) ∈ l := List.count_pos_iff.1 (by omega)
  obtain ⟨X, Y, rfl⟩ := List.append_of_mem hm
  rw [List.count_append, List.count_cons_self] at h
  exact ⟨X, Y, rfl, List.count_eq_zero.1 (by omega), List.count_eq_zero.1 (by omega)⟩
theorem checkS_is (l : List UInt8) : checkS l = 0 ∨ checkS l = 1 ∨ checkS l = 4 := by
  unfold checkS
  split
  · exact Or.inr (Or.inl rfl)
  · split
    · exact Or.inr (Or.inr rfl)
    · exact Or.inl rfl
theorem real_back {s : Bool} {a b : Nat} (h : Rat2 s a b) : ∃ x : Rat, FitsR x ∧ bs (ratio s a false b) = rnum x ∧ x.num.natAbs = a ∧ x.den = b := by
  have hn : (if s then -(a : Int) else a).natAbs = a := by split <;> omega
  have hg := h.gcd
  refine ⟨⟨if s then -(a : Int) else a, b, by have := h.pos; omega, by rw [hn]; exact hg⟩, ⟨?_, ?_⟩, ?_, hn, rfl⟩
  · show Lib.nDigits (if s then -(a : Int) else a).natAbs ≤ 120
    rw [hn]; exact h.top.short
  · exact h.bot.short
  · show _ = bs (ratio (isNeg (if s then -(a : Int) else a)) (if s then -(a : Int) else a).natAbs false b)
    rw [hn]
    have : isNeg (if s then -(a : Int) else a) = s := by
      unfold isNeg
      cases s
      · exact decide_eq_false (by simp)
      · have := h.top.sign rfl
        exact decide_eq_true (by rw [if_pos rfl]; omega)
    rw [this]

/-- What CheckReal says of a string: 0 where it is a rational number's numeral, else an error. -/
theorem realCheck (s : ByteArray) (hs : s.size < 4294967281) :
    (∃ x : Rat, s = rnum x ∧ FitsR x ∧ Lib.nDigits x.num.natAbs + Lib.nDigits x.den < s.size ∧ ∀ w, MLen w → Calls Tryz.prog 45 #[.string s] w fun e w' => e = .returned (.int .i64 0) ∧ Below w.heap.size w w') ∨
    (∃ r : Int, r ≠ 0 ∧ ∀ w, MLen w → Calls Tryz.prog 45 #[.string s] w fun e w' => e = .returned (.int .i64 r) ∧ Below w.heap.size w w') := by
  by_cases h1 : s.data.toList.count 47 = 1
  · obtain ⟨X, Y, hl, hX, hY⟩ := one_slash h1
    have hsb : s = bs (X ++ 47 :: Y) := by
      show s = ⟨(X ++ 47 :: Y).toArray⟩
      rw [← hl]
    have hlen : (X ++ 47 :: Y).length = s.size := by rw [← hl]; simp
    by_cases hr : (if checkS X = 0 then checkS Y else checkS X) = 0
    · have hx0 : checkS X = 0 := by
        by_cases h : checkS X = 0
        · exact h
        · rw [if_neg h] at hr; exact hr
      rw [if_pos hx0] at hr
      obtain ⟨sx, a, rfl, hna⟩ := check_back hx0
      obtain ⟨sy, b, rfl, hnb⟩ := check_back hr
      have hsr : s = bs (ratio sx a sy b) := hsb
      by_cases he : realE sy b b = realE sy b b ∧ realE sy a b = 0
      · have hsy : sy = false := by
          have := he.2
          unfold realE at this
          cases sy
          · rfl
          · rw [if_pos (by simp)] at this; cases this
        subst hsy
        have h2 : Rat2 sx a b := ⟨hna, hnb, he.2⟩
        obtain ⟨x, hf, hx, hxa, hxb⟩ := real_back h2
        refine Or.inl ⟨x, by rw [hsr, hx], hf, ?_, fun w hm => ?_⟩
        · rw [hxa, hxb, ← hlen]
          unfold numeral
          simp only [List.length_append, List.length_cons, Lib.decDigits_length]
          omega
        · rw [hsr]; exact CheckReal_ok h2 w hm
      · refine Or.inr ⟨realE sy a b, fun h => he ⟨rfl, h⟩, fun w hm => ?_⟩
        obtain ⟨m, hm1⟩ := hm.ml
        rw [hsr]
        exact CheckReal_nums sx sy a b hna hnb m w hm1 hm.pos _ rfl
    · refine Or.inr ⟨_, hr, fun w hm => ?_⟩
      obtain ⟨m, hm1⟩ := hm.ml
      rw [hsb]
      refine CheckReal_err X Y hX hY (by rw [hlen]; exact hs) _ _ _ rfl rfl rfl ?_ m w hm1
      have h3 := checkS_is X
      have h4 := checkS_is Y
      split at hr <;> rename_i h5
      · rw [if_pos h5]; omega
      · rw [if_neg h5]; omega
  · exact Or.inr ⟨1, by decide, fun w _ => CheckReal_form s h1 w⟩

theorem Floor_rat {x : Rat} (hx : FitsR x) (h60 : x.num.natAbs < 10 ^ 60) :
    ∃ d : Int, d * x.den ≤ x.num ∧ x.num < (d + 1) * x.den ∧ d.natAbs ≤ x.num.natAbs + 1 ∧ ∀ w : World, MLen w → Calls Tryz.prog 53 #[.string (rnum x)] w fun e w' => e = .returned (.tuple #[.string (inum d), .int .i64 0]) ∧ Below w.heap.size w w' := by
  obtain ⟨a, ha⟩ : ∃ a, x.num.natAbs = a := ⟨_, rfl⟩
  obtain ⟨b, hb⟩ : ∃ b, x.den = b := ⟨_, rfl⟩
  have hb0 : 0 < b := by have := x.den_pos; omega
  have hk := Nat.div_add_mod a b
  have hk2 : a / b ≤ a := Nat.div_le_self _ _
  have he := Nat.mod_lt a hb0
  obtain ⟨k, hkk⟩ : ∃ k, a / b = k := ⟨_, rfl⟩
  obtain ⟨e, hee⟩ : ∃ e, a % b = e := ⟨_, rfl⟩
  obtain ⟨q, hq⟩ : ∃ q, (if (isNeg x.num && !decide (e = 0)) = true then k + 1 else k) = q := ⟨_, rfl⟩
  obtain ⟨r, hr⟩ : ∃ r, (if (isNeg x.num && !decide (e = 0)) = true then b - e else e) = r := ⟨_, rfl⟩
  obtain ⟨z, hz⟩ : ∃ z, ((isNeg x.num != false) && !decide (q = 0)) = z := ⟨_, rfl⟩
  have hz0 : z = true → q ≠ 0 := by
    intro h h1
    rw [← hz, h1] at h
    simp at h
  rw [hkk, hee] at hk
  rw [hkk] at hk2
  rw [hee] at he
  have hq2 : q ≤ a + 1 := by rw [← hq]; split <;> omega
  have hr2 : r < b := by
    rw [← hr]; split
    · rename_i h
      have : e ≠ 0 := by intro h1; rw [h1] at h; simp at h
      omega
    · omega
  have hm : (b : Int) * ((k : Int) + 1) = b * k + b := by rw [Int.mul_add, Int.mul_one]
  have hK : ((b * k : Nat) : Int) = (b : Int) * k := Int.natCast_mul b k
  have hyz : (if z then -(q : Int) else q) * (b : Int) = if isNeg x.num then -((b : Int) * q) else (b : Int) * q := by
    by_cases hq0 : q = 0
    · subst hq0; simp
    · have hz1 : z = isNeg x.num := by rw [← hz, decide_eq_false hq0]; simp
      rw [hz1]
      cases isNeg x.num
      · simp [Int.mul_comm]
      · rw [if_pos rfl, if_pos rfl, Int.neg_mul, Int.mul_comm]
  have hmain : (if z then -(q : Int) else q) * (b : Int) + r = x.num := by
    rw [hyz, ← hq, ← hr]
    unfold isNeg
    by_cases h1 : x.num < 0
    · rw [decide_eq_true h1]
      by_cases h2 : e = 0
      · rw [decide_eq_true h2]; simp only [Bool.not_true, Bool.and_false, Bool.false_eq_true, if_false, if_true]; omega
      · rw [decide_eq_false h2]; simp only [Bool.not_false, Bool.and_true, if_true]; rw [Int.natCast_add, show ((1 : Nat) : Int) = 1 from rfl, hm]; omega
    · rw [decide_eq_false h1]; simp only [Bool.false_and, Bool.false_eq_true, if_false]; omega
  refine ⟨if z then -(q : Int) else q, ?_, ?_, by split <;> omega, fun w hmw => ?_⟩
  · rw [hb]; omega
  · rw [hb, Int.add_mul, Int.one_mul]; omega
  · have hdq : Lib.nDigits q ≤ 120 := digits_le 119 _ (by have : (10 : Nat) ^ 60 + 1 < 10 ^ 120 := by decide
                                                          show q < 10 ^ 120
                                                          omega)
    have hrat := hx.rat
    rw [ha, hb] at hrat
    have h := Floor_any (isNeg x.num) a b hrat q r z (by rw [hkk, hee, ← hq, ← hr]; split <;> rfl) hz (Nat.lt_of_lt_of_le (short_lt hdq) (pw_mono (by decide))) hdq w hmw
    rw [inum_of hz0] at h
    unfold rnum
    rw [ha, hb]
    exact h
end Go.Proofs.YtjemolaobhlapaaGreatDoor
