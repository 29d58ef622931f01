/- Tokens of one sign: isOneOf, isDot, isNumeric. -/
import Derived.Test.YtfilmombflohpaaM3
import Derived.Test.YtfilmombflohpaaL12B
set_option linter.unusedSimpArgs false
set_option linter.unusedVariables false
namespace Go.Proofs.Ytfilmombflohpaa
open Go.RowKit Go.ChangeMaps Go.WideMaps
set_option maxRecDepth 100000

abbrev tokV (x : Span) (a : Int) : Value := .agg #[.int .i64 x.kind, .string (mk x.text), .int .i64 a]

theorem indexByte_has (l : List UInt8) (c : UInt8) : decide (0 ≤ Lib.indexByte l c) = l.contains c := by
  induction l with
  | nil => simp [Lib.indexByte]
  | cons d r ih =>
    have hg := Lib.indexByte_ge r c
    rw [List.contains_cons]
    by_cases h : c = d
    · subst h
      simp [Lib.indexByte]
    · have h1 : (c == d) = false := by simpa using h
      have h2 : (d == c) = false := by simpa using fun e => h e.symm
      rw [h1, Bool.false_or, ← ih]
      simp only [Lib.indexByte, h2]
      by_cases hm : Lib.indexByte r c = -1
      · simp [hm]
      · have : (Lib.indexByte r c == -1) = false := by simpa using hm
        rw [this]
        simp only [Bool.false_eq_true, if_false]
        congr 1
        rw [eq_iff_iff]
        omega

set_option maxHeartbeats 1000000 in
theorem isOneOf_any (x : Span) (a : Int) (l : List UInt8) (w : World) (hx : x.text.length ≤ 65536) :
    Calls Try.prog 71 #[tokV x a, .string (mk l)] w fun e w' => e = .returned (.bool (oneOf x l)) ∧ Below w.heap.size w w' := by
  obtain ⟨q, hq⟩ : ∃ q, oneOf x l = q := ⟨_, rfl⟩
  rw [hq]
  unfold oneOf at hq
  obtain ⟨k, hk⟩ : ∃ k, x.kind = k := ⟨_, rfl⟩
  dsimp only [tokV]
  rw [hk] at hq ⊢
  clear hk
  by_cases h4 : k = 4
  · subst h4
    by_cases h1 : x.text.length = 1
    · obtain ⟨c, hc⟩ := List.length_eq_one_iff.1 h1
      have hq2 : q = l.contains c := by rw [← hq, hc]; simp
      rw [← indexByte_has] at hq2
      rw [hc]
      have HC := fun W => Lib.hid (Try.strings_Contains_one (mk l) c W)
      rw [show (mk l).data.toList = l from rfl, ← hq2] at HC
      clear hq2 hq hc h1 hx
      go_enter Try.func71, Try.ntmps71
      go_wp2_with (go_at_call 90; refine (HC _).out.mono ?_; rintro e W ⟨rfl, rfl⟩)
      all_goals go_ret
      all_goals exact ⟨rfl, (Below.refl _ w).alloc (Nat.le_refl _) _⟩
    · have hq2 : q = false := by rw [← hq]; simp [h1]
      subst hq2
      obtain ⟨y, hy⟩ : ∃ y, mk x.text = y := ⟨_, rfl⟩
      have hyl : y.size = x.text.length := by rw [← hy, size_of_list]
      have hys : ((y.size : Int) == 1) = false := by simp; omega
      have hym : y.size ≤ 65536 := by omega
      rw [hy]
      clear hq hy hyl h1 hx
      go_enter Try.func71, Try.ntmps71
      go_wp2_with fail
      all_goals go_ret
      all_goals exact ⟨rfl, (Below.refl _ w).alloc (Nat.le_refl _) _⟩
  · have hq2 : q = false := by rw [← hq]; simp [h4]
    subst hq2
    have hk : (k == 4) = false := by simpa using h4
    clear hq h4 hx
    go_enter Try.func71, Try.ntmps71
    go_wp2_with fail
    all_goals go_ret
    all_goals exact ⟨rfl, (Below.refl _ w).alloc (Nat.le_refl _) _⟩

theorem isDot_one (x : Span) : isDotS x = oneOf x [46] := by
  unfold isDotS oneOf
  congr 1
  match x.text with
  | [] => rfl
  | [c] => rw [Bool.eq_iff_iff]; simp
  | c :: d :: r => simp

set_option maxHeartbeats 1000000 in
theorem isDot_any (x : Span) (a : Int) (w : World) (hx : x.text.length ≤ 65536) :
    Calls Try.prog 69 #[tokV x a] w fun e w' => e = .returned (.bool (isDotS x)) ∧ Below w.heap.size w w' := by
  have H := fun W => Lib.hid (isOneOf_any x a [46] W hx)
  rw [← isDot_one] at H
  obtain ⟨q, hq⟩ : ∃ q, isDotS x = q := ⟨_, rfl⟩
  obtain ⟨y, hy⟩ : ∃ y, mk x.text = y := ⟨_, rfl⟩
  dsimp only [tokV] at H ⊢
  rw [hy] at H ⊢
  rw [hq] at H ⊢
  clear hq hy hx
  go_enter Try.func69, Try.ntmps69
  go_wp2_with (go_at_call 71; refine (H _).out.mono ?_; rintro e w1 ⟨rfl, hb1⟩)
  all_goals go_ret
  all_goals exact ⟨rfl, ((Below.refl _ w).alloc (Nat.le_refl _) _).trans (hb1.mono (by simp))⟩

set_option maxHeartbeats 1000000 in
theorem isNumeric_any (x : Span) (a : Int) (w : World) :
    Calls Try.prog 70 #[tokV x a] w fun e w' => e = .returned (.bool (isNumS x)) ∧ Below w.heap.size w w' := by
  obtain ⟨q, hq⟩ : ∃ q, isNumS x = q := ⟨_, rfl⟩
  rw [hq]
  unfold isNumS at hq
  obtain ⟨k, hk⟩ : ∃ k, x.kind = k := ⟨_, rfl⟩
  obtain ⟨y, hy⟩ : ∃ y, mk x.text = y := ⟨_, rfl⟩
  dsimp only [tokV]
  rw [hy]
  rw [hk] at hq ⊢
  clear hk hy
  have HQ := Lib.hid hq
  clear hq
  go_enter Try.func70, Try.ntmps70
  go_wp2
  all_goals go_ret
  all_goals refine ⟨ret_bool ?_, (Below.refl _ w).alloc (Nat.le_refl _) _⟩
  all_goals rw [← HQ.out, Bool.eq_iff_iff]
  all_goals simp only [Bool.or_eq_true, beq_iff_eq, decide_eq_true_eq, beq_eq_false_iff_ne, ne_eq] at *
  all_goals try simp only [true_iff, false_iff]
  all_goals try omega
end Go.Proofs.Ytfilmombflohpaa
