/- The reference's Position. -/
import Derived.Test.YtajhpomckpndnaaDoorL15
import Derived.Test.YtajhpomckpndnaaDoorO2
set_option linter.unusedSimpArgs false
set_option linter.unusedVariables false
namespace Go.Proofs.YtajhpomckpndnaaDoor
open Go.RowKit Go.ChangeMaps Go.WideMaps
set_option maxRecDepth 100000

theorem posF_lc_gen : ∀ (l : List UInt8) (n : Nat) (a b : Int), n ≤ l.length →
    (l.take n).foldl (fun (p : Int × Int) c => if (c.toNat : Int) = 10 then (p.1 + 1, 1) else (p.1, p.2 + 1)) (a, b) = ((posF l n).1 + (a - 1), if (posF l n).1 = 1 then (posF l n).2 + (b - 1) else (posF l n).2)
  | [], 0, a, b, _ => by simp [posF]; omega
  | _ :: _, 0, a, b, _ => by simp [posF]; omega
  | [], n + 1, _, _, h => by simp at h
  | c :: r, n + 1, a, b, h => by
    have hn : n ≤ r.length := by simpa using h
    have hg := posF_ge r n
    rw [List.take_succ_cons, List.foldl_cons]
    by_cases hc : (c.toNat : Int) = 10
    · rw [if_pos hc, posF_lc_gen r n (a + 1) 1 hn]
      have hp : posF (c :: r) (n + 1) = ((posF r n).1 + 1, (posF r n).2) := by
        rw [posF, if_pos (by unfold isNl; simpa using hc)]
      rw [hp]
      simp only
      rw [if_neg (by omega : ¬ (posF r n).1 + 1 = 1)]
      refine Prod.ext (by simp only; omega) ?_
      simp
    · rw [if_neg hc, posF_lc_gen r n a (b + 1) hn]
      have hp : posF (c :: r) (n + 1) = if (posF r n).1 = 1 then (1, (posF r n).2 + 1) else posF r n := by
        rw [posF, if_neg (by unfold isNl; simpa using hc)]
      rw [hp]
      by_cases h1 : (posF r n).1 = 1
      · rw [if_pos h1, if_pos h1]
        simp only
        rw [h1]
        refine Prod.ext (by simp) ?_
        simp only [if_true]
        omega
      · rw [if_neg h1, if_neg h1, if_neg h1]

theorem lc_posF (l : List UInt8) (n : Nat) (h : n ≤ l.length) : lc (l.take n) = posF l n := by
  unfold lc
  rw [posF_lc_gen l n 1 1 h]
  refine Prod.ext (by simp) ?_
  simp only
  split <;> simp

theorem when_any (b : Bool) (n : Int) (w : World) :
    Calls Tryd.prog 11 #[.bool b, .int .i64 n] w fun e w' => e = .returned (.int .i64 (if b = true then n else 0)) ∧ w = w' := by
  cases b
  all_goals
    go_enter Tryd.func11, Tryd.ntmps11
    go_wp2
    go_ret
    exact ⟨by simp, rfl⟩

/-- The first of two errors. -/
theorem first_two (a b : Int) (g : Nat) (w : World) (h0 : w.cell? ⟨g, 0, none⟩ = some (.int .i64 a)) (h1 : w.cell? ⟨g, 1, none⟩ = some (.int .i64 b)) :
    Calls Tryd.prog 10 #[.slice (some ⟨g, 0, none⟩) 2 2] w fun e w' => e = .returned (.int .i64 (if a = 0 then b else a)) ∧ w = w' := by
  go_enter Tryd.func10, Tryd.ntmps10
  go_wp2
  go_loop [3] (fun n => n = .int .i64 0 ∨ (n = .int .i64 1 ∧ a = 0) ∨ (n = .int .i64 2 ∧ a = 0 ∧ b = 0)) (fun n => 2 - (intOf n).toNat)
  case atStart => exact .inl rfl
  case round =>
    rcases hrel with rfl | ⟨rfl, ha⟩ | ⟨rfl, ha, hb⟩
    · by_cases ha : a = 0
      · go_wp2
        exact ⟨.inr (.inl ⟨rfl, ha⟩), by simp [intOf]⟩
      · go_wp2
        go_ret
        exact ⟨rfl, rfl⟩
    · by_cases hb : b = 0
      · go_wp2
        exact ⟨.inr (.inr ⟨rfl, ha, hb⟩), by simp [intOf]⟩
      · go_wp2
        go_ret
        exact ⟨rfl, rfl⟩
    · go_wp2
      go_ret
      exact ⟨rfl, rfl⟩

/-- What Position says: line, column, error. -/
def posR (s : ByteArray) (at_ : Int) : Int × Int × Int :=
  if 65536 < s.size then (0, 0, 23) else if at_ < 0 ∨ (s.size : Int) < at_ then (0, 0, 3) else ((lc (s.data.toList.take at_.toNat)).1, (lc (s.data.toList.take at_.toNat)).2, 0)
abbrev posV (s : ByteArray) (at_ : Int) : Value := .tuple #[.int .i64 (posR s at_).1, .int .i64 (posR s at_).2.1, .int .i64 (posR s at_).2.2]

theorem posR_long {s : ByteArray} {at_ : Int} (h : 65536 < s.size) : posR s at_ = (0, 0, 23) := by unfold posR; rw [if_pos h]
theorem posR_out {s : ByteArray} {at_ : Int} (h : s.size ≤ 65536) (ho : at_ < 0 ∨ (s.size : Int) < at_) : posR s at_ = (0, 0, 3) := by unfold posR; rw [if_neg (by omega), if_pos ho]
theorem posR_in {s : ByteArray} {m : Nat} (h : s.size ≤ 65536) (hm : m ≤ s.size) : posR s (m : Int) = ((lc (s.data.toList.take m)).1, (lc (s.data.toList.take m)).2, 0) := by
  unfold posR; rw [if_neg (by omega), if_neg (by omega)]; rfl

set_option maxHeartbeats 1000000 in
theorem positionA_any (s : ByteArray) (at_ : Int) (w : World) (hs : s.size ≤ maxLen) :
    Calls Tryd.prog 6 #[.string s, .int .i64 at_] w fun e w' => e = .returned (posV s at_) ∧ w = w' := by
  unfold maxLen at hs
  by_cases hl : 65536 < s.size
  · unfold posV
    rw [posR_long hl]
    go_enter Tryd.func6, Tryd.ntmps6
    go_wp2
    all_goals go_ret3
    all_goals exact ⟨rfl, rfl⟩
  · by_cases ho : at_ < 0 ∨ (s.size : Int) < at_
    · unfold posV
      rw [posR_out (by omega) ho]
      by_cases h0 : at_ < 0
      · clear ho
        go_enter Tryd.func6, Tryd.ntmps6
        go_wp2
        all_goals go_ret3
        all_goals exact ⟨rfl, rfl⟩
      · have h1 : (s.size : Int) < at_ := by omega
        clear ho
        go_enter Tryd.func6, Tryd.ntmps6
        go_wp2
        all_goals go_ret3
        all_goals exact ⟨rfl, rfl⟩
    · obtain ⟨m, rfl⟩ : ∃ m : Nat, at_ = m := ⟨at_.toNat, by omega⟩
      have := position_any s m w (by omega) (by omega)
      unfold posV
      rw [posR_in (by omega) (by omega)]
      exact this

set_option maxHeartbeats 2000000 in
theorem rPosition_any (s : ByteArray) (at_ : Int) (w : World) (hs : s.size ≤ maxLen) :
    Calls Tryd.prog 5 #[.string s, .int .i64 at_] w fun e w' => e = .returned (posV s at_) ∧ Below w.heap.size w w' := by
  unfold maxLen at hs
  have hb0 : ∀ o, Below w.heap.size w (w.alloc o) := fun o => (Below.refl _ w).alloc (Nat.le_refl _) o
  have HF := fun (a b : Int) => first_two a b w.heap.size (w.alloc (.cells #[.int .i64 a, .int .i64 b] 3)) (by simp) (by simp)
  by_cases hl : 65536 < s.size
  · unfold posV
    rw [posR_long hl]
    go_enter Tryd.func5, Tryd.ntmps5
    go_wp2_with (first | (go_at_call 11; refine (when_any _ _ _).mono ?_; rintro e w' ⟨rfl, rfl⟩) | (go_at_call 10; refine (HF _ _).mono ?_; rintro e w' ⟨rfl, rfl⟩))
    all_goals go_ret3
    all_goals exact ⟨rfl, hb0 _⟩
  · by_cases ho : at_ < 0 ∨ (s.size : Int) < at_
    · unfold posV
      rw [posR_out (by omega) ho]
      by_cases h0 : at_ < 0
      · clear ho
        go_enter Tryd.func5, Tryd.ntmps5
        go_wp2_with (first | (go_at_call 11; refine (when_any _ _ _).mono ?_; rintro e w' ⟨rfl, rfl⟩) | (go_at_call 10; refine (HF _ _).mono ?_; rintro e w' ⟨rfl, rfl⟩))
        all_goals go_ret3
        all_goals exact ⟨rfl, hb0 _⟩
      · have h1 : (s.size : Int) < at_ := by omega
        clear ho
        go_enter Tryd.func5, Tryd.ntmps5
        go_wp2_with (first | (go_at_call 11; refine (when_any _ _ _).mono ?_; rintro e w' ⟨rfl, rfl⟩) | (go_at_call 10; refine (HF _ _).mono ?_; rintro e w' ⟨rfl, rfl⟩))
        all_goals go_ret3
        all_goals exact ⟨rfl, hb0 _⟩
    · obtain ⟨m, rfl⟩ : ∃ m : Nat, at_ = m := ⟨at_.toNat, by omega⟩
      have hms : m ≤ s.size := by omega
      clear ho
      unfold posV
      rw [posR_in (by omega) hms]
      obtain ⟨X, Y, hXY⟩ : ∃ X Y, lc (s.data.toList.take m) = (X, Y) := ⟨_, _, rfl⟩
      rw [hXY]
      have HXY := Lib.hid hXY
      clear hXY
      go_enter Tryd.func5, Tryd.ntmps5
      go_wp2_with (first | (go_at_call 11; refine (when_any _ _ _).mono ?_; rintro e w' ⟨rfl, rfl⟩) | (go_at_call 10; refine (HF _ _).mono ?_; rintro e w' ⟨rfl, rfl⟩))
      go_loop [8, 9, 10] (fun a b n => ∃ (k : Nat) (x y : Int), k ≤ m ∧ n = .int .i64 k ∧ a = .int .i64 x ∧ b = .int .i64 y ∧ Hid (lc (s.data.toList.take k) = (x, y)) ∧ 1 ≤ x ∧ x ≤ k + 1 ∧ 1 ≤ y ∧ y ≤ k + 1) (fun _ _ n => m - (intOf n).toNat)
      case atStart => exact ⟨0, 1, 1, Nat.zero_le _, rfl, rfl, rfl, show _ = _ from rfl, by omega, by omega, by omega, by omega⟩
      case round =>
        obtain ⟨k, x, y, hk, rfl, rfl, rfl, hc, h1, h2, h3, h4⟩ := hrel
        by_cases hlt : k < m
        · have hks : k < s.size := by omega
          go_wp2
          · go_round
            case rel => exact ⟨k + 1, x + 1, 1, by omega, by go_num, rfl, rfl, lc_yes hks (by simpa using ‹(_ == (10 : Int)) = true›) hc.out, by omega, by omega, by omega, by omega⟩
            case measure => simp [intOf]; omega
          · go_round
            case rel => exact ⟨k + 1, x, y + 1, by omega, by go_num, rfl, rfl, lc_no hks (by simpa using ‹(_ == (10 : Int)) = false›) hc.out, by omega, by omega, by omega, by omega⟩
            case measure => simp [intOf]; omega
        · obtain rfl : k = m := by omega
          obtain ⟨rfl, rfl⟩ := Prod.mk.inj (HXY.out.symm.trans hc.out)
          go_wp2
          go_ret3
          exact ⟨rfl, hb0 _⟩
end Go.Proofs.YtajhpomckpndnaaDoor
