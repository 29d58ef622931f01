/- The law NumRing at all strings. -/
import Derived.Test.YtojgafkkgacpkaaGreatDoorN61
set_option linter.unusedSimpArgs false
set_option linter.unusedVariables false
namespace Go.Proofs.YtojgafkkgacpkaaGreatDoor
open Go.RowKit
set_option maxRecDepth 1000000

theorem inum_back {s : ByteArray} (h : checkS s.data.toList = 0) (hs : s.size ≤ 41) : ∃ x : Int, s = inum x ∧ x.natAbs < 10 ^ 41 := by
  obtain ⟨t, n, hl, hn⟩ := check_back h
  refine ⟨if t then -(n : Int) else n, ?_, ?_⟩
  · rw [← inum_of hn.sign]
    show s = ⟨(numeral t n).toArray⟩
    rw [← hl]
  · have h1 : (numeral t n).length ≤ 41 := by rw [← hl]; simpa using hs
    have h2 : Lib.nDigits n ≤ 41 := by
      unfold numeral at h1
      rw [List.length_append, Lib.decDigits_length] at h1
      omega
    have h3 : n < 10 ^ 41 := Nat.lt_of_lt_of_le (Lib.lt_pow_nDigits n) (Nat.pow_le_pow_right (by decide) h2)
    split <;> omega
set_option maxHeartbeats 40000000 in
theorem ring_bad1 (s1 s2 s3 : ByteArray) (z1 : 41 < s1.size) (w : World) (he : Env w) :
    Calls Tryz.prog 8 #[.string s1, .string s2, .string s3] w fun e w' => e = .returned (.bool true) ∧ Below w.heap.size w w' := by
  have HA := Lib.hid (show Ar w w from ⟨Below.refl _ _, he⟩)
  clear he
  have HW := Lib.hid (fun W (h : Env W) => awake_any W h)
  have d1 : decide ((41 : Int) < s1.size) = true := by simp; omega
  clear z1
  go_enter Tryz.func8, Tryz.ntmps8
  go_wp2_with (first | (go_at_call 10; (with_reducible refine (HW.out _ HA.out.env).mono ?_); rintro e w6 ⟨rfl, hb6⟩; replace HA := Lib.hid (HA.out.step hb6); clear hb6))
  go_ret
  exact ⟨rfl, HA.out.bl⟩
set_option maxHeartbeats 40000000 in
theorem ring_bad2 (s1 s2 s3 : ByteArray) (z1 : s1.size ≤ 41) (z2 : 41 < s2.size) (w : World) (he : Env w) :
    Calls Tryz.prog 8 #[.string s1, .string s2, .string s3] w fun e w' => e = .returned (.bool true) ∧ Below w.heap.size w w' := by
  have HA := Lib.hid (show Ar w w from ⟨Below.refl _ _, he⟩)
  clear he
  have HW := Lib.hid (fun W (h : Env W) => awake_any W h)
  have d1 : decide ((41 : Int) < s1.size) = false := by simp; omega
  have d2 : decide ((41 : Int) < s2.size) = true := by simp; omega
  clear z1 z2
  go_enter Tryz.func8, Tryz.ntmps8
  go_wp2_with (first | (go_at_call 10; (with_reducible refine (HW.out _ HA.out.env).mono ?_); rintro e w6 ⟨rfl, hb6⟩; replace HA := Lib.hid (HA.out.step hb6); clear hb6))
  go_ret
  exact ⟨rfl, HA.out.bl⟩
set_option maxHeartbeats 40000000 in
theorem ring_bad3 (s1 s2 s3 : ByteArray) (z1 : s1.size ≤ 41) (z2 : s2.size ≤ 41) (z3 : 41 < s3.size) (w : World) (he : Env w) :
    Calls Tryz.prog 8 #[.string s1, .string s2, .string s3] w fun e w' => e = .returned (.bool true) ∧ Below w.heap.size w w' := by
  have HA := Lib.hid (show Ar w w from ⟨Below.refl _ _, he⟩)
  clear he
  have HW := Lib.hid (fun W (h : Env W) => awake_any W h)
  have d1 : decide ((41 : Int) < s1.size) = false := by simp; omega
  have d2 : decide ((41 : Int) < s2.size) = false := by simp; omega
  have d3 : decide ((41 : Int) < s3.size) = true := by simp; omega
  clear z1 z2 z3
  go_enter Tryz.func8, Tryz.ntmps8
  go_wp2_with (first | (go_at_call 10; (with_reducible refine (HW.out _ HA.out.env).mono ?_); rintro e w6 ⟨rfl, hb6⟩; replace HA := Lib.hid (HA.out.step hb6); clear hb6))
  go_ret
  exact ⟨rfl, HA.out.bl⟩
set_option maxHeartbeats 40000000 in
theorem ring_bad4 (s1 s2 s3 : ByteArray) (z1 : s1.size ≤ 41) (z2 : s2.size ≤ 41) (z3 : s3.size ≤ 41) (c4 : ¬ checkS s1.data.toList = 0) (w : World) (he : Env w) :
    Calls Tryz.prog 8 #[.string s1, .string s2, .string s3] w fun e w' => e = .returned (.bool true) ∧ Below w.heap.size w w' := by
  have HA := Lib.hid (show Ar w w from ⟨Below.refl _ _, he⟩)
  clear he
  have HW := Lib.hid (fun W (h : Env W) => awake_any W h)
  have d1 : decide ((41 : Int) < s1.size) = false := by simp; omega
  have d2 : decide ((41 : Int) < s2.size) = false := by simp; omega
  have d3 : decide ((41 : Int) < s3.size) = false := by simp; omega
  obtain ⟨r, hr⟩ : ∃ r, checkS s1.data.toList = r := ⟨_, rfl⟩
  have K4 := Lib.hid (fun W => Check_any s1 W r hr)
  rw [hr] at c4
  clear hr
  have hr : (r != 0) = true := by simp; exact c4
  clear c4
  clear z1 z2 z3
  go_enter Tryz.func8, Tryz.ntmps8
  go_wp2_with (first | (go_at_call 10; (with_reducible refine (HW.out _ HA.out.env).mono ?_); rintro e w6 ⟨rfl, hb6⟩; replace HA := Lib.hid (HA.out.step hb6); clear hb6) | (go_at_call 12; (with_reducible refine (K4.out _).mono ?_); rintro e w6 ⟨rfl, hb6⟩; replace HA := Lib.hid (HA.out.step hb6); clear hb6))
  go_ret
  exact ⟨rfl, HA.out.bl⟩
set_option maxHeartbeats 40000000 in
theorem ring_bad5 (s1 s2 s3 : ByteArray) (z1 : s1.size ≤ 41) (z2 : s2.size ≤ 41) (z3 : s3.size ≤ 41) (c4 : checkS s1.data.toList = 0) (c5 : ¬ checkS s2.data.toList = 0) (w : World) (he : Env w) :
    Calls Tryz.prog 8 #[.string s1, .string s2, .string s3] w fun e w' => e = .returned (.bool true) ∧ Below w.heap.size w w' := by
  have HA := Lib.hid (show Ar w w from ⟨Below.refl _ _, he⟩)
  clear he
  have HW := Lib.hid (fun W (h : Env W) => awake_any W h)
  have d1 : decide ((41 : Int) < s1.size) = false := by simp; omega
  have d2 : decide ((41 : Int) < s2.size) = false := by simp; omega
  have d3 : decide ((41 : Int) < s3.size) = false := by simp; omega
  have K4 := Lib.hid (fun W => Check_any s1 W 0 c4)
  obtain ⟨r, hr⟩ : ∃ r, checkS s2.data.toList = r := ⟨_, rfl⟩
  have K5 := Lib.hid (fun W => Check_any s2 W r hr)
  rw [hr] at c5
  clear hr
  have hr : (r != 0) = true := by simp; exact c5
  clear c5
  clear c4
  clear z1 z2 z3
  go_enter Tryz.func8, Tryz.ntmps8
  go_wp2_with (first | (go_at_call 10; (with_reducible refine (HW.out _ HA.out.env).mono ?_); rintro e w6 ⟨rfl, hb6⟩; replace HA := Lib.hid (HA.out.step hb6); clear hb6) | (go_at_call 12; (with_reducible refine (K4.out _).mono ?_); rintro e w6 ⟨rfl, hb6⟩; replace HA := Lib.hid (HA.out.step hb6); clear hb6) | (go_at_call 12; (with_reducible refine (K5.out _).mono ?_); rintro e w6 ⟨rfl, hb6⟩; replace HA := Lib.hid (HA.out.step hb6); clear hb6))
  go_ret
  exact ⟨rfl, HA.out.bl⟩
set_option maxHeartbeats 40000000 in
theorem ring_bad6 (s1 s2 s3 : ByteArray) (z1 : s1.size ≤ 41) (z2 : s2.size ≤ 41) (z3 : s3.size ≤ 41) (c4 : checkS s1.data.toList = 0) (c5 : checkS s2.data.toList = 0) (c6 : ¬ checkS s3.data.toList = 0) (w : World) (he : Env w) :
    Calls Tryz.prog 8 #[.string s1, .string s2, .string s3] w fun e w' => e = .returned (.bool true) ∧ Below w.heap.size w w' := by
  have HA := Lib.hid (show Ar w w from ⟨Below.refl _ _, he⟩)
  clear he
  have HW := Lib.hid (fun W (h : Env W) => awake_any W h)
  have d1 : decide ((41 : Int) < s1.size) = false := by simp; omega
  have d2 : decide ((41 : Int) < s2.size) = false := by simp; omega
  have d3 : decide ((41 : Int) < s3.size) = false := by simp; omega
  have K4 := Lib.hid (fun W => Check_any s1 W 0 c4)
  have K5 := Lib.hid (fun W => Check_any s2 W 0 c5)
  obtain ⟨r, hr⟩ : ∃ r, checkS s3.data.toList = r := ⟨_, rfl⟩
  have K6 := Lib.hid (fun W => Check_any s3 W r hr)
  rw [hr] at c6
  clear hr
  have hr : (r != 0) = true := by simp; exact c6
  clear c6
  clear c4 c5
  clear z1 z2 z3
  go_enter Tryz.func8, Tryz.ntmps8
  go_wp2_with (first | (go_at_call 10; (with_reducible refine (HW.out _ HA.out.env).mono ?_); rintro e w6 ⟨rfl, hb6⟩; replace HA := Lib.hid (HA.out.step hb6); clear hb6) | (go_at_call 12; (with_reducible refine (K4.out _).mono ?_); rintro e w6 ⟨rfl, hb6⟩; replace HA := Lib.hid (HA.out.step hb6); clear hb6) | (go_at_call 12; (with_reducible refine (K5.out _).mono ?_); rintro e w6 ⟨rfl, hb6⟩; replace HA := Lib.hid (HA.out.step hb6); clear hb6) | (go_at_call 12; (with_reducible refine (K6.out _).mono ?_); rintro e w6 ⟨rfl, hb6⟩; replace HA := Lib.hid (HA.out.step hb6); clear hb6))
  go_ret
  exact ⟨rfl, HA.out.bl⟩

theorem ring_any (s1 s2 s3 : ByteArray) (w : World) (he : Env w) :
    Calls Tryz.prog 8 #[.string s1, .string s2, .string s3] w fun e w' => e = .returned (.bool true) ∧ Below w.heap.size w w' := by
  by_cases z1 : 41 < s1.size
  · exact ring_bad1 s1 s2 s3 z1 w he
  by_cases z2 : 41 < s2.size
  · exact ring_bad2 s1 s2 s3 (by omega) z2 w he
  by_cases z3 : 41 < s3.size
  · exact ring_bad3 s1 s2 s3 (by omega) (by omega) z3 w he
  by_cases c1 : checkS s1.data.toList = 0
  · by_cases c2 : checkS s2.data.toList = 0
    · by_cases c3 : checkS s3.data.toList = 0
      · obtain ⟨a, rfl, ha⟩ := inum_back c1 (by omega)
        obtain ⟨b, rfl, hb⟩ := inum_back c2 (by omega)
        obtain ⟨c, rfl, hc⟩ := inum_back c3 (by omega)
        by_cases h0 : b = 0
        · by_cases hk : a = b
          · exact ring_eq_zero a b c ha hb hc (by omega) (by omega) (by omega) hk h0 w he
          · by_cases hl : a < b
            · exact ring_lt_zero a b c ha hb hc (by omega) (by omega) (by omega) hl h0 w he
            · exact ring_gt_zero a b c ha hb hc (by omega) (by omega) (by omega) (by omega) h0 w he
        · by_cases hk : a = b
          · exact ring_eq a b c ha hb hc (by omega) (by omega) (by omega) hk h0 w he
          · by_cases hl : a < b
            · exact ring_lt a b c ha hb hc (by omega) (by omega) (by omega) hl h0 w he
            · exact ring_gt a b c ha hb hc (by omega) (by omega) (by omega) (by omega) h0 w he
      · exact ring_bad6 s1 s2 s3 (by omega) (by omega) (by omega) c1 c2 c3 w he
    · exact ring_bad5 s1 s2 s3 (by omega) (by omega) (by omega) c1 c2 w he
  · exact ring_bad4 s1 s2 s3 (by omega) (by omega) (by omega) c1 w he
end Go.Proofs.YtojgafkkgacpkaaGreatDoor
