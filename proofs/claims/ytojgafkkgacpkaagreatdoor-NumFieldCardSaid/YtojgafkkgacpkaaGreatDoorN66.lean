/- The law NumField at all strings. -/
import Derived.Test.YtojgafkkgacpkaaGreatDoorN65
set_option linter.unusedSimpArgs false
set_option linter.unusedVariables false
namespace Go.Proofs.YtojgafkkgacpkaaGreatDoor
open Go.RowKit
set_option maxRecDepth 1000000

set_option maxHeartbeats 40000000 in
theorem field_bad1 (s1 s2 s3 : ByteArray) (z1 : 60 < s1.size) (w : World) (he : Env w) :
    Calls Tryz.prog 9 #[.string s1, .string s2, .string s3] w fun e w' => e = .returned (.bool true) ∧ Below w.heap.size w w' := by
  have HA := Lib.hid (show Ar w w from ⟨Below.refl _ _, he⟩)
  clear he
  have HW := Lib.hid (fun W (h : Env W) => awake_any W h)
  have d1 : decide ((60 : Int) < s1.size) = true := by simp; omega
  clear z1
  go_enter Tryz.func9, Tryz.ntmps9
  go_wp2_with (first | (go_at_call 10; (with_reducible refine (HW.out _ HA.out.env).mono ?_); rintro e w6 ⟨rfl, hb6⟩; replace HA := Lib.hid (HA.out.step hb6); clear hb6))
  go_ret
  exact ⟨rfl, HA.out.bl⟩
set_option maxHeartbeats 40000000 in
theorem field_bad2 (s1 s2 s3 : ByteArray) (z1 : s1.size ≤ 60) (z2 : 60 < s2.size) (w : World) (he : Env w) :
    Calls Tryz.prog 9 #[.string s1, .string s2, .string s3] w fun e w' => e = .returned (.bool true) ∧ Below w.heap.size w w' := by
  have HA := Lib.hid (show Ar w w from ⟨Below.refl _ _, he⟩)
  clear he
  have HW := Lib.hid (fun W (h : Env W) => awake_any W h)
  have d1 : decide ((60 : Int) < s1.size) = false := by simp; omega
  have d2 : decide ((60 : Int) < s2.size) = true := by simp; omega
  clear z1 z2
  go_enter Tryz.func9, Tryz.ntmps9
  go_wp2_with (first | (go_at_call 10; (with_reducible refine (HW.out _ HA.out.env).mono ?_); rintro e w6 ⟨rfl, hb6⟩; replace HA := Lib.hid (HA.out.step hb6); clear hb6))
  go_ret
  exact ⟨rfl, HA.out.bl⟩
set_option maxHeartbeats 40000000 in
theorem field_bad3 (s1 s2 s3 : ByteArray) (z1 : s1.size ≤ 60) (z2 : s2.size ≤ 60) (z3 : 60 < s3.size) (w : World) (he : Env w) :
    Calls Tryz.prog 9 #[.string s1, .string s2, .string s3] w fun e w' => e = .returned (.bool true) ∧ Below w.heap.size w w' := by
  have HA := Lib.hid (show Ar w w from ⟨Below.refl _ _, he⟩)
  clear he
  have HW := Lib.hid (fun W (h : Env W) => awake_any W h)
  have d1 : decide ((60 : Int) < s1.size) = false := by simp; omega
  have d2 : decide ((60 : Int) < s2.size) = false := by simp; omega
  have d3 : decide ((60 : Int) < s3.size) = true := by simp; omega
  clear z1 z2 z3
  go_enter Tryz.func9, Tryz.ntmps9
  go_wp2_with (first | (go_at_call 10; (with_reducible refine (HW.out _ HA.out.env).mono ?_); rintro e w6 ⟨rfl, hb6⟩; replace HA := Lib.hid (HA.out.step hb6); clear hb6))
  go_ret
  exact ⟨rfl, HA.out.bl⟩
set_option maxHeartbeats 40000000 in
theorem field_bad4 (s1 s2 s3 : ByteArray) (z1 : s1.size ≤ 60) (z2 : s2.size ≤ 60) (z3 : s3.size ≤ 60) (r : Int) (hr0 : r ≠ 0) (c4 : ∀ W, MLen W → Calls Tryz.prog 45 #[.string s1] W fun e w' => e = .returned (.int .i64 r) ∧ Below W.heap.size W w') (w : World) (he : Env w) :
    Calls Tryz.prog 9 #[.string s1, .string s2, .string s3] w fun e w' => e = .returned (.bool true) ∧ Below w.heap.size w w' := by
  have HA := Lib.hid (show Ar w w from ⟨Below.refl _ _, he⟩)
  clear he
  have HW := Lib.hid (fun W (h : Env W) => awake_any W h)
  have d1 : decide ((60 : Int) < s1.size) = false := by simp; omega
  have d2 : decide ((60 : Int) < s2.size) = false := by simp; omega
  have d3 : decide ((60 : Int) < s3.size) = false := by simp; omega
  have K4 := Lib.hid c4
  clear c4
  have hr : (r != 0) = true := by simp; exact hr0
  clear hr0
  clear z1 z2 z3
  go_enter Tryz.func9, Tryz.ntmps9
  go_wp2_with (first | (go_at_call 10; (with_reducible refine (HW.out _ HA.out.env).mono ?_); rintro e w6 ⟨rfl, hb6⟩; replace HA := Lib.hid (HA.out.step hb6); clear hb6) | (go_at_call 45; (with_reducible refine (K4.out _ HA.out.env.ml).mono ?_); rintro e w6 ⟨rfl, hb6⟩; replace HA := Lib.hid (HA.out.step hb6); clear hb6))
  go_ret
  exact ⟨rfl, HA.out.bl⟩
set_option maxHeartbeats 40000000 in
theorem field_bad5 (s1 s2 s3 : ByteArray) (z1 : s1.size ≤ 60) (z2 : s2.size ≤ 60) (z3 : s3.size ≤ 60) (c4 : ∀ W, MLen W → Calls Tryz.prog 45 #[.string s1] W fun e w' => e = .returned (.int .i64 0) ∧ Below W.heap.size W w') (r : Int) (hr0 : r ≠ 0) (c5 : ∀ W, MLen W → Calls Tryz.prog 45 #[.string s2] W fun e w' => e = .returned (.int .i64 r) ∧ Below W.heap.size W w') (w : World) (he : Env w) :
    Calls Tryz.prog 9 #[.string s1, .string s2, .string s3] w fun e w' => e = .returned (.bool true) ∧ Below w.heap.size w w' := by
  have HA := Lib.hid (show Ar w w from ⟨Below.refl _ _, he⟩)
  clear he
  have HW := Lib.hid (fun W (h : Env W) => awake_any W h)
  have d1 : decide ((60 : Int) < s1.size) = false := by simp; omega
  have d2 : decide ((60 : Int) < s2.size) = false := by simp; omega
  have d3 : decide ((60 : Int) < s3.size) = false := by simp; omega
  have K4 := Lib.hid c4
  clear c4
  have K5 := Lib.hid c5
  clear c5
  have hr : (r != 0) = true := by simp; exact hr0
  clear hr0
  clear z1 z2 z3
  go_enter Tryz.func9, Tryz.ntmps9
  go_wp2_with (first | (go_at_call 10; (with_reducible refine (HW.out _ HA.out.env).mono ?_); rintro e w6 ⟨rfl, hb6⟩; replace HA := Lib.hid (HA.out.step hb6); clear hb6) | (go_at_call 45; (with_reducible refine (K4.out _ HA.out.env.ml).mono ?_); rintro e w6 ⟨rfl, hb6⟩; replace HA := Lib.hid (HA.out.step hb6); clear hb6) | (go_at_call 45; (with_reducible refine (K5.out _ HA.out.env.ml).mono ?_); rintro e w6 ⟨rfl, hb6⟩; replace HA := Lib.hid (HA.out.step hb6); clear hb6))
  go_ret
  exact ⟨rfl, HA.out.bl⟩
set_option maxHeartbeats 40000000 in
theorem field_bad6 (s1 s2 s3 : ByteArray) (z1 : s1.size ≤ 60) (z2 : s2.size ≤ 60) (z3 : s3.size ≤ 60) (c4 : ∀ W, MLen W → Calls Tryz.prog 45 #[.string s1] W fun e w' => e = .returned (.int .i64 0) ∧ Below W.heap.size W w') (c5 : ∀ W, MLen W → Calls Tryz.prog 45 #[.string s2] W fun e w' => e = .returned (.int .i64 0) ∧ Below W.heap.size W w') (r : Int) (hr0 : r ≠ 0) (c6 : ∀ W, MLen W → Calls Tryz.prog 45 #[.string s3] W fun e w' => e = .returned (.int .i64 r) ∧ Below W.heap.size W w') (w : World) (he : Env w) :
    Calls Tryz.prog 9 #[.string s1, .string s2, .string s3] w fun e w' => e = .returned (.bool true) ∧ Below w.heap.size w w' := by
  have HA := Lib.hid (show Ar w w from ⟨Below.refl _ _, he⟩)
  clear he
  have HW := Lib.hid (fun W (h : Env W) => awake_any W h)
  have d1 : decide ((60 : Int) < s1.size) = false := by simp; omega
  have d2 : decide ((60 : Int) < s2.size) = false := by simp; omega
  have d3 : decide ((60 : Int) < s3.size) = false := by simp; omega
  have K4 := Lib.hid c4
  clear c4
  have K5 := Lib.hid c5
  clear c5
  have K6 := Lib.hid c6
  clear c6
  have hr : (r != 0) = true := by simp; exact hr0
  clear hr0
  clear z1 z2 z3
  go_enter Tryz.func9, Tryz.ntmps9
  go_wp2_with (first | (go_at_call 10; (with_reducible refine (HW.out _ HA.out.env).mono ?_); rintro e w6 ⟨rfl, hb6⟩; replace HA := Lib.hid (HA.out.step hb6); clear hb6) | (go_at_call 45; (with_reducible refine (K4.out _ HA.out.env.ml).mono ?_); rintro e w6 ⟨rfl, hb6⟩; replace HA := Lib.hid (HA.out.step hb6); clear hb6) | (go_at_call 45; (with_reducible refine (K5.out _ HA.out.env.ml).mono ?_); rintro e w6 ⟨rfl, hb6⟩; replace HA := Lib.hid (HA.out.step hb6); clear hb6) | (go_at_call 45; (with_reducible refine (K6.out _ HA.out.env.ml).mono ?_); rintro e w6 ⟨rfl, hb6⟩; replace HA := Lib.hid (HA.out.step hb6); clear hb6))
  go_ret
  exact ⟨rfl, HA.out.bl⟩

theorem field_any (s1 s2 s3 : ByteArray) (w : World) (he : Env w) :
    Calls Tryz.prog 9 #[.string s1, .string s2, .string s3] w fun e w' => e = .returned (.bool true) ∧ Below w.heap.size w w' := by
  by_cases z1 : 60 < s1.size
  · exact field_bad1 s1 s2 s3 z1 w he
  by_cases z2 : 60 < s2.size
  · exact field_bad2 s1 s2 s3 (by omega) z2 w he
  by_cases z3 : 60 < s3.size
  · exact field_bad3 s1 s2 s3 (by omega) (by omega) z3 w he
  rcases realCheck s1 (by omega) with ⟨a, rfl, _, l1, k1⟩ | ⟨r, hr, k1⟩
  · rcases realCheck s2 (by omega) with ⟨b, rfl, _, l2, k2⟩ | ⟨r, hr, k2⟩
    · rcases realCheck s3 (by omega) with ⟨c, rfl, _, l3, k3⟩ | ⟨r, hr, k3⟩
      · have ha : Short a := by unfold Short; omega
        have hb : Short b := by unfold Short; omega
        have hc : Short c := by unfold Short; omega
        by_cases h0 : b = 0
        · by_cases g5 : FitsR (a * b)
          · by_cases g8 : FitsR (a * c)
            · exact field_both_zero a b c ha hb hc (by omega) (by omega) (by omega) (Lib.hid k1) (Lib.hid k2) (Lib.hid k3) g5 g8 h0 w he
            · exact field_no8_zero a b c ha hb hc (by omega) (by omega) (by omega) (Lib.hid k1) (Lib.hid k2) (Lib.hid k3) g5 g8 h0 w he
          · exact field_no5_zero a b c ha hb hc (by omega) (by omega) (by omega) (Lib.hid k1) (Lib.hid k2) (Lib.hid k3) g5 h0 w he
        · by_cases gd : FitsR (a / b)
          · by_cases g5 : FitsR (a * b)
            · by_cases g8 : FitsR (a * c)
              · exact field_both_fit a b c ha hb hc (by omega) (by omega) (by omega) (Lib.hid k1) (Lib.hid k2) (Lib.hid k3) g5 g8 h0 gd w he
              · exact field_no8_fit a b c ha hb hc (by omega) (by omega) (by omega) (Lib.hid k1) (Lib.hid k2) (Lib.hid k3) g5 g8 h0 gd w he
            · exact field_no5_fit a b c ha hb hc (by omega) (by omega) (by omega) (Lib.hid k1) (Lib.hid k2) (Lib.hid k3) g5 h0 gd w he
          · by_cases g5 : FitsR (a * b)
            · by_cases g8 : FitsR (a * c)
              · exact field_both_nofit a b c ha hb hc (by omega) (by omega) (by omega) (Lib.hid k1) (Lib.hid k2) (Lib.hid k3) g5 g8 h0 gd w he
              · exact field_no8_nofit a b c ha hb hc (by omega) (by omega) (by omega) (Lib.hid k1) (Lib.hid k2) (Lib.hid k3) g5 g8 h0 gd w he
            · exact field_no5_nofit a b c ha hb hc (by omega) (by omega) (by omega) (Lib.hid k1) (Lib.hid k2) (Lib.hid k3) g5 h0 gd w he
      · exact field_bad6 _ _ s3 (by omega) (by omega) (by omega) k1 k2 r hr k3 w he
    · exact field_bad5 _ s2 s3 (by omega) (by omega) (by omega) k1 r hr k2 w he
  · exact field_bad4 s1 s2 s3 (by omega) (by omega) (by omega) r hr k1 w he
end Go.Proofs.YtojgafkkgacpkaaGreatDoor
