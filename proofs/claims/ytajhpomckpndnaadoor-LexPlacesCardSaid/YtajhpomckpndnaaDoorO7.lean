/- The law on places. -/
import Derived.Test.YtajhpomckpndnaaDoorO6
import Derived.Test.YtajhpomckpndnaaDoorL16
set_option linter.unusedSimpArgs false
set_option linter.unusedVariables false
namespace Go.Proofs.YtajhpomckpndnaaDoor
open Go.RowKit Go.ChangeMaps Go.WideMaps
set_option maxRecDepth 100000

theorem fromC {P : Program} {f : Nat} {args : Array Value} {w w0 : World} {r : Ending} (h : Calls P f args w fun e w' => e = r ∧ Below w.heap.size w w') (hb : Below w0.heap.size w0 w) : Calls P f args w fun e w' => e = r ∧ Below w0.heap.size w0 w' :=
  h.mono fun _ _ ⟨he, hw⟩ => ⟨he, hb.trans (hw.mono hb.size)⟩

theorem posF_le : ∀ (l : List UInt8) (n : Nat), (posF l n).2 ≤ n + 1
  | [], 0 => by simp [posF]
  | _ :: _, 0 => by simp [posF]
  | [], n + 1 => by simp [posF]; omega
  | c :: r, n + 1 => by
    have := posF_le r n
    unfold posF
    split
    · simp only; omega
    · split
      · simp only; omega
      · omega

theorem posR_back {s : ByteArray} {at_ a b bad : Int} (h : posR s at_ = (a, b, bad)) (h0 : bad = 0) : offR s a b = (at_, 0) := by
  subst h0
  by_cases hl : 65536 < s.size
  · rw [posR_long hl] at h; cases h
  · by_cases ho : at_ < 0 ∨ (s.size : Int) < at_
    · rw [posR_out (by omega) ho] at h; cases h
    · obtain ⟨m, rfl⟩ : ∃ m : Nat, at_ = m := ⟨at_.toNat, by omega⟩
      have hm : m ≤ s.size := by omega
      rw [posR_in (by omega) hm, lc_posF _ _ (by rw [← Lib.size_eq]; exact hm)] at h
      cases h
      exact offR_some (by omega) (off_pos _ _ (by rw [← Lib.size_eq]; exact hm))

theorem posR_col {s : ByteArray} {at_ a b bad : Int} (h : posR s at_ = (a, b, bad)) : b ≤ 9223372036854775807 := by
  by_cases hl : 65536 < s.size
  · rw [posR_long hl] at h; cases h; omega
  · by_cases ho : at_ < 0 ∨ (s.size : Int) < at_
    · rw [posR_out (by omega) ho] at h; cases h; omega
    · obtain ⟨m, rfl⟩ : ∃ m : Nat, at_ = m := ⟨at_.toNat, by omega⟩
      have hm : m ≤ s.size := by omega
      have := posF_le s.data.toList m
      rw [posR_in (by omega) hm, lc_posF _ _ (by rw [← Lib.size_eq]; exact hm)] at h
      cases h
      omega

theorem offR_back {s : ByteArray} {line col n wrong : Int} (h : offR s line col = (n, wrong)) (h0 : wrong = 0) : posR s n = (line, col, 0) := by
  subst h0
  by_cases hl : 65536 < s.size
  · rw [offR_long hl] at h; cases h
  · cases ho : offF s.data.toList line col with
    | none => rw [offR_none (by omega) ho] at h; cases h
    | some a =>
      rw [offR_some (by omega) ho] at h
      cases h
      have hg := offF_ge _ _ _ _ ho
      rw [← Lib.size_eq] at hg
      have hp := pos_off _ _ _ _ ho
      obtain ⟨m, rfl⟩ : ∃ m : Nat, n = m := ⟨n.toNat, by omega⟩
      rw [posR_in (by omega) (by omega), lc_posF _ _ (by rw [← Lib.size_eq]; omega)]
      rw [Int.toNat_natCast] at hp
      rw [hp]

set_option maxHeartbeats 4000000 in
theorem places_law (s : ByteArray) (at_ p0 p1 : Int) (w : World) (hm : ML w) (hs : s.size ≤ maxLen) (hp1 : p1 ≤ 9223372036854775807) :
    Calls Tryd.prog 3 #[.string s, .int .i64 at_, .agg #[.int .i64 p0, .int .i64 p1]] w fun e w' => e = .returned (.bool true) ∧ Below w.heap.size w w' := by
  have hsm := hs
  unfold maxLen at hsm
  have hbw : ∀ W, Below (w.alloc (.cells #[.int .i64 p0, .int .i64 p1] 22)).heap.size (w.alloc (.cells #[.int .i64 p0, .int .i64 p1] 22)) W → Below w.heap.size w W := fun W h =>
    ((Below.refl _ w).alloc (Nat.le_refl _) _).trans (h.mono (by simp))
  have hmw : ∀ W, Below (w.alloc (.cells #[.int .i64 p0, .int .i64 p1] 22)).heap.size (w.alloc (.cells #[.int .i64 p0, .int .i64 p1] 22)) W → ML W := fun W h => hm.below (hbw W h) hm.lt
  have hb0 := Below.refl (w.alloc (.cells #[.int .i64 p0, .int .i64 p1] 22)).heap.size (w.alloc (.cells #[.int .i64 p0, .int .i64 p1] 22))
  have HBW := Lib.hid hbw
  have HA := fun W h => Lib.hid (awake_any W (hmw W h))
  by_cases hbig : 4000 < s.size ∧ s.size ≠ 65537
  · obtain ⟨h1, h2⟩ := hbig
    go_enter Tryd.func3, Tryd.ntmps3
    go_wp2_with (go_at_call 4; refine (fromC (HA _ (by assumption)).out (by assumption)).mono ?_; rintro e w1 ⟨rfl, hb1⟩)
    all_goals go_ret
    all_goals exact ⟨rfl, HBW.out _ (by assumption)⟩
  · have c0 : (w.alloc (.cells #[.int .i64 p0, .int .i64 p1] 22)).cell? ⟨w.heap.size, 0, none⟩ = some (.int .i64 p0) := by simp
    have c1 : (w.alloc (.cells #[.int .i64 p0, .int .i64 p1] 22)).cell? ⟨w.heap.size, 1, none⟩ = some (.int .i64 p1) := by simp
    have H5 := fun w => Lib.hid (rPosition_any s at_ w hs)
    have H6 := fun w => Lib.hid (positionA_any s at_ w hs)
    have H7 := fun w => Lib.hid (rOffset_any s p0 p1 w hs hp1)
    have H8 := fun W h => Lib.hid (offset_any s p0 p1 W hs (hmw W h) hp1)
    obtain ⟨⟨a, b, bad⟩, hP⟩ : ∃ x, posR s at_ = x := ⟨_, rfl⟩
    obtain ⟨⟨n, wrong⟩, hO⟩ : ∃ x, offR s p0 p1 = x := ⟨_, rfl⟩
    have hb' := posR_col hP
    have H6b := fun w => Lib.hid (positionA_any s n w hs)
    have H8b := fun W h => Lib.hid (offset_any s a b W hs (hmw W h) hb')
    dsimp only [posV] at H5 H6 H6b
    dsimp only [offV] at H7 H8 H8b
    rw [hP] at H5 H6
    rw [hO] at H7 H8
    have HB := fun h => posR_back hP h
    have HO := fun h => offR_back hO h
    dsimp only at H5 H6 H7 H8
    clear hb' hmw hbw
    by_cases hsz : 4000 < s.size
    · have hsz2 : s.size = 65537 := by omega
      clear hbig
      rw [posR_long (by omega)] at hP
      rw [offR_long (by omega)] at hO
      cases hP
      cases hO
      clear HB HO H6b H8b
      go_enter Tryd.func3, Tryd.ntmps3
      go_wp2_with (first | (go_at_call 5; refine (fromC (H5 _).out (by assumption)).mono ?_; rintro e w1 ⟨rfl, hb1⟩; have c10 := (hb1.cell (p := ⟨w.heap.size, 0, none⟩) (by simp)).trans c0; have c11 := (hb1.cell (p := ⟨w.heap.size, 1, none⟩) (by simp)).trans c1) | (go_at_call 6; refine (H6 _).out.mono ?_; rintro e w2 ⟨rfl, rfl⟩) | (go_at_call 7; refine (fromC (H7 _).out (by assumption)).mono ?_; rintro e w3 ⟨rfl, hb3⟩; have c30 := (hb3.cell (p := ⟨w.heap.size, 0, none⟩) (by simp)).trans c0; have c31 := (hb3.cell (p := ⟨w.heap.size, 1, none⟩) (by simp)).trans c1) | (go_at_call 8; refine (fromC (H8 _ (by assumption)).out (by assumption)).mono ?_; rintro e w4 ⟨rfl, hb4⟩; have c40 := (hb4.cell (p := ⟨w.heap.size, 0, none⟩) (by simp)).trans c0; have c41 := (hb4.cell (p := ⟨w.heap.size, 1, none⟩) (by simp)).trans c1) | (go_at_call 4; refine (fromC (HA _ (by assumption)).out (by assumption)).mono ?_; rintro e w5 ⟨rfl, hb5⟩))
      all_goals go_ret
      all_goals exact ⟨rfl, HBW.out _ (by assumption)⟩
    · clear hbig hP hO
      by_cases hbad : bad = 0
      · have h1 := HB hbad
        rw [h1] at H8b
        dsimp only at H8b
        clear HB h1
        by_cases hw : wrong = 0
        · have h2 := HO hw
          rw [h2] at H6b
          dsimp only at H6b
          clear HO h2
          subst hbad
          subst hw
          go_enter Tryd.func3, Tryd.ntmps3
          go_wp2_with (first | (go_at_call 5; refine (fromC (H5 _).out (by assumption)).mono ?_; rintro e w1 ⟨rfl, hb1⟩; have c10 := (hb1.cell (p := ⟨w.heap.size, 0, none⟩) (by simp)).trans c0; have c11 := (hb1.cell (p := ⟨w.heap.size, 1, none⟩) (by simp)).trans c1) | (go_at_call 6; (first | (with_reducible refine (H6 _).out.mono ?_) | (with_reducible refine (H6b _).out.mono ?_)); rintro e w2 ⟨rfl, rfl⟩) | (go_at_call 7; refine (fromC (H7 _).out (by assumption)).mono ?_; rintro e w3 ⟨rfl, hb3⟩; have c30 := (hb3.cell (p := ⟨w.heap.size, 0, none⟩) (by simp)).trans c0; have c31 := (hb3.cell (p := ⟨w.heap.size, 1, none⟩) (by simp)).trans c1) | (go_at_call 8; (first | (with_reducible refine (fromC (H8 _ (by assumption)).out (by assumption)).mono ?_) | (with_reducible refine (fromC (H8b _ (by assumption)).out (by assumption)).mono ?_)); rintro e w4 ⟨rfl, hb4⟩; have c40 := (hb4.cell (p := ⟨w.heap.size, 0, none⟩) (by simp)).trans c0; have c41 := (hb4.cell (p := ⟨w.heap.size, 1, none⟩) (by simp)).trans c1) | (go_at_call 4; refine (fromC (HA _ (by assumption)).out (by assumption)).mono ?_; rintro e w5 ⟨rfl, hb5⟩))
          all_goals go_ret
          all_goals exact ⟨rfl, HBW.out _ (by assumption)⟩
        · clear HO H6b
          subst hbad
          go_enter Tryd.func3, Tryd.ntmps3
          go_wp2_with (first | (go_at_call 5; refine (fromC (H5 _).out (by assumption)).mono ?_; rintro e w1 ⟨rfl, hb1⟩; have c10 := (hb1.cell (p := ⟨w.heap.size, 0, none⟩) (by simp)).trans c0; have c11 := (hb1.cell (p := ⟨w.heap.size, 1, none⟩) (by simp)).trans c1) | (go_at_call 6; refine (H6 _).out.mono ?_; rintro e w2 ⟨rfl, rfl⟩) | (go_at_call 7; refine (fromC (H7 _).out (by assumption)).mono ?_; rintro e w3 ⟨rfl, hb3⟩; have c30 := (hb3.cell (p := ⟨w.heap.size, 0, none⟩) (by simp)).trans c0; have c31 := (hb3.cell (p := ⟨w.heap.size, 1, none⟩) (by simp)).trans c1) | (go_at_call 8; (first | (with_reducible refine (fromC (H8 _ (by assumption)).out (by assumption)).mono ?_) | (with_reducible refine (fromC (H8b _ (by assumption)).out (by assumption)).mono ?_)); rintro e w4 ⟨rfl, hb4⟩; have c40 := (hb4.cell (p := ⟨w.heap.size, 0, none⟩) (by simp)).trans c0; have c41 := (hb4.cell (p := ⟨w.heap.size, 1, none⟩) (by simp)).trans c1) | (go_at_call 4; refine (fromC (HA _ (by assumption)).out (by assumption)).mono ?_; rintro e w5 ⟨rfl, hb5⟩))
          all_goals go_ret
          all_goals exact ⟨rfl, HBW.out _ (by assumption)⟩
      · clear HB H8b
        by_cases hw : wrong = 0
        · have h2 := HO hw
          rw [h2] at H6b
          dsimp only at H6b
          clear HO h2
          subst hw
          go_enter Tryd.func3, Tryd.ntmps3
          go_wp2_with (first | (go_at_call 5; refine (fromC (H5 _).out (by assumption)).mono ?_; rintro e w1 ⟨rfl, hb1⟩; have c10 := (hb1.cell (p := ⟨w.heap.size, 0, none⟩) (by simp)).trans c0; have c11 := (hb1.cell (p := ⟨w.heap.size, 1, none⟩) (by simp)).trans c1) | (go_at_call 6; (first | (with_reducible refine (H6 _).out.mono ?_) | (with_reducible refine (H6b _).out.mono ?_)); rintro e w2 ⟨rfl, rfl⟩) | (go_at_call 7; refine (fromC (H7 _).out (by assumption)).mono ?_; rintro e w3 ⟨rfl, hb3⟩; have c30 := (hb3.cell (p := ⟨w.heap.size, 0, none⟩) (by simp)).trans c0; have c31 := (hb3.cell (p := ⟨w.heap.size, 1, none⟩) (by simp)).trans c1) | (go_at_call 8; refine (fromC (H8 _ (by assumption)).out (by assumption)).mono ?_; rintro e w4 ⟨rfl, hb4⟩; have c40 := (hb4.cell (p := ⟨w.heap.size, 0, none⟩) (by simp)).trans c0; have c41 := (hb4.cell (p := ⟨w.heap.size, 1, none⟩) (by simp)).trans c1) | (go_at_call 4; refine (fromC (HA _ (by assumption)).out (by assumption)).mono ?_; rintro e w5 ⟨rfl, hb5⟩))
          all_goals go_ret
          all_goals exact ⟨rfl, HBW.out _ (by assumption)⟩
        · clear HO H6b
          go_enter Tryd.func3, Tryd.ntmps3
          go_wp2_with (first | (go_at_call 5; refine (fromC (H5 _).out (by assumption)).mono ?_; rintro e w1 ⟨rfl, hb1⟩; have c10 := (hb1.cell (p := ⟨w.heap.size, 0, none⟩) (by simp)).trans c0; have c11 := (hb1.cell (p := ⟨w.heap.size, 1, none⟩) (by simp)).trans c1) | (go_at_call 6; refine (H6 _).out.mono ?_; rintro e w2 ⟨rfl, rfl⟩) | (go_at_call 7; refine (fromC (H7 _).out (by assumption)).mono ?_; rintro e w3 ⟨rfl, hb3⟩; have c30 := (hb3.cell (p := ⟨w.heap.size, 0, none⟩) (by simp)).trans c0; have c31 := (hb3.cell (p := ⟨w.heap.size, 1, none⟩) (by simp)).trans c1) | (go_at_call 8; refine (fromC (H8 _ (by assumption)).out (by assumption)).mono ?_; rintro e w4 ⟨rfl, hb4⟩; have c40 := (hb4.cell (p := ⟨w.heap.size, 0, none⟩) (by simp)).trans c0; have c41 := (hb4.cell (p := ⟨w.heap.size, 1, none⟩) (by simp)).trans c1) | (go_at_call 4; refine (fromC (HA _ (by assumption)).out (by assumption)).mono ?_; rintro e w5 ⟨rfl, hb5⟩))
          all_goals go_ret
          all_goals exact ⟨rfl, HBW.out _ (by assumption)⟩
end Go.Proofs.YtajhpomckpndnaaDoor
