/- divide. -/
import Derived.Test.YtjemolaobhlapaaGreatDoorNS
import Derived.Deep.LoopGhost
import Derived.Test.YtjemolaobhlapaaGreatDoorNO
set_option linter.unusedSimpArgs false
set_option linter.unusedVariables false
namespace Go.Proofs.YtjemolaobhlapaaGreatDoor
open Go.RowKit
set_option maxRecDepth 100000

set_option maxHeartbeats 4000000 in
theorem divide_long (a b : Nat) (ha : a < pw 29) (hb : b < pw 30) (hab : b ≤ a) (hl : 2 ≤ len b) (w : World) :
    Calls Tryz.prog 142 #[.agg (mag a), .agg (mag b)] w fun e w' => e = .returned (.tuple #[.agg (mag (a / b)), .agg (mag (a % b))]) ∧ Below w.heap.size w w' := by
  obtain ⟨B, hB⟩ : ∃ B, w.heap.size = B := ⟨_, rfl⟩
  obtain ⟨W, hW⟩ : ∃ W, (((w.alloc (.cells (mag a) 80)).alloc (.cells (mag b) 80)).alloc (.cells (magF (fun _ => 0) 0) 80)).alloc (.cells (magF (fun _ => 0) 0) 80) = W := ⟨_, rfl⟩
  have HW := Lib.hid (st4_start a b w hB hW)
  have hz0 := zeroM
  obtain ⟨r, hr, HR⟩ : ∃ r : Int, 0 ≤ r ∧ Hid (cmpN a b = r) := ⟨_, by unfold cmpN; split <;> (try split) <;> omega, rfl⟩
  have HC := Lib.hid (fun W => compare_any a b (pw_big ha) hb W r HR.out)
  have HD := Lib.hid (fun W => divideLong_any a b ha hb hab hl W)
  obtain ⟨q, hq⟩ : ∃ q, a / b = q := ⟨_, rfl⟩
  obtain ⟨m, hm⟩ : ∃ m, a % b = m := ⟨_, rfl⟩
  rw [hq, hm] at HD ⊢
  have b1 : ((len b : Int) == 1) = false := by simp; omega
  clear hq hm ha hb hab
  go_enter Tryz.func142, Tryz.ntmps142
  go_wp2_with (first | ((with_reducible refine wpM_load (.tmp 2) B ?_ HW.out.b0 ?_); rfl) | ((with_reducible refine wpM_load (.tmp 3) (B + 1) ?_ HW.out.b1 ?_); rfl) | (go_at_call 70; refine (HC.out _).mono ?_; rintro e w1 ⟨rfl, hb1⟩; have H1 := Lib.hid (HW.out.below hb1); clear hb1; have c30 := (H1.out.b1.at 30).trans (magF_used _ _)) | ((with_reducible refine wpM_load (.tmp 2) B ?_ H1.out.b0 ?_); rfl) | ((with_reducible refine wpM_load (.tmp 3) (B + 1) ?_ H1.out.b1 ?_); rfl) | (go_at_call 182; refine (HD.out _).mono ?_; rintro e w2 ⟨rfl, hb2⟩; have H2 := Lib.hid (H1.out.below hb2); have H3 := Lib.hid (H2.out.set2 (limb q) (len q)); clear hb2 c30) | ((with_reducible refine wpM_store (f := limb q) (u := len q) (.tmp 4) (.tmp 33) _ ?_ ?_ H2.out.b2 ?_); rfl; rfl) | ((with_reducible refine wpM_store (f := limb m) (u := len m) (.tmp 5) (.tmp 34) _ ?_ ?_ H3.out.b3 ?_); rfl; rfl))
  have H4 := H3.out.set3 (limb m) (len m)
  exact bodyPost_ret (retMM rfl _ _ (B + 2) (B + 3) rfl rfl H4.b2 H4.b3) rfl ⟨rfl, hB ▸ H4.bl⟩

theorem divide_any (a b : Nat) (ha : a < pw 29) (hb0 : 0 < b) (hb : b < pw 30) (w : World) :
    Calls Tryz.prog 142 #[.agg (mag a), .agg (mag b)] w fun e w' => e = .returned (.tuple #[.agg (mag (a / b)), .agg (mag (a % b))]) ∧ Below w.heap.size w w' := by
  by_cases hab : a < b
  · rw [Nat.div_eq_of_lt hab, Nat.mod_eq_of_lt hab]
    exact divide_less a b (pw_big ha) hb hab w
  · by_cases hl : len b = 1
    · exact divide_limb a b (pw_big ha) hb (by omega) hl w
    · have := (len_low hb hb0).1
      exact divide_long a b ha hb (by omega) (by omega) w
end Go.Proofs.YtjemolaobhlapaaGreatDoor

namespace Go.Proofs.YtjemolaobhlapaaGreatDoor
open Go.RowKit
set_option maxRecDepth 100000

theorem St3.pair {w0 : World} {B x y C q r : Nat} {w W : World} (h : St3 w0 B (limb x) (limb y) (fun _ => 0) (len x) (len y) 0 w) (hC : w.heap.size = C) (hW : (w.alloc (.cells (magF (fun _ => 0) 0) 80)).alloc (.cells (magF (fun _ => 0) 0) 80) = W) :
    BlockIs W C 80 (magF (fun _ => 0) 0) ∧ BlockIs (W.setRow C (magF (limb q) (len q))) (C + 1) 80 (magF (fun _ => 0) 0) ∧
    St3 w0 B (limb x) (limb y) (fun _ => 0) (len x) (len y) 0 ((W.setRow C (magF (limb q) (len q))).setRow (C + 1) (magF (limb r) (len r))) ∧ BlockIs ((W.setRow C (magF (limb q) (len q))).setRow (C + 1) (magF (limb r) (len r))) (C + 1) 80 (magF (limb r) (len r)) ∧ B + 2 < C := by
  have h2 := h.b2.lt
  have c0 : BlockIs W C 80 (magF (fun _ => 0) 0) := by rw [← hW, ← hC]; exact (BlockIs.new _ _ _).alloc _
  have c1 : BlockIs W (C + 1) 80 (magF (fun _ => 0) 0) := by
    rw [← hW, ← hC]
    have := BlockIs.new (w.alloc (.cells (magF (fun _ => 0) 0) 80)) 80 (magF (fun _ => 0) 0)
    rwa [World.size_alloc] at this
  have g0 : BlockIs W B 80 (magF (limb x) (len x)) := by rw [← hW]; exact (h.b0.alloc _).alloc _
  have g1 : BlockIs W (B + 1) 80 (magF (limb y) (len y)) := by rw [← hW]; exact (h.b1.alloc _).alloc _
  have g2 : BlockIs W (B + 2) 80 (magF (fun _ => 0) 0) := by rw [← hW]; exact (h.b2.alloc _).alloc _
  have bl : Below B w0 W := by rw [← hW]; exact (h.bl.alloc (by omega) _).alloc (by rw [World.size_alloc]; omega) _
  exact ⟨c0, c1.rowOther _ _ (by omega), ⟨(g0.rowOther _ _ (by omega)).rowOther _ _ (by omega), (g1.rowOther _ _ (by omega)).rowOther _ _ (by omega), (g2.rowOther _ _ (by omega)).rowOther _ _ (by omega), below_row (below_row bl _ _ (by omega)) _ _ (by omega)⟩, (c1.rowOther _ _ (by omega)).row _, by omega⟩

set_option maxHeartbeats 8000000 in
theorem gcd_any (a b : Nat) (ha : a < pw 29) (hb : b < pw 29) (w : World) :
    Calls Tryz.prog 92 #[.agg (mag a), .agg (mag b)] w fun e w' => e = .returned (.agg (mag (Nat.gcd a b))) ∧ Below w.heap.size w w' := by
  obtain ⟨B, hB⟩ : ∃ B, w.heap.size = B := ⟨_, rfl⟩
  obtain ⟨W, hW⟩ : ∃ W, ((w.alloc (.cells (mag a) 80)).alloc (.cells (mag b) 80)).alloc (.cells (magF (fun _ => 0) 0) 80) = W := ⟨_, rfl⟩
  have HW := Lib.hid (st3_start a b w hB hW)
  have hz0 := zeroM
  obtain ⟨g0, hg0⟩ : ∃ g, Nat.gcd a b = g := ⟨_, rfl⟩
  have HG0 := Lib.hid hg0
  rw [hg0]
  clear hg0
  have HAB := Lib.hid (And.intro ha hb)
  clear ha hb
  go_enter Tryz.func92, Tryz.ntmps92
  go_wp2
  clear hW
  go_loopg [] b (fun g wr => ∃ x y : Nat, y ≤ g ∧ Hid (x < pw 29 ∧ y < pw 29) ∧ Hid (Nat.gcd x y = g0) ∧ Hid (St3 w B (limb x) (limb y) (fun _ => 0) (len x) (len y) 0 wr))
  case atStart => exact ⟨a, b, Nat.le_refl _, HAB, HG0, HW⟩
  case round =>
    clear HW HG0 HAB
    obtain ⟨x, y, hyg, HAB, HG0, HW⟩ := hrel
    have hx30 := pw_big HAB.out.1
    have hy30 := pw_big HAB.out.2
    by_cases hy0 : y = 0
    · have HZ := Lib.hid (fun W => isZero_any y hy30 W true (by simp [hy0]))
      have HE := Lib.hid (show x = g0 by have := HG0.out; rw [hy0, Nat.gcd_zero_right] at this; exact this)
      clear hy0 hx30 hy30
      go_wp2_with (first | ((with_reducible refine wpM_load (.tmp 3) (B + 1) ?_ HW.out.b1 ?_); rfl) | (go_at_call 86; refine (HZ.out _).mono ?_; rintro e w1 ⟨rfl, hb1⟩; have HWa := Lib.hid (HW.out.below hb1); clear hb1) | ((with_reducible refine wpM_load (.tmp 2) B ?_ HWa.out.b0 ?_); rfl) | ((with_reducible refine wpM_store (f := limb x) (u := len x) (.tmp 4) (.tmp 30) (B + 2) ?_ ?_ HWa.out.b2 ?_); rfl; rfl))
      exact bodyPost_ret (retM rfl _ _ (B + 2) rfl (HWa.out.b2.row _)) rfl ⟨ret_agg (by rw [HE.out]), hB ▸ below_row HWa.out.bl _ _ (by omega)⟩
    · have HZ := Lib.hid (fun W => isZero_any y hy30 W false (by simp; omega))
      by_cases hsm : x < 1000000000000000000 ∧ y < 1000000000000000000
      · obtain ⟨hxs, hys⟩ := hsm
        have HS1 := Lib.hid (fun W => isSmall_any x hx30 W true (by simp; omega))
        have HS2 := Lib.hid (fun W => isSmall_any y hy30 W true (by simp; omega))
        have HW1 := Lib.hid (fun W => word_any x hx30 W)
        have HW2 := Lib.hid (fun W => word_any y hy30 W)
        have HM1 := Lib.hid (show x % 18446744073709551616 = x by omega)
        have HM2 := Lib.hid (show y % 18446744073709551616 = y by omega)
        have HG := Lib.hid (fun W => wordGcd_any x y (by omega) (by omega) W)
        have HO := Lib.hid (fun W => ofWord_any (Nat.gcd x y) (gcd_lt (by omega) (by omega)) W)
        clear hxs hys hx30 hy30 hy0
        go_wp2_with (first | ((with_reducible refine wpM_load (.tmp 3) (B + 1) ?_ HW.out.b1 ?_); rfl) | (go_at_call 86; refine (HZ.out _).mono ?_; rintro e w1 ⟨rfl, hb1⟩; have HWa := Lib.hid (HW.out.below hb1); clear hb1) | ((with_reducible refine wpM_load (.tmp 2) B ?_ HWa.out.b0 ?_); rfl) | ((with_reducible refine wpM_loadG (.tmp 3) (B + 1) ?_ ?_ HWb.out.b1 ?_); rfl; rfl) | (go_at_call 145; (with_reducible refine (HS2.out _).mono ?_); rintro e w3 ⟨rfl, hb3⟩; have HWc := Lib.hid (HWb.out.below hb3); clear hb3) | (go_at_call 145; refine (HS1.out _).mono ?_; rintro e w2 ⟨rfl, hb2⟩; have HWb := Lib.hid (HWa.out.below hb2); clear hb2))
        rw [HM1.out] at HW1
        rw [HM2.out] at HW2
        have hH0 := HWc.out.drew
        refine wp_region_held_drew (S := fun w' => ∃ h z, St3 w B (limb x) (limb y) h (len x) (len y) z w') (by kernel_rfl) ⟨_, _, hH0⟩ (fun hS => ?_)
        refine wpAnyH_take (i := 0) rfl (by kernel_rfl) (by kernel_rfl) (by kernel_rfl) (fun _ _ _ h => h) (yM_load rfl (.tmp 2) rfl B rfl (fun w' ⟨_, _, h⟩ => h.b0)) hS ?_
        simp only [Act.put, List.setIfInBounds_toArray, List.set_cons_zero, List.set_cons_succ]
        refine wpAnyH_take (i := 2) rfl (by kernel_rfl) (by kernel_rfl) (by kernel_rfl) (fun _ _ _ h => h) (yM_load rfl (.tmp 3) rfl (B + 1) rfl (fun w' ⟨_, _, h⟩ => h.b1)) hS ?_
        simp only [Act.put, List.setIfInBounds_toArray, List.set_cons_zero, List.set_cons_succ]
        clear hS
        refine wpAnyH_ready (rs := [1]) (by kernel_rfl) (by simp) (AllReadyH.cons rfl (fun K hK => ?_) AllReadyH.nil)
        go_simp
        go_at_call 72
        refine (HW1.out _).mono ?_
        rintro e w4 ⟨rfl, hb4⟩
        have hH4 := hH0.below hb4
        refine hK.out _ _ ⟨_, _, hH4⟩ (fun _ => ?_)
        clear hK K hb4
        try simp only [Act.put, List.setIfInBounds_toArray, List.set_cons_zero, List.set_cons_succ]
        refine wpAnyH_ready (rs := [3]) (by kernel_rfl) (by simp) (AllReadyH.cons rfl (fun K hK => ?_) AllReadyH.nil)
        go_simp
        go_at_call 72
        refine (HW2.out _).mono ?_
        rintro e w5 ⟨rfl, hb5⟩
        have hH5 := hH4.below hb5
        refine hK.out _ _ ⟨_, _, hH5⟩ (fun _ => ?_)
        clear hK K hb5
        try simp only [Act.put, List.setIfInBounds_toArray, List.set_cons_zero, List.set_cons_succ]
        refine wpAnyH_ready (rs := [4]) (by kernel_rfl) (by simp) (AllReadyH.cons rfl (fun K hK => ?_) AllReadyH.nil)
        go_simp
        go_at_call 146
        refine (HG.out _).mono ?_
        rintro e w6 ⟨rfl, hb6⟩
        have hH6 := hH5.below hb6
        refine hK.out _ _ ⟨_, _, hH6⟩ (fun _ => ?_)
        clear hK K hb6
        try simp only [Act.put, List.setIfInBounds_toArray, List.set_cons_zero, List.set_cons_succ]
        refine wpAnyH_ready (rs := [5]) (by kernel_rfl) (by simp) (AllReadyH.cons rfl (fun K hK => ?_) AllReadyH.nil)
        go_simp
        go_at_call 143
        refine (HO.out _).mono ?_
        rintro e w7 ⟨rfl, hb7⟩
        have hH7 := hH6.below hb7
        refine hK.out _ _ ⟨_, _, hH7⟩ (fun _ => ?_)
        clear hK K hb7
        try simp only [Act.put, List.setIfInBounds_toArray, List.set_cons_zero, List.set_cons_succ]
        refine wpAnyH_ready (rs := [6]) (by kernel_rfl) (by simp) (AllReadyH.cons rfl (fun K hK => ?_) AllReadyH.nil)
        rw [if_pos (by rfl)]
        refine wpM_store1 (.tmp 4) (.tmp 21) rfl (B + 2) (f := limb (Nat.gcd x y)) (u := len (Nat.gcd x y)) rfl rfl hH7.b2 ?_
        refine hK.out _ _ ⟨_, _, hH7.b0.rowOther _ _ (by omega), hH7.b1.rowOther _ _ (by omega), hH7.b2.row _, below_row hH7.bl _ _ (by omega)⟩ (fun _ => ?_)
        clear hK K
        refine wpAnyH_done (by kernel_rfl) ?_ _
        go_wp2
        exact bodyPost_ret (retM rfl _ _ (B + 2) rfl (hH7.b2.row _)) rfl ⟨ret_agg (by rw [HG0.out]), hB ▸ below_row hH7.bl _ _ (by omega)⟩
      · have HD := Lib.hid (fun W => divide_any x y HAB.out.1 (by omega) hy30 W)
        have HN := Lib.hid (show Nat.gcd y (x % y) = g0 by rw [← HG0.out, Nat.gcd_comm x y, Nat.gcd_rec y x, Nat.gcd_comm])
        have HL := Lib.hid (show x % y < y from Nat.mod_lt _ (by omega))
        obtain ⟨q, hq⟩ : ∃ q, x / y = q := ⟨_, rfl⟩
        obtain ⟨r, hr⟩ : ∃ r, x % y = r := ⟨_, rfl⟩
        rw [hq, hr] at HD
        rw [hr] at HN HL
        clear hq hr
        have HAR := Lib.hid (And.intro HAB.out.2 (Nat.lt_trans HL.out HAB.out.2))
        by_cases hxs : x < 1000000000000000000
        · have HS1 := Lib.hid (fun W => isSmall_any x hx30 W true (by simp; omega))
          have HS2 := Lib.hid (fun W => isSmall_any y hy30 W false (by simp; omega))
          clear hsm hxs hx30 hy30 hy0
          go_wp2_with (first | ((with_reducible refine wpM_load (.tmp 3) (B + 1) ?_ HW.out.b1 ?_); rfl) | (go_at_call 86; refine (HZ.out _).mono ?_; rintro e w1 ⟨rfl, hb1⟩; have HWa := Lib.hid (HW.out.below hb1); clear hb1) | ((with_reducible refine wpM_load (.tmp 2) B ?_ HWa.out.b0 ?_); rfl) | ((with_reducible refine wpM_loadG (.tmp 3) (B + 1) ?_ ?_ HWb.out.b1 ?_); rfl; rfl) | (go_at_call 145; (with_reducible refine (HS2.out _).mono ?_); rintro e w3 ⟨rfl, hb3⟩; have HWc := Lib.hid (HWb.out.below hb3); clear hb3) | (go_at_call 145; (with_reducible refine (HS1.out _).mono ?_); rintro e w2 ⟨rfl, hb2⟩; have HWb := Lib.hid (HWa.out.below hb2); clear hb2) | ((with_reducible refine wpM_load (.tmp 2) B ?_ HWc.out.b0 ?_); rfl) | ((with_reducible refine wpM_load (.tmp 3) (B + 1) ?_ HWc.out.b1 ?_); rfl) | (go_at_call 142; refine (HD.out _).mono ?_; rintro e w4 ⟨rfl, hb4⟩; have HWd := Lib.hid (HWc.out.below hb4); obtain ⟨C, hC⟩ : ∃ C, w4.heap.size = C := ⟨_, rfl⟩; obtain ⟨V, hV⟩ : ∃ V, (w4.alloc (.cells (magF (fun _ => 0) 0) 80)).alloc (.cells (magF (fun _ => 0) 0) 80) = V := ⟨_, rfl⟩; have HF := Lib.hid (HWd.out.pair (q := q) (r := r) hC hV); clear hb4) | ((with_reducible refine wpM_store (.tmp 5) (.tmp 26) C (f := limb q) (u := len q) ?_ ?_ HF.out.1 ?_); rfl; rfl) | ((with_reducible refine wpM_store (.tmp 6) (.tmp 27) (C + 1) (f := limb r) (u := len r) ?_ ?_ HF.out.2.1 ?_); rfl; rfl; have HP := Lib.hid HF.out.2.2; obtain ⟨U, hU⟩ : ∃ U, (V.setRow C (magF (limb q) (len q))).setRow (C + 1) (magF (limb r) (len r)) = U := ⟨_, rfl⟩; rw [hU] at HP ⊢; clear hU))
          have hS0 : St3 w B (limb x) (limb y) (fun _ => 0) (len x) (len y) 0 U.drew ∧ BlockIs U.drew (C + 1) 80 (magF (limb r) (len r)) := ⟨HP.out.1.drew, HP.out.2.1.drew⟩
          have hBC := HP.out.2.2
          refine AnyTill.region (T := Till 2 3 (fun w' => BlockIs w' (B + 1) 80 (magF (limb y) (len y))) (fun w' => BlockIs w' (C + 1) 80 (magF (limb r) (len r)))) (by kernel_rfl) ?_
          refine AnyTill.take1 (i := 0) rfl rfl (by kernel_rfl) (by omega) (by omega) (by kernel_rfl) (by kernel_rfl) (by kernel_rfl) (by kernel_rfl) (fun _ _ _ h => h) (yM_load rfl (.tmp 3) rfl (B + 1) rfl (fun w' h => h)) hS0.1.b1 hS0.2 ?_
          try simp only [A1, A2, A3, Act.put, A4, A5, A6]
          refine AnyTill.take2 (i := 1) rfl rfl (by kernel_rfl) (by omega) (by omega) (by kernel_rfl) (by kernel_rfl) (by kernel_rfl) (by kernel_rfl) (fun _ _ _ h => h) (yM_load rfl (.tmp 6) rfl (C + 1) rfl (fun w' h => h)) hS0.1.b1 hS0.2 ?_
          try simp only [A1, A2, A3, Act.put, A4, A5, A6]
          refine AnyTill.ready (i := 2) (by kernel_rfl) rfl (fun K hK => ?_)
          rw [if_pos (by rfl)]
          refine wpM_store1 (.tmp 2) (.tmp 28) rfl B (f := limb y) (u := len y) rfl rfl hS0.1.b0 ?_
          have hS1 : St3 w B (limb y) (limb y) (fun _ => 0) (len y) (len y) 0 (U.drew.setRow B (magF (limb y) (len y))) ∧ BlockIs (U.drew.setRow B (magF (limb y) (len y))) (C + 1) 80 (magF (limb r) (len r)) := ⟨⟨hS0.1.b0.row _, hS0.1.b1.rowOther _ _ (by omega), hS0.1.b2.rowOther _ _ (by omega), below_row hS0.1.bl _ _ (by omega)⟩, hS0.2.rowOther _ _ (by omega)⟩
          refine hK.out _ _ ⟨fun h => absurd h (by decide), fun _ => hS1.2⟩ ?_
          clear hK K
          refine AnyTill.ready (i := 3) (by kernel_rfl) rfl (fun K hK => ?_)
          rw [if_pos (by rfl)]
          refine wpM_store1 (.tmp 3) (.tmp 29) rfl (B + 1) (f := limb r) (u := len r) rfl rfl hS1.1.b1 ?_
          have hS2 : St3 w B (limb y) (limb r) (fun _ => 0) (len y) (len r) 0 ((U.drew.setRow B (magF (limb y) (len y))).setRow (B + 1) (magF (limb r) (len r))) := ⟨hS1.1.b0.rowOther _ _ (by omega), hS1.1.b1.row _, hS1.1.b2.rowOther _ _ (by omega), below_row hS1.1.bl _ _ (by omega)⟩
          refine hK.out _ _ ⟨fun h => absurd h (by decide), fun h => absurd h (by decide)⟩ ?_
          clear hK K
          refine AnyTill.done (by kernel_rfl) ?_ _
          have HS2' := Lib.hid hS2
          clear hS0 hS1 hS2
          go_wp2
          obtain ⟨g, rfl⟩ : ∃ g, gk = g + 1 := ⟨gk - 1, by have := HL.out; omega⟩
          go_roundg g
          case rel => exact ⟨y, r, by have := HL.out; omega, HAR, HN, HS2'⟩
          case measure => omega
        · have HS1 := Lib.hid (fun W => isSmall_any x hx30 W false (by simp; omega))
          clear hsm hxs hx30 hy30 hy0
          go_wp2_with (first | ((with_reducible refine wpM_load (.tmp 3) (B + 1) ?_ HW.out.b1 ?_); rfl) | (go_at_call 86; refine (HZ.out _).mono ?_; rintro e w1 ⟨rfl, hb1⟩; have HWa := Lib.hid (HW.out.below hb1); clear hb1) | ((with_reducible refine wpM_load (.tmp 2) B ?_ HWa.out.b0 ?_); rfl) | (go_at_call 145; (with_reducible refine (HS1.out _).mono ?_); rintro e w2 ⟨rfl, hb2⟩; have HWb := Lib.hid (HWa.out.below hb2); clear hb2) | ((with_reducible refine wpM_load (.tmp 2) B ?_ HWb.out.b0 ?_); rfl) | ((with_reducible refine wpM_load (.tmp 3) (B + 1) ?_ HWb.out.b1 ?_); rfl) | (go_at_call 142; refine (HD.out _).mono ?_; rintro e w4 ⟨rfl, hb4⟩; have HWd := Lib.hid (HWb.out.below hb4); obtain ⟨C, hC⟩ : ∃ C, w4.heap.size = C := ⟨_, rfl⟩; obtain ⟨V, hV⟩ : ∃ V, (w4.alloc (.cells (magF (fun _ => 0) 0) 80)).alloc (.cells (magF (fun _ => 0) 0) 80) = V := ⟨_, rfl⟩; have HF := Lib.hid (HWd.out.pair (q := q) (r := r) hC hV); clear hb4) | ((with_reducible refine wpM_store (.tmp 5) (.tmp 26) C (f := limb q) (u := len q) ?_ ?_ HF.out.1 ?_); rfl; rfl) | ((with_reducible refine wpM_store (.tmp 6) (.tmp 27) (C + 1) (f := limb r) (u := len r) ?_ ?_ HF.out.2.1 ?_); rfl; rfl; have HP := Lib.hid HF.out.2.2; obtain ⟨U, hU⟩ : ∃ U, (V.setRow C (magF (limb q) (len q))).setRow (C + 1) (magF (limb r) (len r)) = U := ⟨_, rfl⟩; rw [hU] at HP ⊢; clear hU))
          have hS0 : St3 w B (limb x) (limb y) (fun _ => 0) (len x) (len y) 0 U.drew ∧ BlockIs U.drew (C + 1) 80 (magF (limb r) (len r)) := ⟨HP.out.1.drew, HP.out.2.1.drew⟩
          have hBC := HP.out.2.2
          refine AnyTill.region (T := Till 2 3 (fun w' => BlockIs w' (B + 1) 80 (magF (limb y) (len y))) (fun w' => BlockIs w' (C + 1) 80 (magF (limb r) (len r)))) (by kernel_rfl) ?_
          refine AnyTill.take1 (i := 0) rfl rfl (by kernel_rfl) (by omega) (by omega) (by kernel_rfl) (by kernel_rfl) (by kernel_rfl) (by kernel_rfl) (fun _ _ _ h => h) (yM_load rfl (.tmp 3) rfl (B + 1) rfl (fun w' h => h)) hS0.1.b1 hS0.2 ?_
          try simp only [A1, A2, A3, Act.put, A4, A5, A6]
          refine AnyTill.take2 (i := 1) rfl rfl (by kernel_rfl) (by omega) (by omega) (by kernel_rfl) (by kernel_rfl) (by kernel_rfl) (by kernel_rfl) (fun _ _ _ h => h) (yM_load rfl (.tmp 6) rfl (C + 1) rfl (fun w' h => h)) hS0.1.b1 hS0.2 ?_
          try simp only [A1, A2, A3, Act.put, A4, A5, A6]
          refine AnyTill.ready (i := 2) (by kernel_rfl) rfl (fun K hK => ?_)
          rw [if_pos (by rfl)]
          refine wpM_store1 (.tmp 2) (.tmp 28) rfl B (f := limb y) (u := len y) rfl rfl hS0.1.b0 ?_
          have hS1 : St3 w B (limb y) (limb y) (fun _ => 0) (len y) (len y) 0 (U.drew.setRow B (magF (limb y) (len y))) ∧ BlockIs (U.drew.setRow B (magF (limb y) (len y))) (C + 1) 80 (magF (limb r) (len r)) := ⟨⟨hS0.1.b0.row _, hS0.1.b1.rowOther _ _ (by omega), hS0.1.b2.rowOther _ _ (by omega), below_row hS0.1.bl _ _ (by omega)⟩, hS0.2.rowOther _ _ (by omega)⟩
          refine hK.out _ _ ⟨fun h => absurd h (by decide), fun _ => hS1.2⟩ ?_
          clear hK K
          refine AnyTill.ready (i := 3) (by kernel_rfl) rfl (fun K hK => ?_)
          rw [if_pos (by rfl)]
          refine wpM_store1 (.tmp 3) (.tmp 29) rfl (B + 1) (f := limb r) (u := len r) rfl rfl hS1.1.b1 ?_
          have hS2 : St3 w B (limb y) (limb r) (fun _ => 0) (len y) (len r) 0 ((U.drew.setRow B (magF (limb y) (len y))).setRow (B + 1) (magF (limb r) (len r))) := ⟨hS1.1.b0.rowOther _ _ (by omega), hS1.1.b1.row _, hS1.1.b2.rowOther _ _ (by omega), below_row hS1.1.bl _ _ (by omega)⟩
          refine hK.out _ _ ⟨fun h => absurd h (by decide), fun h => absurd h (by decide)⟩ ?_
          clear hK K
          refine AnyTill.done (by kernel_rfl) ?_ _
          have HS2' := Lib.hid hS2
          clear hS0 hS1 hS2
          go_wp2
          obtain ⟨g, rfl⟩ : ∃ g, gk = g + 1 := ⟨gk - 1, by have := HL.out; omega⟩
          go_roundg g
          case rel => exact ⟨y, r, by have := HL.out; omega, HAR, HN, HS2'⟩
          case measure => omega
end Go.Proofs.YtjemolaobhlapaaGreatDoor
