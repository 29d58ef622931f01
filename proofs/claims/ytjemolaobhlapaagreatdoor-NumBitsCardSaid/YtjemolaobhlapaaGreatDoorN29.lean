/- checkVector, the check of Bits, Wrap. -/
import Derived.Test.YtjemolaobhlapaaGreatDoorN27
set_option linter.unusedSimpArgs false
set_option linter.unusedVariables false
namespace Go.Proofs.YtjemolaobhlapaaGreatDoor
open Go.RowKit
set_option maxRecDepth 100000

theorem cmp_le {a b : Nat} (h : a ≤ b) : cmpN a b = 0 ∨ cmpN a b = -1 := by
  unfold cmpN
  by_cases he : a = b
  · exact Or.inl (by rw [if_pos he])
  · exact Or.inr (by rw [if_neg he, if_pos (by omega)])
theorem cmp_more {a b : Nat} (h : b < a) : cmpN a b = 1 := by
  unfold cmpN
  rw [if_neg (by omega), if_neg (by omega)]
def vecS (s : Bool) (n k : Nat) : Int := if s = true ∨ ones k < n then 3 else 0

set_option maxHeartbeats 4000000 in
theorem checkVector_any (s : Bool) (n k : Nat) (ha : Num s n) (hk : k ≤ 64) (w : World) (r : Int) (hr : vecS s n k = r) :
    Calls Tryz.prog 116 #[.string (bs (numeral s n)), .int .i64 k] w fun e w' => e = .returned (.int .i64 r) ∧ Below w.heap.size w w' := by
  obtain ⟨B, hB⟩ : ∃ B, w.heap.size = B := ⟨_, rfl⟩
  have hx := check_numeral ha
  have HRX := Lib.hid (fun W => readNum ha W)
  obtain ⟨x, hx2⟩ : ∃ x, bs (numeral s n) = x := ⟨_, rfl⟩
  rw [hx2] at HRX hx ⊢
  have HC := Lib.hid (fun W => Check_any x W 0 hx)
  have hol := ones_lt hk
  have HM := Lib.hid (fun W => mask_any k hk W)
  have HW := Lib.hid (fun W => ofWord_any (ones k) hol W)
  obtain ⟨c, hc⟩ : ∃ c, cmpN n (ones k) = c := ⟨_, rfl⟩
  have HCM := Lib.hid (fun W => compare_any n (ones k) ha.lt30 (Nat.lt_of_lt_of_le hol (Nat.le_trans word_pw pw3_30)) W c hc)
  have hcc : (c = 1 ∧ ones k < n) ∨ (c = 0 ∧ ¬ ones k < n) ∨ (c = -1 ∧ ¬ ones k < n) := by
    by_cases h : ones k < n
    · exact Or.inl ⟨by rw [← hc]; exact cmp_more h, h⟩
    · rcases cmp_le (Nat.le_of_not_lt h) with h2 | h2
      · exact Or.inr (Or.inl ⟨by rw [← hc]; exact h2, h⟩)
      · exact Or.inr (Or.inr ⟨by rw [← hc]; exact h2, h⟩)
  unfold vecS at hr
  obtain ⟨o, ho⟩ : ∃ o, ones k = o := ⟨_, rfl⟩
  rw [ho] at HM HW HCM hcc hr
  have hzS := zeroS
  clear hx2 hx ha hc hol ho
  cases s
  · rcases hcc with ⟨rfl, h1⟩ | ⟨rfl, h1⟩ | ⟨rfl, h1⟩
    all_goals
      have HR := Lib.hid (show (if false = true ∨ o < n then (3 : Int) else 0) = r from hr)
      have H1 := Lib.hid h1
      clear hr h1
      go_enter Tryz.func116, Tryz.ntmps116
      go_wp2_with (first | (go_at_call 12; refine (HC.out _).mono ?_; rintro e w1 ⟨rfl, hb1⟩; have HB1 := Lib.hid (show Below B w w1 from hB ▸ hb1)) | (go_at_call 69; refine (HRX.out _).mono ?_; rintro e w2 ⟨rfl, hb2⟩; have HB2 := Lib.hid (HB1.out.trans (hb2.mono (by have := HB1.out.size; omega))); obtain ⟨D, hD⟩ : ∃ D, w2.heap.size = D := ⟨_, rfl⟩; obtain ⟨V, hV⟩ : ∃ V, w2.alloc (.cells (sigF (fun _ => 0) 0 false) 82) = V := ⟨_, rfl⟩; have HX := Lib.hid (signedBox (f := limb n) (u := len n) (s := false) HB2.out hB hD hV)) | ((with_reducible refine wpS_store (.tmp 6) (.tmp 13) D (f := limb n) (u := len n) (s := false) ?_ ?_ HX.out.1 ?_); rfl; rfl; have HY := Lib.hid HX.out.2; obtain ⟨U, hU⟩ : ∃ U, V.setRow D (sigF (limb n) (len n) false) = U := ⟨_, rfl⟩; rw [hU] at HY ⊢; clear hU))
    · clear hzS hV hb1 hb2
      have hS0 : BlockIs U.drew D 82 (sigF (limb n) (len n) false) ∧ Below B w U.drew := ⟨HY.out.1.drew, HY.out.2.drew⟩
      refine wp_region_held_drew (S := fun w' => BlockIs w' D 82 (sigF (limb n) (len n) false) ∧ Below B w w') (by kernel_rfl) hS0 (fun hS => ?_)
      refine wpAnyH_take (i := 0) (v := .pointer (some ⟨D, 31, none⟩)) rfl (by kernel_rfl) (by kernel_rfl) (by kernel_rfl) (fun _ _ _ h => h) (Or.inl ⟨by rfl, fun w' h => by go_simp⟩) hS ?_
      try simp only [A1, A2, A3, Act.put, A4, A5, A6]
      refine wpAnyH_take (i := 1) rfl (by kernel_rfl) (by kernel_rfl) (by kernel_rfl) (fun _ _ _ h => h) (ySN_load rfl (.tmp 14) rfl D rfl (fun w' h => h.1)) hS ?_
      try simp only [A1, A2, A3, Act.put, A4, A5, A6]
      refine wpAnyH_take (i := 2) (v := .bool false) rfl (by kernel_rfl) (by kernel_rfl) (by kernel_rfl) (fun _ _ _ h => h) (Or.inl ⟨by rfl, fun w' _ => by rfl⟩) hS ?_
      try simp only [A1, A2, A3, Act.put, A4, A5, A6]
      refine wpAnyH_take (i := 3) (v := .pointer (some ⟨D, 0, none⟩)) rfl (by kernel_rfl) (by kernel_rfl) (by kernel_rfl) (fun _ _ _ h => h) (Or.inl ⟨by rfl, fun w' h => by go_simp⟩) hS ?_
      try simp only [A1, A2, A3, Act.put, A4, A5, A6]
      refine wpAnyH_take (i := 4) rfl (by kernel_rfl) (by kernel_rfl) (by kernel_rfl) (fun _ _ _ h => h) (ySM_load rfl (.tmp 17) rfl D rfl (fun w' h => h.1)) hS ?_
      try simp only [A1, A2, A3, Act.put, A4, A5, A6]
      refine wpAnyH_take (i := 5) (v := .int .i64 k) rfl (by kernel_rfl) (by kernel_rfl) (by kernel_rfl) (fun _ _ _ h => h) (Or.inl ⟨by rfl, fun w' _ => by rfl⟩) hS ?_
      try simp only [A1, A2, A3, Act.put, A4, A5, A6]
      refine wpAnyH_ready (rs := [6]) (by kernel_rfl) (by simp) (AllReadyH.cons rfl (fun K hK => ?_) AllReadyH.nil)
      go_simp
      go_at_call 113
      refine (HM.out _).mono ?_
      rintro e w4 ⟨rfl, rfl⟩
      have hS4 := hS
      clear hS
      refine hK.out _ _ hS4 (fun hS => ?_)
      clear hK K
      try simp only [A1, A2, A3, Act.put, A4, A5, A6]
      refine wpAnyH_ready (rs := [7]) (by kernel_rfl) (by simp) (AllReadyH.cons rfl (fun K hK => ?_) AllReadyH.nil)
      go_simp
      go_at_call 143
      refine (HW.out _).mono ?_
      rintro e w5 ⟨rfl, hb5⟩
      have hS5 : BlockIs w5 D 82 (sigF (limb n) (len n) false) ∧ Below B w w5 := ⟨hS4.1.below hb5 hS4.1.lt, hS4.2.trans (hb5.mono (by have := hS4.2.size; omega))⟩
      clear hS
      refine hK.out _ _ hS5 (fun hS => ?_)
      clear hK K
      try simp only [A1, A2, A3, Act.put, A4, A5, A6]
      refine wpAnyH_ready (rs := [8]) (by kernel_rfl) (by simp) (AllReadyH.cons rfl (fun K hK => ?_) AllReadyH.nil)
      go_simp
      go_at_call 70
      refine (HCM.out _).mono ?_
      rintro e w6 ⟨rfl, hb6⟩
      have hS6 : BlockIs w6 D 82 (sigF (limb n) (len n) false) ∧ Below B w w6 := ⟨hS5.1.below hb6 hS5.1.lt, hS5.2.trans (hb6.mono (by have := hS5.2.size; omega))⟩
      clear hS
      refine hK.out _ _ hS6 (fun hS => ?_)
      clear hK K
      try simp only [A1, A2, A3, Act.put, A4, A5, A6]
      refine wpAnyH_take (i := 9) (v := .bool true) rfl (by kernel_rfl) (by kernel_rfl) (by kernel_rfl) (fun _ _ _ h => h) (Or.inl ⟨by rfl, fun w' h => by go_simp⟩) hS ?_
      try simp only [A1, A2, A3, Act.put, A4, A5, A6]
      refine wpAnyH_take (i := 10) (v := .bool true) rfl (by kernel_rfl) (by kernel_rfl) (by kernel_rfl) (fun _ _ _ h => h) (Or.inl ⟨by rfl, fun w' h => by go_simp⟩) hS ?_
      try simp only [A1, A2, A3, Act.put, A4, A5, A6]
      refine wpAnyH_done (by kernel_rfl) ?_ _
      go_wp2
      go_ret
      exact ⟨ret_int (by rw [← HR.out]; first | (rw [if_pos (Or.inr H1.out)]) | (rw [if_neg (by have := H1.out; simp; omega)])), hB ▸ hS6.2⟩
    · clear hzS hV hb1 hb2
      have hS0 : BlockIs U.drew D 82 (sigF (limb n) (len n) false) ∧ Below B w U.drew := ⟨HY.out.1.drew, HY.out.2.drew⟩
      refine wp_region_held_drew (S := fun w' => BlockIs w' D 82 (sigF (limb n) (len n) false) ∧ Below B w w') (by kernel_rfl) hS0 (fun hS => ?_)
      refine wpAnyH_take (i := 0) (v := .pointer (some ⟨D, 31, none⟩)) rfl (by kernel_rfl) (by kernel_rfl) (by kernel_rfl) (fun _ _ _ h => h) (Or.inl ⟨by rfl, fun w' h => by go_simp⟩) hS ?_
      try simp only [A1, A2, A3, Act.put, A4, A5, A6]
      refine wpAnyH_take (i := 1) rfl (by kernel_rfl) (by kernel_rfl) (by kernel_rfl) (fun _ _ _ h => h) (ySN_load rfl (.tmp 14) rfl D rfl (fun w' h => h.1)) hS ?_
      try simp only [A1, A2, A3, Act.put, A4, A5, A6]
      refine wpAnyH_take (i := 2) (v := .bool false) rfl (by kernel_rfl) (by kernel_rfl) (by kernel_rfl) (fun _ _ _ h => h) (Or.inl ⟨by rfl, fun w' _ => by rfl⟩) hS ?_
      try simp only [A1, A2, A3, Act.put, A4, A5, A6]
      refine wpAnyH_take (i := 3) (v := .pointer (some ⟨D, 0, none⟩)) rfl (by kernel_rfl) (by kernel_rfl) (by kernel_rfl) (fun _ _ _ h => h) (Or.inl ⟨by rfl, fun w' h => by go_simp⟩) hS ?_
      try simp only [A1, A2, A3, Act.put, A4, A5, A6]
      refine wpAnyH_take (i := 4) rfl (by kernel_rfl) (by kernel_rfl) (by kernel_rfl) (fun _ _ _ h => h) (ySM_load rfl (.tmp 17) rfl D rfl (fun w' h => h.1)) hS ?_
      try simp only [A1, A2, A3, Act.put, A4, A5, A6]
      refine wpAnyH_take (i := 5) (v := .int .i64 k) rfl (by kernel_rfl) (by kernel_rfl) (by kernel_rfl) (fun _ _ _ h => h) (Or.inl ⟨by rfl, fun w' _ => by rfl⟩) hS ?_
      try simp only [A1, A2, A3, Act.put, A4, A5, A6]
      refine wpAnyH_ready (rs := [6]) (by kernel_rfl) (by simp) (AllReadyH.cons rfl (fun K hK => ?_) AllReadyH.nil)
      go_simp
      go_at_call 113
      refine (HM.out _).mono ?_
      rintro e w4 ⟨rfl, rfl⟩
      have hS4 := hS
      clear hS
      refine hK.out _ _ hS4 (fun hS => ?_)
      clear hK K
      try simp only [A1, A2, A3, Act.put, A4, A5, A6]
      refine wpAnyH_ready (rs := [7]) (by kernel_rfl) (by simp) (AllReadyH.cons rfl (fun K hK => ?_) AllReadyH.nil)
      go_simp
      go_at_call 143
      refine (HW.out _).mono ?_
      rintro e w5 ⟨rfl, hb5⟩
      have hS5 : BlockIs w5 D 82 (sigF (limb n) (len n) false) ∧ Below B w w5 := ⟨hS4.1.below hb5 hS4.1.lt, hS4.2.trans (hb5.mono (by have := hS4.2.size; omega))⟩
      clear hS
      refine hK.out _ _ hS5 (fun hS => ?_)
      clear hK K
      try simp only [A1, A2, A3, Act.put, A4, A5, A6]
      refine wpAnyH_ready (rs := [8]) (by kernel_rfl) (by simp) (AllReadyH.cons rfl (fun K hK => ?_) AllReadyH.nil)
      go_simp
      go_at_call 70
      refine (HCM.out _).mono ?_
      rintro e w6 ⟨rfl, hb6⟩
      have hS6 : BlockIs w6 D 82 (sigF (limb n) (len n) false) ∧ Below B w w6 := ⟨hS5.1.below hb6 hS5.1.lt, hS5.2.trans (hb6.mono (by have := hS5.2.size; omega))⟩
      clear hS
      refine hK.out _ _ hS6 (fun hS => ?_)
      clear hK K
      try simp only [A1, A2, A3, Act.put, A4, A5, A6]
      refine wpAnyH_take (i := 9) (v := .bool false) rfl (by kernel_rfl) (by kernel_rfl) (by kernel_rfl) (fun _ _ _ h => h) (Or.inl ⟨by rfl, fun w' h => by go_simp⟩) hS ?_
      try simp only [A1, A2, A3, Act.put, A4, A5, A6]
      refine wpAnyH_take (i := 10) (v := .bool false) rfl (by kernel_rfl) (by kernel_rfl) (by kernel_rfl) (fun _ _ _ h => h) (Or.inl ⟨by rfl, fun w' h => by go_simp⟩) hS ?_
      try simp only [A1, A2, A3, Act.put, A4, A5, A6]
      refine wpAnyH_done (by kernel_rfl) ?_ _
      go_wp2
      go_ret
      exact ⟨ret_int (by rw [← HR.out]; first | (rw [if_pos (Or.inr H1.out)]) | (rw [if_neg (by have := H1.out; simp; omega)])), hB ▸ hS6.2⟩
    · clear hzS hV hb1 hb2
      have hS0 : BlockIs U.drew D 82 (sigF (limb n) (len n) false) ∧ Below B w U.drew := ⟨HY.out.1.drew, HY.out.2.drew⟩
      refine wp_region_held_drew (S := fun w' => BlockIs w' D 82 (sigF (limb n) (len n) false) ∧ Below B w w') (by kernel_rfl) hS0 (fun hS => ?_)
      refine wpAnyH_take (i := 0) (v := .pointer (some ⟨D, 31, none⟩)) rfl (by kernel_rfl) (by kernel_rfl) (by kernel_rfl) (fun _ _ _ h => h) (Or.inl ⟨by rfl, fun w' h => by go_simp⟩) hS ?_
      try simp only [A1, A2, A3, Act.put, A4, A5, A6]
      refine wpAnyH_take (i := 1) rfl (by kernel_rfl) (by kernel_rfl) (by kernel_rfl) (fun _ _ _ h => h) (ySN_load rfl (.tmp 14) rfl D rfl (fun w' h => h.1)) hS ?_
      try simp only [A1, A2, A3, Act.put, A4, A5, A6]
      refine wpAnyH_take (i := 2) (v := .bool false) rfl (by kernel_rfl) (by kernel_rfl) (by kernel_rfl) (fun _ _ _ h => h) (Or.inl ⟨by rfl, fun w' _ => by rfl⟩) hS ?_
      try simp only [A1, A2, A3, Act.put, A4, A5, A6]
      refine wpAnyH_take (i := 3) (v := .pointer (some ⟨D, 0, none⟩)) rfl (by kernel_rfl) (by kernel_rfl) (by kernel_rfl) (fun _ _ _ h => h) (Or.inl ⟨by rfl, fun w' h => by go_simp⟩) hS ?_
      try simp only [A1, A2, A3, Act.put, A4, A5, A6]
      refine wpAnyH_take (i := 4) rfl (by kernel_rfl) (by kernel_rfl) (by kernel_rfl) (fun _ _ _ h => h) (ySM_load rfl (.tmp 17) rfl D rfl (fun w' h => h.1)) hS ?_
      try simp only [A1, A2, A3, Act.put, A4, A5, A6]
      refine wpAnyH_take (i := 5) (v := .int .i64 k) rfl (by kernel_rfl) (by kernel_rfl) (by kernel_rfl) (fun _ _ _ h => h) (Or.inl ⟨by rfl, fun w' _ => by rfl⟩) hS ?_
      try simp only [A1, A2, A3, Act.put, A4, A5, A6]
      refine wpAnyH_ready (rs := [6]) (by kernel_rfl) (by simp) (AllReadyH.cons rfl (fun K hK => ?_) AllReadyH.nil)
      go_simp
      go_at_call 113
      refine (HM.out _).mono ?_
      rintro e w4 ⟨rfl, rfl⟩
      have hS4 := hS
      clear hS
      refine hK.out _ _ hS4 (fun hS => ?_)
      clear hK K
      try simp only [A1, A2, A3, Act.put, A4, A5, A6]
      refine wpAnyH_ready (rs := [7]) (by kernel_rfl) (by simp) (AllReadyH.cons rfl (fun K hK => ?_) AllReadyH.nil)
      go_simp
      go_at_call 143
      refine (HW.out _).mono ?_
      rintro e w5 ⟨rfl, hb5⟩
      have hS5 : BlockIs w5 D 82 (sigF (limb n) (len n) false) ∧ Below B w w5 := ⟨hS4.1.below hb5 hS4.1.lt, hS4.2.trans (hb5.mono (by have := hS4.2.size; omega))⟩
      clear hS
      refine hK.out _ _ hS5 (fun hS => ?_)
      clear hK K
      try simp only [A1, A2, A3, Act.put, A4, A5, A6]
      refine wpAnyH_ready (rs := [8]) (by kernel_rfl) (by simp) (AllReadyH.cons rfl (fun K hK => ?_) AllReadyH.nil)
      go_simp
      go_at_call 70
      refine (HCM.out _).mono ?_
      rintro e w6 ⟨rfl, hb6⟩
      have hS6 : BlockIs w6 D 82 (sigF (limb n) (len n) false) ∧ Below B w w6 := ⟨hS5.1.below hb6 hS5.1.lt, hS5.2.trans (hb6.mono (by have := hS5.2.size; omega))⟩
      clear hS
      refine hK.out _ _ hS6 (fun hS => ?_)
      clear hK K
      try simp only [A1, A2, A3, Act.put, A4, A5, A6]
      refine wpAnyH_take (i := 9) (v := .bool false) rfl (by kernel_rfl) (by kernel_rfl) (by kernel_rfl) (fun _ _ _ h => h) (Or.inl ⟨by rfl, fun w' h => by go_simp⟩) hS ?_
      try simp only [A1, A2, A3, Act.put, A4, A5, A6]
      refine wpAnyH_take (i := 10) (v := .bool false) rfl (by kernel_rfl) (by kernel_rfl) (by kernel_rfl) (fun _ _ _ h => h) (Or.inl ⟨by rfl, fun w' h => by go_simp⟩) hS ?_
      try simp only [A1, A2, A3, Act.put, A4, A5, A6]
      refine wpAnyH_done (by kernel_rfl) ?_ _
      go_wp2
      go_ret
      exact ⟨ret_int (by rw [← HR.out]; first | (rw [if_pos (Or.inr H1.out)]) | (rw [if_neg (by have := H1.out; simp; omega)])), hB ▸ hS6.2⟩
  · clear hcc
    have HR := Lib.hid (show (3 : Int) = r by rw [← hr, if_pos (Or.inl rfl)])
    clear hr
    go_enter Tryz.func116, Tryz.ntmps116
    go_wp2_with (first | (go_at_call 12; refine (HC.out _).mono ?_; rintro e w1 ⟨rfl, hb1⟩; have HB1 := Lib.hid (show Below B w w1 from hB ▸ hb1)) | (go_at_call 69; refine (HRX.out _).mono ?_; rintro e w2 ⟨rfl, hb2⟩; have HB2 := Lib.hid (HB1.out.trans (hb2.mono (by have := HB1.out.size; omega))); obtain ⟨D, hD⟩ : ∃ D, w2.heap.size = D := ⟨_, rfl⟩; obtain ⟨V, hV⟩ : ∃ V, w2.alloc (.cells (sigF (fun _ => 0) 0 false) 82) = V := ⟨_, rfl⟩; have HX := Lib.hid (signedBox (f := limb n) (u := len n) (s := true) HB2.out hB hD hV)) | ((with_reducible refine wpS_store (.tmp 6) (.tmp 13) D (f := limb n) (u := len n) (s := true) ?_ ?_ HX.out.1 ?_); rfl; rfl; have HY := Lib.hid HX.out.2; obtain ⟨U, hU⟩ : ∃ U, V.setRow D (sigF (limb n) (len n) true) = U := ⟨_, rfl⟩; rw [hU] at HY ⊢; clear hU))
    clear hzS hV hb1 hb2
    have hS0 : BlockIs U.drew D 82 (sigF (limb n) (len n) true) ∧ Below B w U.drew := ⟨HY.out.1.drew, HY.out.2.drew⟩
    refine wp_region_held_drew (S := fun w' => BlockIs w' D 82 (sigF (limb n) (len n) true) ∧ Below B w w') (by kernel_rfl) hS0 (fun hS => ?_)
    refine wpAnyH_take (i := 0) (v := .pointer (some ⟨D, 31, none⟩)) rfl (by kernel_rfl) (by kernel_rfl) (by kernel_rfl) (fun _ _ _ h => h) (Or.inl ⟨by rfl, fun w' h => by go_simp⟩) hS ?_
    try simp only [A1, A2, A3, Act.put, A4, A5, A6]
    refine wpAnyH_take (i := 1) rfl (by kernel_rfl) (by kernel_rfl) (by kernel_rfl) (fun _ _ _ h => h) (ySN_load rfl (.tmp 14) rfl D rfl (fun w' h => h.1)) hS ?_
    try simp only [A1, A2, A3, Act.put, A4, A5, A6]
    refine wpAnyH_take (i := 2) (v := .bool true) rfl (by kernel_rfl) (by kernel_rfl) (by kernel_rfl) (fun _ _ _ h => h) (Or.inl ⟨by rfl, fun w' _ => by rfl⟩) hS ?_
    try simp only [A1, A2, A3, Act.put, A4, A5, A6]
    refine wpAnyH_take (i := 3) rfl (by kernel_rfl) (by kernel_rfl) (by kernel_rfl) (fun _ _ _ h => h) (Or.inr ⟨by rfl, rfl⟩) hS ?_
    try simp only [A1, A2, A3, Act.put, A4, A5, A6]
    refine wpAnyH_take (i := 4) rfl (by kernel_rfl) (by kernel_rfl) (by kernel_rfl) (fun _ _ _ h => h) (Or.inr ⟨by rfl, rfl⟩) hS ?_
    try simp only [A1, A2, A3, Act.put, A4, A5, A6]
    refine wpAnyH_take (i := 5) rfl (by kernel_rfl) (by kernel_rfl) (by kernel_rfl) (fun _ _ _ h => h) (Or.inr ⟨by rfl, rfl⟩) hS ?_
    try simp only [A1, A2, A3, Act.put, A4, A5, A6]
    refine wpAnyH_take (i := 6) rfl (by kernel_rfl) (by kernel_rfl) (by kernel_rfl) (fun _ _ _ h => h) (Or.inr ⟨by rfl, rfl⟩) hS ?_
    try simp only [A1, A2, A3, Act.put, A4, A5, A6]
    refine wpAnyH_take (i := 7) rfl (by kernel_rfl) (by kernel_rfl) (by kernel_rfl) (fun _ _ _ h => h) (Or.inr ⟨by rfl, rfl⟩) hS ?_
    try simp only [A1, A2, A3, Act.put, A4, A5, A6]
    refine wpAnyH_take (i := 8) rfl (by kernel_rfl) (by kernel_rfl) (by kernel_rfl) (fun _ _ _ h => h) (Or.inr ⟨by rfl, rfl⟩) hS ?_
    try simp only [A1, A2, A3, Act.put, A4, A5, A6]
    refine wpAnyH_take (i := 9) rfl (by kernel_rfl) (by kernel_rfl) (by kernel_rfl) (fun _ _ _ h => h) (Or.inr ⟨by rfl, rfl⟩) hS ?_
    try simp only [A1, A2, A3, Act.put, A4, A5, A6]
    refine wpAnyH_take (i := 10) (v := .bool true) rfl (by kernel_rfl) (by kernel_rfl) (by kernel_rfl) (fun _ _ _ h => h) (Or.inl ⟨by rfl, fun w' h => by go_simp⟩) hS ?_
    try simp only [A1, A2, A3, Act.put, A4, A5, A6]
    refine wpAnyH_done (by kernel_rfl) ?_ _
    go_wp2
    go_ret
    exact ⟨ret_int HR.out, hB ▸ HY.out.2.drew⟩

set_option maxHeartbeats 2000000 in
theorem Bits1_any (s : Bool) (n k : Nat) (ha : Num s n) (hk : k ≤ 64) (P : Nat) (w : World) (hP : w.cell? ⟨P, 0, none⟩ = some (.int .i64 k)) (r : Int) (hr : vecS s n k = r) :
    Calls Tryz.prog 115 #[.string (bs (numeral s n)), .pointer (some ⟨P, 0, none⟩)] w fun e w' => e = .returned (.int .i64 r) ∧ Below w.heap.size w w' := by
  have HV := Lib.hid (fun W => checkVector_any s n k ha hk W r hr)
  obtain ⟨x, hx2⟩ : ∃ x, bs (numeral s n) = x := ⟨_, rfl⟩
  rw [hx2] at HV ⊢
  clear hx2 ha hr
  go_enter Tryz.func115, Tryz.ntmps115
  go_wp2_with (go_at_call 116; refine (HV.out _).mono ?_; rintro e w1 ⟨rfl, hb1⟩)
  go_ret
  exact ⟨rfl, hb1⟩

set_option maxHeartbeats 2000000 in
theorem checkAll_Bits1 (P : Nat) (a b : ByteArray) (G : Nat) (w : World) (hG : BlockIs w G 9 #[.string a, .string b]) (ra rb r : Int)
    (HA : ∀ W, Below w.heap.size w W → Calls Tryz.prog 115 #[.string a, .pointer (some ⟨P, 0, none⟩)] W fun e w' => e = .returned (.int .i64 ra) ∧ Below W.heap.size W w')
    (HB : ra = 0 → ∀ W, Below w.heap.size w W → Calls Tryz.prog 115 #[.string b, .pointer (some ⟨P, 0, none⟩)] W fun e w' => e = .returned (.int .i64 rb) ∧ Below W.heap.size W w')
    (hr : (if ra = 0 then rb else ra) = r) :
    Calls Tryz.prog 79 #[.func (.func 115) #[] #[.pointer (some ⟨P, 0, none⟩)], .slice (some ⟨G, 0, none⟩) 2 2] w fun e w' => e = .returned (.int .i64 r) ∧ Below w.heap.size w w' := by
  have hA := Lib.hid HA
  have hB := Lib.hid HB
  have HG := Lib.hid hG
  have c0 : w.cell? ⟨G, 0, none⟩ = some (.string a) := hG.at 0
  have f0 := hG.thawed 0
  clear HA HB hG
  by_cases h0 : ra = 0
  · subst h0
    have hr2 : rb = r := by rw [← hr, if_pos rfl]
    subst hr2
    clear hr
    have hB2 := Lib.hid (hB.out rfl)
    clear hB
    by_cases h1 : rb = 0
    · subst h1
      go_enter Tryz.func79, Tryz.ntmps79
      go_wp2
      go_loopw [6, 7, 10] (fun _ _ x wr => ∃ i : Nat, i ≤ 2 ∧ x = .int .i64 i ∧ Hid (Below w.heap.size w wr)) (fun _ _ x _ => 2 - (intOf x).toNat)
      case atStart => exact ⟨0, by omega, rfl, Lib.hid (Below.refl _ _)⟩
      case round =>
        obtain ⟨i, hi, rfl, HW⟩ := hrel
        clear c0 f0
        have hGr := HG.out.below HW.out HG.out.lt
        have c0 : wr.cell? ⟨G, 0, none⟩ = some (.string a) := hGr.at 0
        have c1 : wr.cell? ⟨G, 1, none⟩ = some (.string b) := hGr.at 1
        have f0 := hGr.thawed 0
        have f1 := hGr.thawed 1
        clear hGr
        have h3 : i = 0 ∨ i = 1 ∨ i = 2 := by omega
        clear hi
        rcases h3 with rfl | rfl | rfl
        · go_wp2_with (go_at_call 115; refine (hA.out _ HW.out).mono ?_; rintro e w2 ⟨rfl, hb2⟩)
          all_goals go_roundw
          all_goals first | exact ⟨1, by omega, rfl, Lib.hid (HW.out.trans (hb2.mono HW.out.size))⟩ | (simp [intOf])
        · go_wp2_with (go_at_call 115; refine (hB2.out _ HW.out).mono ?_; rintro e w2 ⟨rfl, hb2⟩)
          all_goals go_roundw
          all_goals first | exact ⟨2, by omega, rfl, Lib.hid (HW.out.trans (hb2.mono HW.out.size))⟩ | (simp [intOf])
        · go_wp2
          all_goals go_ret
          all_goals exact ⟨rfl, HW.out⟩
    · go_enter Tryz.func79, Tryz.ntmps79
      go_wp2
      go_loopw [6, 7, 10] (fun _ _ x wr => ∃ i : Nat, i ≤ 1 ∧ x = .int .i64 i ∧ Hid (Below w.heap.size w wr)) (fun _ _ x _ => 2 - (intOf x).toNat)
      case atStart => exact ⟨0, by omega, rfl, Lib.hid (Below.refl _ _)⟩
      case round =>
        obtain ⟨i, hi, rfl, HW⟩ := hrel
        clear c0 f0
        have hGr := HG.out.below HW.out HG.out.lt
        have c0 : wr.cell? ⟨G, 0, none⟩ = some (.string a) := hGr.at 0
        have c1 : wr.cell? ⟨G, 1, none⟩ = some (.string b) := hGr.at 1
        have f0 := hGr.thawed 0
        have f1 := hGr.thawed 1
        clear hGr
        have h3 : i = 0 ∨ i = 1 := by omega
        clear hi
        rcases h3 with rfl | rfl
        · go_wp2_with (go_at_call 115; refine (hA.out _ HW.out).mono ?_; rintro e w2 ⟨rfl, hb2⟩)
          all_goals go_roundw
          all_goals first | exact ⟨1, by omega, rfl, Lib.hid (HW.out.trans (hb2.mono HW.out.size))⟩ | (simp [intOf])
        · go_wp2_with (go_at_call 115; refine (hB2.out _ HW.out).mono ?_; rintro e w2 ⟨rfl, hb2⟩)
          all_goals go_ret
          all_goals exact ⟨rfl, HW.out.trans (hb2.mono HW.out.size)⟩
  · have hr2 : ra = r := by rw [← hr, if_neg h0]
    subst hr2
    clear hr
    go_enter Tryz.func79, Tryz.ntmps79
    go_wp2
    go_loopw [6, 7, 10] (fun _ _ x wr => x = .int .i64 0 ∧ wr = w) (fun _ _ x _ => 0)
    case atStart => exact ⟨rfl, rfl⟩
    case round =>
      obtain ⟨rfl, rfl⟩ := hrel
      go_wp2_with (go_at_call 115; refine (hA.out _ (Below.refl _ _)).mono ?_; rintro e w2 ⟨rfl, hb2⟩)
      all_goals go_ret
      all_goals exact ⟨rfl, hb2⟩
end Go.Proofs.YtjemolaobhlapaaGreatDoor

namespace Go.Proofs.YtjemolaobhlapaaGreatDoor
open Go.RowKit
set_option maxRecDepth 100000
/-- What Wrap leaves of an integer. -/
def wrapW (s : Bool) (n k : Nat) : Nat := (if s = true then (18446744073709551616 - n % 18446744073709551616) % 18446744073709551616 else n % 18446744073709551616) &&& ones k
theorem neg_wrap (x : Nat) (h : x < 18446744073709551616) : IntKind.u64.wrap (-(x : Int)) = (((18446744073709551616 - x) % 18446744073709551616 : Nat) : Int) := by
  rw [IntKind.wrap_u64]; omega
set_option maxHeartbeats 4000000 in
theorem Wrap_ok (s : Bool) (n k : Nat) (ha : Num s n) (hk1 : 1 ≤ k) (hk : k ≤ 64) (w : World) (ht : Tab w) (v : Nat) (hv : wrapW s n k = v) :
    Calls Tryz.prog 55 #[.string (bs (numeral s n)), .int .i64 k] w fun e w' => e = .returned (.tuple #[.string (bs (Lib.decDigits v)), .int .i64 0]) ∧ Below w.heap.size w w' := by
  obtain ⟨B, hB⟩ : ∃ B, w.heap.size = B := ⟨_, rfl⟩
  have hx := check_numeral ha
  have HRX := Lib.hid (fun W => readNum ha W)
  obtain ⟨x, hx2⟩ : ∃ x, bs (numeral s n) = x := ⟨_, rfl⟩
  rw [hx2] at HRX hx ⊢
  have HC := Lib.hid (fun W => Check_any x W 0 hx)
  have hol := ones_lt hk
  have HM := Lib.hid (fun W => mask_any k hk W)
  have HWD := Lib.hid (fun W => word_any n ha.lt30 W)
  obtain ⟨y, hy⟩ : ∃ y : Nat, n % 18446744073709551616 = y := ⟨_, rfl⟩
  have hy64 : y < 18446744073709551616 := by rw [← hy]; exact Nat.mod_lt _ (by omega)
  unfold wrapW at hv
  rw [hy] at HWD hv
  obtain ⟨y1, hy1⟩ : ∃ y1 : Nat, (18446744073709551616 - y) % 18446744073709551616 = y1 := ⟨_, rfl⟩
  have hy164 : y1 < 18446744073709551616 := by rw [← hy1]; exact Nat.mod_lt _ (by omega)
  have hneg := neg_wrap y hy64
  rw [hy1] at hneg hv
  obtain ⟨o, ho⟩ : ∃ o, ones k = o := ⟨_, rfl⟩
  rw [ho] at HM hv hol
  have hzS := zeroS
  clear hx2 hx ha ho hy hy1
  cases s
  · simp only [Bool.false_eq_true, if_false] at hv
    have hand : bits .and .u64 (y : Int) (o : Int) = (v : Int) := by rw [bits_and_u64_nat y o hy64 hol, hv]
    have hv64 : v < 18446744073709551616 := by rw [← hv]; exact Nat.lt_of_le_of_lt Nat.and_le_left hy64
    have HFU := Lib.hid (fun W (hb : Below B w W) => FormatUint_any v hv64 W (ht.below hb (by omega)))
    clear hneg hv ht hv64
    go_enter Tryz.func55, Tryz.ntmps55
    go_wp2_with (first | (go_at_call 12; refine (HC.out _).mono ?_; rintro e w1 ⟨rfl, hb1⟩; have HB1 := Lib.hid (show Below B w w1 from hB ▸ hb1)) | (go_at_call 69; refine (HRX.out _).mono ?_; rintro e w2 ⟨rfl, hb2⟩; have HB2 := Lib.hid (HB1.out.trans (hb2.mono (by have := HB1.out.size; omega))); obtain ⟨D, hD⟩ : ∃ D, w2.heap.size = D := ⟨_, rfl⟩; obtain ⟨V, hV⟩ : ∃ V, w2.alloc (.cells (sigF (fun _ => 0) 0 false) 82) = V := ⟨_, rfl⟩; have HX := Lib.hid (signedBox (f := limb n) (u := len n) (s := false) HB2.out hB hD hV)) | ((with_reducible refine wpS_store (.tmp 7) (.tmp 21) D (f := limb n) (u := len n) (s := false) ?_ ?_ HX.out.1 ?_); rfl; rfl; have HY := Lib.hid HX.out.2; obtain ⟨U, hU⟩ : ∃ U, V.setRow D (sigF (limb n) (len n) false) = U := ⟨_, rfl⟩; rw [hU] at HY ⊢; have e31 := sig_neg HY.out.1; clear hU) | ((with_reducible refine wpSM_load (.tmp 22) D ?_ HY.out.1 ?_); rfl) | (go_at_call 72; refine (HWD.out _).mono ?_; rintro e w4 ⟨rfl, hb4⟩; have HY2 := Lib.hid (And.intro (HY.out.1.below hb4 HY.out.1.lt) (HY.out.2.trans (hb4.mono (by have := HY.out.2.size; omega)))); have f31 := sig_neg HY2.out.1) | (go_at_call 113; refine (HM.out _).mono ?_; rintro e w6 ⟨rfl, rfl⟩) | (go_at_call 59; refine (HFU.out _ HY2.out.2).mono ?_; rintro e w5 ⟨rfl, hb5⟩; have HB5 := Lib.hid (show Below w.heap.size w w5 from hB ▸ HY2.out.2.trans (hb5.mono (by have := HY2.out.2.size; omega)))))
    go_ret2
    exact ⟨rfl, HB5.out⟩
  · simp only [if_true] at hv
    have hand : bits .and .u64 (y1 : Int) (o : Int) = (v : Int) := by rw [bits_and_u64_nat y1 o hy164 hol, hv]
    have hv64 : v < 18446744073709551616 := by rw [← hv]; exact Nat.lt_of_le_of_lt Nat.and_le_left hy164
    have HFU := Lib.hid (fun W (hb : Below B w W) => FormatUint_any v hv64 W (ht.below hb (by omega)))
    clear hv ht hv64
    go_enter Tryz.func55, Tryz.ntmps55
    go_wp2_with (first | (go_at_call 12; refine (HC.out _).mono ?_; rintro e w1 ⟨rfl, hb1⟩; have HB1 := Lib.hid (show Below B w w1 from hB ▸ hb1)) | (go_at_call 69; refine (HRX.out _).mono ?_; rintro e w2 ⟨rfl, hb2⟩; have HB2 := Lib.hid (HB1.out.trans (hb2.mono (by have := HB1.out.size; omega))); obtain ⟨D, hD⟩ : ∃ D, w2.heap.size = D := ⟨_, rfl⟩; obtain ⟨V, hV⟩ : ∃ V, w2.alloc (.cells (sigF (fun _ => 0) 0 false) 82) = V := ⟨_, rfl⟩; have HX := Lib.hid (signedBox (f := limb n) (u := len n) (s := true) HB2.out hB hD hV)) | ((with_reducible refine wpS_store (.tmp 7) (.tmp 21) D (f := limb n) (u := len n) (s := true) ?_ ?_ HX.out.1 ?_); rfl; rfl; have HY := Lib.hid HX.out.2; obtain ⟨U, hU⟩ : ∃ U, V.setRow D (sigF (limb n) (len n) true) = U := ⟨_, rfl⟩; rw [hU] at HY ⊢; have e31 := sig_neg HY.out.1; clear hU) | ((with_reducible refine wpSM_load (.tmp 22) D ?_ HY.out.1 ?_); rfl) | (go_at_call 72; refine (HWD.out _).mono ?_; rintro e w4 ⟨rfl, hb4⟩; have HY2 := Lib.hid (And.intro (HY.out.1.below hb4 HY.out.1.lt) (HY.out.2.trans (hb4.mono (by have := HY.out.2.size; omega)))); have f31 := sig_neg HY2.out.1) | (go_at_call 113; refine (HM.out _).mono ?_; rintro e w6 ⟨rfl, rfl⟩) | (go_at_call 59; refine (HFU.out _ HY2.out.2).mono ?_; rintro e w5 ⟨rfl, hb5⟩; have HB5 := Lib.hid (show Below w.heap.size w w5 from hB ▸ HY2.out.2.trans (hb5.mono (by have := HY2.out.2.size; omega)))))
    go_ret2
    exact ⟨rfl, HB5.out⟩

set_option maxHeartbeats 2000000 in
theorem FromInt_any (n : Int) (h0 : -9223372036854775808 ≤ n) (h1 : n ≤ 9223372036854775807) (w : World) (ht : Tab w) :
    Calls Tryz.prog 14 #[.int .i64 n] w fun e w' => e = .returned (.string ⟨(Lib.itoa n).toArray⟩) ∧ Below w.heap.size w w' := by
  have HI := Lib.hid (Tryz.strconv_Itoa n h0 h1 w ht)
  clear ht
  go_enter Tryz.func14, Tryz.ntmps14
  go_wp2_with (go_at_call 66; refine HI.out.mono ?_; rintro e w1 ⟨rfl, q, os, hw⟩; have HB := Lib.hid (show Below w.heap.size w w1 by rw [hw]; exact Lib.below_grow _ w (Nat.le_refl _) q os); clear hw)
  go_ret
  exact ⟨rfl, HB.out⟩
end Go.Proofs.YtjemolaobhlapaaGreatDoor
