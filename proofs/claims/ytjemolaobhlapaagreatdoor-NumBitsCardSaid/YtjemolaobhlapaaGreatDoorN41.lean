/- Pow. -/
import Derived.Test.YtjemolaobhlapaaGreatDoorN29
set_option linter.unusedSimpArgs false
set_option linter.unusedVariables false
namespace Go.Proofs.YtjemolaobhlapaaGreatDoor
open Go.RowKit
set_option maxRecDepth 100000

/-- The sign of a power. -/
def sgnP (s : Bool) (i : Nat) : Bool := s && decide (i % 2 = 1)
theorem sgnP_next {s : Bool} {n i : Nat} (h : s = true → n ≠ 0) : ((sgnP s i != s) && !decide (n ^ i * n = 0)) = sgnP s (i + 1) := by
  cases s
  · simp [sgnP]
  · have h0 := h rfl
    have h1 : n ^ i * n ≠ 0 := Nat.mul_ne_zero (Nat.pos_iff_ne_zero.1 (Nat.pow_pos (Nat.pos_of_ne_zero h0))) h0
    rcases Nat.mod_two_eq_zero_or_one i with h2 | h2
    · have h3 : (i + 1) % 2 = 1 := by omega
      simp [sgnP, h1, h2, h3]
    · have h3 : (i + 1) % 2 = 0 := by omega
      simp [sgnP, h1, h2, h3]
theorem one_str : (⟨#[49]⟩ : ByteArray) = bs (numeral false 1) := by
  unfold numeral
  rw [decDigits_small (by omega)]
  rfl
theorem num_one : Num false 1 := ⟨fun h => (by cases h), by rw [Lib.nDigits_small (by omega)]; omega⟩
theorem twoBoxes {w0 w W : World} {B D : Nat} {f g : Nat → Nat} {u v : Nat} {s t : Bool} (hb : Below B w0 w) (hB : w0.heap.size = B) (hD : w.heap.size = D) (hW : (w.alloc (.cells (sigF (fun _ => 0) 0 false) 82)).alloc (.cells (sigF (fun _ => 0) 0 false) 82) = W) :
    BlockIs W D 82 (sigF (fun _ => 0) 0 false) ∧ BlockIs (W.setRow D (sigF f u s)) (D + 1) 82 (sigF (fun _ => 0) 0 false) ∧
    (BlockIs ((W.setRow D (sigF f u s)).setRow (D + 1) (sigF g v t)) D 82 (sigF f u s) ∧ BlockIs ((W.setRow D (sigF f u s)).setRow (D + 1) (sigF g v t)) (D + 1) 82 (sigF g v t) ∧ Below B w0 ((W.setRow D (sigF f u s)).setRow (D + 1) (sigF g v t))) := by
  have h := hb.size
  have h0 : BlockIs W D 82 (sigF (fun _ => 0) 0 false) := by rw [← hW, ← hD]; exact (BlockIs.new _ _ _).alloc _
  have h1 : BlockIs W (D + 1) 82 (sigF (fun _ => 0) 0 false) := by
    rw [← hW, ← hD]
    have := BlockIs.new (w.alloc (.cells (sigF (fun _ => 0) 0 false) 82)) 82 (sigF (fun _ => 0) 0 false)
    rwa [World.size_alloc] at this
  have hbl : Below B w0 W := by rw [← hW]; exact (hb.alloc (by omega) _).alloc (by rw [World.size_alloc]; omega) _
  exact ⟨h0, h1.rowOther _ _ (by omega), (h0.row _).rowOther _ _ (by omega), (h1.rowOther _ _ (by omega)).row _, below_row (below_row hbl _ _ (by omega)) _ _ (by omega)⟩

set_option maxHeartbeats 4000000 in
theorem Pow_ok (s : Bool) (n e : Nat) (ha : Num s n) (he : e ≤ 1000) (hsh : ∀ i, i ≤ e → Lib.nDigits (n ^ i) ≤ 120) (w : World) :
    Calls Tryz.prog 31 #[.string (bs (numeral s n)), .int .i64 e] w fun x w' => x = .returned (.tuple #[.string (bs (numeral (sgnP s e) (n ^ e))), .int .i64 0]) ∧ Below w.heap.size w w' := by
  obtain ⟨B, hB⟩ : ∃ B, w.heap.size = B := ⟨_, rfl⟩
  have hx := check_numeral ha
  have HRX := Lib.hid (fun W => readNum ha W)
  have HR1 := Lib.hid (fun W => readNum num_one W)
  rw [← one_str] at HR1
  have hp1 : sigF (limb 1) (len 1) false = sigF (limb (n ^ 0)) (len (n ^ 0)) (sgnP s 0) := by simp [sgnP]
  obtain ⟨x, hx2⟩ : ∃ x, bs (numeral s n) = x := ⟨_, rfl⟩
  rw [hx2] at HRX hx ⊢
  have HC := Lib.hid (fun W => Check_any x W 0 hx)
  have HSH := Lib.hid hsh
  have HA := Lib.hid ha
  have HP1 := Lib.hid hp1
  have hzS := zeroS
  clear hx2 hx ha hsh hp1
  go_enter Tryz.func31, Tryz.ntmps31
  go_wp2_with (first | (go_at_call 12; refine (HC.out _).mono ?_; rintro e w1 ⟨rfl, hb1⟩; have HB1 := Lib.hid (show Below B w w1 from hB ▸ hb1)) | (go_at_call 69; (with_reducible refine (HR1.out _).mono ?_); rintro e w2 ⟨rfl, hb2⟩; have HB2 := Lib.hid (HB1.out.trans (hb2.mono (by have := HB1.out.size; omega)))) | (go_at_call 69; (with_reducible refine (HRX.out _).mono ?_); rintro e w3 ⟨rfl, hb3⟩; have HB3 := Lib.hid (HB2.out.trans (hb3.mono (by have := HB2.out.size; omega))); obtain ⟨D, hD⟩ : ∃ D, w3.heap.size = D := ⟨_, rfl⟩; obtain ⟨V, hV⟩ : ∃ V, (w3.alloc (.cells (sigF (fun _ => 0) 0 false) 82)).alloc (.cells (sigF (fun _ => 0) 0 false) 82) = V := ⟨_, rfl⟩; have HX := Lib.hid (twoBoxes (f := limb 1) (u := len 1) (s := false) (g := limb n) (v := len n) (t := s) HB3.out hB hD hV)) | ((with_reducible refine wpS_store (.tmp 7) (.tmp 20) D (f := limb 1) (u := len 1) (s := false) ?_ ?_ HX.out.1 ?_); rfl; rfl) | ((with_reducible refine wpS_store (.tmp 8) (.tmp 22) (D + 1) (f := limb n) (u := len n) (s := s) ?_ ?_ HX.out.2.1 ?_); rfl; rfl; have HY := Lib.hid HX.out.2.2; obtain ⟨U, hU⟩ : ∃ U, (V.setRow D (sigF (limb 1) (len 1) false)).setRow (D + 1) (sigF (limb n) (len n) s) = U := ⟨_, rfl⟩; rw [hU] at HY ⊢; clear hU))
  clear hzS hV hb1 hb2 hb3
  rw [HP1.out] at HY
  go_loopw [24] (fun x wr => ∃ i : Nat, i ≤ e ∧ x = .int .i64 i ∧ Hid (BlockIs wr D 82 (sigF (limb (n ^ i)) (len (n ^ i)) (sgnP s i)) ∧ BlockIs wr (D + 1) 82 (sigF (limb n) (len n) s) ∧ Below B w wr)) (fun x _ => e - (intOf x).toNat)
  case atStart => exact ⟨0, by omega, rfl, HY⟩
  case round =>
    clear HY HX HP1
    obtain ⟨i, hi, rfl, HW⟩ := hrel
    have hBD : B ≤ D := by have := HB3.out.size; omega
    by_cases h : i < e
    · have h1 := short_lt (HSH.out i (by omega))
      have HBY := Lib.hid (fun W => by_any (sgnP s i) s (n ^ i) n (Nat.lt_of_lt_of_le h1 (pw_mono (by omega))) HA.out.lt30 (by have := len_14 h1; have := len_14 HA.out.lt; omega) (Nat.lt_of_lt_of_le (mul_lt h1 HA.out.lt) pw28_30) W (sgnP s (i + 1)) (sgnP_next HA.out.sign))
      rw [← Nat.pow_succ] at HBY
      have HSZ := Lib.hid (fun W => size_any (n ^ (i + 1)) (Nat.lt_of_lt_of_le (short_lt (HSH.out (i + 1) (by omega))) (pw_mono (by omega))) W)
      obtain ⟨q, hq⟩ : ∃ q, Lib.nDigits (n ^ (i + 1)) = q := ⟨_, rfl⟩
      have hq2 : q ≤ 120 := by rw [← hq]; exact HSH.out (i + 1) (by omega)
      rw [hq] at HSZ
      obtain ⟨m1, hm1⟩ : ∃ m1, n ^ (i + 1) = m1 := ⟨_, rfl⟩
      obtain ⟨s1, hs1⟩ : ∃ s1, sgnP s (i + 1) = s1 := ⟨_, rfl⟩
      obtain ⟨m0, hm0⟩ : ∃ m0, n ^ i = m0 := ⟨_, rfl⟩
      obtain ⟨s0, hs0⟩ : ∃ s0, sgnP s i = s0 := ⟨_, rfl⟩
      have HM1 := Lib.hid hm1
      have HS1 := Lib.hid hs1
      rw [Nat.succ_eq_add_one, hm1, hs1, hm0, hs0] at HBY
      rw [hm0, hs0] at HW
      rw [hm1] at HSZ
      clear hq hm1 hs1 hm0 hs0 h1
      go_wp2_with (first | ((with_reducible refine wpS_load (.tmp 7) D ?_ HW.out.1 ?_); rfl) | ((with_reducible refine wpS_load (.tmp 8) (D + 1) ?_ HW.out.2.1 ?_); rfl) | (go_at_call 84; refine (HBY.out _).mono ?_; rintro e w5 ⟨rfl, hb5⟩; have HW2 := Lib.hid (And.intro (HW.out.1.below hb5 HW.out.1.lt) (And.intro (HW.out.2.1.below hb5 HW.out.2.1.lt) (HW.out.2.2.trans (hb5.mono (by have := HW.out.1.lt; omega)))))) | ((with_reducible refine wpS_store (.tmp 7) (.tmp 28) D (f := limb m1) (u := len m1) (s := s1) ?_ ?_ HW2.out.1 ?_); rfl; rfl; have HW3 := Lib.hid (And.intro (HW2.out.1.row (sigF (limb m1) (len m1) s1)) (And.intro (HW2.out.2.1.rowOther D (sigF (limb m1) (len m1) s1) (by omega)) (below_row HW2.out.2.2 D (sigF (limb m1) (len m1) s1) hBD))); obtain ⟨U2, hU2⟩ : ∃ U2, w5.setRow D (sigF (limb m1) (len m1) s1) = U2 := ⟨_, rfl⟩; rw [hU2] at HW3 ⊢; clear hU2) | ((with_reducible refine wpSM_load (.tmp 29) D ?_ HW3.out.1 ?_); rfl) | (go_at_call 91; refine (HSZ.out _).mono ?_; rintro e w6 ⟨rfl, hb6⟩; have HW4 := Lib.hid (And.intro (HW3.out.1.below hb6 HW3.out.1.lt) (And.intro (HW3.out.2.1.below hb6 HW3.out.2.1.lt) (HW3.out.2.2.trans (hb6.mono (by have := HW3.out.1.lt; omega)))))))
      all_goals exact ⟨⟨i + 1, by omega, by simp, by rw [HM1.out, HS1.out]; exact HW4⟩, by simp [intOf]; omega⟩
    · have h2 : i = e := by omega
      subst h2
      have HF := Lib.hid (fun W => finish_ok (sgnP s i) (n ^ i) (Nat.lt_of_lt_of_le (short_lt (HSH.out i (by omega))) (pw_mono (by omega))) (HSH.out i (by omega)) W)
      go_wp2_with (first | ((with_reducible refine wpS_load (.tmp 7) D ?_ HW.out.1 ?_); rfl) | (go_at_call 75; refine (HF.out _).mono ?_; rintro e w5 ⟨rfl, hb5⟩; have HB5 := Lib.hid (show Below w.heap.size w w5 from hB ▸ HW.out.2.2.trans (hb5.mono (by have := HW.out.1.lt; omega)))))
      all_goals go_ret2
      all_goals exact ⟨rfl, HB5.out⟩
end Go.Proofs.YtjemolaobhlapaaGreatDoor

namespace Go.Proofs.YtjemolaobhlapaaGreatDoor
open Go.RowKit
set_option maxRecDepth 100000
theorem big_num : numOf (⟨#[57, 50, 50, 51, 51, 55, 50, 48, 51, 54, 56, 53, 52, 55, 55, 53, 56, 48, 56]⟩ : ByteArray).data.toList = 9223372036854775808 := by decide +kernel
set_option maxHeartbeats 4000000 in
theorem ToInt_ok (s : Bool) (n : Nat) (ha : Num s n) (hn : n < 9223372036854775808) (w : World) (r : Int) (hr : (if s = true then -(n : Int) else (n : Int)) = r) :
    Calls Tryz.prog 16 #[.string (bs (numeral s n))] w fun e w' => e = .returned (.tuple #[.int .i64 r, .int .i64 0]) ∧ Below w.heap.size w w' := by
  obtain ⟨B, hB⟩ : ∃ B, w.heap.size = B := ⟨_, rfl⟩
  have hx := check_numeral ha
  have HRX := Lib.hid (fun W => readNum ha W)
  obtain ⟨x, hx2⟩ : ∃ x, bs (numeral s n) = x := ⟨_, rfl⟩
  rw [hx2] at HRX hx ⊢
  have HC := Lib.hid (fun W => Check_any x W 0 hx)
  have HRM := Lib.hid (fun W => readMagnitude_any ⟨#[57, 50, 50, 51, 51, 55, 50, 48, 51, 54, 56, 53, 52, 55, 55, 53, 56, 48, 56]⟩ (by decide) (by decide) W)
  rw [big_num] at HRM
  obtain ⟨G, hG⟩ : ∃ G : Nat, 9223372036854775808 = G := ⟨_, rfl⟩
  rw [hG] at HRM
  have HCM := Lib.hid (fun W => compare_any n G ha.lt30 (by rw [← hG]; exact Nat.lt_of_lt_of_le (show _ < pw 3 by decide) pw3_30) W (-1) (cmp_ls (by rw [← hG]; omega)))
  have HWD := Lib.hid (fun W => word_any n ha.lt30 W)
  rw [Nat.mod_eq_of_lt (show n < 18446744073709551616 by omega)] at HWD
  have hzS := zeroS
  clear hx2 hx ha hG
  cases s
  · go_enter Tryz.func16, Tryz.ntmps16
    go_wp2_with (first | (go_at_call 12; refine (HC.out _).mono ?_; rintro e w1 ⟨rfl, hb1⟩; have HB1 := Lib.hid (show Below B w w1 from hB ▸ hb1)) | (go_at_call 69; refine (HRX.out _).mono ?_; rintro e w2 ⟨rfl, hb2⟩; have HB2 := Lib.hid (HB1.out.trans (hb2.mono (by have := HB1.out.size; omega))); obtain ⟨D, hD⟩ : ∃ D, w2.heap.size = D := ⟨_, rfl⟩; obtain ⟨V, hV⟩ : ∃ V, w2.alloc (.cells (sigF (fun _ => 0) 0 false) 82) = V := ⟨_, rfl⟩; have HX := Lib.hid (signedBox (f := limb n) (u := len n) (s := false) HB2.out hB hD hV)) | ((with_reducible refine wpS_store (.tmp 5) (.tmp 13) D (f := limb n) (u := len n) (s := false) ?_ ?_ HX.out.1 ?_); rfl; rfl; have HY := Lib.hid HX.out.2; obtain ⟨U, hU⟩ : ∃ U, V.setRow D (sigF (limb n) (len n) false) = U := ⟨_, rfl⟩; rw [hU] at HY ⊢; clear hU))
    clear hzS hV hb1 hb2
    have hS0 : BlockIs U.drew D 82 (sigF (limb n) (len n) false) ∧ Below B w U.drew := ⟨HY.out.1.drew, HY.out.2.drew⟩
    refine wp_region_held_drew (S := fun w' => BlockIs w' D 82 (sigF (limb n) (len n) false) ∧ Below B w w') (by kernel_rfl) hS0 (fun hS => ?_)
    refine wpAnyH_take (i := 0) (v := .pointer (some ⟨D, 0, none⟩)) rfl (by kernel_rfl) (by kernel_rfl) (by kernel_rfl) (fun _ _ _ h => h) (Or.inl ⟨by rfl, fun w' h => by go_simp⟩) hS ?_
    try simp only [A1, A2, A3, Act.put, A4, A5, A6]
    refine wpAnyH_take (i := 1) rfl (by kernel_rfl) (by kernel_rfl) (by kernel_rfl) (fun _ _ _ h => h) (ySM_load rfl (.tmp 14) rfl D rfl (fun w' h => h.1)) hS ?_
    try simp only [A1, A2, A3, Act.put, A4, A5, A6]
    refine wpAnyH_ready (rs := [2]) (by kernel_rfl) (by simp) (AllReadyH.cons rfl (fun K hK => ?_) AllReadyH.nil)
    go_simp
    go_at_call 71
    refine (HRM.out _).mono ?_
    rintro e w5 ⟨rfl, hb5⟩
    have hS5 : BlockIs w5 D 82 (sigF (limb n) (len n) false) ∧ Below B w w5 := ⟨hS.1.below hb5 hS.1.lt, hS.2.trans (hb5.mono (by have := hS.2.size; omega))⟩
    clear hS
    refine hK.out _ _ hS5 (fun hS => ?_)
    clear hK K
    try simp only [A1, A2, A3, Act.put, A4, A5, A6]
    refine wpAnyH_ready (rs := [3]) (by kernel_rfl) (by simp) (AllReadyH.cons rfl (fun K hK => ?_) AllReadyH.nil)
    go_simp
    go_at_call 70
    refine (HCM.out _).mono ?_
    rintro e w6 ⟨rfl, hb6⟩
    have hS6 : BlockIs w6 D 82 (sigF (limb n) (len n) false) ∧ Below B w w6 := ⟨hS5.1.below hb6 hS5.1.lt, hS5.2.trans (hb6.mono (by have := hS5.2.size; omega))⟩
    clear hS
    refine hK.out _ _ hS6 (fun hS => ?_)
    clear hK K
    try simp only [A1, A2, A3, Act.put, A4, A5, A6]
    refine wpAnyH_take (i := 4) (v := .int .i64 (-1)) rfl (by kernel_rfl) (by kernel_rfl) (by kernel_rfl) (fun _ _ _ h => h) (Or.inl ⟨by rfl, fun w' _ => by rfl⟩) hS ?_
    try simp only [A1, A2, A3, Act.put, A4, A5, A6]
    refine wpAnyH_done (by kernel_rfl) ?_ _
    have HZ6 := Lib.hid hS6
    have e31 := sig_neg HZ6.out.1
    clear hS5 hS6 hS0
    skip
    go_wp2_with (first | ((with_reducible refine wpSM_load (.tmp 30) D ?_ HZ6.out.1 ?_); rfl) | ((with_reducible refine wpSM_load (.tmp 35) D ?_ HZ6.out.1 ?_); rfl) | (go_at_call 72; refine (HWD.out _).mono ?_; rintro e w7 ⟨rfl, hb7⟩; have HB7 := Lib.hid (show Below w.heap.size w w7 from hB ▸ HZ6.out.2.trans (hb7.mono (by have := HZ6.out.2.size; omega)))))
    go_ret2
    exact ⟨by rw [← hr]; first | rfl | simp, HB7.out⟩

  · go_enter Tryz.func16, Tryz.ntmps16
    go_wp2_with (first | (go_at_call 12; refine (HC.out _).mono ?_; rintro e w1 ⟨rfl, hb1⟩; have HB1 := Lib.hid (show Below B w w1 from hB ▸ hb1)) | (go_at_call 69; refine (HRX.out _).mono ?_; rintro e w2 ⟨rfl, hb2⟩; have HB2 := Lib.hid (HB1.out.trans (hb2.mono (by have := HB1.out.size; omega))); obtain ⟨D, hD⟩ : ∃ D, w2.heap.size = D := ⟨_, rfl⟩; obtain ⟨V, hV⟩ : ∃ V, w2.alloc (.cells (sigF (fun _ => 0) 0 false) 82) = V := ⟨_, rfl⟩; have HX := Lib.hid (signedBox (f := limb n) (u := len n) (s := true) HB2.out hB hD hV)) | ((with_reducible refine wpS_store (.tmp 5) (.tmp 13) D (f := limb n) (u := len n) (s := true) ?_ ?_ HX.out.1 ?_); rfl; rfl; have HY := Lib.hid HX.out.2; obtain ⟨U, hU⟩ : ∃ U, V.setRow D (sigF (limb n) (len n) true) = U := ⟨_, rfl⟩; rw [hU] at HY ⊢; clear hU))
    clear hzS hV hb1 hb2
    have hS0 : BlockIs U.drew D 82 (sigF (limb n) (len n) true) ∧ Below B w U.drew := ⟨HY.out.1.drew, HY.out.2.drew⟩
    refine wp_region_held_drew (S := fun w' => BlockIs w' D 82 (sigF (limb n) (len n) true) ∧ Below B w w') (by kernel_rfl) hS0 (fun hS => ?_)
    refine wpAnyH_take (i := 0) (v := .pointer (some ⟨D, 0, none⟩)) rfl (by kernel_rfl) (by kernel_rfl) (by kernel_rfl) (fun _ _ _ h => h) (Or.inl ⟨by rfl, fun w' h => by go_simp⟩) hS ?_
    try simp only [A1, A2, A3, Act.put, A4, A5, A6]
    refine wpAnyH_take (i := 1) rfl (by kernel_rfl) (by kernel_rfl) (by kernel_rfl) (fun _ _ _ h => h) (ySM_load rfl (.tmp 14) rfl D rfl (fun w' h => h.1)) hS ?_
    try simp only [A1, A2, A3, Act.put, A4, A5, A6]
    refine wpAnyH_ready (rs := [2]) (by kernel_rfl) (by simp) (AllReadyH.cons rfl (fun K hK => ?_) AllReadyH.nil)
    go_simp
    go_at_call 71
    refine (HRM.out _).mono ?_
    rintro e w5 ⟨rfl, hb5⟩
    have hS5 : BlockIs w5 D 82 (sigF (limb n) (len n) true) ∧ Below B w w5 := ⟨hS.1.below hb5 hS.1.lt, hS.2.trans (hb5.mono (by have := hS.2.size; omega))⟩
    clear hS
    refine hK.out _ _ hS5 (fun hS => ?_)
    clear hK K
    try simp only [A1, A2, A3, Act.put, A4, A5, A6]
    refine wpAnyH_ready (rs := [3]) (by kernel_rfl) (by simp) (AllReadyH.cons rfl (fun K hK => ?_) AllReadyH.nil)
    go_simp
    go_at_call 70
    refine (HCM.out _).mono ?_
    rintro e w6 ⟨rfl, hb6⟩
    have hS6 : BlockIs w6 D 82 (sigF (limb n) (len n) true) ∧ Below B w w6 := ⟨hS5.1.below hb6 hS5.1.lt, hS5.2.trans (hb6.mono (by have := hS5.2.size; omega))⟩
    clear hS
    refine hK.out _ _ hS6 (fun hS => ?_)
    clear hK K
    try simp only [A1, A2, A3, Act.put, A4, A5, A6]
    refine wpAnyH_take (i := 4) (v := .int .i64 (-1)) rfl (by kernel_rfl) (by kernel_rfl) (by kernel_rfl) (fun _ _ _ h => h) (Or.inl ⟨by rfl, fun w' _ => by rfl⟩) hS ?_
    try simp only [A1, A2, A3, Act.put, A4, A5, A6]
    refine wpAnyH_done (by kernel_rfl) ?_ _
    have HZ6 := Lib.hid hS6
    have e31 := sig_neg HZ6.out.1
    clear hS5 hS6 hS0
    skip
    go_wp2_with (first | ((with_reducible refine wpSM_load (.tmp 30) D ?_ HZ6.out.1 ?_); rfl) | ((with_reducible refine wpSM_load (.tmp 35) D ?_ HZ6.out.1 ?_); rfl) | (go_at_call 72; refine (HWD.out _).mono ?_; rintro e w7 ⟨rfl, hb7⟩; have HB7 := Lib.hid (show Below w.heap.size w w7 from hB ▸ HZ6.out.2.trans (hb7.mono (by have := HZ6.out.2.size; omega)))))
    go_ret2
    exact ⟨by rw [← hr]; first | rfl | simp, HB7.out⟩

end Go.Proofs.YtjemolaobhlapaaGreatDoor
