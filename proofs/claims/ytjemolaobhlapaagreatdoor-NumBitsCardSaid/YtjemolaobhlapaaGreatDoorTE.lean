/- The reference's Bits: all operations. -/
import Derived.Test.YtjemolaobhlapaaGreatDoorTD
import Derived.Test.YtjemolaobhlapaaGreatDoorNS
set_option linter.unusedSimpArgs false
set_option linter.unusedVariables false
namespace Go.Proofs.YtjemolaobhlapaaGreatDoor
open Go.RowKit
set_option maxRecDepth 100000
theorem Bt.put {w0 : World} {D x cx y cy : Nat} {px py : Option Addr} {u v : Value} {w : World} (h : Bt w0 D px x cx py y cy u v w) (u' v' : Value) : Bt w0 D px x cx py y cy u' v' (w.setRow (D + 2) #[u', v']) :=
  ⟨h.b0.rowElse _ (by omega), h.b1.rowElse _ (by omega), h.b2.row2 _, h.mx.row h.b2, h.my.row h.b2, below_setRow2 h.bl _ (by have := h.hd; omega), h.hd⟩

set_option maxHeartbeats 8000000 in
theorem rBits_each (i k a b v : Nat) (hi : i < 10) (hk1 : 1 ≤ k) (hk : k ≤ 64) (hak : a ≤ ones k) (hbk : b ≤ ones k) (ha : a < 18446744073709551616) (hb : b < 18446744073709551616) (hz : i = 3 ∨ i = 4 → b ≠ 0) (hv : opW i a b &&& ones k = v) (w : World) :
    Calls Tryz.prog 58 #[.int .i64 i, .int .i64 k, .string (bs (numeral false a)), .string (bs (numeral false b))] w fun e w' => e = .returned (.tuple #[.string (bs (numeral false v)), .int .i64 0]) ∧ Below w.heap.size w w' := by
  have na := num_word ha
  have nb := num_word hb
  have hvl : v < 18446744073709551616 := by rw [← hv, ones_mod]; exact Nat.lt_of_lt_of_le (Nat.mod_lt _ (Nat.pow_pos (by decide))) (by rw [show (18446744073709551616 : Nat) = 2 ^ 64 by decide]; exact Nat.pow_le_pow_right (by decide) hk)
  have HW8 := Lib.hid (fun W => rWhen_any false 8 W 0 rfl)
  have HW3 := Lib.hid (fun W => rWhen_any false 3 W 0 rfl)
  have HWD := Lib.hid (fun W => rWhen_any false 30 W 0 rfl)
  have HF2 := Lib.hid (fun W => rFirst_two 0 0 0 rfl W)
  have HF3 := Lib.hid (fun W => rFirst_three 0 0 0 0 rfl W)
  have HCA := Lib.hid (fun W => rCheckBits_pos a k na hk 0 (vec_ok hak) W)
  have HCB := Lib.hid (fun W => rCheckBits_pos b k nb hk 0 (vec_ok hbk) W)
  have HRA := Lib.hid (fun W => rRead_num false a na.sign (num_dig na) W)
  have HRB := Lib.hid (fun W => rRead_num false b nb.sign (num_dig nb) W)
  have qa := word_ql ha
  have qb := word_ql hb
  have HPW := Lib.hid (fun W => rPower_any k hk W)
  have HR2 := Lib.hid (fun (u : Value) W (h1 : Mag W u v) => rResult_any false v u W h1 (by have := word_ql hvl; omega) (by simp) (bs (numeral false v)) 0 (resP_sh (word_digits hvl)))
  have h1 : decide ((k : Int) < 1) = false := by simp; omega
  have h2 : decide ((64 : Int) < (k : Int)) = false := by simp; omega
  have HK := Lib.hid hk
  have HPL := Lib.hid (fun (u t : Value) W (h1 : Mag W u a) (h2 : Mag W t b) => rPlusB_any false false a b u t W h1 h2 (by omega) (by omega) false (a + b) (by unfold sumB; rw [if_pos rfl]) false rfl)
  have HTI := Lib.hid (fun (u t : Value) W (h1 : Mag W u a) (h2 : Mag W t b) => rTimes_any false false a b u t W h1 h2 (by omega) (by omega) (a * b) rfl false rfl)
  obtain ⟨rr, hrr⟩ := sumB_int (a : Int) (-(b : Int))
  rw [Int.natAbs_neg, Int.natAbs_natCast, Int.natAbs_natCast, ← Int.sub_eq_add_neg, show isNeg (a : Int) = false by unfold isNeg; simp] at hrr
  have hns := neg_sign2 (b : Int)
  rw [Int.natAbs_natCast, show isNeg (b : Int) = false by unfold isNeg; simp] at hns
  have HMI := Lib.hid (fun (u t : Value) W (h1 : Mag W u a) (h2 : Mag W t b) => rMinusB_any false false a b u t W h1 h2 (by omega) (by omega) _ hns rr _ hrr.1 _ hrr.2)
  have HBW0 := Lib.hid (fun (hi : i = 5 ∨ i = 6 ∨ i = 7) (u t : Value) W (h1 : Mag W u a) (h2 : Mag W t b) => rBitwise_any i a b (opW i a b) hi ha hb rfl (opW_lt i a b ha hb) u t W h1 h2)
  have HOV1 := Lib.hid (fun (h0 : b ≠ 0) (u t : Value) W (h1 : Mag W u a) (h2 : Mag W t b) => rOverB_any false false a b u t W h1 h2 (by omega) (by omega) (by omega) (a / b) (a % b) rfl false rfl)
  have HY := Lib.hid (fun (h0 : b ≠ 0) => show ((bs (numeral false b)).toList == [48]) = false from by
    have h := str_is (b := b) (k := 0) (by decide)
    rw [decide_eq_false h0] at h
    exact h)
  obtain ⟨m, hm⟩ : ∃ m, min b k = m := ⟨_, rfl⟩
  have HR8 := Lib.hid (fun (h : opW 8 a b &&& ones k = v) => show wrapW false (a * 2 ^ m) k = v ∧ ql (a * 2 ^ m) < 20000 from hm ▸ rest8 ha hk h)
  have HR9 := Lib.hid (fun (h : opW 9 a b &&& ones k = v) => show wrapW false (a / 2 ^ m) k = v ∧ ql (a / 2 ^ m) < 20000 from hm ▸ rest9 ha hk hak h)
  have HSH := Lib.hid (fun (u : Value) W (h1 : Mag W u b) => rShift_any b k hk u W h1 (by omega) m hm)
  have HPM := Lib.hid (fun W => rPower_any m (by omega) W)
  have qm := pow2_ql (i := m) (by omega)
  have HOP8 := Lib.hid (fun (u t : Value) W (h1 : Mag W u a) (h2 : Mag W t (2 ^ m)) => rTimes_any false false a (2 ^ m) u t W h1 h2 (by omega) (by omega) (a * 2 ^ m) rfl false rfl)
  have HOP9 := Lib.hid (fun (u t : Value) W (h1 : Mag W u a) (h2 : Mag W t (2 ^ m)) => rOverB_any false false a (2 ^ m) u t W h1 h2 (by omega) (by omega) (Nat.pow_pos (by decide)) (a / 2 ^ m) (a % 2 ^ m) rfl false rfl)
  have HV0 := Lib.hid (And.intro ha (And.intro hb (opW_lt i a b ha hb)))
  obtain ⟨x, hx2⟩ : ∃ x, bs (numeral false a) = x := ⟨_, rfl⟩
  obtain ⟨y, hy2⟩ : ∃ y, bs (numeral false b) = y := ⟨_, rfl⟩
  rw [hx2] at HCA HRA ⊢
  rw [hy2] at HCB HRB HY ⊢
  obtain ⟨y3, hy3⟩ : ∃ y, bs (numeral false v) = y := ⟨_, rfl⟩
  rw [hy3] at HR2 ⊢
  clear hx2 hy2 hy3
  clear qm hm qa qb na nb hvl hak hbk ha hb hrr hns hk1 hk
  have hcs : i = 0 ∨ i = 1 ∨ i = 2 ∨ i = 3 ∨ i = 4 ∨ i = 5 ∨ i = 6 ∨ i = 7 ∨ i = 8 ∨ i = 9 := by omega
  clear hi
  rcases hcs with rfl | rfl | rfl | rfl | rfl | rfl | rfl | rfl | rfl | rfl
  all_goals
    simp only [show ((0 : Nat) : Int) = 0 from rfl, show ((1 : Nat) : Int) = 1 from rfl, show ((2 : Nat) : Int) = 2 from rfl, show ((3 : Nat) : Int) = 3 from rfl, show ((4 : Nat) : Int) = 4 from rfl, show ((5 : Nat) : Int) = 5 from rfl, show ((6 : Nat) : Int) = 6 from rfl, show ((7 : Nat) : Int) = 7 from rfl, show ((8 : Nat) : Int) = 8 from rfl, show ((9 : Nat) : Int) = 9 from rfl]
    first | (have h0 := hz (by decide); have hy := HY.out h0; have HOV0 := Lib.hid (HOV1.out h0); clear h0) | skip
    first | (have HBW := Lib.hid (HBW0.out (by decide))) | skip
    try simp only [show ((0 : Nat) : Int) = 0 from rfl, show ((1 : Nat) : Int) = 1 from rfl, show ((2 : Nat) : Int) = 2 from rfl, show ((3 : Nat) : Int) = 3 from rfl, show ((4 : Nat) : Int) = 4 from rfl, show ((5 : Nat) : Int) = 5 from rfl, show ((6 : Nat) : Int) = 6 from rfl, show ((7 : Nat) : Int) = 7 from rfl, show ((8 : Nat) : Int) = 8 from rfl, show ((9 : Nat) : Int) = 9 from rfl] at HBW
    clear hz HBW0 HOV1 HY
    first | (with_reducible have HV := Lib.hid (rest0 HV0.out.1 HV0.out.2.1 hv)) | (with_reducible have HV := Lib.hid (rest1 HV0.out.1 HV0.out.2.1 hv)) | (with_reducible have HV := Lib.hid (rest2 HV0.out.1 HV0.out.2.1 hv)) | (with_reducible have HV := Lib.hid (rest3 HV0.out.1 hv)) | (with_reducible have HV := Lib.hid (rest4 HV0.out.1 hv)) | (with_reducible have HV := Lib.hid (HR8.out hv)) | (with_reducible have HV := Lib.hid (HR9.out hv)) | (with_reducible have HV := Lib.hid (word_rest HV0.out.2.2 hv))
    clear hv HV0
    go_enter Tryz.func58, Tryz.ntmps58
    go_wp2_with (first | (go_at_call 65; (with_reducible refine (HW8.out _).mono ?_); rintro e w2 ⟨rfl, rfl⟩) | (go_at_call 65; (with_reducible refine (HW3.out _).mono ?_); rintro e w2 ⟨rfl, rfl⟩) | (go_at_call 65; (with_reducible refine (HWD.out _).mono ?_); rintro e w2 ⟨rfl, rfl⟩) | (go_at_call 81; (with_reducible refine (HF2.out _).mono ?_); rintro e w3 ⟨rfl, rfl⟩; have HB1 := Lib.hid ((Below.refl w.heap.size w).alloc (Nat.le_refl _) (.cells #[.int .i64 0, .int .i64 0] 3))) | (go_at_call 118; (with_reducible refine (HCA.out _).mono ?_); rintro e w4 ⟨rfl, hb4⟩; have HB2 := Lib.hid (HB1.out.trans (hb4.mono HB1.out.size)); clear hb4) | (go_at_call 118; (with_reducible refine (HCB.out _).mono ?_); rintro e w5 ⟨rfl, hb5⟩; have HB3 := Lib.hid (HB2.out.trans (hb5.mono HB2.out.size)); clear hb5) | (go_at_call 81; (with_reducible refine (HF3.out _).mono ?_); rintro e w6 ⟨rfl, rfl⟩; have HB4 := Lib.hid (HB3.out.alloc HB3.out.size (.cells #[.int .i64 0, .int .i64 0, .int .i64 0] 3))) | (go_at_call 73; (with_reducible refine (HRA.out _).mono ?_); rintro e w7 ⟨v7, rfl, px, cx, rfl, hm7, hb7⟩; have HM7 := Lib.hid hm7; have HB5 := Lib.hid (HB4.out.trans (hb7.mono HB4.out.size)); clear hm7 hb7) | (go_at_call 73; (with_reducible refine (HRB.out _).mono ?_); rintro e w8 ⟨v8, rfl, py, cy, rfl, hm8, hb8⟩; have HM8 := Lib.hid (HM7.out.below hb8); have HB6 := Lib.hid (HB5.out.trans (hb8.mono HB5.out.size)); obtain ⟨D, hD⟩ : ∃ D, w8.heap.size = D := ⟨_, rfl⟩; obtain ⟨W6, hW6⟩ : ∃ W6, (w8.alloc (.cells #[.bool false, .slice none 0 0] 74)).alloc (.cells #[.bool false, .slice none 0 0] 74) = W6 := ⟨_, rfl⟩; obtain ⟨W7, hW7⟩ : ∃ W7, (((W6.setCell ⟨D, 0, none⟩ (.bool false)).setCell ⟨D, 1, none⟩ (.slice px (ql a) cx)).setCell ⟨D + 1, 0, none⟩ (.bool false)).setCell ⟨D + 1, 1, none⟩ (.slice py (ql b) cy) = W7 := ⟨_, rfl⟩; obtain ⟨W8, hW8⟩ : ∃ W8, W7.alloc (.cells #[.bool false, .slice none 0 0] 74) = W8 := ⟨_, rfl⟩; have HX := Lib.hid (Bt.start hD hW6 HM8.out hm8 HB6.out hW7 hW8); have hs7 : W7.heap.size = D + 2 := (by rw [← hW7]; simp only [World.size_setCell]; rw [← hW6, World.size_alloc, World.size_alloc, hD]); clear hm8 hb8; have g0 := HX.out.1.b0.at 0; have g1 := HX.out.1.b0.at 1; have g2 := HX.out.1.b1.at 0; have g3 := HX.out.1.b1.at 1; have g4 := HX.out.1.b0.thawed 0; have g5 := HX.out.1.b0.thawed 1; have g6 := HX.out.1.b1.thawed 0; have g7 := HX.out.1.b1.thawed 1; have k0 := HX.out.2.b0.at 0; have k1 := HX.out.2.b0.at 1; have k2 := HX.out.2.b1.at 0; have k3 := HX.out.2.b1.at 1) | (go_at_call 82; (with_reducible refine (HPL.out _ _ _ HX.out.2.mx HX.out.2.my).mono ?_); rintro e w9 ⟨v9, rfl, p9, c9, rfl, hm9, hb9⟩; have HM9 := Lib.hid hm9; clear hm9; have H9 := Lib.hid (HX.out.2.below hb9); clear hb9; have d0 := H9.out.b2.at 0; have d1 := H9.out.b2.at 1; have d2 := H9.out.b2.thawed 0; have d3 := H9.out.b2.thawed 1) | (go_at_call 83; (with_reducible refine (HMI.out _ _ _ HX.out.2.mx HX.out.2.my).mono ?_); rintro e w9 ⟨v9, rfl, p9, c9, rfl, hm9, hb9⟩; have HM9 := Lib.hid hm9; clear hm9; have H9 := Lib.hid (HX.out.2.below hb9); clear hb9; have d0 := H9.out.b2.at 0; have d1 := H9.out.b2.at 1; have d2 := H9.out.b2.thawed 0; have d3 := H9.out.b2.thawed 1) | (go_at_call 85; (with_reducible refine (HTI.out _ _ _ HX.out.2.mx HX.out.2.my).mono ?_); rintro e w9 ⟨v9, rfl, p9, c9, rfl, hm9, hb9⟩; have HM9 := Lib.hid hm9; clear hm9; have H9 := Lib.hid (HX.out.2.below hb9); clear hb9; have d0 := H9.out.b2.at 0; have d1 := H9.out.b2.at 1; have d2 := H9.out.b2.thawed 0; have d3 := H9.out.b2.thawed 1) | (go_at_call 120; (with_reducible refine (HBW.out _ _ _ HX.out.2.mx HX.out.2.my).mono ?_); rintro e w9 ⟨v9, rfl, p9, c9, rfl, hm9, hb9⟩; have HM9 := Lib.hid hm9; clear hm9; have H9 := Lib.hid (HX.out.2.below hb9); clear hb9; have d0 := H9.out.b2.at 0; have d1 := H9.out.b2.at 1; have d2 := H9.out.b2.thawed 0; have d3 := H9.out.b2.thawed 1) | (go_at_call 89; (with_reducible refine (HOV0.out _ _ _ HX.out.2.mx HX.out.2.my).mono ?_); rintro e w9 ⟨v9, rfl, p9, c9, q9, e9, rfl, hm9, hn9, hb9⟩; have HM9 := Lib.hid hm9; have HN9 := Lib.hid hn9; clear hm9 hn9; have H9 := Lib.hid (HX.out.2.below hb9); clear hb9; have d0 := H9.out.b2.at 0; have d1 := H9.out.b2.at 1; have d2 := H9.out.b2.thawed 0; have d3 := H9.out.b2.thawed 1))
    first | (refine Ou.apply (X := Code.wp _ _ _ _) (by first | exact Ou.of H9.out HM9.out | exact Ou.of H9.out HN9.out) (fun W10 HO => ?_); obtain ⟨so, mo, po, co, HO, hwv, hql⟩ : ∃ so mo po co, Ou w (D + 2) so po mo co W10 ∧ wrapW so mo k = v ∧ ql mo < 20000 := ⟨_, _, _, _, HO, HV.out.1, HV.out.2⟩; clear HV) | (have hS0 := HX.out.2.drew; refine wp_region_held_drew (S := fun w' => ∃ u t, Bt w D px a cx py b cy u t w') (by kernel_rfl) ⟨_, _, hS0⟩ (fun hS => ?_); obtain ⟨wd, hwd⟩ : ∃ wd, W8.drew = wd := ⟨_, rfl⟩; rw [hwd] at hS hS0 ⊢; clear hwd; refine wpAnyH_take (i := 0) rfl (by kernel_rfl) (by kernel_rfl) (by kernel_rfl) (fun _ _ _ h => h) (yB_load rfl (.tmp 12) rfl D rfl (fun w' h => by obtain ⟨_, _, h⟩ := h; exact h.b0)) hS ?_; (try simp only [A1, A2, A3, Act.put, A4, A5, A6]); refine wpAnyH_take (i := 1) rfl (by kernel_rfl) (by kernel_rfl) (by kernel_rfl) (fun _ _ _ h => h) (yB_load rfl (.tmp 13) rfl (D + 1) rfl (fun w' h => by obtain ⟨_, _, h⟩ := h; exact h.b1)) hS ?_; (try simp only [A1, A2, A3, Act.put, A4, A5, A6]); refine wpAnyH_take (i := 2) (v := .int .i64 k) rfl (by kernel_rfl) (by kernel_rfl) (by kernel_rfl) (fun _ _ _ h => h) (Or.inl ⟨by rfl, fun w' _ => by rfl⟩) hS ?_; (try simp only [A1, A2, A3, Act.put, A4, A5, A6]); refine wpAnyH_ready (rs := [3]) (by kernel_rfl) (by simp) (AllReadyH.cons rfl (fun K hK => ?_) AllReadyH.nil); go_simp; go_at_call 119; refine (HSH.out _ _ hS0.my).mono ?_; rintro e w9 ⟨rfl, hb9⟩; have hS1 := hS0.below hb9; clear hS; refine hK.out _ _ ⟨_, _, hS1⟩ (fun hS => ?_); clear hK K; (try simp only [A1, A2, A3, Act.put, A4, A5, A6]); refine wpAnyH_ready (rs := [4]) (by kernel_rfl) (by simp) (AllReadyH.cons rfl (fun K hK => ?_) AllReadyH.nil); go_simp; go_at_call 114; refine (HPM.out _).mono ?_; rintro e w10 ⟨v10, rfl, pp, cp, rfl, hmp, hb10⟩; have hS2 := hS1.below hb10; clear hS; refine hK.out _ _ ⟨_, _, hS2⟩ (fun hS => ?_); clear hK K; (try simp only [A1, A2, A3, Act.put, A4, A5, A6]); refine wpAnyH_ready (rs := [5]) (by kernel_rfl) (by simp) (AllReadyH.cons rfl (fun K hK => ?_) AllReadyH.nil); go_simp; go_at_call 85; refine (HOP8.out _ _ _ hS2.mx hmp).mono ?_; rintro e w11 ⟨v11, rfl, p9, c9, rfl, hm9, hb11⟩; have hS3 := hS2.below hb11; clear hS; refine hK.out _ _ ⟨_, _, hS3⟩ (fun hS => ?_); clear hK K; (try simp only [A1, A2, A3, Act.put, A4, A5, A6]); refine wpAnyH_ready (rs := [6]) (by kernel_rfl) (by simp) (AllReadyH.cons rfl (fun K hK => ?_) AllReadyH.nil); rw [if_pos (by rfl)]; refine wpBig_store1 (.tmp 14) (.tmp 105) rfl (D + 2) rfl rfl hS3.b2 ?_; have HO := Ou.rowOf (s := false) hS3 hm9; refine hK.out _ _ ⟨_, _, hS3.put (.bool false) (.slice p9 (ql (a * 2 ^ m)) c9)⟩ (fun _ => ?_); clear hK K; refine wpAnyH_done (by kernel_rfl) ?_ _; obtain ⟨W10, hW10⟩ : ∃ W, w11.setRow (D + 2) #[.bool false, .slice p9 (ql (a * 2 ^ m)) c9] = W := ⟨_, rfl⟩; rw [hW10] at HO ⊢; clear hW10 hS3 hS2 hS1 hS0 hb9 hb10 hb11 hmp hm9; go_wp2; obtain ⟨so, mo, po, co, HO, hwv, hql⟩ : ∃ so mo po co, Ou w (D + 2) so po mo co W10 ∧ wrapW so mo k = v ∧ ql mo < 20000 := ⟨_, _, _, _, HO, HV.out.1, HV.out.2⟩; clear HV) | (have hS0 := HX.out.2.drew; refine wp_region_held_drew (S := fun w' => ∃ u t, Bt w D px a cx py b cy u t w') (by kernel_rfl) ⟨_, _, hS0⟩ (fun hS => ?_); obtain ⟨wd, hwd⟩ : ∃ wd, W8.drew = wd := ⟨_, rfl⟩; rw [hwd] at hS hS0 ⊢; clear hwd; refine wpAnyH_take (i := 0) rfl (by kernel_rfl) (by kernel_rfl) (by kernel_rfl) (fun _ _ _ h => h) (yB_load rfl (.tmp 12) rfl D rfl (fun w' h => by obtain ⟨_, _, h⟩ := h; exact h.b0)) hS ?_; (try simp only [A1, A2, A3, Act.put, A4, A5, A6]); refine wpAnyH_take (i := 1) rfl (by kernel_rfl) (by kernel_rfl) (by kernel_rfl) (fun _ _ _ h => h) (yB_load rfl (.tmp 13) rfl (D + 1) rfl (fun w' h => by obtain ⟨_, _, h⟩ := h; exact h.b1)) hS ?_; (try simp only [A1, A2, A3, Act.put, A4, A5, A6]); refine wpAnyH_take (i := 2) (v := .int .i64 k) rfl (by kernel_rfl) (by kernel_rfl) (by kernel_rfl) (fun _ _ _ h => h) (Or.inl ⟨by rfl, fun w' _ => by rfl⟩) hS ?_; (try simp only [A1, A2, A3, Act.put, A4, A5, A6]); refine wpAnyH_ready (rs := [3]) (by kernel_rfl) (by simp) (AllReadyH.cons rfl (fun K hK => ?_) AllReadyH.nil); go_simp; go_at_call 119; refine (HSH.out _ _ hS0.my).mono ?_; rintro e w9 ⟨rfl, hb9⟩; have hS1 := hS0.below hb9; clear hS; refine hK.out _ _ ⟨_, _, hS1⟩ (fun hS => ?_); clear hK K; (try simp only [A1, A2, A3, Act.put, A4, A5, A6]); refine wpAnyH_ready (rs := [4]) (by kernel_rfl) (by simp) (AllReadyH.cons rfl (fun K hK => ?_) AllReadyH.nil); go_simp; go_at_call 114; refine (HPM.out _).mono ?_; rintro e w10 ⟨v10, rfl, pp, cp, rfl, hmp, hb10⟩; have hS2 := hS1.below hb10; clear hS; refine hK.out _ _ ⟨_, _, hS2⟩ (fun hS => ?_); clear hK K; (try simp only [A1, A2, A3, Act.put, A4, A5, A6]); refine wpAnyH_ready (rs := [5]) (by kernel_rfl) (by simp) (AllReadyH.cons rfl (fun K hK => ?_) AllReadyH.nil); go_simp; go_at_call 89; refine (HOP9.out _ _ _ hS2.mx hmp).mono ?_; rintro e w11 ⟨v11, rfl, p9, c9, q9, e9, rfl, hm9, hn9, hb11⟩; have hS3 := hS2.below hb11; clear hS; refine hK.out _ _ ⟨_, _, hS3⟩ (fun hS => ?_); clear hK K; (try simp only [A1, A2, A3, Act.put, A4, A5, A6]); refine wpAnyH_take (i := 6) (v := .tuple #[.agg #[.bool false, .slice p9 (ql (a / 2 ^ m)) c9], .agg #[.bool false, .slice q9 (ql (a % 2 ^ m)) e9]]) rfl (by kernel_rfl) (by kernel_rfl) (by kernel_rfl) (fun _ _ _ h => h) (Or.inl ⟨by rfl, fun w' _ => by rfl⟩) hS ?_; (try simp only [A1, A2, A3, Act.put, A4, A5, A6]); refine wpAnyH_take (i := 7) (v := .agg #[.bool false, .slice p9 (ql (a / 2 ^ m)) c9]) rfl (by kernel_rfl) (by kernel_rfl) (by kernel_rfl) (fun _ _ _ h => h) (Or.inl ⟨by rfl, fun w' _ => by rfl⟩) hS ?_; (try simp only [A1, A2, A3, Act.put, A4, A5, A6]); refine wpAnyH_take (i := 8) (v := .agg #[.bool false, .slice q9 (ql (a % 2 ^ m)) e9]) rfl (by kernel_rfl) (by kernel_rfl) (by kernel_rfl) (fun _ _ _ h => h) (Or.inl ⟨by rfl, fun w' _ => by rfl⟩) hS ?_; (try simp only [A1, A2, A3, Act.put, A4, A5, A6]); refine wpAnyH_ready (rs := [9]) (by kernel_rfl) (by simp) (AllReadyH.cons rfl (fun K hK => ?_) AllReadyH.nil); rw [if_pos (by rfl)]; refine wpBig_store1 (.tmp 14) (.tmp 115) rfl (D + 2) rfl rfl hS3.b2 ?_; have HO := Ou.rowOf (s := false) hS3 hm9; refine hK.out _ _ ⟨_, _, hS3.put (.bool false) (.slice p9 (ql (a / 2 ^ m)) c9)⟩ (fun _ => ?_); clear hK K; refine wpAnyH_done (by kernel_rfl) ?_ _; obtain ⟨W10, hW10⟩ : ∃ W, w11.setRow (D + 2) #[.bool false, .slice p9 (ql (a / 2 ^ m)) c9] = W := ⟨_, rfl⟩; rw [hW10] at HO ⊢; clear hW10 hS3 hS2 hS1 hS0 hb9 hb10 hb11 hmp hm9; go_wp2; obtain ⟨so, mo, po, co, HO, hwv, hql⟩ : ∃ so mo po co, Ou w (D + 2) so po mo co W10 ∧ wrapW so mo k = v ∧ ql mo < 20000 := ⟨_, _, _, _, HO, HV.out.1, HV.out.2⟩; clear HV)
    have hk := HK.out
    have hP : 0 < 2 ^ k := Nat.pow_pos (by decide)
    have qp := pow2_ql hk
    obtain ⟨q, r, hq⟩ : ∃ q r, (if (so && !decide (mo % 2 ^ k = 0)) = true then (mo / 2 ^ k + 1, 2 ^ k - mo % 2 ^ k) else (mo / 2 ^ k, mo % 2 ^ k)) = (q, r) := ⟨_, _, rfl⟩
    have hr := wrap_rest hk hq
    rw [hwv] at hr
    subst hr
    obtain ⟨z, hz⟩ : ∃ z, ((so != false) && !decide (q = 0)) = z := ⟨_, rfl⟩
    have HOV := Lib.hid (fun (va vb : Value) W (h1 : Mag W va mo) (h2 : Mag W vb (2 ^ k)) => rOverB_any so false mo (2 ^ k) va vb W h1 h2 (by omega) (by omega) hP q v hq z hz)
    obtain ⟨P, hPP⟩ : ∃ P, 2 ^ k = P := ⟨_, rfl⟩
    rw [hPP] at HOV HPW
    clear hPP hq hz hP qp hk hql hwv
    have hS0 := HO.drew
    refine wp_region_held_drew (S := fun w' => Ou w (D + 2) so po mo co w') (by kernel_rfl) hS0 (fun hS => ?_)
    obtain ⟨wd, hwd⟩ : ∃ wd, W10.drew = wd := ⟨_, rfl⟩
    rw [hwd] at hS hS0 ⊢
    clear hwd hS0 HO
    refine wpAnyH_take (i := 0) rfl (by kernel_rfl) (by kernel_rfl) (by kernel_rfl) (fun _ _ _ h => h) (yB_load rfl (.tmp 14) rfl (D + 2) rfl (fun w' h => h.b)) hS ?_
    try simp only [A1, A2, A3, Act.put, A4, A5, A6]
    refine wpAnyH_take (i := 1) (v := .int .i64 k) rfl (by kernel_rfl) (by kernel_rfl) (by kernel_rfl) (fun _ _ _ h => h) (Or.inl ⟨by rfl, fun w' _ => by rfl⟩) hS ?_
    try simp only [A1, A2, A3, Act.put, A4, A5, A6]
    refine wpAnyH_meet 2 #[true, true, true, true, true, true, true, true, true, false, false] (fun a' b' W => ∃ pP cP pq cq pr cr Cp Cq, b' = (((((((a'.put (some 120) (.agg #[.bool false, .slice pP (ql P) cP])).put (some 121) (.tuple #[.agg #[.bool z, .slice pq (ql q) cq], .agg #[.bool false, .slice pr (ql v) cr]])).put (some 117) (.tuple #[.agg #[.bool z, .slice pq (ql q) cq], .agg #[.bool false, .slice pr (ql v) cr]])).put (some 122) (.agg #[.bool z, .slice pq (ql q) cq])).put (some 123) (.agg #[.bool false, .slice pr (ql v) cr])).put (some 15) (.pointer (some ⟨Cp, 0, none⟩))).put (some 16) (.pointer (some ⟨Cq, 0, none⟩))) ∧ Ou w (D + 2) so po mo co W ∧ Mag W (.slice pr (ql v) cr) v ∧ BlockIs W Cp 74 #[.bool false, .slice none 0 0] ∧ BlockIs W Cq 74 #[.bool false, .slice none 0 0] ∧ Cp ≠ Cq ∧ D + 2 < Cp ∧ D + 2 < Cq) ?key (fun hK0 => ?use)
    case use =>
      have HKEY := Lib.hid hK0
      clear hK0
      refine wpAnyH_ready (rs := [2, 7, 8]) (by kernel_rfl) (by simp) (AllReadyH.cons rfl (fun K hK => ?_) (AllReadyH.cons rfl (fun K hK => ?_) (AllReadyH.cons rfl (fun K hK => ?_) AllReadyH.nil)))
      · rw [if_pos (by rfl)]
        refine wp_callE 114 _ _ rfl _ (by kernel_rfl) (by kernel_rfl) (R := BigR wd false P) (HPW.out wd) (fun v21 w21 hR21 => ?_)
        obtain ⟨pP, cP, rfl, hP, hb21⟩ := hR21
        have hT := hS.below hb21
        clear hS
        refine hK.out _ _ hT (fun hS => ?_)
        clear hK K hT hb21
        try simp only [A1, A2, A3, Act.put, A4, A5, A6]
        refine wpAnyH_ready (rs := [3, 7, 8]) (by kernel_rfl) (by simp) (AllReadyH.cons rfl (fun K hK => ?_) (AllReadyH.cons rfl (fun K hK => ?_) (AllReadyH.cons rfl (fun K hK => ?_) AllReadyH.nil)))
        · rw [if_pos (by rfl)]
          refine wp_callE 89 _ _ rfl _ (by kernel_rfl) (by kernel_rfl) (R := OvR w21 z q v) (HOV.out _ _ _ hS.m hP) (fun v22 w22 hR22 => ?_)
          obtain ⟨pq, cq, pr, cr, rfl, hQ, hR, hb22⟩ := hR22
          replace hP := hP.below hb22
          have hT := hS.below hb22
          clear hS
          refine hK.out _ _ hT (fun hS => ?_)
          clear hK K hT hb22 hP hQ
          try simp only [A1, A2, A3, Act.put, A4, A5, A6]
          refine wpAnyH_take (i := 4) (v := .tuple #[.agg #[.bool z, .slice pq (ql q) cq], .agg #[.bool false, .slice pr (ql v) cr]]) rfl (by kernel_rfl) (by kernel_rfl) (by kernel_rfl) (fun _ _ _ h => h) (Or.inl ⟨by rfl, fun w' _ => by rfl⟩) hS ?_
          try simp only [A1, A2, A3, Act.put, A4, A5, A6]
          refine wpAnyH_take (i := 5) (v := .agg #[.bool z, .slice pq (ql q) cq]) rfl (by kernel_rfl) (by kernel_rfl) (by kernel_rfl) (fun _ _ _ h => h) (Or.inl ⟨by rfl, fun w' _ => by rfl⟩) hS ?_
          try simp only [A1, A2, A3, Act.put, A4, A5, A6]
          refine wpAnyH_take (i := 6) (v := .agg #[.bool false, .slice pr (ql v) cr]) rfl (by kernel_rfl) (by kernel_rfl) (by kernel_rfl) (fun _ _ _ h => h) (Or.inl ⟨by rfl, fun w' _ => by rfl⟩) hS ?_
          try simp only [A1, A2, A3, Act.put, A4, A5, A6]
          refine wpAnyH_ready (rs := [7, 8]) (by kernel_rfl) (by simp) (AllReadyH.cons rfl (fun K hK => ?_) (AllReadyH.cons rfl (fun K hK => ?_) AllReadyH.nil))
          · go_simp
            obtain ⟨Cp, hCp⟩ : ∃ C, w22.heap.size = C := ⟨_, rfl⟩
            obtain ⟨V23, hV23⟩ : ∃ V, w22.alloc (.cells #[.bool false, .slice none 0 0] 74) = V := ⟨_, rfl⟩
            have hbl : Below w22.heap.size w22 V23 := by rw [← hV23]; exact (Below.refl _ _).alloc (Nat.le_refl _) _
            have hEp : BlockIs V23 Cp 74 #[.bool false, .slice none 0 0] := by rw [← hV23, ← hCp]; exact BlockIs.new _ _ _
            have hLp : D + 2 < Cp := by rw [← hCp]; exact hS.b.lt
            replace hR := hR.below hbl
            have hT := hS.below hbl
            rw [hV23]
            try rw [hCp]
            clear hCp hV23 hbl hS
            refine hK.out _ _ hT (fun hS => ?_)
            clear hK K hT
            try simp only [A1, A2, A3, Act.put, A4, A5, A6]
            refine wpAnyH_ready (rs := [8]) (by kernel_rfl) (by simp) (AllReadyH.cons rfl (fun K hK => ?_) AllReadyH.nil)
            go_simp
            obtain ⟨Cq, hCq⟩ : ∃ C, V23.heap.size = C := ⟨_, rfl⟩
            obtain ⟨V24, hV24⟩ : ∃ V, V23.alloc (.cells #[.bool false, .slice none 0 0] 74) = V := ⟨_, rfl⟩
            have hbl : Below V23.heap.size V23 V24 := by rw [← hV24]; exact (Below.refl _ _).alloc (Nat.le_refl _) _
            have hEq : BlockIs V24 Cq 74 #[.bool false, .slice none 0 0] := by rw [← hV24, ← hCq]; exact BlockIs.new _ _ _
            have hLq : D + 2 < Cq := by rw [← hCq]; exact hS.b.lt
            have hNpq : Cp < Cq := by rw [← hCq]; exact hEp.lt
            replace hEp := hEp.below hbl hEp.lt
            replace hR := hR.below hbl
            have hT := hS.below hbl
            rw [hV24]
            try rw [hCq]
            clear hCq hV24 hbl hS
            refine hK.out _ _ hT (fun hS => ?_)
            clear hK K hT
            try simp only [A1, A2, A3, Act.put, A4, A5, A6]
            exact HKEY.out _ _ ⟨pP, cP, pq, cq, pr, cr, Cp, Cq, by simp only [Act.put, List.setIfInBounds_toArray, List.set_cons_zero, List.set_cons_succ], hS, hR, hEp, hEq, by first | exact Nat.ne_of_lt hNpq | exact (Nat.ne_of_lt hNqp).symm, hLp, hLq⟩
          · go_simp
            obtain ⟨Cq, hCq⟩ : ∃ C, w22.heap.size = C := ⟨_, rfl⟩
            obtain ⟨V25, hV25⟩ : ∃ V, w22.alloc (.cells #[.bool false, .slice none 0 0] 74) = V := ⟨_, rfl⟩
            have hbl : Below w22.heap.size w22 V25 := by rw [← hV25]; exact (Below.refl _ _).alloc (Nat.le_refl _) _
            have hEq : BlockIs V25 Cq 74 #[.bool false, .slice none 0 0] := by rw [← hV25, ← hCq]; exact BlockIs.new _ _ _
            have hLq : D + 2 < Cq := by rw [← hCq]; exact hS.b.lt
            replace hR := hR.below hbl
            have hT := hS.below hbl
            rw [hV25]
            try rw [hCq]
            clear hCq hV25 hbl hS
            refine hK.out _ _ hT (fun hS => ?_)
            clear hK K hT
            try simp only [A1, A2, A3, Act.put, A4, A5, A6]
            refine wpAnyH_ready (rs := [7]) (by kernel_rfl) (by simp) (AllReadyH.cons rfl (fun K hK => ?_) AllReadyH.nil)
            go_simp
            obtain ⟨Cp, hCp⟩ : ∃ C, V25.heap.size = C := ⟨_, rfl⟩
            obtain ⟨V26, hV26⟩ : ∃ V, V25.alloc (.cells #[.bool false, .slice none 0 0] 74) = V := ⟨_, rfl⟩
            have hbl : Below V25.heap.size V25 V26 := by rw [← hV26]; exact (Below.refl _ _).alloc (Nat.le_refl _) _
            have hEp : BlockIs V26 Cp 74 #[.bool false, .slice none 0 0] := by rw [← hV26, ← hCp]; exact BlockIs.new _ _ _
            have hLp : D + 2 < Cp := by rw [← hCp]; exact hS.b.lt
            have hNqp : Cq < Cp := by rw [← hCp]; exact hEq.lt
            replace hEq := hEq.below hbl hEq.lt
            replace hR := hR.below hbl
            have hT := hS.below hbl
            rw [hV26]
            try rw [hCp]
            clear hCp hV26 hbl hS
            refine hK.out _ _ hT (fun hS => ?_)
            clear hK K hT
            try simp only [A1, A2, A3, Act.put, A4, A5, A6]
            exact HKEY.out _ _ ⟨pP, cP, pq, cq, pr, cr, Cp, Cq, by simp only [Act.put, List.setIfInBounds_toArray, List.set_cons_zero, List.set_cons_succ], hS, hR, hEp, hEq, by first | exact Nat.ne_of_lt hNpq | exact (Nat.ne_of_lt hNqp).symm, hLp, hLq⟩
        · go_simp
          obtain ⟨Cp, hCp⟩ : ∃ C, w21.heap.size = C := ⟨_, rfl⟩
          obtain ⟨V27, hV27⟩ : ∃ V, w21.alloc (.cells #[.bool false, .slice none 0 0] 74) = V := ⟨_, rfl⟩
          have hbl : Below w21.heap.size w21 V27 := by rw [← hV27]; exact (Below.refl _ _).alloc (Nat.le_refl _) _
          have hEp : BlockIs V27 Cp 74 #[.bool false, .slice none 0 0] := by rw [← hV27, ← hCp]; exact BlockIs.new _ _ _
          have hLp : D + 2 < Cp := by rw [← hCp]; exact hS.b.lt
          replace hP := hP.below hbl
          have hT := hS.below hbl
          rw [hV27]
          try rw [hCp]
          clear hCp hV27 hbl hS
          refine hK.out _ _ hT (fun hS => ?_)
          clear hK K hT
          try simp only [A1, A2, A3, Act.put, A4, A5, A6]
          refine wpAnyH_ready (rs := [3, 8]) (by kernel_rfl) (by simp) (AllReadyH.cons rfl (fun K hK => ?_) (AllReadyH.cons rfl (fun K hK => ?_) AllReadyH.nil))
          · rw [if_pos (by rfl)]
            refine wp_callE 89 _ _ rfl _ (by kernel_rfl) (by kernel_rfl) (R := OvR V27 z q v) (HOV.out _ _ _ hS.m hP) (fun v28 w28 hR28 => ?_)
            obtain ⟨pq, cq, pr, cr, rfl, hQ, hR, hb28⟩ := hR28
            replace hEp := hEp.below hb28 hEp.lt
            replace hP := hP.below hb28
            have hT := hS.below hb28
            clear hS
            refine hK.out _ _ hT (fun hS => ?_)
            clear hK K hT hb28 hP hQ
            try simp only [A1, A2, A3, Act.put, A4, A5, A6]
            refine wpAnyH_take (i := 4) (v := .tuple #[.agg #[.bool z, .slice pq (ql q) cq], .agg #[.bool false, .slice pr (ql v) cr]]) rfl (by kernel_rfl) (by kernel_rfl) (by kernel_rfl) (fun _ _ _ h => h) (Or.inl ⟨by rfl, fun w' _ => by rfl⟩) hS ?_
            try simp only [A1, A2, A3, Act.put, A4, A5, A6]
            refine wpAnyH_take (i := 5) (v := .agg #[.bool z, .slice pq (ql q) cq]) rfl (by kernel_rfl) (by kernel_rfl) (by kernel_rfl) (fun _ _ _ h => h) (Or.inl ⟨by rfl, fun w' _ => by rfl⟩) hS ?_
            try simp only [A1, A2, A3, Act.put, A4, A5, A6]
            refine wpAnyH_take (i := 6) (v := .agg #[.bool false, .slice pr (ql v) cr]) rfl (by kernel_rfl) (by kernel_rfl) (by kernel_rfl) (fun _ _ _ h => h) (Or.inl ⟨by rfl, fun w' _ => by rfl⟩) hS ?_
            try simp only [A1, A2, A3, Act.put, A4, A5, A6]
            refine wpAnyH_ready (rs := [8]) (by kernel_rfl) (by simp) (AllReadyH.cons rfl (fun K hK => ?_) AllReadyH.nil)
            go_simp
            obtain ⟨Cq, hCq⟩ : ∃ C, w28.heap.size = C := ⟨_, rfl⟩
            obtain ⟨V29, hV29⟩ : ∃ V, w28.alloc (.cells #[.bool false, .slice none 0 0] 74) = V := ⟨_, rfl⟩
            have hbl : Below w28.heap.size w28 V29 := by rw [← hV29]; exact (Below.refl _ _).alloc (Nat.le_refl _) _
            have hEq : BlockIs V29 Cq 74 #[.bool false, .slice none 0 0] := by rw [← hV29, ← hCq]; exact BlockIs.new _ _ _
            have hLq : D + 2 < Cq := by rw [← hCq]; exact hS.b.lt
            have hNpq : Cp < Cq := by rw [← hCq]; exact hEp.lt
            replace hEp := hEp.below hbl hEp.lt
            replace hR := hR.below hbl
            have hT := hS.below hbl
            rw [hV29]
            try rw [hCq]
            clear hCq hV29 hbl hS
            refine hK.out _ _ hT (fun hS => ?_)
            clear hK K hT
            try simp only [A1, A2, A3, Act.put, A4, A5, A6]
            exact HKEY.out _ _ ⟨pP, cP, pq, cq, pr, cr, Cp, Cq, by simp only [Act.put, List.setIfInBounds_toArray, List.set_cons_zero, List.set_cons_succ], hS, hR, hEp, hEq, by first | exact Nat.ne_of_lt hNpq | exact (Nat.ne_of_lt hNqp).symm, hLp, hLq⟩
          · go_simp
            obtain ⟨Cq, hCq⟩ : ∃ C, V27.heap.size = C := ⟨_, rfl⟩
            obtain ⟨V30, hV30⟩ : ∃ V, V27.alloc (.cells #[.bool false, .slice none 0 0] 74) = V := ⟨_, rfl⟩
            have hbl : Below V27.heap.size V27 V30 := by rw [← hV30]; exact (Below.refl _ _).alloc (Nat.le_refl _) _
            have hEq : BlockIs V30 Cq 74 #[.bool false, .slice none 0 0] := by rw [← hV30, ← hCq]; exact BlockIs.new _ _ _
            have hLq : D + 2 < Cq := by rw [← hCq]; exact hS.b.lt
            have hNpq : Cp < Cq := by rw [← hCq]; exact hEp.lt
            replace hEp := hEp.below hbl hEp.lt
            replace hP := hP.below hbl
            have hT := hS.below hbl
            rw [hV30]
            try rw [hCq]
            clear hCq hV30 hbl hS
            refine hK.out _ _ hT (fun hS => ?_)
            clear hK K hT
            try simp only [A1, A2, A3, Act.put, A4, A5, A6]
            refine wpAnyH_ready (rs := [3]) (by kernel_rfl) (by simp) (AllReadyH.cons rfl (fun K hK => ?_) AllReadyH.nil)
            rw [if_pos (by rfl)]
            refine wp_callE 89 _ _ rfl _ (by kernel_rfl) (by kernel_rfl) (R := OvR V30 z q v) (HOV.out _ _ _ hS.m hP) (fun v31 w31 hR31 => ?_)
            obtain ⟨pq, cq, pr, cr, rfl, hQ, hR, hb31⟩ := hR31
            replace hEp := hEp.below hb31 hEp.lt
            replace hEq := hEq.below hb31 hEq.lt
            replace hP := hP.below hb31
            have hT := hS.below hb31
            clear hS
            refine hK.out _ _ hT (fun hS => ?_)
            clear hK K hT hb31 hP hQ
            try simp only [A1, A2, A3, Act.put, A4, A5, A6]
            refine wpAnyH_take (i := 4) (v := .tuple #[.agg #[.bool z, .slice pq (ql q) cq], .agg #[.bool false, .slice pr (ql v) cr]]) rfl (by kernel_rfl) (by kernel_rfl) (by kernel_rfl) (fun _ _ _ h => h) (Or.inl ⟨by rfl, fun w' _ => by rfl⟩) hS ?_
            try simp only [A1, A2, A3, Act.put, A4, A5, A6]
            refine wpAnyH_take (i := 5) (v := .agg #[.bool z, .slice pq (ql q) cq]) rfl (by kernel_rfl) (by kernel_rfl) (by kernel_rfl) (fun _ _ _ h => h) (Or.inl ⟨by rfl, fun w' _ => by rfl⟩) hS ?_
            try simp only [A1, A2, A3, Act.put, A4, A5, A6]
            refine wpAnyH_take (i := 6) (v := .agg #[.bool false, .slice pr (ql v) cr]) rfl (by kernel_rfl) (by kernel_rfl) (by kernel_rfl) (fun _ _ _ h => h) (Or.inl ⟨by rfl, fun w' _ => by rfl⟩) hS ?_
            try simp only [A1, A2, A3, Act.put, A4, A5, A6]
            exact HKEY.out _ _ ⟨pP, cP, pq, cq, pr, cr, Cp, Cq, by simp only [Act.put, List.setIfInBounds_toArray, List.set_cons_zero, List.set_cons_succ], hS, hR, hEp, hEq, by first | exact Nat.ne_of_lt hNpq | exact (Nat.ne_of_lt hNqp).symm, hLp, hLq⟩
        · go_simp
          obtain ⟨Cq, hCq⟩ : ∃ C, w21.heap.size = C := ⟨_, rfl⟩
          obtain ⟨V32, hV32⟩ : ∃ V, w21.alloc (.cells #[.bool false, .slice none 0 0] 74) = V := ⟨_, rfl⟩
          have hbl : Below w21.heap.size w21 V32 := by rw [← hV32]; exact (Below.refl _ _).alloc (Nat.le_refl _) _
          have hEq : BlockIs V32 Cq 74 #[.bool false, .slice none 0 0] := by rw [← hV32, ← hCq]; exact BlockIs.new _ _ _
          have hLq : D + 2 < Cq := by rw [← hCq]; exact hS.b.lt
          replace hP := hP.below hbl
          have hT := hS.below hbl
          rw [hV32]
          try rw [hCq]
          clear hCq hV32 hbl hS
          refine hK.out _ _ hT (fun hS => ?_)
          clear hK K hT
          try simp only [A1, A2, A3, Act.put, A4, A5, A6]
          refine wpAnyH_ready (rs := [3, 7]) (by kernel_rfl) (by simp) (AllReadyH.cons rfl (fun K hK => ?_) (AllReadyH.cons rfl (fun K hK => ?_) AllReadyH.nil))
          · rw [if_pos (by rfl)]
            refine wp_callE 89 _ _ rfl _ (by kernel_rfl) (by kernel_rfl) (R := OvR V32 z q v) (HOV.out _ _ _ hS.m hP) (fun v33 w33 hR33 => ?_)
            obtain ⟨pq, cq, pr, cr, rfl, hQ, hR, hb33⟩ := hR33
            replace hEq := hEq.below hb33 hEq.lt
            replace hP := hP.below hb33
            have hT := hS.below hb33
            clear hS
            refine hK.out _ _ hT (fun hS => ?_)
            clear hK K hT hb33 hP hQ
            try simp only [A1, A2, A3, Act.put, A4, A5, A6]
            refine wpAnyH_take (i := 4) (v := .tuple #[.agg #[.bool z, .slice pq (ql q) cq], .agg #[.bool false, .slice pr (ql v) cr]]) rfl (by kernel_rfl) (by kernel_rfl) (by kernel_rfl) (fun _ _ _ h => h) (Or.inl ⟨by rfl, fun w' _ => by rfl⟩) hS ?_
            try simp only [A1, A2, A3, Act.put, A4, A5, A6]
            refine wpAnyH_take (i := 5) (v := .agg #[.bool z, .slice pq (ql q) cq]) rfl (by kernel_rfl) (by kernel_rfl) (by kernel_rfl) (fun _ _ _ h => h) (Or.inl ⟨by rfl, fun w' _ => by rfl⟩) hS ?_
            try simp only [A1, A2, A3, Act.put, A4, A5, A6]
            refine wpAnyH_take (i := 6) (v := .agg #[.bool false, .slice pr (ql v) cr]) rfl (by kernel_rfl) (by kernel_rfl) (by kernel_rfl) (fun _ _ _ h => h) (Or.inl ⟨by rfl, fun w' _ => by rfl⟩) hS ?_
            try simp only [A1, A2, A3, Act.put, A4, A5, A6]
            refine wpAnyH_ready (rs := [7]) (by kernel_rfl) (by simp) (AllReadyH.cons rfl (fun K hK => ?_) AllReadyH.nil)
            go_simp
            obtain ⟨Cp, hCp⟩ : ∃ C, w33.heap.size = C := ⟨_, rfl⟩
            obtain ⟨V34, hV34⟩ : ∃ V, w33.alloc (.cells #[.bool false, .slice none 0 0] 74) = V := ⟨_, rfl⟩
            have hbl : Below w33.heap.size w33 V34 := by rw [← hV34]; exact (Below.refl _ _).alloc (Nat.le_refl _) _
            have hEp : BlockIs V34 Cp 74 #[.bool false, .slice none 0 0] := by rw [← hV34, ← hCp]; exact BlockIs.new _ _ _
            have hLp : D + 2 < Cp := by rw [← hCp]; exact hS.b.lt
            have hNqp : Cq < Cp := by rw [← hCp]; exact hEq.lt
            replace hEq := hEq.below hbl hEq.lt
            replace hR := hR.below hbl
            have hT := hS.below hbl
            rw [hV34]
            try rw [hCp]
            clear hCp hV34 hbl hS
            refine hK.out _ _ hT (fun hS => ?_)
            clear hK K hT
            try simp only [A1, A2, A3, Act.put, A4, A5, A6]
            exact HKEY.out _ _ ⟨pP, cP, pq, cq, pr, cr, Cp, Cq, by simp only [Act.put, List.setIfInBounds_toArray, List.set_cons_zero, List.set_cons_succ], hS, hR, hEp, hEq, by first | exact Nat.ne_of_lt hNpq | exact (Nat.ne_of_lt hNqp).symm, hLp, hLq⟩
          · go_simp
            obtain ⟨Cp, hCp⟩ : ∃ C, V32.heap.size = C := ⟨_, rfl⟩
            obtain ⟨V35, hV35⟩ : ∃ V, V32.alloc (.cells #[.bool false, .slice none 0 0] 74) = V := ⟨_, rfl⟩
            have hbl : Below V32.heap.size V32 V35 := by rw [← hV35]; exact (Below.refl _ _).alloc (Nat.le_refl _) _
            have hEp : BlockIs V35 Cp 74 #[.bool false, .slice none 0 0] := by rw [← hV35, ← hCp]; exact BlockIs.new _ _ _
            have hLp : D + 2 < Cp := by rw [← hCp]; exact hS.b.lt
            have hNqp : Cq < Cp := by rw [← hCp]; exact hEq.lt
            replace hEq := hEq.below hbl hEq.lt
            replace hP := hP.below hbl
            have hT := hS.below hbl
            rw [hV35]
            try rw [hCp]
            clear hCp hV35 hbl hS
            refine hK.out _ _ hT (fun hS => ?_)
            clear hK K hT
            try simp only [A1, A2, A3, Act.put, A4, A5, A6]
            refine wpAnyH_ready (rs := [3]) (by kernel_rfl) (by simp) (AllReadyH.cons rfl (fun K hK => ?_) AllReadyH.nil)
            rw [if_pos (by rfl)]
            refine wp_callE 89 _ _ rfl _ (by kernel_rfl) (by kernel_rfl) (R := OvR V35 z q v) (HOV.out _ _ _ hS.m hP) (fun v36 w36 hR36 => ?_)
            obtain ⟨pq, cq, pr, cr, rfl, hQ, hR, hb36⟩ := hR36
            replace hEq := hEq.below hb36 hEq.lt
            replace hEp := hEp.below hb36 hEp.lt
            replace hP := hP.below hb36
            have hT := hS.below hb36
            clear hS
            refine hK.out _ _ hT (fun hS => ?_)
            clear hK K hT hb36 hP hQ
            try simp only [A1, A2, A3, Act.put, A4, A5, A6]
            refine wpAnyH_take (i := 4) (v := .tuple #[.agg #[.bool z, .slice pq (ql q) cq], .agg #[.bool false, .slice pr (ql v) cr]]) rfl (by kernel_rfl) (by kernel_rfl) (by kernel_rfl) (fun _ _ _ h => h) (Or.inl ⟨by rfl, fun w' _ => by rfl⟩) hS ?_
            try simp only [A1, A2, A3, Act.put, A4, A5, A6]
            refine wpAnyH_take (i := 5) (v := .agg #[.bool z, .slice pq (ql q) cq]) rfl (by kernel_rfl) (by kernel_rfl) (by kernel_rfl) (fun _ _ _ h => h) (Or.inl ⟨by rfl, fun w' _ => by rfl⟩) hS ?_
            try simp only [A1, A2, A3, Act.put, A4, A5, A6]
            refine wpAnyH_take (i := 6) (v := .agg #[.bool false, .slice pr (ql v) cr]) rfl (by kernel_rfl) (by kernel_rfl) (by kernel_rfl) (fun _ _ _ h => h) (Or.inl ⟨by rfl, fun w' _ => by rfl⟩) hS ?_
            try simp only [A1, A2, A3, Act.put, A4, A5, A6]
            exact HKEY.out _ _ ⟨pP, cP, pq, cq, pr, cr, Cp, Cq, by simp only [Act.put, List.setIfInBounds_toArray, List.set_cons_zero, List.set_cons_succ], hS, hR, hEp, hEq, by first | exact Nat.ne_of_lt hNpq | exact (Nat.ne_of_lt hNqp).symm, hLp, hLq⟩
      · go_simp
        obtain ⟨Cp, hCp⟩ : ∃ C, wd.heap.size = C := ⟨_, rfl⟩
        obtain ⟨V37, hV37⟩ : ∃ V, wd.alloc (.cells #[.bool false, .slice none 0 0] 74) = V := ⟨_, rfl⟩
        have hbl : Below wd.heap.size wd V37 := by rw [← hV37]; exact (Below.refl _ _).alloc (Nat.le_refl _) _
        have hEp : BlockIs V37 Cp 74 #[.bool false, .slice none 0 0] := by rw [← hV37, ← hCp]; exact BlockIs.new _ _ _
        have hLp : D + 2 < Cp := by rw [← hCp]; exact hS.b.lt
        have hT := hS.below hbl
        rw [hV37]
        try rw [hCp]
        clear hCp hV37 hbl hS
        refine hK.out _ _ hT (fun hS => ?_)
        clear hK K hT
        try simp only [A1, A2, A3, Act.put, A4, A5, A6]
        refine wpAnyH_ready (rs := [2, 8]) (by kernel_rfl) (by simp) (AllReadyH.cons rfl (fun K hK => ?_) (AllReadyH.cons rfl (fun K hK => ?_) AllReadyH.nil))
        · rw [if_pos (by rfl)]
          refine wp_callE 114 _ _ rfl _ (by kernel_rfl) (by kernel_rfl) (R := BigR V37 false P) (HPW.out V37) (fun v38 w38 hR38 => ?_)
          obtain ⟨pP, cP, rfl, hP, hb38⟩ := hR38
          replace hEp := hEp.below hb38 hEp.lt
          have hT := hS.below hb38
          clear hS
          refine hK.out _ _ hT (fun hS => ?_)
          clear hK K hT hb38
          try simp only [A1, A2, A3, Act.put, A4, A5, A6]
          refine wpAnyH_ready (rs := [3, 8]) (by kernel_rfl) (by simp) (AllReadyH.cons rfl (fun K hK => ?_) (AllReadyH.cons rfl (fun K hK => ?_) AllReadyH.nil))
          · rw [if_pos (by rfl)]
            refine wp_callE 89 _ _ rfl _ (by kernel_rfl) (by kernel_rfl) (R := OvR w38 z q v) (HOV.out _ _ _ hS.m hP) (fun v39 w39 hR39 => ?_)
            obtain ⟨pq, cq, pr, cr, rfl, hQ, hR, hb39⟩ := hR39
            replace hEp := hEp.below hb39 hEp.lt
            replace hP := hP.below hb39
            have hT := hS.below hb39
            clear hS
            refine hK.out _ _ hT (fun hS => ?_)
            clear hK K hT hb39 hP hQ
            try simp only [A1, A2, A3, Act.put, A4, A5, A6]
            refine wpAnyH_take (i := 4) (v := .tuple #[.agg #[.bool z, .slice pq (ql q) cq], .agg #[.bool false, .slice pr (ql v) cr]]) rfl (by kernel_rfl) (by kernel_rfl) (by kernel_rfl) (fun _ _ _ h => h) (Or.inl ⟨by rfl, fun w' _ => by rfl⟩) hS ?_
            try simp only [A1, A2, A3, Act.put, A4, A5, A6]
            refine wpAnyH_take (i := 5) (v := .agg #[.bool z, .slice pq (ql q) cq]) rfl (by kernel_rfl) (by kernel_rfl) (by kernel_rfl) (fun _ _ _ h => h) (Or.inl ⟨by rfl, fun w' _ => by rfl⟩) hS ?_
            try simp only [A1, A2, A3, Act.put, A4, A5, A6]
            refine wpAnyH_take (i := 6) (v := .agg #[.bool false, .slice pr (ql v) cr]) rfl (by kernel_rfl) (by kernel_rfl) (by kernel_rfl) (fun _ _ _ h => h) (Or.inl ⟨by rfl, fun w' _ => by rfl⟩) hS ?_
            try simp only [A1, A2, A3, Act.put, A4, A5, A6]
            refine wpAnyH_ready (rs := [8]) (by kernel_rfl) (by simp) (AllReadyH.cons rfl (fun K hK => ?_) AllReadyH.nil)
            go_simp
            obtain ⟨Cq, hCq⟩ : ∃ C, w39.heap.size = C := ⟨_, rfl⟩
            obtain ⟨V40, hV40⟩ : ∃ V, w39.alloc (.cells #[.bool false, .slice none 0 0] 74) = V := ⟨_, rfl⟩
            have hbl : Below w39.heap.size w39 V40 := by rw [← hV40]; exact (Below.refl _ _).alloc (Nat.le_refl _) _
            have hEq : BlockIs V40 Cq 74 #[.bool false, .slice none 0 0] := by rw [← hV40, ← hCq]; exact BlockIs.new _ _ _
            have hLq : D + 2 < Cq := by rw [← hCq]; exact hS.b.lt
            have hNpq : Cp < Cq := by rw [← hCq]; exact hEp.lt
            replace hEp := hEp.below hbl hEp.lt
            replace hR := hR.below hbl
            have hT := hS.below hbl
            rw [hV40]
            try rw [hCq]
            clear hCq hV40 hbl hS
            refine hK.out _ _ hT (fun hS => ?_)
            clear hK K hT
            try simp only [A1, A2, A3, Act.put, A4, A5, A6]
            exact HKEY.out _ _ ⟨pP, cP, pq, cq, pr, cr, Cp, Cq, by simp only [Act.put, List.setIfInBounds_toArray, List.set_cons_zero, List.set_cons_succ], hS, hR, hEp, hEq, by first | exact Nat.ne_of_lt hNpq | exact (Nat.ne_of_lt hNqp).symm, hLp, hLq⟩
          · go_simp
            obtain ⟨Cq, hCq⟩ : ∃ C, w38.heap.size = C := ⟨_, rfl⟩
            obtain ⟨V41, hV41⟩ : ∃ V, w38.alloc (.cells #[.bool false, .slice none 0 0] 74) = V := ⟨_, rfl⟩
            have hbl : Below w38.heap.size w38 V41 := by rw [← hV41]; exact (Below.refl _ _).alloc (Nat.le_refl _) _
            have hEq : BlockIs V41 Cq 74 #[.bool false, .slice none 0 0] := by rw [← hV41, ← hCq]; exact BlockIs.new _ _ _
            have hLq : D + 2 < Cq := by rw [← hCq]; exact hS.b.lt
            have hNpq : Cp < Cq := by rw [← hCq]; exact hEp.lt
            replace hEp := hEp.below hbl hEp.lt
            replace hP := hP.below hbl
            have hT := hS.below hbl
            rw [hV41]
            try rw [hCq]
            clear hCq hV41 hbl hS
            refine hK.out _ _ hT (fun hS => ?_)
            clear hK K hT
            try simp only [A1, A2, A3, Act.put, A4, A5, A6]
            refine wpAnyH_ready (rs := [3]) (by kernel_rfl) (by simp) (AllReadyH.cons rfl (fun K hK => ?_) AllReadyH.nil)
            rw [if_pos (by rfl)]
            refine wp_callE 89 _ _ rfl _ (by kernel_rfl) (by kernel_rfl) (R := OvR V41 z q v) (HOV.out _ _ _ hS.m hP) (fun v42 w42 hR42 => ?_)
            obtain ⟨pq, cq, pr, cr, rfl, hQ, hR, hb42⟩ := hR42
            replace hEp := hEp.below hb42 hEp.lt
            replace hEq := hEq.below hb42 hEq.lt
            replace hP := hP.below hb42
            have hT := hS.below hb42
            clear hS
            refine hK.out _ _ hT (fun hS => ?_)
            clear hK K hT hb42 hP hQ
            try simp only [A1, A2, A3, Act.put, A4, A5, A6]
            refine wpAnyH_take (i := 4) (v := .tuple #[.agg #[.bool z, .slice pq (ql q) cq], .agg #[.bool false, .slice pr (ql v) cr]]) rfl (by kernel_rfl) (by kernel_rfl) (by kernel_rfl) (fun _ _ _ h => h) (Or.inl ⟨by rfl, fun w' _ => by rfl⟩) hS ?_
            try simp only [A1, A2, A3, Act.put, A4, A5, A6]
            refine wpAnyH_take (i := 5) (v := .agg #[.bool z, .slice pq (ql q) cq]) rfl (by kernel_rfl) (by kernel_rfl) (by kernel_rfl) (fun _ _ _ h => h) (Or.inl ⟨by rfl, fun w' _ => by rfl⟩) hS ?_
            try simp only [A1, A2, A3, Act.put, A4, A5, A6]
            refine wpAnyH_take (i := 6) (v := .agg #[.bool false, .slice pr (ql v) cr]) rfl (by kernel_rfl) (by kernel_rfl) (by kernel_rfl) (fun _ _ _ h => h) (Or.inl ⟨by rfl, fun w' _ => by rfl⟩) hS ?_
            try simp only [A1, A2, A3, Act.put, A4, A5, A6]
            exact HKEY.out _ _ ⟨pP, cP, pq, cq, pr, cr, Cp, Cq, by simp only [Act.put, List.setIfInBounds_toArray, List.set_cons_zero, List.set_cons_succ], hS, hR, hEp, hEq, by first | exact Nat.ne_of_lt hNpq | exact (Nat.ne_of_lt hNqp).symm, hLp, hLq⟩
        · go_simp
          obtain ⟨Cq, hCq⟩ : ∃ C, V37.heap.size = C := ⟨_, rfl⟩
          obtain ⟨V43, hV43⟩ : ∃ V, V37.alloc (.cells #[.bool false, .slice none 0 0] 74) = V := ⟨_, rfl⟩
          have hbl : Below V37.heap.size V37 V43 := by rw [← hV43]; exact (Below.refl _ _).alloc (Nat.le_refl _) _
          have hEq : BlockIs V43 Cq 74 #[.bool false, .slice none 0 0] := by rw [← hV43, ← hCq]; exact BlockIs.new _ _ _
          have hLq : D + 2 < Cq := by rw [← hCq]; exact hS.b.lt
          have hNpq : Cp < Cq := by rw [← hCq]; exact hEp.lt
          replace hEp := hEp.below hbl hEp.lt
          have hT := hS.below hbl
          rw [hV43]
          try rw [hCq]
          clear hCq hV43 hbl hS
          refine hK.out _ _ hT (fun hS => ?_)
          clear hK K hT
          try simp only [A1, A2, A3, Act.put, A4, A5, A6]
          refine wpAnyH_ready (rs := [2]) (by kernel_rfl) (by simp) (AllReadyH.cons rfl (fun K hK => ?_) AllReadyH.nil)
          rw [if_pos (by rfl)]
          refine wp_callE 114 _ _ rfl _ (by kernel_rfl) (by kernel_rfl) (R := BigR V43 false P) (HPW.out V43) (fun v44 w44 hR44 => ?_)
          obtain ⟨pP, cP, rfl, hP, hb44⟩ := hR44
          replace hEp := hEp.below hb44 hEp.lt
          replace hEq := hEq.below hb44 hEq.lt
          have hT := hS.below hb44
          clear hS
          refine hK.out _ _ hT (fun hS => ?_)
          clear hK K hT hb44
          try simp only [A1, A2, A3, Act.put, A4, A5, A6]
          refine wpAnyH_ready (rs := [3]) (by kernel_rfl) (by simp) (AllReadyH.cons rfl (fun K hK => ?_) AllReadyH.nil)
          rw [if_pos (by rfl)]
          refine wp_callE 89 _ _ rfl _ (by kernel_rfl) (by kernel_rfl) (R := OvR w44 z q v) (HOV.out _ _ _ hS.m hP) (fun v45 w45 hR45 => ?_)
          obtain ⟨pq, cq, pr, cr, rfl, hQ, hR, hb45⟩ := hR45
          replace hEp := hEp.below hb45 hEp.lt
          replace hEq := hEq.below hb45 hEq.lt
          replace hP := hP.below hb45
          have hT := hS.below hb45
          clear hS
          refine hK.out _ _ hT (fun hS => ?_)
          clear hK K hT hb45 hP hQ
          try simp only [A1, A2, A3, Act.put, A4, A5, A6]
          refine wpAnyH_take (i := 4) (v := .tuple #[.agg #[.bool z, .slice pq (ql q) cq], .agg #[.bool false, .slice pr (ql v) cr]]) rfl (by kernel_rfl) (by kernel_rfl) (by kernel_rfl) (fun _ _ _ h => h) (Or.inl ⟨by rfl, fun w' _ => by rfl⟩) hS ?_
          try simp only [A1, A2, A3, Act.put, A4, A5, A6]
          refine wpAnyH_take (i := 5) (v := .agg #[.bool z, .slice pq (ql q) cq]) rfl (by kernel_rfl) (by kernel_rfl) (by kernel_rfl) (fun _ _ _ h => h) (Or.inl ⟨by rfl, fun w' _ => by rfl⟩) hS ?_
          try simp only [A1, A2, A3, Act.put, A4, A5, A6]
          refine wpAnyH_take (i := 6) (v := .agg #[.bool false, .slice pr (ql v) cr]) rfl (by kernel_rfl) (by kernel_rfl) (by kernel_rfl) (fun _ _ _ h => h) (Or.inl ⟨by rfl, fun w' _ => by rfl⟩) hS ?_
          try simp only [A1, A2, A3, Act.put, A4, A5, A6]
          exact HKEY.out _ _ ⟨pP, cP, pq, cq, pr, cr, Cp, Cq, by simp only [Act.put, List.setIfInBounds_toArray, List.set_cons_zero, List.set_cons_succ], hS, hR, hEp, hEq, by first | exact Nat.ne_of_lt hNpq | exact (Nat.ne_of_lt hNqp).symm, hLp, hLq⟩
      · go_simp
        obtain ⟨Cq, hCq⟩ : ∃ C, wd.heap.size = C := ⟨_, rfl⟩
        obtain ⟨V46, hV46⟩ : ∃ V, wd.alloc (.cells #[.bool false, .slice none 0 0] 74) = V := ⟨_, rfl⟩
        have hbl : Below wd.heap.size wd V46 := by rw [← hV46]; exact (Below.refl _ _).alloc (Nat.le_refl _) _
        have hEq : BlockIs V46 Cq 74 #[.bool false, .slice none 0 0] := by rw [← hV46, ← hCq]; exact BlockIs.new _ _ _
        have hLq : D + 2 < Cq := by rw [← hCq]; exact hS.b.lt
        have hT := hS.below hbl
        rw [hV46]
        try rw [hCq]
        clear hCq hV46 hbl hS
        refine hK.out _ _ hT (fun hS => ?_)
        clear hK K hT
        try simp only [A1, A2, A3, Act.put, A4, A5, A6]
        refine wpAnyH_ready (rs := [2, 7]) (by kernel_rfl) (by simp) (AllReadyH.cons rfl (fun K hK => ?_) (AllReadyH.cons rfl (fun K hK => ?_) AllReadyH.nil))
        · rw [if_pos (by rfl)]
          refine wp_callE 114 _ _ rfl _ (by kernel_rfl) (by kernel_rfl) (R := BigR V46 false P) (HPW.out V46) (fun v47 w47 hR47 => ?_)
          obtain ⟨pP, cP, rfl, hP, hb47⟩ := hR47
          replace hEq := hEq.below hb47 hEq.lt
          have hT := hS.below hb47
          clear hS
          refine hK.out _ _ hT (fun hS => ?_)
          clear hK K hT hb47
          try simp only [A1, A2, A3, Act.put, A4, A5, A6]
          refine wpAnyH_ready (rs := [3, 7]) (by kernel_rfl) (by simp) (AllReadyH.cons rfl (fun K hK => ?_) (AllReadyH.cons rfl (fun K hK => ?_) AllReadyH.nil))
          · rw [if_pos (by rfl)]
            refine wp_callE 89 _ _ rfl _ (by kernel_rfl) (by kernel_rfl) (R := OvR w47 z q v) (HOV.out _ _ _ hS.m hP) (fun v48 w48 hR48 => ?_)
            obtain ⟨pq, cq, pr, cr, rfl, hQ, hR, hb48⟩ := hR48
            replace hEq := hEq.below hb48 hEq.lt
            replace hP := hP.below hb48
            have hT := hS.below hb48
            clear hS
            refine hK.out _ _ hT (fun hS => ?_)
            clear hK K hT hb48 hP hQ
            try simp only [A1, A2, A3, Act.put, A4, A5, A6]
            refine wpAnyH_take (i := 4) (v := .tuple #[.agg #[.bool z, .slice pq (ql q) cq], .agg #[.bool false, .slice pr (ql v) cr]]) rfl (by kernel_rfl) (by kernel_rfl) (by kernel_rfl) (fun _ _ _ h => h) (Or.inl ⟨by rfl, fun w' _ => by rfl⟩) hS ?_
            try simp only [A1, A2, A3, Act.put, A4, A5, A6]
            refine wpAnyH_take (i := 5) (v := .agg #[.bool z, .slice pq (ql q) cq]) rfl (by kernel_rfl) (by kernel_rfl) (by kernel_rfl) (fun _ _ _ h => h) (Or.inl ⟨by rfl, fun w' _ => by rfl⟩) hS ?_
            try simp only [A1, A2, A3, Act.put, A4, A5, A6]
            refine wpAnyH_take (i := 6) (v := .agg #[.bool false, .slice pr (ql v) cr]) rfl (by kernel_rfl) (by kernel_rfl) (by kernel_rfl) (fun _ _ _ h => h) (Or.inl ⟨by rfl, fun w' _ => by rfl⟩) hS ?_
            try simp only [A1, A2, A3, Act.put, A4, A5, A6]
            refine wpAnyH_ready (rs := [7]) (by kernel_rfl) (by simp) (AllReadyH.cons rfl (fun K hK => ?_) AllReadyH.nil)
            go_simp
            obtain ⟨Cp, hCp⟩ : ∃ C, w48.heap.size = C := ⟨_, rfl⟩
            obtain ⟨V49, hV49⟩ : ∃ V, w48.alloc (.cells #[.bool false, .slice none 0 0] 74) = V := ⟨_, rfl⟩
            have hbl : Below w48.heap.size w48 V49 := by rw [← hV49]; exact (Below.refl _ _).alloc (Nat.le_refl _) _
            have hEp : BlockIs V49 Cp 74 #[.bool false, .slice none 0 0] := by rw [← hV49, ← hCp]; exact BlockIs.new _ _ _
            have hLp : D + 2 < Cp := by rw [← hCp]; exact hS.b.lt
            have hNqp : Cq < Cp := by rw [← hCp]; exact hEq.lt
            replace hEq := hEq.below hbl hEq.lt
            replace hR := hR.below hbl
            have hT := hS.below hbl
            rw [hV49]
            try rw [hCp]
            clear hCp hV49 hbl hS
            refine hK.out _ _ hT (fun hS => ?_)
            clear hK K hT
            try simp only [A1, A2, A3, Act.put, A4, A5, A6]
            exact HKEY.out _ _ ⟨pP, cP, pq, cq, pr, cr, Cp, Cq, by simp only [Act.put, List.setIfInBounds_toArray, List.set_cons_zero, List.set_cons_succ], hS, hR, hEp, hEq, by first | exact Nat.ne_of_lt hNpq | exact (Nat.ne_of_lt hNqp).symm, hLp, hLq⟩
          · go_simp
            obtain ⟨Cp, hCp⟩ : ∃ C, w47.heap.size = C := ⟨_, rfl⟩
            obtain ⟨V50, hV50⟩ : ∃ V, w47.alloc (.cells #[.bool false, .slice none 0 0] 74) = V := ⟨_, rfl⟩
            have hbl : Below w47.heap.size w47 V50 := by rw [← hV50]; exact (Below.refl _ _).alloc (Nat.le_refl _) _
            have hEp : BlockIs V50 Cp 74 #[.bool false, .slice none 0 0] := by rw [← hV50, ← hCp]; exact BlockIs.new _ _ _
            have hLp : D + 2 < Cp := by rw [← hCp]; exact hS.b.lt
            have hNqp : Cq < Cp := by rw [← hCp]; exact hEq.lt
            replace hEq := hEq.below hbl hEq.lt
            replace hP := hP.below hbl
            have hT := hS.below hbl
            rw [hV50]
            try rw [hCp]
            clear hCp hV50 hbl hS
            refine hK.out _ _ hT (fun hS => ?_)
            clear hK K hT
            try simp only [A1, A2, A3, Act.put, A4, A5, A6]
            refine wpAnyH_ready (rs := [3]) (by kernel_rfl) (by simp) (AllReadyH.cons rfl (fun K hK => ?_) AllReadyH.nil)
            rw [if_pos (by rfl)]
            refine wp_callE 89 _ _ rfl _ (by kernel_rfl) (by kernel_rfl) (R := OvR V50 z q v) (HOV.out _ _ _ hS.m hP) (fun v51 w51 hR51 => ?_)
            obtain ⟨pq, cq, pr, cr, rfl, hQ, hR, hb51⟩ := hR51
            replace hEq := hEq.below hb51 hEq.lt
            replace hEp := hEp.below hb51 hEp.lt
            replace hP := hP.below hb51
            have hT := hS.below hb51
            clear hS
            refine hK.out _ _ hT (fun hS => ?_)
            clear hK K hT hb51 hP hQ
            try simp only [A1, A2, A3, Act.put, A4, A5, A6]
            refine wpAnyH_take (i := 4) (v := .tuple #[.agg #[.bool z, .slice pq (ql q) cq], .agg #[.bool false, .slice pr (ql v) cr]]) rfl (by kernel_rfl) (by kernel_rfl) (by kernel_rfl) (fun _ _ _ h => h) (Or.inl ⟨by rfl, fun w' _ => by rfl⟩) hS ?_
            try simp only [A1, A2, A3, Act.put, A4, A5, A6]
            refine wpAnyH_take (i := 5) (v := .agg #[.bool z, .slice pq (ql q) cq]) rfl (by kernel_rfl) (by kernel_rfl) (by kernel_rfl) (fun _ _ _ h => h) (Or.inl ⟨by rfl, fun w' _ => by rfl⟩) hS ?_
            try simp only [A1, A2, A3, Act.put, A4, A5, A6]
            refine wpAnyH_take (i := 6) (v := .agg #[.bool false, .slice pr (ql v) cr]) rfl (by kernel_rfl) (by kernel_rfl) (by kernel_rfl) (fun _ _ _ h => h) (Or.inl ⟨by rfl, fun w' _ => by rfl⟩) hS ?_
            try simp only [A1, A2, A3, Act.put, A4, A5, A6]
            exact HKEY.out _ _ ⟨pP, cP, pq, cq, pr, cr, Cp, Cq, by simp only [Act.put, List.setIfInBounds_toArray, List.set_cons_zero, List.set_cons_succ], hS, hR, hEp, hEq, by first | exact Nat.ne_of_lt hNpq | exact (Nat.ne_of_lt hNqp).symm, hLp, hLq⟩
        · go_simp
          obtain ⟨Cp, hCp⟩ : ∃ C, V46.heap.size = C := ⟨_, rfl⟩
          obtain ⟨V52, hV52⟩ : ∃ V, V46.alloc (.cells #[.bool false, .slice none 0 0] 74) = V := ⟨_, rfl⟩
          have hbl : Below V46.heap.size V46 V52 := by rw [← hV52]; exact (Below.refl _ _).alloc (Nat.le_refl _) _
          have hEp : BlockIs V52 Cp 74 #[.bool false, .slice none 0 0] := by rw [← hV52, ← hCp]; exact BlockIs.new _ _ _
          have hLp : D + 2 < Cp := by rw [← hCp]; exact hS.b.lt
          have hNqp : Cq < Cp := by rw [← hCp]; exact hEq.lt
          replace hEq := hEq.below hbl hEq.lt
          have hT := hS.below hbl
          rw [hV52]
          try rw [hCp]
          clear hCp hV52 hbl hS
          refine hK.out _ _ hT (fun hS => ?_)
          clear hK K hT
          try simp only [A1, A2, A3, Act.put, A4, A5, A6]
          refine wpAnyH_ready (rs := [2]) (by kernel_rfl) (by simp) (AllReadyH.cons rfl (fun K hK => ?_) AllReadyH.nil)
          rw [if_pos (by rfl)]
          refine wp_callE 114 _ _ rfl _ (by kernel_rfl) (by kernel_rfl) (R := BigR V52 false P) (HPW.out V52) (fun v53 w53 hR53 => ?_)
          obtain ⟨pP, cP, rfl, hP, hb53⟩ := hR53
          replace hEq := hEq.below hb53 hEq.lt
          replace hEp := hEp.below hb53 hEp.lt
          have hT := hS.below hb53
          clear hS
          refine hK.out _ _ hT (fun hS => ?_)
          clear hK K hT hb53
          try simp only [A1, A2, A3, Act.put, A4, A5, A6]
          refine wpAnyH_ready (rs := [3]) (by kernel_rfl) (by simp) (AllReadyH.cons rfl (fun K hK => ?_) AllReadyH.nil)
          rw [if_pos (by rfl)]
          refine wp_callE 89 _ _ rfl _ (by kernel_rfl) (by kernel_rfl) (R := OvR w53 z q v) (HOV.out _ _ _ hS.m hP) (fun v54 w54 hR54 => ?_)
          obtain ⟨pq, cq, pr, cr, rfl, hQ, hR, hb54⟩ := hR54
          replace hEq := hEq.below hb54 hEq.lt
          replace hEp := hEp.below hb54 hEp.lt
          replace hP := hP.below hb54
          have hT := hS.below hb54
          clear hS
          refine hK.out _ _ hT (fun hS => ?_)
          clear hK K hT hb54 hP hQ
          try simp only [A1, A2, A3, Act.put, A4, A5, A6]
          refine wpAnyH_take (i := 4) (v := .tuple #[.agg #[.bool z, .slice pq (ql q) cq], .agg #[.bool false, .slice pr (ql v) cr]]) rfl (by kernel_rfl) (by kernel_rfl) (by kernel_rfl) (fun _ _ _ h => h) (Or.inl ⟨by rfl, fun w' _ => by rfl⟩) hS ?_
          try simp only [A1, A2, A3, Act.put, A4, A5, A6]
          refine wpAnyH_take (i := 5) (v := .agg #[.bool z, .slice pq (ql q) cq]) rfl (by kernel_rfl) (by kernel_rfl) (by kernel_rfl) (fun _ _ _ h => h) (Or.inl ⟨by rfl, fun w' _ => by rfl⟩) hS ?_
          try simp only [A1, A2, A3, Act.put, A4, A5, A6]
          refine wpAnyH_take (i := 6) (v := .agg #[.bool false, .slice pr (ql v) cr]) rfl (by kernel_rfl) (by kernel_rfl) (by kernel_rfl) (fun _ _ _ h => h) (Or.inl ⟨by rfl, fun w' _ => by rfl⟩) hS ?_
          try simp only [A1, A2, A3, Act.put, A4, A5, A6]
          exact HKEY.out _ _ ⟨pP, cP, pq, cq, pr, cr, Cp, Cq, by simp only [Act.put, List.setIfInBounds_toArray, List.set_cons_zero, List.set_cons_succ], hS, hR, hEp, hEq, by first | exact Nat.ne_of_lt hNpq | exact (Nat.ne_of_lt hNqp).symm, hLp, hLq⟩
    case key =>
      clear hS
      rintro a' w1 ⟨pP, cP, pq, cq, pr, cr, Cp, Cq, rfl, hS, hR, hEp, hEq, hpq, hLp, hLq⟩
      try simp only [A1, A2, A3, Act.put, A4, A5, A6]
      refine wpAnyH_ready (rs := [9]) (by kernel_rfl) (by simp) (AllReadyH.cons rfl (fun K hK => ?_) AllReadyH.nil)
      rw [if_pos (by rfl)]
      refine wpBig_store1 (.tmp 15) (.tmp 122) rfl Cp rfl rfl hEp ?_
      have hT := hS.row hEp hLp #[.bool z, .slice pq (ql q) cq]
      replace hR := hR.row (cs' := #[.bool z, .slice pq (ql q) cq]) hEp
      replace hEq := hEq.rowElse (C := Cp) #[.bool z, .slice pq (ql q) cq] (Ne.symm hpq)
      clear hS
      refine hK.out _ _ hT (fun hS => ?_)
      clear hK K hT
      refine wpAnyH_ready (rs := [10]) (by kernel_rfl) (by simp) (AllReadyH.cons rfl (fun K hK => ?_) AllReadyH.nil)
      rw [if_pos (by rfl)]
      refine wpBig_store1 (.tmp 16) (.tmp 123) rfl Cq rfl rfl hEq ?_
      have hT := hS.row hEq hLq #[.bool false, .slice pr (ql v) cr]
      replace hR := hR.row (cs' := #[.bool false, .slice pr (ql v) cr]) hEq
      have hF := hEq.row2 #[.bool false, .slice pr (ql v) cr]
      clear hS
      refine hK.out _ _ hT (fun _ => ?_)
      clear hK K
      refine wpAnyH_done (by kernel_rfl) ?_ _
      have HT := Lib.hid (And.intro hT (And.intro hR hF))
      clear hT hR hF hEp hEq
      obtain ⟨W12, hW12⟩ : ∃ W, (w1.setRow Cp #[.bool z, .slice pq (ql q) cq]).setRow Cq #[.bool false, .slice pr (ql v) cr] = W := ⟨_, rfl⟩
      rw [hW12] at HT ⊢
      clear hW12
      have m0 := HT.out.2.2.at 0
      have m1 := HT.out.2.2.at 1
      go_wp2_with (go_at_call 77; (with_reducible refine (HR2.out _ _ HT.out.2.1).mono ?_); rintro e w13 ⟨rfl, hb13⟩; have HB13 := Lib.hid (HT.out.1.bl.trans (hb13.mono HT.out.1.bl.size)); clear hb13)
      go_ret2
      exact ⟨rfl, HB13.out⟩
end Go.Proofs.YtjemolaobhlapaaGreatDoor
