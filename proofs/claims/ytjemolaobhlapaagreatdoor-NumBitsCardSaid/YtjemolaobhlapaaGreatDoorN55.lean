/- CompareReal, Floor. -/
import Derived.Test.YtjemolaobhlapaaGreatDoorN52
import Derived.Test.YtjemolaobhlapaaGreatDoorN29
import Derived.Test.YtjemolaobhlapaaGreatDoorNH
import Derived.Test.YtjemolaobhlapaaGreatDoorN41
import Derived.Test.YtjemolaobhlapaaGreatDoorN46
set_option linter.unusedSimpArgs false
set_option linter.unusedVariables false
namespace Go.Proofs.YtjemolaobhlapaaGreatDoor
open Go.RowKit
set_option maxRecDepth 100000

theorem orderS_same (s : Bool) (a : Nat) : orderS s s a a = 0 := by
  unfold orderS cmpN
  cases s <;> simp
theorem Two.drew {w0 : World} {B C a b c d : Nat} {s t : Bool} {w : World} (h : Two w0 B C s a b t c d w) : Two w0 B C s a b t c d w.drew := ⟨h.c0.drew, h.c1.drew, h.bl.drew, h.hC⟩

set_option maxHeartbeats 4000000 in
theorem CompareReal_any (s t : Bool) (a b c d : Nat) (hx : Rat2 s a b) (hy : Rat2 t c d) (sx sy : Bool) (hsx : (s && !decide (a * d = 0)) = sx) (hsy : (t && !decide (c * b = 0)) = sy) (r : Int) (hr : orderS sx sy (a * d) (c * b) = r) (w : World) (hm : MLen w) :
    Calls Tryz.prog 43 #[.string (bs (ratio s a false b)), .string (bs (ratio t c false d))] w fun e w' => e = .returned (.tuple #[.int .i64 r, .int .i64 0]) ∧ Below w.heap.size w w' := by
  obtain ⟨B, hB⟩ : ∃ B, w.heap.size = B := ⟨_, rfl⟩
  have HRX := Lib.hid (fun W h => readF_ok hx W h)
  have HRY := Lib.hid (fun W h => readF_ok hy W h)
  have HE := Lib.hid (fun (V : World) => eql_frac 9995 s t a b c d hx.top.lt30 hx.bot.lt30 hy.top.lt30 hy.bot.lt30 V)
  have H1 := Lib.hid (fun W => by_any s false a d (lt14_30 hx.top.lt) (lt14_30 hy.bot.lt) (len14_28 hx.top.lt hy.bot.lt) (mul28 hx.top.lt hy.bot.lt) W sx (by rw [ne_false]; exact hsx))
  have H2 := Lib.hid (fun W => by_any t false c b (lt14_30 hy.top.lt) (lt14_30 hx.bot.lt) (len14_28 hy.top.lt hx.bot.lt) (mul28 hy.top.lt hx.bot.lt) W sy (by rw [ne_false]; exact hsy))
  have H3 := Lib.hid (fun W => order_any sx sy (a * d) (c * b) (mul28 hx.top.lt hy.bot.lt) (mul28 hy.top.lt hx.bot.lt) W r hr)
  have HQ := Lib.hid (show (decide (a = c) && (s == t) && decide (b = d)) = true → r = 0 by
    intro h
    simp only [Bool.and_eq_true, decide_eq_true_eq, beq_iff_eq] at h
    obtain ⟨⟨h1, h2⟩, h3⟩ := h
    rw [← hr, ← hsx, ← hsy, h1, h2, h3]
    exact orderS_same _ _)
  obtain ⟨W, hW⟩ : ∃ W, w.alloc (.cells #[.string (bs (ratio s a false b)), .string (bs (ratio t c false d))] 9) = W := ⟨_, rfl⟩
  have hP := pairBlock w (bs (ratio s a false b)) (bs (ratio t c false d)) hB hW
  have hMW : MLen W := hm.below hP.2 (by rw [← hB]; exact hm.pos)
  have HCK := Lib.hid (checkBothR hx hy hMW hP.1)
  have HBL := Lib.hid (And.intro hP.2 hMW)
  obtain ⟨x, hx2⟩ : ∃ x, bs (ratio s a false b) = x := ⟨_, rfl⟩
  obtain ⟨y, hy2⟩ : ∃ y, bs (ratio t c false d) = y := ⟨_, rfl⟩
  rw [hx2] at HRX hW ⊢
  rw [hy2] at HRY hW ⊢
  have hz0 := zeroFr
  clear hx2 hy2 hx hy hm hP hMW hsx hsy hr
  obtain ⟨q, hq⟩ : ∃ q, (decide (a = c) && (s == t) && decide (b = d)) = q := ⟨_, rfl⟩
  rw [hq] at HE HQ
  clear hq
  cases q
  · go_enter Tryz.func43, Tryz.ntmps43
    go_wp2_with (first | (go_at_call 79; refine HCK.out.mono ?_; rintro e w1 ⟨rfl, hb1⟩; have HB1 := Lib.hid (show Below B w w1 ∧ MLen w1 from ⟨HBL.out.1.trans (hb1.mono (by have := HBL.out.1.size; omega)), HBL.out.2.same hb1⟩); clear hb1) | (go_at_call 101; (with_reducible refine (HRX.out _ HB1.out.2).mono ?_); rintro e w2 ⟨rfl, hb2⟩; have HB2 := Lib.hid (show Below B w w2 ∧ MLen w2 from ⟨HB1.out.1.trans (hb2.mono (by have := HB1.out.1.size; omega)), HB1.out.2.same hb2⟩); clear hb2) | (go_at_call 101; (with_reducible refine (HRY.out _ HB2.out.2).mono ?_); rintro e w3 ⟨rfl, hb3⟩; have HB3 := Lib.hid (show Below B w w3 ∧ MLen w3 from ⟨HB2.out.1.trans (hb3.mono (by have := HB2.out.1.size; omega)), HB2.out.2.same hb3⟩); clear hb3; obtain ⟨C, hC⟩ : ∃ C, w3.heap.size = C := ⟨_, rfl⟩; obtain ⟨U, hU⟩ : ∃ U, (w3.alloc (.cells (fracF (fun _ => 0) 0 false (fun _ => 0) 0 false) 114)).alloc (.cells (fracF (fun _ => 0) 0 false (fun _ => 0) 0 false) 114) = U := ⟨_, rfl⟩; have HU := Lib.hid (twoFracs (s := s) (a := a) (b := b) (t := t) (c := c) (d := d) HB3.out.1 (by rw [hB]; exact Nat.le_refl _) hC hU)) | ((with_reducible refine wpF_store (.tmp 7) (.tmp 17) C (f := limb a) (u := len a) (s := s) (g := limb b) (v := len b) (t := false) ?_ ?_ HU.out.1 ?_); rfl; rfl) | ((with_reducible refine wpF_store (.tmp 8) (.tmp 19) (C + 1) (f := limb c) (u := len c) (s := t) (g := limb d) (v := len d) (t := false) ?_ ?_ HU.out.2.1 ?_); rfl; rfl; have HV := Lib.hid HU.out.2.2; obtain ⟨V, hV⟩ : ∃ V, (U.setRow C (frac s a false b)).setRow (C + 1) (frac t c false d) = V := ⟨_, rfl⟩; rw [hV] at HV ⊢; have HEQ := Lib.hid (show (Op.equalIn 10000 114 (.agg (frac s a false b)) (.agg (frac t c false d))).run Tryz.prog V = .ok false V from HE.out V); clear hV HU hU hC) | ((with_reducible refine wpF_load (.tmp 7) C ?_ HV.out.c0 ?_); rfl) | ((with_reducible refine wpF_load (.tmp 8) (C + 1) ?_ HV.out.c1 ?_); rfl) | ((with_reducible refine wpF_eql (.tmp 20) (.tmp 21) false ?_ ?_ HEQ.out ?_); rfl; rfl))
    have hT0 : Two w B C s a b t c d V.drew := HV.out.drew
    refine wp_region_held_drew (S := Two w B C s a b t c d) (by kernel_rfl) hT0 (fun hS => ?_)
    obtain ⟨wd, hwd⟩ : ∃ wd, V.drew = wd := ⟨_, rfl⟩
    rw [hwd] at hS hT0 ⊢
    clear hwd hT0
    refine wpAnyH_take (i := 0) (v := .pointer (some ⟨C, 0, none⟩)) rfl (by kernel_rfl) (by kernel_rfl) (by kernel_rfl) (fun _ _ _ h => h) (Or.inl ⟨by rfl, fun w' h => by go_simp⟩) hS ?_
    try simp only [A1, A2, A3, Act.put, A4, A5, A6]
    refine wpAnyH_take (i := 1) rfl (by kernel_rfl) (by kernel_rfl) (by kernel_rfl) (fun _ _ _ h => h) (yS_range rfl (.tmp 23) rfl (C) 0 rfl (fun w' h => frac_range0 h.c0)) hS ?_
    try simp only [A1, A2, A3, Act.put, A4, A5, A6]
    refine wpAnyH_take (i := 2) (v := .pointer (some ⟨C + 1, 32, none⟩)) rfl (by kernel_rfl) (by kernel_rfl) (by kernel_rfl) (fun _ _ _ h => h) (Or.inl ⟨by rfl, fun w' h => by go_simp⟩) hS ?_
    try simp only [A1, A2, A3, Act.put, A4, A5, A6]
    refine wpAnyH_take (i := 3) rfl (by kernel_rfl) (by kernel_rfl) (by kernel_rfl) (fun _ _ _ h => h) (yS_range rfl (.tmp 25) rfl (C + 1) 32 rfl (fun w' h => frac_range1 h.c1)) hS ?_
    try simp only [A1, A2, A3, Act.put, A4, A5, A6]
    refine wpAnyH_take (i := 5) (v := .pointer (some ⟨C + 1, 0, none⟩)) rfl (by kernel_rfl) (by kernel_rfl) (by kernel_rfl) (fun _ _ _ h => h) (Or.inl ⟨by rfl, fun w' h => by go_simp⟩) hS ?_
    try simp only [A1, A2, A3, Act.put, A4, A5, A6]
    refine wpAnyH_take (i := 6) rfl (by kernel_rfl) (by kernel_rfl) (by kernel_rfl) (fun _ _ _ h => h) (yS_range rfl (.tmp 28) rfl (C + 1) 0 rfl (fun w' h => frac_range0 h.c1)) hS ?_
    try simp only [A1, A2, A3, Act.put, A4, A5, A6]
    refine wpAnyH_take (i := 7) (v := .pointer (some ⟨C, 32, none⟩)) rfl (by kernel_rfl) (by kernel_rfl) (by kernel_rfl) (fun _ _ _ h => h) (Or.inl ⟨by rfl, fun w' h => by go_simp⟩) hS ?_
    try simp only [A1, A2, A3, Act.put, A4, A5, A6]
    refine wpAnyH_take (i := 8) rfl (by kernel_rfl) (by kernel_rfl) (by kernel_rfl) (fun _ _ _ h => h) (yS_range rfl (.tmp 30) rfl (C) 32 rfl (fun w' h => frac_range1 h.c0)) hS ?_
    try simp only [A1, A2, A3, Act.put, A4, A5, A6]
    refine wpAnyH_ready (rs := [4]) (by kernel_rfl) (by simp) (AllReadyH.cons rfl (fun K hK => ?_) AllReadyH.nil)
    rw [if_pos (by rfl)]
    refine wp_callF 84 _ _ rfl _ (by kernel_rfl) (by kernel_rfl) (R := Below (World.heap wd).size wd) (H1.out _) (fun w4 hbn => ?_)
    have hT1 := hS.below hbn
    clear hS hbn
    refine hK.out _ _ hT1 (fun hS => ?_)
    clear hK K hT1
    try simp only [A1, A2, A3, Act.put, A4, A5, A6]
    refine wpAnyH_ready (rs := [9]) (by kernel_rfl) (by simp) (AllReadyH.cons rfl (fun K hK => ?_) AllReadyH.nil)
    rw [if_pos (by rfl)]
    refine wp_callF 84 _ _ rfl _ (by kernel_rfl) (by kernel_rfl) (R := Below (World.heap w4).size w4) (H2.out _) (fun w5 hbn => ?_)
    have hT1 := hS.below hbn
    clear hS hbn
    refine hK.out _ _ hT1 (fun hS => ?_)
    clear hK K hT1
    try simp only [A1, A2, A3, Act.put, A4, A5, A6]
    refine wpAnyH_ready (rs := [10]) (by kernel_rfl) (by simp) (AllReadyH.cons rfl (fun K hK => ?_) AllReadyH.nil)
    rw [if_pos (by rfl)]
    refine wp_callF 90 _ _ rfl _ (by kernel_rfl) (by kernel_rfl) (R := Below (World.heap w5).size w5) (H3.out _) (fun w6 hbn => ?_)
    have hT1 := hS.below hbn
    clear hS hbn
    refine hK.out _ _ hT1 (fun hS => ?_)
    clear hK K hT1
    try simp only [A1, A2, A3, Act.put, A4, A5, A6]
    refine wpAnyH_take (i := 11) (v := .int .i64 r) rfl (by kernel_rfl) (by kernel_rfl) (by kernel_rfl) (fun _ _ _ h => h) (Or.inl ⟨by rfl, fun w' _ => by rfl⟩) hS ?_
    try simp only [A1, A2, A3, Act.put, A4, A5, A6]
    refine wpAnyH_take (i := 12) (v := .int .i64 0) rfl (by kernel_rfl) (by kernel_rfl) (by kernel_rfl) (fun _ _ _ h => h) (Or.inl ⟨by rfl, fun w' _ => by rfl⟩) hS ?_
    try simp only [A1, A2, A3, Act.put, A4, A5, A6]
    refine wpAnyH_done (by kernel_rfl) ?_ _
    go_wp2
    go_ret2
    exact ⟨rfl, hB ▸ hS.bl⟩
  · go_enter Tryz.func43, Tryz.ntmps43
    go_wp2_with (first | (go_at_call 79; refine HCK.out.mono ?_; rintro e w1 ⟨rfl, hb1⟩; have HB1 := Lib.hid (show Below B w w1 ∧ MLen w1 from ⟨HBL.out.1.trans (hb1.mono (by have := HBL.out.1.size; omega)), HBL.out.2.same hb1⟩); clear hb1) | (go_at_call 101; (with_reducible refine (HRX.out _ HB1.out.2).mono ?_); rintro e w2 ⟨rfl, hb2⟩; have HB2 := Lib.hid (show Below B w w2 ∧ MLen w2 from ⟨HB1.out.1.trans (hb2.mono (by have := HB1.out.1.size; omega)), HB1.out.2.same hb2⟩); clear hb2) | (go_at_call 101; (with_reducible refine (HRY.out _ HB2.out.2).mono ?_); rintro e w3 ⟨rfl, hb3⟩; have HB3 := Lib.hid (show Below B w w3 ∧ MLen w3 from ⟨HB2.out.1.trans (hb3.mono (by have := HB2.out.1.size; omega)), HB2.out.2.same hb3⟩); clear hb3; obtain ⟨C, hC⟩ : ∃ C, w3.heap.size = C := ⟨_, rfl⟩; obtain ⟨U, hU⟩ : ∃ U, (w3.alloc (.cells (fracF (fun _ => 0) 0 false (fun _ => 0) 0 false) 114)).alloc (.cells (fracF (fun _ => 0) 0 false (fun _ => 0) 0 false) 114) = U := ⟨_, rfl⟩; have HU := Lib.hid (twoFracs (s := s) (a := a) (b := b) (t := t) (c := c) (d := d) HB3.out.1 (by rw [hB]; exact Nat.le_refl _) hC hU)) | ((with_reducible refine wpF_store (.tmp 7) (.tmp 17) C (f := limb a) (u := len a) (s := s) (g := limb b) (v := len b) (t := false) ?_ ?_ HU.out.1 ?_); rfl; rfl) | ((with_reducible refine wpF_store (.tmp 8) (.tmp 19) (C + 1) (f := limb c) (u := len c) (s := t) (g := limb d) (v := len d) (t := false) ?_ ?_ HU.out.2.1 ?_); rfl; rfl; have HV := Lib.hid HU.out.2.2; obtain ⟨V, hV⟩ : ∃ V, (U.setRow C (frac s a false b)).setRow (C + 1) (frac t c false d) = V := ⟨_, rfl⟩; rw [hV] at HV ⊢; have HEQ := Lib.hid (show (Op.equalIn 10000 114 (.agg (frac s a false b)) (.agg (frac t c false d))).run Tryz.prog V = .ok true V from HE.out V); clear hV HU hU hC) | ((with_reducible refine wpF_load (.tmp 7) C ?_ HV.out.c0 ?_); rfl) | ((with_reducible refine wpF_load (.tmp 8) (C + 1) ?_ HV.out.c1 ?_); rfl) | ((with_reducible refine wpF_eql (.tmp 20) (.tmp 21) true ?_ ?_ HEQ.out ?_); rfl; rfl))
    go_ret2
    exact ⟨by rw [HQ.out (by trivial)]; rfl, hB ▸ HV.out.bl⟩

theorem twoSigs {w0 w W : World} {B C a c : Nat} {s t : Bool} (hb : Below B w0 w) (hB : B ≤ w0.heap.size) (hC : w.heap.size = C) (hW : (w.alloc (.cells (sigF (fun _ => 0) 0 false) 82)).alloc (.cells (sigF (fun _ => 0) 0 false) 82) = W) :
    BlockIs W C 82 (sigF (fun _ => 0) 0 false) ∧ BlockIs (W.setRow C (sig s a)) (C + 1) 82 (sigF (fun _ => 0) 0 false) ∧ BlockIs ((W.setRow C (sig s a)).setRow (C + 1) (sig t c)) C 82 (sig s a) ∧ Below B w0 ((W.setRow C (sig s a)).setRow (C + 1) (sig t c)) := by
  have hBC : B ≤ C := by have := hb.size; omega
  have c0 : BlockIs W C 82 (sigF (fun _ => 0) 0 false) := by rw [← hW, ← hC]; exact (BlockIs.new _ _ _).alloc _
  have c1 : BlockIs W (C + 1) 82 (sigF (fun _ => 0) 0 false) := by
    rw [← hW, ← hC]
    have := BlockIs.new (w.alloc (.cells (sigF (fun _ => 0) 0 false) 82)) 82 (sigF (fun _ => 0) 0 false)
    rwa [World.size_alloc] at this
  have bl : Below B w0 W := by rw [← hW]; exact (hb.alloc (by omega) _).alloc (by rw [World.size_alloc]; omega) _
  exact ⟨c0, c1.rowOther _ _ (by omega), (c0.row _).rowOther _ _ (by omega), below_row (below_row bl _ _ (by omega)) _ _ (by omega)⟩

set_option maxHeartbeats 4000000 in
theorem Floor_any (s : Bool) (a b : Nat) (hx : Rat2 s a b) (q r : Nat) (z : Bool) (hq : (if (s && !decide (a % b = 0)) = true then (a / b + 1, b - a % b) else (a / b, a % b)) = (q, r)) (hz : ((s != false) && !decide (q = 0)) = z) (hql : q < pw 30) (hqd : Lib.nDigits q ≤ 120) (w : World) (hm : MLen w) :
    Calls Tryz.prog 53 #[.string (bs (ratio s a false b))] w fun e w' => e = .returned (.tuple #[.string (bs (numeral z q)), .int .i64 0]) ∧ Below w.heap.size w w' := by
  obtain ⟨B, hB⟩ : ∃ B, w.heap.size = B := ⟨_, rfl⟩
  have HCK := Lib.hid (CheckReal_ok hx w hm)
  have HRX := Lib.hid (fun W h => readF_ok hx W h)
  have HD := Lib.hid (fun W => divMod_any s false a b hx.top.lt29 hx.pos hx.bot.lt29 (fun W => divide_any a b hx.top.lt29 hx.pos hx.bot.lt30 W) W q r z hq hz)
  have HF := Lib.hid (fun W => finish_ok z q hql hqd W)
  have HM := Lib.hid hm
  obtain ⟨x, hx2⟩ : ∃ x, bs (ratio s a false b) = x := ⟨_, rfl⟩
  rw [hx2] at HRX HCK ⊢
  have hz0 := zeroFr
  have hz1 := zeroS
  clear hx2 hx hm hq hz hql hqd
  go_enter Tryz.func53, Tryz.ntmps53
  go_wp2_with (first | (go_at_call 45; refine HCK.out.mono ?_; rintro e w1 ⟨rfl, hb1⟩; have HB1 := Lib.hid (show Below B w w1 ∧ MLen w1 from ⟨by rw [← hB]; exact hb1, HM.out.same hb1⟩); clear hb1) | (go_at_call 101; refine (HRX.out _ HB1.out.2).mono ?_; rintro e w2 ⟨rfl, hb2⟩; have HB2 := Lib.hid (show Below B w w2 from HB1.out.1.trans (hb2.mono (by have := HB1.out.1.size; omega))); clear hb2; obtain ⟨C, hC⟩ : ∃ C, w2.heap.size = C := ⟨_, rfl⟩; obtain ⟨U, hU⟩ : ∃ U, w2.alloc (.cells (fracF (fun _ => 0) 0 false (fun _ => 0) 0 false) 114) = U := ⟨_, rfl⟩; have HU := Lib.hid (show BlockIs U C 114 (fracF (fun _ => 0) 0 false (fun _ => 0) 0 false) ∧ Below B w U ∧ B ≤ C by rw [← hU, ← hC]; have := HB2.out.size; exact ⟨BlockIs.new _ _ _, HB2.out.alloc (by omega) _, by omega⟩)) | ((with_reducible refine wpF_store (.tmp 5) (.tmp 14) C (f := limb a) (u := len a) (s := s) (g := limb b) (v := len b) (t := false) ?_ ?_ HU.out.1 ?_); rfl; rfl; have HV := Lib.hid (show BlockIs (U.setRow C (frac s a false b)) C 114 (frac s a false b) ∧ Below B w (U.setRow C (frac s a false b)) from ⟨HU.out.1.row _, below_row HU.out.2.1 _ _ HU.out.2.2⟩); obtain ⟨V, hV⟩ : ∃ V, U.setRow C (frac s a false b) = V := ⟨_, rfl⟩; rw [hV] at HV ⊢; clear hV HU hU hC) | ((with_reducible refine wpF_top (.tmp 16) C ?_ HV.out.1 ?_); rfl) | ((with_reducible refine wpF_bottom (.tmp 18) C ?_ HV.out.1 ?_); rfl) | (go_at_call 88; refine (HD.out _).mono ?_; rintro e w3 ⟨rfl, hb3⟩; have HB3 := Lib.hid (show Below B w w3 from HV.out.2.trans (hb3.mono (by have := HV.out.2.size; omega))); clear hb3; obtain ⟨D, hD⟩ : ∃ D, w3.heap.size = D := ⟨_, rfl⟩; obtain ⟨X, hX⟩ : ∃ X, (w3.alloc (.cells (sigF (fun _ => 0) 0 false) 82)).alloc (.cells (sigF (fun _ => 0) 0 false) 82) = X := ⟨_, rfl⟩; have HX := Lib.hid (twoSigs (s := z) (a := q) (t := false) (c := r) HB3.out (by rw [hB]; exact Nat.le_refl _) hD hX)) | ((with_reducible refine wpS_store (.tmp 6) (.tmp 21) D (f := limb q) (u := len q) (s := z) ?_ ?_ HX.out.1 ?_); rfl; rfl) | ((with_reducible refine wpS_store (.tmp 7) (.tmp 22) (D + 1) (f := limb r) (u := len r) (s := false) ?_ ?_ HX.out.2.1 ?_); rfl; rfl; have HY := Lib.hid HX.out.2.2; obtain ⟨Y, hY⟩ : ∃ Y, (X.setRow D (sig z q)).setRow (D + 1) (sig false r) = Y := ⟨_, rfl⟩; rw [hY] at HY ⊢; clear hY HX hX hD) | ((with_reducible refine wpS_load (.tmp 6) D ?_ HY.out.1 ?_); rfl) | (go_at_call 75; refine (HF.out _).mono ?_; rintro e w4 ⟨rfl, hb4⟩; have HB4 := Lib.hid (HY.out.2.trans (hb4.mono (by have := HY.out.2.size; omega))); clear hb4))
  go_ret2
  exact ⟨rfl, hB ▸ HB4.out⟩
end Go.Proofs.YtjemolaobhlapaaGreatDoor

namespace Go.Proofs.YtjemolaobhlapaaGreatDoor
open Go.RowKit
set_option maxRecDepth 100000

theorem cut_app (c : UInt8) (X Y : List UInt8) (h : c ∉ X) : Lib.cut (X ++ c :: Y) [c] = (X, Y, true) := by
  have hi : Lib.index (X ++ c :: Y) [c] = X.length := by rw [Lib.index_one, indexByte_app c X Y h]
  unfold Lib.cut
  rw [hi, if_pos (by omega)]
  simp
def zeros (c : Nat) : List UInt8 := Lib.repeatL [48] c
theorem zeros_dig (c : Nat) : ∀ x ∈ zeros c, isDig x = true := by
  induction c with
  | zero => intro x hx; simp [zeros, Lib.repeatL] at hx
  | succ c ih =>
    intro x hx
    have hx' : x ∈ [48] ++ zeros c := hx
    rw [List.mem_append] at hx'
    rcases hx' with h | h
    · simp at h; subst h; decide
    · exact ih x h
theorem zeros_num (c a : Nat) : numFrom a (zeros c) = a * 10 ^ c := by
  induction c generalizing a with
  | zero => simp [zeros, Lib.repeatL, numFrom]
  | succ c ih =>
    have h : zeros (c + 1) = 48 :: zeros c := rfl
    rw [h, numFrom_cons, ih, Nat.pow_succ]
    have : (48 : UInt8).toNat = 48 := rfl
    rw [this, Nat.sub_self, Nat.add_zero, Nat.mul_assoc, Nat.mul_comm 10]
theorem zeros_len (c : Nat) : (zeros c).length = c := by rw [zeros, Lib.repeatL_length]; simp
theorem ten_num (c : Nat) : numOf (49 :: zeros c) = 10 ^ c := by
  unfold numOf
  rw [numFrom_cons, zeros_num]
  have : (49 : UInt8).toNat = 49 := rfl
  rw [this]; simp
theorem ten_dig (c : Nat) : ∀ x ∈ (49 :: zeros c : List UInt8), isDig x = true := by
  intro x hx
  rw [List.mem_cons] at hx
  rcases hx with rfl | h
  · decide
  · exact zeros_dig c x h
theorem bs_app (x y : List UInt8) : bs x ++ bs y = bs (x ++ y) := by
  have h : (bs x ++ bs y).data.toList = x ++ y := by simp [bs]
  exact bytes_eq h
theorem allD_of {l : List UInt8} (h : ∀ c ∈ l, isDig c = true) (hn : l ≠ []) : allD l = true := by
  unfold allD
  rw [Bool.and_eq_true]
  refine ⟨List.all_eq_true.2 h, ?_⟩
  cases l with
  | nil => exact absurd rfl hn
  | cons _ _ => rfl

set_option maxHeartbeats 4000000 in
theorem FromDecimal_any (X Y : List UInt8) (hX : ∀ c ∈ X, isDig c = true) (hY : ∀ c ∈ Y, isDig c = true) (hXn : X ≠ []) (hYn : Y ≠ []) (hl : X.length + Y.length ≤ 120)
    (p q : Nat) (hp : numOf (X ++ Y) / Nat.gcd (numOf (X ++ Y)) (10 ^ Y.length) = p) (hq : 10 ^ Y.length / Nat.gcd (numOf (X ++ Y)) (10 ^ Y.length) = q) (res : ByteArray) (er : Int) (hres : finR false p q = (res, er)) (w : World) (hm : MLen w) :
    Calls Tryz.prog 51 #[.string (bs (X ++ 46 :: Y))] w fun e w' => e = .returned (.tuple #[.string res, .int .i64 er]) ∧ Below w.heap.size w w' := by
  obtain ⟨B, hB⟩ : ∃ B, w.heap.size = B := ⟨_, rfl⟩
  obtain ⟨m, hm1⟩ := hm.ml
  have h46 : (46 : UInt8) ∉ X := fun h => absurd (hX 46 h) (by decide)
  have HCU := Lib.hid (Tryz.strings_Cut (bs (X ++ 46 :: Y)) ⟨#[46]⟩ m w (by rw [bs_size, List.length_append, List.length_cons]; omega) hm1)
  rw [show Lib.cut (bs (X ++ 46 :: Y)).data.toList (ByteArray.mk #[46]).data.toList = (X, Y, true) from cut_app 46 X Y h46] at HCU
  have hxs : (bs X).size ≤ 120 := by rw [bs_size]; omega
  have hys : (bs Y).size ≤ 120 := by rw [bs_size]; omega
  have hXY : ∀ c ∈ X ++ Y, isDig c = true := by
    intro c hc
    rw [List.mem_append] at hc
    exact hc.elim (hX c) (hY c)
  have hxyl : (X ++ Y).length ≤ 120 := by rw [List.length_append]; exact hl
  have HAX := Lib.hid (fun W => allDigits_any (bs X) W true (allD_of hX hXn))
  have HAY := Lib.hid (fun W => allDigits_any (bs Y) W true (allD_of hY hYn))
  have HRM := Lib.hid (fun W => readMagnitude_any (bs (X ++ Y)) (by rw [bs_size]; omega) hXY W)
  rw [bs_list] at HRM
  have HRP := Lib.hid (fun W => Tryz.strings_Repeat ⟨#[48]⟩ Y.length W (by omega) (by show 1 * Y.length ≤ _; omega))
  have hn0 : numOf (X ++ Y) < pw 14 := num_pw hXY (by omega)
  have htl : (49 :: zeros Y.length).length ≤ 121 := by rw [List.length_cons, zeros_len]; omega
  have ht0 : 10 ^ Y.length < pw 14 := by rw [← ten_num]; exact num_pw (ten_dig _) (by omega)
  have hz : ¬ numOf (49 :: zeros Y.length) = 0 := by rw [ten_num]; exact Nat.ne_of_gt (Nat.pow_pos (by omega))
  have HRS := Lib.hid (fun W => readSigned_any false (49 :: zeros Y.length) (ten_dig _) (by omega) W false rfl)
  rw [ten_num] at HRS
  have h1429 : pw 14 ≤ pw 29 := pw_mono (by omega)
  have HL := Lib.hid (fun W => lowest_any false false (numOf (X ++ Y)) (10 ^ Y.length) (Nat.lt_of_lt_of_le hn0 h1429) (Nat.pow_pos (by omega)) (Nat.lt_of_lt_of_le ht0 h1429) W false p q hp hq rfl)
  have hpl : p < pw 30 := by rw [← hp]; exact Nat.lt_of_le_of_lt (Nat.div_le_self _ _) (lt14_30 hn0)
  have hql : q < pw 30 := by rw [← hq]; exact Nat.lt_of_le_of_lt (Nat.div_le_self _ _) (lt14_30 ht0)
  have HF := Lib.hid (fun W => finishReal_any false p q hpl hql W res er hres)
  have HX1 := Lib.hid (bs_app X Y)
  have HX2 := Lib.hid (show (⟨#[49]⟩ : ByteArray) ++ ⟨(Lib.repeatL (ByteArray.mk #[48]).data.toList Y.length).toArray⟩ = bs (signed false (49 :: zeros Y.length)) from bs_app [49] (zeros Y.length))
  have hlen : (bs X).size + (bs Y).size ≤ 120 := by rw [bs_size, bs_size]; exact hl
  have hyl : (bs Y).size = Y.length := bs_size Y
  obtain ⟨x, hx2⟩ : ∃ x, bs X = x := ⟨_, rfl⟩
  obtain ⟨y, hy2⟩ : ∃ y, bs Y = y := ⟨_, rfl⟩
  obtain ⟨z, hz2⟩ : ∃ z, bs (X ++ 46 :: Y) = z := ⟨_, rfl⟩
  obtain ⟨xy, hxy⟩ : ∃ z, bs (X ++ Y) = z := ⟨_, rfl⟩
  obtain ⟨tn, htn⟩ : ∃ z, bs (signed false (49 :: zeros Y.length)) = z := ⟨_, rfl⟩
  obtain ⟨rp, hrp⟩ : ∃ z, (⟨(Lib.repeatL (ByteArray.mk #[48]).data.toList Y.length).toArray⟩ : ByteArray) = z := ⟨_, rfl⟩
  obtain ⟨k, hk⟩ : ∃ k, Y.length = k := ⟨_, rfl⟩
  rw [show (⟨X.toArray⟩ : ByteArray) = x from hx2, show (⟨Y.toArray⟩ : ByteArray) = y from hy2, hz2] at HCU
  have hrs : rp.size = k := by
    rw [← hrp, ← hk]
    show (Lib.repeatL [48] Y.length).toArray.size = _
    rw [List.size_toArray, Lib.repeatL_length]; simp
  rw [hx2] at hxs HAX HX1 hlen
  rw [hy2] at hys HAY HX1 hlen hyl
  rw [hxy] at HRM HX1
  rw [hrp, htn] at HX2
  rw [hrp] at HRP
  rw [htn] at HRS
  rw [hk] at HRS HRP HL hyl
  obtain ⟨nn, hnn⟩ : ∃ n, numOf (X ++ Y) = n := ⟨_, rfl⟩
  rw [hnn] at HRM
  rw [hnn] at HL
  obtain ⟨tt, htt⟩ : ∃ n, 10 ^ k = n := ⟨_, rfl⟩
  rw [htt] at HL HRS
  rw [hz2]
  have hx1 := HX1.out
  have hx3 := HX2.out
  have hkl : k ≤ 120 := by omega
  have hz0 := zeroS
  clear hX hY hXn hYn hl hp hq hres hm hm1 h46 hXY hxyl hn0 htl ht0 hz h1429 hpl hql hx2 hy2 hz2 hxy htn hrp hk hnn htt
  go_enter Tryz.func51, Tryz.ntmps51
  rw [hyl] at hlen
  have b1 : decide ((120 : Int) < (x.size : Int) + (k : Int)) = false := by simp; omega
  go_wp2_with (first | (go_at_call 110; refine HCU.out.mono ?_; rintro e w1 ⟨rfl, n1, rfl⟩; have HB1 := Lib.hid (show Below B w (w.drewN n1) from below_dN (Below.refl _ _) _)) | (go_at_call 63; (with_reducible refine (HAX.out _).mono ?_); rintro e w2 ⟨rfl, hb2⟩; have HB2 := Lib.hid (HB1.out.trans (hb2.mono (by have := HB1.out.size; omega))); clear hb2) | (go_at_call 63; (with_reducible refine (HAY.out _).mono ?_); rintro e w3 ⟨rfl, hb3⟩; have HB3 := Lib.hid (HB2.out.trans (hb3.mono (by have := HB2.out.size; omega))); clear hb3) | (go_at_call 71; (with_reducible refine (HRM.out _).mono ?_); rintro e w4 ⟨rfl, hb4⟩; have HB4 := Lib.hid (HB3.out.trans (hb4.mono (by have := HB3.out.size; omega))); clear hb4; obtain ⟨D, hD⟩ : ∃ D, w4.heap.size = D := ⟨_, rfl⟩; obtain ⟨V, hV⟩ : ∃ V, w4.alloc (.cells (sigF (fun _ => 0) 0 false) 82) = V := ⟨_, rfl⟩; have HX := Lib.hid (signedBox (f := limb nn) (u := len nn) (s := false) HB4.out hB hD hV)) | ((with_reducible refine wpS_build0 (.tmp 33) (f := limb nn) (u := len nn) ?_ ?_); rfl) | ((with_reducible refine wpS_store (.tmp 7) (.tmp 34) D (f := limb nn) (u := len nn) (s := false) ?_ ?_ HX.out.1 ?_); rfl; rfl; have HY := Lib.hid HX.out.2; obtain ⟨U, hU⟩ : ∃ U, V.setRow D (sig false nn) = U := ⟨_, rfl⟩; rw [hU] at HY ⊢; clear hU HX hV hD))
  have hT0 : BlockIs U.drew D 82 (sig false nn) ∧ Below B w U.drew ∧ B ≤ (World.heap U.drew).size := ⟨HY.out.1.drew, HY.out.2.drew, by have := HY.out.2.size; show B ≤ U.heap.size; omega⟩
  refine wp_region_held_drew (S := fun w' => BlockIs w' D 82 (sig false nn) ∧ Below B w w' ∧ B ≤ (World.heap w').size) (by kernel_rfl) hT0 (fun hS => ?_)
  obtain ⟨wd, hwd⟩ : ∃ wd, U.drew = wd := ⟨_, rfl⟩
  rw [hwd] at hS hT0 ⊢
  clear hwd hT0
  refine wpAnyH_take (i := 0) rfl (by kernel_rfl) (by kernel_rfl) (by kernel_rfl) (fun _ _ _ h => h) (yS_load rfl (.tmp 7) rfl D rfl (fun w' h => h.1)) hS ?_
  try simp only [A1, A2, A3, Act.put, A4, A5, A6]
  refine wpAnyH_take (i := 1) (v := .string y) rfl (by kernel_rfl) (by kernel_rfl) (by kernel_rfl) (fun _ _ _ h => h) (Or.inl ⟨by rfl, fun w' _ => by rfl⟩) hS ?_
  try simp only [A1, A2, A3, Act.put, A4, A5, A6]
  refine wpAnyH_take (i := 2) (v := .int .i64 k) rfl (by kernel_rfl) (by kernel_rfl) (by kernel_rfl) (fun _ _ _ h => h) (Or.inl ⟨by rfl, fun w' h => by go_simp⟩) hS ?_
  try simp only [A1, A2, A3, Act.put, A4, A5, A6]
  refine wpAnyH_ready (rs := [3]) (by kernel_rfl) (by simp) (AllReadyH.cons rfl (fun K hK => ?_) AllReadyH.nil)
  rw [if_pos (by rfl)]
  refine wp_callF 62 _ _ rfl _ (by kernel_rfl) (by kernel_rfl) (R := Below (World.heap wd).size wd) (HRP.out _) (fun w5 hbn => ?_)
  have hT1 : BlockIs w5 D 82 (sig false nn) ∧ Below B w w5 ∧ B ≤ (World.heap w5).size := ⟨hS.1.below hbn hS.1.lt, hS.2.1.trans (hbn.mono hS.2.2), Nat.le_trans hS.2.2 hbn.size⟩
  clear hS hbn
  refine hK.out _ _ hT1 (fun hS => ?_)
  clear hK K hT1
  try simp only [A1, A2, A3, Act.put, A4, A5, A6]
  refine wpAnyH_take (i := 4) (v := .string tn) rfl (by kernel_rfl) (by kernel_rfl) (by kernel_rfl) (fun _ _ _ h => h) (Or.inl ⟨by rfl, fun w' h => by go_simp <;> omega⟩) hS ?_
  try simp only [A1, A2, A3, Act.put, A4, A5, A6]
  refine wpAnyH_ready (rs := [5]) (by kernel_rfl) (by simp) (AllReadyH.cons rfl (fun K hK => ?_) AllReadyH.nil)
  rw [if_pos (by rfl)]
  refine wp_callF 69 _ _ rfl _ (by kernel_rfl) (by kernel_rfl) (R := Below (World.heap w5).size w5) (HRS.out _) (fun w6 hbn => ?_)
  have hT1 : BlockIs w6 D 82 (sig false nn) ∧ Below B w w6 ∧ B ≤ (World.heap w6).size := ⟨hS.1.below hbn hS.1.lt, hS.2.1.trans (hbn.mono hS.2.2), Nat.le_trans hS.2.2 hbn.size⟩
  clear hS hbn
  refine hK.out _ _ hT1 (fun hS => ?_)
  clear hK K hT1
  try simp only [A1, A2, A3, Act.put, A4, A5, A6]
  refine wpAnyH_ready (rs := [6]) (by kernel_rfl) (by simp) (AllReadyH.cons rfl (fun K hK => ?_) AllReadyH.nil)
  rw [if_pos (by rfl)]
  refine wp_callF 108 _ _ rfl _ (by kernel_rfl) (by kernel_rfl) (R := Below (World.heap w6).size w6) (HL.out _) (fun w7 hbn => ?_)
  have hT1 : BlockIs w7 D 82 (sig false nn) ∧ Below B w w7 ∧ B ≤ (World.heap w7).size := ⟨hS.1.below hbn hS.1.lt, hS.2.1.trans (hbn.mono hS.2.2), Nat.le_trans hS.2.2 hbn.size⟩
  clear hS hbn
  refine hK.out _ _ hT1 (fun hS => ?_)
  clear hK K hT1
  try simp only [A1, A2, A3, Act.put, A4, A5, A6]
  refine wpAnyH_ready (rs := [7]) (by kernel_rfl) (by simp) (AllReadyH.cons rfl (fun K hK => ?_) AllReadyH.nil)
  rw [if_pos (by rfl)]
  refine wp_callF 107 _ _ rfl _ (by kernel_rfl) (by kernel_rfl) (R := Below (World.heap w7).size w7) (HF.out _) (fun w8 hbn => ?_)
  have hT1 : BlockIs w8 D 82 (sig false nn) ∧ Below B w w8 ∧ B ≤ (World.heap w8).size := ⟨hS.1.below hbn hS.1.lt, hS.2.1.trans (hbn.mono hS.2.2), Nat.le_trans hS.2.2 hbn.size⟩
  clear hS hbn
  refine hK.out _ _ hT1 (fun hS => ?_)
  clear hK K hT1
  try simp only [A1, A2, A3, Act.put, A4, A5, A6]
  refine wpAnyH_take (i := 8) (v := .string res) rfl (by kernel_rfl) (by kernel_rfl) (by kernel_rfl) (fun _ _ _ h => h) (Or.inl ⟨by rfl, fun w' _ => by rfl⟩) hS ?_
  try simp only [A1, A2, A3, Act.put, A4, A5, A6]
  refine wpAnyH_take (i := 9) (v := .int .i64 er) rfl (by kernel_rfl) (by kernel_rfl) (by kernel_rfl) (fun _ _ _ h => h) (Or.inl ⟨by rfl, fun w' _ => by rfl⟩) hS ?_
  try simp only [A1, A2, A3, Act.put, A4, A5, A6]
  refine wpAnyH_take (i := 10) (v := .string res) rfl (by kernel_rfl) (by kernel_rfl) (by kernel_rfl) (fun _ _ _ h => h) (Or.inl ⟨by rfl, fun w' _ => by rfl⟩) hS ?_
  try simp only [A1, A2, A3, Act.put, A4, A5, A6]
  refine wpAnyH_take (i := 11) (v := .int .i64 er) rfl (by kernel_rfl) (by kernel_rfl) (by kernel_rfl) (fun _ _ _ h => h) (Or.inl ⟨by rfl, fun w' _ => by rfl⟩) hS ?_
  try simp only [A1, A2, A3, Act.put, A4, A5, A6]
  refine wpAnyH_done (by kernel_rfl) ?_ _
  go_wp2
  go_ret2
  exact ⟨rfl, hB ▸ hS.2.1⟩
end Go.Proofs.YtjemolaobhlapaaGreatDoor

namespace Go.Proofs.YtjemolaobhlapaaGreatDoor
open Go.RowKit
set_option maxRecDepth 100000

/-- What the calls ask of the world: the table of powers of ten, and MaxLen. -/
structure Env (w : World) : Prop where
  tab : Tab w
  ml : MLen w
theorem Env.same {w w' : World} (h : Env w) (hb : Below w.heap.size w w') : Env w' := ⟨h.tab.below hb (Nat.le_refl _), h.ml.same hb⟩
theorem num_of {s : Bool} {n : Nat} (h1 : decide (s = true → n ≠ 0) = true) (h2 : decide (Lib.nDigits n ≤ 120) = true) : Num s n := ⟨of_decide_eq_true h1, of_decide_eq_true h2⟩
theorem rat_of {s : Bool} {a b : Nat} (h1 : Num s a) (h2 : Num false b) (h3 : realE false a b = 0) : Rat2 s a b := ⟨h1, h2, h3⟩
theorem ex_add (w : World) (he : Env w) : Calls Tryz.prog 21 #[.string ⟨#[57, 57]⟩, .string ⟨#[49]⟩] w fun e w' => e = .returned (.tuple #[.string ⟨#[49, 48, 48]⟩, .int .i64 0]) ∧ Below w.heap.size w w' := by
  have h := Add_ok false false 99 1 (num_of (by decide +kernel) (by decide +kernel)) (num_of (by decide +kernel) (by decide +kernel)) w false 100 (by kernel_rfl) (by decide +kernel)
  rw [show bs (numeral false 99) = ⟨#[57, 57]⟩ by kernel_rfl] at h
  rw [show bs (numeral false 1) = ⟨#[49]⟩ by kernel_rfl] at h
  rw [show bs (numeral false 100) = ⟨#[49, 48, 48]⟩ by kernel_rfl] at h
  exact h
theorem ex_sub (w : World) (he : Env w) : Calls Tryz.prog 23 #[.string ⟨#[53]⟩, .string ⟨#[49, 50]⟩] w fun e w' => e = .returned (.tuple #[.string ⟨#[45, 55]⟩, .int .i64 0]) ∧ Below w.heap.size w w' := by
  have h := Sub_ok false false 5 12 (num_of (by decide +kernel) (by decide +kernel)) (num_of (by decide +kernel) (by decide +kernel)) w true (by kernel_rfl) true 7 (by kernel_rfl) (by decide +kernel)
  rw [show bs (numeral false 5) = ⟨#[53]⟩ by kernel_rfl] at h
  rw [show bs (numeral false 12) = ⟨#[49, 50]⟩ by kernel_rfl] at h
  rw [show bs (numeral true 7) = ⟨#[45, 55]⟩ by kernel_rfl] at h
  exact h
theorem ex_mul (w : World) (he : Env w) : Calls Tryz.prog 25 #[.string ⟨#[45, 49, 50]⟩, .string ⟨#[49, 50]⟩] w fun e w' => e = .returned (.tuple #[.string ⟨#[45, 49, 52, 52]⟩, .int .i64 0]) ∧ Below w.heap.size w w' := by
  have h := Mul_ok true false 12 12 (num_of (by decide +kernel) (by decide +kernel)) (num_of (by decide +kernel) (by decide +kernel)) w true (by kernel_rfl) (by decide +kernel)
  rw [show bs (numeral true 12) = ⟨#[45, 49, 50]⟩ by kernel_rfl] at h
  rw [show bs (numeral false 12) = ⟨#[49, 50]⟩ by kernel_rfl] at h
  rw [show bs (numeral true (12 * 12)) = ⟨#[45, 49, 52, 52]⟩ by kernel_rfl] at h
  exact h
theorem ex_gcd (w : World) (he : Env w) : Calls Tryz.prog 33 #[.string ⟨#[45, 49, 50]⟩, .string ⟨#[49, 56]⟩] w fun e w' => e = .returned (.tuple #[.string ⟨#[54]⟩, .int .i64 0]) ∧ Below w.heap.size w w' := by
  have h := Gcd_ok true false 12 18 (num_of (by decide +kernel) (by decide +kernel)) (num_of (by decide +kernel) (by decide +kernel)) w 6 (fun W => gcd_any 12 18 (by decide +kernel) (by decide +kernel) W) (by decide +kernel)
  rw [show bs (numeral true 12) = ⟨#[45, 49, 50]⟩ by kernel_rfl] at h
  rw [show bs (numeral false 18) = ⟨#[49, 56]⟩ by kernel_rfl] at h
  rw [show bs (numeral false 6) = ⟨#[54]⟩ by kernel_rfl] at h
  exact h
theorem ex_real (w : World) (he : Env w) : Calls Tryz.prog 47 #[.string ⟨#[54]⟩, .string ⟨#[45, 52]⟩] w fun e w' => e = .returned (.tuple #[.string ⟨#[45, 51, 47, 50]⟩, .int .i64 0]) ∧ Below w.heap.size w w' := by
  have h := Real_any false true 6 4 (num_of (by decide +kernel) (by decide +kernel)) (num_of (by decide +kernel) (by decide +kernel)) (by decide) true 3 2 (by decide) (by decide) (by kernel_rfl) ⟨#[45, 51, 47, 50]⟩ 0 (by kernel_rfl) w
  rw [show bs (numeral false 6) = ⟨#[54]⟩ by kernel_rfl] at h
  rw [show bs (numeral true 4) = ⟨#[45, 52]⟩ by kernel_rfl] at h
  exact h
theorem ex_addr (w : World) (he : Env w) : Calls Tryz.prog 35 #[.string ⟨#[49, 47, 50]⟩, .string ⟨#[49, 47, 51]⟩] w fun e w' => e = .returned (.tuple #[.string ⟨#[53, 47, 54]⟩, .int .i64 0]) ∧ Below w.heap.size w w' := by
  have hop := fun W => plus_frac false false 1 2 1 3 (by decide +kernel) (by decide +kernel) (by decide +kernel) (by decide +kernel) (by decide) (by decide) false false false (by kernel_rfl) (by kernel_rfl) 5 (by kernel_rfl) 5 6 (by decide) (by decide) false (by kernel_rfl) W
  have hfr := fun W => finishReal_any false 5 6 (by decide +kernel) (by decide +kernel) W ⟨#[53, 47, 54]⟩ 0 (by kernel_rfl)
  have h := AddReal_of (bs (ratio false 1 false 2)) (bs (ratio false 1 false 3)) ⟨#[53, 47, 54]⟩ 0 w (calc_plus false false 1 2 1 3 (rat_of (num_of (by decide +kernel) (by decide +kernel)) (num_of (by decide +kernel) (by decide +kernel)) (by kernel_rfl)) (rat_of (num_of (by decide +kernel) (by decide +kernel)) (num_of (by decide +kernel) (by decide +kernel)) (by kernel_rfl)) false 5 6 (by decide +kernel) (by decide +kernel) ⟨#[53, 47, 54]⟩ 0 hfr hop w he.ml)
  rw [show bs (ratio false 1 false 2) = ⟨#[49, 47, 50]⟩ by kernel_rfl] at h
  rw [show bs (ratio false 1 false 3) = ⟨#[49, 47, 51]⟩ by kernel_rfl] at h
  exact h
theorem ex_subr (w : World) (he : Env w) : Calls Tryz.prog 37 #[.string ⟨#[49, 47, 50]⟩, .string ⟨#[49, 47, 50]⟩] w fun e w' => e = .returned (.tuple #[.string ⟨#[48, 47, 49]⟩, .int .i64 0]) ∧ Below w.heap.size w w' := by
  have hop := fun W => minus_frac false false 1 2 1 2 (by decide +kernel) (by decide +kernel) (by decide +kernel) (by decide +kernel) (by decide) (by decide) true false true false (by kernel_rfl) (by kernel_rfl) (by kernel_rfl) 0 (by kernel_rfl) 0 1 (by decide) (by decide) false (by kernel_rfl) W
  have hfr := fun W => finishReal_any false 0 1 (by decide +kernel) (by decide +kernel) W ⟨#[48, 47, 49]⟩ 0 (by kernel_rfl)
  have h := SubReal_of (bs (ratio false 1 false 2)) (bs (ratio false 1 false 2)) ⟨#[48, 47, 49]⟩ 0 w (calc_minus false false 1 2 1 2 (rat_of (num_of (by decide +kernel) (by decide +kernel)) (num_of (by decide +kernel) (by decide +kernel)) (by kernel_rfl)) (rat_of (num_of (by decide +kernel) (by decide +kernel)) (num_of (by decide +kernel) (by decide +kernel)) (by kernel_rfl)) false 0 1 (by decide +kernel) (by decide +kernel) ⟨#[48, 47, 49]⟩ 0 hfr hop w he.ml)
  rw [show bs (ratio false 1 false 2) = ⟨#[49, 47, 50]⟩ by kernel_rfl] at h
  exact h
theorem ex_mulr (w : World) (he : Env w) : Calls Tryz.prog 39 #[.string ⟨#[50, 47, 51]⟩, .string ⟨#[51, 47, 52]⟩] w fun e w' => e = .returned (.tuple #[.string ⟨#[49, 47, 50]⟩, .int .i64 0]) ∧ Below w.heap.size w w' := by
  have hop := fun W => times_frac false false 2 3 3 4 (by decide +kernel) (by decide +kernel) (by decide +kernel) (by decide +kernel) (by decide) (by decide) false (by kernel_rfl) 1 2 (by decide) (by decide) false (by kernel_rfl) W
  have hfr := fun W => finishReal_any false 1 2 (by decide +kernel) (by decide +kernel) W ⟨#[49, 47, 50]⟩ 0 (by kernel_rfl)
  have h := MulReal_of (bs (ratio false 2 false 3)) (bs (ratio false 3 false 4)) ⟨#[49, 47, 50]⟩ 0 w (calc_times false false 2 3 3 4 (rat_of (num_of (by decide +kernel) (by decide +kernel)) (num_of (by decide +kernel) (by decide +kernel)) (by kernel_rfl)) (rat_of (num_of (by decide +kernel) (by decide +kernel)) (num_of (by decide +kernel) (by decide +kernel)) (by kernel_rfl)) false 1 2 (by decide +kernel) (by decide +kernel) ⟨#[49, 47, 50]⟩ 0 hfr hop w he.ml)
  rw [show bs (ratio false 2 false 3) = ⟨#[50, 47, 51]⟩ by kernel_rfl] at h
  rw [show bs (ratio false 3 false 4) = ⟨#[51, 47, 52]⟩ by kernel_rfl] at h
  exact h
theorem ex_divr (w : World) (he : Env w) : Calls Tryz.prog 41 #[.string ⟨#[49, 47, 50]⟩, .string ⟨#[45, 51, 47, 52]⟩] w fun e w' => e = .returned (.tuple #[.string ⟨#[45, 50, 47, 51]⟩, .int .i64 0]) ∧ Below w.heap.size w w' := by
  have hop := fun W => over_frac false true 1 2 3 4 (by decide +kernel) (by decide +kernel) (by decide +kernel) (by decide +kernel) (by decide) (by decide) (by decide) false (by kernel_rfl) 2 3 (by decide) (by decide) true (by kernel_rfl) W
  have hfr := fun W => finishReal_any true 2 3 (by decide +kernel) (by decide +kernel) W ⟨#[45, 50, 47, 51]⟩ 0 (by kernel_rfl)
  have h := DivReal_of (bs (ratio false 1 false 2)) (bs (ratio true 3 false 4)) ⟨#[45, 50, 47, 51]⟩ 0 w (calc_over false true 1 2 3 4 (rat_of (num_of (by decide +kernel) (by decide +kernel)) (num_of (by decide +kernel) (by decide +kernel)) (by kernel_rfl)) (rat_of (num_of (by decide +kernel) (by decide +kernel)) (num_of (by decide +kernel) (by decide +kernel)) (by kernel_rfl)) (by decide) true 2 3 (by decide +kernel) (by decide +kernel) ⟨#[45, 50, 47, 51]⟩ 0 hfr hop w he.ml)
  rw [show bs (ratio false 1 false 2) = ⟨#[49, 47, 50]⟩ by kernel_rfl] at h
  rw [show bs (ratio true 3 false 4) = ⟨#[45, 51, 47, 52]⟩ by kernel_rfl] at h
  exact h
theorem ex_dm0 (w : World) (he : Env w) : Calls Tryz.prog 27 #[.string ⟨#[45, 55]⟩, .string ⟨#[50]⟩] w fun e w' => e = .returned (.tuple #[.string ⟨#[45, 52]⟩, .string ⟨#[49]⟩, .int .i64 0]) ∧ Below w.heap.size w w' := by
  have h := DivMod_ok true false 7 2 (num_of (by decide +kernel) (by decide +kernel)) (num_of (by decide +kernel) (by decide +kernel)) w (by decide) (fun W => divide_any 7 2 (by decide +kernel) (by decide) (by decide +kernel) W) 4 1 true (by kernel_rfl) (by kernel_rfl) (by decide +kernel) (by decide +kernel)
  rw [show bs (numeral true 7) = ⟨#[45, 55]⟩ by kernel_rfl] at h
  rw [show bs (numeral false 2) = ⟨#[50]⟩ by kernel_rfl] at h
  rw [show bs (numeral true 4) = ⟨#[45, 52]⟩ by kernel_rfl] at h
  rw [show bs (numeral false 1) = ⟨#[49]⟩ by kernel_rfl] at h
  exact h
theorem ex_dm1 (w : World) (he : Env w) : Calls Tryz.prog 27 #[.string ⟨#[45, 55]⟩, .string ⟨#[45, 50]⟩] w fun e w' => e = .returned (.tuple #[.string ⟨#[52]⟩, .string ⟨#[49]⟩, .int .i64 0]) ∧ Below w.heap.size w w' := by
  have h := DivMod_ok true true 7 2 (num_of (by decide +kernel) (by decide +kernel)) (num_of (by decide +kernel) (by decide +kernel)) w (by decide) (fun W => divide_any 7 2 (by decide +kernel) (by decide) (by decide +kernel) W) 4 1 false (by kernel_rfl) (by kernel_rfl) (by decide +kernel) (by decide +kernel)
  rw [show bs (numeral true 7) = ⟨#[45, 55]⟩ by kernel_rfl] at h
  rw [show bs (numeral true 2) = ⟨#[45, 50]⟩ by kernel_rfl] at h
  rw [show bs (numeral false 4) = ⟨#[52]⟩ by kernel_rfl] at h
  rw [show bs (numeral false 1) = ⟨#[49]⟩ by kernel_rfl] at h
  exact h
theorem ex_dm2 (w : World) (he : Env w) : Calls Tryz.prog 27 #[.string ⟨#[55]⟩, .string ⟨#[45, 50]⟩] w fun e w' => e = .returned (.tuple #[.string ⟨#[45, 51]⟩, .string ⟨#[49]⟩, .int .i64 0]) ∧ Below w.heap.size w w' := by
  have h := DivMod_ok false true 7 2 (num_of (by decide +kernel) (by decide +kernel)) (num_of (by decide +kernel) (by decide +kernel)) w (by decide) (fun W => divide_any 7 2 (by decide +kernel) (by decide) (by decide +kernel) W) 3 1 true (by kernel_rfl) (by kernel_rfl) (by decide +kernel) (by decide +kernel)
  rw [show bs (numeral false 7) = ⟨#[55]⟩ by kernel_rfl] at h
  rw [show bs (numeral true 2) = ⟨#[45, 50]⟩ by kernel_rfl] at h
  rw [show bs (numeral true 3) = ⟨#[45, 51]⟩ by kernel_rfl] at h
  rw [show bs (numeral false 1) = ⟨#[49]⟩ by kernel_rfl] at h
  exact h
theorem ex_dm3 (w : World) (he : Env w) : Calls Tryz.prog 27 #[.string ⟨#[55]⟩, .string ⟨#[48]⟩] w fun e w' => e = .returned (.tuple #[.string ⟨#[]⟩, .string ⟨#[]⟩, .int .i64 30]) ∧ Below w.heap.size w w' := by
  have h := DivMod_zero false false 7 0 (num_of (by decide +kernel) (by decide +kernel)) (num_of (by decide +kernel) (by decide +kernel)) w rfl
  rw [show bs (numeral false 7) = ⟨#[55]⟩ by kernel_rfl] at h
  rw [show bs (numeral false 0) = ⟨#[48]⟩ by kernel_rfl] at h
  exact h
theorem ex_pow (w : World) (he : Env w) : Calls Tryz.prog 31 #[.string ⟨#[45, 50]⟩, .int .i64 5] w fun e w' => e = .returned (.tuple #[.string ⟨#[45, 51, 50]⟩, .int .i64 0]) ∧ Below w.heap.size w w' := by
  have h := Pow_ok true 2 5 (num_of (by decide +kernel) (by decide +kernel)) (by decide) (by decide +kernel) w
  rw [show bs (numeral true 2) = ⟨#[45, 50]⟩ by kernel_rfl] at h
  rw [show bs (numeral (sgnP true 5) (2 ^ 5)) = ⟨#[45, 51, 50]⟩ by kernel_rfl] at h
  exact h
theorem ex_floor (w : World) (he : Env w) : Calls Tryz.prog 53 #[.string ⟨#[45, 51, 47, 50]⟩] w fun e w' => e = .returned (.tuple #[.string ⟨#[45, 50]⟩, .int .i64 0]) ∧ Below w.heap.size w w' := by
  have h := Floor_any true 3 2 (rat_of (num_of (by decide +kernel) (by decide +kernel)) (num_of (by decide +kernel) (by decide +kernel)) (by kernel_rfl)) 2 1 true (by kernel_rfl) (by kernel_rfl) (by decide +kernel) (by decide +kernel) w he.ml
  rw [show bs (ratio true 3 false 2) = ⟨#[45, 51, 47, 50]⟩ by kernel_rfl] at h
  rw [show bs (numeral true 2) = ⟨#[45, 50]⟩ by kernel_rfl] at h
  exact h
theorem ex_dec (w : World) (he : Env w) : Calls Tryz.prog 51 #[.string ⟨#[49, 50, 46, 53, 48]⟩] w fun e w' => e = .returned (.tuple #[.string ⟨#[50, 53, 47, 50]⟩, .int .i64 0]) ∧ Below w.heap.size w w' := by
  exact FromDecimal_any [49, 50] [53, 48] (by decide) (by decide) (by decide) (by decide) (by decide) 25 2 (by kernel_rfl) (by kernel_rfl) ⟨#[50, 53, 47, 50]⟩ 0 (by kernel_rfl) w he.ml
theorem ex_wrap (w : World) (he : Env w) : Calls Tryz.prog 55 #[.string ⟨#[45, 49]⟩, .int .i64 8] w fun e w' => e = .returned (.tuple #[.string ⟨#[50, 53, 53]⟩, .int .i64 0]) ∧ Below w.heap.size w w' := by
  have h := Wrap_ok true 1 8 (num_of (by decide +kernel) (by decide +kernel)) (by decide) (by decide) w he.tab 255 (by kernel_rfl)
  rw [show bs (numeral true 1) = ⟨#[45, 49]⟩ by kernel_rfl] at h
  rw [show bs (Lib.decDigits 255) = ⟨#[50, 53, 53]⟩ by kernel_rfl] at h
  exact h
theorem ex_b0 (w : World) (he : Env w) : Calls Tryz.prog 57 #[.int .i64 0, .int .i64 8, .string ⟨#[50, 48, 48]⟩, .string ⟨#[49, 48, 48]⟩] w fun e w' => e = .returned (.tuple #[.string ⟨#[52, 52]⟩, .int .i64 0]) ∧ Below w.heap.size w w' := by
  have h := Bits0_ok 200 100 8 (by decide) (by decide) (by decide) (by decide) (by decide +kernel) (by decide +kernel) w he.tab 44 (by decide +kernel) (by kernel_rfl)
  rw [show bs (numeral false 200) = ⟨#[50, 48, 48]⟩ by kernel_rfl] at h
  rw [show bs (numeral false 100) = ⟨#[49, 48, 48]⟩ by kernel_rfl] at h
  rw [show bs (Lib.decDigits 44) = ⟨#[52, 52]⟩ by kernel_rfl] at h
  exact h
theorem ex_b8 (w : World) (he : Env w) : Calls Tryz.prog 57 #[.int .i64 8, .int .i64 8, .string ⟨#[49]⟩, .string ⟨#[56]⟩] w fun e w' => e = .returned (.tuple #[.string ⟨#[48]⟩, .int .i64 0]) ∧ Below w.heap.size w w' := by
  have h := Bits8_ok 1 8 8 (by decide) (by decide) (by decide) (by decide) (by decide +kernel) (by decide +kernel) w he.tab 0 (by decide +kernel) (by kernel_rfl)
  rw [show bs (numeral false 1) = ⟨#[49]⟩ by kernel_rfl] at h
  rw [show bs (numeral false 8) = ⟨#[56]⟩ by kernel_rfl] at h
  rw [show bs (Lib.decDigits 0) = ⟨#[48]⟩ by kernel_rfl] at h
  exact h
theorem ex_b7 (w : World) (he : Env w) : Calls Tryz.prog 57 #[.int .i64 7, .int .i64 8, .string ⟨#[49, 50]⟩, .string ⟨#[49, 48]⟩] w fun e w' => e = .returned (.tuple #[.string ⟨#[54]⟩, .int .i64 0]) ∧ Below w.heap.size w w' := by
  have h := Bits7_ok 12 10 8 (by decide) (by decide) (by decide) (by decide) (by decide +kernel) (by decide +kernel) w he.tab 6 (by decide +kernel) (by kernel_rfl)
  rw [show bs (numeral false 12) = ⟨#[49, 50]⟩ by kernel_rfl] at h
  rw [show bs (numeral false 10) = ⟨#[49, 48]⟩ by kernel_rfl] at h
  rw [show bs (Lib.decDigits 6) = ⟨#[54]⟩ by kernel_rfl] at h
  exact h
theorem ex_cmp (w : World) (he : Env w) : Calls Tryz.prog 29 #[.string ⟨#[45, 53]⟩, .string ⟨#[51]⟩] w fun e w' => e = .returned (.tuple #[.int .i64 (-1), .int .i64 0]) ∧ Below w.heap.size w w' := by
  have h := Compare_ok true false 5 3 (num_of (by decide +kernel) (by decide +kernel)) (num_of (by decide +kernel) (by decide +kernel)) w (-1) (by kernel_rfl)
  rw [show bs (numeral true 5) = ⟨#[45, 53]⟩ by kernel_rfl] at h
  rw [show bs (numeral false 3) = ⟨#[51]⟩ by kernel_rfl] at h
  exact h
theorem ex_cmpr (w : World) (he : Env w) : Calls Tryz.prog 43 #[.string ⟨#[49, 47, 51]⟩, .string ⟨#[49, 47, 52]⟩] w fun e w' => e = .returned (.tuple #[.int .i64 1, .int .i64 0]) ∧ Below w.heap.size w w' := by
  have h := CompareReal_any false false 1 3 1 4 (rat_of (num_of (by decide +kernel) (by decide +kernel)) (num_of (by decide +kernel) (by decide +kernel)) (by kernel_rfl)) (rat_of (num_of (by decide +kernel) (by decide +kernel)) (num_of (by decide +kernel) (by decide +kernel)) (by kernel_rfl)) false false (by kernel_rfl) (by kernel_rfl) 1 (by kernel_rfl) w he.ml
  rw [show bs (ratio false 1 false 3) = ⟨#[49, 47, 51]⟩ by kernel_rfl] at h
  rw [show bs (ratio false 1 false 4) = ⟨#[49, 47, 52]⟩ by kernel_rfl] at h
  exact h
theorem ex_int (w : World) (he : Env w) : Calls Tryz.prog 16 #[.string ⟨#[45, 52, 50]⟩] w fun e w' => e = .returned (.tuple #[.int .i64 (-42), .int .i64 0]) ∧ Below w.heap.size w w' := by
  have h := ToInt_ok true 42 (num_of (by decide +kernel) (by decide +kernel)) (by decide) w (-42) (by kernel_rfl)
  rw [show bs (numeral true 42) = ⟨#[45, 52, 50]⟩ by kernel_rfl] at h
  exact h
theorem ex_neg (w : World) (he : Env w) : Calls Tryz.prog 18 #[.string ⟨#[48]⟩] w fun e w' => e = .returned (.tuple #[.string ⟨#[48]⟩, .int .i64 0]) ∧ Below w.heap.size w w' := by
  have h := Neg_ok false 0 (num_of (by decide +kernel) (by decide +kernel)) w false (by kernel_rfl)
  rw [show bs (numeral false 0) = ⟨#[48]⟩ by kernel_rfl] at h
  exact h
theorem ex_c1 (w : World) (he : Env w) : Calls Tryz.prog 12 #[.string ⟨#[48, 48, 55]⟩] w fun e w' => e = .returned (.int .i64 1) ∧ Below w.heap.size w w' := by
  exact Check_any ⟨#[48, 48, 55]⟩ w 1 (by kernel_rfl)
theorem ex_c2 (w : World) (he : Env w) : Calls Tryz.prog 12 #[.string ⟨#[45, 48]⟩] w fun e w' => e = .returned (.int .i64 1) ∧ Below w.heap.size w w' := by
  exact Check_any ⟨#[45, 48]⟩ w 1 (by kernel_rfl)
abbrev ninesL : List UInt8 := Lib.repeatL [57] 120
theorem ex_c3 (w : World) (he : Env w) : Calls Tryz.prog 12 #[.string (bs (ninesL ++ [57]))] w fun e w' => e = .returned (.int .i64 4) ∧ Below w.heap.size w w' := by
  exact Check_any _ w 4 (by kernel_rfl)
theorem nines_num : bs (numeral false (10 ^ 120 - 1)) = bs ninesL := by
  obtain ⟨s, n, h1, h2⟩ := check_back (l := ninesL) (by kernel_rfl)
  have hs : s = false := by
    cases s
    · rfl
    · have := congrArg List.head? h1
      simp [numeral, Lib.repeatL] at this
  subst hs
  have hn : n = 10 ^ 120 - 1 := by
    have := congrArg numOf h1
    rw [show numeral false n = Lib.decDigits n from rfl, numOf_dec] at this
    exact this.symm.trans (by kernel_rfl)
  rw [h1, hn]
theorem ex_large (w : World) (he : Env w) : Calls Tryz.prog 21 #[.string (bs ninesL), .string ⟨#[49]⟩] w fun e w' => e = .returned (.tuple #[.string ⟨#[]⟩, .int .i64 4]) ∧ Below w.heap.size w w' := by
  have h := Add_large false false (10 ^ 120 - 1) 1 (num_of (by decide +kernel) (by decide +kernel)) (num_of (by decide +kernel) (by decide +kernel)) w false (10 ^ 120) (by kernel_rfl) (by decide +kernel)
  rw [nines_num, show bs (numeral false 1) = ⟨#[49]⟩ by kernel_rfl] at h
  exact h
theorem ex_cr (w : World) (he : Env w) : Calls Tryz.prog 45 #[.string ⟨#[50, 47, 52]⟩] w fun e w' => e = .returned (.int .i64 1) ∧ Below w.heap.size w w' := by
  obtain ⟨m, hm⟩ := he.ml.ml
  have h := CheckReal_nums false false 2 4 (num_of (by decide +kernel) (by decide +kernel)) (num_of (by decide +kernel) (by decide +kernel)) m w hm he.ml.pos 1 (by kernel_rfl)
  rw [show bs (ratio false 2 false 4) = ⟨#[50, 47, 52]⟩ by kernel_rfl] at h
  exact h
theorem ex_from (w : World) (he : Env w) : Calls Tryz.prog 14 #[.int .i64 (-9)] w fun e w' => e = .returned (.string ⟨#[45, 57]⟩) ∧ Below w.heap.size w w' := by
  have h := FromInt_any (-9) (by decide) (by decide) w he.tab
  rw [show (⟨(Lib.itoa (-9)).toArray⟩ : ByteArray) = ⟨#[45, 57]⟩ by kernel_rfl] at h
  exact h
end Go.Proofs.YtjemolaobhlapaaGreatDoor
