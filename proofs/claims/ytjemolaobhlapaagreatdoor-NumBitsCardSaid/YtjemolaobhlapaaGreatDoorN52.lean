/- finishPair and finishReal past the limit; AddReal, SubReal, MulReal, DivReal; Real. -/
import Derived.Test.YtjemolaobhlapaaGreatDoorN51
set_option linter.unusedSimpArgs false
set_option linter.unusedVariables false
namespace Go.Proofs.YtjemolaobhlapaaGreatDoor
open Go.RowKit
set_option maxRecDepth 100000

set_option maxHeartbeats 4000000 in
theorem finishPair_large (s t : Bool) (a b : Nat) (ha : a < pw 30) (hb : b < pw 30) (hd : 120 < Lib.nDigits a ∨ 120 < Lib.nDigits b) (w : World) :
    Calls Tryz.prog 87 #[.agg (sig s a), .agg (sig t b)] w fun e w' => e = .returned (.tuple #[.string ⟨#[]⟩, .string ⟨#[]⟩, .int .i64 4]) ∧ Below w.heap.size w w' := by
  obtain ⟨B, hB⟩ : ∃ B, w.heap.size = B := ⟨_, rfl⟩
  obtain ⟨W, hW⟩ : ∃ W, (w.alloc (.cells (sig s a) 82)).alloc (.cells (sig t b) 82) = W := ⟨_, rfl⟩
  have HH := Lib.hid (Sg.start hB hW)
  have HSA := Lib.hid (fun W => size_any a ha W)
  have HSB := Lib.hid (fun W => size_any b hb W)
  obtain ⟨D, hD⟩ : ∃ D, Lib.nDigits a = D := ⟨_, rfl⟩
  obtain ⟨E, hE⟩ : ∃ E, Lib.nDigits b = E := ⟨_, rfl⟩
  rw [hD] at HSA hd
  rw [hE] at HSB hd
  clear hD hE ha hb
  by_cases h1 : 120 < D
  · have hdd : decide ((120 : Int) < (D : Int)) = true := by simp; omega
    clear hd
    go_enter Tryz.func87, Tryz.ntmps87
    go_wp2_with (first | ((with_reducible refine wpSM_load (.tmp 7) B ?_ HH.out.b0 ?_); rfl) | (go_at_call 91; (with_reducible refine (HSA.out _).mono ?_); rintro e w2 ⟨rfl, hb2⟩; have HH2 := Lib.hid (HH.out.below hb2)))
    go_ret3
    exact ⟨rfl, hB ▸ HH2.out.bl⟩
  · have h2 : 120 < E := by omega
    have hdd : decide ((120 : Int) < (D : Int)) = false := by simp; omega
    have hde : decide ((120 : Int) < (E : Int)) = true := by simp; omega
    clear hd
    go_enter Tryz.func87, Tryz.ntmps87
    go_wp2_with (first | ((with_reducible refine wpSM_load (.tmp 7) B ?_ HH.out.b0 ?_); rfl) | (go_at_call 91; (with_reducible refine (HSA.out _).mono ?_); rintro e w2 ⟨rfl, hb2⟩; have HH2 := Lib.hid (HH.out.below hb2)) | ((with_reducible refine wpSM_loadG (.tmp 12) (B + 1) ?_ ?_ HH2.out.b1 ?_); rfl; rfl) | (go_at_call 91; (with_reducible refine (HSB.out _).mono ?_); rintro e w3 ⟨rfl, hb3⟩; have HH3 := Lib.hid (HH2.out.below hb3)))
    go_ret3
    exact ⟨rfl, hB ▸ HH3.out.bl⟩

set_option maxHeartbeats 4000000 in
theorem finishReal_large (s t : Bool) (a b : Nat) (ha : a < pw 30) (hb : b < pw 30) (hd : 120 < Lib.nDigits a ∨ 120 < Lib.nDigits b) (w : World) :
    Calls Tryz.prog 107 #[.agg (frac s a t b)] w fun e w' => e = .returned (.tuple #[.string ⟨#[]⟩, .int .i64 4]) ∧ Below w.heap.size w w' := by
  obtain ⟨B, hB⟩ : ∃ B, w.heap.size = B := ⟨_, rfl⟩
  obtain ⟨W, hW⟩ : ∃ W, w.alloc (.cells (frac s a t b) 114) = W := ⟨_, rfl⟩
  have HH := Lib.hid (show BlockIs W B 114 (fracF (limb a) (len a) s (limb b) (len b) t) ∧ Below B w W by
    rw [← hW, ← hB]
    exact ⟨BlockIs.new _ _ _, (Below.refl _ _).alloc (Nat.le_refl _) _⟩)
  have HF := Lib.hid (fun W => finishPair_large s t a b ha hb hd W)
  clear ha hb hd
  go_enter Tryz.func107, Tryz.ntmps107
  go_wp2_with (first | ((with_reducible refine wpF_top (.tmp 8) B ?_ HH.out.1 ?_); rfl) | ((with_reducible refine wpF_bottom (.tmp 10) B ?_ HH.out.1 ?_); rfl) | (go_at_call 87; refine (HF.out _).mono ?_; rintro e w1 ⟨rfl, hb1⟩; have HB1 := Lib.hid (HH.out.2.trans (hb1.mono (by have := HH.out.1.lt; omega)))))
  go_ret2
  exact ⟨rfl, hB ▸ HB1.out⟩

/-- What finishReal answers. -/
def finR (r : Bool) (p q : Nat) : ByteArray × Int := if 120 < Lib.nDigits p ∨ 120 < Lib.nDigits q then (⟨#[]⟩, 4) else (bs (ratio r p false q), 0)
theorem finishReal_any (r : Bool) (p q : Nat) (hp : p < pw 30) (hq : q < pw 30) (w : World) (res : ByteArray) (er : Int) (h : finR r p q = (res, er)) :
    Calls Tryz.prog 107 #[.agg (frac r p false q)] w fun e w' => e = .returned (.tuple #[.string res, .int .i64 er]) ∧ Below w.heap.size w w' := by
  unfold finR at h
  by_cases hd : 120 < Lib.nDigits p ∨ 120 < Lib.nDigits q
  · rw [if_pos hd, Prod.mk.injEq] at h
    rw [← h.1, ← h.2]
    exact finishReal_large r false p q hp hq hd w
  · rw [if_neg hd, Prod.mk.injEq] at h
    rw [← h.1, ← h.2]
    exact finishReal_ok r false p q hp hq (by omega) (by omega) w

set_option maxHeartbeats 1000000 in
theorem AddReal_of (x y res : ByteArray) (er : Int) (w : World) (HC : Calls Tryz.prog 94 #[.int .u8 43, .string x, .string y] w fun e w' => e = .returned (.tuple #[.string res, .int .i64 er]) ∧ Below w.heap.size w w') :
    Calls Tryz.prog 35 #[.string x, .string y] w fun e w' => e = .returned (.tuple #[.string res, .int .i64 er]) ∧ Below w.heap.size w w' := by
  have H := Lib.hid HC
  clear HC
  go_enter Tryz.func35, Tryz.ntmps35
  go_wp2_with (go_at_call 94; refine H.out.mono ?_; rintro e w1 ⟨rfl, hb1⟩)
  go_ret2
  exact ⟨rfl, hb1⟩

set_option maxHeartbeats 1000000 in
theorem SubReal_of (x y res : ByteArray) (er : Int) (w : World) (HC : Calls Tryz.prog 94 #[.int .u8 45, .string x, .string y] w fun e w' => e = .returned (.tuple #[.string res, .int .i64 er]) ∧ Below w.heap.size w w') :
    Calls Tryz.prog 37 #[.string x, .string y] w fun e w' => e = .returned (.tuple #[.string res, .int .i64 er]) ∧ Below w.heap.size w w' := by
  have H := Lib.hid HC
  clear HC
  go_enter Tryz.func37, Tryz.ntmps37
  go_wp2_with (go_at_call 94; refine H.out.mono ?_; rintro e w1 ⟨rfl, hb1⟩)
  go_ret2
  exact ⟨rfl, hb1⟩

set_option maxHeartbeats 1000000 in
theorem MulReal_of (x y res : ByteArray) (er : Int) (w : World) (HC : Calls Tryz.prog 94 #[.int .u8 42, .string x, .string y] w fun e w' => e = .returned (.tuple #[.string res, .int .i64 er]) ∧ Below w.heap.size w w') :
    Calls Tryz.prog 39 #[.string x, .string y] w fun e w' => e = .returned (.tuple #[.string res, .int .i64 er]) ∧ Below w.heap.size w w' := by
  have H := Lib.hid HC
  clear HC
  go_enter Tryz.func39, Tryz.ntmps39
  go_wp2_with (go_at_call 94; refine H.out.mono ?_; rintro e w1 ⟨rfl, hb1⟩)
  go_ret2
  exact ⟨rfl, hb1⟩

set_option maxHeartbeats 1000000 in
theorem DivReal_of (x y res : ByteArray) (er : Int) (w : World) (HC : Calls Tryz.prog 94 #[.int .u8 47, .string x, .string y] w fun e w' => e = .returned (.tuple #[.string res, .int .i64 er]) ∧ Below w.heap.size w w') :
    Calls Tryz.prog 41 #[.string x, .string y] w fun e w' => e = .returned (.tuple #[.string res, .int .i64 er]) ∧ Below w.heap.size w w' := by
  have H := Lib.hid HC
  clear HC
  go_enter Tryz.func41, Tryz.ntmps41
  go_wp2_with (go_at_call 94; refine H.out.mono ?_; rintro e w1 ⟨rfl, hb1⟩)
  go_ret2
  exact ⟨rfl, hb1⟩

set_option maxHeartbeats 4000000 in
theorem Real_any (s t : Bool) (a b : Nat) (ha : Num s a) (hb : Num t b) (hb0 : 0 < b) (r : Bool) (p q : Nat) (hp : a / Nat.gcd a b = p) (hq : b / Nat.gcd a b = q) (hr : ((s != t) && !decide (p = 0)) = r) (res : ByteArray) (er : Int) (hres : finR r p q = (res, er)) (w : World) :
    Calls Tryz.prog 47 #[.string (bs (numeral s a)), .string (bs (numeral t b))] w fun e w' => e = .returned (.tuple #[.string res, .int .i64 er]) ∧ Below w.heap.size w w' := by
  obtain ⟨B, hB⟩ : ∃ B, w.heap.size = B := ⟨_, rfl⟩
  have hx := check_numeral ha
  have hy := check_numeral hb
  have HRX := Lib.hid (fun W => readNum ha W)
  have HRY := Lib.hid (fun W => readNum hb W)
  have HZ := Lib.hid (fun W => isZero_any b hb.lt30 W false (by simp; omega))
  have HL := Lib.hid (fun W => lowest_any s t a b ha.lt29 hb0 hb.lt29 W r p q hp hq hr)
  have hpl : p < pw 30 := by rw [← hp]; exact Nat.lt_of_le_of_lt (Nat.div_le_self _ _) ha.lt30
  have hql : q < pw 30 := by rw [← hq]; exact Nat.lt_of_le_of_lt (Nat.div_le_self _ _) hb.lt30
  have HF := Lib.hid (fun W => finishReal_any r p q hpl hql W res er hres)
  obtain ⟨x, hx2⟩ : ∃ x, bs (numeral s a) = x := ⟨_, rfl⟩
  obtain ⟨y, hy2⟩ : ∃ y, bs (numeral t b) = y := ⟨_, rfl⟩
  rw [hx2] at HRX hx ⊢
  rw [hy2] at HRY hy ⊢
  obtain ⟨W, hW⟩ : ∃ W, w.alloc (.cells #[.string x, .string y] 9) = W := ⟨_, rfl⟩
  have hP := pairBlock w x y hB hW
  have HCK := Lib.hid (checkBoth hP.1 hx hy)
  have HBL := Lib.hid (show Below B w W from hP.2)
  have hz0 := zeroS
  clear hx hy hP ha hb hb0 hp hq hr hres hpl hql hx2 hy2
  go_enter Tryz.func47, Tryz.ntmps47
  go_wp2_with (first | (go_at_call 79; refine HCK.out.mono ?_; rintro e w1 ⟨rfl, hb1⟩; have HB1 := Lib.hid (HBL.out.trans (hb1.mono (by have := HBL.out.size; omega)))) | (go_at_call 69; (with_reducible refine (HRY.out _).mono ?_); rintro e w2 ⟨rfl, hb2⟩; have HB2 := Lib.hid (HB1.out.trans (hb2.mono (by have := HB1.out.size; omega))); obtain ⟨D, hD⟩ : ∃ D, w2.heap.size = D := ⟨_, rfl⟩; obtain ⟨V, hV⟩ : ∃ V, w2.alloc (.cells (sigF (fun _ => 0) 0 false) 82) = V := ⟨_, rfl⟩; have HX := Lib.hid (signedBox (f := limb b) (u := len b) (s := t) HB2.out hB hD hV)) | ((with_reducible refine wpS_store (.tmp 7) (.tmp 16) D (f := limb b) (u := len b) (s := t) ?_ ?_ HX.out.1 ?_); rfl; rfl; have HY := Lib.hid (show BlockIs (V.setRow D (sig t b)) D 82 (sig t b) ∧ Below B w (V.setRow D (sig t b)) from HX.out.2); obtain ⟨U, hU⟩ : ∃ U, V.setRow D (sig t b) = U := ⟨_, rfl⟩; rw [hU] at HY ⊢; clear hU HX hV hD) | ((with_reducible refine wpSM_load (.tmp 17) D ?_ HY.out.1 ?_); rfl) | (go_at_call 86; refine (HZ.out _).mono ?_; rintro e w3 ⟨rfl, hb3⟩; have HY3 := Lib.hid (show BlockIs w3 D 82 (sig t b) ∧ Below B w w3 ∧ B ≤ w3.heap.size from ⟨HY.out.1.below hb3 HY.out.1.lt, HY.out.2.trans (hb3.mono (by have := HY.out.2.size; omega)), by have := hb3.size; have := HY.out.2.size; omega⟩); clear hb3))
  have hT0 : BlockIs w3.drew D 82 (sig t b) ∧ Below B w w3.drew ∧ B ≤ w3.drew.heap.size := ⟨HY3.out.1.drew, HY3.out.2.1.drew, HY3.out.2.2⟩
  refine wp_region_held_drew (S := fun w' => BlockIs w' D 82 (sig t b) ∧ Below B w w' ∧ B ≤ w'.heap.size) (by kernel_rfl) hT0 (fun hS => ?_)
  obtain ⟨wd, hwd⟩ : ∃ wd, w3.drew = wd := ⟨_, rfl⟩
  rw [hwd] at hS hT0 ⊢
  clear hwd hT0
  refine wpAnyH_take (i := 0) (v := .string x) rfl (by kernel_rfl) (by kernel_rfl) (by kernel_rfl) (fun _ _ _ h => h) (Or.inl ⟨by rfl, fun w' _ => by rfl⟩) hS ?_
  try simp only [A1, A2, A3, Act.put, A4, A5, A6]
  refine wpAnyH_take (i := 2) rfl (by kernel_rfl) (by kernel_rfl) (by kernel_rfl) (fun _ _ _ h => h) (yS_load rfl (.tmp 7) rfl D rfl (fun w' h => h.1)) hS ?_
  try simp only [A1, A2, A3, Act.put, A4, A5, A6]
  refine wpAnyH_ready (rs := [1]) (by kernel_rfl) (by simp) (AllReadyH.cons rfl (fun K hK => ?_) AllReadyH.nil)
  rw [if_pos (by rfl)]
  refine wp_callF 69 _ _ rfl _ (by kernel_rfl) (by kernel_rfl) (R := Below (World.heap wd).size wd) (HRX.out _) (fun w4 hbn => ?_)
  have hT1 : BlockIs w4 D 82 (sig t b) ∧ Below B w w4 ∧ B ≤ (World.heap w4).size := ⟨hS.1.below hbn hS.1.lt, hS.2.1.trans (hbn.mono hS.2.2), Nat.le_trans hS.2.2 hbn.size⟩
  clear hS hbn
  refine hK.out _ _ hT1 (fun hS => ?_)
  clear hK K hT1
  try simp only [A1, A2, A3, Act.put, A4, A5, A6]
  refine wpAnyH_ready (rs := [3]) (by kernel_rfl) (by simp) (AllReadyH.cons rfl (fun K hK => ?_) AllReadyH.nil)
  rw [if_pos (by rfl)]
  refine wp_callF 108 _ _ rfl _ (by kernel_rfl) (by kernel_rfl) (R := Below (World.heap w4).size w4) (HL.out _) (fun w5 hbn => ?_)
  have hT1 : BlockIs w5 D 82 (sig t b) ∧ Below B w w5 ∧ B ≤ (World.heap w5).size := ⟨hS.1.below hbn hS.1.lt, hS.2.1.trans (hbn.mono hS.2.2), Nat.le_trans hS.2.2 hbn.size⟩
  clear hS hbn
  refine hK.out _ _ hT1 (fun hS => ?_)
  clear hK K hT1
  try simp only [A1, A2, A3, Act.put, A4, A5, A6]
  refine wpAnyH_ready (rs := [4]) (by kernel_rfl) (by simp) (AllReadyH.cons rfl (fun K hK => ?_) AllReadyH.nil)
  rw [if_pos (by rfl)]
  refine wp_callF 107 _ _ rfl _ (by kernel_rfl) (by kernel_rfl) (R := Below (World.heap w5).size w5) (HF.out _) (fun w6 hbn => ?_)
  have hT1 : BlockIs w6 D 82 (sig t b) ∧ Below B w w6 ∧ B ≤ (World.heap w6).size := ⟨hS.1.below hbn hS.1.lt, hS.2.1.trans (hbn.mono hS.2.2), Nat.le_trans hS.2.2 hbn.size⟩
  clear hS hbn
  refine hK.out _ _ hT1 (fun hS => ?_)
  clear hK K hT1
  try simp only [A1, A2, A3, Act.put, A4, A5, A6]
  refine wpAnyH_take (i := 5) (v := .string res) rfl (by kernel_rfl) (by kernel_rfl) (by kernel_rfl) (fun _ _ _ h => h) (Or.inl ⟨by rfl, fun w' _ => by rfl⟩) hS ?_
  try simp only [A1, A2, A3, Act.put, A4, A5, A6]
  refine wpAnyH_take (i := 6) (v := .int .i64 er) rfl (by kernel_rfl) (by kernel_rfl) (by kernel_rfl) (fun _ _ _ h => h) (Or.inl ⟨by rfl, fun w' _ => by rfl⟩) hS ?_
  try simp only [A1, A2, A3, Act.put, A4, A5, A6]
  refine wpAnyH_take (i := 7) (v := .string res) rfl (by kernel_rfl) (by kernel_rfl) (by kernel_rfl) (fun _ _ _ h => h) (Or.inl ⟨by rfl, fun w' _ => by rfl⟩) hS ?_
  try simp only [A1, A2, A3, Act.put, A4, A5, A6]
  refine wpAnyH_take (i := 8) (v := .int .i64 er) rfl (by kernel_rfl) (by kernel_rfl) (by kernel_rfl) (fun _ _ _ h => h) (Or.inl ⟨by rfl, fun w' _ => by rfl⟩) hS ?_
  try simp only [A1, A2, A3, Act.put, A4, A5, A6]
  refine wpAnyH_done (by kernel_rfl) ?_ _
  go_wp2
  go_ret2
  exact ⟨rfl, hB ▸ hS.2.1⟩
end Go.Proofs.YtjemolaobhlapaaGreatDoor
