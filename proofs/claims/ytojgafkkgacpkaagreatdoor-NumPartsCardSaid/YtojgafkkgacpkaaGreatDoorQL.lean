/- Floor and Parts, the program's and the reference's. -/
import Derived.Test.YtojgafkkgacpkaaGreatDoorQI
import Derived.Test.YtojgafkkgacpkaaGreatDoorN55
set_option linter.unusedSimpArgs false
set_option linter.unusedVariables false
namespace Go.Proofs.YtojgafkkgacpkaaGreatDoor
open Go.RowKit
set_option maxRecDepth 100000

theorem digits_mono {a b : Nat} (h : a ≤ b) (hb : Lib.nDigits b ≤ 120) : Lib.nDigits a ≤ 120 :=
  digits_le 119 a (Nat.lt_of_le_of_lt h (Nat.lt_of_lt_of_le (Lib.lt_pow_nDigits b) (Nat.pow_le_pow_right (by decide) hb)))
theorem floor_le {s : Bool} {a b q r : Nat} (hb : 0 < b) (hq : (if (s && !decide (a % b = 0)) = true then (a / b + 1, b - a % b) else (a / b, a % b)) = (q, r)) : q ≤ a := by
  split at hq
  · rename_i h
    rw [Prod.mk.injEq] at hq
    have h1 : a % b ≠ 0 := by intro h0; rw [h0] at h; simp at h
    have h2 : b ≠ 1 := by rintro rfl; exact h1 (Nat.mod_one a)
    have h3 : a ≠ 0 := by rintro rfl; exact h1 (Nat.zero_mod b)
    have h4 : a / b < a := Nat.div_lt_self (by omega) (by omega)
    omega
  · rw [Prod.mk.injEq] at hq
    have := Nat.div_le_self a b
    omega
theorem sign_ne {s t : Bool} {q : Nat} {z : Bool} (hz : ((s != t) && !decide (q = 0)) = z) : z = true → q ≠ 0 := by
  intro h h0
  rw [← hz, h0] at h
  simp at h

set_option maxHeartbeats 4000000 in
theorem rFloor_ok (u : ByteArray) (s : Bool) (a b : Nat) (hA : CheckIs 46 u 0) (hR : ReadIs u s a b) (la : ql a < 1000) (lb : ql b < 1000) (hb0 : 0 < b) (q r : Nat) (hq : (if (s && !decide (a % b = 0)) = true then (a / b + 1, b - a % b) else (a / b, a % b)) = (q, r)) (z : Bool) (hz : ((s != false) && !decide (q = 0)) = z) (res : ByteArray) (er : Int) (hres : resP z q = (res, er)) (w : World) :
    Calls Tryz.prog 54 #[.string u] w fun e w' => e = .returned (.tuple #[.string res, .int .i64 er]) ∧ Below w.heap.size w w' := by
  have hql : ql q < 20000 := Nat.lt_of_le_of_lt (ql_mono (floor_le hb0 hq)) (by omega)
  have HCK := Lib.hid hA
  have HRD := Lib.hid hR
  have HOV := Lib.hid (fun (va vb : Value) W (h1 : Mag W va a) (h2 : Mag W vb b) => rOverB_any s false a b va vb W h1 h2 (by omega) (by omega) hb0 q r hq z hz)
  have HRS := Lib.hid (fun (v : Value) W (h1 : Mag W v q) => rResult_any z q v W h1 hql (sign_ne hz) res er hres)
  clear hA hR la lb hb0 hq hz hres hql
  go_enter Tryz.func54, Tryz.ntmps54
  go_wp2_with (first | (go_at_call 46; refine (HCK.out _).mono ?_; rintro e w1 ⟨rfl, hb1⟩; have HB1 := Lib.hid (show Below w.heap.size w w1 from hb1); clear hb1) | (go_at_call 112; refine (HRD.out _).mono ?_; rintro e w2 ⟨v2, rfl, p1, c1, q1, d1, rfl, hm2, hn2, hb2⟩; obtain ⟨C, hC⟩ : ∃ C, w2.heap.size = C := ⟨_, rfl⟩; obtain ⟨W3, hW3⟩ : ∃ W3, w2.alloc (.cells #[.bool false, .slice none 0 0, .bool false, .slice none 0 0] 107) = W3 := ⟨_, rfl⟩; have hbW : Below w2.heap.size w2 W3 := (by rw [← hW3]; exact (Below.refl _ _).alloc (Nat.le_refl _) _); have HS := Lib.hid (show BlockIs W3 C 107 #[.bool false, .slice none 0 0, .bool false, .slice none 0 0] ∧ Mag W3 (.slice p1 (ql a) c1) a ∧ Mag W3 (.slice q1 (ql b) d1) b ∧ Below w.heap.size w W3 ∧ w.heap.size ≤ C from ⟨(by rw [← hW3, ← hC]; exact BlockIs.new _ _ _), hm2.below hbW, hn2.below hbW, (HB1.out.trans (hb2.mono HB1.out.size)).trans (hbW.mono (by have := HB1.out.size; have := hb2.size; omega)), (by rw [← hC]; have := HB1.out.size; have := hb2.size; omega)⟩); have HV := Lib.hid (And.intro (HS.out.1.four (x := .bool s) (y := .slice p1 (ql a) c1) (z := .bool false) (u := .slice q1 (ql b) d1)) (And.intro (HS.out.2.1.four HS.out.1 (x := .bool s) (y := .slice p1 (ql a) c1) (z := .bool false) (u := .slice q1 (ql b) d1)) (And.intro (HS.out.2.2.1.four HS.out.1 (x := .bool s) (y := .slice p1 (ql a) c1) (z := .bool false) (u := .slice q1 (ql b) d1)) (below_four HS.out.2.2.2.1 HS.out.2.2.2.2 (x := .bool s) (y := .slice p1 (ql a) c1) (z := .bool false) (u := .slice q1 (ql b) d1))))); clear hm2 hn2 hb2 hbW; have f0 := HS.out.1.at 0; have f1 := HS.out.1.at 1; have f2 := HS.out.1.at 2; have f3 := HS.out.1.at 3; have f4 := HS.out.1.thawed 0; have f5 := HS.out.1.thawed 1; have f6 := HS.out.1.thawed 2; have f7 := HS.out.1.thawed 3) | (go_at_call 89; (with_reducible refine (HOV.out _ _ _ HV.out.2.1 HV.out.2.2.1).mono ?_); rintro e w5 ⟨v5, rfl, p2, c2, p3, c3, rfl, hm5, hn5, hb5⟩; have HB5 := Lib.hid (HV.out.2.2.2.trans (hb5.mono HV.out.2.2.2.size)); obtain ⟨D, hD⟩ : ∃ D, w5.heap.size = D := ⟨_, rfl⟩; obtain ⟨W6, hW6⟩ : ∃ W6, (w5.alloc (.cells #[.bool false, .slice none 0 0] 74)).alloc (.cells #[.bool false, .slice none 0 0] 74) = W6 := ⟨_, rfl⟩; have HG := Lib.hid (Bg2.start hD hW6); have HM6 := Lib.hid (hm5.below (by rw [hD]; exact HG.out.bl)); have HB6 := Lib.hid (HB5.out.trans (HG.out.bl.mono (by rw [← hD]; exact HB5.out.size))); have HDS := Lib.hid (show w.heap.size ≤ D by rw [← hD]; exact HB5.out.size); have HM7 := Lib.hid ((HM6.out.two HG.out.b0 (x := .bool z) (y := .slice p2 (ql q) c2)).two (((HG.out.b1.other ⟨D, 0, none⟩ (.bool z) (by simp)).other ⟨D, 1, none⟩ (.slice p2 (ql q) c2) (by simp))) (x := .bool false) (y := .slice p3 (ql r) c3)); have HB7 := Lib.hid ((((HB6.out.setCell (p := ⟨D, 0, none⟩) HDS.out (.bool z)).setCell (p := ⟨D, 1, none⟩) HDS.out (.slice p2 (ql q) c2)).setCell (p := ⟨D + 1, 0, none⟩) (by have := HDS.out; simp; omega) (.bool false)).setCell (p := ⟨D + 1, 1, none⟩) (by have := HDS.out; simp; omega) (.slice p3 (ql r) c3)); clear hm5 hn5 hb5; have g0 := HG.out.b0.at 0; have g1 := HG.out.b0.at 1; have g2 := HG.out.b1.at 0; have g3 := HG.out.b1.at 1; have g4 := HG.out.b0.thawed 0; have g5 := HG.out.b0.thawed 1; have g6 := HG.out.b1.thawed 0; have g7 := HG.out.b1.thawed 1) | (go_at_call 77; (with_reducible refine (HRS.out _ _ HM7.out).mono ?_); rintro e w8 ⟨rfl, hb8⟩; have HB8 := Lib.hid (HB7.out.trans (hb8.mono HB7.out.size)); clear hb8))
  go_ret2
  exact ⟨rfl, HB8.out⟩
set_option maxHeartbeats 4000000 in
theorem rFloor_err (u : ByteArray) (r : Int) (hA : CheckIs 46 u r) (h0 : r ≠ 0) (w : World) :
    Calls Tryz.prog 54 #[.string u] w fun e w' => e = .returned (.tuple #[.string ⟨#[]⟩, .int .i64 r]) ∧ Below w.heap.size w w' := by
  have HCK := Lib.hid hA
  have hr0 : (r != 0) = true := by simpa using h0
  clear hA h0
  go_enter Tryz.func54, Tryz.ntmps54
  go_wp2_with (go_at_call 46; refine (HCK.out _).mono ?_; rintro e w1 ⟨rfl, hb1⟩; have HB1 := Lib.hid (show Below w.heap.size w w1 from hb1); clear hb1)
  go_ret2
  exact ⟨rfl, HB1.out⟩
set_option maxHeartbeats 4000000 in
theorem Floor_err (u : ByteArray) (r : Int) (hA : CheckM 45 u r) (h0 : r ≠ 0) (w : World) (hm : MLen w) :
    Calls Tryz.prog 53 #[.string u] w fun e w' => e = .returned (.tuple #[.string ⟨#[]⟩, .int .i64 r]) ∧ Below w.heap.size w w' := by
  have HCK := Lib.hid (hA w hm)
  have hr0 : (r != 0) = true := by simpa using h0
  clear hA h0 hm
  go_enter Tryz.func53, Tryz.ntmps53
  go_wp2_with (go_at_call 45; refine HCK.out.mono ?_; rintro e w1 ⟨rfl, hb1⟩; have HB1 := Lib.hid (show Below w.heap.size w w1 from hb1); clear hb1)
  go_ret2
  exact ⟨rfl, HB1.out⟩
set_option maxHeartbeats 4000000 in
theorem rParts_err (u : ByteArray) (r : Int) (hA : CheckIs 46 u r) (h0 : r ≠ 0) (w : World) :
    Calls Tryz.prog 50 #[.string u] w fun e w' => e = .returned (.tuple #[.string ⟨#[]⟩, .string ⟨#[]⟩, .int .i64 r]) ∧ Below w.heap.size w w' := by
  have HCK := Lib.hid hA
  have hr0 : (r != 0) = true := by simpa using h0
  clear hA h0
  go_enter Tryz.func50, Tryz.ntmps50
  go_wp2_with (go_at_call 46; refine (HCK.out _).mono ?_; rintro e w1 ⟨rfl, hb1⟩; have HB1 := Lib.hid (show Below w.heap.size w w1 from hb1); clear hb1)
  go_ret3
  exact ⟨rfl, HB1.out⟩
set_option maxHeartbeats 4000000 in
theorem Parts_err (u : ByteArray) (r : Int) (hA : CheckM 45 u r) (h0 : r ≠ 0) (w : World) (hm : MLen w) :
    Calls Tryz.prog 49 #[.string u] w fun e w' => e = .returned (.tuple #[.string ⟨#[]⟩, .string ⟨#[]⟩, .int .i64 r]) ∧ Below w.heap.size w w' := by
  have HCK := Lib.hid (hA w hm)
  have hr0 : (r != 0) = true := by simpa using h0
  clear hA h0 hm
  go_enter Tryz.func49, Tryz.ntmps49
  go_wp2_with (go_at_call 45; refine HCK.out.mono ?_; rintro e w1 ⟨rfl, hb1⟩; have HB1 := Lib.hid (show Below w.heap.size w w1 from hb1); clear hb1)
  go_ret3
  exact ⟨rfl, HB1.out⟩
set_option maxHeartbeats 4000000 in
theorem rParts_ok (X Y : List UInt8) (hX : 47 ∉ X) (hY : 47 ∉ Y) (hl : (X ++ 47 :: Y).length < 1000) (hA : CheckIs 46 (bs (X ++ 47 :: Y)) 0) (w : World) :
    Calls Tryz.prog 50 #[.string (bs (X ++ 47 :: Y))] w fun e w' => e = .returned (.tuple #[.string (bs X), .string (bs Y), .int .i64 0]) ∧ Below w.heap.size w w' := by
  have HCK := Lib.hid hA
  have HSP := Lib.hid (fun W => rsplit_app X Y hX hY (by omega) W)
  obtain ⟨u, hu⟩ : ∃ u, bs (X ++ 47 :: Y) = u := ⟨_, rfl⟩
  obtain ⟨x, hx⟩ : ∃ u, bs X = u := ⟨_, rfl⟩
  obtain ⟨y, hy⟩ : ∃ u, bs Y = u := ⟨_, rfl⟩
  rw [hu, hx, hy] at HSP
  rw [hu] at HCK
  rw [hu, hx, hy]
  clear hA hX hY hl hu hx hy
  go_enter Tryz.func50, Tryz.ntmps50
  go_wp2_with (first | (go_at_call 46; refine (HCK.out _).mono ?_; rintro e w1 ⟨rfl, hb1⟩; have HB1 := Lib.hid (show Below w.heap.size w w1 from hb1); clear hb1) | (go_at_call 106; refine (HSP.out _).mono ?_; rintro e w2 ⟨rfl, hb2⟩; have HB2 := Lib.hid (HB1.out.trans (hb2.mono HB1.out.size)); clear hb2))
  go_ret3
  exact ⟨rfl, HB2.out⟩
set_option maxHeartbeats 4000000 in
theorem Parts_ok (X Y : List UInt8) (hX : 47 ∉ X) (hl : (X ++ 47 :: Y).length < 1000) (hA : CheckM 45 (bs (X ++ 47 :: Y)) 0) (w : World) (hm : MLen w) :
    Calls Tryz.prog 49 #[.string (bs (X ++ 47 :: Y))] w fun e w' => e = .returned (.tuple #[.string (bs X), .string (bs Y), .int .i64 0]) ∧ Below w.heap.size w w' := by
  have HCK := Lib.hid (hA w hm)
  have HCU : Hid (∀ W : World, MLen W → Calls Tryz.prog 110 #[.string (bs (X ++ 47 :: Y)), .string ⟨#[47]⟩] W fun e w' => e = .returned (.tuple #[.string (bs X), .string (bs Y), .bool true]) ∧ Below W.heap.size W w') := by
    refine Lib.hid fun W hW => ?_
    obtain ⟨m, hm1⟩ := hW.ml
    have h := Tryz.strings_Cut (bs (X ++ 47 :: Y)) ⟨#[47]⟩ m W (by rw [bs_size]; omega) hm1
    rw [show Lib.cut (bs (X ++ 47 :: Y)).data.toList (ByteArray.mk #[47]).data.toList = (X, Y, true) from cut_app 47 X Y hX] at h
    refine h.mono ?_
    rintro e w1 ⟨rfl, n1, rfl⟩
    exact ⟨rfl, below_dN (Below.refl _ _) _⟩
  have HM := Lib.hid hm
  obtain ⟨u, hu⟩ : ∃ u, bs (X ++ 47 :: Y) = u := ⟨_, rfl⟩
  obtain ⟨x, hx⟩ : ∃ u, bs X = u := ⟨_, rfl⟩
  obtain ⟨y, hy⟩ : ∃ u, bs Y = u := ⟨_, rfl⟩
  rw [hu, hx, hy] at HCU
  rw [hu] at HCK
  rw [hu, hx, hy]
  clear hA hX hl hu hx hy hm
  go_enter Tryz.func49, Tryz.ntmps49
  go_wp2_with (first | (go_at_call 45; refine HCK.out.mono ?_; rintro e w1 ⟨rfl, hb1⟩; have HB1 := Lib.hid (show Below w.heap.size w w1 from hb1); clear hb1) | (go_at_call 110; refine (HCU.out _ (HM.out.same HB1.out)).mono ?_; rintro e w2 ⟨rfl, hb2⟩; have HB2 := Lib.hid (HB1.out.trans (hb2.mono HB1.out.size)); clear hb2))
  go_ret3
  exact ⟨rfl, HB2.out⟩
end Go.Proofs.YtojgafkkgacpkaaGreatDoor

namespace Go.Proofs.YtojgafkkgacpkaaGreatDoor
open Go.RowKit
set_option maxRecDepth 100000

set_option maxHeartbeats 4000000 in
theorem Real_err (x y : ByteArray) (ra rb r : Int) (ha : checkS x.data.toList = ra) (hb : checkS y.data.toList = rb) (hr : (if ra = 0 then rb else ra) = r) (h0 : r ≠ 0) (w : World) :
    Calls Tryz.prog 47 #[.string x, .string y] w fun e w' => e = .returned (.tuple #[.string ⟨#[]⟩, .int .i64 r]) ∧ Below w.heap.size w w' := by
  obtain ⟨B, hB⟩ : ∃ B, w.heap.size = B := ⟨_, rfl⟩
  obtain ⟨W, hW⟩ : ∃ W, w.alloc (.cells #[.string x, .string y] 9) = W := ⟨_, rfl⟩
  have hP := pairBlock w x y hB hW
  have HCK := Lib.hid (checkAll_Check x y B W hP.1 ra rb r (fun V _ => Check_any x V ra ha) (fun _ V _ => Check_any y V rb hb) hr)
  have HBL := Lib.hid (show Below B w W from hP.2)
  have hr0 : (r != 0) = true := by simpa using h0
  clear ha hb hr h0 hP
  go_enter Tryz.func47, Tryz.ntmps47
  go_wp2_with (go_at_call 79; refine HCK.out.mono ?_; rintro e w1 ⟨rfl, hb1⟩; have HB1 := Lib.hid (HBL.out.trans (hb1.mono (by have := HBL.out.size; omega))))
  go_ret2
  exact ⟨rfl, hB ▸ HB1.out⟩
set_option maxHeartbeats 4000000 in
theorem Real_zero (s : Bool) (a : Nat) (ha : Num s a) (hb : Num false 0) (w : World) :
    Calls Tryz.prog 47 #[.string (bs (numeral s a)), .string (bs (numeral false 0))] w fun e w' => e = .returned (.tuple #[.string ⟨#[]⟩, .int .i64 30]) ∧ Below w.heap.size w w' := by
  obtain ⟨B, hB⟩ : ∃ B, w.heap.size = B := ⟨_, rfl⟩
  have hx := check_numeral ha
  have hy := check_numeral hb
  have HRY := Lib.hid (fun W => readNum hb W)
  have HZ := Lib.hid (fun W => isZero_any 0 (by decide +kernel) W true (by simp))
  obtain ⟨x, hx2⟩ : ∃ x, bs (numeral s a) = x := ⟨_, rfl⟩
  obtain ⟨y, hy2⟩ : ∃ y, bs (numeral false 0) = y := ⟨_, rfl⟩
  rw [hx2] at hx ⊢
  rw [hy2] at HRY hy ⊢
  obtain ⟨W, hW⟩ : ∃ W, w.alloc (.cells #[.string x, .string y] 9) = W := ⟨_, rfl⟩
  have hP := pairBlock w x y hB hW
  have HCK := Lib.hid (checkBoth hP.1 hx hy)
  have HBL := Lib.hid (show Below B w W from hP.2)
  have hz0 := zeroS
  clear hx hy hP ha hb hx2 hy2
  go_enter Tryz.func47, Tryz.ntmps47
  go_wp2_with (first | (go_at_call 79; refine HCK.out.mono ?_; rintro e w1 ⟨rfl, hb1⟩; have HB1 := Lib.hid (HBL.out.trans (hb1.mono (by have := HBL.out.size; omega)))) | (go_at_call 69; (with_reducible refine (HRY.out _).mono ?_); rintro e w2 ⟨rfl, hb2⟩; have HB2 := Lib.hid (HB1.out.trans (hb2.mono (by have := HB1.out.size; omega))); obtain ⟨D, hD⟩ : ∃ D, w2.heap.size = D := ⟨_, rfl⟩; obtain ⟨V, hV⟩ : ∃ V, w2.alloc (.cells (sigF (fun _ => 0) 0 false) 82) = V := ⟨_, rfl⟩; have HX := Lib.hid (signedBox (f := limb 0) (u := len 0) (s := false) HB2.out hB hD hV)) | ((with_reducible refine wpS_store (.tmp 7) (.tmp 16) D (f := limb 0) (u := len 0) (s := false) ?_ ?_ HX.out.1 ?_); rfl; rfl; have HY := Lib.hid (show BlockIs (V.setRow D (sig false 0)) D 82 (sig false 0) ∧ Below B w (V.setRow D (sig false 0)) from HX.out.2); obtain ⟨U, hU⟩ : ∃ U, V.setRow D (sig false 0) = U := ⟨_, rfl⟩; rw [hU] at HY ⊢; clear hU HX hV hD) | ((with_reducible refine wpSM_load (.tmp 17) D ?_ HY.out.1 ?_); rfl) | (go_at_call 86; refine (HZ.out _).mono ?_; rintro e w3 ⟨rfl, hb3⟩; have HY3 := Lib.hid (show BlockIs w3 D 82 (sig false 0) ∧ Below B w w3 ∧ B ≤ w3.heap.size from ⟨HY.out.1.below hb3 HY.out.1.lt, HY.out.2.trans (hb3.mono (by have := HY.out.2.size; omega)), by have := hb3.size; have := HY.out.2.size; omega⟩); clear hb3))
  go_ret2
  exact ⟨rfl, hB ▸ HY3.out.2.1⟩

theorem rFirst_three (a b c r : Int) (h : (if a = 0 then (if b = 0 then c else b) else a) = r) (w : World) :
    Calls Tryz.prog 81 #[.slice (some ⟨w.heap.size, 0, none⟩) 3 3] (w.alloc (.cells #[.int .i64 a, .int .i64 b, .int .i64 c] 3)) fun e w' => e = .returned (.int .i64 r) ∧ w.alloc (.cells #[.int .i64 a, .int .i64 b, .int .i64 c] 3) = w' :=
  rFirst_any [a, b, c] w.heap.size _ (by simp) (by
    intro j hj
    match j, hj with
    | 0, _ => exact (BlockIs.new w 3 #[.int .i64 a, .int .i64 b, .int .i64 c]).at 0
    | 1, _ => exact (BlockIs.new w 3 #[.int .i64 a, .int .i64 b, .int .i64 c]).at 1
    | 2, _ => exact (BlockIs.new w 3 #[.int .i64 a, .int .i64 b, .int .i64 c]).at 2) r (by
    rw [← h]
    simp only [firstE]
    by_cases hc : c = 0
    · subst hc; simp
    · simp [hc])
set_option maxHeartbeats 4000000 in
theorem rReal_err (x y : ByteArray) (sx : x.size < 1000) (sy : y.size < 1000) (ra rb rc r : Int) (c : Bool) (ha : checkS x.data.toList = ra) (hb : checkS y.data.toList = rb) (hc : (y.toList == [48]) = c) (hrc : (if c = true then (30 : Int) else 0) = rc) (hr : (if ra = 0 then (if rb = 0 then rc else rb) else ra) = r) (h0 : r ≠ 0) (w : World) :
    Calls Tryz.prog 48 #[.string x, .string y] w fun e w' => e = .returned (.tuple #[.string ⟨#[]⟩, .int .i64 r]) ∧ Below w.heap.size w w' := by
  have HCA := Lib.hid (fun W => rCheck_any x (by omega) W ra ha)
  have HCB := Lib.hid (fun W => rCheck_any y (by omega) W rb hb)
  have HWN := Lib.hid (fun W => rWhen_any c 30 W rc hrc)
  have HF := Lib.hid (fun W => rFirst_three ra rb rc r hr W)
  have hr0 : (r != 0) = true := by simpa using h0
  clear ha hb hrc hr h0 sx sy
  go_enter Tryz.func48, Tryz.ntmps48
  go_wp2_with (first | (go_at_call 13; (with_reducible refine (HCA.out _).mono ?_); rintro e w2 ⟨rfl, rfl⟩) | (go_at_call 13; (with_reducible refine (HCB.out _).mono ?_); rintro e w2 ⟨rfl, rfl⟩) | (go_at_call 65; refine (HWN.out _).mono ?_; rintro e w3 ⟨rfl, rfl⟩) | (go_at_call 81; refine (HF.out _).mono ?_; rintro e w3 ⟨rfl, rfl⟩; have HB1 := Lib.hid ((Below.refl w.heap.size w).alloc (Nat.le_refl _) (.cells #[.int .i64 ra, .int .i64 rb, .int .i64 rc] 3))))
  go_ret2
  exact ⟨rfl, HB1.out⟩
set_option maxHeartbeats 4000000 in
theorem rReal_ok (s t : Bool) (a b : Nat) (ha : Num s a) (hb : Num t b) (hb0 : 0 < b) (g : Nat) (hg : Nat.gcd a b = g) (s2 : Bool) (hs2 : (if t = true then ((!s) && !decide (a = 0)) else s) = s2) (r : Bool) (hr : ((s2 != false) && !decide (a / g = 0)) = r) (res : ByteArray) (er : Int) (hres : finR r (a / g) (b / g) = (res, er)) (w : World) :
    Calls Tryz.prog 48 #[.string (bs (numeral s a)), .string (bs (numeral t b))] w fun e w' => e = .returned (.tuple #[.string res, .int .i64 er]) ∧ Below w.heap.size w w' := by
  have HCA := Lib.hid (fun W => rCheck_any (bs (numeral s a)) (by rw [bs_size]; have := num_len ha; omega) W 0 (check_numeral ha))
  have HCB := Lib.hid (fun W => rCheck_any (bs (numeral t b)) (by rw [bs_size]; have := num_len hb; omega) W 0 (check_numeral hb))
  have HWN := Lib.hid (fun W => rWhen_any false 30 W 0 rfl)
  have HF := Lib.hid (fun W => rFirst_three 0 0 0 0 rfl W)
  have HRA := Lib.hid (fun W => rRead_num s a ha.sign (num_dig ha) W)
  have HRB := Lib.hid (fun W => rRead_num t b hb.sign (num_dig hb) W)
  have qa := num_ql ha
  have qb := num_ql hb
  have HL := Lib.hid (fun (va vb : Value) W (h1 : Mag W va a) (h2 : Mag W vb b) => rLowest_any s t a b va vb W h1 h2 (by omega) (by omega) hb0 g hg s2 hs2 r hr)
  have HWR := Lib.hid (fun (vp vq : Value) W (h1 : Mag W vp (a / g)) (h2 : Mag W vq (b / g)) => rWriteReal_any r (a / g) (b / g) vp vq W h1 h2 (Nat.lt_of_le_of_lt (ql_mono (Nat.div_le_self _ _)) (by omega)) (Nat.lt_of_le_of_lt (ql_mono (Nat.div_le_self _ _)) (by omega)) (by intro h h1; rw [← hr, h1] at h; simp at h) res er hres)
  have hy : ((bs (numeral t b)).toList == [48]) = false := by
    cases t
    · have := str_is (b := b) (k := 0) (by decide)
      rw [decide_eq_false (by omega)] at this
      exact this
    · rw [Lib.toList_data, bs_list]
      rfl
  obtain ⟨x, hx2⟩ : ∃ x, bs (numeral s a) = x := ⟨_, rfl⟩
  obtain ⟨y, hy2⟩ : ∃ y, bs (numeral t b) = y := ⟨_, rfl⟩
  rw [hx2] at HCA HRA ⊢
  rw [hy2] at HCB HRB hy ⊢
  clear hx2 hy2 ha hb hb0 hg hs2 hr hres qa qb
  go_enter Tryz.func48, Tryz.ntmps48
  go_wp2_with (first | (go_at_call 13; (with_reducible refine (HCA.out _).mono ?_); rintro e w2 ⟨rfl, rfl⟩) | (go_at_call 13; (with_reducible refine (HCB.out _).mono ?_); rintro e w2 ⟨rfl, rfl⟩) | (go_at_call 65; refine (HWN.out _).mono ?_; rintro e w3 ⟨rfl, rfl⟩) | (go_at_call 81; refine (HF.out _).mono ?_; rintro e w3 ⟨rfl, rfl⟩; have HB1 := Lib.hid ((Below.refl w.heap.size w).alloc (Nat.le_refl _) (.cells #[.int .i64 0, .int .i64 0, .int .i64 0] 3))) | (go_at_call 73; (with_reducible refine (HRA.out _).mono ?_); rintro e w4 ⟨v4, rfl, p4, k4, rfl, hm4, hb4⟩; have HM4 := Lib.hid hm4; have HB4 := Lib.hid (HB1.out.trans (hb4.mono HB1.out.size)); clear hm4 hb4) | (go_at_call 73; (with_reducible refine (HRB.out _).mono ?_); rintro e w5 ⟨v5, rfl, p5, k5, rfl, hm5, hb5⟩; have HM5 := Lib.hid hm5; have HM45 := Lib.hid (HM4.out.below hb5); have HB5 := Lib.hid (HB4.out.trans (hb5.mono HB4.out.size)); clear hm5 hb5) | (go_at_call 109; (with_reducible refine (HL.out _ _ _ HM45.out HM5.out).mono ?_); rintro e w6 ⟨v6, rfl, p6, k6, p7, k7, rfl, hm6, hn6, hb6⟩; have HM6 := Lib.hid (And.intro hm6 hn6); have HB6 := Lib.hid (HB5.out.trans (hb6.mono HB5.out.size)); clear hm6 hn6 hb6) | (go_at_call 96; (with_reducible refine (HWR.out _ _ _ HM6.out.1 HM6.out.2).mono ?_); rintro e w7 ⟨rfl, hb7⟩; have HB7 := Lib.hid (HB6.out.trans (hb7.mono HB6.out.size)); clear hb7))
  go_ret2
  exact ⟨rfl, HB7.out⟩
end Go.Proofs.YtojgafkkgacpkaaGreatDoor
