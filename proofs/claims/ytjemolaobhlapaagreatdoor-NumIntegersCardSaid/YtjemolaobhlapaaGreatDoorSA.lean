/- The reference's integers: Neg, Add, Sub, Mul, Gcd, Compare. -/
import Derived.Test.YtjemolaobhlapaaGreatDoorRX
import Derived.Test.YtjemolaobhlapaaGreatDoorRP
import Derived.Test.YtjemolaobhlapaaGreatDoorRU
import Derived.Test.YtjemolaobhlapaaGreatDoorN29
import Derived.Test.YtjemolaobhlapaaGreatDoorSG
set_option linter.unusedSimpArgs false
set_option linter.unusedVariables false
namespace Go.Proofs.YtjemolaobhlapaaGreatDoor
open Go.RowKit
set_option maxRecDepth 100000


set_option maxHeartbeats 4000000 in
theorem rAdd_err (x y : ByteArray) (sx : x.size < 1000) (sy : y.size < 1000) (ra rb r : Int) (ha : checkS x.data.toList = ra) (hb : checkS y.data.toList = rb) (hr : (if ra = 0 then rb else ra) = r) (h0 : r ≠ 0) (w : World) :
    Calls Tryz.prog 22 #[.string x, .string y] w fun e w' => e = .returned (.tuple #[.string ⟨#[]⟩, .int .i64 r]) ∧ Below w.heap.size w w' := by
  have HCA := Lib.hid (fun W => rCheck_any x (by omega) W ra ha)
  have HCB := Lib.hid (fun W => rCheck_any y (by omega) W rb hb)
  have HF := Lib.hid (fun W => rFirst_two ra rb r hr W)
  have hr0 : (r != 0) = true := by simpa using h0
  clear ha hb hr h0 sx sy
  go_enter Tryz.func22, Tryz.ntmps22
  go_wp2_with (first | (go_at_call 13; (with_reducible refine (HCA.out _).mono ?_); rintro e w2 ⟨rfl, rfl⟩) | (go_at_call 13; (with_reducible refine (HCB.out _).mono ?_); rintro e w2 ⟨rfl, rfl⟩) | (go_at_call 81; refine (HF.out _).mono ?_; rintro e w3 ⟨rfl, rfl⟩; have HB1 := Lib.hid ((Below.refl w.heap.size w).alloc (Nat.le_refl _) (.cells #[.int .i64 ra, .int .i64 rb] 3))))
  go_ret2
  exact ⟨rfl, HB1.out⟩

set_option maxHeartbeats 4000000 in
theorem rAdd_of (s t : Bool) (a b : Nat) (ha : Num s a) (hb : Num t b) (r : Bool) (n : Nat) (hop : ∀ (va vb : Value) (W : World), Mag W va a → Mag W vb b → Calls Tryz.prog 82 #[.agg #[.bool s, va], .agg #[.bool t, vb]] W fun e w' => ∃ v', e = .returned v' ∧ BigR W r n v' w') (hn : ql n < 20000) (hs : r = true → n ≠ 0) (res : ByteArray) (er : Int) (hres : resP r n = (res, er)) (w : World) :
    Calls Tryz.prog 22 #[.string (bs (numeral s a)), .string (bs (numeral t b))] w fun e w' => e = .returned (.tuple #[.string res, .int .i64 er]) ∧ Below w.heap.size w w' := by
  have HCA := Lib.hid (fun W => rCheck_any (bs (numeral s a)) (by rw [bs_size]; have := num_len ha; omega) W 0 (check_numeral ha))
  have HCB := Lib.hid (fun W => rCheck_any (bs (numeral t b)) (by rw [bs_size]; have := num_len hb; omega) W 0 (check_numeral hb))
  have HF := Lib.hid (fun W => rFirst_two 0 0 0 rfl W)
  have HRA := Lib.hid (fun W => rRead_num s a ha.sign (num_dig ha) W)
  have HRB := Lib.hid (fun W => rRead_num t b hb.sign (num_dig hb) W)
  have HOP := Lib.hid hop
  have HRS := Lib.hid (fun (v : Value) W (h1 : Mag W v n) => rResult_any r n v W h1 hn hs res er hres)
  obtain ⟨x, hx2⟩ : ∃ x, bs (numeral s a) = x := ⟨_, rfl⟩
  obtain ⟨y, hy2⟩ : ∃ y, bs (numeral t b) = y := ⟨_, rfl⟩
  rw [hx2] at HCA HRA ⊢
  rw [hy2] at HCB HRB ⊢
  clear hx2 hy2 ha hb hop hn hs hres
  go_enter Tryz.func22, Tryz.ntmps22
  go_wp2_with (first | (go_at_call 13; (with_reducible refine (HCA.out _).mono ?_); rintro e w2 ⟨rfl, rfl⟩) | (go_at_call 13; (with_reducible refine (HCB.out _).mono ?_); rintro e w2 ⟨rfl, rfl⟩) | (go_at_call 81; refine (HF.out _).mono ?_; rintro e w3 ⟨rfl, rfl⟩; have HB1 := Lib.hid ((Below.refl w.heap.size w).alloc (Nat.le_refl _) (.cells #[.int .i64 0, .int .i64 0] 3))) | (go_at_call 73; (with_reducible refine (HRA.out _).mono ?_); rintro e w4 ⟨v4, rfl, p4, k4, rfl, hm4, hb4⟩; have HM4 := Lib.hid hm4; have HB4 := Lib.hid (HB1.out.trans (hb4.mono HB1.out.size)); clear hm4 hb4) | (go_at_call 73; (with_reducible refine (HRB.out _).mono ?_); rintro e w5 ⟨v5, rfl, p5, k5, rfl, hm5, hb5⟩; have HM5 := Lib.hid hm5; have HM45 := Lib.hid (HM4.out.below hb5); have HB5 := Lib.hid (HB4.out.trans (hb5.mono HB4.out.size)); clear hm5 hb5) | (go_at_call 82; (with_reducible refine (HOP.out _ _ _ HM45.out HM5.out).mono ?_); rintro e w6 ⟨v6, rfl, p6, k6, rfl, hm6, hb6⟩; have HM6 := Lib.hid hm6; have HB6 := Lib.hid (HB5.out.trans (hb6.mono HB5.out.size)); clear hm6 hb6) | (go_at_call 77; (with_reducible refine (HRS.out _ _ HM6.out).mono ?_); rintro e w7 ⟨rfl, hb7⟩; have HB7 := Lib.hid (HB6.out.trans (hb7.mono HB6.out.size)); clear hb7))
  go_ret2
  exact ⟨rfl, HB7.out⟩

set_option maxHeartbeats 4000000 in
theorem rSub_err (x y : ByteArray) (sx : x.size < 1000) (sy : y.size < 1000) (ra rb r : Int) (ha : checkS x.data.toList = ra) (hb : checkS y.data.toList = rb) (hr : (if ra = 0 then rb else ra) = r) (h0 : r ≠ 0) (w : World) :
    Calls Tryz.prog 24 #[.string x, .string y] w fun e w' => e = .returned (.tuple #[.string ⟨#[]⟩, .int .i64 r]) ∧ Below w.heap.size w w' := by
  have HCA := Lib.hid (fun W => rCheck_any x (by omega) W ra ha)
  have HCB := Lib.hid (fun W => rCheck_any y (by omega) W rb hb)
  have HF := Lib.hid (fun W => rFirst_two ra rb r hr W)
  have hr0 : (r != 0) = true := by simpa using h0
  clear ha hb hr h0 sx sy
  go_enter Tryz.func24, Tryz.ntmps24
  go_wp2_with (first | (go_at_call 13; (with_reducible refine (HCA.out _).mono ?_); rintro e w2 ⟨rfl, rfl⟩) | (go_at_call 13; (with_reducible refine (HCB.out _).mono ?_); rintro e w2 ⟨rfl, rfl⟩) | (go_at_call 81; refine (HF.out _).mono ?_; rintro e w3 ⟨rfl, rfl⟩; have HB1 := Lib.hid ((Below.refl w.heap.size w).alloc (Nat.le_refl _) (.cells #[.int .i64 ra, .int .i64 rb] 3))))
  go_ret2
  exact ⟨rfl, HB1.out⟩

set_option maxHeartbeats 4000000 in
theorem rSub_of (s t : Bool) (a b : Nat) (ha : Num s a) (hb : Num t b) (r : Bool) (n : Nat) (hop : ∀ (va vb : Value) (W : World), Mag W va a → Mag W vb b → Calls Tryz.prog 83 #[.agg #[.bool s, va], .agg #[.bool t, vb]] W fun e w' => ∃ v', e = .returned v' ∧ BigR W r n v' w') (hn : ql n < 20000) (hs : r = true → n ≠ 0) (res : ByteArray) (er : Int) (hres : resP r n = (res, er)) (w : World) :
    Calls Tryz.prog 24 #[.string (bs (numeral s a)), .string (bs (numeral t b))] w fun e w' => e = .returned (.tuple #[.string res, .int .i64 er]) ∧ Below w.heap.size w w' := by
  have HCA := Lib.hid (fun W => rCheck_any (bs (numeral s a)) (by rw [bs_size]; have := num_len ha; omega) W 0 (check_numeral ha))
  have HCB := Lib.hid (fun W => rCheck_any (bs (numeral t b)) (by rw [bs_size]; have := num_len hb; omega) W 0 (check_numeral hb))
  have HF := Lib.hid (fun W => rFirst_two 0 0 0 rfl W)
  have HRA := Lib.hid (fun W => rRead_num s a ha.sign (num_dig ha) W)
  have HRB := Lib.hid (fun W => rRead_num t b hb.sign (num_dig hb) W)
  have HOP := Lib.hid hop
  have HRS := Lib.hid (fun (v : Value) W (h1 : Mag W v n) => rResult_any r n v W h1 hn hs res er hres)
  obtain ⟨x, hx2⟩ : ∃ x, bs (numeral s a) = x := ⟨_, rfl⟩
  obtain ⟨y, hy2⟩ : ∃ y, bs (numeral t b) = y := ⟨_, rfl⟩
  rw [hx2] at HCA HRA ⊢
  rw [hy2] at HCB HRB ⊢
  clear hx2 hy2 ha hb hop hn hs hres
  go_enter Tryz.func24, Tryz.ntmps24
  go_wp2_with (first | (go_at_call 13; (with_reducible refine (HCA.out _).mono ?_); rintro e w2 ⟨rfl, rfl⟩) | (go_at_call 13; (with_reducible refine (HCB.out _).mono ?_); rintro e w2 ⟨rfl, rfl⟩) | (go_at_call 81; refine (HF.out _).mono ?_; rintro e w3 ⟨rfl, rfl⟩; have HB1 := Lib.hid ((Below.refl w.heap.size w).alloc (Nat.le_refl _) (.cells #[.int .i64 0, .int .i64 0] 3))) | (go_at_call 73; (with_reducible refine (HRA.out _).mono ?_); rintro e w4 ⟨v4, rfl, p4, k4, rfl, hm4, hb4⟩; have HM4 := Lib.hid hm4; have HB4 := Lib.hid (HB1.out.trans (hb4.mono HB1.out.size)); clear hm4 hb4) | (go_at_call 73; (with_reducible refine (HRB.out _).mono ?_); rintro e w5 ⟨v5, rfl, p5, k5, rfl, hm5, hb5⟩; have HM5 := Lib.hid hm5; have HM45 := Lib.hid (HM4.out.below hb5); have HB5 := Lib.hid (HB4.out.trans (hb5.mono HB4.out.size)); clear hm5 hb5) | (go_at_call 83; (with_reducible refine (HOP.out _ _ _ HM45.out HM5.out).mono ?_); rintro e w6 ⟨v6, rfl, p6, k6, rfl, hm6, hb6⟩; have HM6 := Lib.hid hm6; have HB6 := Lib.hid (HB5.out.trans (hb6.mono HB5.out.size)); clear hm6 hb6) | (go_at_call 77; (with_reducible refine (HRS.out _ _ HM6.out).mono ?_); rintro e w7 ⟨rfl, hb7⟩; have HB7 := Lib.hid (HB6.out.trans (hb7.mono HB6.out.size)); clear hb7))
  go_ret2
  exact ⟨rfl, HB7.out⟩

set_option maxHeartbeats 4000000 in
theorem rMul_err (x y : ByteArray) (sx : x.size < 1000) (sy : y.size < 1000) (ra rb r : Int) (ha : checkS x.data.toList = ra) (hb : checkS y.data.toList = rb) (hr : (if ra = 0 then rb else ra) = r) (h0 : r ≠ 0) (w : World) :
    Calls Tryz.prog 26 #[.string x, .string y] w fun e w' => e = .returned (.tuple #[.string ⟨#[]⟩, .int .i64 r]) ∧ Below w.heap.size w w' := by
  have HCA := Lib.hid (fun W => rCheck_any x (by omega) W ra ha)
  have HCB := Lib.hid (fun W => rCheck_any y (by omega) W rb hb)
  have HF := Lib.hid (fun W => rFirst_two ra rb r hr W)
  have hr0 : (r != 0) = true := by simpa using h0
  clear ha hb hr h0 sx sy
  go_enter Tryz.func26, Tryz.ntmps26
  go_wp2_with (first | (go_at_call 13; (with_reducible refine (HCA.out _).mono ?_); rintro e w2 ⟨rfl, rfl⟩) | (go_at_call 13; (with_reducible refine (HCB.out _).mono ?_); rintro e w2 ⟨rfl, rfl⟩) | (go_at_call 81; refine (HF.out _).mono ?_; rintro e w3 ⟨rfl, rfl⟩; have HB1 := Lib.hid ((Below.refl w.heap.size w).alloc (Nat.le_refl _) (.cells #[.int .i64 ra, .int .i64 rb] 3))))
  go_ret2
  exact ⟨rfl, HB1.out⟩

set_option maxHeartbeats 4000000 in
theorem rMul_of (s t : Bool) (a b : Nat) (ha : Num s a) (hb : Num t b) (r : Bool) (n : Nat) (hop : ∀ (va vb : Value) (W : World), Mag W va a → Mag W vb b → Calls Tryz.prog 85 #[.agg #[.bool s, va], .agg #[.bool t, vb]] W fun e w' => ∃ v', e = .returned v' ∧ BigR W r n v' w') (hn : ql n < 20000) (hs : r = true → n ≠ 0) (res : ByteArray) (er : Int) (hres : resP r n = (res, er)) (w : World) :
    Calls Tryz.prog 26 #[.string (bs (numeral s a)), .string (bs (numeral t b))] w fun e w' => e = .returned (.tuple #[.string res, .int .i64 er]) ∧ Below w.heap.size w w' := by
  have HCA := Lib.hid (fun W => rCheck_any (bs (numeral s a)) (by rw [bs_size]; have := num_len ha; omega) W 0 (check_numeral ha))
  have HCB := Lib.hid (fun W => rCheck_any (bs (numeral t b)) (by rw [bs_size]; have := num_len hb; omega) W 0 (check_numeral hb))
  have HF := Lib.hid (fun W => rFirst_two 0 0 0 rfl W)
  have HRA := Lib.hid (fun W => rRead_num s a ha.sign (num_dig ha) W)
  have HRB := Lib.hid (fun W => rRead_num t b hb.sign (num_dig hb) W)
  have HOP := Lib.hid hop
  have HRS := Lib.hid (fun (v : Value) W (h1 : Mag W v n) => rResult_any r n v W h1 hn hs res er hres)
  obtain ⟨x, hx2⟩ : ∃ x, bs (numeral s a) = x := ⟨_, rfl⟩
  obtain ⟨y, hy2⟩ : ∃ y, bs (numeral t b) = y := ⟨_, rfl⟩
  rw [hx2] at HCA HRA ⊢
  rw [hy2] at HCB HRB ⊢
  clear hx2 hy2 ha hb hop hn hs hres
  go_enter Tryz.func26, Tryz.ntmps26
  go_wp2_with (first | (go_at_call 13; (with_reducible refine (HCA.out _).mono ?_); rintro e w2 ⟨rfl, rfl⟩) | (go_at_call 13; (with_reducible refine (HCB.out _).mono ?_); rintro e w2 ⟨rfl, rfl⟩) | (go_at_call 81; refine (HF.out _).mono ?_; rintro e w3 ⟨rfl, rfl⟩; have HB1 := Lib.hid ((Below.refl w.heap.size w).alloc (Nat.le_refl _) (.cells #[.int .i64 0, .int .i64 0] 3))) | (go_at_call 73; (with_reducible refine (HRA.out _).mono ?_); rintro e w4 ⟨v4, rfl, p4, k4, rfl, hm4, hb4⟩; have HM4 := Lib.hid hm4; have HB4 := Lib.hid (HB1.out.trans (hb4.mono HB1.out.size)); clear hm4 hb4) | (go_at_call 73; (with_reducible refine (HRB.out _).mono ?_); rintro e w5 ⟨v5, rfl, p5, k5, rfl, hm5, hb5⟩; have HM5 := Lib.hid hm5; have HM45 := Lib.hid (HM4.out.below hb5); have HB5 := Lib.hid (HB4.out.trans (hb5.mono HB4.out.size)); clear hm5 hb5) | (go_at_call 85; (with_reducible refine (HOP.out _ _ _ HM45.out HM5.out).mono ?_); rintro e w6 ⟨v6, rfl, p6, k6, rfl, hm6, hb6⟩; have HM6 := Lib.hid hm6; have HB6 := Lib.hid (HB5.out.trans (hb6.mono HB5.out.size)); clear hm6 hb6) | (go_at_call 77; (with_reducible refine (HRS.out _ _ HM6.out).mono ?_); rintro e w7 ⟨rfl, hb7⟩; have HB7 := Lib.hid (HB6.out.trans (hb7.mono HB6.out.size)); clear hb7))
  go_ret2
  exact ⟨rfl, HB7.out⟩

set_option maxHeartbeats 4000000 in
theorem rGcd_err (x y : ByteArray) (sx : x.size < 1000) (sy : y.size < 1000) (ra rb r : Int) (ha : checkS x.data.toList = ra) (hb : checkS y.data.toList = rb) (hr : (if ra = 0 then rb else ra) = r) (h0 : r ≠ 0) (w : World) :
    Calls Tryz.prog 34 #[.string x, .string y] w fun e w' => e = .returned (.tuple #[.string ⟨#[]⟩, .int .i64 r]) ∧ Below w.heap.size w w' := by
  have HCA := Lib.hid (fun W => rCheck_any x (by omega) W ra ha)
  have HCB := Lib.hid (fun W => rCheck_any y (by omega) W rb hb)
  have HF := Lib.hid (fun W => rFirst_two ra rb r hr W)
  have hr0 : (r != 0) = true := by simpa using h0
  clear ha hb hr h0 sx sy
  go_enter Tryz.func34, Tryz.ntmps34
  go_wp2_with (first | (go_at_call 13; (with_reducible refine (HCA.out _).mono ?_); rintro e w2 ⟨rfl, rfl⟩) | (go_at_call 13; (with_reducible refine (HCB.out _).mono ?_); rintro e w2 ⟨rfl, rfl⟩) | (go_at_call 81; refine (HF.out _).mono ?_; rintro e w3 ⟨rfl, rfl⟩; have HB1 := Lib.hid ((Below.refl w.heap.size w).alloc (Nat.le_refl _) (.cells #[.int .i64 ra, .int .i64 rb] 3))))
  go_ret2
  exact ⟨rfl, HB1.out⟩

set_option maxHeartbeats 4000000 in
theorem rGcd_of (s t : Bool) (a b : Nat) (ha : Num s a) (hb : Num t b) (r : Bool) (n : Nat) (hop : ∀ (va vb : Value) (W : World), Mag W va a → Mag W vb b → Calls Tryz.prog 93 #[.agg #[.bool s, va], .agg #[.bool t, vb]] W fun e w' => ∃ v', e = .returned v' ∧ BigR W r n v' w') (hn : ql n < 20000) (hs : r = true → n ≠ 0) (res : ByteArray) (er : Int) (hres : resP r n = (res, er)) (w : World) :
    Calls Tryz.prog 34 #[.string (bs (numeral s a)), .string (bs (numeral t b))] w fun e w' => e = .returned (.tuple #[.string res, .int .i64 er]) ∧ Below w.heap.size w w' := by
  have HCA := Lib.hid (fun W => rCheck_any (bs (numeral s a)) (by rw [bs_size]; have := num_len ha; omega) W 0 (check_numeral ha))
  have HCB := Lib.hid (fun W => rCheck_any (bs (numeral t b)) (by rw [bs_size]; have := num_len hb; omega) W 0 (check_numeral hb))
  have HF := Lib.hid (fun W => rFirst_two 0 0 0 rfl W)
  have HRA := Lib.hid (fun W => rRead_num s a ha.sign (num_dig ha) W)
  have HRB := Lib.hid (fun W => rRead_num t b hb.sign (num_dig hb) W)
  have HOP := Lib.hid hop
  have HRS := Lib.hid (fun (v : Value) W (h1 : Mag W v n) => rResult_any r n v W h1 hn hs res er hres)
  obtain ⟨x, hx2⟩ : ∃ x, bs (numeral s a) = x := ⟨_, rfl⟩
  obtain ⟨y, hy2⟩ : ∃ y, bs (numeral t b) = y := ⟨_, rfl⟩
  rw [hx2] at HCA HRA ⊢
  rw [hy2] at HCB HRB ⊢
  clear hx2 hy2 ha hb hop hn hs hres
  go_enter Tryz.func34, Tryz.ntmps34
  go_wp2_with (first | (go_at_call 13; (with_reducible refine (HCA.out _).mono ?_); rintro e w2 ⟨rfl, rfl⟩) | (go_at_call 13; (with_reducible refine (HCB.out _).mono ?_); rintro e w2 ⟨rfl, rfl⟩) | (go_at_call 81; refine (HF.out _).mono ?_; rintro e w3 ⟨rfl, rfl⟩; have HB1 := Lib.hid ((Below.refl w.heap.size w).alloc (Nat.le_refl _) (.cells #[.int .i64 0, .int .i64 0] 3))) | (go_at_call 73; (with_reducible refine (HRA.out _).mono ?_); rintro e w4 ⟨v4, rfl, p4, k4, rfl, hm4, hb4⟩; have HM4 := Lib.hid hm4; have HB4 := Lib.hid (HB1.out.trans (hb4.mono HB1.out.size)); clear hm4 hb4) | (go_at_call 73; (with_reducible refine (HRB.out _).mono ?_); rintro e w5 ⟨v5, rfl, p5, k5, rfl, hm5, hb5⟩; have HM5 := Lib.hid hm5; have HM45 := Lib.hid (HM4.out.below hb5); have HB5 := Lib.hid (HB4.out.trans (hb5.mono HB4.out.size)); clear hm5 hb5) | (go_at_call 93; (with_reducible refine (HOP.out _ _ _ HM45.out HM5.out).mono ?_); rintro e w6 ⟨v6, rfl, p6, k6, rfl, hm6, hb6⟩; have HM6 := Lib.hid hm6; have HB6 := Lib.hid (HB5.out.trans (hb6.mono HB5.out.size)); clear hm6 hb6) | (go_at_call 77; (with_reducible refine (HRS.out _ _ HM6.out).mono ?_); rintro e w7 ⟨rfl, hb7⟩; have HB7 := Lib.hid (HB6.out.trans (hb7.mono HB6.out.size)); clear hb7))
  go_ret2
  exact ⟨rfl, HB7.out⟩

set_option maxHeartbeats 4000000 in
theorem rCompare_err (x y : ByteArray) (sx : x.size < 1000) (sy : y.size < 1000) (ra rb r : Int) (ha : checkS x.data.toList = ra) (hb : checkS y.data.toList = rb) (hr : (if ra = 0 then rb else ra) = r) (h0 : r ≠ 0) (w : World) :
    Calls Tryz.prog 30 #[.string x, .string y] w fun e w' => e = .returned (.tuple #[.int .i64 0, .int .i64 r]) ∧ Below w.heap.size w w' := by
  have HCA := Lib.hid (fun W => rCheck_any x (by omega) W ra ha)
  have HCB := Lib.hid (fun W => rCheck_any y (by omega) W rb hb)
  have HF := Lib.hid (fun W => rFirst_two ra rb r hr W)
  have hr0 : (r != 0) = true := by simpa using h0
  clear ha hb hr h0 sx sy
  go_enter Tryz.func30, Tryz.ntmps30
  go_wp2_with (first | (go_at_call 13; (with_reducible refine (HCA.out _).mono ?_); rintro e w2 ⟨rfl, rfl⟩) | (go_at_call 13; (with_reducible refine (HCB.out _).mono ?_); rintro e w2 ⟨rfl, rfl⟩) | (go_at_call 81; refine (HF.out _).mono ?_; rintro e w3 ⟨rfl, rfl⟩; have HB1 := Lib.hid ((Below.refl w.heap.size w).alloc (Nat.le_refl _) (.cells #[.int .i64 ra, .int .i64 rb] 3))))
  go_ret2
  exact ⟨rfl, HB1.out⟩

set_option maxHeartbeats 4000000 in
theorem rCompare_of (s t : Bool) (a b : Nat) (ha : Num s a) (hb : Num t b) (o : Int) (hop : ∀ (va vb : Value) (W : World), Mag W va a → Mag W vb b → Calls Tryz.prog 74 #[.agg #[.bool s, va], .agg #[.bool t, vb]] W fun e w' => e = .returned (.int .i64 o) ∧ Below W.heap.size W w') (w : World) :
    Calls Tryz.prog 30 #[.string (bs (numeral s a)), .string (bs (numeral t b))] w fun e w' => e = .returned (.tuple #[.int .i64 o, .int .i64 0]) ∧ Below w.heap.size w w' := by
  have HCA := Lib.hid (fun W => rCheck_any (bs (numeral s a)) (by rw [bs_size]; have := num_len ha; omega) W 0 (check_numeral ha))
  have HCB := Lib.hid (fun W => rCheck_any (bs (numeral t b)) (by rw [bs_size]; have := num_len hb; omega) W 0 (check_numeral hb))
  have HF := Lib.hid (fun W => rFirst_two 0 0 0 rfl W)
  have HRA := Lib.hid (fun W => rRead_num s a ha.sign (num_dig ha) W)
  have HRB := Lib.hid (fun W => rRead_num t b hb.sign (num_dig hb) W)
  have HOP := Lib.hid hop
  obtain ⟨x, hx2⟩ : ∃ x, bs (numeral s a) = x := ⟨_, rfl⟩
  obtain ⟨y, hy2⟩ : ∃ y, bs (numeral t b) = y := ⟨_, rfl⟩
  rw [hx2] at HCA HRA ⊢
  rw [hy2] at HCB HRB ⊢
  clear hx2 hy2 ha hb hop
  go_enter Tryz.func30, Tryz.ntmps30
  go_wp2_with (first | (go_at_call 13; (with_reducible refine (HCA.out _).mono ?_); rintro e w2 ⟨rfl, rfl⟩) | (go_at_call 13; (with_reducible refine (HCB.out _).mono ?_); rintro e w2 ⟨rfl, rfl⟩) | (go_at_call 81; refine (HF.out _).mono ?_; rintro e w3 ⟨rfl, rfl⟩; have HB1 := Lib.hid ((Below.refl w.heap.size w).alloc (Nat.le_refl _) (.cells #[.int .i64 0, .int .i64 0] 3))) | (go_at_call 73; (with_reducible refine (HRA.out _).mono ?_); rintro e w4 ⟨v4, rfl, p4, k4, rfl, hm4, hb4⟩; have HM4 := Lib.hid hm4; have HB4 := Lib.hid (HB1.out.trans (hb4.mono HB1.out.size)); clear hm4 hb4) | (go_at_call 73; (with_reducible refine (HRB.out _).mono ?_); rintro e w5 ⟨v5, rfl, p5, k5, rfl, hm5, hb5⟩; have HM5 := Lib.hid hm5; have HM45 := Lib.hid (HM4.out.below hb5); have HB5 := Lib.hid (HB4.out.trans (hb5.mono HB4.out.size)); clear hm5 hb5) | (go_at_call 74; (with_reducible refine (HOP.out _ _ _ HM45.out HM5.out).mono ?_); rintro e w6 ⟨rfl, hb6⟩; have HB6 := Lib.hid (HB5.out.trans (hb6.mono HB5.out.size)); clear hb6))
  go_ret2
  exact ⟨rfl, HB6.out⟩
set_option maxHeartbeats 4000000 in
theorem rNeg_err (x : ByteArray) (sx : x.size < 1000) (r : Int) (ha : checkS x.data.toList = r) (h0 : r ≠ 0) (w : World) :
    Calls Tryz.prog 19 #[.string x] w fun e w' => e = .returned (.tuple #[.string ⟨#[]⟩, .int .i64 r]) ∧ Below w.heap.size w w' := by
  have HCA := Lib.hid (fun W => rCheck_any x (by omega) W r ha)
  have hr0 : (r != 0) = true := by simpa using h0
  clear ha h0 sx
  go_enter Tryz.func19, Tryz.ntmps19
  go_wp2_with (go_at_call 13; (with_reducible refine (HCA.out _).mono ?_); rintro e w2 ⟨rfl, rfl⟩)
  go_ret2
  exact ⟨rfl, Below.refl _ _⟩
set_option maxHeartbeats 4000000 in
theorem rNeg_ok (s : Bool) (a : Nat) (ha : Num s a) (r : Bool) (hr : ((!s) && !decide (a = 0)) = r) (w : World) :
    Calls Tryz.prog 19 #[.string (bs (numeral s a))] w fun e w' => e = .returned (.tuple #[.string (bs (numeral r a)), .int .i64 0]) ∧ Below w.heap.size w w' := by
  have HCA := Lib.hid (fun W => rCheck_any (bs (numeral s a)) (by rw [bs_size]; have := num_len ha; omega) W 0 (check_numeral ha))
  have HRA := Lib.hid (fun W => rRead_num s a ha.sign (num_dig ha) W)
  have qa := num_ql ha
  have HNG := Lib.hid (fun (v : Value) W (h1 : Mag W v a) => rNegative_any s a v W h1 (by omega) r hr)
  have HRS := Lib.hid (fun (v : Value) W (h1 : Mag W v a) => rResult_any r a v W h1 (by omega) (by intro h h1; rw [← hr, h1] at h; simp at h) (bs (numeral r a)) 0 (by unfold resP; rw [if_neg (by have := ha.short; omega)]))
  obtain ⟨x, hx2⟩ : ∃ x, bs (numeral s a) = x := ⟨_, rfl⟩
  rw [hx2] at HCA HRA ⊢
  clear hx2 ha hr qa
  go_enter Tryz.func19, Tryz.ntmps19
  go_wp2_with (first | (go_at_call 13; (with_reducible refine (HCA.out _).mono ?_); rintro e w2 ⟨rfl, rfl⟩) | (go_at_call 73; (with_reducible refine (HRA.out _).mono ?_); rintro e w4 ⟨v4, rfl, p4, k4, rfl, hm4, hb4⟩; have HM4 := Lib.hid hm4; have HB4 := Lib.hid hb4; clear hm4 hb4) | (go_at_call 78; (with_reducible refine (HNG.out _ _ HM4.out).mono ?_); rintro e w5 ⟨v5, rfl, p5, k5, rfl, hm5, hb5⟩; have HM5 := Lib.hid hm5; have HB5 := Lib.hid (HB4.out.trans (hb5.mono HB4.out.size)); clear hm5 hb5) | (go_at_call 77; (with_reducible refine (HRS.out _ _ HM5.out).mono ?_); rintro e w7 ⟨rfl, hb7⟩; have HB7 := Lib.hid (HB5.out.trans (hb7.mono HB5.out.size)); clear hb7))
  go_ret2
  exact ⟨rfl, HB7.out⟩
end Go.Proofs.YtjemolaobhlapaaGreatDoor

namespace Go.Proofs.YtjemolaobhlapaaGreatDoor
open Go.RowKit
set_option maxRecDepth 100000

set_option maxHeartbeats 2000000 in
theorem rSmall_neg (n : Nat) (hn0 : 0 < n) (hn : n ≤ 9223372036854775808) (w : World) :
    Calls Tryz.prog 68 #[.int .i64 (-(n : Int))] w fun e w' => ∃ v', e = .returned v' ∧ BigR w true n v' w' := by
  obtain ⟨i0, hi0, hz0, hz1, hz2⟩ := info_parts infoI
  obtain ⟨B, hB⟩ : ∃ B, w.heap.size = B := ⟨_, rfl⟩
  obtain ⟨W, hW⟩ : ∃ W, (w.alloc (.cells #[.bool false, .slice none 0 0] 74)).alloc (.cells #[.bool false, .slice none 0 0] 74) = W := ⟨_, rfl⟩
  have HS := Lib.hid (Sm.start (n := n) hB hW true)
  have c2 := HS.out.1.at 0
  have c3 := HS.out.1.at 1
  have z2 := HS.out.1.thawed 0
  have z3 := HS.out.1.thawed 1
  have hd : decide (-(n : Int) < 0) = true := by simp; omega
  have hql : ql n < 10 := by
    have h := ql_le (n := n) (k := 5) (by have : qw 5 = 100000000000000000000 := rfl; omega)
    omega
  go_enter Tryz.func68, Tryz.ntmps68
  go_wp2
  clear c2 c3 z2 z3
  go_loopw [0] (fun x wr => ∃ i : Nat, i ≤ ql n ∧ x = .int .i64 (-((n / qw i : Nat) : Int)) ∧ Hid (∃ p c, Sm w B true p c (dq n) i wr)) (fun x _ => (-(intOf x)).toNat)
  case atStart => exact ⟨0, Nat.zero_le _, by rw [qdiv_first], none, 0, HS.out.2⟩
  case round =>
    clear HS hd
    obtain ⟨i, hi, rfl, HT⟩ := hrel
    obtain ⟨p, c, HT⟩ := HT.out
    have HT := Lib.hid HT
    have c0 := HT.out.b1.at 0
    have c1 := HT.out.b1.at 1
    have hle : n / qw i ≤ n := Nat.div_le_self _ _
    have HG := Lib.hid (@small_go n i)
    have HE := Lib.hid (@small_end n i)
    have HX := Lib.hid (show n / qw i % 10000 = dq n i from rfl)
    have HN := Lib.hid (show n / qw i / 10000 = n / qw (i + 1) by rw [qw_succ, Nat.div_div_eq_div_mul])
    obtain ⟨y, hy⟩ : ∃ y, n / qw i = y := ⟨_, rfl⟩
    rw [hy] at hle HG HE HX HN ⊢
    clear hy
    by_cases h0 : y = 0
    · subst h0
      have hend : ql n = i := Nat.le_antisymm (HE.out rfl) hi
      obtain ⟨hb0, hb1⟩ : BlockIs wr B 74 #[.bool false, .slice none 0 0] ∧ BlockIs wr (B + 1) 74 #[.bool true, .slice p i c] := ⟨HT.out.b0, HT.out.b1⟩
      have d0 := hb0.at 0
      have d1 := hb0.at 1
      have e0 := hb0.thawed 0
      have e1 := hb0.thawed 1
      have HB0 := Lib.hid hb0
      clear hb0 hb1
      go_wp2
      have hbl := (HT.out.bl.setCell (p := ⟨B, 0, none⟩) (by simp) (.bool true)).setCell (p := ⟨B, 1, none⟩) (by simp) (.slice p i c)
      have hm : Mag wr (.slice p i c) n := by unfold Mag; rw [hend]; exact HT.out.row.base (Nat.zero_le _)
      exact bodyPost_ret (retBig rfl _ _ B rfl HB0.out.two) rfl ⟨_, rfl, p, c, by rw [hend], by rw [hend]; exact hm.two HB0.out, hB ▸ hbl⟩
    · have hlt : i < ql n := HG.out (by omega)
      have h1 : (-(y : Int) != 0) = true := by simp; omega
      have hx4 : y % 10000 < 10000 := Nat.mod_lt _ (by decide)
      have hm1 : (-(y : Int)).tmod 10000 = -((y % 10000 : Nat) : Int) := by rw [Int.neg_tmod, Int.tmod_eq_emod_of_nonneg (by omega)]; omega
      have HD := Lib.hid (show -((y : Int) / 10000) = -((y / 10000 : Nat) : Int) by omega)
      obtain ⟨x, hx⟩ : ∃ x, y % 10000 = x := ⟨_, rfl⟩
      rw [hx] at hm1 hx4 HX
      have hsz := HT.out.b1.lt
      
      have HY := Lib.hid (show 0 < y by omega)
      clear hx HG HE h0
      by_cases hx0 : x = 0
      · subst hx0
        have hdd : decide (-((0 : Nat) : Int) < 0) = false := by decide
        go_wp2_with (at_builtin; refine wpList_append_own _ rfl _ _ 72 rfl (B + 2) 3 i0 _ 1 8 Tryz.underlying72 hi0 hz0 hz1 hz2 rfl (by decide) _ _ _ rfl (World.ownsRow.alloc HT.out.row _) ⟨wr.heap.size, 0, none⟩ 1 1 [.int .i64 0] rfl rfl (new_cell _ _ _) (one_int _) (by simp [maxLen]; omega) (by omega) (by simp; omega) ?_; intro v' w4 hown' hg4 _; obtain ⟨p', c', rfl, hb4, hs4⟩ := HT.out.put rfl HX.out hown' hg4; have HR4 := Lib.hid hs4; have d1 := hb4.at 1; have e1 := hb4.thawed 1; clear hown' hg4 hs4 hb4)
        skip
        go_roundw
        case rel => exact ⟨i + 1, hlt, by rw [← HN.out]; exact congrArg _ HD.out, p', c', HR4.out⟩
        case measure => have := HY.out; simp [intOf]; omega
      · have hdd : decide (-(x : Int) < 0) = true := by simp; omega
        go_wp2_with (at_builtin; refine wpList_append_own _ rfl _ _ 72 rfl (B + 2) 3 i0 _ 1 8 Tryz.underlying72 hi0 hz0 hz1 hz2 rfl (by decide) _ _ _ rfl (World.ownsRow.alloc HT.out.row _) ⟨wr.heap.size, 0, none⟩ 1 1 [.int .i64 x] rfl rfl (new_cell _ _ _) (one_int _) (by simp [maxLen]; omega) (by omega) (by simp; omega) ?_; intro v' w4 hown' hg4 _; obtain ⟨p', c', rfl, hb4, hs4⟩ := HT.out.put rfl HX.out hown' hg4; have HR4 := Lib.hid hs4; have d1 := hb4.at 1; have e1 := hb4.thawed 1; clear hown' hg4 hs4 hb4)
        go_roundw
        case rel => exact ⟨i + 1, hlt, by rw [← HN.out]; exact congrArg _ HD.out, p', c', HR4.out⟩
        case measure => have := HY.out; simp [intOf]; omega

set_option maxHeartbeats 1000000 in
theorem rFromInt_of (z : Int) (s : Bool) (m : Nat) (hsm : ∀ W : World, Calls Tryz.prog 68 #[.int .i64 z] W fun e w' => ∃ v', e = .returned v' ∧ BigR W s m v' w') (lm : ql m < 20000) (hs : s = true → m ≠ 0) (w : World) :
    Calls Tryz.prog 15 #[.int .i64 z] w fun e w' => e = .returned (.string (bs (numeral s m))) ∧ Below w.heap.size w w' := by
  have HSM := Lib.hid hsm
  have HWR := Lib.hid (fun (v : Value) W (h1 : Mag W v m) => rWrite_any s m v W h1 lm hs)
  clear hsm lm hs
  go_enter Tryz.func15, Tryz.ntmps15
  go_wp2_with (first | (go_at_call 68; (with_reducible refine (HSM.out _).mono ?_); rintro e w4 ⟨v4, rfl, p4, k4, rfl, hm4, hb4⟩; have HM4 := Lib.hid hm4; have HB4 := Lib.hid hb4; clear hm4 hb4) | (go_at_call 67; (with_reducible refine (HWR.out _ _ HM4.out).mono ?_); rintro e w7 ⟨rfl, hb7⟩; have HB7 := Lib.hid (HB4.out.trans (hb7.mono HB4.out.size)); clear hb7))
  go_ret
  exact ⟨rfl, HB7.out⟩
theorem int_ql {m : Nat} (h : m ≤ 9223372036854775808) : ql m < 20000 := by
  have h := ql_le (n := m) (k := 5) (by have : qw 5 = 100000000000000000000 := rfl; omega)
  omega
theorem rFromInt_any (n : Int) (n0 : -9223372036854775808 ≤ n) (n1 : n ≤ 9223372036854775807) (w : World) :
    Calls Tryz.prog 15 #[.int .i64 n] w fun e w' => e = .returned (.string ⟨(Lib.itoa n).toArray⟩) ∧ Below w.heap.size w w' := by
  by_cases h : n < 0
  · obtain ⟨m, rfl⟩ : ∃ m : Nat, n = -(m : Int) := ⟨n.natAbs, by omega⟩
    rw [Lib.itoa_neg m (by omega)]
    exact rFromInt_of (-(m : Int)) true m (fun W => rSmall_neg m (by omega) (by omega) W) (int_ql (by omega)) (by intro _; omega) w
  · obtain ⟨m, rfl⟩ : ∃ m : Nat, n = (m : Int) := ⟨n.natAbs, by omega⟩
    rw [Lib.itoa_nonneg m]
    exact rFromInt_of (m : Int) false m (fun W => rSmall_nat m (by omega) W) (int_ql (by omega)) (by simp) w
end Go.Proofs.YtjemolaobhlapaaGreatDoor

namespace Go.Proofs.YtjemolaobhlapaaGreatDoor
open Go.RowKit
set_option maxRecDepth 100000

set_option maxHeartbeats 4000000 in
theorem rDivMod_err (x y : ByteArray) (sx : x.size < 1000) (sy : y.size < 1000) (ra rb rc r : Int) (c : Bool) (ha : checkS x.data.toList = ra) (hb : checkS y.data.toList = rb) (hc : (y.toList == [48]) = c) (hrc : (if c = true then (30 : Int) else 0) = rc) (hr : (if ra = 0 then (if rb = 0 then rc else rb) else ra) = r) (h0 : r ≠ 0) (w : World) :
    Calls Tryz.prog 28 #[.string x, .string y] w fun e w' => e = .returned (.tuple #[.string ⟨#[]⟩, .string ⟨#[]⟩, .int .i64 r]) ∧ Below w.heap.size w w' := by
  have HCA := Lib.hid (fun W => rCheck_any x (by omega) W ra ha)
  have HCB := Lib.hid (fun W => rCheck_any y (by omega) W rb hb)
  have HWN := Lib.hid (fun W => rWhen_any c 30 W rc hrc)
  have HF := Lib.hid (fun W => rFirst_three ra rb rc r hr W)
  have hr0 : (r != 0) = true := by simpa using h0
  clear ha hb hrc hr h0 sx sy
  go_enter Tryz.func28, Tryz.ntmps28
  go_wp2_with (first | (go_at_call 13; (with_reducible refine (HCA.out _).mono ?_); rintro e w2 ⟨rfl, rfl⟩) | (go_at_call 13; (with_reducible refine (HCB.out _).mono ?_); rintro e w2 ⟨rfl, rfl⟩) | (go_at_call 65; refine (HWN.out _).mono ?_; rintro e w3 ⟨rfl, rfl⟩) | (go_at_call 81; refine (HF.out _).mono ?_; rintro e w3 ⟨rfl, rfl⟩; have HB1 := Lib.hid ((Below.refl w.heap.size w).alloc (Nat.le_refl _) (.cells #[.int .i64 ra, .int .i64 rb, .int .i64 rc] 3))))
  go_ret3
  exact ⟨rfl, HB1.out⟩

theorem dm_set {w w5 W6 W7 : World} {D q r c2 c3 : Nat} {z : Bool} {p2 p3 : Option Addr} (hG : Bg2 w5 D (.bool false) (.slice none 0 0) (.bool false) (.slice none 0 0) W6) (hD : w5.heap.size = D) (hm : Mag w5 (.slice p2 (ql q) c2) q) (hn : Mag w5 (.slice p3 (ql r) c3) r) (hb : Below w.heap.size w w5)
    (hW7 : (((W6.setCell ⟨D, 0, none⟩ (.bool z)).setCell ⟨D, 1, none⟩ (.slice p2 (ql q) c2)).setCell ⟨D + 1, 0, none⟩ (.bool false)).setCell ⟨D + 1, 1, none⟩ (.slice p3 (ql r) c3) = W7) :
    BlockIs W7 D 74 #[.bool z, .slice p2 (ql q) c2] ∧ BlockIs W7 (D + 1) 74 #[.bool false, .slice p3 (ql r) c3] ∧ Mag W7 (.slice p2 (ql q) c2) q ∧ Mag W7 (.slice p3 (ql r) c3) r ∧ Below w.heap.size w W7 := by
  subst hW7
  have h1 := (hG.b1.other ⟨D, 0, none⟩ (.bool z) (by simp)).other ⟨D, 1, none⟩ (.slice p2 (ql q) c2) (by simp)
  have hm6 := hm.below (by rw [hD]; exact hG.bl)
  have hn6 := hn.below (by rw [hD]; exact hG.bl)
  have hs := hb.size
  have hb6 : Below w.heap.size w W6 := hb.trans (hG.bl.mono (by omega))
  exact ⟨(hG.b0.two.other ⟨D + 1, 0, none⟩ _ (by simp)).other ⟨D + 1, 1, none⟩ _ (by simp), h1.two, (hm6.two hG.b0).two h1, (hn6.two hG.b0).two h1,
    ((((hb6.setCell (p := ⟨D, 0, none⟩) (by simp; omega) _).setCell (p := ⟨D, 1, none⟩) (by simp; omega) _).setCell (p := ⟨D + 1, 0, none⟩) (by simp; omega) _).setCell (p := ⟨D + 1, 1, none⟩) (by simp; omega) _)⟩
set_option maxHeartbeats 800000 in
theorem rDivMod_ok (s t : Bool) (a b : Nat) (ha : Num s a) (hb : Num t b) (hb0 : 0 < b) (q r : Nat) (hq : (if (s && !decide (a % b = 0)) = true then (a / b + 1, b - a % b) else (a / b, a % b)) = (q, r)) (z : Bool) (hz : ((s != t) && !decide (q = 0)) = z) (w : World) :
    Calls Tryz.prog 28 #[.string (bs (numeral s a)), .string (bs (numeral t b))] w fun e w' => e = .returned (.tuple #[.string (bs (numeral z q)), .string (bs (numeral false r)), .int .i64 0]) ∧ Below w.heap.size w w' := by
  have HCA := Lib.hid (fun W => rCheck_any (bs (numeral s a)) (by rw [bs_size]; have := num_len ha; omega) W 0 (check_numeral ha))
  have HCB := Lib.hid (fun W => rCheck_any (bs (numeral t b)) (by rw [bs_size]; have := num_len hb; omega) W 0 (check_numeral hb))
  have HWN := Lib.hid (fun W => rWhen_any false 30 W 0 rfl)
  have HF := Lib.hid (fun W => rFirst_three 0 0 0 0 rfl W)
  have HF2 := Lib.hid (fun W => rFirst_two 0 0 0 rfl W)
  have HRA := Lib.hid (fun W => rRead_num s a ha.sign (num_dig ha) W)
  have HRB := Lib.hid (fun W => rRead_num t b hb.sign (num_dig hb) W)
  have qa := num_ql ha
  have qb := num_ql hb
  have hqa := floor_le hb0 hq
  have hrb : r ≤ b := by
    have := Nat.mod_lt a hb0
    split at hq <;> (rw [Prod.mk.injEq] at hq; omega)
  have lq := ql_mono hqa
  have lr := ql_mono hrb
  have HOV := Lib.hid (fun (va vb : Value) W (h1 : Mag W va a) (h2 : Mag W vb b) => rOverB_any s t a b va vb W h1 h2 (by omega) (by omega) hb0 q r hq z hz)
  have HR1 := Lib.hid (fun (v : Value) W (h1 : Mag W v q) => rResult_any z q v W h1 (by omega) (sign_ne hz) (bs (numeral z q)) 0 (by unfold resP; rw [if_neg (by have := digits_mono hqa ha.short; omega)]))
  have HR2 := Lib.hid (fun (v : Value) W (h1 : Mag W v r) => rResult_any false r v W h1 (by omega) (by simp) (bs (numeral false r)) 0 (by unfold resP; rw [if_neg (by have := digits_mono hrb hb.short; omega)]))
  have hy : ((bs (numeral t b)).toList == [48]) = false := by
    cases t
    · have := str_is (b := b) (k := 0) (by decide)
      rw [decide_eq_false (by omega)] at this
      exact this
    · rw [Lib.toList_data, bs_list]
      rfl
  obtain ⟨x, hx2⟩ : ∃ x, bs (numeral s a) = x := ⟨_, rfl⟩
  obtain ⟨y, hy2⟩ : ∃ y, bs (numeral t b) = y := ⟨_, rfl⟩
  rw [hx2] at HCA HRA ⊢
  rw [hy2] at HCB HRB hy ⊢
  obtain ⟨x3, hx3⟩ : ∃ x, bs (numeral z q) = x := ⟨_, rfl⟩
  obtain ⟨y3, hy3⟩ : ∃ y, bs (numeral false r) = y := ⟨_, rfl⟩
  rw [hx3] at HR1 ⊢
  rw [hy3] at HR2 ⊢
  clear hx2 hy2 hx3 hy3 ha hb hb0 hq hz qa qb hqa hrb lq lr
  go_enter Tryz.func28, Tryz.ntmps28
  go_wp2_with (first | (go_at_call 13; (with_reducible refine (HCA.out _).mono ?_); rintro e w2 ⟨rfl, rfl⟩) | (go_at_call 13; (with_reducible refine (HCB.out _).mono ?_); rintro e w2 ⟨rfl, rfl⟩) | (go_at_call 65; refine (HWN.out _).mono ?_; rintro e w3 ⟨rfl, rfl⟩) | (go_at_call 81; (with_reducible refine (HF.out _).mono ?_); rintro e w3 ⟨rfl, rfl⟩; have HB1 := Lib.hid ((Below.refl w.heap.size w).alloc (Nat.le_refl _) (.cells #[.int .i64 0, .int .i64 0, .int .i64 0] 3))) | (go_at_call 73; (with_reducible refine (HRA.out _).mono ?_); rintro e w4 ⟨v4, rfl, p4, k4, rfl, hm4, hb4⟩; have HM4 := Lib.hid hm4; have HB4 := Lib.hid (HB1.out.trans (hb4.mono HB1.out.size)); clear hm4 hb4) | (go_at_call 73; (with_reducible refine (HRB.out _).mono ?_); rintro e w5 ⟨v5, rfl, p5, k5, rfl, hm5, hb5⟩; have HM5 := Lib.hid hm5; have HM45 := Lib.hid (HM4.out.below hb5); have HBR := Lib.hid (HB4.out.trans (hb5.mono HB4.out.size)); clear hm5 hb5) | (go_at_call 89; (with_reducible refine (HOV.out _ _ _ HM45.out HM5.out).mono ?_); rintro e w5 ⟨v5, rfl, p2, c2, p3, c3, rfl, hm5, hn5, hb5⟩; have HB5 := Lib.hid (HBR.out.trans (hb5.mono HBR.out.size)); obtain ⟨D, hD⟩ : ∃ D, w5.heap.size = D := ⟨_, rfl⟩; obtain ⟨W6, hW6⟩ : ∃ W6, (w5.alloc (.cells #[.bool false, .slice none 0 0] 74)).alloc (.cells #[.bool false, .slice none 0 0] 74) = W6 := ⟨_, rfl⟩; have HG := Lib.hid (Bg2.start hD hW6); obtain ⟨W7, hW7⟩ : ∃ W7, (((W6.setCell ⟨D, 0, none⟩ (.bool z)).setCell ⟨D, 1, none⟩ (.slice p2 (ql q) c2)).setCell ⟨D + 1, 0, none⟩ (.bool false)).setCell ⟨D + 1, 1, none⟩ (.slice p3 (ql r) c3) = W7 := ⟨_, rfl⟩; have HX := Lib.hid (dm_set HG.out hD hm5 hn5 HB5.out hW7); clear hm5 hn5 hb5; have g0 := HG.out.b0.at 0; have g1 := HG.out.b0.at 1; have g2 := HG.out.b1.at 0; have g3 := HG.out.b1.at 1; have g4 := HG.out.b0.thawed 0; have g5 := HG.out.b0.thawed 1; have g6 := HG.out.b1.thawed 0; have g7 := HG.out.b1.thawed 1; have k0 := HX.out.1.at 0; have k1 := HX.out.1.at 1; have k2 := HX.out.2.1.at 0; have k3 := HX.out.2.1.at 1) | (go_at_call 77; (with_reducible refine (HR2.out _ _ HM8.out).mono ?_); rintro e w9 ⟨rfl, hb9⟩; have HB9 := Lib.hid (HB8.out.trans (hb9.mono HB8.out.size)); clear hb9) | (go_at_call 77; (with_reducible refine (HR1.out _ _ HX.out.2.2.1).mono ?_); rintro e w8 ⟨rfl, hb8⟩; have HB8 := Lib.hid (HX.out.2.2.2.2.trans (hb8.mono HX.out.2.2.2.2.size)); have HM8 := Lib.hid (HX.out.2.2.2.1.below hb8); have HG8 := Lib.hid (HX.out.2.1.below hb8 HX.out.2.1.lt); clear hb8; have m0 := HG8.out.at 0; have m1 := HG8.out.at 1) | (go_at_call 81; (with_reducible refine (HF2.out _).mono ?_); rintro e w3 ⟨rfl, rfl⟩; have HB10 := Lib.hid (HB9.out.alloc HB9.out.size (.cells #[.int .i64 0, .int .i64 0] 3))))
  go_ret3
  exact ⟨rfl, HB10.out⟩
end Go.Proofs.YtjemolaobhlapaaGreatDoor
