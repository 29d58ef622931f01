/- The reference's operations at rational numbers. -/
import Derived.Test.YtojgafkkgacpkaaGreatDoorQE
import Derived.Test.YtojgafkkgacpkaaGreatDoorN64
set_option linter.unusedSimpArgs false
set_option linter.unusedVariables false
namespace Go.Proofs.YtojgafkkgacpkaaGreatDoor
open Go.RowKit
set_option maxRecDepth 100000

theorem sumB_int (x y : Int) : ∃ r', sumB (isNeg x) (isNeg y) x.natAbs y.natAbs = (r', (x + y).natAbs) ∧ (r' && !decide ((x + y).natAbs = 0)) = isNeg (x + y) := by
  unfold sumB isNeg
  by_cases hx : x < 0 <;> by_cases hy : y < 0
  · rw [decide_eq_true hx, decide_eq_true hy, if_pos rfl]
    refine ⟨true, ?_, ?_⟩
    · rw [Prod.mk.injEq]; exact ⟨rfl, by omega⟩
    · rw [decide_eq_true (show x + y < 0 by omega), decide_eq_false (by omega)]; rfl
  · rw [decide_eq_true hx, decide_eq_false hy, if_neg (by simp)]
    by_cases h : y.natAbs ≤ x.natAbs
    · rw [if_pos h]
      refine ⟨true, ?_, ?_⟩
      · rw [Prod.mk.injEq]; exact ⟨rfl, by omega⟩
      · by_cases h0 : (x + y).natAbs = 0
        · rw [decide_eq_true h0, decide_eq_false (by omega)]; rfl
        · rw [decide_eq_false h0, decide_eq_true (by omega)]; rfl
    · rw [if_neg h]
      refine ⟨false, ?_, ?_⟩
      · rw [Prod.mk.injEq]; exact ⟨rfl, by omega⟩
      · rw [decide_eq_false (show ¬ x + y < 0 by omega)]; rfl
  · rw [decide_eq_false hx, decide_eq_true hy, if_neg (by simp)]
    by_cases h : y.natAbs ≤ x.natAbs
    · rw [if_pos h]
      refine ⟨false, ?_, ?_⟩
      · rw [Prod.mk.injEq]; exact ⟨rfl, by omega⟩
      · rw [decide_eq_false (show ¬ x + y < 0 by omega)]; rfl
    · rw [if_neg h]
      refine ⟨true, ?_, ?_⟩
      · rw [Prod.mk.injEq]; exact ⟨rfl, by omega⟩
      · rw [decide_eq_true (show x + y < 0 by omega), decide_eq_false (by omega)]; rfl
  · rw [decide_eq_false hx, decide_eq_false hy, if_pos rfl]
    refine ⟨false, ?_, ?_⟩
    · rw [Prod.mk.injEq]; exact ⟨rfl, by omega⟩
    · rw [decide_eq_false (show ¬ x + y < 0 by omega)]; rfl
theorem ordB_int (x y : Int) : ordB (isNeg (x - y)) (x - y).natAbs = cmpZ x y := by
  unfold ordB isNeg cmpZ
  by_cases h : x = y
  · rw [if_pos h, if_pos (by omega)]
  · rw [if_neg h, if_neg (by omega)]
    by_cases h2 : x < y
    · rw [if_pos h2, decide_eq_true (by omega), if_pos rfl]
    · rw [if_neg h2, decide_eq_false (by omega), if_neg (by decide)]
/-- A rational number as the reference reads it. -/
theorem rat_read {x : Rat} (h : FitsR x) : ReadIs (rnum x) (isNeg x.num) x.num.natAbs x.den := fun W => rReadReal_nums _ _ _ h.rat.top h.rat.bot W
theorem rat_check {x : Rat} (h : FitsR x) : CheckIs 46 (rnum x) 0 := fun W => rCheckReal_nums _ _ _ _ h.rat.top h.rat.bot W 0 h.rat.real
theorem FitsR.ql {x : Rat} (h : FitsR x) : ql x.num.natAbs < 1000 ∧ ql x.den < 1000 := ⟨by have := num_ql h.rat.top; omega, by have := num_ql h.rat.bot; omega⟩
theorem mk_ql {n : Int} {d : Nat} (hn : ql n.natAbs < 20000) (hd : ql d < 20000) (hd0 : d ≠ 0) : ql (mkRat n d).num.natAbs < 20000 ∧ ql (mkRat n d).den < 20000 := by
  rw [← mk_top n d hd0, ← mk_bot n d hd0]
  exact ⟨Nat.lt_of_le_of_lt (ql_mono (Nat.div_le_self _ _)) hn, Nat.lt_of_le_of_lt (ql_mono (Nat.div_le_self _ _)) hd⟩
theorem neg_ne {z : Int} (h : isNeg z = true) : z.natAbs ≠ 0 := by
  have := of_decide_eq_true h
  omega
theorem sign_den2 (z : Int) (d : Nat) : ((isNeg z != false) && !decide (z.natAbs * d = 0)) = isNeg (z * d) := by rw [Bool.bne_false]; exact sign_den z d
theorem ql_mul2 {a b : Nat} (ha : ql a < 1000) (hb : ql b < 1000) : ql (a * b) < 2000 := by have := ql_mul a b; omega

theorem rAddReal_rat {x y : Rat} (hx : FitsR x) (hy : FitsR y) (z : Rat) (hz : x + y = z) (res : ByteArray) (er : Int) (hr : finQ z = (res, er)) (w : World) :
    Calls Tryz.prog 36 #[.string (rnum x), .string (rnum y)] w fun e w' => e = .returned (.tuple #[.string res, .int .i64 er]) ∧ Below w.heap.size w w' := by
  have hd0 : x.den * y.den ≠ 0 := Nat.mul_ne_zero x.den_nz y.den_nz
  obtain ⟨N, hN⟩ : ∃ N : Int, x.num * y.den + y.num * x.den = N := ⟨_, rfl⟩
  obtain ⟨r', hs, hs2⟩ := sumB_int (x.num * y.den) (y.num * x.den)
  rw [Int.natAbs_mul, Int.natAbs_mul, Int.natAbs_natCast, Int.natAbs_natCast, hN] at hs
  rw [hN] at hs2
  have hz2 : mkRat N (x.den * y.den) = z := by rw [← hN, ← hz, Rat.add_def']
  have htop := mk_top N _ hd0
  have hbot := mk_bot N _ hd0
  have hsg := mk_sign N _ hd0
  rw [hz2] at htop hbot hsg
  have hnl : ql N.natAbs < 20000 := by
    have h2 : N.natAbs ≤ x.num.natAbs * y.den + y.num.natAbs * x.den := by
      rw [← hN]
      refine Nat.le_trans (Int.natAbs_add_le _ _) ?_
      rw [Int.natAbs_mul, Int.natAbs_mul, Int.natAbs_natCast, Int.natAbs_natCast]; omega
    have h3 := ql_mono h2
    have h4 := ql_add (x.num.natAbs * y.den) (y.num.natAbs * x.den)
    have h5 := ql_mul2 hx.ql.1 hy.ql.2
    have h6 := ql_mul2 hy.ql.1 hx.ql.2
    have h7 : max (ql (x.num.natAbs * y.den)) (ql (y.num.natAbs * x.den)) < 2000 := Nat.max_lt.2 ⟨h5, h6⟩
    omega
  have hq := mk_ql hnl (by have := ql_mul2 hx.ql.2 hy.ql.2; omega) hd0
  rw [hz2] at hq
  refine rAddReal_ok _ _ _ _ _ _ _ _ (rat_check hx) (rat_check hy) (rat_read hx) (rat_read hy) (isNeg z.num) z.num.natAbs z.den ?_ hq.1 hq.2 neg_ne res er hr w
  intro va vb vc vd W ha hb hc hd
  have h := rSum_any (isNeg x.num) (isNeg y.num) x.num.natAbs x.den y.num.natAbs y.den va vb vc vd W ha hb hc hd hx.ql.1 hx.ql.2 hy.ql.1 hy.ql.2 (Nat.pos_of_ne_zero hd0) _ (sign_den2 _ _) _ (sign_den2 _ _) r' N.natAbs hs _ hs2 _ rfl (isNeg z.num) (by rw [htop]; exact hsg)
  rw [htop, hbot] at h
  exact h
theorem rSubReal_rat {x y : Rat} (hx : FitsR x) (hy : FitsR y) (z : Rat) (hz : x - y = z) (res : ByteArray) (er : Int) (hr : finQ z = (res, er)) (w : World) :
    Calls Tryz.prog 38 #[.string (rnum x), .string (rnum y)] w fun e w' => e = .returned (.tuple #[.string res, .int .i64 er]) ∧ Below w.heap.size w w' := by
  have hd0 : x.den * y.den ≠ 0 := Nat.mul_ne_zero x.den_nz y.den_nz
  obtain ⟨N, hN⟩ : ∃ N : Int, x.num * y.den + (-y.num) * x.den = N := ⟨_, rfl⟩
  obtain ⟨r', hs, hs2⟩ := sumB_int (x.num * y.den) ((-y.num) * x.den)
  rw [Int.natAbs_mul, Int.natAbs_mul, Int.natAbs_natCast, Int.natAbs_natCast, Int.natAbs_neg, hN] at hs
  rw [hN] at hs2
  have hz2 : mkRat N (x.den * y.den) = z := by rw [← hN, ← hz, Rat.sub_def', Int.neg_mul, ← Int.sub_eq_add_neg]
  have htop := mk_top N _ hd0
  have hbot := mk_bot N _ hd0
  have hsg := mk_sign N _ hd0
  rw [hz2] at htop hbot hsg
  have hnl : ql N.natAbs < 20000 := by
    have h2 : N.natAbs ≤ x.num.natAbs * y.den + y.num.natAbs * x.den := by
      rw [← hN]
      refine Nat.le_trans (Int.natAbs_add_le _ _) ?_
      rw [Int.natAbs_mul, Int.natAbs_mul, Int.natAbs_natCast, Int.natAbs_natCast, Int.natAbs_neg]; omega
    have h3 := ql_mono h2
    have h4 := ql_add (x.num.natAbs * y.den) (y.num.natAbs * x.den)
    have h5 := ql_mul2 hx.ql.1 hy.ql.2
    have h6 := ql_mul2 hy.ql.1 hx.ql.2
    have h7 : max (ql (x.num.natAbs * y.den)) (ql (y.num.natAbs * x.den)) < 2000 := Nat.max_lt.2 ⟨h5, h6⟩
    omega
  have hq := mk_ql hnl (by have := ql_mul2 hx.ql.2 hy.ql.2; omega) hd0
  rw [hz2] at hq
  have hsy := sign_den2 (-y.num) x.den
  rw [Int.natAbs_neg] at hsy
  refine rSubReal_ok _ _ _ _ _ _ _ _ (rat_check hx) (rat_check hy) (rat_read hx) (rat_read hy) (isNeg z.num) z.num.natAbs z.den (isNeg (-y.num)) ?_ ?_ hq.1 hq.2 neg_ne res er hr w
  · intro vc vd W hc hd
    exact rOpposite_any _ _ _ vc vd W hc hd hy.ql.1 _ (neg_sign _)
  intro va vb vc vd W ha hb hc hd
  have h := rSum_any (isNeg x.num) (isNeg (-y.num)) x.num.natAbs x.den y.num.natAbs y.den va vb vc vd W ha hb hc hd hx.ql.1 hx.ql.2 hy.ql.1 hy.ql.2 (Nat.pos_of_ne_zero hd0) _ (sign_den2 _ _) _ hsy r' N.natAbs hs _ hs2 _ rfl (isNeg z.num) (by rw [htop]; exact hsg)
  rw [htop, hbot] at h
  exact h
theorem rMulReal_rat {x y : Rat} (hx : FitsR x) (hy : FitsR y) (z : Rat) (hz : x * y = z) (res : ByteArray) (er : Int) (hr : finQ z = (res, er)) (w : World) :
    Calls Tryz.prog 40 #[.string (rnum x), .string (rnum y)] w fun e w' => e = .returned (.tuple #[.string res, .int .i64 er]) ∧ Below w.heap.size w w' := by
  have hd0 : x.den * y.den ≠ 0 := Nat.mul_ne_zero x.den_nz y.den_nz
  have hz2 : mkRat (x.num * y.num) (x.den * y.den) = z := by rw [← hz, Rat.mul_def']
  have htop := mk_top (x.num * y.num) _ hd0
  have hbot := mk_bot (x.num * y.num) _ hd0
  have hsg := mk_sign (x.num * y.num) _ hd0
  have hq := mk_ql (n := x.num * y.num) (by rw [Int.natAbs_mul]; have := ql_mul2 hx.ql.1 hy.ql.1; omega) (by have := ql_mul2 hx.ql.2 hy.ql.2; omega) hd0
  rw [hz2] at htop hbot hsg hq
  rw [Int.natAbs_mul] at htop hbot
  refine rMulReal_ok _ _ _ _ _ _ _ _ (rat_check hx) (rat_check hy) (rat_read hx) (rat_read hy) (isNeg z.num) z.num.natAbs z.den ?_ hq.1 hq.2 neg_ne res er hr w
  intro va vb vc vd W ha hb hc hd
  have h := rProduct_any (isNeg x.num) (isNeg y.num) x.num.natAbs x.den y.num.natAbs y.den va vb vc vd W ha hb hc hd hx.ql.1 hx.ql.2 hy.ql.1 hy.ql.2 (Nat.pos_of_ne_zero hd0) (isNeg (x.num * y.num)) (sign_mul _ _) false rfl _ rfl (isNeg (x.num * y.num)) (by simp) (isNeg z.num) (by rw [htop]; exact hsg)
  rw [htop, hbot] at h
  exact h
theorem rDivReal_rat {x y : Rat} (hx : FitsR x) (hy : FitsR y) (h0 : y ≠ 0) (z : Rat) (hz : x / y = z) (res : ByteArray) (er : Int) (hr : finQ z = (res, er)) (w : World) :
    Calls Tryz.prog 42 #[.string (rnum x), .string (rnum y)] w fun e w' => e = .returned (.tuple #[.string res, .int .i64 er]) ∧ Below w.heap.size w w' := by
  have hy0 : y.num ≠ 0 := fun h => h0 (Rat.num_eq_zero.1 h)
  have hyn : y.num.natAbs ≠ 0 := by omega
  have hd0 : x.den * y.num.natAbs ≠ 0 := Nat.mul_ne_zero x.den_nz hyn
  obtain ⟨N, hN⟩ : ∃ N : Int, x.num * y.den * y.num.sign = N := ⟨_, rfl⟩
  have hz2 : mkRat N (x.den * y.num.natAbs) = z := by
    rw [← hN, ← hz, Rat.div_def, Rat.mul_def', Rat.num_inv, Rat.den_inv, if_neg hy0, Int.mul_assoc, Int.mul_comm (y.den : Int)]
  have hNa : N.natAbs = x.num.natAbs * y.den := by
    rw [← hN, Int.natAbs_mul, Int.natAbs_mul, Int.natAbs_natCast, Int.natAbs_sign, if_neg hy0, Nat.mul_one]
  have hq := mk_ql (n := N) (by rw [hNa]; have := ql_mul2 hx.ql.1 hy.ql.2; omega) (by have := ql_mul2 hx.ql.2 hy.ql.1; omega) hd0
  have htop := mk_top N _ hd0
  have hbot := mk_bot N _ hd0
  have hsg := mk_sign N _ hd0
  rw [hz2] at htop hbot hsg hq
  rw [hNa] at htop hbot
  have hr2 : ((false != isNeg y.num) && !decide (x.den * y.num.natAbs = 0)) = isNeg y.num := by
    rw [decide_eq_false hd0]
    cases isNeg y.num <;> rfl
  have hs2 : (if isNeg y.num = true then ((!isNeg (x.num * y.den)) && !decide (x.num.natAbs * y.den = 0)) else isNeg (x.num * y.den)) = isNeg N := by
    rw [← hN]
    by_cases h : y.num < 0
    · have hn : isNeg y.num = true := decide_eq_true h
      rw [hn, if_pos rfl, Int.sign_eq_neg_one_of_neg h]
      have := neg_sign (x.num * y.den)
      rw [Int.natAbs_mul, Int.natAbs_natCast] at this
      rw [this]
      congr 1
      omega
    · have hn : isNeg y.num = false := decide_eq_false h
      rw [hn, if_neg (by decide), Int.sign_eq_one_of_pos (by omega), Int.mul_one]
  refine rDivReal_ok _ _ _ _ _ _ _ _ (rat_check hx) (rat_check hy) (rat_read hx) (rat_read hy) (isNeg z.num) z.num.natAbs z.den hyn ?_ hq.1 hq.2 neg_ne res er hr w
  intro va vb vc vd W ha hb hc hd
  have h := rQuotient_any (isNeg x.num) (isNeg y.num) x.num.natAbs x.den y.num.natAbs y.den va vb vc vd W ha hb hc hd hx.ql.1 hx.ql.2 hy.ql.1 hy.ql.2 (Nat.pos_of_ne_zero hd0) (isNeg (x.num * y.den)) (sign_den2 _ _) (isNeg y.num) hr2 _ rfl (isNeg N) hs2 (isNeg z.num) (by rw [htop]; exact hsg)
  rw [htop, hbot] at h
  exact h
theorem rDivReal_nil {x y : Rat} (hx : FitsR x) (hy : FitsR y) (h0 : y = 0) (w : World) :
    Calls Tryz.prog 42 #[.string (rnum x), .string (rnum y)] w fun e w' => e = .returned (.tuple #[.string ⟨#[]⟩, .int .i64 30]) ∧ Below w.heap.size w w' :=
  rDivReal_zero _ _ _ _ _ _ _ _ (rat_check hx) (rat_check hy) (rat_read hx) (rat_read hy) (by rw [h0]; rfl) w
theorem rCompareReal_rat {x y : Rat} (hx : FitsR x) (hy : FitsR y) (w : World) :
    Calls Tryz.prog 44 #[.string (rnum x), .string (rnum y)] w fun e w' => e = .returned (.tuple #[.int .i64 (cmpZ (x.num * y.den) (y.num * x.den)), .int .i64 0]) ∧ Below w.heap.size w w' := by
  obtain ⟨r', hs, hs2⟩ := sumB_int (x.num * y.den) (-(y.num * x.den))
  have ho := ordB_int (x.num * y.den) (y.num * x.den)
  rw [Int.natAbs_neg, Int.natAbs_mul, Int.natAbs_mul, Int.natAbs_natCast, Int.natAbs_natCast, ← Int.sub_eq_add_neg] at hs
  rw [← Int.sub_eq_add_neg] at hs2
  refine rCompareReal_ok _ _ _ _ _ _ _ _ (rat_check hx) (rat_check hy) (rat_read hx) (rat_read hy) _ ?_ w
  intro va vb vc vd W ha hb hc hd
  have ht2 := neg_sign (y.num * x.den)
  rw [Int.natAbs_mul, Int.natAbs_natCast] at ht2
  exact rBefore_any (isNeg x.num) (isNeg y.num) x.num.natAbs x.den y.num.natAbs y.den va vb vc vd W ha hb hc hd hx.ql.1 hx.ql.2 hy.ql.1 hy.ql.2 _ (sign_den2 _ _) _ (sign_den2 _ _) _ ht2 r' _ hs _ hs2 _ ho
end Go.Proofs.YtojgafkkgacpkaaGreatDoor

namespace Go.Proofs.YtojgafkkgacpkaaGreatDoor
open Go.RowKit
set_option maxRecDepth 100000

/-- What a check says wherever MaxLen's cell is. -/
abbrev CheckM (f : Nat) (u : ByteArray) (r : Int) : Prop := ∀ W : World, MLen W → Calls Tryz.prog f #[.string u] W fun e w' => e = .returned (.int .i64 r) ∧ Below W.heap.size W w'
set_option maxHeartbeats 4000000 in
theorem calc_err (op : Nat) (u v : ByteArray) (ra rb r : Int) (hA : CheckM 45 u ra) (hB' : CheckM 45 v rb) (hr : (if ra = 0 then rb else ra) = r) (h0 : r ≠ 0) (w : World) (hm : MLen w) :
    Calls Tryz.prog 94 #[.int .u8 op, .string u, .string v] w fun e w' => e = .returned (.tuple #[.string ⟨#[]⟩, .int .i64 r]) ∧ Below w.heap.size w w' := by
  obtain ⟨B, hB⟩ : ∃ B, w.heap.size = B := ⟨_, rfl⟩
  obtain ⟨W, hW⟩ : ∃ W, w.alloc (.cells #[.string u, .string v] 9) = W := ⟨_, rfl⟩
  have hP := pairBlock w u v hB hW
  have hMW : MLen W := hm.below hP.2 (by rw [← hB]; exact hm.pos)
  have HCK := Lib.hid (checkAll_CheckReal u v B W hP.1 ra rb r (fun V hV => hA V (hMW.same hV)) (fun _ V hV => hB' V (hMW.same hV)) hr)
  have HBL := Lib.hid (And.intro hP.2 hMW)
  have hr0 : (r != 0) = true := by simpa using h0
  clear hA hB' hr h0 hm hP hMW
  go_enter Tryz.func94, Tryz.ntmps94
  go_wp2_with (go_at_call 79; refine HCK.out.mono ?_; rintro e w1 ⟨rfl, hb1⟩; have HB1 := Lib.hid (show Below B w w1 from HBL.out.1.trans (hb1.mono (by have := HBL.out.1.size; omega))); clear hb1)
  go_ret2
  exact ⟨rfl, hB ▸ HB1.out⟩
set_option maxHeartbeats 4000000 in
theorem CompareReal_err (u v : ByteArray) (ra rb r : Int) (hA : CheckM 45 u ra) (hB' : CheckM 45 v rb) (hr : (if ra = 0 then rb else ra) = r) (h0 : r ≠ 0) (w : World) (hm : MLen w) :
    Calls Tryz.prog 43 #[.string u, .string v] w fun e w' => e = .returned (.tuple #[.int .i64 0, .int .i64 r]) ∧ Below w.heap.size w w' := by
  obtain ⟨B, hB⟩ : ∃ B, w.heap.size = B := ⟨_, rfl⟩
  obtain ⟨W, hW⟩ : ∃ W, w.alloc (.cells #[.string u, .string v] 9) = W := ⟨_, rfl⟩
  have hP := pairBlock w u v hB hW
  have hMW : MLen W := hm.below hP.2 (by rw [← hB]; exact hm.pos)
  have HCK := Lib.hid (checkAll_CheckReal u v B W hP.1 ra rb r (fun V hV => hA V (hMW.same hV)) (fun _ V hV => hB' V (hMW.same hV)) hr)
  have HBL := Lib.hid (And.intro hP.2 hMW)
  have hr0 : (r != 0) = true := by simpa using h0
  clear hA hB' hr h0 hm hP hMW
  go_enter Tryz.func43, Tryz.ntmps43
  go_wp2_with (go_at_call 79; refine HCK.out.mono ?_; rintro e w1 ⟨rfl, hb1⟩; have HB1 := Lib.hid (show Below B w w1 from HBL.out.1.trans (hb1.mono (by have := HBL.out.1.size; omega))); clear hb1)
  go_ret2
  exact ⟨rfl, hB ▸ HB1.out⟩
set_option maxHeartbeats 4000000 in
theorem calc_zero (s t : Bool) (a b d : Nat) (hx : Rat2 s a b) (hy : Rat2 t 0 d) (w : World) (hm : MLen w) :
    Calls Tryz.prog 94 #[.int .u8 47, .string (bs (ratio s a false b)), .string (bs (ratio t 0 false d))] w fun e w' => e = .returned (.tuple #[.string ⟨#[]⟩, .int .i64 30]) ∧ Below w.heap.size w w' := by
  obtain ⟨B, hB⟩ : ∃ B, w.heap.size = B := ⟨_, rfl⟩
  have HRX := Lib.hid (fun W h => readF_ok hx W h)
  have HRY := Lib.hid (fun W h => readF_ok hy W h)
  have HZ := Lib.hid (fun W => isZero_any 0 (by decide +kernel) W true (by simp))
  obtain ⟨W, hW⟩ : ∃ W, w.alloc (.cells #[.string (bs (ratio s a false b)), .string (bs (ratio t 0 false d))] 9) = W := ⟨_, rfl⟩
  have hP := pairBlock w (bs (ratio s a false b)) (bs (ratio t 0 false d)) hB hW
  have hMW : MLen W := hm.below hP.2 (by rw [← hB]; exact hm.pos)
  have HCK := Lib.hid (checkBothR hx hy hMW hP.1)
  have HBL := Lib.hid (And.intro hP.2 hMW)
  obtain ⟨x, hx2⟩ : ∃ x, bs (ratio s a false b) = x := ⟨_, rfl⟩
  obtain ⟨y, hy2⟩ : ∃ y, bs (ratio t 0 false d) = y := ⟨_, rfl⟩
  rw [hx2] at HRX hW ⊢
  rw [hy2] at HRY hW ⊢
  have hz0 := zeroFr
  clear hx2 hy2 hx hy hm hP hMW
  go_enter Tryz.func94, Tryz.ntmps94
  go_wp2_with (first | (go_at_call 79; refine HCK.out.mono ?_; rintro e w1 ⟨rfl, hb1⟩; have HB1 := Lib.hid (show Below B w w1 ∧ MLen w1 from ⟨HBL.out.1.trans (hb1.mono (by have := HBL.out.1.size; omega)), HBL.out.2.same hb1⟩); clear hb1) | (go_at_call 101; (with_reducible refine (HRX.out _ HB1.out.2).mono ?_); rintro e w2 ⟨rfl, hb2⟩; have HB2 := Lib.hid (show Below B w w2 ∧ MLen w2 from ⟨HB1.out.1.trans (hb2.mono (by have := HB1.out.1.size; omega)), HB1.out.2.same hb2⟩); clear hb2) | (go_at_call 101; (with_reducible refine (HRY.out _ HB2.out.2).mono ?_); rintro e w3 ⟨rfl, hb3⟩; have HB3 := Lib.hid (show Below B w w3 ∧ MLen w3 from ⟨HB2.out.1.trans (hb3.mono (by have := HB2.out.1.size; omega)), HB2.out.2.same hb3⟩); clear hb3; obtain ⟨C, hC⟩ : ∃ C, w3.heap.size = C := ⟨_, rfl⟩; obtain ⟨U, hU⟩ : ∃ U, (w3.alloc (.cells (fracF (fun _ => 0) 0 false (fun _ => 0) 0 false) 114)).alloc (.cells (fracF (fun _ => 0) 0 false (fun _ => 0) 0 false) 114) = U := ⟨_, rfl⟩; have HU := Lib.hid (twoFracs (s := s) (a := a) (b := b) (t := t) (c := 0) (d := d) HB3.out.1 (by rw [hB]; exact Nat.le_refl _) hC hU)) | ((with_reducible refine wpF_store (.tmp 9) (.tmp 20) C (f := limb a) (u := len a) (s := s) (g := limb b) (v := len b) (t := false) ?_ ?_ HU.out.1 ?_); rfl; rfl) | ((with_reducible refine wpF_store (.tmp 10) (.tmp 22) (C + 1) (f := limb 0) (u := len 0) (s := t) (g := limb d) (v := len d) (t := false) ?_ ?_ HU.out.2.1 ?_); rfl; rfl; have HV := Lib.hid HU.out.2.2; obtain ⟨V, hV⟩ : ∃ V, (U.setRow C (frac s a false b)).setRow (C + 1) (frac t 0 false d) = V := ⟨_, rfl⟩; rw [hV] at HV ⊢; clear hV HU hU hC) | ((with_reducible refine wpM_loadAtG (.tmp 27) (C + 1) 0 ?_ ?_ (range_mag (frac_range0 HV.out.c1)) ?_); rfl; rfl) | (go_at_call 86; refine (HZ.out _).mono ?_; rintro e w4 ⟨rfl, hb4⟩; have HV4 := Lib.hid (HV.out.below hb4); clear hb4))
  go_ret2
  exact ⟨rfl, hB ▸ HV4.out.bl⟩
theorem AddReal_err (u v : ByteArray) (ra rb r : Int) (hA : CheckM 45 u ra) (hB' : CheckM 45 v rb) (hr : (if ra = 0 then rb else ra) = r) (h0 : r ≠ 0) (w : World) (hm : MLen w) :
    Calls Tryz.prog 35 #[.string u, .string v] w fun e w' => e = .returned (.tuple #[.string ⟨#[]⟩, .int .i64 r]) ∧ Below w.heap.size w w' := AddReal_of _ _ _ _ w (calc_err 43 u v ra rb r hA hB' hr h0 w hm)
theorem SubReal_err (u v : ByteArray) (ra rb r : Int) (hA : CheckM 45 u ra) (hB' : CheckM 45 v rb) (hr : (if ra = 0 then rb else ra) = r) (h0 : r ≠ 0) (w : World) (hm : MLen w) :
    Calls Tryz.prog 37 #[.string u, .string v] w fun e w' => e = .returned (.tuple #[.string ⟨#[]⟩, .int .i64 r]) ∧ Below w.heap.size w w' := SubReal_of _ _ _ _ w (calc_err 45 u v ra rb r hA hB' hr h0 w hm)
theorem MulReal_err (u v : ByteArray) (ra rb r : Int) (hA : CheckM 45 u ra) (hB' : CheckM 45 v rb) (hr : (if ra = 0 then rb else ra) = r) (h0 : r ≠ 0) (w : World) (hm : MLen w) :
    Calls Tryz.prog 39 #[.string u, .string v] w fun e w' => e = .returned (.tuple #[.string ⟨#[]⟩, .int .i64 r]) ∧ Below w.heap.size w w' := MulReal_of _ _ _ _ w (calc_err 42 u v ra rb r hA hB' hr h0 w hm)
theorem DivReal_err (u v : ByteArray) (ra rb r : Int) (hA : CheckM 45 u ra) (hB' : CheckM 45 v rb) (hr : (if ra = 0 then rb else ra) = r) (h0 : r ≠ 0) (w : World) (hm : MLen w) :
    Calls Tryz.prog 41 #[.string u, .string v] w fun e w' => e = .returned (.tuple #[.string ⟨#[]⟩, .int .i64 r]) ∧ Below w.heap.size w w' := DivReal_of _ _ _ _ w (calc_err 47 u v ra rb r hA hB' hr h0 w hm)
theorem DivReal_nil {x y : Rat} (hx : FitsR x) (hy : FitsR y) (h0 : y = 0) (w : World) (hm : MLen w) :
    Calls Tryz.prog 41 #[.string (rnum x), .string (rnum y)] w fun e w' => e = .returned (.tuple #[.string ⟨#[]⟩, .int .i64 30]) ∧ Below w.heap.size w w' := by
  have h1 := hy.rat
  have h2 : y.num.natAbs = 0 := by rw [h0]; rfl
  unfold rnum
  rw [h2] at h1 ⊢
  exact DivReal_of _ _ _ _ w (calc_zero _ _ _ _ _ hx.rat h1 w hm)
end Go.Proofs.YtojgafkkgacpkaaGreatDoor

namespace Go.Proofs.YtojgafkkgacpkaaGreatDoor
open Go.RowKit
set_option maxRecDepth 100000

theorem realBoth (s : ByteArray) (hs : s.size ≤ 300) :
    (∃ x : Rat, s = rnum x ∧ FitsR x ∧ CheckM 45 s 0 ∧ CheckIs 46 s 0) ∨
    (∃ r : Int, r ≠ 0 ∧ CheckM 45 s r ∧ CheckIs 46 s r) := by
  by_cases h1 : s.data.toList.count 47 = 1
  · obtain ⟨X, Y, hl, hX, hY⟩ := one_slash h1
    have hsb : s = bs (X ++ 47 :: Y) := by
      show s = ⟨(X ++ 47 :: Y).toArray⟩
      rw [← hl]
    have hlen : (X ++ 47 :: Y).length = s.size := by rw [← hl]; simp
    by_cases hr : (if checkS X = 0 then checkS Y else checkS X) = 0
    · have hx0 : checkS X = 0 := by
        by_cases h : checkS X = 0
        · exact h
        · rw [if_neg h] at hr; exact hr
      rw [if_pos hx0] at hr
      obtain ⟨sx, a, rfl, hna⟩ := check_back hx0
      obtain ⟨sy, b, rfl, hnb⟩ := check_back hr
      have hsr : s = bs (ratio sx a sy b) := hsb
      by_cases he : realE sy a b = 0
      · have hsy : sy = false := by
          unfold realE at he
          cases sy
          · rfl
          · rw [if_pos (by simp)] at he; cases he
        subst hsy
        have h2 : Rat2 sx a b := ⟨hna, hnb, he⟩
        obtain ⟨x, hf, hx, hxa, hxb⟩ := real_back h2
        refine Or.inl ⟨x, by rw [hsr, hx], hf, fun w hm => ?_, fun w => ?_⟩
        · rw [hsr]; exact CheckReal_ok h2 w hm
        · rw [hsr, hx]; exact rat_check hf w
      · refine Or.inr ⟨realE sy a b, he, fun w hm => ?_, fun w => ?_⟩
        · obtain ⟨m, hm1⟩ := hm.ml
          rw [hsr]
          exact CheckReal_nums sx sy a b hna hnb m w hm1 hm.pos _ rfl
        · rw [hsr]
          exact rCheckReal_nums sx sy a b hna hnb w _ rfl
    · refine Or.inr ⟨_, hr, fun w hm => ?_, fun w => ?_⟩
      · obtain ⟨m, hm1⟩ := hm.ml
        rw [hsb]
        refine CheckReal_err X Y hX hY (by rw [hlen]; omega) _ _ _ rfl rfl rfl ?_ m w hm1
        have h3 := checkS_is X
        have h4 := checkS_is Y
        split at hr <;> rename_i h5
        · rw [if_pos h5]; omega
        · rw [if_neg h5]; omega
      · rw [hsb]
        exact rCheckReal_err X Y hX hY (by rw [hlen]; omega) _ _ _ rfl rfl rfl hr w
  · exact Or.inr ⟨1, by decide, fun w _ => CheckReal_form s h1 w, fun w => rCheckReal_form s h1 (by omega) w⟩
end Go.Proofs.YtojgafkkgacpkaaGreatDoor
