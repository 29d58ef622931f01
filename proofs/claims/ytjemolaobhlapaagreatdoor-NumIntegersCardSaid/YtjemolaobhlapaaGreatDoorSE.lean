/- Each operation on integers, the program's and the reference's: one answer of both. -/
import Derived.Test.YtjemolaobhlapaaGreatDoorSG
import Derived.Test.YtjemolaobhlapaaGreatDoorSA
import Derived.Test.YtjemolaobhlapaaGreatDoorQY
import Derived.Test.YtjemolaobhlapaaGreatDoorQI
set_option linter.unusedSimpArgs false
set_option linter.unusedVariables false
namespace Go.Proofs.YtjemolaobhlapaaGreatDoor
open Go.RowKit
set_option maxRecDepth 100000

/-- A call that returns this, whatever the world. -/
abbrev Ans (f : Nat) (xs : Array Value) (v : Value) : Prop := ∀ W : World, Calls Tryz.prog f xs W fun e w' => e = .returned v ∧ Below W.heap.size W w'

theorem num_back {s : ByteArray} (h : checkS s.data.toList = 0) : ∃ x : Int, s = inum x ∧ Fits x := by
  obtain ⟨t, n, hl, hn⟩ := check_back h
  refine ⟨if t then -(n : Int) else n, ?_, ?_⟩
  · rw [← inum_of hn.sign]
    show s = ⟨(numeral t n).toArray⟩
    rw [← hl]
  · unfold Fits
    have := hn.short
    split
    · rw [Int.natAbs_neg, Int.natAbs_natCast]; exact this
    · rw [Int.natAbs_natCast]; exact this
theorem neg_sign2 (y : Int) : ((!isNeg y) && !decide (y.natAbs = 0)) = isNeg (-y) := by
  unfold isNeg
  by_cases h1 : y < 0
  · rw [decide_eq_true h1, decide_eq_false (show ¬ y.natAbs = 0 by omega), decide_eq_false (show ¬ -y < 0 by omega)]; rfl
  · rw [decide_eq_false h1]
    by_cases h0 : y = 0
    · subst h0; rfl
    · rw [decide_eq_true (show -y < 0 by omega), decide_eq_false (show ¬ y.natAbs = 0 by omega)]; rfl
theorem Fits.ql {x : Int} (h : Fits x) : ql x.natAbs ≤ 31 := num_ql h.num
theorem ql_plus {x y : Int} (hx : Fits x) (hy : Fits y) : ql (x + y).natAbs < 20000 := by
  have h1 := ql_mono (Int.natAbs_add_le x y)
  have h2 := ql_add x.natAbs y.natAbs
  have := hx.ql
  have := hy.ql
  omega
theorem Fits.neg {x : Int} (h : Fits x) : Fits (-x) := by unfold Fits; rw [Int.natAbs_neg]; exact h
theorem resP_short {s : Bool} {n : Nat} (h : ¬ 120 < Lib.nDigits n) : resP s n = (bs (numeral s n), 0) := if_neg h
theorem resP_long {s : Bool} {n : Nat} (h : 120 < Lib.nDigits n) : resP s n = (⟨#[]⟩, 4) := if_pos h

theorem add_both {x y : Int} (hx : Fits x) (hy : Fits y) : ∃ (s : ByteArray) (e : Int), Ans 21 #[.string (inum x), .string (inum y)] (.tuple #[.string s, .int .i64 e]) ∧ Ans 22 #[.string (inum x), .string (inum y)] (.tuple #[.string s, .int .i64 e]) := by
  obtain ⟨res, er, hres⟩ : ∃ a b, resP (isNeg (x + y)) (x + y).natAbs = (a, b) := ⟨_, _, rfl⟩
  refine ⟨res, er, fun W => ?_, fun W => ?_⟩
  · by_cases h : 120 < Lib.nDigits (x + y).natAbs
    · rw [resP_long h, Prod.mk.injEq] at hres
      obtain ⟨rfl, rfl⟩ := hres
      exact Add_large _ _ _ _ hx.num hy.num W _ _ (sum_int x y) h
    · rw [resP_short h, Prod.mk.injEq] at hres
      obtain ⟨rfl, rfl⟩ := hres
      exact Add_ok _ _ _ _ hx.num hy.num W _ _ (sum_int x y) (by omega)
  · obtain ⟨r', h1, h2⟩ := sumB_int x y
    have := hx.ql
    have := hy.ql
    exact rAdd_of _ _ _ _ hx.num hy.num _ _ (fun va vb V ha hb => rPlusB_any _ _ _ _ va vb V ha hb (by omega) (by omega) r' _ h1 _ h2) (ql_plus hx hy) neg_ne res er hres W
theorem sub_both {x y : Int} (hx : Fits x) (hy : Fits y) : ∃ (s : ByteArray) (e : Int), Ans 23 #[.string (inum x), .string (inum y)] (.tuple #[.string s, .int .i64 e]) ∧ Ans 24 #[.string (inum x), .string (inum y)] (.tuple #[.string s, .int .i64 e]) := by
  obtain ⟨res, er, hres⟩ : ∃ a b, resP (isNeg (x - y)) (x - y).natAbs = (a, b) := ⟨_, _, rfl⟩
  refine ⟨res, er, fun W => ?_, fun W => ?_⟩
  · have hs := sum_int x (-y)
    rw [Int.natAbs_neg, ← Int.sub_eq_add_neg] at hs
    by_cases h : 120 < Lib.nDigits (x - y).natAbs
    · rw [resP_long h, Prod.mk.injEq] at hres
      obtain ⟨rfl, rfl⟩ := hres
      exact Sub_large _ _ _ _ hx.num hy.num W _ (neg_sign2 y) _ _ hs h
    · rw [resP_short h, Prod.mk.injEq] at hres
      obtain ⟨rfl, rfl⟩ := hres
      exact Sub_ok _ _ _ _ hx.num hy.num W _ (neg_sign2 y) _ _ hs (by omega)
  · obtain ⟨r', h1, h2⟩ := sumB_int x (-y)
    rw [Int.natAbs_neg, ← Int.sub_eq_add_neg] at h1
    rw [← Int.sub_eq_add_neg] at h2
    have := hx.ql
    have := hy.ql
    have hq := ql_plus hx hy.neg
    rw [← Int.sub_eq_add_neg] at hq
    exact rSub_of _ _ _ _ hx.num hy.num _ _ (fun va vb V ha hb => rMinusB_any _ _ _ _ va vb V ha hb (by omega) (by omega) _ (neg_sign2 y) r' _ h1 _ h2) hq neg_ne res er hres W
theorem mul_both {x y : Int} (hx : Fits x) (hy : Fits y) : ∃ (s : ByteArray) (e : Int), Ans 25 #[.string (inum x), .string (inum y)] (.tuple #[.string s, .int .i64 e]) ∧ Ans 26 #[.string (inum x), .string (inum y)] (.tuple #[.string s, .int .i64 e]) := by
  obtain ⟨res, er, hres⟩ : ∃ a b, resP (isNeg (x * y)) (x.natAbs * y.natAbs) = (a, b) := ⟨_, _, rfl⟩
  have hsg := sign_mul x y
  refine ⟨res, er, fun W => ?_, fun W => ?_⟩
  · by_cases h : 120 < Lib.nDigits (x.natAbs * y.natAbs)
    · rw [resP_long h, Prod.mk.injEq] at hres
      obtain ⟨rfl, rfl⟩ := hres
      exact Mul_large _ _ _ _ hx.num hy.num W _ hsg h
    · rw [resP_short h, Prod.mk.injEq] at hres
      obtain ⟨rfl, rfl⟩ := hres
      exact Mul_ok _ _ _ _ hx.num hy.num W _ hsg (by omega)
  · have := hx.ql
    have := hy.ql
    have hq := ql_mul x.natAbs y.natAbs
    exact rMul_of _ _ _ _ hx.num hy.num _ _ (fun va vb V ha hb => rTimes_any _ _ _ _ va vb V ha hb (by omega) (by omega) _ rfl _ hsg) (by omega) (fun h => by rw [← Int.natAbs_mul]; exact neg_ne h) res er hres W
theorem compare_both {x y : Int} (hx : Fits x) (hy : Fits y) : ∃ (o e : Int), Ans 29 #[.string (inum x), .string (inum y)] (.tuple #[.int .i64 o, .int .i64 e]) ∧ Ans 30 #[.string (inum x), .string (inum y)] (.tuple #[.int .i64 o, .int .i64 e]) := by
  refine ⟨cmpZ x y, 0, fun W => Compare_ok _ _ _ _ hx.num hy.num W _ (order_int x y), fun W => ?_⟩
  obtain ⟨r', h1, h2⟩ := sumB_int x (-y)
  rw [Int.natAbs_neg, ← Int.sub_eq_add_neg] at h1
  rw [← Int.sub_eq_add_neg] at h2
  have := hx.ql
  have := hy.ql
  exact rCompare_of _ _ _ _ hx.num hy.num _ (fun va vb V ha hb => rOrder_any _ _ _ _ va vb V ha hb (by omega) (by omega) _ (neg_sign2 y) r' _ h1 _ h2 _ (ordB_int x y)) W
theorem neg_both {x : Int} (hx : Fits x) : ∃ (s : ByteArray) (e : Int), Ans 18 #[.string (inum x)] (.tuple #[.string s, .int .i64 e]) ∧ Ans 19 #[.string (inum x)] (.tuple #[.string s, .int .i64 e]) :=
  ⟨_, 0, fun W => Neg_ok _ _ hx.num W _ rfl, fun W => rNeg_ok _ _ hx.num _ rfl W⟩
theorem gcd_short {a b : Nat} (ha : Lib.nDigits a ≤ 120) (hb : Lib.nDigits b ≤ 120) : Lib.nDigits (Nat.gcd a b) ≤ 120 := by
  by_cases h : a = 0
  · subst h; rw [Nat.gcd_zero_left]; exact hb
  · exact digits_mono (Nat.gcd_le_left b (by omega)) ha
theorem gcd_both {x y : Int} (hx : Fits x) (hy : Fits y) : ∃ (s : ByteArray) (e : Int), Ans 33 #[.string (inum x), .string (inum y)] (.tuple #[.string s, .int .i64 e]) ∧ Ans 34 #[.string (inum x), .string (inum y)] (.tuple #[.string s, .int .i64 e]) := by
  have hg := gcd_short hx hy
  have := hx.ql
  have := hy.ql
  refine ⟨bs (numeral false (Nat.gcd x.natAbs y.natAbs)), 0, fun W => Gcd_ok _ _ _ _ hx.num hy.num W _ (fun V => gcd_any _ _ hx.num.lt29 hy.num.lt29 V) hg, fun W => ?_⟩
  have hq : ql (Nat.gcd x.natAbs y.natAbs) ≤ 31 := num_ql (s := false) ⟨by simp, hg⟩
  exact rGcd_of _ _ _ _ hx.num hy.num false _ (fun va vb V ha hb => rCommon_any _ _ _ _ va vb V ha hb (by omega) (by omega) _ rfl) (by omega) (by simp) _ _ (resP_short (by omega)) W
end Go.Proofs.YtjemolaobhlapaaGreatDoor

namespace Go.Proofs.YtjemolaobhlapaaGreatDoor
open Go.RowKit
set_option maxRecDepth 100000

/-- Two integers in their cells, the second one fixed. -/
structure Pw (w0 : World) (D : Nat) (r : Bool) (p : Option Addr) (m c : Nat) (s : Bool) (q : Option Addr) (a d : Nat) (w : World) : Prop where
  b0 : BlockIs w D 74 #[.bool r, .slice p (ql m) c]
  b1 : BlockIs w (D + 1) 74 #[.bool s, .slice q (ql a) d]
  mm : Mag w (.slice p (ql m) c) m
  ma : Mag w (.slice q (ql a) d) a
  bl : Below w0.heap.size w0 w
  hd : w0.heap.size ≤ D
theorem Pw.below {w0 : World} {D m c a d : Nat} {r s : Bool} {p q : Option Addr} {w w' : World} (h : Pw w0 D r p m c s q a d w) (hb : Below w.heap.size w w') : Pw w0 D r p m c s q a d w' :=
  ⟨h.b0.below hb h.b0.lt, h.b1.below hb h.b1.lt, h.mm.below hb, h.ma.below hb, h.bl.trans (hb.mono h.bl.size), h.hd⟩
theorem Pw.set {w0 : World} {D m c a d n k : Nat} {r s z : Bool} {p q o : Option Addr} {w w' : World} (h : Pw w0 D r p m c s q a d w) (hm : Mag w (.slice o (ql n) k) n) (hw : (w.setCell ⟨D, 0, none⟩ (.bool z)).setCell ⟨D, 1, none⟩ (.slice o (ql n) k) = w') : Pw w0 D z o n k s q a d w' := by
  subst hw
  have hd := h.hd
  exact ⟨h.b0.two, (h.b1.other _ _ (by simp)).other _ _ (by simp), hm.two h.b0, h.ma.two h.b0, (h.bl.setCell (p := ⟨D, 0, none⟩) (by simp; omega) _).setCell (p := ⟨D, 1, none⟩) (by simp; omega) _, hd⟩
theorem pw_start {w w5 W6 W7 : World} {D q r c2 c3 : Nat} {z y : Bool} {p2 p3 : Option Addr} (hG : Bg2 w5 D (.bool false) (.slice none 0 0) (.bool false) (.slice none 0 0) W6) (hD : w5.heap.size = D) (hm : Mag w5 (.slice p2 (ql q) c2) q) (hn : Mag w5 (.slice p3 (ql r) c3) r) (hb : Below w.heap.size w w5)
    (hW7 : (((W6.setCell ⟨D, 0, none⟩ (.bool z)).setCell ⟨D, 1, none⟩ (.slice p2 (ql q) c2)).setCell ⟨D + 1, 0, none⟩ (.bool y)).setCell ⟨D + 1, 1, none⟩ (.slice p3 (ql r) c3) = W7) : Pw w D z p2 q c2 y p3 r c3 W7 := by
  subst hW7
  have h1 := (hG.b1.other ⟨D, 0, none⟩ (.bool z) (by simp)).other ⟨D, 1, none⟩ (.slice p2 (ql q) c2) (by simp)
  have hm6 := hm.below (by rw [hD]; exact hG.bl)
  have hn6 := hn.below (by rw [hD]; exact hG.bl)
  have hs := hb.size
  have hb6 : Below w.heap.size w W6 := hb.trans (hG.bl.mono (by omega))
  exact ⟨(hG.b0.two.other ⟨D + 1, 0, none⟩ _ (by simp)).other ⟨D + 1, 1, none⟩ _ (by simp), h1.two, (hm6.two hG.b0).two h1, (hn6.two hG.b0).two h1,
    ((((hb6.setCell (p := ⟨D, 0, none⟩) (by simp; omega) _).setCell (p := ⟨D, 1, none⟩) (by simp; omega) _).setCell (p := ⟨D + 1, 0, none⟩) (by simp; omega) _).setCell (p := ⟨D + 1, 1, none⟩) (by simp; omega) _), by omega⟩
theorem pow_ql {a i : Nat} (h : Lib.nDigits (a ^ i) ≤ 120) : ql (a ^ i) ≤ 31 := num_ql (s := false) ⟨by simp, h⟩
theorem sgn_ne {s : Bool} {a i : Nat} (h : s = true → a ≠ 0) : sgnP s i = true → a ^ i ≠ 0 := by
  intro h1 h2
  have hs : s = true := by
    cases s
    · unfold sgnP at h1; simp at h1
    · rfl
  exact h hs (Nat.pow_eq_zero.1 h2).1

set_option maxHeartbeats 2000000 in
theorem rPow_bad (x : ByteArray) (n : Int) (sx : x.size < 1000) (ra rc r : Int) (ha : checkS x.data.toList = ra) (hc : (if n < 0 ∨ 1000 < n then (3 : Int) else 0) = rc) (hr : (if ra = 0 then rc else ra) = r) (h0 : r ≠ 0) (w : World) :
    Calls Tryz.prog 32 #[.string x, .int .i64 n] w fun e w' => e = .returned (.tuple #[.string ⟨#[]⟩, .int .i64 r]) ∧ Below w.heap.size w w' := by
  have HCA := Lib.hid (fun W => rCheck_any x (by omega) W ra ha)
  have HF := Lib.hid (fun W => rFirst_two ra rc r hr W)
  have hr0 : (r != 0) = true := by simpa using h0
  by_cases h : n < 0
  · have HWN := Lib.hid (fun W => rWhen_any true 3 W rc (by rw [← hc, if_pos rfl, if_pos (Or.inl h)]))
    have h1 : decide (n < 0) = true := by simpa using h
    clear ha hc hr h0 sx h
    go_enter Tryz.func32, Tryz.ntmps32
    go_wp2_with (first | (go_at_call 13; (with_reducible refine (HCA.out _).mono ?_); rintro e w2 ⟨rfl, rfl⟩) | (go_at_call 65; refine (HWN.out _).mono ?_; rintro e w2 ⟨rfl, rfl⟩) | (go_at_call 81; refine (HF.out _).mono ?_; rintro e w3 ⟨rfl, rfl⟩; have HB1 := Lib.hid ((Below.refl w.heap.size w).alloc (Nat.le_refl _) (.cells #[.int .i64 ra, .int .i64 rc] 3))))
    go_ret2
    exact ⟨rfl, HB1.out⟩
  · obtain ⟨c, hcc⟩ : ∃ c, decide (1000 < n) = c := ⟨_, rfl⟩
    have HWN := Lib.hid (fun W => rWhen_any c 3 W rc (by
      rw [← hc, ← hcc]
      by_cases h2 : 1000 < n
      · rw [decide_eq_true h2, if_pos rfl, if_pos (Or.inr h2)]
      · rw [decide_eq_false h2, if_neg (by simp), if_neg (by omega)]))
    have h1 : decide (n < 0) = false := by simpa using h
    clear ha hc hr h0 sx h
    go_enter Tryz.func32, Tryz.ntmps32
    go_wp2_with (first | (go_at_call 13; (with_reducible refine (HCA.out _).mono ?_); rintro e w2 ⟨rfl, rfl⟩) | (go_at_call 65; refine (HWN.out _).mono ?_; rintro e w2 ⟨rfl, rfl⟩) | (go_at_call 81; refine (HF.out _).mono ?_; rintro e w3 ⟨rfl, rfl⟩; have HB1 := Lib.hid ((Below.refl w.heap.size w).alloc (Nat.le_refl _) (.cells #[.int .i64 ra, .int .i64 rc] 3))))
    go_ret2
    exact ⟨rfl, HB1.out⟩
theorem rSmall_one (w : World) : Calls Tryz.prog 68 #[.int .i64 1] w fun e w' => ∃ v', e = .returned v' ∧ BigR w false 1 v' w' := rSmall_nat 1 (by omega) w
theorem resP_sh {s : Bool} {n : Nat} (h : Lib.nDigits n ≤ 120) : resP s n = (bs (numeral s n), 0) := if_neg (by omega)
theorem resP_lg {s : Bool} {n : Nat} (h : 120 < Lib.nDigits n) : resP s n = (⟨#[]⟩, 4) := if_pos h

set_option maxHeartbeats 8000000 in
theorem rPow_ok (s : Bool) (a e : Nat) (ha : Num s a) (he : e ≤ 1000) (hsh : ∀ i, i ≤ e → Lib.nDigits (a ^ i) ≤ 120) (w : World) :
    Calls Tryz.prog 32 #[.string (bs (numeral s a)), .int .i64 e] w fun x w' => x = .returned (.tuple #[.string (bs (numeral (sgnP s e) (a ^ e))), .int .i64 0]) ∧ Below w.heap.size w w' := by
  have HCA := Lib.hid (fun W => rCheck_any (bs (numeral s a)) (by rw [bs_size]; have := num_len ha; omega) W 0 (check_numeral ha))
  have HWN := Lib.hid (fun W => rWhen_any false 3 W 0 rfl)
  have HF := Lib.hid (fun W => rFirst_two 0 0 0 rfl W)
  have HSM := Lib.hid (fun W => rSmall_one W)
  have HRA := Lib.hid (fun W => rRead_num s a ha.sign (num_dig ha) W)
  have qa := num_ql ha
  have HA := Lib.hid ha
  have HSH := Lib.hid hsh

  obtain ⟨x, hx2⟩ : ∃ x, bs (numeral s a) = x := ⟨_, rfl⟩
  rw [hx2] at HCA HRA ⊢
  clear hx2 ha hsh 
  have h1 : decide ((e : Int) < 0) = false := by simp
  have h2 : decide ((1000 : Int) < (e : Int)) = false := by simp; omega
  go_enter Tryz.func32, Tryz.ntmps32
  go_wp2_with (first | (go_at_call 13; (with_reducible refine (HCA.out _).mono ?_); rintro e w2 ⟨rfl, rfl⟩) | (go_at_call 65; refine (HWN.out _).mono ?_; rintro e w2 ⟨rfl, rfl⟩) | (go_at_call 81; refine (HF.out _).mono ?_; rintro e w3 ⟨rfl, rfl⟩; have HB1 := Lib.hid ((Below.refl w.heap.size w).alloc (Nat.le_refl _) (.cells #[.int .i64 0, .int .i64 0] 3))) | (go_at_call 68; (with_reducible refine (HSM.out _).mono ?_); rintro e w4 ⟨v4, rfl, p2, c2, rfl, hm4, hb4⟩; have HM4 := Lib.hid hm4; have HB4 := Lib.hid (HB1.out.trans (hb4.mono HB1.out.size)); clear hm4 hb4) | (go_at_call 73; (with_reducible refine (HRA.out _).mono ?_); rintro e w5 ⟨v5, rfl, p3, c3, rfl, hm5, hb5⟩; have HM45 := Lib.hid (HM4.out.below hb5); have HB5 := Lib.hid (HB4.out.trans (hb5.mono HB4.out.size)); obtain ⟨D, hD⟩ : ∃ D, w5.heap.size = D := ⟨_, rfl⟩; obtain ⟨W6, hW6⟩ : ∃ W6, (w5.alloc (.cells #[.bool false, .slice none 0 0] 74)).alloc (.cells #[.bool false, .slice none 0 0] 74) = W6 := ⟨_, rfl⟩; have HG := Lib.hid (Bg2.start hD hW6); obtain ⟨W7, hW7⟩ : ∃ W7, (((W6.setCell ⟨D, 0, none⟩ (.bool false)).setCell ⟨D, 1, none⟩ (.slice p2 (ql 1) c2)).setCell ⟨D + 1, 0, none⟩ (.bool s)).setCell ⟨D + 1, 1, none⟩ (.slice p3 (ql a) c3) = W7 := ⟨_, rfl⟩; have HX := Lib.hid (pw_start HG.out hD HM45.out hm5 HB5.out hW7); clear hm5 hb5; have g0 := HG.out.b0.at 0; have g1 := HG.out.b0.at 1; have g2 := HG.out.b1.at 0; have g3 := HG.out.b1.at 1; have g4 := HG.out.b0.thawed 0; have g5 := HG.out.b0.thawed 1; have g6 := HG.out.b1.thawed 0; have g7 := HG.out.b1.thawed 1))
  clear g0 g1 g2 g3 g4 g5 g6 g7 h1 h2 hW6 hW7
  have HX2 := Lib.hid (show Pw w D (sgnP s 0) p2 (a ^ 0) c2 s p3 a c3 W7 by
    have h := HX.out
    rw [Nat.pow_zero]
    unfold sgnP
    simpa using h)
  go_loopw [9] (fun x wr => ∃ i : Nat, i ≤ e ∧ x = .int .i64 i ∧ Hid (∃ p c q d, Pw w D (sgnP s i) p (a ^ i) c s q a d wr)) (fun x _ => e - (intOf x).toNat)
  case atStart => exact ⟨0, by omega, rfl, _, _, _, _, HX2.out⟩
  case round =>
    clear HX HX2 HG HB5 HB4 HM4 HM45 HB1
    obtain ⟨i, hi, rfl, HW⟩ := hrel
    obtain ⟨p, c, q, d, HW⟩ := HW.out
    have HW := Lib.hid HW
    have c0 := HW.out.b0.at 0
    have c1 := HW.out.b0.at 1
    have c2 := HW.out.b1.at 0
    have c3 := HW.out.b1.at 1
    by_cases h : i < e
    · skip
      have hs0 := HSH.out i (by omega)
      have hq0 := pow_ql hs0
      have hqm := ql_mul (a ^ i) a
      have HT := Lib.hid (fun (v u : Value) W (h1 : Mag W v (a ^ i)) (h2 : Mag W u a) => rTimes_any (sgnP s i) s (a ^ i) a v u W h1 h2 (by omega) (by omega) _ rfl _ (sgnP_next HA.out.sign))
      rw [← Nat.pow_succ] at HT hqm
      have HR := Lib.hid (fun (v : Value) W (h1 : Mag W v (a ^ (i + 1))) => rResult_any (sgnP s (i + 1)) (a ^ (i + 1)) v W h1 (by have := pow_ql (HSH.out (i + 1) (by omega)); omega) (sgn_ne HA.out.sign) _ _ (resP_sh (HSH.out (i + 1) (by omega))))
      obtain ⟨str, hstr⟩ : ∃ x, bs (numeral (sgnP s (i + 1)) (a ^ (i + 1))) = x := ⟨_, rfl⟩
      rw [hstr] at HR
      clear hstr
      obtain ⟨m1, hm1⟩ : ∃ m1, a ^ (i + 1) = m1 := ⟨_, rfl⟩
      obtain ⟨s1, hs1⟩ : ∃ s1, sgnP s (i + 1) = s1 := ⟨_, rfl⟩
      obtain ⟨m0, hm0⟩ : ∃ m0, a ^ i = m0 := ⟨_, rfl⟩
      obtain ⟨s0', hs0'⟩ : ∃ s0, sgnP s i = s0 := ⟨_, rfl⟩
      have HM1 := Lib.hid hm1
      have HS1 := Lib.hid hs1
      rw [Nat.succ_eq_add_one, hm1, hs1, hm0, hs0'] at HT
      rw [hm0, hs0'] at HW
      rw [hm0] at c1
      rw [hs0'] at c0
      rw [hm1, hs1] at HR
      clear hqm hm1 hs1 hm0 hs0' hs0 hq0
      go_wp2_with (first | (go_at_call 85; (with_reducible refine (HT.out _ _ _ HW.out.mm HW.out.ma).mono ?_); rintro e w5 ⟨v5, rfl, p5, k5, rfl, hm5, hb5⟩; have H5 := Lib.hid (HW.out.below hb5); obtain ⟨W6, hW6⟩ : ∃ W6, (w5.setCell ⟨D, 0, none⟩ (.bool s1)).setCell ⟨D, 1, none⟩ (.slice p5 (ql m1) k5) = W6 := ⟨_, rfl⟩; have H6 := Lib.hid (H5.out.set hm5 hW6); clear hm5 hb5 c0 c1 c2 c3; have d0 := H5.out.b0.at 0; have d1 := H5.out.b0.at 1; have d2 := H5.out.b0.thawed 0; have d3 := H5.out.b0.thawed 1; have c0 := H6.out.b0.at 0; have c1 := H6.out.b0.at 1) | (go_at_call 77; (with_reducible refine (HR.out _ _ H6.out.mm).mono ?_); rintro e w8 ⟨rfl, hb8⟩; have H8 := Lib.hid (H6.out.below hb8); clear hb8))
      all_goals exact ⟨⟨i + 1, by omega, by simp, _, _, _, _, by rw [HM1.out, HS1.out]; exact H8.out⟩, by simp [intOf]; omega⟩
    · have h2 : i = e := by omega
      subst h2
      have HR := Lib.hid (fun (v : Value) W (h1 : Mag W v (a ^ i)) => rResult_any (sgnP s i) (a ^ i) v W h1 (by have := pow_ql (HSH.out i (by omega)); omega) (sgn_ne HA.out.sign) _ _ (resP_sh (HSH.out i (by omega))))
      go_wp2_with (first | (go_at_call 77; (with_reducible refine (HR.out _ _ HW.out.mm).mono ?_); rintro e w8 ⟨rfl, hb8⟩; have H8 := Lib.hid (HW.out.below hb8); clear hb8))
      all_goals go_ret2
      all_goals exact ⟨rfl, H8.out.bl⟩

set_option maxHeartbeats 8000000 in
theorem rPow_large (s : Bool) (a e : Nat) (ha : Num s a) (he : e ≤ 1000) (k : Nat) (hk1 : 1 ≤ k) (hk : k ≤ e) (hsh : ∀ i, i < k → Lib.nDigits (a ^ i) ≤ 120) (hlg : 120 < Lib.nDigits (a ^ k)) (w : World) :
    Calls Tryz.prog 32 #[.string (bs (numeral s a)), .int .i64 e] w fun x w' => x = .returned (.tuple #[.string ⟨#[]⟩, .int .i64 4]) ∧ Below w.heap.size w w' := by
  have HCA := Lib.hid (fun W => rCheck_any (bs (numeral s a)) (by rw [bs_size]; have := num_len ha; omega) W 0 (check_numeral ha))
  have HWN := Lib.hid (fun W => rWhen_any false 3 W 0 rfl)
  have HF := Lib.hid (fun W => rFirst_two 0 0 0 rfl W)
  have HSM := Lib.hid (fun W => rSmall_one W)
  have HRA := Lib.hid (fun W => rRead_num s a ha.sign (num_dig ha) W)
  have qa := num_ql ha
  have HA := Lib.hid ha
  have HSH := Lib.hid hsh
  have HLG := Lib.hid hlg
  obtain ⟨x, hx2⟩ : ∃ x, bs (numeral s a) = x := ⟨_, rfl⟩
  rw [hx2] at HCA HRA ⊢
  clear hx2 ha hsh hlg
  have h1 : decide ((e : Int) < 0) = false := by simp
  have h2 : decide ((1000 : Int) < (e : Int)) = false := by simp; omega
  go_enter Tryz.func32, Tryz.ntmps32
  go_wp2_with (first | (go_at_call 13; (with_reducible refine (HCA.out _).mono ?_); rintro e w2 ⟨rfl, rfl⟩) | (go_at_call 65; refine (HWN.out _).mono ?_; rintro e w2 ⟨rfl, rfl⟩) | (go_at_call 81; refine (HF.out _).mono ?_; rintro e w3 ⟨rfl, rfl⟩; have HB1 := Lib.hid ((Below.refl w.heap.size w).alloc (Nat.le_refl _) (.cells #[.int .i64 0, .int .i64 0] 3))) | (go_at_call 68; (with_reducible refine (HSM.out _).mono ?_); rintro e w4 ⟨v4, rfl, p2, c2, rfl, hm4, hb4⟩; have HM4 := Lib.hid hm4; have HB4 := Lib.hid (HB1.out.trans (hb4.mono HB1.out.size)); clear hm4 hb4) | (go_at_call 73; (with_reducible refine (HRA.out _).mono ?_); rintro e w5 ⟨v5, rfl, p3, c3, rfl, hm5, hb5⟩; have HM45 := Lib.hid (HM4.out.below hb5); have HB5 := Lib.hid (HB4.out.trans (hb5.mono HB4.out.size)); obtain ⟨D, hD⟩ : ∃ D, w5.heap.size = D := ⟨_, rfl⟩; obtain ⟨W6, hW6⟩ : ∃ W6, (w5.alloc (.cells #[.bool false, .slice none 0 0] 74)).alloc (.cells #[.bool false, .slice none 0 0] 74) = W6 := ⟨_, rfl⟩; have HG := Lib.hid (Bg2.start hD hW6); obtain ⟨W7, hW7⟩ : ∃ W7, (((W6.setCell ⟨D, 0, none⟩ (.bool false)).setCell ⟨D, 1, none⟩ (.slice p2 (ql 1) c2)).setCell ⟨D + 1, 0, none⟩ (.bool s)).setCell ⟨D + 1, 1, none⟩ (.slice p3 (ql a) c3) = W7 := ⟨_, rfl⟩; have HX := Lib.hid (pw_start HG.out hD HM45.out hm5 HB5.out hW7); clear hm5 hb5; have g0 := HG.out.b0.at 0; have g1 := HG.out.b0.at 1; have g2 := HG.out.b1.at 0; have g3 := HG.out.b1.at 1; have g4 := HG.out.b0.thawed 0; have g5 := HG.out.b0.thawed 1; have g6 := HG.out.b1.thawed 0; have g7 := HG.out.b1.thawed 1))
  clear g0 g1 g2 g3 g4 g5 g6 g7 h1 h2 hW6 hW7
  have HX2 := Lib.hid (show Pw w D (sgnP s 0) p2 (a ^ 0) c2 s p3 a c3 W7 by
    have h := HX.out
    rw [Nat.pow_zero]
    unfold sgnP
    simpa using h)
  go_loopw [9] (fun x wr => ∃ i : Nat, i < k ∧ x = .int .i64 i ∧ Hid (∃ p c q d, Pw w D (sgnP s i) p (a ^ i) c s q a d wr)) (fun x _ => e - (intOf x).toNat)
  case atStart => exact ⟨0, by omega, rfl, _, _, _, _, HX2.out⟩
  case round =>
    clear HX HX2 HG HB5 HB4 HM4 HM45 HB1
    obtain ⟨i, hi, rfl, HW⟩ := hrel
    obtain ⟨p, c, q, d, HW⟩ := HW.out
    have HW := Lib.hid HW
    have c0 := HW.out.b0.at 0
    have c1 := HW.out.b0.at 1
    have c2 := HW.out.b1.at 0
    have c3 := HW.out.b1.at 1
    by_cases h : i + 1 < k
    · skip
      have hs0 := HSH.out i (by omega)
      have hq0 := pow_ql hs0
      have hqm := ql_mul (a ^ i) a
      have HT := Lib.hid (fun (v u : Value) W (h1 : Mag W v (a ^ i)) (h2 : Mag W u a) => rTimes_any (sgnP s i) s (a ^ i) a v u W h1 h2 (by omega) (by omega) _ rfl _ (sgnP_next HA.out.sign))
      rw [← Nat.pow_succ] at HT hqm
      have HR := Lib.hid (fun (v : Value) W (h1 : Mag W v (a ^ (i + 1))) => rResult_any (sgnP s (i + 1)) (a ^ (i + 1)) v W h1 (by have := pow_ql (HSH.out (i + 1) (by omega)); omega) (sgn_ne HA.out.sign) _ _ (resP_sh (HSH.out (i + 1) (by omega))))
      obtain ⟨str, hstr⟩ : ∃ x, bs (numeral (sgnP s (i + 1)) (a ^ (i + 1))) = x := ⟨_, rfl⟩
      rw [hstr] at HR
      clear hstr
      obtain ⟨m1, hm1⟩ : ∃ m1, a ^ (i + 1) = m1 := ⟨_, rfl⟩
      obtain ⟨s1, hs1⟩ : ∃ s1, sgnP s (i + 1) = s1 := ⟨_, rfl⟩
      obtain ⟨m0, hm0⟩ : ∃ m0, a ^ i = m0 := ⟨_, rfl⟩
      obtain ⟨s0', hs0'⟩ : ∃ s0, sgnP s i = s0 := ⟨_, rfl⟩
      have HM1 := Lib.hid hm1
      have HS1 := Lib.hid hs1
      rw [Nat.succ_eq_add_one, hm1, hs1, hm0, hs0'] at HT
      rw [hm0, hs0'] at HW
      rw [hm0] at c1
      rw [hs0'] at c0
      rw [hm1, hs1] at HR
      clear hqm hm1 hs1 hm0 hs0' hs0 hq0
      go_wp2_with (first | (go_at_call 85; (with_reducible refine (HT.out _ _ _ HW.out.mm HW.out.ma).mono ?_); rintro e w5 ⟨v5, rfl, p5, k5, rfl, hm5, hb5⟩; have H5 := Lib.hid (HW.out.below hb5); obtain ⟨W6, hW6⟩ : ∃ W6, (w5.setCell ⟨D, 0, none⟩ (.bool s1)).setCell ⟨D, 1, none⟩ (.slice p5 (ql m1) k5) = W6 := ⟨_, rfl⟩; have H6 := Lib.hid (H5.out.set hm5 hW6); clear hm5 hb5 c0 c1 c2 c3; have d0 := H5.out.b0.at 0; have d1 := H5.out.b0.at 1; have d2 := H5.out.b0.thawed 0; have d3 := H5.out.b0.thawed 1; have c0 := H6.out.b0.at 0; have c1 := H6.out.b0.at 1) | (go_at_call 77; (with_reducible refine (HR.out _ _ H6.out.mm).mono ?_); rintro e w8 ⟨rfl, hb8⟩; have H8 := Lib.hid (H6.out.below hb8); clear hb8))
      all_goals exact ⟨⟨i + 1, by omega, by simp, _, _, _, _, by rw [HM1.out, HS1.out]; exact H8.out⟩, by simp [intOf]; omega⟩
    · skip
      have hs0 := HSH.out i (by omega)
      have hq0 := pow_ql hs0
      have hqm := ql_mul (a ^ i) a
      have HT := Lib.hid (fun (v u : Value) W (h1 : Mag W v (a ^ i)) (h2 : Mag W u a) => rTimes_any (sgnP s i) s (a ^ i) a v u W h1 h2 (by omega) (by omega) _ rfl _ (sgnP_next HA.out.sign))
      rw [← Nat.pow_succ] at HT hqm
      have hik : i + 1 = k := by omega
      have HR := Lib.hid (fun (v : Value) W (h1 : Mag W v (a ^ (i + 1))) => rResult_any (sgnP s (i + 1)) (a ^ (i + 1)) v W h1 (by rw [Nat.succ_eq_add_one] at hqm; omega) (sgn_ne HA.out.sign) _ _ (resP_lg (hik ▸ HLG.out)))
      obtain ⟨m1, hm1⟩ : ∃ m1, a ^ (i + 1) = m1 := ⟨_, rfl⟩
      obtain ⟨s1, hs1⟩ : ∃ s1, sgnP s (i + 1) = s1 := ⟨_, rfl⟩
      obtain ⟨m0, hm0⟩ : ∃ m0, a ^ i = m0 := ⟨_, rfl⟩
      obtain ⟨s0', hs0'⟩ : ∃ s0, sgnP s i = s0 := ⟨_, rfl⟩
      have HM1 := Lib.hid hm1
      have HS1 := Lib.hid hs1
      rw [Nat.succ_eq_add_one, hm1, hs1, hm0, hs0'] at HT
      rw [hm0, hs0'] at HW
      rw [hm0] at c1
      rw [hs0'] at c0
      rw [hm1, hs1] at HR
      clear hqm hm1 hs1 hm0 hs0' hs0 hq0
      go_wp2_with (first | (go_at_call 85; (with_reducible refine (HT.out _ _ _ HW.out.mm HW.out.ma).mono ?_); rintro e w5 ⟨v5, rfl, p5, k5, rfl, hm5, hb5⟩; have H5 := Lib.hid (HW.out.below hb5); obtain ⟨W6, hW6⟩ : ∃ W6, (w5.setCell ⟨D, 0, none⟩ (.bool s1)).setCell ⟨D, 1, none⟩ (.slice p5 (ql m1) k5) = W6 := ⟨_, rfl⟩; have H6 := Lib.hid (H5.out.set hm5 hW6); clear hm5 hb5 c0 c1 c2 c3; have d0 := H5.out.b0.at 0; have d1 := H5.out.b0.at 1; have d2 := H5.out.b0.thawed 0; have d3 := H5.out.b0.thawed 1; have c0 := H6.out.b0.at 0; have c1 := H6.out.b0.at 1) | (go_at_call 77; (with_reducible refine (HR.out _ _ H6.out.mm).mono ?_); rintro e w8 ⟨rfl, hb8⟩; have H8 := Lib.hid (H6.out.below hb8); clear hb8))
      all_goals go_ret2
      all_goals exact ⟨rfl, H8.out.bl⟩
end Go.Proofs.YtjemolaobhlapaaGreatDoor

namespace Go.Proofs.YtjemolaobhlapaaGreatDoor
open Go.RowKit
set_option maxRecDepth 100000

set_option maxHeartbeats 1000000 in
theorem rToInt_err (x : ByteArray) (sx : x.size < 1000) (r : Int) (ha : checkS x.data.toList = r) (h0 : r ≠ 0) (w : World) :
    Calls Tryz.prog 17 #[.string x] w fun e w' => e = .returned (.tuple #[.int .i64 0, .int .i64 r]) ∧ Below w.heap.size w w' := by
  have HCA := Lib.hid (fun W => rCheck_any x (by omega) W r ha)
  have hr0 : (r != 0) = true := by simpa using h0
  clear ha h0 sx
  go_enter Tryz.func17, Tryz.ntmps17
  go_wp2_with (go_at_call 13; (with_reducible refine (HCA.out _).mono ?_); rintro e w2 ⟨rfl, rfl⟩)
  go_ret2
  exact ⟨rfl, Below.refl _ _⟩
structure Tn (w0 : World) (D : Nat) (s : Bool) (p : Option Addr) (a c : Nat) (w : World) : Prop where
  b0 : BlockIs w D 74 #[.bool s, .slice p (ql a) c]
  ma : Mag w (.slice p (ql a) c) a
  bl : Below w0.heap.size w0 w
theorem Tn.below {w0 : World} {D a c : Nat} {s : Bool} {p : Option Addr} {w w' : World} (h : Tn w0 D s p a c w) (hb : Below w.heap.size w w') : Tn w0 D s p a c w' :=
  ⟨h.b0.below hb h.b0.lt, h.ma.below hb, h.bl.trans (hb.mono h.bl.size)⟩
theorem Tn.drew {w0 : World} {D a c : Nat} {s : Bool} {p : Option Addr} {w : World} (h : Tn w0 D s p a c w) : Tn w0 D s p a c w.drew := ⟨h.b0.drew, h.ma.drew, h.bl.drew⟩
theorem Tn.start {w w5 W6 W7 : World} {D a c : Nat} {s : Bool} {p : Option Addr} (hm : Mag w5 (.slice p (ql a) c) a) (hb : Below w.heap.size w w5) (hD : w5.heap.size = D) (hW6 : w5.alloc (.cells #[.bool false, .slice none 0 0] 74) = W6)
    (hW7 : (W6.setCell ⟨D, 0, none⟩ (.bool s)).setCell ⟨D, 1, none⟩ (.slice p (ql a) c) = W7) : BlockIs W6 D 74 #[.bool false, .slice none 0 0] ∧ Tn w D s p a c W7 := by
  have h0 : BlockIs W6 D 74 #[.bool false, .slice none 0 0] := by rw [← hW6, ← hD]; exact BlockIs.new _ _ _
  have h1 : Below w5.heap.size w5 W6 := by rw [← hW6]; exact (Below.refl _ _).alloc (Nat.le_refl _) _
  have hs := hb.size
  subst hW7
  exact ⟨h0, h0.two, (hm.below h1).two h0, (((hb.trans (h1.mono hs)).setCell (p := ⟨D, 0, none⟩) (by simp; omega) _).setCell (p := ⟨D, 1, none⟩) (by simp; omega) _)⟩
theorem max_read (w : World) : Calls Tryz.prog 73 #[.string ⟨#[57, 50, 50, 51, 51, 55, 50, 48, 51, 54, 56, 53, 52, 55, 55, 53, 56, 48, 55]⟩] w fun e w' => ∃ v', e = .returned v' ∧ BigR w false 9223372036854775807 v' w' := by
  have h := rRead_num false 9223372036854775807 (by simp) (by rw [← Lib.decDigits_length]; decide +kernel) w
  rwa [show bs (numeral false 9223372036854775807) = ⟨#[57, 50, 50, 51, 51, 55, 50, 48, 51, 54, 56, 53, 52, 55, 55, 53, 56, 48, 55]⟩ by decide +kernel] at h
theorem min_read (w : World) : Calls Tryz.prog 73 #[.string ⟨#[45, 57, 50, 50, 51, 51, 55, 50, 48, 51, 54, 56, 53, 52, 55, 55, 53, 56, 48, 56]⟩] w fun e w' => ∃ v', e = .returned v' ∧ BigR w true 9223372036854775808 v' w' := by
  have h := rRead_num true 9223372036854775808 (by simp) (by rw [← Lib.decDigits_length]; decide +kernel) w
  rwa [show bs (numeral true 9223372036854775808) = ⟨#[45, 57, 50, 50, 51, 51, 55, 50, 48, 51, 54, 56, 53, 52, 55, 55, 53, 56, 48, 56]⟩ by decide +kernel] at h
theorem int_qlB {m : Nat} (h : m ≤ 9223372036854775808) : ql m < 20000 := by
  have h := ql_le (n := m) (k := 5) (by have : qw 5 = 100000000000000000000 := rfl; omega)
  omega
theorem dq_add (a k : Nat) : a / qw k = a / qw (k + 1) * 10000 + dq a k := by
  unfold dq
  rw [qw_succ, ← Nat.div_div_eq_div_mul]
  omega

theorem ord_max {s : Bool} {a : Nat} (va vb : Value) (W : World) (h1 : Mag W va a) (h2 : Mag W vb 9223372036854775807) (ha : Num s a) (o : Int) (ho : cmpZ (if s then -(a : Int) else a) 9223372036854775807 = o) :
    Calls Tryz.prog 74 #[.agg #[.bool s, va], .agg #[.bool false, vb]] W fun e w' => e = .returned (.int .i64 o) ∧ Below W.heap.size W w' := by
  obtain ⟨x, hx⟩ : ∃ x : Int, (if s then -(a : Int) else a) = x := ⟨_, rfl⟩
  have hs : s = isNeg x := by
    rw [← hx]; unfold isNeg
    cases s
    · simp
    · have := ha.sign rfl; simp; omega
  have hn : a = x.natAbs := by rw [← hx]; cases s <;> simp
  rw [hx] at ho
  obtain ⟨r', e1, e2⟩ := sumB_int x (-9223372036854775807)
  have hq := num_ql ha
  have hq2 : ql 9223372036854775807 < 20000 := int_qlB (by omega)
  rw [hn] at h1 hq
  rw [hs]
  exact rOrder_any (isNeg x) false x.natAbs 9223372036854775807 va vb W h1 h2 (by omega) (by omega) true (by decide) r' _ e1 _ e2 o (by rw [← ho]; exact ordB_int x 9223372036854775807)
theorem ord_min {s : Bool} {a : Nat} (va vb : Value) (W : World) (h1 : Mag W va a) (h2 : Mag W vb 9223372036854775808) (ha : Num s a) (o : Int) (ho : cmpZ (if s then -(a : Int) else a) (-9223372036854775808) = o) :
    Calls Tryz.prog 74 #[.agg #[.bool s, va], .agg #[.bool true, vb]] W fun e w' => e = .returned (.int .i64 o) ∧ Below W.heap.size W w' := by
  obtain ⟨x, hx⟩ : ∃ x : Int, (if s then -(a : Int) else a) = x := ⟨_, rfl⟩
  have hs : s = isNeg x := by
    rw [← hx]; unfold isNeg
    cases s
    · simp
    · have := ha.sign rfl; simp; omega
  have hn : a = x.natAbs := by rw [← hx]; cases s <;> simp
  rw [hx] at ho
  obtain ⟨r', e1, e2⟩ := sumB_int x 9223372036854775808
  have hq := num_ql ha
  have hq2 : ql 9223372036854775808 < 20000 := int_qlB (by omega)
  rw [hn] at h1 hq
  rw [hs]
  exact rOrder_any (isNeg x) true x.natAbs 9223372036854775808 va vb W h1 h2 (by omega) (by omega) false (by decide) r' _ e1 _ e2 o (by rw [← ho]; exact ordB_int x (-9223372036854775808))

set_option maxHeartbeats 4000000 in
theorem rToInt_over (s : Bool) (a : Nat) (ha : Num s a) (hx : 9223372036854775807 < (if s then -(a : Int) else a)) (w : World) :
    Calls Tryz.prog 17 #[.string (bs (numeral s a))] w fun e w' => e = .returned (.tuple #[.int .i64 0, .int .i64 4]) ∧ Below w.heap.size w w' := by
  have HCA := Lib.hid (fun W => rCheck_any (bs (numeral s a)) (by rw [bs_size]; have := num_len ha; omega) W 0 (check_numeral ha))
  have HRA := Lib.hid (fun W => rRead_num s a ha.sign (num_dig ha) W)
  have qa := num_ql ha
  have HRX := Lib.hid (fun W => max_read W)
  have HRN := Lib.hid (fun W => min_read W)
  obtain ⟨o1, ho1⟩ : ∃ o, cmpZ (if s then -(a : Int) else a) 9223372036854775807 = o := ⟨_, rfl⟩
  have HO1 := Lib.hid (fun (va vb : Value) W (h1 : Mag W va a) (h2 : Mag W vb 9223372036854775807) => ord_max va vb W h1 h2 ha o1 ho1)
  have e1 : o1 = 1 := by rw [← ho1]; unfold cmpZ; rw [if_neg (by omega), if_neg (by omega)]
  subst e1
  clear ha ho1 hx
  obtain ⟨x, hx2⟩ : ∃ x, bs (numeral s a) = x := ⟨_, rfl⟩
  rw [hx2] at HCA HRA ⊢
  clear hx2 qa
  go_enter Tryz.func17, Tryz.ntmps17
  go_wp2_with (first | (go_at_call 13; (with_reducible refine (HCA.out _).mono ?_); rintro e w2 ⟨rfl, rfl⟩) | (go_at_call 73; (with_reducible refine (HRA.out _).mono ?_); rintro e w5 ⟨v5, rfl, p, c, rfl, hm5, hb5⟩; obtain ⟨D, hD⟩ : ∃ D, w5.heap.size = D := ⟨_, rfl⟩; obtain ⟨W6, hW6⟩ : ∃ W6, w5.alloc (.cells #[.bool false, .slice none 0 0] 74) = W6 := ⟨_, rfl⟩; obtain ⟨W7, hW7⟩ : ∃ W7, (W6.setCell ⟨D, 0, none⟩ (.bool s)).setCell ⟨D, 1, none⟩ (.slice p (ql a) c) = W7 := ⟨_, rfl⟩; have HX := Lib.hid (Tn.start hm5 hb5 hD hW6 hW7); clear hm5 hb5; have g0 := HX.out.1.at 0; have g1 := HX.out.1.at 1; have g2 := HX.out.1.thawed 0; have g3 := HX.out.1.thawed 1))
  clear g0 g1 g2 g3 hW6 hW7
  have hS0 := HX.out.2.drew
  refine wp_region_held_drew (S := fun w' => Tn w D s p a c w') (by kernel_rfl) hS0 (fun hS => ?_)
  refine wpAnyH_take (i := 0) rfl (by kernel_rfl) (by kernel_rfl) (by kernel_rfl) (fun _ _ _ h => h) (yB_load rfl (.tmp 5) rfl D rfl (fun w' h => h.b0)) hS ?_
  try simp only [A1, A2, A3, Act.put, A4, A5, A6]
  refine wpAnyH_ready (rs := [1]) (by kernel_rfl) (by simp) (AllReadyH.cons rfl (fun K hK => ?_) AllReadyH.nil)
  go_simp
  go_at_call 73
  refine (HRX.out _).mono ?_
  rintro e w5 ⟨v5, rfl, p5, k5, rfl, hm5, hb5⟩
  have hS5 := hS.below hb5
  clear hS
  refine hK.out _ _ hS5 (fun hS => ?_)
  clear hK K
  try simp only [A1, A2, A3, Act.put, A4, A5, A6]
  refine wpAnyH_ready (rs := [2]) (by kernel_rfl) (by simp) (AllReadyH.cons rfl (fun K hK => ?_) AllReadyH.nil)
  go_simp
  go_at_call 74
  refine (HO1.out _ _ _ hS5.ma hm5).mono ?_
  rintro e w6 ⟨rfl, hb6⟩
  have hS6 := hS5.below hb6
  clear hS
  refine hK.out _ _ hS6 (fun hS => ?_)
  clear hK K
  try simp only [A1, A2, A3, Act.put, A4, A5, A6]
  refine wpAnyH_take (i := 3) (v := .bool true) rfl (by kernel_rfl) (by kernel_rfl) (by kernel_rfl) (fun _ _ _ h => h) (Or.inl ⟨by rfl, fun w' _ => by rfl⟩) hS ?_
  try simp only [A1, A2, A3, Act.put, A4, A5, A6]
  refine wpAnyH_take (i := 4) (v := .bool true) rfl (by kernel_rfl) (by kernel_rfl) (by kernel_rfl) (fun _ _ _ h => h) (Or.inl ⟨by rfl, fun w' _ => by rfl⟩) hS ?_
  try simp only [A1, A2, A3, Act.put, A4, A5, A6]
  refine wpAnyH_take (i := 5) rfl (by kernel_rfl) (by kernel_rfl) (by kernel_rfl) (fun _ _ _ h => h) (Or.inr ⟨by rfl, rfl⟩) hS ?_
  try simp only [A1, A2, A3, Act.put, A4, A5, A6]
  refine wpAnyH_take (i := 6) rfl (by kernel_rfl) (by kernel_rfl) (by kernel_rfl) (fun _ _ _ h => h) (Or.inr ⟨by rfl, rfl⟩) hS ?_
  try simp only [A1, A2, A3, Act.put, A4, A5, A6]
  refine wpAnyH_take (i := 7) rfl (by kernel_rfl) (by kernel_rfl) (by kernel_rfl) (fun _ _ _ h => h) (Or.inr ⟨by rfl, rfl⟩) hS ?_
  try simp only [A1, A2, A3, Act.put, A4, A5, A6]
  refine wpAnyH_take (i := 8) rfl (by kernel_rfl) (by kernel_rfl) (by kernel_rfl) (fun _ _ _ h => h) (Or.inr ⟨by rfl, rfl⟩) hS ?_
  try simp only [A1, A2, A3, Act.put, A4, A5, A6]
  refine wpAnyH_take (i := 9) (v := .bool true) rfl (by kernel_rfl) (by kernel_rfl) (by kernel_rfl) (fun _ _ _ h => h) (Or.inl ⟨by rfl, fun w' _ => by rfl⟩) hS ?_
  try simp only [A1, A2, A3, Act.put, A4, A5, A6]
  refine wpAnyH_done (by kernel_rfl) ?_ _
  have HZ := Lib.hid hS6
  clear hS0 hS5 hS6 hm5 hb5 hb6
  go_wp2
  go_ret2
  exact ⟨rfl, HZ.out.bl⟩

set_option maxHeartbeats 4000000 in
theorem rToInt_under (s : Bool) (a : Nat) (ha : Num s a) (hx : (if s then -(a : Int) else a) < -9223372036854775808) (w : World) :
    Calls Tryz.prog 17 #[.string (bs (numeral s a))] w fun e w' => e = .returned (.tuple #[.int .i64 0, .int .i64 4]) ∧ Below w.heap.size w w' := by
  have HCA := Lib.hid (fun W => rCheck_any (bs (numeral s a)) (by rw [bs_size]; have := num_len ha; omega) W 0 (check_numeral ha))
  have HRA := Lib.hid (fun W => rRead_num s a ha.sign (num_dig ha) W)
  have qa := num_ql ha
  have HRX := Lib.hid (fun W => max_read W)
  have HRN := Lib.hid (fun W => min_read W)
  obtain ⟨o1, ho1⟩ : ∃ o, cmpZ (if s then -(a : Int) else a) 9223372036854775807 = o := ⟨_, rfl⟩
  obtain ⟨o2, ho2⟩ : ∃ o, cmpZ (if s then -(a : Int) else a) (-9223372036854775808) = o := ⟨_, rfl⟩
  have HO1 := Lib.hid (fun (va vb : Value) W (h1 : Mag W va a) (h2 : Mag W vb 9223372036854775807) => ord_max va vb W h1 h2 ha o1 ho1)
  have HO2 := Lib.hid (fun (va vb : Value) W (h1 : Mag W va a) (h2 : Mag W vb 9223372036854775808) => ord_min va vb W h1 h2 ha o2 ho2)
  have e1 : o1 = -1 := by rw [← ho1]; unfold cmpZ; rw [if_neg (by omega), if_pos (by omega)]
  have e2 : o2 = -1 := by rw [← ho2]; unfold cmpZ; rw [if_neg (by omega), if_pos (by omega)]
  subst e1
  subst e2
  clear ha ho1 ho2 hx
  obtain ⟨x, hx2⟩ : ∃ x, bs (numeral s a) = x := ⟨_, rfl⟩
  rw [hx2] at HCA HRA ⊢
  clear hx2 qa
  go_enter Tryz.func17, Tryz.ntmps17
  go_wp2_with (first | (go_at_call 13; (with_reducible refine (HCA.out _).mono ?_); rintro e w2 ⟨rfl, rfl⟩) | (go_at_call 73; (with_reducible refine (HRA.out _).mono ?_); rintro e w5 ⟨v5, rfl, p, c, rfl, hm5, hb5⟩; obtain ⟨D, hD⟩ : ∃ D, w5.heap.size = D := ⟨_, rfl⟩; obtain ⟨W6, hW6⟩ : ∃ W6, w5.alloc (.cells #[.bool false, .slice none 0 0] 74) = W6 := ⟨_, rfl⟩; obtain ⟨W7, hW7⟩ : ∃ W7, (W6.setCell ⟨D, 0, none⟩ (.bool s)).setCell ⟨D, 1, none⟩ (.slice p (ql a) c) = W7 := ⟨_, rfl⟩; have HX := Lib.hid (Tn.start hm5 hb5 hD hW6 hW7); clear hm5 hb5; have g0 := HX.out.1.at 0; have g1 := HX.out.1.at 1; have g2 := HX.out.1.thawed 0; have g3 := HX.out.1.thawed 1))
  clear g0 g1 g2 g3 hW6 hW7
  have hS0 := HX.out.2.drew
  refine wp_region_held_drew (S := fun w' => Tn w D s p a c w') (by kernel_rfl) hS0 (fun hS => ?_)
  refine wpAnyH_take (i := 0) rfl (by kernel_rfl) (by kernel_rfl) (by kernel_rfl) (fun _ _ _ h => h) (yB_load rfl (.tmp 5) rfl D rfl (fun w' h => h.b0)) hS ?_
  try simp only [A1, A2, A3, Act.put, A4, A5, A6]
  refine wpAnyH_ready (rs := [1]) (by kernel_rfl) (by simp) (AllReadyH.cons rfl (fun K hK => ?_) AllReadyH.nil)
  go_simp
  go_at_call 73
  refine (HRX.out _).mono ?_
  rintro e w5 ⟨v5, rfl, p5, k5, rfl, hm5, hb5⟩
  have hS5 := hS.below hb5
  clear hS
  refine hK.out _ _ hS5 (fun hS => ?_)
  clear hK K
  try simp only [A1, A2, A3, Act.put, A4, A5, A6]
  refine wpAnyH_ready (rs := [2]) (by kernel_rfl) (by simp) (AllReadyH.cons rfl (fun K hK => ?_) AllReadyH.nil)
  go_simp
  go_at_call 74
  refine (HO1.out _ _ _ hS5.ma hm5).mono ?_
  rintro e w6 ⟨rfl, hb6⟩
  have hS6 := hS5.below hb6
  clear hS
  refine hK.out _ _ hS6 (fun hS => ?_)
  clear hK K
  try simp only [A1, A2, A3, Act.put, A4, A5, A6]
  refine wpAnyH_take (i := 3) (v := .bool false) rfl (by kernel_rfl) (by kernel_rfl) (by kernel_rfl) (fun _ _ _ h => h) (Or.inl ⟨by rfl, fun w' _ => by rfl⟩) hS ?_
  try simp only [A1, A2, A3, Act.put, A4, A5, A6]
  refine wpAnyH_take (i := 4) (v := .bool false) rfl (by kernel_rfl) (by kernel_rfl) (by kernel_rfl) (fun _ _ _ h => h) (Or.inl ⟨by rfl, fun w' _ => by rfl⟩) hS ?_
  try simp only [A1, A2, A3, Act.put, A4, A5, A6]
  refine wpAnyH_take (i := 5) rfl (by kernel_rfl) (by kernel_rfl) (by kernel_rfl) (fun _ _ _ h => h) (yB_load rfl (.tmp 5) rfl D rfl (fun w' h => h.b0)) hS ?_
  try simp only [A1, A2, A3, Act.put, A4, A5, A6]
  refine wpAnyH_ready (rs := [6]) (by kernel_rfl) (by simp) (AllReadyH.cons rfl (fun K hK => ?_) AllReadyH.nil)
  go_simp
  go_at_call 73
  refine (HRN.out _).mono ?_
  rintro e w7 ⟨v7, rfl, p7, k7, rfl, hm7, hb7⟩
  have hS7 := hS6.below hb7
  clear hS
  refine hK.out _ _ hS7 (fun hS => ?_)
  clear hK K
  try simp only [A1, A2, A3, Act.put, A4, A5, A6]
  refine wpAnyH_ready (rs := [7]) (by kernel_rfl) (by simp) (AllReadyH.cons rfl (fun K hK => ?_) AllReadyH.nil)
  go_simp
  go_at_call 74
  refine (HO2.out _ _ _ hS7.ma hm7).mono ?_
  rintro e w8 ⟨rfl, hb8⟩
  have hS8 := hS7.below hb8
  clear hS
  refine hK.out _ _ hS8 (fun hS => ?_)
  clear hK K
  try simp only [A1, A2, A3, Act.put, A4, A5, A6]
  refine wpAnyH_take (i := 8) (v := .bool true) rfl (by kernel_rfl) (by kernel_rfl) (by kernel_rfl) (fun _ _ _ h => h) (Or.inl ⟨by rfl, fun w' _ => by rfl⟩) hS ?_
  try simp only [A1, A2, A3, Act.put, A4, A5, A6]
  refine wpAnyH_take (i := 9) (v := .bool true) rfl (by kernel_rfl) (by kernel_rfl) (by kernel_rfl) (fun _ _ _ h => h) (Or.inl ⟨by rfl, fun w' _ => by rfl⟩) hS ?_
  try simp only [A1, A2, A3, Act.put, A4, A5, A6]
  refine wpAnyH_done (by kernel_rfl) ?_ _
  have HZ := Lib.hid hS8
  clear hS0 hS5 hS6 hS7 hS8 hm5 hb5 hb6 hm7 hb7 hb8
  go_wp2
  go_ret2
  exact ⟨rfl, HZ.out.bl⟩

set_option maxHeartbeats 4000000 in
theorem rToInt_pos (a : Nat) (ha : Num false a) (hx : a ≤ 9223372036854775807) (w : World) :
    Calls Tryz.prog 17 #[.string (bs (numeral false a))] w fun e w' => e = .returned (.tuple #[.int .i64 ((a : Int)), .int .i64 0]) ∧ Below w.heap.size w w' := by
  have HCA := Lib.hid (fun W => rCheck_any (bs (numeral false a)) (by rw [bs_size]; have := num_len ha; omega) W 0 (check_numeral ha))
  have HRA := Lib.hid (fun W => rRead_num false a ha.sign (num_dig ha) W)
  have qa := num_ql ha
  have HRX := Lib.hid (fun W => max_read W)
  have HRN := Lib.hid (fun W => min_read W)
  obtain ⟨o1, ho1⟩ : ∃ o, cmpZ ((a : Int)) 9223372036854775807 = o := ⟨_, rfl⟩
  obtain ⟨o2, ho2⟩ : ∃ o, cmpZ ((a : Int)) (-9223372036854775808) = o := ⟨_, rfl⟩
  have HO1 := Lib.hid (fun (va vb : Value) W (h1 : Mag W va a) (h2 : Mag W vb 9223372036854775807) => ord_max va vb W h1 h2 ha o1 (by simpa using ho1))
  have HO2 := Lib.hid (fun (va vb : Value) W (h1 : Mag W va a) (h2 : Mag W vb 9223372036854775808) => ord_min va vb W h1 h2 ha o2 (by simpa using ho2))
  have hcm : (o1 = 0 ∧ o2 = 1) ∨ (o1 = -1 ∧ o2 = 1) := by
    unfold cmpZ at ho1 ho2
    split at ho1 <;> split at ho2 <;> (try split at ho1) <;> (try split at ho2) <;> omega
  have HA := Lib.hid hx
  have HQ := Lib.hid qa
  clear ha ho1 ho2 hx
  obtain ⟨x, hx2⟩ : ∃ x, bs (numeral false a) = x := ⟨_, rfl⟩
  rw [hx2] at HCA HRA ⊢
  clear hx2 qa
  rcases hcm with ⟨rfl, rfl⟩ | ⟨rfl, rfl⟩
  all_goals
    go_enter Tryz.func17, Tryz.ntmps17
    go_wp2_with (first | (go_at_call 13; (with_reducible refine (HCA.out _).mono ?_); rintro e w2 ⟨rfl, rfl⟩) | (go_at_call 73; (with_reducible refine (HRA.out _).mono ?_); rintro e w5 ⟨v5, rfl, p, c, rfl, hm5, hb5⟩; obtain ⟨D, hD⟩ : ∃ D, w5.heap.size = D := ⟨_, rfl⟩; obtain ⟨W6, hW6⟩ : ∃ W6, w5.alloc (.cells #[.bool false, .slice none 0 0] 74) = W6 := ⟨_, rfl⟩; obtain ⟨W7, hW7⟩ : ∃ W7, (W6.setCell ⟨D, 0, none⟩ (.bool false)).setCell ⟨D, 1, none⟩ (.slice p (ql a) c) = W7 := ⟨_, rfl⟩; have HX := Lib.hid (Tn.start hm5 hb5 hD hW6 hW7); clear hm5 hb5; have g0 := HX.out.1.at 0; have g1 := HX.out.1.at 1; have g2 := HX.out.1.thawed 0; have g3 := HX.out.1.thawed 1))
    clear g0 g1 g2 g3 hW6 hW7
    have hS0 := HX.out.2.drew
    refine wp_region_held_drew (S := fun w' => Tn w D false p a c w') (by kernel_rfl) hS0 (fun hS => ?_)
    refine wpAnyH_take (i := 0) rfl (by kernel_rfl) (by kernel_rfl) (by kernel_rfl) (fun _ _ _ h => h) (yB_load rfl (.tmp 5) rfl D rfl (fun w' h => h.b0)) hS ?_
    try simp only [A1, A2, A3, Act.put, A4, A5, A6]
    refine wpAnyH_ready (rs := [1]) (by kernel_rfl) (by simp) (AllReadyH.cons rfl (fun K hK => ?_) AllReadyH.nil)
    go_simp
    go_at_call 73
    refine (HRX.out _).mono ?_
    rintro e w5 ⟨v5, rfl, p5, k5, rfl, hm5, hb5⟩
    have hS5 := hS.below hb5
    clear hS
    refine hK.out _ _ hS5 (fun hS => ?_)
    clear hK K
    try simp only [A1, A2, A3, Act.put, A4, A5, A6]
    refine wpAnyH_ready (rs := [2]) (by kernel_rfl) (by simp) (AllReadyH.cons rfl (fun K hK => ?_) AllReadyH.nil)
    go_simp
    go_at_call 74
    refine (HO1.out _ _ _ hS5.ma hm5).mono ?_
    rintro e w6 ⟨rfl, hb6⟩
    have hS6 := hS5.below hb6
    clear hS
    refine hK.out _ _ hS6 (fun hS => ?_)
    clear hK K
    try simp only [A1, A2, A3, Act.put, A4, A5, A6]
    refine wpAnyH_take (i := 3) (v := .bool false) rfl (by kernel_rfl) (by kernel_rfl) (by kernel_rfl) (fun _ _ _ h => h) (Or.inl ⟨by rfl, fun w' _ => by rfl⟩) hS ?_
    try simp only [A1, A2, A3, Act.put, A4, A5, A6]
    refine wpAnyH_take (i := 4) (v := .bool false) rfl (by kernel_rfl) (by kernel_rfl) (by kernel_rfl) (fun _ _ _ h => h) (Or.inl ⟨by rfl, fun w' _ => by rfl⟩) hS ?_
    try simp only [A1, A2, A3, Act.put, A4, A5, A6]
    refine wpAnyH_take (i := 5) rfl (by kernel_rfl) (by kernel_rfl) (by kernel_rfl) (fun _ _ _ h => h) (yB_load rfl (.tmp 5) rfl D rfl (fun w' h => h.b0)) hS ?_
    try simp only [A1, A2, A3, Act.put, A4, A5, A6]
    refine wpAnyH_ready (rs := [6]) (by kernel_rfl) (by simp) (AllReadyH.cons rfl (fun K hK => ?_) AllReadyH.nil)
    go_simp
    go_at_call 73
    refine (HRN.out _).mono ?_
    rintro e w7 ⟨v7, rfl, p7, k7, rfl, hm7, hb7⟩
    have hS7 := hS6.below hb7
    clear hS
    refine hK.out _ _ hS7 (fun hS => ?_)
    clear hK K
    try simp only [A1, A2, A3, Act.put, A4, A5, A6]
    refine wpAnyH_ready (rs := [7]) (by kernel_rfl) (by simp) (AllReadyH.cons rfl (fun K hK => ?_) AllReadyH.nil)
    go_simp
    go_at_call 74
    refine (HO2.out _ _ _ hS7.ma hm7).mono ?_
    rintro e w8 ⟨rfl, hb8⟩
    have hS8 := hS7.below hb8
    clear hS
    refine hK.out _ _ hS8 (fun hS => ?_)
    clear hK K
    try simp only [A1, A2, A3, Act.put, A4, A5, A6]
    refine wpAnyH_take (i := 8) (v := .bool false) rfl (by kernel_rfl) (by kernel_rfl) (by kernel_rfl) (fun _ _ _ h => h) (Or.inl ⟨by rfl, fun w' _ => by rfl⟩) hS ?_
    try simp only [A1, A2, A3, Act.put, A4, A5, A6]
    refine wpAnyH_take (i := 9) (v := .bool false) rfl (by kernel_rfl) (by kernel_rfl) (by kernel_rfl) (fun _ _ _ h => h) (Or.inl ⟨by rfl, fun w' _ => by rfl⟩) hS ?_
    try simp only [A1, A2, A3, Act.put, A4, A5, A6]
    refine wpAnyH_done (by kernel_rfl) ?_ _
    have HZ := Lib.hid hS8
    clear hS0 hS5 hS6 hS7 hS8 hm5 hb5 hb6 hm7 hb7 hb8
    have c0 := HZ.out.b0.at 0
    have c1 := HZ.out.b0.at 1
    have hq0 := HQ.out
    go_wp2
    clear c0 c1 hq0
    go_loopw [6, 7] (fun x y wr => ∃ k : Nat, k ≤ ql a ∧ y = .int .i64 ((k : Int) - 1) ∧ x = .int .i64 (((a / qw k : Nat) : Int)) ∧ Hid (Tn w D false p a c wr)) (fun _ y _ => (intOf y + 1).toNat)
    case atStart => exact ⟨ql a, Nat.le_refl _, rfl, by rw [qtop (Nat.le_refl _)]; rfl, HZ⟩
    case round =>
      clear HZ HX
      obtain ⟨k, hk, rfl, rfl, HW⟩ := hrel
      by_cases hz : k = 0
      · subst hz
        rw [qdiv_first]
        go_wp2
        go_ret2
        exact ⟨rfl, HW.out.bl⟩
      · obtain ⟨j, rfl⟩ : ∃ j, k = j + 1 := ⟨k - 1, by omega⟩
        rcases Row.cases HW.out.ma with ⟨_, h1⟩ | ⟨g, cap, hv, _, hg, _, _, hc⟩
        · omega
        injection hv with e1 e2 e3
        subst e1
        subst e3
        have ca := hc j (by omega)
        have c0 := HW.out.b0.at 0
        have c1 := HW.out.b0.at 1
        have HE := Lib.hid (dq_add a j)
        have hle : a / qw j ≤ a := Nat.div_le_self _ _
        have hlim := HA.out
        rw [HE.out] at hle
        have hq1 := HQ.out
        rw [show (((j + 1 : Nat) : Int) - 1) = (j : Int) by omega]
        obtain ⟨m, hm⟩ : ∃ m, a / qw (j + 1) = m := ⟨_, rfl⟩
        obtain ⟨d, hd⟩ : ∃ d, dq a j = d := ⟨_, rfl⟩
        obtain ⟨u, hu⟩ : ∃ u, ql a = u := ⟨_, rfl⟩
        rw [hm, hd] at hle HE
        rw [hm]
        rw [hd] at ca
        rw [hu] at c1 hk hq1
        have HU := Lib.hid hu
        clear hm hd hu hc hz
        go_wp2
        go_roundw
        case rel => exact ⟨j, by rw [HU.out]; omega, rfl, congrArg _ (by rw [HE.out]; omega), HW⟩
        case measure => simp [intOf]

set_option maxHeartbeats 4000000 in
theorem rToInt_neg (a : Nat) (ha : Num true a) (hx : a ≤ 9223372036854775808) (w : World) :
    Calls Tryz.prog 17 #[.string (bs (numeral true a))] w fun e w' => e = .returned (.tuple #[.int .i64 (-(a : Int)), .int .i64 0]) ∧ Below w.heap.size w w' := by
  have HCA := Lib.hid (fun W => rCheck_any (bs (numeral true a)) (by rw [bs_size]; have := num_len ha; omega) W 0 (check_numeral ha))
  have HRA := Lib.hid (fun W => rRead_num true a ha.sign (num_dig ha) W)
  have qa := num_ql ha
  have HRX := Lib.hid (fun W => max_read W)
  have HRN := Lib.hid (fun W => min_read W)
  obtain ⟨o1, ho1⟩ : ∃ o, cmpZ (-(a : Int)) 9223372036854775807 = o := ⟨_, rfl⟩
  obtain ⟨o2, ho2⟩ : ∃ o, cmpZ (-(a : Int)) (-9223372036854775808) = o := ⟨_, rfl⟩
  have HO1 := Lib.hid (fun (va vb : Value) W (h1 : Mag W va a) (h2 : Mag W vb 9223372036854775807) => ord_max va vb W h1 h2 ha o1 (by simpa using ho1))
  have HO2 := Lib.hid (fun (va vb : Value) W (h1 : Mag W va a) (h2 : Mag W vb 9223372036854775808) => ord_min va vb W h1 h2 ha o2 (by simpa using ho2))
  have hcm : (o1 = -1 ∧ o2 = 0) ∨ (o1 = -1 ∧ o2 = 1) := by
    unfold cmpZ at ho1 ho2
    split at ho1 <;> split at ho2 <;> (try split at ho1) <;> (try split at ho2) <;> omega
  have HA := Lib.hid hx
  have HQ := Lib.hid qa
  clear ha ho1 ho2 hx
  obtain ⟨x, hx2⟩ : ∃ x, bs (numeral true a) = x := ⟨_, rfl⟩
  rw [hx2] at HCA HRA ⊢
  clear hx2 qa
  rcases hcm with ⟨rfl, rfl⟩ | ⟨rfl, rfl⟩
  all_goals
    go_enter Tryz.func17, Tryz.ntmps17
    go_wp2_with (first | (go_at_call 13; (with_reducible refine (HCA.out _).mono ?_); rintro e w2 ⟨rfl, rfl⟩) | (go_at_call 73; (with_reducible refine (HRA.out _).mono ?_); rintro e w5 ⟨v5, rfl, p, c, rfl, hm5, hb5⟩; obtain ⟨D, hD⟩ : ∃ D, w5.heap.size = D := ⟨_, rfl⟩; obtain ⟨W6, hW6⟩ : ∃ W6, w5.alloc (.cells #[.bool false, .slice none 0 0] 74) = W6 := ⟨_, rfl⟩; obtain ⟨W7, hW7⟩ : ∃ W7, (W6.setCell ⟨D, 0, none⟩ (.bool true)).setCell ⟨D, 1, none⟩ (.slice p (ql a) c) = W7 := ⟨_, rfl⟩; have HX := Lib.hid (Tn.start hm5 hb5 hD hW6 hW7); clear hm5 hb5; have g0 := HX.out.1.at 0; have g1 := HX.out.1.at 1; have g2 := HX.out.1.thawed 0; have g3 := HX.out.1.thawed 1))
    clear g0 g1 g2 g3 hW6 hW7
    have hS0 := HX.out.2.drew
    refine wp_region_held_drew (S := fun w' => Tn w D true p a c w') (by kernel_rfl) hS0 (fun hS => ?_)
    refine wpAnyH_take (i := 0) rfl (by kernel_rfl) (by kernel_rfl) (by kernel_rfl) (fun _ _ _ h => h) (yB_load rfl (.tmp 5) rfl D rfl (fun w' h => h.b0)) hS ?_
    try simp only [A1, A2, A3, Act.put, A4, A5, A6]
    refine wpAnyH_ready (rs := [1]) (by kernel_rfl) (by simp) (AllReadyH.cons rfl (fun K hK => ?_) AllReadyH.nil)
    go_simp
    go_at_call 73
    refine (HRX.out _).mono ?_
    rintro e w5 ⟨v5, rfl, p5, k5, rfl, hm5, hb5⟩
    have hS5 := hS.below hb5
    clear hS
    refine hK.out _ _ hS5 (fun hS => ?_)
    clear hK K
    try simp only [A1, A2, A3, Act.put, A4, A5, A6]
    refine wpAnyH_ready (rs := [2]) (by kernel_rfl) (by simp) (AllReadyH.cons rfl (fun K hK => ?_) AllReadyH.nil)
    go_simp
    go_at_call 74
    refine (HO1.out _ _ _ hS5.ma hm5).mono ?_
    rintro e w6 ⟨rfl, hb6⟩
    have hS6 := hS5.below hb6
    clear hS
    refine hK.out _ _ hS6 (fun hS => ?_)
    clear hK K
    try simp only [A1, A2, A3, Act.put, A4, A5, A6]
    refine wpAnyH_take (i := 3) (v := .bool false) rfl (by kernel_rfl) (by kernel_rfl) (by kernel_rfl) (fun _ _ _ h => h) (Or.inl ⟨by rfl, fun w' _ => by rfl⟩) hS ?_
    try simp only [A1, A2, A3, Act.put, A4, A5, A6]
    refine wpAnyH_take (i := 4) (v := .bool false) rfl (by kernel_rfl) (by kernel_rfl) (by kernel_rfl) (fun _ _ _ h => h) (Or.inl ⟨by rfl, fun w' _ => by rfl⟩) hS ?_
    try simp only [A1, A2, A3, Act.put, A4, A5, A6]
    refine wpAnyH_take (i := 5) rfl (by kernel_rfl) (by kernel_rfl) (by kernel_rfl) (fun _ _ _ h => h) (yB_load rfl (.tmp 5) rfl D rfl (fun w' h => h.b0)) hS ?_
    try simp only [A1, A2, A3, Act.put, A4, A5, A6]
    refine wpAnyH_ready (rs := [6]) (by kernel_rfl) (by simp) (AllReadyH.cons rfl (fun K hK => ?_) AllReadyH.nil)
    go_simp
    go_at_call 73
    refine (HRN.out _).mono ?_
    rintro e w7 ⟨v7, rfl, p7, k7, rfl, hm7, hb7⟩
    have hS7 := hS6.below hb7
    clear hS
    refine hK.out _ _ hS7 (fun hS => ?_)
    clear hK K
    try simp only [A1, A2, A3, Act.put, A4, A5, A6]
    refine wpAnyH_ready (rs := [7]) (by kernel_rfl) (by simp) (AllReadyH.cons rfl (fun K hK => ?_) AllReadyH.nil)
    go_simp
    go_at_call 74
    refine (HO2.out _ _ _ hS7.ma hm7).mono ?_
    rintro e w8 ⟨rfl, hb8⟩
    have hS8 := hS7.below hb8
    clear hS
    refine hK.out _ _ hS8 (fun hS => ?_)
    clear hK K
    try simp only [A1, A2, A3, Act.put, A4, A5, A6]
    refine wpAnyH_take (i := 8) (v := .bool false) rfl (by kernel_rfl) (by kernel_rfl) (by kernel_rfl) (fun _ _ _ h => h) (Or.inl ⟨by rfl, fun w' _ => by rfl⟩) hS ?_
    try simp only [A1, A2, A3, Act.put, A4, A5, A6]
    refine wpAnyH_take (i := 9) (v := .bool false) rfl (by kernel_rfl) (by kernel_rfl) (by kernel_rfl) (fun _ _ _ h => h) (Or.inl ⟨by rfl, fun w' _ => by rfl⟩) hS ?_
    try simp only [A1, A2, A3, Act.put, A4, A5, A6]
    refine wpAnyH_done (by kernel_rfl) ?_ _
    have HZ := Lib.hid hS8
    clear hS0 hS5 hS6 hS7 hS8 hm5 hb5 hb6 hm7 hb7 hb8
    have c0 := HZ.out.b0.at 0
    have c1 := HZ.out.b0.at 1
    have hq0 := HQ.out
    go_wp2
    clear c0 c1 hq0
    go_loopw [6, 7] (fun x y wr => ∃ k : Nat, k ≤ ql a ∧ y = .int .i64 ((k : Int) - 1) ∧ x = .int .i64 (-((a / qw k : Nat) : Int)) ∧ Hid (Tn w D true p a c wr)) (fun _ y _ => (intOf y + 1).toNat)
    case atStart => exact ⟨ql a, Nat.le_refl _, rfl, by rw [qtop (Nat.le_refl _)]; rfl, HZ⟩
    case round =>
      clear HZ HX
      obtain ⟨k, hk, rfl, rfl, HW⟩ := hrel
      by_cases hz : k = 0
      · subst hz
        rw [qdiv_first]
        go_wp2
        go_ret2
        exact ⟨rfl, HW.out.bl⟩
      · obtain ⟨j, rfl⟩ : ∃ j, k = j + 1 := ⟨k - 1, by omega⟩
        rcases Row.cases HW.out.ma with ⟨_, h1⟩ | ⟨g, cap, hv, _, hg, _, _, hc⟩
        · omega
        injection hv with e1 e2 e3
        subst e1
        subst e3
        have ca := hc j (by omega)
        have c0 := HW.out.b0.at 0
        have c1 := HW.out.b0.at 1
        have HE := Lib.hid (dq_add a j)
        have hle : a / qw j ≤ a := Nat.div_le_self _ _
        have hlim := HA.out
        rw [HE.out] at hle
        have hq1 := HQ.out
        rw [show (((j + 1 : Nat) : Int) - 1) = (j : Int) by omega]
        obtain ⟨m, hm⟩ : ∃ m, a / qw (j + 1) = m := ⟨_, rfl⟩
        obtain ⟨d, hd⟩ : ∃ d, dq a j = d := ⟨_, rfl⟩
        obtain ⟨u, hu⟩ : ∃ u, ql a = u := ⟨_, rfl⟩
        rw [hm, hd] at hle HE
        rw [hm]
        rw [hd] at ca
        rw [hu] at c1 hk hq1
        have HU := Lib.hid hu
        clear hm hd hu hc hz
        go_wp2
        go_roundw
        case rel => exact ⟨j, by rw [HU.out]; omega, rfl, congrArg _ (by rw [HE.out]; omega), HW⟩
        case measure => simp [intOf]
end Go.Proofs.YtjemolaobhlapaaGreatDoor

namespace Go.Proofs.YtjemolaobhlapaaGreatDoor
open Go.RowKit
set_option maxRecDepth 100000

theorem fromint_both (n : Int) (n0 : -9223372036854775808 ≤ n) (n1 : n ≤ 9223372036854775807) : ∃ f : ByteArray, (∀ W, Tab W → Calls Tryz.prog 14 #[.int .i64 n] W fun e w' => e = .returned (.string f) ∧ Below W.heap.size W w') ∧ Ans 15 #[.int .i64 n] (.string f) :=
  ⟨_, fun W ht => FromInt_any n n0 n1 W ht, fun W => rFromInt_any n n0 n1 W⟩
theorem divmod_both {x y : Int} (hx : Fits x) (hy : Fits y) : ∃ (q s : ByteArray) (e : Int), Ans 27 #[.string (inum x), .string (inum y)] (.tuple #[.string q, .string s, .int .i64 e]) ∧ Ans 28 #[.string (inum x), .string (inum y)] (.tuple #[.string q, .string s, .int .i64 e]) := by
  by_cases h0 : y.natAbs = 0
  · have hy0 : y = 0 := by omega
    have hx2 := check_numeral hx.num
    have hy2 := check_numeral hy.num
    have sx : (inum x).size < 1000 := by unfold inum; rw [bs_size]; have := num_len hx.num; omega
    have sy : (inum y).size < 1000 := by unfold inum; rw [bs_size]; have := num_len hy.num; omega
    refine ⟨⟨#[]⟩, ⟨#[]⟩, 30, fun W => DivMod_zero _ _ _ _ hx.num hy.num W h0, fun W => ?_⟩
    exact rDivMod_err (inum x) (inum y) sx sy 0 0 30 30 true hx2 hy2 (by subst hy0; decide +kernel) rfl rfl (by decide) W
  · obtain ⟨q, r, hq⟩ : ∃ q r, (if (isNeg x && !decide (x.natAbs % y.natAbs = 0)) = true then (x.natAbs / y.natAbs + 1, y.natAbs - x.natAbs % y.natAbs) else (x.natAbs / y.natAbs, x.natAbs % y.natAbs)) = (q, r) := ⟨_, _, rfl⟩
    have hqa := floor_le (by omega) hq
    have hrb : r ≤ y.natAbs := by
      have := Nat.mod_lt x.natAbs (show 0 < y.natAbs by omega)
      split at hq <;> (rw [Prod.mk.injEq] at hq; omega)
    exact ⟨_, _, 0, fun W => DivMod_ok _ _ _ _ hx.num hy.num W (by omega) (fun V => divide_any _ _ hx.num.lt29 (by omega) hy.num.lt30 V) q r _ hq rfl (digits_mono hqa hx) (digits_mono hrb hy), fun W => rDivMod_ok _ _ _ _ hx.num hy.num (by omega) q r hq _ rfl W⟩
theorem pow_both {x : Int} (hx : Fits x) (n : Int) : ∃ (s : ByteArray) (e : Int), Ans 31 #[.string (inum x), .int .i64 n] (.tuple #[.string s, .int .i64 e]) ∧ Ans 32 #[.string (inum x), .int .i64 n] (.tuple #[.string s, .int .i64 e]) := by
  have hx2 := check_numeral hx.num
  have sx : (inum x).size < 1000 := by unfold inum; rw [bs_size]; have := num_len hx.num; omega
  by_cases hr : n < 0 ∨ 1000 < n
  · exact ⟨⟨#[]⟩, 3, fun W => Pow_range (inum x) n hx2 hr W, fun W => rPow_bad (inum x) n sx 0 3 3 hx2 (if_pos hr) rfl (by decide) W⟩
  · obtain ⟨e, rfl⟩ : ∃ e : Nat, n = (e : Int) := ⟨n.toNat, by omega⟩
    have he : e ≤ 1000 := by omega
    by_cases hl : 120 < Lib.nDigits (x.natAbs ^ e)
    · obtain ⟨k, h1, h2, h3, h4⟩ := first_long hl
      exact ⟨⟨#[]⟩, 4, fun W => Pow_large _ _ e k hx.num he h1 h2 h3 h4 W, fun W => rPow_large _ _ e hx.num he k h1 h2 h3 h4 W⟩
    · have hs : ∀ i, i ≤ e → Lib.nDigits (x.natAbs ^ i) ≤ 120 := fun i hi => short_exp hi (by omega)
      exact ⟨_, 0, fun W => Pow_ok _ _ e hx.num he hs W, fun W => rPow_ok _ _ e hx.num he hs W⟩
theorem rPow_err (x : ByteArray) (sx : x.size < 1000) (n r : Int) (ha : checkS x.data.toList = r) (h0 : r ≠ 0) (w : World) :
    Calls Tryz.prog 32 #[.string x, .int .i64 n] w fun e w' => e = .returned (.tuple #[.string ⟨#[]⟩, .int .i64 r]) ∧ Below w.heap.size w w' :=
  rPow_bad x n sx r _ r ha rfl (if_neg h0) h0 w
theorem toint_both {x : Int} (hx : Fits x) : ∃ k e : Int, Ans 16 #[.string (inum x)] (.tuple #[.int .i64 k, .int .i64 e]) ∧ Ans 17 #[.string (inum x)] (.tuple #[.int .i64 k, .int .i64 e]) := by
  have hn := hx.num
  by_cases h : x < 0
  · have hs : isNeg x = true := decide_eq_true h
    unfold inum
    rw [hs] at hn ⊢
    obtain ⟨a, ha⟩ : ∃ a, x.natAbs = a := ⟨_, rfl⟩
    rw [ha] at hn ⊢
    by_cases h1 : a < 9223372036854775808
    · exact ⟨-(a : Int), 0, fun W => ToInt_ok true a hn h1 W _ rfl, fun W => rToInt_neg a hn (by omega) W⟩
    · by_cases h2 : a = 9223372036854775808
      · refine ⟨-9223372036854775808, 0, fun W => ToInt_least a hn h2 W, fun W => ?_⟩
        have := rToInt_neg a hn (by omega) W
        rwa [show (-(a : Int)) = -9223372036854775808 by omega] at this
      · exact ⟨0, 4, fun W => ToInt_over true a hn (by omega) W, fun W => rToInt_under true a hn (by simp; omega) W⟩
  · have hs : isNeg x = false := decide_eq_false h
    unfold inum
    rw [hs] at hn ⊢
    obtain ⟨a, ha⟩ : ∃ a, x.natAbs = a := ⟨_, rfl⟩
    rw [ha] at hn ⊢
    by_cases h1 : a < 9223372036854775808
    · exact ⟨(a : Int), 0, fun W => ToInt_ok false a hn h1 W _ rfl, fun W => rToInt_pos a hn (by omega) W⟩
    · by_cases h2 : a = 9223372036854775808
      · exact ⟨0, 4, fun W => ToInt_top a hn h2 W, fun W => rToInt_over false a hn (by simp; omega) W⟩
      · exact ⟨0, 4, fun W => ToInt_over false a hn (by omega) W, fun W => rToInt_over false a hn (by simp; omega) W⟩
end Go.Proofs.YtjemolaobhlapaaGreatDoor

namespace Go.Proofs.YtjemolaobhlapaaGreatDoor
open Go.RowKit
set_option maxRecDepth 1000000

set_option maxHeartbeats 40000000 in
theorem ints_long (u v : ByteArray) (n : Int) (hl : longE [u, v] = true) (w : World) (he : Env w) :
    Calls Tryz.prog 3 #[.string u, .string v, .int .i64 n] w fun e w' => e = .returned (.bool true) ∧ Below w.heap.size w w' := by
  have HA := Lib.hid (show Aq w w from ⟨Below.refl _ _, he⟩)
  clear he
  have HW := Lib.hid (fun W (h : Env W) => awake_any W h)
  have HL := Lib.hid (fun W => long_two u v W true hl)
  clear hl
  go_enter Tryz.func3, Tryz.ntmps3
  go_wp2_with (first | (go_at_call 10; (with_reducible refine (HW.out _ HA.out.env).mono ?_); rintro e w6 ⟨rfl, hb6⟩; replace HA := Lib.hid (HA.out.step hb6); clear hb6) | (go_at_call 11; refine (HL.out _).mono ?_; rintro e w6 ⟨rfl, rfl⟩; replace HA := Lib.hid (HA.out.step ((Below.refl _ _).alloc (Nat.le_refl _) (.cells #[.string u, .string v] 9)))))
  go_ret
  exact ⟨rfl, HA.out.bl⟩
set_option maxHeartbeats 40000000 in
theorem ints_same (u v : ByteArray) (n : Int) (hl : longE [u, v] = false) (f : ByteArray) (af : ∀ W, Tab W → Calls Tryz.prog 14 #[.int .i64 n] W fun e w' => e = .returned (.string f) ∧ Below W.heap.size W w') (bf : Ans 15 #[.int .i64 n] (.string f)) (c : Int) (a0 : Ans 12 #[.string u] (.int .i64 c)) (b0 : Ans 13 #[.string u] (.int .i64 c)) (k e1 : Int) (a1 : Ans 16 #[.string u] (.tuple #[.int .i64 k, .int .i64 e1])) (b1 : Ans 17 #[.string u] (.tuple #[.int .i64 k, .int .i64 e1])) (s2 : ByteArray) (e2 : Int) (a2 : Ans 18 #[.string u] (.tuple #[.string s2, .int .i64 e2])) (b2 : Ans 19 #[.string u] (.tuple #[.string s2, .int .i64 e2])) (s3 : ByteArray) (e3 : Int) (a3 : Ans 21 #[.string u, .string v] (.tuple #[.string s3, .int .i64 e3])) (b3 : Ans 22 #[.string u, .string v] (.tuple #[.string s3, .int .i64 e3])) (s4 : ByteArray) (e4 : Int) (a4 : Ans 23 #[.string u, .string v] (.tuple #[.string s4, .int .i64 e4])) (b4 : Ans 24 #[.string u, .string v] (.tuple #[.string s4, .int .i64 e4])) (s5 : ByteArray) (e5 : Int) (a5 : Ans 25 #[.string u, .string v] (.tuple #[.string s5, .int .i64 e5])) (b5 : Ans 26 #[.string u, .string v] (.tuple #[.string s5, .int .i64 e5])) (q6 s6 : ByteArray) (e6 : Int) (a6 : Ans 27 #[.string u, .string v] (.tuple #[.string q6, .string s6, .int .i64 e6])) (b6 : Ans 28 #[.string u, .string v] (.tuple #[.string q6, .string s6, .int .i64 e6])) (o e7 : Int) (a7 : Ans 29 #[.string u, .string v] (.tuple #[.int .i64 o, .int .i64 e7])) (b7 : Ans 30 #[.string u, .string v] (.tuple #[.int .i64 o, .int .i64 e7])) (s8 : ByteArray) (e8 : Int) (a8 : Ans 31 #[.string u, .int .i64 n] (.tuple #[.string s8, .int .i64 e8])) (b8 : Ans 32 #[.string u, .int .i64 n] (.tuple #[.string s8, .int .i64 e8])) (s9 : ByteArray) (e9 : Int) (a9 : Ans 33 #[.string u, .string v] (.tuple #[.string s9, .int .i64 e9])) (b9 : Ans 34 #[.string u, .string v] (.tuple #[.string s9, .int .i64 e9])) (w : World) (he : Env w) :
    Calls Tryz.prog 3 #[.string u, .string v, .int .i64 n] w fun e w' => e = .returned (.bool true) ∧ Below w.heap.size w w' := by
  have HA := Lib.hid (show Aq w w from ⟨Below.refl _ _, he⟩)
  clear he
  have HW := Lib.hid (fun W (h : Env W) => awake_any W h)
  have HL := Lib.hid (fun W => long_two u v W false hl)
  have AF := Lib.hid af
  have BF := Lib.hid bf
  have A0 := Lib.hid a0
  have B0 := Lib.hid b0
  have A1 := Lib.hid a1
  have B1 := Lib.hid b1
  have A2 := Lib.hid a2
  have B2 := Lib.hid b2
  have A3 := Lib.hid a3
  have B3 := Lib.hid b3
  have A4 := Lib.hid a4
  have B4 := Lib.hid b4
  have A5 := Lib.hid a5
  have B5 := Lib.hid b5
  have A6 := Lib.hid a6
  have B6 := Lib.hid b6
  have A7 := Lib.hid a7
  have B7 := Lib.hid b7
  have A8 := Lib.hid a8
  have B8 := Lib.hid b8
  have A9 := Lib.hid a9
  have B9 := Lib.hid b9
  have Hs2 := Lib.hid (fun W => both_same s2 e2 W)
  have Hs3 := Lib.hid (fun W => both_same s3 e3 W)
  have Hs4 := Lib.hid (fun W => both_same s4 e4 W)
  have Hs5 := Lib.hid (fun W => both_same s5 e5 W)
  have Hs6 := Lib.hid (fun W => both_same s6 e6 W)
  have Hs8 := Lib.hid (fun W => both_same s8 e8 W)
  have Hs9 := Lib.hid (fun W => both_same s9 e9 W)
  clear hl af bf a0 b0 a1 b1 a2 b2 a3 b3 a4 b4 a5 b5 a6 b6 a7 b7 a8 b8 a9 b9
  go_enter Tryz.func3, Tryz.ntmps3
  go_wp2_with (first | (go_at_call 10; (with_reducible refine (HW.out _ HA.out.env).mono ?_); rintro e w6 ⟨rfl, hb6⟩; replace HA := Lib.hid (HA.out.step hb6); clear hb6) | (go_at_call 11; refine (HL.out _).mono ?_; rintro e w6 ⟨rfl, rfl⟩; replace HA := Lib.hid (HA.out.step ((Below.refl _ _).alloc (Nat.le_refl _) (.cells #[.string u, .string v] 9)))) | (go_at_call 12; (with_reducible refine (A0.out _).mono ?_); rintro e w6 ⟨rfl, hb6⟩; replace HA := Lib.hid (HA.out.step hb6); clear hb6) | (go_at_call 13; (with_reducible refine (B0.out _).mono ?_); rintro e w6 ⟨rfl, hb6⟩; replace HA := Lib.hid (HA.out.step hb6); clear hb6) | (go_at_call 16; (with_reducible refine (A1.out _).mono ?_); rintro e w6 ⟨rfl, hb6⟩; replace HA := Lib.hid (HA.out.step hb6); clear hb6) | (go_at_call 17; (with_reducible refine (B1.out _).mono ?_); rintro e w6 ⟨rfl, hb6⟩; replace HA := Lib.hid (HA.out.step hb6); clear hb6) | (go_at_call 18; (with_reducible refine (A2.out _).mono ?_); rintro e w6 ⟨rfl, hb6⟩; replace HA := Lib.hid (HA.out.step hb6); clear hb6) | (go_at_call 19; (with_reducible refine (B2.out _).mono ?_); rintro e w6 ⟨rfl, hb6⟩; replace HA := Lib.hid (HA.out.step hb6); clear hb6) | (go_at_call 21; (with_reducible refine (A3.out _).mono ?_); rintro e w6 ⟨rfl, hb6⟩; replace HA := Lib.hid (HA.out.step hb6); clear hb6) | (go_at_call 22; (with_reducible refine (B3.out _).mono ?_); rintro e w6 ⟨rfl, hb6⟩; replace HA := Lib.hid (HA.out.step hb6); clear hb6) | (go_at_call 23; (with_reducible refine (A4.out _).mono ?_); rintro e w6 ⟨rfl, hb6⟩; replace HA := Lib.hid (HA.out.step hb6); clear hb6) | (go_at_call 24; (with_reducible refine (B4.out _).mono ?_); rintro e w6 ⟨rfl, hb6⟩; replace HA := Lib.hid (HA.out.step hb6); clear hb6) | (go_at_call 25; (with_reducible refine (A5.out _).mono ?_); rintro e w6 ⟨rfl, hb6⟩; replace HA := Lib.hid (HA.out.step hb6); clear hb6) | (go_at_call 26; (with_reducible refine (B5.out _).mono ?_); rintro e w6 ⟨rfl, hb6⟩; replace HA := Lib.hid (HA.out.step hb6); clear hb6) | (go_at_call 27; (with_reducible refine (A6.out _).mono ?_); rintro e w6 ⟨rfl, hb6⟩; replace HA := Lib.hid (HA.out.step hb6); clear hb6) | (go_at_call 28; (with_reducible refine (B6.out _).mono ?_); rintro e w6 ⟨rfl, hb6⟩; replace HA := Lib.hid (HA.out.step hb6); clear hb6) | (go_at_call 29; (with_reducible refine (A7.out _).mono ?_); rintro e w6 ⟨rfl, hb6⟩; replace HA := Lib.hid (HA.out.step hb6); clear hb6) | (go_at_call 30; (with_reducible refine (B7.out _).mono ?_); rintro e w6 ⟨rfl, hb6⟩; replace HA := Lib.hid (HA.out.step hb6); clear hb6) | (go_at_call 31; (with_reducible refine (A8.out _).mono ?_); rintro e w6 ⟨rfl, hb6⟩; replace HA := Lib.hid (HA.out.step hb6); clear hb6) | (go_at_call 32; (with_reducible refine (B8.out _).mono ?_); rintro e w6 ⟨rfl, hb6⟩; replace HA := Lib.hid (HA.out.step hb6); clear hb6) | (go_at_call 33; (with_reducible refine (A9.out _).mono ?_); rintro e w6 ⟨rfl, hb6⟩; replace HA := Lib.hid (HA.out.step hb6); clear hb6) | (go_at_call 34; (with_reducible refine (B9.out _).mono ?_); rintro e w6 ⟨rfl, hb6⟩; replace HA := Lib.hid (HA.out.step hb6); clear hb6) | (go_at_call 14; (with_reducible refine (AF.out _ HA.out.env.tab).mono ?_); rintro e w6 ⟨rfl, hb6⟩; replace HA := Lib.hid (HA.out.step hb6); clear hb6) | (go_at_call 15; (with_reducible refine (BF.out _).mono ?_); rintro e w6 ⟨rfl, hb6⟩; replace HA := Lib.hid (HA.out.step hb6); clear hb6) | (go_at_call 20; (with_reducible refine (Hs2.out _).mono ?_); rintro e w6 ⟨rfl, rfl⟩) | (go_at_call 20; (with_reducible refine (Hs3.out _).mono ?_); rintro e w6 ⟨rfl, rfl⟩) | (go_at_call 20; (with_reducible refine (Hs4.out _).mono ?_); rintro e w6 ⟨rfl, rfl⟩) | (go_at_call 20; (with_reducible refine (Hs5.out _).mono ?_); rintro e w6 ⟨rfl, rfl⟩) | (go_at_call 20; (with_reducible refine (Hs6.out _).mono ?_); rintro e w6 ⟨rfl, rfl⟩) | (go_at_call 20; (with_reducible refine (Hs8.out _).mono ?_); rintro e w6 ⟨rfl, rfl⟩) | (go_at_call 20; (with_reducible refine (Hs9.out _).mono ?_); rintro e w6 ⟨rfl, rfl⟩))
  go_ret
  exact ⟨rfl, HA.out.bl⟩

/-- One operation on one string: one answer of both. -/
theorem one_any (u : ByteArray) (n : Int) (hu : u.size ≤ 300) : (∃ c : Int, Ans 12 #[.string u] (.int .i64 c) ∧ Ans 13 #[.string u] (.int .i64 c)) ∧ (∃ k e : Int, Ans 16 #[.string u] (.tuple #[.int .i64 k, .int .i64 e]) ∧ Ans 17 #[.string u] (.tuple #[.int .i64 k, .int .i64 e])) ∧ (∃ (s : ByteArray) (e : Int), Ans 18 #[.string u] (.tuple #[.string s, .int .i64 e]) ∧ Ans 19 #[.string u] (.tuple #[.string s, .int .i64 e])) ∧ (∃ (s : ByteArray) (e : Int), Ans 31 #[.string u, .int .i64 n] (.tuple #[.string s, .int .i64 e]) ∧ Ans 32 #[.string u, .int .i64 n] (.tuple #[.string s, .int .i64 e])) := by
  obtain ⟨r, hr⟩ : ∃ r, checkS u.data.toList = r := ⟨_, rfl⟩
  refine ⟨⟨r, fun W => Check_any u W r hr, fun W => (rCheck_any u (by omega) W r hr).mono fun e w' ⟨h1, h2⟩ => ⟨h1, by subst h2; exact Below.refl _ _⟩⟩, ?_⟩
  by_cases h0 : r = 0
  · subst h0
    obtain ⟨x, rfl, hx⟩ := num_back hr
    exact ⟨toint_both hx, neg_both hx, pow_both hx n⟩
  · exact ⟨⟨0, r, fun W => ToInt_err u r hr h0 W, fun W => rToInt_err u (by omega) r hr h0 W⟩, ⟨⟨#[]⟩, r, fun W => Neg_err u r hr h0 W, fun W => rNeg_err u (by omega) r hr h0 W⟩, ⟨⟨#[]⟩, r, fun W => Pow_err u r n hr h0 W, fun W => rPow_err u (by omega) n r hr h0 W⟩⟩
abbrev TwoS (f g : Nat) (u v : ByteArray) : Prop := ∃ (s : ByteArray) (e : Int), Ans f #[.string u, .string v] (.tuple #[.string s, .int .i64 e]) ∧ Ans g #[.string u, .string v] (.tuple #[.string s, .int .i64 e])
theorem two_any (u v : ByteArray) (hu : u.size ≤ 300) (hv : v.size ≤ 300) : TwoS 21 22 u v ∧ TwoS 23 24 u v ∧ TwoS 25 26 u v ∧ (∃ (q s : ByteArray) (e : Int), Ans 27 #[.string u, .string v] (.tuple #[.string q, .string s, .int .i64 e]) ∧ Ans 28 #[.string u, .string v] (.tuple #[.string q, .string s, .int .i64 e])) ∧ (∃ o e : Int, Ans 29 #[.string u, .string v] (.tuple #[.int .i64 o, .int .i64 e]) ∧ Ans 30 #[.string u, .string v] (.tuple #[.int .i64 o, .int .i64 e])) ∧ TwoS 33 34 u v := by
  obtain ⟨ra, ha⟩ : ∃ r, checkS u.data.toList = r := ⟨_, rfl⟩
  obtain ⟨rb, hb⟩ : ∃ r, checkS v.data.toList = r := ⟨_, rfl⟩
  obtain ⟨r, hr⟩ : ∃ r, (if ra = 0 then rb else ra) = r := ⟨_, rfl⟩
  by_cases h0 : r = 0
  · subst h0
    have h1 : ra = 0 := by
      by_cases h : ra = 0
      · exact h
      · rw [if_neg h] at hr; exact hr
    rw [if_pos h1] at hr
    subst h1
    subst hr
    obtain ⟨x, rfl, hx⟩ := num_back ha
    obtain ⟨y, rfl, hy⟩ := num_back hb
    exact ⟨add_both hx hy, sub_both hx hy, mul_both hx hy, divmod_both hx hy, compare_both hx hy, gcd_both hx hy⟩
  · obtain ⟨rc, hrc⟩ : ∃ rc : Int, (if (v.toList == [48]) = true then (30 : Int) else 0) = rc := ⟨_, rfl⟩
    have hr3 : (if ra = 0 then (if rb = 0 then rc else rb) else ra) = r := by
      by_cases h : ra = 0
      · rw [if_pos h] at hr ⊢
        rw [if_neg (by rw [hr]; exact h0), hr]
      · rw [if_neg h] at hr ⊢; exact hr
    have su : u.size < 1000 := by omega
    have sv : v.size < 1000 := by omega
    exact ⟨⟨⟨#[]⟩, r, fun W => Add_err u v ra rb r ha hb hr h0 W, fun W => rAdd_err u v su sv ra rb r ha hb hr h0 W⟩, ⟨⟨#[]⟩, r, fun W => Sub_err u v ra rb r ha hb hr h0 W, fun W => rSub_err u v su sv ra rb r ha hb hr h0 W⟩, ⟨⟨#[]⟩, r, fun W => Mul_err u v ra rb r ha hb hr h0 W, fun W => rMul_err u v su sv ra rb r ha hb hr h0 W⟩, ⟨⟨#[]⟩, ⟨#[]⟩, r, fun W => DivMod_err u v ra rb r ha hb hr h0 W, fun W => rDivMod_err u v su sv ra rb rc r _ ha hb rfl hrc hr3 h0 W⟩, ⟨0, r, fun W => Compare_err u v ra rb r ha hb hr h0 W, fun W => rCompare_err u v su sv ra rb r ha hb hr h0 W⟩, ⟨⟨#[]⟩, r, fun W => Gcd_err u v ra rb r ha hb hr h0 W, fun W => rGcd_err u v su sv ra rb r ha hb hr h0 W⟩⟩
theorem ints_any (u v : ByteArray) (n : Int) (n0 : -9223372036854775808 ≤ n) (n1 : n ≤ 9223372036854775807) (w : World) (he : Env w) :
    Calls Tryz.prog 3 #[.string u, .string v, .int .i64 n] w fun e w' => e = .returned (.bool true) ∧ Below w.heap.size w w' := by
  by_cases hl : longE [u, v] = true
  · exact ints_long u v n hl w he
  have hl2 : longE [u, v] = false := by simpa using hl
  have hs : u.size ≤ 300 ∧ v.size ≤ 300 := by
    simp [longE] at hl2
    omega
  obtain ⟨f, af, bf⟩ := fromint_both n n0 n1
  obtain ⟨⟨c, a0, b0⟩, ⟨k, e1, a1, b1⟩, ⟨s2, e2, a2, b2⟩, ⟨s8, e8, a8, b8⟩⟩ := one_any u n hs.1
  obtain ⟨⟨s3, e3, a3, b3⟩, ⟨s4, e4, a4, b4⟩, ⟨s5, e5, a5, b5⟩, ⟨q6, s6, e6, a6, b6⟩, ⟨o, e7, a7, b7⟩, ⟨s9, e9, a9, b9⟩⟩ := two_any u v hs.1 hs.2
  exact ints_same u v n hl2 f af bf c a0 b0 k e1 a1 b1 s2 e2 a2 b2 s3 e3 a3 b3 s4 e4 a4 b4 s5 e5 a5 b5 q6 s6 e6 a6 b6 o e7 a7 b7 s8 e8 a8 b8 s9 e9 a9 b9 w he
end Go.Proofs.YtjemolaobhlapaaGreatDoor
