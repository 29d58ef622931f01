/- The law NumField: the walk at rational numbers. -/
import Derived.Test.YtojgafkkgacpkaaGreatDoorN61
import Derived.Test.YtojgafkkgacpkaaGreatDoorN64
set_option linter.unusedSimpArgs false
set_option linter.unusedVariables false
namespace Go.Proofs.YtojgafkkgacpkaaGreatDoor
open Go.RowKit
set_option maxRecDepth 1000000

theorem same_eq (s : ByteArray) (e f : Int) (w : World) :
    Calls Tryz.prog 61 #[.string s, .int .i64 e, .string s, .int .i64 f] w fun r w' => r = .returned (.bool true) ∧ w' = w := by
  by_cases he : e = 0
  · by_cases hf : f = 0
    · subst he; subst hf
      go_enter Tryz.func61, Tryz.ntmps61
      go_wp2
      go_ret
      exact ⟨rfl, rfl⟩
    · subst he
      have d2 : (f != 0) = true := by simp; exact hf
      clear hf
      go_enter Tryz.func61, Tryz.ntmps61
      go_wp2
      go_ret
      exact ⟨rfl, rfl⟩
  · have d1 : (e != 0) = true := by simp; exact he
    clear he
    go_enter Tryz.func61, Tryz.ntmps61
    go_wp2
    go_ret
    exact ⟨rfl, rfl⟩

/-- At most 59 digits in all. -/
def Short (x : Rat) : Prop := Lib.nDigits x.num.natAbs + Lib.nDigits x.den ≤ 59
theorem Short.fits {x : Rat} (h : Short x) : FitsR x := by
  unfold Short at h
  exact ⟨by unfold Fits; omega, by omega⟩
theorem Short.lt {x : Rat} (h : Short x) : x.num.natAbs < 10 ^ 58 ∧ x.den < 10 ^ 58 := by
  unfold Short at h
  have h1 := Lib.nDigits_pos x.num.natAbs
  have h2 := Lib.nDigits_pos x.den
  exact ⟨Nat.lt_of_lt_of_le (Lib.lt_pow_nDigits _) (Nat.pow_le_pow_right (by decide) (by omega)), Nat.lt_of_lt_of_le (Lib.lt_pow_nDigits _) (Nat.pow_le_pow_right (by decide) (by omega))⟩
theorem mk_fits {n : Int} {d : Nat} (hn : n.natAbs < 10 ^ 120) (hd : d < 10 ^ 120) (h0 : d ≠ 0) : FitsR (mkRat n d) := by
  refine ⟨Fits.of (k := 120) ?_ (by decide), digits_le 119 _ ?_⟩
  · rw [← mk_top n d h0]; exact Nat.lt_of_le_of_lt (Nat.div_le_self _ _) hn
  · rw [← mk_bot n d h0]; exact Nat.lt_of_le_of_lt (Nat.div_le_self _ _) hd
theorem mul_58 {a b : Nat} (ha : a < 10 ^ 58) (hb : b < 10 ^ 58) : a * b < 10 ^ 116 := by
  have := Nat.mul_lt_mul'' ha hb; rwa [← Nat.pow_add] at this
theorem add_fits {x y : Rat} (hx : Short x) (hy : Short y) : FitsR (x + y) := by
  have h1 := mul_58 hx.lt.1 hy.lt.2
  have h2 := mul_58 hy.lt.1 hx.lt.2
  have h3 := mul_58 hx.lt.2 hy.lt.2
  have h4 : (10 : Nat) ^ 116 + 10 ^ 116 < 10 ^ 120 := by decide
  rw [Rat.add_def']
  refine mk_fits ?_ (by omega) (Nat.mul_ne_zero x.den_nz y.den_nz)
  have h5 : (x.num * y.den + y.num * x.den).natAbs ≤ x.num.natAbs * y.den + y.num.natAbs * x.den := by
    refine Nat.le_trans (Int.natAbs_add_le _ _) ?_
    rw [Int.natAbs_mul, Int.natAbs_mul, Int.natAbs_natCast, Int.natAbs_natCast]; omega
  omega
theorem sub_fits {x y : Rat} (hx : Short x) (hy : Short y) : FitsR (x - y) := by
  rw [Rat.sub_eq_add_neg]
  exact add_fits hx (show Short (-y) by unfold Short at *; rw [Rat.neg_num, Rat.neg_den, Int.natAbs_neg]; exact hy)
theorem rnum_inj {x y : Rat} : rnum x = rnum y ↔ x = y := by
  constructor
  · intro h
    have hl : ratio (isNeg x.num) x.num.natAbs false x.den = ratio (isNeg y.num) y.num.natAbs false y.den := by
      have := congrArg (fun b : ByteArray => b.data.toList) h
      simpa only [rnum, bs_list] using this
    unfold ratio at hl
    have hs : ∀ (X Y X2 Y2 : List UInt8), 47 ∉ X → 47 ∉ X2 → X ++ 47 :: Y = X2 ++ 47 :: Y2 → X = X2 ∧ Y = Y2 := by
      intro X
      induction X with
      | nil =>
        intro Y X2 Y2 _ h2 h3
        cases X2 with
        | nil => exact ⟨rfl, by simpa using h3⟩
        | cons u v =>
          simp only [List.nil_append, List.cons_append, List.cons.injEq] at h3
          exact absurd (by rw [← h3.1]; exact List.mem_cons_self) h2
      | cons u v ih =>
        intro Y X2 Y2 h1 h2 h3
        cases X2 with
        | nil =>
          simp only [List.nil_append, List.cons_append, List.cons.injEq] at h3
          exact absurd (by rw [h3.1]; exact List.mem_cons_self) h1
        | cons u2 v2 =>
          simp only [List.cons_append, List.cons.injEq] at h3
          have := ih Y v2 Y2 (fun h => h1 (List.mem_cons_of_mem _ h)) (fun h => h2 (List.mem_cons_of_mem _ h)) h3.2
          exact ⟨by rw [h3.1, this.1], this.2⟩
    have hp := hs _ _ _ _ (numeral_no_slash _ _) (numeral_no_slash _ _) hl
    have hn : x.num = y.num := inum_inj.1 (show inum x.num = inum y.num by unfold inum; rw [hp.1])
    have hd := congrArg numOf hp.2
    rw [show ∀ n, numeral false n = Lib.decDigits n from fun _ => rfl, show ∀ n, numeral false n = Lib.decDigits n from fun _ => rfl, numOf_dec, numOf_dec] at hd
    exact Rat.ext hn hd
  · rintro rfl; rfl
theorem rnum_list {x y : Rat} : (rnum x).toList = (rnum y).toList ↔ x = y := by
  rw [Lib.toList_data, Lib.toList_data]
  constructor
  · intro h
    refine rnum_inj.1 ?_
    rw [show rnum x = ⟨(rnum x).data⟩ from rfl, Array.toList_inj.1 h]
  · rintro rfl; rfl
theorem rnum_zero : rnum 0 = ⟨#[48, 47, 49]⟩ := by kernel_rfl
theorem rnum_int (d : Int) : inum d ++ ⟨#[47, 49]⟩ = rnum (d : Rat) := by
  have h : ∀ x y : ByteArray, x.data.toList = y.data.toList → x = y := by
    intro x y h
    cases x; cases y
    congr 1
    exact Array.toList_inj.1 h
  apply h
  unfold inum rnum
  rw [ByteArray.data_append, Array.toList_append, bs_list, bs_list]
  show numeral (isNeg d) d.natAbs ++ [47, 49] = numeral (isNeg d) d.natAbs ++ 47 :: numeral false 1
  rw [show numeral false 1 = [49] by kernel_rfl]
theorem cmp_self_iff {x y : Rat} {k : Int} (h : cmpZ (x.num * y.den) (y.num * x.den) = k) : ((rnum x).toList == (rnum y).toList) = (k == 0) := by
  rw [Bool.eq_iff_iff, beq_iff_eq, beq_iff_eq, rnum_list, Rat.eq_iff_mul_eq_mul, ← h]
  unfold cmpZ
  split
  · exact ⟨fun _ => rfl, fun _ => by assumption⟩
  · split <;> exact ⟨fun h1 => by contradiction, fun h1 => by cases h1⟩
theorem cmp_sub (x y : Rat) : cmpZ ((x - y).num * ((0 : Rat).den : Int)) ((0 : Rat).num * (x - y).den) = cmpZ (x.num * y.den) (y.num * x.den) := by
  rw [Rat.zero_den, Rat.zero_num, Int.zero_mul, show ((1 : Nat) : Int) = 1 from rfl, Int.mul_one]
  have h1 : (x - y).num = 0 ↔ x.num * y.den = y.num * x.den := by
    rw [Rat.num_eq_zero, ← Rat.eq_iff_mul_eq_mul]
    constructor
    · intro h
      have := Rat.sub_add_cancel (a := x) (b := y)
      rw [h, Rat.zero_add] at this
      exact this.symm
    · rintro rfl; exact Rat.sub_self
  have h2 : (x - y).num < 0 ↔ x.num * y.den < y.num * x.den := by
    rw [← Rat.lt_iff, ← Int.not_le, Rat.num_nonneg, Rat.not_le]
    have h3 := Rat.lt_iff_sub_pos x y
    rw [h3, ← Rat.neg_sub, Rat.neg_lt_iff, Rat.neg_zero]
  unfold cmpZ
  by_cases h3 : x.num * y.den = y.num * x.den
  · rw [if_pos h3, if_pos (h1.2 h3)]
  · rw [if_neg h3, if_neg (fun h => h3 (h1.1 h))]
    by_cases h4 : x.num * y.den < y.num * x.den
    · rw [if_pos h4, if_pos (h2.2 h4)]
    · rw [if_neg h4, if_neg (fun h => h4 (h2.1 h))]
set_option maxHeartbeats 40000000 in
theorem field_both_zero (a b c : Rat) (ha : Short a) (hb : Short b) (hc : Short c) (za : (rnum a).size ≤ 60) (zb : (rnum b).size ≤ 60) (zc : (rnum c).size ≤ 60) (K1 : Hid (∀ W, MLen W → Calls Tryz.prog 45 #[.string (rnum a)] W fun e w' => e = .returned (.int .i64 0) ∧ Below W.heap.size W w')) (K2 : Hid (∀ W, MLen W → Calls Tryz.prog 45 #[.string (rnum b)] W fun e w' => e = .returned (.int .i64 0) ∧ Below W.heap.size W w')) (K3 : Hid (∀ W, MLen W → Calls Tryz.prog 45 #[.string (rnum c)] W fun e w' => e = .returned (.int .i64 0) ∧ Below W.heap.size W w')) (g5 : FitsR (a * b)) (g8 : FitsR (a * c)) (h0 : b = 0) (w : World) (he : Env w) :
    Calls Tryz.prog 9 #[.string (rnum a), .string (rnum b), .string (rnum c)] w fun e w' => e = .returned (.bool true) ∧ Below w.heap.size w w' := by
  have HA := Lib.hid (show Ar w w from ⟨Below.refl _ _, he⟩)
  clear he
  have fa := ha.fits
  have fb := hb.fits
  have fc := hc.fits
  have f1 := add_fits ha hb
  have f2 := add_fits hb hc
  have f3 := sub_fits ha hb
  have f0 : FitsR 0 := ⟨Fits.of (k := 1) (by decide) (by decide), by decide +kernel⟩
  have C1 := Lib.hid (fun W (hm : MLen W) => AddReal_rat fa fb _ rfl _ _ (finQ_ok f1) W hm)
  have C2 := Lib.hid (fun W (hm : MLen W) => AddReal_rat fb fc _ rfl _ _ (finQ_ok f2) W hm)
  obtain ⟨⟨r1, e1⟩, hf1⟩ : ∃ r, finQ (a + b + c) = r := ⟨_, rfl⟩
  have C3 := Lib.hid (fun W (hm : MLen W) => AddReal_rat f1 fc _ rfl r1 e1 hf1 W hm)
  have C4 := Lib.hid (fun W (hm : MLen W) => AddReal_rat fa f2 (a + b + c) (Rat.add_assoc a b c).symm r1 e1 hf1 W hm)
  have C5 := Lib.hid (fun W (hm : MLen W) => MulReal_rat fa fb _ rfl _ _ (finQ_ok g5) W hm)
  have C6 := Lib.hid (fun W (hm : MLen W) => MulReal_rat fb fa (a * b) (Rat.mul_comm b a) _ _ (finQ_ok g5) W hm)
  have C8 := Lib.hid (fun W (hm : MLen W) => MulReal_rat fa fc _ rfl _ _ (finQ_ok g8) W hm)
  obtain ⟨⟨r7, e7⟩, hf7⟩ : ∃ r, finQ (a * (b + c)) = r := ⟨_, rfl⟩
  have C7 := Lib.hid (fun W (hm : MLen W) => MulReal_rat fa f2 _ rfl r7 e7 hf7 W hm)
  have C9 := Lib.hid (fun W (hm : MLen W) => AddReal_rat g5 g8 (a * (b + c)) (Rat.mul_add a b c).symm r7 e7 hf7 W hm)
  obtain ⟨k, hk⟩ : ∃ k, cmpZ (a.num * b.den) (b.num * a.den) = k := ⟨_, rfl⟩
  have C10 := Lib.hid (fun W (hm : MLen W) => CompareReal_rat fa fb W hm)
  have C11 := Lib.hid (fun W (hm : MLen W) => SubReal_rat fa fb _ rfl _ _ (finQ_ok f3) W hm)
  have C12 := Lib.hid (fun W (hm : MLen W) => CompareReal_rat f3 f0 W hm)
  rw [cmp_sub, hk, rnum_zero] at C12
  rw [hk] at C10
  have hab := cmp_self_iff hk
  clear hk
  have hbz : ((rnum b).toList == [48, 47, 49]) = true := by rw [show [48, 47, 49] = (rnum 0).toList by rw [Lib.toList_data]; kernel_rfl]; first | exact beq_iff_eq.2 (rnum_list.2 h0) | (rw [Bool.eq_false_iff]; intro h; exact h0 (rnum_list.1 (beq_iff_eq.1 h)))
  have hbn : ((rnum b).toList != [48, 47, 49]) = false := by rw [bne, hbz]; rfl
  have p58 : (10 : Nat) ^ 58 + 2 < 10 ^ 60 := by decide
  have la := ha.lt.1
  obtain ⟨n, n1, n2, n3, HF⟩ := Floor_rat fa (by omega)
  have C15 := Lib.hid HF
  have fn : Fits n := Fits.of (k := 60) (by omega) (by decide)
  have fm : Fits (n + 1) := Fits.of (k := 60) (by omega) (by decide)
  have fo : Fits 1 := Fits.of (k := 1) (by decide) (by decide)
  have rn : FitsR ((n : Int) : Rat) := ⟨fn, by show Lib.nDigits 1 ≤ 120; decide +kernel⟩
  have rm : FitsR (((n + 1 : Int)) : Rat) := ⟨fm, by show Lib.nDigits 1 ≤ 120; decide +kernel⟩
  have C16 := Lib.hid (fun W (hm : MLen W) => CompareReal_rat rn fa W hm)
  have C18 := Lib.hid (fun W (hm : MLen W) => CompareReal_rat rm fa W hm)
  have C17 := Lib.hid (fun W => Add_int fn fo _ rfl fm W)
  rw [show inum 1 = ⟨#[49]⟩ by kernel_rfl] at C17
  rw [show (((n + 1 : Int) : Rat)).num = n + 1 from rfl, show (((n + 1 : Int) : Rat)).den = 1 from rfl, show ((1 : Nat) : Int) = 1 from rfl, Int.mul_one, show cmpZ ((n + 1) * (a.den : Int)) a.num = 1 by unfold cmpZ; rw [if_neg (by omega), if_neg (by omega)]] at C18
  rw [show ((n : Int) : Rat).num = n from rfl, show ((n : Int) : Rat).den = 1 from rfl, show ((1 : Nat) : Int) = 1 from rfl, Int.mul_one] at C16
  obtain ⟨L, hL⟩ : ∃ L, cmpZ (n * (a.den : Int)) a.num = L := ⟨_, rfl⟩
  rw [hL] at C16
  have hL0 : L ≤ 0 := by rw [← hL]; unfold cmpZ; repeat' split <;> omega
  have dL : decide (L ≤ 0) = true := by simp; exact hL0
  have q1 := rnum_int n
  have q2 := rnum_int (n + 1)
  have z1 : (inum n).size ≤ 121 := numeral_short (s := isNeg n) fn
  have z2 : (inum (n + 1)).size ≤ 121 := numeral_short (s := isNeg (n + 1)) fm
  obtain ⟨R1, hR1⟩ : ∃ x : Rat, ((n : Int) : Rat) = x := ⟨_, rfl⟩
  obtain ⟨R2, hR2⟩ : ∃ x : Rat, ((n + 1 : Int) : Rat) = x := ⟨_, rfl⟩
  rw [hR1] at q1 C16
  rw [hR2] at q2 C18
  clear hR1 hR2 rn rm
  clear hL hL0 n1 n2 n3 la p58 HF hf1 hf7 h0 ha hb hc
  have d1 : decide ((60 : Int) < (rnum a).size) = false := by simp; omega
  have d2 : decide ((60 : Int) < (rnum b).size) = false := by simp; omega
  have d3 : decide ((60 : Int) < (rnum c).size) = false := by simp; omega
  have HW := Lib.hid (fun W (h : Env W) => awake_any W h)
  clear za zb zc
  go_enter Tryz.func9, Tryz.ntmps9
  go_wp2_with (first | (go_at_call 10; (with_reducible refine (HW.out _ HA.out.env).mono ?_); rintro e w6 ⟨rfl, hb6⟩; replace HA := Lib.hid (HA.out.step hb6); clear hb6) | (go_at_call 45; (with_reducible refine (K1.out _ HA.out.env.ml).mono ?_); rintro e w6 ⟨rfl, hb6⟩; replace HA := Lib.hid (HA.out.step hb6); clear hb6) | (go_at_call 45; (with_reducible refine (K2.out _ HA.out.env.ml).mono ?_); rintro e w6 ⟨rfl, hb6⟩; replace HA := Lib.hid (HA.out.step hb6); clear hb6) | (go_at_call 45; (with_reducible refine (K3.out _ HA.out.env.ml).mono ?_); rintro e w6 ⟨rfl, hb6⟩; replace HA := Lib.hid (HA.out.step hb6); clear hb6) | (go_at_call 35; (with_reducible refine (C1.out _ HA.out.env.ml).mono ?_); rintro e w6 ⟨rfl, hb6⟩; replace HA := Lib.hid (HA.out.step hb6); clear hb6) | (go_at_call 35; (with_reducible refine (C2.out _ HA.out.env.ml).mono ?_); rintro e w6 ⟨rfl, hb6⟩; replace HA := Lib.hid (HA.out.step hb6); clear hb6) | (go_at_call 35; (with_reducible refine (C3.out _ HA.out.env.ml).mono ?_); rintro e w6 ⟨rfl, hb6⟩; replace HA := Lib.hid (HA.out.step hb6); clear hb6) | (go_at_call 35; (with_reducible refine (C4.out _ HA.out.env.ml).mono ?_); rintro e w6 ⟨rfl, hb6⟩; replace HA := Lib.hid (HA.out.step hb6); clear hb6) | (go_at_call 39; (with_reducible refine (C5.out _ HA.out.env.ml).mono ?_); rintro e w6 ⟨rfl, hb6⟩; replace HA := Lib.hid (HA.out.step hb6); clear hb6) | (go_at_call 39; (with_reducible refine (C6.out _ HA.out.env.ml).mono ?_); rintro e w6 ⟨rfl, hb6⟩; replace HA := Lib.hid (HA.out.step hb6); clear hb6) | (go_at_call 39; (with_reducible refine (C7.out _ HA.out.env.ml).mono ?_); rintro e w6 ⟨rfl, hb6⟩; replace HA := Lib.hid (HA.out.step hb6); clear hb6) | (go_at_call 39; (with_reducible refine (C8.out _ HA.out.env.ml).mono ?_); rintro e w6 ⟨rfl, hb6⟩; replace HA := Lib.hid (HA.out.step hb6); clear hb6) | (go_at_call 35; (with_reducible refine (C9.out _ HA.out.env.ml).mono ?_); rintro e w6 ⟨rfl, hb6⟩; replace HA := Lib.hid (HA.out.step hb6); clear hb6) | (go_at_call 43; (with_reducible refine (C10.out _ HA.out.env.ml).mono ?_); rintro e w6 ⟨rfl, hb6⟩; replace HA := Lib.hid (HA.out.step hb6); clear hb6) | (go_at_call 37; (with_reducible refine (C11.out _ HA.out.env.ml).mono ?_); rintro e w6 ⟨rfl, hb6⟩; replace HA := Lib.hid (HA.out.step hb6); clear hb6) | (go_at_call 43; (with_reducible refine (C12.out _ HA.out.env.ml).mono ?_); rintro e w6 ⟨rfl, hb6⟩; replace HA := Lib.hid (HA.out.step hb6); clear hb6) | (go_at_call 53; (with_reducible refine (C15.out _ HA.out.env.ml).mono ?_); rintro e w6 ⟨rfl, hb6⟩; replace HA := Lib.hid (HA.out.step hb6); clear hb6) | (go_at_call 43; (with_reducible refine (C16.out _ HA.out.env.ml).mono ?_); rintro e w6 ⟨rfl, hb6⟩; replace HA := Lib.hid (HA.out.step hb6); clear hb6) | (go_at_call 43; (with_reducible refine (C18.out _ HA.out.env.ml).mono ?_); rintro e w6 ⟨rfl, hb6⟩; replace HA := Lib.hid (HA.out.step hb6); clear hb6) | (go_at_call 21; (with_reducible refine (C17.out _).mono ?_); rintro e w6 ⟨rfl, hb6⟩; replace HA := Lib.hid (HA.out.step hb6); clear hb6) | (go_at_call 61; (with_reducible refine (same_eq _ _ _ _).mono ?_); rintro e w6 ⟨rfl, hw6⟩; rw [hw6]; clear hw6))
  go_ret
  exact ⟨rfl, HA.out.bl⟩
set_option maxHeartbeats 40000000 in
theorem field_both_fit (a b c : Rat) (ha : Short a) (hb : Short b) (hc : Short c) (za : (rnum a).size ≤ 60) (zb : (rnum b).size ≤ 60) (zc : (rnum c).size ≤ 60) (K1 : Hid (∀ W, MLen W → Calls Tryz.prog 45 #[.string (rnum a)] W fun e w' => e = .returned (.int .i64 0) ∧ Below W.heap.size W w')) (K2 : Hid (∀ W, MLen W → Calls Tryz.prog 45 #[.string (rnum b)] W fun e w' => e = .returned (.int .i64 0) ∧ Below W.heap.size W w')) (K3 : Hid (∀ W, MLen W → Calls Tryz.prog 45 #[.string (rnum c)] W fun e w' => e = .returned (.int .i64 0) ∧ Below W.heap.size W w')) (g5 : FitsR (a * b)) (g8 : FitsR (a * c)) (h0 : b ≠ 0) (gd : FitsR (a / b)) (w : World) (he : Env w) :
    Calls Tryz.prog 9 #[.string (rnum a), .string (rnum b), .string (rnum c)] w fun e w' => e = .returned (.bool true) ∧ Below w.heap.size w w' := by
  have HA := Lib.hid (show Ar w w from ⟨Below.refl _ _, he⟩)
  clear he
  have fa := ha.fits
  have fb := hb.fits
  have fc := hc.fits
  have f1 := add_fits ha hb
  have f2 := add_fits hb hc
  have f3 := sub_fits ha hb
  have f0 : FitsR 0 := ⟨Fits.of (k := 1) (by decide) (by decide), by decide +kernel⟩
  have C1 := Lib.hid (fun W (hm : MLen W) => AddReal_rat fa fb _ rfl _ _ (finQ_ok f1) W hm)
  have C2 := Lib.hid (fun W (hm : MLen W) => AddReal_rat fb fc _ rfl _ _ (finQ_ok f2) W hm)
  obtain ⟨⟨r1, e1⟩, hf1⟩ : ∃ r, finQ (a + b + c) = r := ⟨_, rfl⟩
  have C3 := Lib.hid (fun W (hm : MLen W) => AddReal_rat f1 fc _ rfl r1 e1 hf1 W hm)
  have C4 := Lib.hid (fun W (hm : MLen W) => AddReal_rat fa f2 (a + b + c) (Rat.add_assoc a b c).symm r1 e1 hf1 W hm)
  have C5 := Lib.hid (fun W (hm : MLen W) => MulReal_rat fa fb _ rfl _ _ (finQ_ok g5) W hm)
  have C6 := Lib.hid (fun W (hm : MLen W) => MulReal_rat fb fa (a * b) (Rat.mul_comm b a) _ _ (finQ_ok g5) W hm)
  have C8 := Lib.hid (fun W (hm : MLen W) => MulReal_rat fa fc _ rfl _ _ (finQ_ok g8) W hm)
  obtain ⟨⟨r7, e7⟩, hf7⟩ : ∃ r, finQ (a * (b + c)) = r := ⟨_, rfl⟩
  have C7 := Lib.hid (fun W (hm : MLen W) => MulReal_rat fa f2 _ rfl r7 e7 hf7 W hm)
  have C9 := Lib.hid (fun W (hm : MLen W) => AddReal_rat g5 g8 (a * (b + c)) (Rat.mul_add a b c).symm r7 e7 hf7 W hm)
  obtain ⟨k, hk⟩ : ∃ k, cmpZ (a.num * b.den) (b.num * a.den) = k := ⟨_, rfl⟩
  have C10 := Lib.hid (fun W (hm : MLen W) => CompareReal_rat fa fb W hm)
  have C11 := Lib.hid (fun W (hm : MLen W) => SubReal_rat fa fb _ rfl _ _ (finQ_ok f3) W hm)
  have C12 := Lib.hid (fun W (hm : MLen W) => CompareReal_rat f3 f0 W hm)
  rw [cmp_sub, hk, rnum_zero] at C12
  rw [hk] at C10
  have hab := cmp_self_iff hk
  clear hk
  have hbz : ((rnum b).toList == [48, 47, 49]) = false := by rw [show [48, 47, 49] = (rnum 0).toList by rw [Lib.toList_data]; kernel_rfl]; first | exact beq_iff_eq.2 (rnum_list.2 h0) | (rw [Bool.eq_false_iff]; intro h; exact h0 (rnum_list.1 (beq_iff_eq.1 h)))
  have hbn : ((rnum b).toList != [48, 47, 49]) = true := by rw [bne, hbz]; rfl
  have C13 := Lib.hid (fun W (hm : MLen W) => DivReal_rat fa fb h0 _ rfl _ _ (finQ_ok gd) W hm)
  have C14 := Lib.hid (fun W (hm : MLen W) => MulReal_rat gd fb a (Rat.div_mul_cancel h0) _ _ (finQ_ok fa) W hm)
  have p58 : (10 : Nat) ^ 58 + 2 < 10 ^ 60 := by decide
  have la := ha.lt.1
  obtain ⟨n, n1, n2, n3, HF⟩ := Floor_rat fa (by omega)
  have C15 := Lib.hid HF
  have fn : Fits n := Fits.of (k := 60) (by omega) (by decide)
  have fm : Fits (n + 1) := Fits.of (k := 60) (by omega) (by decide)
  have fo : Fits 1 := Fits.of (k := 1) (by decide) (by decide)
  have rn : FitsR ((n : Int) : Rat) := ⟨fn, by show Lib.nDigits 1 ≤ 120; decide +kernel⟩
  have rm : FitsR (((n + 1 : Int)) : Rat) := ⟨fm, by show Lib.nDigits 1 ≤ 120; decide +kernel⟩
  have C16 := Lib.hid (fun W (hm : MLen W) => CompareReal_rat rn fa W hm)
  have C18 := Lib.hid (fun W (hm : MLen W) => CompareReal_rat rm fa W hm)
  have C17 := Lib.hid (fun W => Add_int fn fo _ rfl fm W)
  rw [show inum 1 = ⟨#[49]⟩ by kernel_rfl] at C17
  rw [show (((n + 1 : Int) : Rat)).num = n + 1 from rfl, show (((n + 1 : Int) : Rat)).den = 1 from rfl, show ((1 : Nat) : Int) = 1 from rfl, Int.mul_one, show cmpZ ((n + 1) * (a.den : Int)) a.num = 1 by unfold cmpZ; rw [if_neg (by omega), if_neg (by omega)]] at C18
  rw [show ((n : Int) : Rat).num = n from rfl, show ((n : Int) : Rat).den = 1 from rfl, show ((1 : Nat) : Int) = 1 from rfl, Int.mul_one] at C16
  obtain ⟨L, hL⟩ : ∃ L, cmpZ (n * (a.den : Int)) a.num = L := ⟨_, rfl⟩
  rw [hL] at C16
  have hL0 : L ≤ 0 := by rw [← hL]; unfold cmpZ; repeat' split <;> omega
  have dL : decide (L ≤ 0) = true := by simp; exact hL0
  have q1 := rnum_int n
  have q2 := rnum_int (n + 1)
  have z1 : (inum n).size ≤ 121 := numeral_short (s := isNeg n) fn
  have z2 : (inum (n + 1)).size ≤ 121 := numeral_short (s := isNeg (n + 1)) fm
  obtain ⟨R1, hR1⟩ : ∃ x : Rat, ((n : Int) : Rat) = x := ⟨_, rfl⟩
  obtain ⟨R2, hR2⟩ : ∃ x : Rat, ((n + 1 : Int) : Rat) = x := ⟨_, rfl⟩
  rw [hR1] at q1 C16
  rw [hR2] at q2 C18
  clear hR1 hR2 rn rm
  clear hL hL0 n1 n2 n3 la p58 HF hf1 hf7 h0 ha hb hc
  have d1 : decide ((60 : Int) < (rnum a).size) = false := by simp; omega
  have d2 : decide ((60 : Int) < (rnum b).size) = false := by simp; omega
  have d3 : decide ((60 : Int) < (rnum c).size) = false := by simp; omega
  have HW := Lib.hid (fun W (h : Env W) => awake_any W h)
  clear za zb zc
  go_enter Tryz.func9, Tryz.ntmps9
  go_wp2_with (first | (go_at_call 10; (with_reducible refine (HW.out _ HA.out.env).mono ?_); rintro e w6 ⟨rfl, hb6⟩; replace HA := Lib.hid (HA.out.step hb6); clear hb6) | (go_at_call 45; (with_reducible refine (K1.out _ HA.out.env.ml).mono ?_); rintro e w6 ⟨rfl, hb6⟩; replace HA := Lib.hid (HA.out.step hb6); clear hb6) | (go_at_call 45; (with_reducible refine (K2.out _ HA.out.env.ml).mono ?_); rintro e w6 ⟨rfl, hb6⟩; replace HA := Lib.hid (HA.out.step hb6); clear hb6) | (go_at_call 45; (with_reducible refine (K3.out _ HA.out.env.ml).mono ?_); rintro e w6 ⟨rfl, hb6⟩; replace HA := Lib.hid (HA.out.step hb6); clear hb6) | (go_at_call 35; (with_reducible refine (C1.out _ HA.out.env.ml).mono ?_); rintro e w6 ⟨rfl, hb6⟩; replace HA := Lib.hid (HA.out.step hb6); clear hb6) | (go_at_call 35; (with_reducible refine (C2.out _ HA.out.env.ml).mono ?_); rintro e w6 ⟨rfl, hb6⟩; replace HA := Lib.hid (HA.out.step hb6); clear hb6) | (go_at_call 35; (with_reducible refine (C3.out _ HA.out.env.ml).mono ?_); rintro e w6 ⟨rfl, hb6⟩; replace HA := Lib.hid (HA.out.step hb6); clear hb6) | (go_at_call 35; (with_reducible refine (C4.out _ HA.out.env.ml).mono ?_); rintro e w6 ⟨rfl, hb6⟩; replace HA := Lib.hid (HA.out.step hb6); clear hb6) | (go_at_call 39; (with_reducible refine (C5.out _ HA.out.env.ml).mono ?_); rintro e w6 ⟨rfl, hb6⟩; replace HA := Lib.hid (HA.out.step hb6); clear hb6) | (go_at_call 39; (with_reducible refine (C6.out _ HA.out.env.ml).mono ?_); rintro e w6 ⟨rfl, hb6⟩; replace HA := Lib.hid (HA.out.step hb6); clear hb6) | (go_at_call 39; (with_reducible refine (C7.out _ HA.out.env.ml).mono ?_); rintro e w6 ⟨rfl, hb6⟩; replace HA := Lib.hid (HA.out.step hb6); clear hb6) | (go_at_call 39; (with_reducible refine (C8.out _ HA.out.env.ml).mono ?_); rintro e w6 ⟨rfl, hb6⟩; replace HA := Lib.hid (HA.out.step hb6); clear hb6) | (go_at_call 35; (with_reducible refine (C9.out _ HA.out.env.ml).mono ?_); rintro e w6 ⟨rfl, hb6⟩; replace HA := Lib.hid (HA.out.step hb6); clear hb6) | (go_at_call 43; (with_reducible refine (C10.out _ HA.out.env.ml).mono ?_); rintro e w6 ⟨rfl, hb6⟩; replace HA := Lib.hid (HA.out.step hb6); clear hb6) | (go_at_call 37; (with_reducible refine (C11.out _ HA.out.env.ml).mono ?_); rintro e w6 ⟨rfl, hb6⟩; replace HA := Lib.hid (HA.out.step hb6); clear hb6) | (go_at_call 43; (with_reducible refine (C12.out _ HA.out.env.ml).mono ?_); rintro e w6 ⟨rfl, hb6⟩; replace HA := Lib.hid (HA.out.step hb6); clear hb6) | (go_at_call 41; (with_reducible refine (C13.out _ HA.out.env.ml).mono ?_); rintro e w6 ⟨rfl, hb6⟩; replace HA := Lib.hid (HA.out.step hb6); clear hb6) | (go_at_call 39; (with_reducible refine (C14.out _ HA.out.env.ml).mono ?_); rintro e w6 ⟨rfl, hb6⟩; replace HA := Lib.hid (HA.out.step hb6); clear hb6) | (go_at_call 53; (with_reducible refine (C15.out _ HA.out.env.ml).mono ?_); rintro e w6 ⟨rfl, hb6⟩; replace HA := Lib.hid (HA.out.step hb6); clear hb6) | (go_at_call 43; (with_reducible refine (C16.out _ HA.out.env.ml).mono ?_); rintro e w6 ⟨rfl, hb6⟩; replace HA := Lib.hid (HA.out.step hb6); clear hb6) | (go_at_call 43; (with_reducible refine (C18.out _ HA.out.env.ml).mono ?_); rintro e w6 ⟨rfl, hb6⟩; replace HA := Lib.hid (HA.out.step hb6); clear hb6) | (go_at_call 21; (with_reducible refine (C17.out _).mono ?_); rintro e w6 ⟨rfl, hb6⟩; replace HA := Lib.hid (HA.out.step hb6); clear hb6) | (go_at_call 61; (with_reducible refine (same_eq _ _ _ _).mono ?_); rintro e w6 ⟨rfl, hw6⟩; rw [hw6]; clear hw6))
  go_ret
  exact ⟨rfl, HA.out.bl⟩
set_option maxHeartbeats 40000000 in
theorem field_both_nofit (a b c : Rat) (ha : Short a) (hb : Short b) (hc : Short c) (za : (rnum a).size ≤ 60) (zb : (rnum b).size ≤ 60) (zc : (rnum c).size ≤ 60) (K1 : Hid (∀ W, MLen W → Calls Tryz.prog 45 #[.string (rnum a)] W fun e w' => e = .returned (.int .i64 0) ∧ Below W.heap.size W w')) (K2 : Hid (∀ W, MLen W → Calls Tryz.prog 45 #[.string (rnum b)] W fun e w' => e = .returned (.int .i64 0) ∧ Below W.heap.size W w')) (K3 : Hid (∀ W, MLen W → Calls Tryz.prog 45 #[.string (rnum c)] W fun e w' => e = .returned (.int .i64 0) ∧ Below W.heap.size W w')) (g5 : FitsR (a * b)) (g8 : FitsR (a * c)) (h0 : b ≠ 0) (gd : ¬ FitsR (a / b)) (w : World) (he : Env w) :
    Calls Tryz.prog 9 #[.string (rnum a), .string (rnum b), .string (rnum c)] w fun e w' => e = .returned (.bool true) ∧ Below w.heap.size w w' := by
  have HA := Lib.hid (show Ar w w from ⟨Below.refl _ _, he⟩)
  clear he
  have fa := ha.fits
  have fb := hb.fits
  have fc := hc.fits
  have f1 := add_fits ha hb
  have f2 := add_fits hb hc
  have f3 := sub_fits ha hb
  have f0 : FitsR 0 := ⟨Fits.of (k := 1) (by decide) (by decide), by decide +kernel⟩
  have C1 := Lib.hid (fun W (hm : MLen W) => AddReal_rat fa fb _ rfl _ _ (finQ_ok f1) W hm)
  have C2 := Lib.hid (fun W (hm : MLen W) => AddReal_rat fb fc _ rfl _ _ (finQ_ok f2) W hm)
  obtain ⟨⟨r1, e1⟩, hf1⟩ : ∃ r, finQ (a + b + c) = r := ⟨_, rfl⟩
  have C3 := Lib.hid (fun W (hm : MLen W) => AddReal_rat f1 fc _ rfl r1 e1 hf1 W hm)
  have C4 := Lib.hid (fun W (hm : MLen W) => AddReal_rat fa f2 (a + b + c) (Rat.add_assoc a b c).symm r1 e1 hf1 W hm)
  have C5 := Lib.hid (fun W (hm : MLen W) => MulReal_rat fa fb _ rfl _ _ (finQ_ok g5) W hm)
  have C6 := Lib.hid (fun W (hm : MLen W) => MulReal_rat fb fa (a * b) (Rat.mul_comm b a) _ _ (finQ_ok g5) W hm)
  have C8 := Lib.hid (fun W (hm : MLen W) => MulReal_rat fa fc _ rfl _ _ (finQ_ok g8) W hm)
  obtain ⟨⟨r7, e7⟩, hf7⟩ : ∃ r, finQ (a * (b + c)) = r := ⟨_, rfl⟩
  have C7 := Lib.hid (fun W (hm : MLen W) => MulReal_rat fa f2 _ rfl r7 e7 hf7 W hm)
  have C9 := Lib.hid (fun W (hm : MLen W) => AddReal_rat g5 g8 (a * (b + c)) (Rat.mul_add a b c).symm r7 e7 hf7 W hm)
  obtain ⟨k, hk⟩ : ∃ k, cmpZ (a.num * b.den) (b.num * a.den) = k := ⟨_, rfl⟩
  have C10 := Lib.hid (fun W (hm : MLen W) => CompareReal_rat fa fb W hm)
  have C11 := Lib.hid (fun W (hm : MLen W) => SubReal_rat fa fb _ rfl _ _ (finQ_ok f3) W hm)
  have C12 := Lib.hid (fun W (hm : MLen W) => CompareReal_rat f3 f0 W hm)
  rw [cmp_sub, hk, rnum_zero] at C12
  rw [hk] at C10
  have hab := cmp_self_iff hk
  clear hk
  have hbz : ((rnum b).toList == [48, 47, 49]) = false := by rw [show [48, 47, 49] = (rnum 0).toList by rw [Lib.toList_data]; kernel_rfl]; first | exact beq_iff_eq.2 (rnum_list.2 h0) | (rw [Bool.eq_false_iff]; intro h; exact h0 (rnum_list.1 (beq_iff_eq.1 h)))
  have hbn : ((rnum b).toList != [48, 47, 49]) = true := by rw [bne, hbz]; rfl
  have C13 := Lib.hid (fun W (hm : MLen W) => DivReal_rat fa fb h0 _ rfl _ _ (finQ_err gd) W hm)
  have p58 : (10 : Nat) ^ 58 + 2 < 10 ^ 60 := by decide
  have la := ha.lt.1
  obtain ⟨n, n1, n2, n3, HF⟩ := Floor_rat fa (by omega)
  have C15 := Lib.hid HF
  have fn : Fits n := Fits.of (k := 60) (by omega) (by decide)
  have fm : Fits (n + 1) := Fits.of (k := 60) (by omega) (by decide)
  have fo : Fits 1 := Fits.of (k := 1) (by decide) (by decide)
  have rn : FitsR ((n : Int) : Rat) := ⟨fn, by show Lib.nDigits 1 ≤ 120; decide +kernel⟩
  have rm : FitsR (((n + 1 : Int)) : Rat) := ⟨fm, by show Lib.nDigits 1 ≤ 120; decide +kernel⟩
  have C16 := Lib.hid (fun W (hm : MLen W) => CompareReal_rat rn fa W hm)
  have C18 := Lib.hid (fun W (hm : MLen W) => CompareReal_rat rm fa W hm)
  have C17 := Lib.hid (fun W => Add_int fn fo _ rfl fm W)
  rw [show inum 1 = ⟨#[49]⟩ by kernel_rfl] at C17
  rw [show (((n + 1 : Int) : Rat)).num = n + 1 from rfl, show (((n + 1 : Int) : Rat)).den = 1 from rfl, show ((1 : Nat) : Int) = 1 from rfl, Int.mul_one, show cmpZ ((n + 1) * (a.den : Int)) a.num = 1 by unfold cmpZ; rw [if_neg (by omega), if_neg (by omega)]] at C18
  rw [show ((n : Int) : Rat).num = n from rfl, show ((n : Int) : Rat).den = 1 from rfl, show ((1 : Nat) : Int) = 1 from rfl, Int.mul_one] at C16
  obtain ⟨L, hL⟩ : ∃ L, cmpZ (n * (a.den : Int)) a.num = L := ⟨_, rfl⟩
  rw [hL] at C16
  have hL0 : L ≤ 0 := by rw [← hL]; unfold cmpZ; repeat' split <;> omega
  have dL : decide (L ≤ 0) = true := by simp; exact hL0
  have q1 := rnum_int n
  have q2 := rnum_int (n + 1)
  have z1 : (inum n).size ≤ 121 := numeral_short (s := isNeg n) fn
  have z2 : (inum (n + 1)).size ≤ 121 := numeral_short (s := isNeg (n + 1)) fm
  obtain ⟨R1, hR1⟩ : ∃ x : Rat, ((n : Int) : Rat) = x := ⟨_, rfl⟩
  obtain ⟨R2, hR2⟩ : ∃ x : Rat, ((n + 1 : Int) : Rat) = x := ⟨_, rfl⟩
  rw [hR1] at q1 C16
  rw [hR2] at q2 C18
  clear hR1 hR2 rn rm
  clear hL hL0 n1 n2 n3 la p58 HF hf1 hf7 h0 ha hb hc
  have d1 : decide ((60 : Int) < (rnum a).size) = false := by simp; omega
  have d2 : decide ((60 : Int) < (rnum b).size) = false := by simp; omega
  have d3 : decide ((60 : Int) < (rnum c).size) = false := by simp; omega
  have HW := Lib.hid (fun W (h : Env W) => awake_any W h)
  clear za zb zc
  go_enter Tryz.func9, Tryz.ntmps9
  go_wp2_with (first | (go_at_call 10; (with_reducible refine (HW.out _ HA.out.env).mono ?_); rintro e w6 ⟨rfl, hb6⟩; replace HA := Lib.hid (HA.out.step hb6); clear hb6) | (go_at_call 45; (with_reducible refine (K1.out _ HA.out.env.ml).mono ?_); rintro e w6 ⟨rfl, hb6⟩; replace HA := Lib.hid (HA.out.step hb6); clear hb6) | (go_at_call 45; (with_reducible refine (K2.out _ HA.out.env.ml).mono ?_); rintro e w6 ⟨rfl, hb6⟩; replace HA := Lib.hid (HA.out.step hb6); clear hb6) | (go_at_call 45; (with_reducible refine (K3.out _ HA.out.env.ml).mono ?_); rintro e w6 ⟨rfl, hb6⟩; replace HA := Lib.hid (HA.out.step hb6); clear hb6) | (go_at_call 35; (with_reducible refine (C1.out _ HA.out.env.ml).mono ?_); rintro e w6 ⟨rfl, hb6⟩; replace HA := Lib.hid (HA.out.step hb6); clear hb6) | (go_at_call 35; (with_reducible refine (C2.out _ HA.out.env.ml).mono ?_); rintro e w6 ⟨rfl, hb6⟩; replace HA := Lib.hid (HA.out.step hb6); clear hb6) | (go_at_call 35; (with_reducible refine (C3.out _ HA.out.env.ml).mono ?_); rintro e w6 ⟨rfl, hb6⟩; replace HA := Lib.hid (HA.out.step hb6); clear hb6) | (go_at_call 35; (with_reducible refine (C4.out _ HA.out.env.ml).mono ?_); rintro e w6 ⟨rfl, hb6⟩; replace HA := Lib.hid (HA.out.step hb6); clear hb6) | (go_at_call 39; (with_reducible refine (C5.out _ HA.out.env.ml).mono ?_); rintro e w6 ⟨rfl, hb6⟩; replace HA := Lib.hid (HA.out.step hb6); clear hb6) | (go_at_call 39; (with_reducible refine (C6.out _ HA.out.env.ml).mono ?_); rintro e w6 ⟨rfl, hb6⟩; replace HA := Lib.hid (HA.out.step hb6); clear hb6) | (go_at_call 39; (with_reducible refine (C7.out _ HA.out.env.ml).mono ?_); rintro e w6 ⟨rfl, hb6⟩; replace HA := Lib.hid (HA.out.step hb6); clear hb6) | (go_at_call 39; (with_reducible refine (C8.out _ HA.out.env.ml).mono ?_); rintro e w6 ⟨rfl, hb6⟩; replace HA := Lib.hid (HA.out.step hb6); clear hb6) | (go_at_call 35; (with_reducible refine (C9.out _ HA.out.env.ml).mono ?_); rintro e w6 ⟨rfl, hb6⟩; replace HA := Lib.hid (HA.out.step hb6); clear hb6) | (go_at_call 43; (with_reducible refine (C10.out _ HA.out.env.ml).mono ?_); rintro e w6 ⟨rfl, hb6⟩; replace HA := Lib.hid (HA.out.step hb6); clear hb6) | (go_at_call 37; (with_reducible refine (C11.out _ HA.out.env.ml).mono ?_); rintro e w6 ⟨rfl, hb6⟩; replace HA := Lib.hid (HA.out.step hb6); clear hb6) | (go_at_call 43; (with_reducible refine (C12.out _ HA.out.env.ml).mono ?_); rintro e w6 ⟨rfl, hb6⟩; replace HA := Lib.hid (HA.out.step hb6); clear hb6) | (go_at_call 41; (with_reducible refine (C13.out _ HA.out.env.ml).mono ?_); rintro e w6 ⟨rfl, hb6⟩; replace HA := Lib.hid (HA.out.step hb6); clear hb6) | (go_at_call 53; (with_reducible refine (C15.out _ HA.out.env.ml).mono ?_); rintro e w6 ⟨rfl, hb6⟩; replace HA := Lib.hid (HA.out.step hb6); clear hb6) | (go_at_call 43; (with_reducible refine (C16.out _ HA.out.env.ml).mono ?_); rintro e w6 ⟨rfl, hb6⟩; replace HA := Lib.hid (HA.out.step hb6); clear hb6) | (go_at_call 43; (with_reducible refine (C18.out _ HA.out.env.ml).mono ?_); rintro e w6 ⟨rfl, hb6⟩; replace HA := Lib.hid (HA.out.step hb6); clear hb6) | (go_at_call 21; (with_reducible refine (C17.out _).mono ?_); rintro e w6 ⟨rfl, hb6⟩; replace HA := Lib.hid (HA.out.step hb6); clear hb6) | (go_at_call 61; (with_reducible refine (same_eq _ _ _ _).mono ?_); rintro e w6 ⟨rfl, hw6⟩; rw [hw6]; clear hw6))
  go_ret
  exact ⟨rfl, HA.out.bl⟩
set_option maxHeartbeats 40000000 in
theorem field_no5_zero (a b c : Rat) (ha : Short a) (hb : Short b) (hc : Short c) (za : (rnum a).size ≤ 60) (zb : (rnum b).size ≤ 60) (zc : (rnum c).size ≤ 60) (K1 : Hid (∀ W, MLen W → Calls Tryz.prog 45 #[.string (rnum a)] W fun e w' => e = .returned (.int .i64 0) ∧ Below W.heap.size W w')) (K2 : Hid (∀ W, MLen W → Calls Tryz.prog 45 #[.string (rnum b)] W fun e w' => e = .returned (.int .i64 0) ∧ Below W.heap.size W w')) (K3 : Hid (∀ W, MLen W → Calls Tryz.prog 45 #[.string (rnum c)] W fun e w' => e = .returned (.int .i64 0) ∧ Below W.heap.size W w')) (g5 : ¬ FitsR (a * b)) (h0 : b = 0) (w : World) (he : Env w) :
    Calls Tryz.prog 9 #[.string (rnum a), .string (rnum b), .string (rnum c)] w fun e w' => e = .returned (.bool true) ∧ Below w.heap.size w w' := by
  have HA := Lib.hid (show Ar w w from ⟨Below.refl _ _, he⟩)
  clear he
  have fa := ha.fits
  have fb := hb.fits
  have fc := hc.fits
  have f1 := add_fits ha hb
  have f2 := add_fits hb hc
  have f3 := sub_fits ha hb
  have f0 : FitsR 0 := ⟨Fits.of (k := 1) (by decide) (by decide), by decide +kernel⟩
  have C1 := Lib.hid (fun W (hm : MLen W) => AddReal_rat fa fb _ rfl _ _ (finQ_ok f1) W hm)
  have C2 := Lib.hid (fun W (hm : MLen W) => AddReal_rat fb fc _ rfl _ _ (finQ_ok f2) W hm)
  obtain ⟨⟨r1, e1⟩, hf1⟩ : ∃ r, finQ (a + b + c) = r := ⟨_, rfl⟩
  have C3 := Lib.hid (fun W (hm : MLen W) => AddReal_rat f1 fc _ rfl r1 e1 hf1 W hm)
  have C4 := Lib.hid (fun W (hm : MLen W) => AddReal_rat fa f2 (a + b + c) (Rat.add_assoc a b c).symm r1 e1 hf1 W hm)
  have C5 := Lib.hid (fun W (hm : MLen W) => MulReal_rat fa fb _ rfl _ _ (finQ_err g5) W hm)
  have C6 := Lib.hid (fun W (hm : MLen W) => MulReal_rat fb fa (a * b) (Rat.mul_comm b a) _ _ (finQ_err g5) W hm)
  obtain ⟨⟨r8, e8⟩, hf8⟩ : ∃ r, finQ (a * c) = r := ⟨_, rfl⟩
  have C8 := Lib.hid (fun W (hm : MLen W) => MulReal_rat fa fc _ rfl r8 e8 hf8 W hm)
  obtain ⟨⟨r7, e7⟩, hf7⟩ : ∃ r, finQ (a * (b + c)) = r := ⟨_, rfl⟩
  have C7 := Lib.hid (fun W (hm : MLen W) => MulReal_rat fa f2 _ rfl r7 e7 hf7 W hm)
  obtain ⟨k, hk⟩ : ∃ k, cmpZ (a.num * b.den) (b.num * a.den) = k := ⟨_, rfl⟩
  have C10 := Lib.hid (fun W (hm : MLen W) => CompareReal_rat fa fb W hm)
  have C11 := Lib.hid (fun W (hm : MLen W) => SubReal_rat fa fb _ rfl _ _ (finQ_ok f3) W hm)
  have C12 := Lib.hid (fun W (hm : MLen W) => CompareReal_rat f3 f0 W hm)
  rw [cmp_sub, hk, rnum_zero] at C12
  rw [hk] at C10
  have hab := cmp_self_iff hk
  clear hk
  have hbz : ((rnum b).toList == [48, 47, 49]) = true := by rw [show [48, 47, 49] = (rnum 0).toList by rw [Lib.toList_data]; kernel_rfl]; first | exact beq_iff_eq.2 (rnum_list.2 h0) | (rw [Bool.eq_false_iff]; intro h; exact h0 (rnum_list.1 (beq_iff_eq.1 h)))
  have hbn : ((rnum b).toList != [48, 47, 49]) = false := by rw [bne, hbz]; rfl
  have p58 : (10 : Nat) ^ 58 + 2 < 10 ^ 60 := by decide
  have la := ha.lt.1
  obtain ⟨n, n1, n2, n3, HF⟩ := Floor_rat fa (by omega)
  have C15 := Lib.hid HF
  have fn : Fits n := Fits.of (k := 60) (by omega) (by decide)
  have fm : Fits (n + 1) := Fits.of (k := 60) (by omega) (by decide)
  have fo : Fits 1 := Fits.of (k := 1) (by decide) (by decide)
  have rn : FitsR ((n : Int) : Rat) := ⟨fn, by show Lib.nDigits 1 ≤ 120; decide +kernel⟩
  have rm : FitsR (((n + 1 : Int)) : Rat) := ⟨fm, by show Lib.nDigits 1 ≤ 120; decide +kernel⟩
  have C16 := Lib.hid (fun W (hm : MLen W) => CompareReal_rat rn fa W hm)
  have C18 := Lib.hid (fun W (hm : MLen W) => CompareReal_rat rm fa W hm)
  have C17 := Lib.hid (fun W => Add_int fn fo _ rfl fm W)
  rw [show inum 1 = ⟨#[49]⟩ by kernel_rfl] at C17
  rw [show (((n + 1 : Int) : Rat)).num = n + 1 from rfl, show (((n + 1 : Int) : Rat)).den = 1 from rfl, show ((1 : Nat) : Int) = 1 from rfl, Int.mul_one, show cmpZ ((n + 1) * (a.den : Int)) a.num = 1 by unfold cmpZ; rw [if_neg (by omega), if_neg (by omega)]] at C18
  rw [show ((n : Int) : Rat).num = n from rfl, show ((n : Int) : Rat).den = 1 from rfl, show ((1 : Nat) : Int) = 1 from rfl, Int.mul_one] at C16
  obtain ⟨L, hL⟩ : ∃ L, cmpZ (n * (a.den : Int)) a.num = L := ⟨_, rfl⟩
  rw [hL] at C16
  have hL0 : L ≤ 0 := by rw [← hL]; unfold cmpZ; repeat' split <;> omega
  have dL : decide (L ≤ 0) = true := by simp; exact hL0
  have q1 := rnum_int n
  have q2 := rnum_int (n + 1)
  have z1 : (inum n).size ≤ 121 := numeral_short (s := isNeg n) fn
  have z2 : (inum (n + 1)).size ≤ 121 := numeral_short (s := isNeg (n + 1)) fm
  obtain ⟨R1, hR1⟩ : ∃ x : Rat, ((n : Int) : Rat) = x := ⟨_, rfl⟩
  obtain ⟨R2, hR2⟩ : ∃ x : Rat, ((n + 1 : Int) : Rat) = x := ⟨_, rfl⟩
  rw [hR1] at q1 C16
  rw [hR2] at q2 C18
  clear hR1 hR2 rn rm
  clear hL hL0 n1 n2 n3 la p58 HF hf1 hf7 hf8 h0 ha hb hc
  have d1 : decide ((60 : Int) < (rnum a).size) = false := by simp; omega
  have d2 : decide ((60 : Int) < (rnum b).size) = false := by simp; omega
  have d3 : decide ((60 : Int) < (rnum c).size) = false := by simp; omega
  have HW := Lib.hid (fun W (h : Env W) => awake_any W h)
  clear za zb zc
  go_enter Tryz.func9, Tryz.ntmps9
  go_wp2_with (first | (go_at_call 10; (with_reducible refine (HW.out _ HA.out.env).mono ?_); rintro e w6 ⟨rfl, hb6⟩; replace HA := Lib.hid (HA.out.step hb6); clear hb6) | (go_at_call 45; (with_reducible refine (K1.out _ HA.out.env.ml).mono ?_); rintro e w6 ⟨rfl, hb6⟩; replace HA := Lib.hid (HA.out.step hb6); clear hb6) | (go_at_call 45; (with_reducible refine (K2.out _ HA.out.env.ml).mono ?_); rintro e w6 ⟨rfl, hb6⟩; replace HA := Lib.hid (HA.out.step hb6); clear hb6) | (go_at_call 45; (with_reducible refine (K3.out _ HA.out.env.ml).mono ?_); rintro e w6 ⟨rfl, hb6⟩; replace HA := Lib.hid (HA.out.step hb6); clear hb6) | (go_at_call 35; (with_reducible refine (C1.out _ HA.out.env.ml).mono ?_); rintro e w6 ⟨rfl, hb6⟩; replace HA := Lib.hid (HA.out.step hb6); clear hb6) | (go_at_call 35; (with_reducible refine (C2.out _ HA.out.env.ml).mono ?_); rintro e w6 ⟨rfl, hb6⟩; replace HA := Lib.hid (HA.out.step hb6); clear hb6) | (go_at_call 35; (with_reducible refine (C3.out _ HA.out.env.ml).mono ?_); rintro e w6 ⟨rfl, hb6⟩; replace HA := Lib.hid (HA.out.step hb6); clear hb6) | (go_at_call 35; (with_reducible refine (C4.out _ HA.out.env.ml).mono ?_); rintro e w6 ⟨rfl, hb6⟩; replace HA := Lib.hid (HA.out.step hb6); clear hb6) | (go_at_call 39; (with_reducible refine (C5.out _ HA.out.env.ml).mono ?_); rintro e w6 ⟨rfl, hb6⟩; replace HA := Lib.hid (HA.out.step hb6); clear hb6) | (go_at_call 39; (with_reducible refine (C6.out _ HA.out.env.ml).mono ?_); rintro e w6 ⟨rfl, hb6⟩; replace HA := Lib.hid (HA.out.step hb6); clear hb6) | (go_at_call 39; (with_reducible refine (C7.out _ HA.out.env.ml).mono ?_); rintro e w6 ⟨rfl, hb6⟩; replace HA := Lib.hid (HA.out.step hb6); clear hb6) | (go_at_call 39; (with_reducible refine (C8.out _ HA.out.env.ml).mono ?_); rintro e w6 ⟨rfl, hb6⟩; replace HA := Lib.hid (HA.out.step hb6); clear hb6) | (go_at_call 43; (with_reducible refine (C10.out _ HA.out.env.ml).mono ?_); rintro e w6 ⟨rfl, hb6⟩; replace HA := Lib.hid (HA.out.step hb6); clear hb6) | (go_at_call 37; (with_reducible refine (C11.out _ HA.out.env.ml).mono ?_); rintro e w6 ⟨rfl, hb6⟩; replace HA := Lib.hid (HA.out.step hb6); clear hb6) | (go_at_call 43; (with_reducible refine (C12.out _ HA.out.env.ml).mono ?_); rintro e w6 ⟨rfl, hb6⟩; replace HA := Lib.hid (HA.out.step hb6); clear hb6) | (go_at_call 53; (with_reducible refine (C15.out _ HA.out.env.ml).mono ?_); rintro e w6 ⟨rfl, hb6⟩; replace HA := Lib.hid (HA.out.step hb6); clear hb6) | (go_at_call 43; (with_reducible refine (C16.out _ HA.out.env.ml).mono ?_); rintro e w6 ⟨rfl, hb6⟩; replace HA := Lib.hid (HA.out.step hb6); clear hb6) | (go_at_call 43; (with_reducible refine (C18.out _ HA.out.env.ml).mono ?_); rintro e w6 ⟨rfl, hb6⟩; replace HA := Lib.hid (HA.out.step hb6); clear hb6) | (go_at_call 21; (with_reducible refine (C17.out _).mono ?_); rintro e w6 ⟨rfl, hb6⟩; replace HA := Lib.hid (HA.out.step hb6); clear hb6) | (go_at_call 61; (with_reducible refine (same_eq _ _ _ _).mono ?_); rintro e w6 ⟨rfl, hw6⟩; rw [hw6]; clear hw6))
  go_ret
  exact ⟨rfl, HA.out.bl⟩
set_option maxHeartbeats 40000000 in
theorem field_no5_fit (a b c : Rat) (ha : Short a) (hb : Short b) (hc : Short c) (za : (rnum a).size ≤ 60) (zb : (rnum b).size ≤ 60) (zc : (rnum c).size ≤ 60) (K1 : Hid (∀ W, MLen W → Calls Tryz.prog 45 #[.string (rnum a)] W fun e w' => e = .returned (.int .i64 0) ∧ Below W.heap.size W w')) (K2 : Hid (∀ W, MLen W → Calls Tryz.prog 45 #[.string (rnum b)] W fun e w' => e = .returned (.int .i64 0) ∧ Below W.heap.size W w')) (K3 : Hid (∀ W, MLen W → Calls Tryz.prog 45 #[.string (rnum c)] W fun e w' => e = .returned (.int .i64 0) ∧ Below W.heap.size W w')) (g5 : ¬ FitsR (a * b)) (h0 : b ≠ 0) (gd : FitsR (a / b)) (w : World) (he : Env w) :
    Calls Tryz.prog 9 #[.string (rnum a), .string (rnum b), .string (rnum c)] w fun e w' => e = .returned (.bool true) ∧ Below w.heap.size w w' := by
  have HA := Lib.hid (show Ar w w from ⟨Below.refl _ _, he⟩)
  clear he
  have fa := ha.fits
  have fb := hb.fits
  have fc := hc.fits
  have f1 := add_fits ha hb
  have f2 := add_fits hb hc
  have f3 := sub_fits ha hb
  have f0 : FitsR 0 := ⟨Fits.of (k := 1) (by decide) (by decide), by decide +kernel⟩
  have C1 := Lib.hid (fun W (hm : MLen W) => AddReal_rat fa fb _ rfl _ _ (finQ_ok f1) W hm)
  have C2 := Lib.hid (fun W (hm : MLen W) => AddReal_rat fb fc _ rfl _ _ (finQ_ok f2) W hm)
  obtain ⟨⟨r1, e1⟩, hf1⟩ : ∃ r, finQ (a + b + c) = r := ⟨_, rfl⟩
  have C3 := Lib.hid (fun W (hm : MLen W) => AddReal_rat f1 fc _ rfl r1 e1 hf1 W hm)
  have C4 := Lib.hid (fun W (hm : MLen W) => AddReal_rat fa f2 (a + b + c) (Rat.add_assoc a b c).symm r1 e1 hf1 W hm)
  have C5 := Lib.hid (fun W (hm : MLen W) => MulReal_rat fa fb _ rfl _ _ (finQ_err g5) W hm)
  have C6 := Lib.hid (fun W (hm : MLen W) => MulReal_rat fb fa (a * b) (Rat.mul_comm b a) _ _ (finQ_err g5) W hm)
  obtain ⟨⟨r8, e8⟩, hf8⟩ : ∃ r, finQ (a * c) = r := ⟨_, rfl⟩
  have C8 := Lib.hid (fun W (hm : MLen W) => MulReal_rat fa fc _ rfl r8 e8 hf8 W hm)
  obtain ⟨⟨r7, e7⟩, hf7⟩ : ∃ r, finQ (a * (b + c)) = r := ⟨_, rfl⟩
  have C7 := Lib.hid (fun W (hm : MLen W) => MulReal_rat fa f2 _ rfl r7 e7 hf7 W hm)
  obtain ⟨k, hk⟩ : ∃ k, cmpZ (a.num * b.den) (b.num * a.den) = k := ⟨_, rfl⟩
  have C10 := Lib.hid (fun W (hm : MLen W) => CompareReal_rat fa fb W hm)
  have C11 := Lib.hid (fun W (hm : MLen W) => SubReal_rat fa fb _ rfl _ _ (finQ_ok f3) W hm)
  have C12 := Lib.hid (fun W (hm : MLen W) => CompareReal_rat f3 f0 W hm)
  rw [cmp_sub, hk, rnum_zero] at C12
  rw [hk] at C10
  have hab := cmp_self_iff hk
  clear hk
  have hbz : ((rnum b).toList == [48, 47, 49]) = false := by rw [show [48, 47, 49] = (rnum 0).toList by rw [Lib.toList_data]; kernel_rfl]; first | exact beq_iff_eq.2 (rnum_list.2 h0) | (rw [Bool.eq_false_iff]; intro h; exact h0 (rnum_list.1 (beq_iff_eq.1 h)))
  have hbn : ((rnum b).toList != [48, 47, 49]) = true := by rw [bne, hbz]; rfl
  have C13 := Lib.hid (fun W (hm : MLen W) => DivReal_rat fa fb h0 _ rfl _ _ (finQ_ok gd) W hm)
  have C14 := Lib.hid (fun W (hm : MLen W) => MulReal_rat gd fb a (Rat.div_mul_cancel h0) _ _ (finQ_ok fa) W hm)
  have p58 : (10 : Nat) ^ 58 + 2 < 10 ^ 60 := by decide
  have la := ha.lt.1
  obtain ⟨n, n1, n2, n3, HF⟩ := Floor_rat fa (by omega)
  have C15 := Lib.hid HF
  have fn : Fits n := Fits.of (k := 60) (by omega) (by decide)
  have fm : Fits (n + 1) := Fits.of (k := 60) (by omega) (by decide)
  have fo : Fits 1 := Fits.of (k := 1) (by decide) (by decide)
  have rn : FitsR ((n : Int) : Rat) := ⟨fn, by show Lib.nDigits 1 ≤ 120; decide +kernel⟩
  have rm : FitsR (((n + 1 : Int)) : Rat) := ⟨fm, by show Lib.nDigits 1 ≤ 120; decide +kernel⟩
  have C16 := Lib.hid (fun W (hm : MLen W) => CompareReal_rat rn fa W hm)
  have C18 := Lib.hid (fun W (hm : MLen W) => CompareReal_rat rm fa W hm)
  have C17 := Lib.hid (fun W => Add_int fn fo _ rfl fm W)
  rw [show inum 1 = ⟨#[49]⟩ by kernel_rfl] at C17
  rw [show (((n + 1 : Int) : Rat)).num = n + 1 from rfl, show (((n + 1 : Int) : Rat)).den = 1 from rfl, show ((1 : Nat) : Int) = 1 from rfl, Int.mul_one, show cmpZ ((n + 1) * (a.den : Int)) a.num = 1 by unfold cmpZ; rw [if_neg (by omega), if_neg (by omega)]] at C18
  rw [show ((n : Int) : Rat).num = n from rfl, show ((n : Int) : Rat).den = 1 from rfl, show ((1 : Nat) : Int) = 1 from rfl, Int.mul_one] at C16
  obtain ⟨L, hL⟩ : ∃ L, cmpZ (n * (a.den : Int)) a.num = L := ⟨_, rfl⟩
  rw [hL] at C16
  have hL0 : L ≤ 0 := by rw [← hL]; unfold cmpZ; repeat' split <;> omega
  have dL : decide (L ≤ 0) = true := by simp; exact hL0
  have q1 := rnum_int n
  have q2 := rnum_int (n + 1)
  have z1 : (inum n).size ≤ 121 := numeral_short (s := isNeg n) fn
  have z2 : (inum (n + 1)).size ≤ 121 := numeral_short (s := isNeg (n + 1)) fm
  obtain ⟨R1, hR1⟩ : ∃ x : Rat, ((n : Int) : Rat) = x := ⟨_, rfl⟩
  obtain ⟨R2, hR2⟩ : ∃ x : Rat, ((n + 1 : Int) : Rat) = x := ⟨_, rfl⟩
  rw [hR1] at q1 C16
  rw [hR2] at q2 C18
  clear hR1 hR2 rn rm
  clear hL hL0 n1 n2 n3 la p58 HF hf1 hf7 hf8 h0 ha hb hc
  have d1 : decide ((60 : Int) < (rnum a).size) = false := by simp; omega
  have d2 : decide ((60 : Int) < (rnum b).size) = false := by simp; omega
  have d3 : decide ((60 : Int) < (rnum c).size) = false := by simp; omega
  have HW := Lib.hid (fun W (h : Env W) => awake_any W h)
  clear za zb zc
  go_enter Tryz.func9, Tryz.ntmps9
  go_wp2_with (first | (go_at_call 10; (with_reducible refine (HW.out _ HA.out.env).mono ?_); rintro e w6 ⟨rfl, hb6⟩; replace HA := Lib.hid (HA.out.step hb6); clear hb6) | (go_at_call 45; (with_reducible refine (K1.out _ HA.out.env.ml).mono ?_); rintro e w6 ⟨rfl, hb6⟩; replace HA := Lib.hid (HA.out.step hb6); clear hb6) | (go_at_call 45; (with_reducible refine (K2.out _ HA.out.env.ml).mono ?_); rintro e w6 ⟨rfl, hb6⟩; replace HA := Lib.hid (HA.out.step hb6); clear hb6) | (go_at_call 45; (with_reducible refine (K3.out _ HA.out.env.ml).mono ?_); rintro e w6 ⟨rfl, hb6⟩; replace HA := Lib.hid (HA.out.step hb6); clear hb6) | (go_at_call 35; (with_reducible refine (C1.out _ HA.out.env.ml).mono ?_); rintro e w6 ⟨rfl, hb6⟩; replace HA := Lib.hid (HA.out.step hb6); clear hb6) | (go_at_call 35; (with_reducible refine (C2.out _ HA.out.env.ml).mono ?_); rintro e w6 ⟨rfl, hb6⟩; replace HA := Lib.hid (HA.out.step hb6); clear hb6) | (go_at_call 35; (with_reducible refine (C3.out _ HA.out.env.ml).mono ?_); rintro e w6 ⟨rfl, hb6⟩; replace HA := Lib.hid (HA.out.step hb6); clear hb6) | (go_at_call 35; (with_reducible refine (C4.out _ HA.out.env.ml).mono ?_); rintro e w6 ⟨rfl, hb6⟩; replace HA := Lib.hid (HA.out.step hb6); clear hb6) | (go_at_call 39; (with_reducible refine (C5.out _ HA.out.env.ml).mono ?_); rintro e w6 ⟨rfl, hb6⟩; replace HA := Lib.hid (HA.out.step hb6); clear hb6) | (go_at_call 39; (with_reducible refine (C6.out _ HA.out.env.ml).mono ?_); rintro e w6 ⟨rfl, hb6⟩; replace HA := Lib.hid (HA.out.step hb6); clear hb6) | (go_at_call 39; (with_reducible refine (C7.out _ HA.out.env.ml).mono ?_); rintro e w6 ⟨rfl, hb6⟩; replace HA := Lib.hid (HA.out.step hb6); clear hb6) | (go_at_call 39; (with_reducible refine (C8.out _ HA.out.env.ml).mono ?_); rintro e w6 ⟨rfl, hb6⟩; replace HA := Lib.hid (HA.out.step hb6); clear hb6) | (go_at_call 43; (with_reducible refine (C10.out _ HA.out.env.ml).mono ?_); rintro e w6 ⟨rfl, hb6⟩; replace HA := Lib.hid (HA.out.step hb6); clear hb6) | (go_at_call 37; (with_reducible refine (C11.out _ HA.out.env.ml).mono ?_); rintro e w6 ⟨rfl, hb6⟩; replace HA := Lib.hid (HA.out.step hb6); clear hb6) | (go_at_call 43; (with_reducible refine (C12.out _ HA.out.env.ml).mono ?_); rintro e w6 ⟨rfl, hb6⟩; replace HA := Lib.hid (HA.out.step hb6); clear hb6) | (go_at_call 41; (with_reducible refine (C13.out _ HA.out.env.ml).mono ?_); rintro e w6 ⟨rfl, hb6⟩; replace HA := Lib.hid (HA.out.step hb6); clear hb6) | (go_at_call 39; (with_reducible refine (C14.out _ HA.out.env.ml).mono ?_); rintro e w6 ⟨rfl, hb6⟩; replace HA := Lib.hid (HA.out.step hb6); clear hb6) | (go_at_call 53; (with_reducible refine (C15.out _ HA.out.env.ml).mono ?_); rintro e w6 ⟨rfl, hb6⟩; replace HA := Lib.hid (HA.out.step hb6); clear hb6) | (go_at_call 43; (with_reducible refine (C16.out _ HA.out.env.ml).mono ?_); rintro e w6 ⟨rfl, hb6⟩; replace HA := Lib.hid (HA.out.step hb6); clear hb6) | (go_at_call 43; (with_reducible refine (C18.out _ HA.out.env.ml).mono ?_); rintro e w6 ⟨rfl, hb6⟩; replace HA := Lib.hid (HA.out.step hb6); clear hb6) | (go_at_call 21; (with_reducible refine (C17.out _).mono ?_); rintro e w6 ⟨rfl, hb6⟩; replace HA := Lib.hid (HA.out.step hb6); clear hb6) | (go_at_call 61; (with_reducible refine (same_eq _ _ _ _).mono ?_); rintro e w6 ⟨rfl, hw6⟩; rw [hw6]; clear hw6))
  go_ret
  exact ⟨rfl, HA.out.bl⟩
set_option maxHeartbeats 40000000 in
theorem field_no5_nofit (a b c : Rat) (ha : Short a) (hb : Short b) (hc : Short c) (za : (rnum a).size ≤ 60) (zb : (rnum b).size ≤ 60) (zc : (rnum c).size ≤ 60) (K1 : Hid (∀ W, MLen W → Calls Tryz.prog 45 #[.string (rnum a)] W fun e w' => e = .returned (.int .i64 0) ∧ Below W.heap.size W w')) (K2 : Hid (∀ W, MLen W → Calls Tryz.prog 45 #[.string (rnum b)] W fun e w' => e = .returned (.int .i64 0) ∧ Below W.heap.size W w')) (K3 : Hid (∀ W, MLen W → Calls Tryz.prog 45 #[.string (rnum c)] W fun e w' => e = .returned (.int .i64 0) ∧ Below W.heap.size W w')) (g5 : ¬ FitsR (a * b)) (h0 : b ≠ 0) (gd : ¬ FitsR (a / b)) (w : World) (he : Env w) :
    Calls Tryz.prog 9 #[.string (rnum a), .string (rnum b), .string (rnum c)] w fun e w' => e = .returned (.bool true) ∧ Below w.heap.size w w' := by
  have HA := Lib.hid (show Ar w w from ⟨Below.refl _ _, he⟩)
  clear he
  have fa := ha.fits
  have fb := hb.fits
  have fc := hc.fits
  have f1 := add_fits ha hb
  have f2 := add_fits hb hc
  have f3 := sub_fits ha hb
  have f0 : FitsR 0 := ⟨Fits.of (k := 1) (by decide) (by decide), by decide +kernel⟩
  have C1 := Lib.hid (fun W (hm : MLen W) => AddReal_rat fa fb _ rfl _ _ (finQ_ok f1) W hm)
  have C2 := Lib.hid (fun W (hm : MLen W) => AddReal_rat fb fc _ rfl _ _ (finQ_ok f2) W hm)
  obtain ⟨⟨r1, e1⟩, hf1⟩ : ∃ r, finQ (a + b + c) = r := ⟨_, rfl⟩
  have C3 := Lib.hid (fun W (hm : MLen W) => AddReal_rat f1 fc _ rfl r1 e1 hf1 W hm)
  have C4 := Lib.hid (fun W (hm : MLen W) => AddReal_rat fa f2 (a + b + c) (Rat.add_assoc a b c).symm r1 e1 hf1 W hm)
  have C5 := Lib.hid (fun W (hm : MLen W) => MulReal_rat fa fb _ rfl _ _ (finQ_err g5) W hm)
  have C6 := Lib.hid (fun W (hm : MLen W) => MulReal_rat fb fa (a * b) (Rat.mul_comm b a) _ _ (finQ_err g5) W hm)
  obtain ⟨⟨r8, e8⟩, hf8⟩ : ∃ r, finQ (a * c) = r := ⟨_, rfl⟩
  have C8 := Lib.hid (fun W (hm : MLen W) => MulReal_rat fa fc _ rfl r8 e8 hf8 W hm)
  obtain ⟨⟨r7, e7⟩, hf7⟩ : ∃ r, finQ (a * (b + c)) = r := ⟨_, rfl⟩
  have C7 := Lib.hid (fun W (hm : MLen W) => MulReal_rat fa f2 _ rfl r7 e7 hf7 W hm)
  obtain ⟨k, hk⟩ : ∃ k, cmpZ (a.num * b.den) (b.num * a.den) = k := ⟨_, rfl⟩
  have C10 := Lib.hid (fun W (hm : MLen W) => CompareReal_rat fa fb W hm)
  have C11 := Lib.hid (fun W (hm : MLen W) => SubReal_rat fa fb _ rfl _ _ (finQ_ok f3) W hm)
  have C12 := Lib.hid (fun W (hm : MLen W) => CompareReal_rat f3 f0 W hm)
  rw [cmp_sub, hk, rnum_zero] at C12
  rw [hk] at C10
  have hab := cmp_self_iff hk
  clear hk
  have hbz : ((rnum b).toList == [48, 47, 49]) = false := by rw [show [48, 47, 49] = (rnum 0).toList by rw [Lib.toList_data]; kernel_rfl]; first | exact beq_iff_eq.2 (rnum_list.2 h0) | (rw [Bool.eq_false_iff]; intro h; exact h0 (rnum_list.1 (beq_iff_eq.1 h)))
  have hbn : ((rnum b).toList != [48, 47, 49]) = true := by rw [bne, hbz]; rfl
  have C13 := Lib.hid (fun W (hm : MLen W) => DivReal_rat fa fb h0 _ rfl _ _ (finQ_err gd) W hm)
  have p58 : (10 : Nat) ^ 58 + 2 < 10 ^ 60 := by decide
  have la := ha.lt.1
  obtain ⟨n, n1, n2, n3, HF⟩ := Floor_rat fa (by omega)
  have C15 := Lib.hid HF
  have fn : Fits n := Fits.of (k := 60) (by omega) (by decide)
  have fm : Fits (n + 1) := Fits.of (k := 60) (by omega) (by decide)
  have fo : Fits 1 := Fits.of (k := 1) (by decide) (by decide)
  have rn : FitsR ((n : Int) : Rat) := ⟨fn, by show Lib.nDigits 1 ≤ 120; decide +kernel⟩
  have rm : FitsR (((n + 1 : Int)) : Rat) := ⟨fm, by show Lib.nDigits 1 ≤ 120; decide +kernel⟩
  have C16 := Lib.hid (fun W (hm : MLen W) => CompareReal_rat rn fa W hm)
  have C18 := Lib.hid (fun W (hm : MLen W) => CompareReal_rat rm fa W hm)
  have C17 := Lib.hid (fun W => Add_int fn fo _ rfl fm W)
  rw [show inum 1 = ⟨#[49]⟩ by kernel_rfl] at C17
  rw [show (((n + 1 : Int) : Rat)).num = n + 1 from rfl, show (((n + 1 : Int) : Rat)).den = 1 from rfl, show ((1 : Nat) : Int) = 1 from rfl, Int.mul_one, show cmpZ ((n + 1) * (a.den : Int)) a.num = 1 by unfold cmpZ; rw [if_neg (by omega), if_neg (by omega)]] at C18
  rw [show ((n : Int) : Rat).num = n from rfl, show ((n : Int) : Rat).den = 1 from rfl, show ((1 : Nat) : Int) = 1 from rfl, Int.mul_one] at C16
  obtain ⟨L, hL⟩ : ∃ L, cmpZ (n * (a.den : Int)) a.num = L := ⟨_, rfl⟩
  rw [hL] at C16
  have hL0 : L ≤ 0 := by rw [← hL]; unfold cmpZ; repeat' split <;> omega
  have dL : decide (L ≤ 0) = true := by simp; exact hL0
  have q1 := rnum_int n
  have q2 := rnum_int (n + 1)
  have z1 : (inum n).size ≤ 121 := numeral_short (s := isNeg n) fn
  have z2 : (inum (n + 1)).size ≤ 121 := numeral_short (s := isNeg (n + 1)) fm
  obtain ⟨R1, hR1⟩ : ∃ x : Rat, ((n : Int) : Rat) = x := ⟨_, rfl⟩
  obtain ⟨R2, hR2⟩ : ∃ x : Rat, ((n + 1 : Int) : Rat) = x := ⟨_, rfl⟩
  rw [hR1] at q1 C16
  rw [hR2] at q2 C18
  clear hR1 hR2 rn rm
  clear hL hL0 n1 n2 n3 la p58 HF hf1 hf7 hf8 h0 ha hb hc
  have d1 : decide ((60 : Int) < (rnum a).size) = false := by simp; omega
  have d2 : decide ((60 : Int) < (rnum b).size) = false := by simp; omega
  have d3 : decide ((60 : Int) < (rnum c).size) = false := by simp; omega
  have HW := Lib.hid (fun W (h : Env W) => awake_any W h)
  clear za zb zc
  go_enter Tryz.func9, Tryz.ntmps9
  go_wp2_with (first | (go_at_call 10; (with_reducible refine (HW.out _ HA.out.env).mono ?_); rintro e w6 ⟨rfl, hb6⟩; replace HA := Lib.hid (HA.out.step hb6); clear hb6) | (go_at_call 45; (with_reducible refine (K1.out _ HA.out.env.ml).mono ?_); rintro e w6 ⟨rfl, hb6⟩; replace HA := Lib.hid (HA.out.step hb6); clear hb6) | (go_at_call 45; (with_reducible refine (K2.out _ HA.out.env.ml).mono ?_); rintro e w6 ⟨rfl, hb6⟩; replace HA := Lib.hid (HA.out.step hb6); clear hb6) | (go_at_call 45; (with_reducible refine (K3.out _ HA.out.env.ml).mono ?_); rintro e w6 ⟨rfl, hb6⟩; replace HA := Lib.hid (HA.out.step hb6); clear hb6) | (go_at_call 35; (with_reducible refine (C1.out _ HA.out.env.ml).mono ?_); rintro e w6 ⟨rfl, hb6⟩; replace HA := Lib.hid (HA.out.step hb6); clear hb6) | (go_at_call 35; (with_reducible refine (C2.out _ HA.out.env.ml).mono ?_); rintro e w6 ⟨rfl, hb6⟩; replace HA := Lib.hid (HA.out.step hb6); clear hb6) | (go_at_call 35; (with_reducible refine (C3.out _ HA.out.env.ml).mono ?_); rintro e w6 ⟨rfl, hb6⟩; replace HA := Lib.hid (HA.out.step hb6); clear hb6) | (go_at_call 35; (with_reducible refine (C4.out _ HA.out.env.ml).mono ?_); rintro e w6 ⟨rfl, hb6⟩; replace HA := Lib.hid (HA.out.step hb6); clear hb6) | (go_at_call 39; (with_reducible refine (C5.out _ HA.out.env.ml).mono ?_); rintro e w6 ⟨rfl, hb6⟩; replace HA := Lib.hid (HA.out.step hb6); clear hb6) | (go_at_call 39; (with_reducible refine (C6.out _ HA.out.env.ml).mono ?_); rintro e w6 ⟨rfl, hb6⟩; replace HA := Lib.hid (HA.out.step hb6); clear hb6) | (go_at_call 39; (with_reducible refine (C7.out _ HA.out.env.ml).mono ?_); rintro e w6 ⟨rfl, hb6⟩; replace HA := Lib.hid (HA.out.step hb6); clear hb6) | (go_at_call 39; (with_reducible refine (C8.out _ HA.out.env.ml).mono ?_); rintro e w6 ⟨rfl, hb6⟩; replace HA := Lib.hid (HA.out.step hb6); clear hb6) | (go_at_call 43; (with_reducible refine (C10.out _ HA.out.env.ml).mono ?_); rintro e w6 ⟨rfl, hb6⟩; replace HA := Lib.hid (HA.out.step hb6); clear hb6) | (go_at_call 37; (with_reducible refine (C11.out _ HA.out.env.ml).mono ?_); rintro e w6 ⟨rfl, hb6⟩; replace HA := Lib.hid (HA.out.step hb6); clear hb6) | (go_at_call 43; (with_reducible refine (C12.out _ HA.out.env.ml).mono ?_); rintro e w6 ⟨rfl, hb6⟩; replace HA := Lib.hid (HA.out.step hb6); clear hb6) | (go_at_call 41; (with_reducible refine (C13.out _ HA.out.env.ml).mono ?_); rintro e w6 ⟨rfl, hb6⟩; replace HA := Lib.hid (HA.out.step hb6); clear hb6) | (go_at_call 53; (with_reducible refine (C15.out _ HA.out.env.ml).mono ?_); rintro e w6 ⟨rfl, hb6⟩; replace HA := Lib.hid (HA.out.step hb6); clear hb6) | (go_at_call 43; (with_reducible refine (C16.out _ HA.out.env.ml).mono ?_); rintro e w6 ⟨rfl, hb6⟩; replace HA := Lib.hid (HA.out.step hb6); clear hb6) | (go_at_call 43; (with_reducible refine (C18.out _ HA.out.env.ml).mono ?_); rintro e w6 ⟨rfl, hb6⟩; replace HA := Lib.hid (HA.out.step hb6); clear hb6) | (go_at_call 21; (with_reducible refine (C17.out _).mono ?_); rintro e w6 ⟨rfl, hb6⟩; replace HA := Lib.hid (HA.out.step hb6); clear hb6) | (go_at_call 61; (with_reducible refine (same_eq _ _ _ _).mono ?_); rintro e w6 ⟨rfl, hw6⟩; rw [hw6]; clear hw6))
  go_ret
  exact ⟨rfl, HA.out.bl⟩
set_option maxHeartbeats 40000000 in
theorem field_no8_zero (a b c : Rat) (ha : Short a) (hb : Short b) (hc : Short c) (za : (rnum a).size ≤ 60) (zb : (rnum b).size ≤ 60) (zc : (rnum c).size ≤ 60) (K1 : Hid (∀ W, MLen W → Calls Tryz.prog 45 #[.string (rnum a)] W fun e w' => e = .returned (.int .i64 0) ∧ Below W.heap.size W w')) (K2 : Hid (∀ W, MLen W → Calls Tryz.prog 45 #[.string (rnum b)] W fun e w' => e = .returned (.int .i64 0) ∧ Below W.heap.size W w')) (K3 : Hid (∀ W, MLen W → Calls Tryz.prog 45 #[.string (rnum c)] W fun e w' => e = .returned (.int .i64 0) ∧ Below W.heap.size W w')) (g5 : FitsR (a * b)) (g8 : ¬ FitsR (a * c)) (h0 : b = 0) (w : World) (he : Env w) :
    Calls Tryz.prog 9 #[.string (rnum a), .string (rnum b), .string (rnum c)] w fun e w' => e = .returned (.bool true) ∧ Below w.heap.size w w' := by
  have HA := Lib.hid (show Ar w w from ⟨Below.refl _ _, he⟩)
  clear he
  have fa := ha.fits
  have fb := hb.fits
  have fc := hc.fits
  have f1 := add_fits ha hb
  have f2 := add_fits hb hc
  have f3 := sub_fits ha hb
  have f0 : FitsR 0 := ⟨Fits.of (k := 1) (by decide) (by decide), by decide +kernel⟩
  have C1 := Lib.hid (fun W (hm : MLen W) => AddReal_rat fa fb _ rfl _ _ (finQ_ok f1) W hm)
  have C2 := Lib.hid (fun W (hm : MLen W) => AddReal_rat fb fc _ rfl _ _ (finQ_ok f2) W hm)
  obtain ⟨⟨r1, e1⟩, hf1⟩ : ∃ r, finQ (a + b + c) = r := ⟨_, rfl⟩
  have C3 := Lib.hid (fun W (hm : MLen W) => AddReal_rat f1 fc _ rfl r1 e1 hf1 W hm)
  have C4 := Lib.hid (fun W (hm : MLen W) => AddReal_rat fa f2 (a + b + c) (Rat.add_assoc a b c).symm r1 e1 hf1 W hm)
  have C5 := Lib.hid (fun W (hm : MLen W) => MulReal_rat fa fb _ rfl _ _ (finQ_ok g5) W hm)
  have C6 := Lib.hid (fun W (hm : MLen W) => MulReal_rat fb fa (a * b) (Rat.mul_comm b a) _ _ (finQ_ok g5) W hm)
  have C8 := Lib.hid (fun W (hm : MLen W) => MulReal_rat fa fc _ rfl _ _ (finQ_err g8) W hm)
  obtain ⟨⟨r7, e7⟩, hf7⟩ : ∃ r, finQ (a * (b + c)) = r := ⟨_, rfl⟩
  have C7 := Lib.hid (fun W (hm : MLen W) => MulReal_rat fa f2 _ rfl r7 e7 hf7 W hm)
  obtain ⟨k, hk⟩ : ∃ k, cmpZ (a.num * b.den) (b.num * a.den) = k := ⟨_, rfl⟩
  have C10 := Lib.hid (fun W (hm : MLen W) => CompareReal_rat fa fb W hm)
  have C11 := Lib.hid (fun W (hm : MLen W) => SubReal_rat fa fb _ rfl _ _ (finQ_ok f3) W hm)
  have C12 := Lib.hid (fun W (hm : MLen W) => CompareReal_rat f3 f0 W hm)
  rw [cmp_sub, hk, rnum_zero] at C12
  rw [hk] at C10
  have hab := cmp_self_iff hk
  clear hk
  have hbz : ((rnum b).toList == [48, 47, 49]) = true := by rw [show [48, 47, 49] = (rnum 0).toList by rw [Lib.toList_data]; kernel_rfl]; first | exact beq_iff_eq.2 (rnum_list.2 h0) | (rw [Bool.eq_false_iff]; intro h; exact h0 (rnum_list.1 (beq_iff_eq.1 h)))
  have hbn : ((rnum b).toList != [48, 47, 49]) = false := by rw [bne, hbz]; rfl
  have p58 : (10 : Nat) ^ 58 + 2 < 10 ^ 60 := by decide
  have la := ha.lt.1
  obtain ⟨n, n1, n2, n3, HF⟩ := Floor_rat fa (by omega)
  have C15 := Lib.hid HF
  have fn : Fits n := Fits.of (k := 60) (by omega) (by decide)
  have fm : Fits (n + 1) := Fits.of (k := 60) (by omega) (by decide)
  have fo : Fits 1 := Fits.of (k := 1) (by decide) (by decide)
  have rn : FitsR ((n : Int) : Rat) := ⟨fn, by show Lib.nDigits 1 ≤ 120; decide +kernel⟩
  have rm : FitsR (((n + 1 : Int)) : Rat) := ⟨fm, by show Lib.nDigits 1 ≤ 120; decide +kernel⟩
  have C16 := Lib.hid (fun W (hm : MLen W) => CompareReal_rat rn fa W hm)
  have C18 := Lib.hid (fun W (hm : MLen W) => CompareReal_rat rm fa W hm)
  have C17 := Lib.hid (fun W => Add_int fn fo _ rfl fm W)
  rw [show inum 1 = ⟨#[49]⟩ by kernel_rfl] at C17
  rw [show (((n + 1 : Int) : Rat)).num = n + 1 from rfl, show (((n + 1 : Int) : Rat)).den = 1 from rfl, show ((1 : Nat) : Int) = 1 from rfl, Int.mul_one, show cmpZ ((n + 1) * (a.den : Int)) a.num = 1 by unfold cmpZ; rw [if_neg (by omega), if_neg (by omega)]] at C18
  rw [show ((n : Int) : Rat).num = n from rfl, show ((n : Int) : Rat).den = 1 from rfl, show ((1 : Nat) : Int) = 1 from rfl, Int.mul_one] at C16
  obtain ⟨L, hL⟩ : ∃ L, cmpZ (n * (a.den : Int)) a.num = L := ⟨_, rfl⟩
  rw [hL] at C16
  have hL0 : L ≤ 0 := by rw [← hL]; unfold cmpZ; repeat' split <;> omega
  have dL : decide (L ≤ 0) = true := by simp; exact hL0
  have q1 := rnum_int n
  have q2 := rnum_int (n + 1)
  have z1 : (inum n).size ≤ 121 := numeral_short (s := isNeg n) fn
  have z2 : (inum (n + 1)).size ≤ 121 := numeral_short (s := isNeg (n + 1)) fm
  obtain ⟨R1, hR1⟩ : ∃ x : Rat, ((n : Int) : Rat) = x := ⟨_, rfl⟩
  obtain ⟨R2, hR2⟩ : ∃ x : Rat, ((n + 1 : Int) : Rat) = x := ⟨_, rfl⟩
  rw [hR1] at q1 C16
  rw [hR2] at q2 C18
  clear hR1 hR2 rn rm
  clear hL hL0 n1 n2 n3 la p58 HF hf1 hf7 h0 ha hb hc
  have d1 : decide ((60 : Int) < (rnum a).size) = false := by simp; omega
  have d2 : decide ((60 : Int) < (rnum b).size) = false := by simp; omega
  have d3 : decide ((60 : Int) < (rnum c).size) = false := by simp; omega
  have HW := Lib.hid (fun W (h : Env W) => awake_any W h)
  clear za zb zc
  go_enter Tryz.func9, Tryz.ntmps9
  go_wp2_with (first | (go_at_call 10; (with_reducible refine (HW.out _ HA.out.env).mono ?_); rintro e w6 ⟨rfl, hb6⟩; replace HA := Lib.hid (HA.out.step hb6); clear hb6) | (go_at_call 45; (with_reducible refine (K1.out _ HA.out.env.ml).mono ?_); rintro e w6 ⟨rfl, hb6⟩; replace HA := Lib.hid (HA.out.step hb6); clear hb6) | (go_at_call 45; (with_reducible refine (K2.out _ HA.out.env.ml).mono ?_); rintro e w6 ⟨rfl, hb6⟩; replace HA := Lib.hid (HA.out.step hb6); clear hb6) | (go_at_call 45; (with_reducible refine (K3.out _ HA.out.env.ml).mono ?_); rintro e w6 ⟨rfl, hb6⟩; replace HA := Lib.hid (HA.out.step hb6); clear hb6) | (go_at_call 35; (with_reducible refine (C1.out _ HA.out.env.ml).mono ?_); rintro e w6 ⟨rfl, hb6⟩; replace HA := Lib.hid (HA.out.step hb6); clear hb6) | (go_at_call 35; (with_reducible refine (C2.out _ HA.out.env.ml).mono ?_); rintro e w6 ⟨rfl, hb6⟩; replace HA := Lib.hid (HA.out.step hb6); clear hb6) | (go_at_call 35; (with_reducible refine (C3.out _ HA.out.env.ml).mono ?_); rintro e w6 ⟨rfl, hb6⟩; replace HA := Lib.hid (HA.out.step hb6); clear hb6) | (go_at_call 35; (with_reducible refine (C4.out _ HA.out.env.ml).mono ?_); rintro e w6 ⟨rfl, hb6⟩; replace HA := Lib.hid (HA.out.step hb6); clear hb6) | (go_at_call 39; (with_reducible refine (C5.out _ HA.out.env.ml).mono ?_); rintro e w6 ⟨rfl, hb6⟩; replace HA := Lib.hid (HA.out.step hb6); clear hb6) | (go_at_call 39; (with_reducible refine (C6.out _ HA.out.env.ml).mono ?_); rintro e w6 ⟨rfl, hb6⟩; replace HA := Lib.hid (HA.out.step hb6); clear hb6) | (go_at_call 39; (with_reducible refine (C7.out _ HA.out.env.ml).mono ?_); rintro e w6 ⟨rfl, hb6⟩; replace HA := Lib.hid (HA.out.step hb6); clear hb6) | (go_at_call 39; (with_reducible refine (C8.out _ HA.out.env.ml).mono ?_); rintro e w6 ⟨rfl, hb6⟩; replace HA := Lib.hid (HA.out.step hb6); clear hb6) | (go_at_call 43; (with_reducible refine (C10.out _ HA.out.env.ml).mono ?_); rintro e w6 ⟨rfl, hb6⟩; replace HA := Lib.hid (HA.out.step hb6); clear hb6) | (go_at_call 37; (with_reducible refine (C11.out _ HA.out.env.ml).mono ?_); rintro e w6 ⟨rfl, hb6⟩; replace HA := Lib.hid (HA.out.step hb6); clear hb6) | (go_at_call 43; (with_reducible refine (C12.out _ HA.out.env.ml).mono ?_); rintro e w6 ⟨rfl, hb6⟩; replace HA := Lib.hid (HA.out.step hb6); clear hb6) | (go_at_call 53; (with_reducible refine (C15.out _ HA.out.env.ml).mono ?_); rintro e w6 ⟨rfl, hb6⟩; replace HA := Lib.hid (HA.out.step hb6); clear hb6) | (go_at_call 43; (with_reducible refine (C16.out _ HA.out.env.ml).mono ?_); rintro e w6 ⟨rfl, hb6⟩; replace HA := Lib.hid (HA.out.step hb6); clear hb6) | (go_at_call 43; (with_reducible refine (C18.out _ HA.out.env.ml).mono ?_); rintro e w6 ⟨rfl, hb6⟩; replace HA := Lib.hid (HA.out.step hb6); clear hb6) | (go_at_call 21; (with_reducible refine (C17.out _).mono ?_); rintro e w6 ⟨rfl, hb6⟩; replace HA := Lib.hid (HA.out.step hb6); clear hb6) | (go_at_call 61; (with_reducible refine (same_eq _ _ _ _).mono ?_); rintro e w6 ⟨rfl, hw6⟩; rw [hw6]; clear hw6))
  go_ret
  exact ⟨rfl, HA.out.bl⟩
set_option maxHeartbeats 40000000 in
theorem field_no8_fit (a b c : Rat) (ha : Short a) (hb : Short b) (hc : Short c) (za : (rnum a).size ≤ 60) (zb : (rnum b).size ≤ 60) (zc : (rnum c).size ≤ 60) (K1 : Hid (∀ W, MLen W → Calls Tryz.prog 45 #[.string (rnum a)] W fun e w' => e = .returned (.int .i64 0) ∧ Below W.heap.size W w')) (K2 : Hid (∀ W, MLen W → Calls Tryz.prog 45 #[.string (rnum b)] W fun e w' => e = .returned (.int .i64 0) ∧ Below W.heap.size W w')) (K3 : Hid (∀ W, MLen W → Calls Tryz.prog 45 #[.string (rnum c)] W fun e w' => e = .returned (.int .i64 0) ∧ Below W.heap.size W w')) (g5 : FitsR (a * b)) (g8 : ¬ FitsR (a * c)) (h0 : b ≠ 0) (gd : FitsR (a / b)) (w : World) (he : Env w) :
    Calls Tryz.prog 9 #[.string (rnum a), .string (rnum b), .string (rnum c)] w fun e w' => e = .returned (.bool true) ∧ Below w.heap.size w w' := by
  have HA := Lib.hid (show Ar w w from ⟨Below.refl _ _, he⟩)
  clear he
  have fa := ha.fits
  have fb := hb.fits
  have fc := hc.fits
  have f1 := add_fits ha hb
  have f2 := add_fits hb hc
  have f3 := sub_fits ha hb
  have f0 : FitsR 0 := ⟨Fits.of (k := 1) (by decide) (by decide), by decide +kernel⟩
  have C1 := Lib.hid (fun W (hm : MLen W) => AddReal_rat fa fb _ rfl _ _ (finQ_ok f1) W hm)
  have C2 := Lib.hid (fun W (hm : MLen W) => AddReal_rat fb fc _ rfl _ _ (finQ_ok f2) W hm)
  obtain ⟨⟨r1, e1⟩, hf1⟩ : ∃ r, finQ (a + b + c) = r := ⟨_, rfl⟩
  have C3 := Lib.hid (fun W (hm : MLen W) => AddReal_rat f1 fc _ rfl r1 e1 hf1 W hm)
  have C4 := Lib.hid (fun W (hm : MLen W) => AddReal_rat fa f2 (a + b + c) (Rat.add_assoc a b c).symm r1 e1 hf1 W hm)
  have C5 := Lib.hid (fun W (hm : MLen W) => MulReal_rat fa fb _ rfl _ _ (finQ_ok g5) W hm)
  have C6 := Lib.hid (fun W (hm : MLen W) => MulReal_rat fb fa (a * b) (Rat.mul_comm b a) _ _ (finQ_ok g5) W hm)
  have C8 := Lib.hid (fun W (hm : MLen W) => MulReal_rat fa fc _ rfl _ _ (finQ_err g8) W hm)
  obtain ⟨⟨r7, e7⟩, hf7⟩ : ∃ r, finQ (a * (b + c)) = r := ⟨_, rfl⟩
  have C7 := Lib.hid (fun W (hm : MLen W) => MulReal_rat fa f2 _ rfl r7 e7 hf7 W hm)
  obtain ⟨k, hk⟩ : ∃ k, cmpZ (a.num * b.den) (b.num * a.den) = k := ⟨_, rfl⟩
  have C10 := Lib.hid (fun W (hm : MLen W) => CompareReal_rat fa fb W hm)
  have C11 := Lib.hid (fun W (hm : MLen W) => SubReal_rat fa fb _ rfl _ _ (finQ_ok f3) W hm)
  have C12 := Lib.hid (fun W (hm : MLen W) => CompareReal_rat f3 f0 W hm)
  rw [cmp_sub, hk, rnum_zero] at C12
  rw [hk] at C10
  have hab := cmp_self_iff hk
  clear hk
  have hbz : ((rnum b).toList == [48, 47, 49]) = false := by rw [show [48, 47, 49] = (rnum 0).toList by rw [Lib.toList_data]; kernel_rfl]; first | exact beq_iff_eq.2 (rnum_list.2 h0) | (rw [Bool.eq_false_iff]; intro h; exact h0 (rnum_list.1 (beq_iff_eq.1 h)))
  have hbn : ((rnum b).toList != [48, 47, 49]) = true := by rw [bne, hbz]; rfl
  have C13 := Lib.hid (fun W (hm : MLen W) => DivReal_rat fa fb h0 _ rfl _ _ (finQ_ok gd) W hm)
  have C14 := Lib.hid (fun W (hm : MLen W) => MulReal_rat gd fb a (Rat.div_mul_cancel h0) _ _ (finQ_ok fa) W hm)
  have p58 : (10 : Nat) ^ 58 + 2 < 10 ^ 60 := by decide
  have la := ha.lt.1
  obtain ⟨n, n1, n2, n3, HF⟩ := Floor_rat fa (by omega)
  have C15 := Lib.hid HF
  have fn : Fits n := Fits.of (k := 60) (by omega) (by decide)
  have fm : Fits (n + 1) := Fits.of (k := 60) (by omega) (by decide)
  have fo : Fits 1 := Fits.of (k := 1) (by decide) (by decide)
  have rn : FitsR ((n : Int) : Rat) := ⟨fn, by show Lib.nDigits 1 ≤ 120; decide +kernel⟩
  have rm : FitsR (((n + 1 : Int)) : Rat) := ⟨fm, by show Lib.nDigits 1 ≤ 120; decide +kernel⟩
  have C16 := Lib.hid (fun W (hm : MLen W) => CompareReal_rat rn fa W hm)
  have C18 := Lib.hid (fun W (hm : MLen W) => CompareReal_rat rm fa W hm)
  have C17 := Lib.hid (fun W => Add_int fn fo _ rfl fm W)
  rw [show inum 1 = ⟨#[49]⟩ by kernel_rfl] at C17
  rw [show (((n + 1 : Int) : Rat)).num = n + 1 from rfl, show (((n + 1 : Int) : Rat)).den = 1 from rfl, show ((1 : Nat) : Int) = 1 from rfl, Int.mul_one, show cmpZ ((n + 1) * (a.den : Int)) a.num = 1 by unfold cmpZ; rw [if_neg (by omega), if_neg (by omega)]] at C18
  rw [show ((n : Int) : Rat).num = n from rfl, show ((n : Int) : Rat).den = 1 from rfl, show ((1 : Nat) : Int) = 1 from rfl, Int.mul_one] at C16
  obtain ⟨L, hL⟩ : ∃ L, cmpZ (n * (a.den : Int)) a.num = L := ⟨_, rfl⟩
  rw [hL] at C16
  have hL0 : L ≤ 0 := by rw [← hL]; unfold cmpZ; repeat' split <;> omega
  have dL : decide (L ≤ 0) = true := by simp; exact hL0
  have q1 := rnum_int n
  have q2 := rnum_int (n + 1)
  have z1 : (inum n).size ≤ 121 := numeral_short (s := isNeg n) fn
  have z2 : (inum (n + 1)).size ≤ 121 := numeral_short (s := isNeg (n + 1)) fm
  obtain ⟨R1, hR1⟩ : ∃ x : Rat, ((n : Int) : Rat) = x := ⟨_, rfl⟩
  obtain ⟨R2, hR2⟩ : ∃ x : Rat, ((n + 1 : Int) : Rat) = x := ⟨_, rfl⟩
  rw [hR1] at q1 C16
  rw [hR2] at q2 C18
  clear hR1 hR2 rn rm
  clear hL hL0 n1 n2 n3 la p58 HF hf1 hf7 h0 ha hb hc
  have d1 : decide ((60 : Int) < (rnum a).size) = false := by simp; omega
  have d2 : decide ((60 : Int) < (rnum b).size) = false := by simp; omega
  have d3 : decide ((60 : Int) < (rnum c).size) = false := by simp; omega
  have HW := Lib.hid (fun W (h : Env W) => awake_any W h)
  clear za zb zc
  go_enter Tryz.func9, Tryz.ntmps9
  go_wp2_with (first | (go_at_call 10; (with_reducible refine (HW.out _ HA.out.env).mono ?_); rintro e w6 ⟨rfl, hb6⟩; replace HA := Lib.hid (HA.out.step hb6); clear hb6) | (go_at_call 45; (with_reducible refine (K1.out _ HA.out.env.ml).mono ?_); rintro e w6 ⟨rfl, hb6⟩; replace HA := Lib.hid (HA.out.step hb6); clear hb6) | (go_at_call 45; (with_reducible refine (K2.out _ HA.out.env.ml).mono ?_); rintro e w6 ⟨rfl, hb6⟩; replace HA := Lib.hid (HA.out.step hb6); clear hb6) | (go_at_call 45; (with_reducible refine (K3.out _ HA.out.env.ml).mono ?_); rintro e w6 ⟨rfl, hb6⟩; replace HA := Lib.hid (HA.out.step hb6); clear hb6) | (go_at_call 35; (with_reducible refine (C1.out _ HA.out.env.ml).mono ?_); rintro e w6 ⟨rfl, hb6⟩; replace HA := Lib.hid (HA.out.step hb6); clear hb6) | (go_at_call 35; (with_reducible refine (C2.out _ HA.out.env.ml).mono ?_); rintro e w6 ⟨rfl, hb6⟩; replace HA := Lib.hid (HA.out.step hb6); clear hb6) | (go_at_call 35; (with_reducible refine (C3.out _ HA.out.env.ml).mono ?_); rintro e w6 ⟨rfl, hb6⟩; replace HA := Lib.hid (HA.out.step hb6); clear hb6) | (go_at_call 35; (with_reducible refine (C4.out _ HA.out.env.ml).mono ?_); rintro e w6 ⟨rfl, hb6⟩; replace HA := Lib.hid (HA.out.step hb6); clear hb6) | (go_at_call 39; (with_reducible refine (C5.out _ HA.out.env.ml).mono ?_); rintro e w6 ⟨rfl, hb6⟩; replace HA := Lib.hid (HA.out.step hb6); clear hb6) | (go_at_call 39; (with_reducible refine (C6.out _ HA.out.env.ml).mono ?_); rintro e w6 ⟨rfl, hb6⟩; replace HA := Lib.hid (HA.out.step hb6); clear hb6) | (go_at_call 39; (with_reducible refine (C7.out _ HA.out.env.ml).mono ?_); rintro e w6 ⟨rfl, hb6⟩; replace HA := Lib.hid (HA.out.step hb6); clear hb6) | (go_at_call 39; (with_reducible refine (C8.out _ HA.out.env.ml).mono ?_); rintro e w6 ⟨rfl, hb6⟩; replace HA := Lib.hid (HA.out.step hb6); clear hb6) | (go_at_call 43; (with_reducible refine (C10.out _ HA.out.env.ml).mono ?_); rintro e w6 ⟨rfl, hb6⟩; replace HA := Lib.hid (HA.out.step hb6); clear hb6) | (go_at_call 37; (with_reducible refine (C11.out _ HA.out.env.ml).mono ?_); rintro e w6 ⟨rfl, hb6⟩; replace HA := Lib.hid (HA.out.step hb6); clear hb6) | (go_at_call 43; (with_reducible refine (C12.out _ HA.out.env.ml).mono ?_); rintro e w6 ⟨rfl, hb6⟩; replace HA := Lib.hid (HA.out.step hb6); clear hb6) | (go_at_call 41; (with_reducible refine (C13.out _ HA.out.env.ml).mono ?_); rintro e w6 ⟨rfl, hb6⟩; replace HA := Lib.hid (HA.out.step hb6); clear hb6) | (go_at_call 39; (with_reducible refine (C14.out _ HA.out.env.ml).mono ?_); rintro e w6 ⟨rfl, hb6⟩; replace HA := Lib.hid (HA.out.step hb6); clear hb6) | (go_at_call 53; (with_reducible refine (C15.out _ HA.out.env.ml).mono ?_); rintro e w6 ⟨rfl, hb6⟩; replace HA := Lib.hid (HA.out.step hb6); clear hb6) | (go_at_call 43; (with_reducible refine (C16.out _ HA.out.env.ml).mono ?_); rintro e w6 ⟨rfl, hb6⟩; replace HA := Lib.hid (HA.out.step hb6); clear hb6) | (go_at_call 43; (with_reducible refine (C18.out _ HA.out.env.ml).mono ?_); rintro e w6 ⟨rfl, hb6⟩; replace HA := Lib.hid (HA.out.step hb6); clear hb6) | (go_at_call 21; (with_reducible refine (C17.out _).mono ?_); rintro e w6 ⟨rfl, hb6⟩; replace HA := Lib.hid (HA.out.step hb6); clear hb6) | (go_at_call 61; (with_reducible refine (same_eq _ _ _ _).mono ?_); rintro e w6 ⟨rfl, hw6⟩; rw [hw6]; clear hw6))
  go_ret
  exact ⟨rfl, HA.out.bl⟩
set_option maxHeartbeats 40000000 in
theorem field_no8_nofit (a b c : Rat) (ha : Short a) (hb : Short b) (hc : Short c) (za : (rnum a).size ≤ 60) (zb : (rnum b).size ≤ 60) (zc : (rnum c).size ≤ 60) (K1 : Hid (∀ W, MLen W → Calls Tryz.prog 45 #[.string (rnum a)] W fun e w' => e = .returned (.int .i64 0) ∧ Below W.heap.size W w')) (K2 : Hid (∀ W, MLen W → Calls Tryz.prog 45 #[.string (rnum b)] W fun e w' => e = .returned (.int .i64 0) ∧ Below W.heap.size W w')) (K3 : Hid (∀ W, MLen W → Calls Tryz.prog 45 #[.string (rnum c)] W fun e w' => e = .returned (.int .i64 0) ∧ Below W.heap.size W w')) (g5 : FitsR (a * b)) (g8 : ¬ FitsR (a * c)) (h0 : b ≠ 0) (gd : ¬ FitsR (a / b)) (w : World) (he : Env w) :
    Calls Tryz.prog 9 #[.string (rnum a), .string (rnum b), .string (rnum c)] w fun e w' => e = .returned (.bool true) ∧ Below w.heap.size w w' := by
  have HA := Lib.hid (show Ar w w from ⟨Below.refl _ _, he⟩)
  clear he
  have fa := ha.fits
  have fb := hb.fits
  have fc := hc.fits
  have f1 := add_fits ha hb
  have f2 := add_fits hb hc
  have f3 := sub_fits ha hb
  have f0 : FitsR 0 := ⟨Fits.of (k := 1) (by decide) (by decide), by decide +kernel⟩
  have C1 := Lib.hid (fun W (hm : MLen W) => AddReal_rat fa fb _ rfl _ _ (finQ_ok f1) W hm)
  have C2 := Lib.hid (fun W (hm : MLen W) => AddReal_rat fb fc _ rfl _ _ (finQ_ok f2) W hm)
  obtain ⟨⟨r1, e1⟩, hf1⟩ : ∃ r, finQ (a + b + c) = r := ⟨_, rfl⟩
  have C3 := Lib.hid (fun W (hm : MLen W) => AddReal_rat f1 fc _ rfl r1 e1 hf1 W hm)
  have C4 := Lib.hid (fun W (hm : MLen W) => AddReal_rat fa f2 (a + b + c) (Rat.add_assoc a b c).symm r1 e1 hf1 W hm)
  have C5 := Lib.hid (fun W (hm : MLen W) => MulReal_rat fa fb _ rfl _ _ (finQ_ok g5) W hm)
  have C6 := Lib.hid (fun W (hm : MLen W) => MulReal_rat fb fa (a * b) (Rat.mul_comm b a) _ _ (finQ_ok g5) W hm)
  have C8 := Lib.hid (fun W (hm : MLen W) => MulReal_rat fa fc _ rfl _ _ (finQ_err g8) W hm)
  obtain ⟨⟨r7, e7⟩, hf7⟩ : ∃ r, finQ (a * (b + c)) = r := ⟨_, rfl⟩
  have C7 := Lib.hid (fun W (hm : MLen W) => MulReal_rat fa f2 _ rfl r7 e7 hf7 W hm)
  obtain ⟨k, hk⟩ : ∃ k, cmpZ (a.num * b.den) (b.num * a.den) = k := ⟨_, rfl⟩
  have C10 := Lib.hid (fun W (hm : MLen W) => CompareReal_rat fa fb W hm)
  have C11 := Lib.hid (fun W (hm : MLen W) => SubReal_rat fa fb _ rfl _ _ (finQ_ok f3) W hm)
  have C12 := Lib.hid (fun W (hm : MLen W) => CompareReal_rat f3 f0 W hm)
  rw [cmp_sub, hk, rnum_zero] at C12
  rw [hk] at C10
  have hab := cmp_self_iff hk
  clear hk
  have hbz : ((rnum b).toList == [48, 47, 49]) = false := by rw [show [48, 47, 49] = (rnum 0).toList by rw [Lib.toList_data]; kernel_rfl]; first | exact beq_iff_eq.2 (rnum_list.2 h0) | (rw [Bool.eq_false_iff]; intro h; exact h0 (rnum_list.1 (beq_iff_eq.1 h)))
  have hbn : ((rnum b).toList != [48, 47, 49]) = true := by rw [bne, hbz]; rfl
  have C13 := Lib.hid (fun W (hm : MLen W) => DivReal_rat fa fb h0 _ rfl _ _ (finQ_err gd) W hm)
  have p58 : (10 : Nat) ^ 58 + 2 < 10 ^ 60 := by decide
  have la := ha.lt.1
  obtain ⟨n, n1, n2, n3, HF⟩ := Floor_rat fa (by omega)
  have C15 := Lib.hid HF
  have fn : Fits n := Fits.of (k := 60) (by omega) (by decide)
  have fm : Fits (n + 1) := Fits.of (k := 60) (by omega) (by decide)
  have fo : Fits 1 := Fits.of (k := 1) (by decide) (by decide)
  have rn : FitsR ((n : Int) : Rat) := ⟨fn, by show Lib.nDigits 1 ≤ 120; decide +kernel⟩
  have rm : FitsR (((n + 1 : Int)) : Rat) := ⟨fm, by show Lib.nDigits 1 ≤ 120; decide +kernel⟩
  have C16 := Lib.hid (fun W (hm : MLen W) => CompareReal_rat rn fa W hm)
  have C18 := Lib.hid (fun W (hm : MLen W) => CompareReal_rat rm fa W hm)
  have C17 := Lib.hid (fun W => Add_int fn fo _ rfl fm W)
  rw [show inum 1 = ⟨#[49]⟩ by kernel_rfl] at C17
  rw [show (((n + 1 : Int) : Rat)).num = n + 1 from rfl, show (((n + 1 : Int) : Rat)).den = 1 from rfl, show ((1 : Nat) : Int) = 1 from rfl, Int.mul_one, show cmpZ ((n + 1) * (a.den : Int)) a.num = 1 by unfold cmpZ; rw [if_neg (by omega), if_neg (by omega)]] at C18
  rw [show ((n : Int) : Rat).num = n from rfl, show ((n : Int) : Rat).den = 1 from rfl, show ((1 : Nat) : Int) = 1 from rfl, Int.mul_one] at C16
  obtain ⟨L, hL⟩ : ∃ L, cmpZ (n * (a.den : Int)) a.num = L := ⟨_, rfl⟩
  rw [hL] at C16
  have hL0 : L ≤ 0 := by rw [← hL]; unfold cmpZ; repeat' split <;> omega
  have dL : decide (L ≤ 0) = true := by simp; exact hL0
  have q1 := rnum_int n
  have q2 := rnum_int (n + 1)
  have z1 : (inum n).size ≤ 121 := numeral_short (s := isNeg n) fn
  have z2 : (inum (n + 1)).size ≤ 121 := numeral_short (s := isNeg (n + 1)) fm
  obtain ⟨R1, hR1⟩ : ∃ x : Rat, ((n : Int) : Rat) = x := ⟨_, rfl⟩
  obtain ⟨R2, hR2⟩ : ∃ x : Rat, ((n + 1 : Int) : Rat) = x := ⟨_, rfl⟩
  rw [hR1] at q1 C16
  rw [hR2] at q2 C18
  clear hR1 hR2 rn rm
  clear hL hL0 n1 n2 n3 la p58 HF hf1 hf7 h0 ha hb hc
  have d1 : decide ((60 : Int) < (rnum a).size) = false := by simp; omega
  have d2 : decide ((60 : Int) < (rnum b).size) = false := by simp; omega
  have d3 : decide ((60 : Int) < (rnum c).size) = false := by simp; omega
  have HW := Lib.hid (fun W (h : Env W) => awake_any W h)
  clear za zb zc
  go_enter Tryz.func9, Tryz.ntmps9
  go_wp2_with (first | (go_at_call 10; (with_reducible refine (HW.out _ HA.out.env).mono ?_); rintro e w6 ⟨rfl, hb6⟩; replace HA := Lib.hid (HA.out.step hb6); clear hb6) | (go_at_call 45; (with_reducible refine (K1.out _ HA.out.env.ml).mono ?_); rintro e w6 ⟨rfl, hb6⟩; replace HA := Lib.hid (HA.out.step hb6); clear hb6) | (go_at_call 45; (with_reducible refine (K2.out _ HA.out.env.ml).mono ?_); rintro e w6 ⟨rfl, hb6⟩; replace HA := Lib.hid (HA.out.step hb6); clear hb6) | (go_at_call 45; (with_reducible refine (K3.out _ HA.out.env.ml).mono ?_); rintro e w6 ⟨rfl, hb6⟩; replace HA := Lib.hid (HA.out.step hb6); clear hb6) | (go_at_call 35; (with_reducible refine (C1.out _ HA.out.env.ml).mono ?_); rintro e w6 ⟨rfl, hb6⟩; replace HA := Lib.hid (HA.out.step hb6); clear hb6) | (go_at_call 35; (with_reducible refine (C2.out _ HA.out.env.ml).mono ?_); rintro e w6 ⟨rfl, hb6⟩; replace HA := Lib.hid (HA.out.step hb6); clear hb6) | (go_at_call 35; (with_reducible refine (C3.out _ HA.out.env.ml).mono ?_); rintro e w6 ⟨rfl, hb6⟩; replace HA := Lib.hid (HA.out.step hb6); clear hb6) | (go_at_call 35; (with_reducible refine (C4.out _ HA.out.env.ml).mono ?_); rintro e w6 ⟨rfl, hb6⟩; replace HA := Lib.hid (HA.out.step hb6); clear hb6) | (go_at_call 39; (with_reducible refine (C5.out _ HA.out.env.ml).mono ?_); rintro e w6 ⟨rfl, hb6⟩; replace HA := Lib.hid (HA.out.step hb6); clear hb6) | (go_at_call 39; (with_reducible refine (C6.out _ HA.out.env.ml).mono ?_); rintro e w6 ⟨rfl, hb6⟩; replace HA := Lib.hid (HA.out.step hb6); clear hb6) | (go_at_call 39; (with_reducible refine (C7.out _ HA.out.env.ml).mono ?_); rintro e w6 ⟨rfl, hb6⟩; replace HA := Lib.hid (HA.out.step hb6); clear hb6) | (go_at_call 39; (with_reducible refine (C8.out _ HA.out.env.ml).mono ?_); rintro e w6 ⟨rfl, hb6⟩; replace HA := Lib.hid (HA.out.step hb6); clear hb6) | (go_at_call 43; (with_reducible refine (C10.out _ HA.out.env.ml).mono ?_); rintro e w6 ⟨rfl, hb6⟩; replace HA := Lib.hid (HA.out.step hb6); clear hb6) | (go_at_call 37; (with_reducible refine (C11.out _ HA.out.env.ml).mono ?_); rintro e w6 ⟨rfl, hb6⟩; replace HA := Lib.hid (HA.out.step hb6); clear hb6) | (go_at_call 43; (with_reducible refine (C12.out _ HA.out.env.ml).mono ?_); rintro e w6 ⟨rfl, hb6⟩; replace HA := Lib.hid (HA.out.step hb6); clear hb6) | (go_at_call 41; (with_reducible refine (C13.out _ HA.out.env.ml).mono ?_); rintro e w6 ⟨rfl, hb6⟩; replace HA := Lib.hid (HA.out.step hb6); clear hb6) | (go_at_call 53; (with_reducible refine (C15.out _ HA.out.env.ml).mono ?_); rintro e w6 ⟨rfl, hb6⟩; replace HA := Lib.hid (HA.out.step hb6); clear hb6) | (go_at_call 43; (with_reducible refine (C16.out _ HA.out.env.ml).mono ?_); rintro e w6 ⟨rfl, hb6⟩; replace HA := Lib.hid (HA.out.step hb6); clear hb6) | (go_at_call 43; (with_reducible refine (C18.out _ HA.out.env.ml).mono ?_); rintro e w6 ⟨rfl, hb6⟩; replace HA := Lib.hid (HA.out.step hb6); clear hb6) | (go_at_call 21; (with_reducible refine (C17.out _).mono ?_); rintro e w6 ⟨rfl, hb6⟩; replace HA := Lib.hid (HA.out.step hb6); clear hb6) | (go_at_call 61; (with_reducible refine (same_eq _ _ _ _).mono ?_); rintro e w6 ⟨rfl, hw6⟩; rw [hw6]; clear hw6))
  go_ret
  exact ⟨rfl, HA.out.bl⟩
end Go.Proofs.YtojgafkkgacpkaaGreatDoor
