/- The reference's Power, checkBits, Wrap and shift. -/
import Derived.Test.YtjemolaobhlapaaGreatDoorSH
import Derived.Test.YtjemolaobhlapaaGreatDoorN29
import Derived.Test.YtjemolaobhlapaaGreatDoorNG
set_option linter.unusedSimpArgs false
set_option linter.unusedVariables false
namespace Go.Proofs.YtjemolaobhlapaaGreatDoor
open Go.RowKit
set_option maxRecDepth 100000

structure Po (w0 : World) (B D : Nat) (p : Option Addr) (m c : Nat) (w : World) : Prop where
  b0 : BlockIs w B 74 #[.bool false, .slice none 0 0]
  b1 : BlockIs w D 74 #[.bool false, .slice p (ql m) c]
  mm : Mag w (.slice p (ql m) c) m
  bl : Below w0.heap.size w0 w
  hB : w0.heap.size ≤ B
  hD : B < D
theorem Po.below {w0 : World} {B D m c : Nat} {p : Option Addr} {w w' : World} (h : Po w0 B D p m c w) (hb : Below w.heap.size w w') : Po w0 B D p m c w' :=
  ⟨h.b0.below hb h.b0.lt, h.b1.below hb h.b1.lt, h.mm.below hb, h.bl.trans (hb.mono h.bl.size), h.hB, h.hD⟩
theorem Po.set {w0 : World} {B D m c n k : Nat} {p o : Option Addr} {w w' : World} (h : Po w0 B D p m c w) (hm : Mag w (.slice o (ql n) k) n) (hw : (w.setCell ⟨D, 0, none⟩ (.bool false)).setCell ⟨D, 1, none⟩ (.slice o (ql n) k) = w') : Po w0 B D o n k w' := by
  subst hw
  have hd := h.hD
  have hb := h.hB
  exact ⟨(h.b0.other _ _ (by simp; omega)).other _ _ (by simp; omega), h.b1.two, hm.two h.b1, (h.bl.setCell (p := ⟨D, 0, none⟩) (by simp; omega) _).setCell (p := ⟨D, 1, none⟩) (by simp; omega) _, hb, hd⟩
theorem Po.start {w W0 w4 W6 W7 : World} {B D m c : Nat} {p : Option Addr} (hB : w.heap.size = B) (hW0 : w.alloc (.cells #[.bool false, .slice none 0 0] 74) = W0) (hm : Mag w4 (.slice p (ql m) c) m) (hb4 : Below W0.heap.size W0 w4) (hD : w4.heap.size = D) (hW6 : w4.alloc (.cells #[.bool false, .slice none 0 0] 74) = W6)
    (hW7 : (W6.setCell ⟨D, 0, none⟩ (.bool false)).setCell ⟨D, 1, none⟩ (.slice p (ql m) c) = W7) : BlockIs W6 D 74 #[.bool false, .slice none 0 0] ∧ Po w B D p m c W7 := by
  have hs0 : W0.heap.size = B + 1 := by rw [← hW0, World.size_alloc, hB]
  have hb0 : Below w.heap.size w W0 := by rw [← hW0]; exact (Below.refl _ _).alloc (Nat.le_refl _) _
  have e0 : BlockIs W0 B 74 #[.bool false, .slice none 0 0] := by rw [← hW0, ← hB]; exact BlockIs.new _ _ _
  have e4 : BlockIs w4 B 74 #[.bool false, .slice none 0 0] := e0.below hb4 e0.lt
  have hs4 := hb4.size
  have h6 : BlockIs W6 D 74 #[.bool false, .slice none 0 0] := by rw [← hW6, ← hD]; exact BlockIs.new _ _ _
  have e6 : BlockIs W6 B 74 #[.bool false, .slice none 0 0] := by rw [← hW6]; exact e4.alloc _
  have h1 : Below w4.heap.size w4 W6 := by rw [← hW6]; exact (Below.refl _ _).alloc (Nat.le_refl _) _
  have hbw : Below w.heap.size w W6 := (hb0.trans (hb4.mono (by omega))).trans (h1.mono (by omega))
  have hdm : Mag W6 (.slice p (ql m) c) m := hm.below h1
  have hlt : B < D := by omega
  subst hW7
  exact ⟨h6, (e6.other _ _ (by simp; omega)).other _ _ (by simp; omega), h6.two, hdm.two h6, (hbw.setCell (p := ⟨D, 0, none⟩) (by simp; omega) _).setCell (p := ⟨D, 1, none⟩) (by simp; omega) _, by omega, hlt⟩
theorem pow2_ql {i : Nat} (h : i ≤ 64) : ql (2 ^ i) ≤ 5 := by
  have h1 : 2 ^ i ≤ 2 ^ 64 := Nat.pow_le_pow_right (by decide) h
  exact ql_le (n := 2 ^ i) (k := 5) (by have : qw 5 = 100000000000000000000 := rfl; have h2 : (2 : Nat) ^ 64 = 18446744073709551616 := by decide
                                        omega)

set_option maxHeartbeats 4000000 in
theorem rPower_any (n : Nat) (hn : n ≤ 64) (w : World) :
    Calls Tryz.prog 114 #[.int .i64 n] w fun e w' => ∃ v', e = .returned v' ∧ BigR w false (2 ^ n) v' w' := by
  obtain ⟨B, hB⟩ : ∃ B, w.heap.size = B := ⟨_, rfl⟩
  obtain ⟨W0, hW0⟩ : ∃ W0, w.alloc (.cells #[.bool false, .slice none 0 0] 74) = W0 := ⟨_, rfl⟩
  have HI := Lib.hid (And.intro hB hW0)
  have HSM := Lib.hid (fun W => rSmall_one W)
  go_enter Tryz.func114, Tryz.ntmps114
  go_wp2_with (first | (go_at_call 68; (with_reducible refine (HSM.out _).mono ?_); rintro e w4 ⟨v4, rfl, p2, c2, rfl, hm4, hb4⟩; obtain ⟨D, hD⟩ : ∃ D, w4.heap.size = D := ⟨_, rfl⟩; obtain ⟨W6, hW6⟩ : ∃ W6, w4.alloc (.cells #[.bool false, .slice none 0 0] 74) = W6 := ⟨_, rfl⟩; obtain ⟨W7, hW7⟩ : ∃ W7, (W6.setCell ⟨D, 0, none⟩ (.bool false)).setCell ⟨D, 1, none⟩ (.slice p2 (ql 1) c2) = W7 := ⟨_, rfl⟩; have HX := Lib.hid (Po.start HI.out.1 HI.out.2 hm4 hb4 hD hW6 hW7); clear hm4 hb4; have g0 := HX.out.1.at 0; have g1 := HX.out.1.at 1; have g2 := HX.out.1.thawed 0; have g3 := HX.out.1.thawed 1))
  clear g0 g1 g2 g3 hW6 hW7 hW0
  have HX2 := Lib.hid (show Po w B D p2 (2 ^ 0) c2 W7 from HX.out.2)
  go_loopw [4] (fun x wr => ∃ i : Nat, i ≤ n ∧ x = .int .i64 i ∧ Hid (∃ p c, Po w B D p (2 ^ i) c wr)) (fun x _ => n - (intOf x).toNat)
  case atStart => exact ⟨0, by omega, rfl, _, _, HX2.out⟩
  case round =>
    clear HX HX2
    obtain ⟨i, hi, rfl, HW⟩ := hrel
    obtain ⟨p, c, HW⟩ := HW.out
    have HW := Lib.hid HW
    have c0 := HW.out.b1.at 0
    have c1 := HW.out.b1.at 1
    by_cases h : i < n
    · have hq := pow2_ql (show i ≤ 64 by omega)
      have HP := Lib.hid (fun (v u : Value) W (h1 : Mag W v (2 ^ i)) (h2 : Mag W u (2 ^ i)) => rPlusB_any false false (2 ^ i) (2 ^ i) v u W h1 h2 (by omega) (by omega) false (2 ^ (i + 1)) (by unfold sumB; rw [if_pos rfl, Nat.pow_succ]; congr 1; omega) false rfl)
      obtain ⟨m1, hm1⟩ : ∃ m1, 2 ^ (i + 1) = m1 := ⟨_, rfl⟩
      obtain ⟨m0, hm0⟩ : ∃ m0, 2 ^ i = m0 := ⟨_, rfl⟩
      have HM1 := Lib.hid hm1
      rw [hm1, hm0] at HP
      rw [hm0] at HW c1
      clear hm1 hm0 hq
      go_wp2_with (go_at_call 82; (with_reducible refine (HP.out _ _ _ HW.out.mm HW.out.mm).mono ?_); rintro e w5 ⟨v5, rfl, p5, k5, rfl, hm5, hb5⟩; have H5 := Lib.hid (HW.out.below hb5); obtain ⟨W6, hW6⟩ : ∃ W6, (w5.setCell ⟨D, 0, none⟩ (.bool false)).setCell ⟨D, 1, none⟩ (.slice p5 (ql m1) k5) = W6 := ⟨_, rfl⟩; have H6 := Lib.hid (H5.out.set hm5 hW6); clear hm5 hb5 c0 c1; have d0 := H5.out.b1.at 0; have d1 := H5.out.b1.at 1; have d2 := H5.out.b1.thawed 0; have d3 := H5.out.b1.thawed 1)
      all_goals exact ⟨⟨i + 1, by omega, by simp, _, _, by rw [HM1.out]; exact H6.out⟩, by simp [intOf]; omega⟩
    · have h2 : i = n := by omega
      subst h2
      have d0 := HW.out.b0.at 0
      have d1 := HW.out.b0.at 1
      have e0 := HW.out.b0.thawed 0
      have e1 := HW.out.b0.thawed 1
      go_wp2
      exact bodyPost_ret (retBig rfl _ _ B rfl HW.out.b0.two) rfl ⟨_, rfl, _, _, rfl, HW.out.mm.two HW.out.b0, (HW.out.bl.setCell (p := ⟨B, 0, none⟩) (by have := HW.out.hB; simp; omega) _).setCell (p := ⟨B, 1, none⟩) (by have := HW.out.hB; simp; omega) _⟩

set_option maxHeartbeats 1000000 in
theorem rCheckBits_err (x : ByteArray) (k r : Int) (sx : x.size < 1000) (ha : checkS x.data.toList = r) (h0 : r ≠ 0) (w : World) :
    Calls Tryz.prog 118 #[.string x, .int .i64 k] w fun e w' => e = .returned (.int .i64 r) ∧ Below w.heap.size w w' := by
  have HCA := Lib.hid (fun W => rCheck_any x (by omega) W r ha)
  have hr0 : (r != 0) = true := by simpa using h0
  clear ha h0 sx
  go_enter Tryz.func118, Tryz.ntmps118
  go_wp2_with (go_at_call 13; (with_reducible refine (HCA.out _).mono ?_); rintro e w2 ⟨rfl, rfl⟩)
  go_ret
  exact ⟨rfl, Below.refl _ _⟩
set_option maxHeartbeats 1000000 in
theorem rCheckBits_neg (n : Nat) (k : Int) (ha : Num true n) (w : World) :
    Calls Tryz.prog 118 #[.string (bs (numeral true n)), .int .i64 k] w fun e w' => e = .returned (.int .i64 3) ∧ Below w.heap.size w w' := by
  have HCA := Lib.hid (fun W => rCheck_any (bs (numeral true n)) (by rw [bs_size]; have := num_len ha; omega) W 0 (check_numeral ha))
  have HWN := Lib.hid (fun W => rWhen_any true 3 W 3 rfl)
  have hz0 : 0 < (bs (numeral true n)).size := by rw [bs_size]; show 0 < (45 :: Lib.decDigits n).length; simp
  obtain ⟨x, hx2, hz, hc⟩ : ∃ x, bs (numeral true n) = x ∧ ∃ h : 0 < x.size, x[0].toNat = 45 := ⟨_, rfl, hz0, rfl⟩
  clear hz0
  rw [hx2] at HCA ⊢
  clear hx2 ha
  go_enter Tryz.func118, Tryz.ntmps118
  go_wp2_with (first | (go_at_call 13; (with_reducible refine (HCA.out _).mono ?_); rintro e w2 ⟨rfl, rfl⟩) | (go_at_call 65; (with_reducible refine (HWN.out _).mono ?_); rintro e w2 ⟨rfl, rfl⟩))
  go_ret
  exact ⟨rfl, Below.refl _ _⟩
theorem ord_two {n m : Nat} (va vb : Value) (W : World) (h1 : Mag W va n) (h2 : Mag W vb m) (qn : ql n < 20000) (qm : ql m < 20000) (o : Int) (ho : cmpZ (n : Int) (m : Int) = o) :
    Calls Tryz.prog 74 #[.agg #[.bool false, va], .agg #[.bool false, vb]] W fun e w' => e = .returned (.int .i64 o) ∧ Below W.heap.size W w' := by
  obtain ⟨r', e1, e2⟩ := sumB_int (n : Int) (-(m : Int))
  have hn : isNeg (n : Int) = false := by unfold isNeg; simp
  rw [Int.natAbs_neg, Int.natAbs_natCast, Int.natAbs_natCast, hn, ← Int.sub_eq_add_neg] at e1
  rw [← Int.sub_eq_add_neg] at e2
  have h3 := neg_sign2 (m : Int)
  rw [Int.natAbs_natCast] at h3
  have hm : isNeg (m : Int) = false := by unfold isNeg; simp
  rw [hm] at h3
  exact rOrder_any false false n m va vb W h1 h2 (by omega) (by omega) _ h3 r' _ e1 _ e2 o (by rw [← ho]; exact ordB_int (n : Int) (m : Int))
set_option maxHeartbeats 1000000 in
theorem rCheckBits_pos (n k : Nat) (ha : Num false n) (hk : k ≤ 64) (r : Int) (hr : vecS false n k = r) (w : World) :
    Calls Tryz.prog 118 #[.string (bs (numeral false n)), .int .i64 k] w fun e w' => e = .returned (.int .i64 r) ∧ Below w.heap.size w w' := by
  have HCA := Lib.hid (fun W => rCheck_any (bs (numeral false n)) (by rw [bs_size]; have := num_len ha; omega) W 0 (check_numeral ha))
  have HRA := Lib.hid (fun W => rRead_num false n ha.sign (num_dig ha) W)
  have HPW := Lib.hid (fun W => rPower_any k hk W)
  have qa := num_ql ha
  have qp := pow2_ql hk
  have hp : 0 < 2 ^ k := Nat.pow_pos (by decide)
  obtain ⟨P, hP⟩ : ∃ P, 2 ^ k = P := ⟨_, rfl⟩
  rw [hP] at HPW qp hp
  obtain ⟨o, ho⟩ : ∃ o, cmpZ (n : Int) (P : Int) = o := ⟨_, rfl⟩
  have HOR := Lib.hid (fun (va vb : Value) W (h1 : Mag W va n) (h2 : Mag W vb P) => ord_two va vb W h1 h2 (by omega) (by omega) o ho)
  have hcr : (if decide (0 ≤ o) = true then (3 : Int) else 0) = r := by
    rw [← hr, ← ho]
    unfold vecS cmpZ ones
    rw [hP]
    by_cases h1 : n < P
    · rw [if_neg (show ¬ ((n : Int) = (P : Int)) by omega), if_pos (show (n : Int) < (P : Int) by omega), if_neg (by decide), if_neg (by simp; omega)]
    · rw [if_pos (show false = true ∨ P - 1 < n by right; omega)]
      by_cases h2 : (n : Int) = (P : Int)
      · rw [if_pos h2]; rfl
      · rw [if_neg h2, if_neg (show ¬ ((n : Int) < (P : Int)) by omega)]; rfl
  obtain ⟨c, hc⟩ : ∃ c, decide (0 ≤ o) = c := ⟨_, rfl⟩
  have HWN := Lib.hid (fun W => rWhen_any c 3 W r (by rw [← hc]; exact hcr))
  have hz0 : 0 < (bs (numeral false n)).size := by rw [bs_size]; exact dec_pos n
  have hb : (bs (numeral false n))[0].toNat ≠ 45 := by
    have h1 := head_byte hz0
    have h2 : (bs (numeral false n))[0] ∈ Lib.decDigits n := List.mem_of_mem_head? h1
    have h3 := decDigits_dig n _ h2
    intro h4
    rw [show (bs (numeral false n))[0] = 45 from UInt8.toNat_inj.1 (by rw [h4]; rfl)] at h3
    revert h3; decide
  obtain ⟨x, b, hx2, hz, hb2, hb4⟩ : ∃ (x : ByteArray) (b : Nat), bs (numeral false n) = x ∧ ∃ h : 0 < x.size, x[0].toNat = b ∧ b ≠ 45 := ⟨_, _, rfl, hz0, rfl, hb⟩
  clear hz0 hb
  rw [hx2] at HCA HRA ⊢
  have hb3 : ((b : Int) == 45) = false := by rw [beq_eq_false_iff_ne]; omega
  clear hx2 ha hr ho hcr hb4 qa qp hp hP
  go_enter Tryz.func118, Tryz.ntmps118
  go_wp2_with (first | (go_at_call 13; (with_reducible refine (HCA.out _).mono ?_); rintro e w2 ⟨rfl, rfl⟩) | (go_at_call 73; (with_reducible refine (HRA.out _).mono ?_); rintro e w4 ⟨v4, rfl, p4, k4, rfl, hm4, hb4⟩; have HM4 := Lib.hid hm4; have HB4 := Lib.hid hb4; clear hm4 hb4) | (go_at_call 114; (with_reducible refine (HPW.out _).mono ?_); rintro e w5 ⟨v5, rfl, p5, k5, rfl, hm5, hb5⟩; have HM5 := Lib.hid (And.intro (HM4.out.below hb5) hm5); have HB5 := Lib.hid (HB4.out.trans (hb5.mono HB4.out.size)); clear hm5 hb5) | (go_at_call 74; (with_reducible refine (HOR.out _ _ _ HM5.out.1 HM5.out.2).mono ?_); rintro e w6 ⟨rfl, hb6⟩; have HB6 := Lib.hid (HB5.out.trans (hb6.mono HB5.out.size)); clear hb6) | (go_at_call 65; (with_reducible refine (HWN.out _).mono ?_); rintro e w2 ⟨rfl, rfl⟩))
  go_ret
  exact ⟨rfl, HB6.out⟩

set_option maxHeartbeats 1000000 in
theorem rWrap_bad (x : ByteArray) (n : Int) (sx : x.size < 1000) (ra rc r : Int) (ha : checkS x.data.toList = ra) (hc : (if n < 1 ∨ 64 < n then (3 : Int) else 0) = rc) (hr : (if ra = 0 then rc else ra) = r) (h0 : r ≠ 0) (w : World) :
    Calls Tryz.prog 56 #[.string x, .int .i64 n] w fun e w' => e = .returned (.tuple #[.string ⟨#[]⟩, .int .i64 r]) ∧ Below w.heap.size w w' := by
  have HCA := Lib.hid (fun W => rCheck_any x (by omega) W ra ha)
  have HF := Lib.hid (fun W => rFirst_two ra rc r hr W)
  have hr0 : (r != 0) = true := by simpa using h0
  by_cases h : n < 1
  · have HWN := Lib.hid (fun W => rWhen_any true 3 W rc (by rw [← hc, if_pos rfl, if_pos (Or.inl h)]))
    have h1 : decide (n < 1) = true := by simpa using h
    clear ha hc hr h0 sx h
    go_enter Tryz.func56, Tryz.ntmps56
    go_wp2_with (first | (go_at_call 13; (with_reducible refine (HCA.out _).mono ?_); rintro e w2 ⟨rfl, rfl⟩) | (go_at_call 65; (with_reducible refine (HWN.out _).mono ?_); rintro e w2 ⟨rfl, rfl⟩) | (go_at_call 81; (with_reducible refine (HF.out _).mono ?_); rintro e w3 ⟨rfl, rfl⟩; have HB1 := Lib.hid ((Below.refl w.heap.size w).alloc (Nat.le_refl _) (.cells #[.int .i64 ra, .int .i64 rc] 3))))
    go_ret2
    exact ⟨rfl, HB1.out⟩
  · obtain ⟨c, hcc⟩ : ∃ c, decide (64 < n) = c := ⟨_, rfl⟩
    have HWN := Lib.hid (fun W => rWhen_any c 3 W rc (by
      rw [← hc, ← hcc]
      by_cases h2 : 64 < n
      · rw [decide_eq_true h2, if_pos rfl, if_pos (Or.inr h2)]
      · rw [decide_eq_false h2, if_neg (by simp), if_neg (by omega)]))
    have h1 : decide (n < 1) = false := by simp; omega
    clear ha hc hr h0 sx h
    go_enter Tryz.func56, Tryz.ntmps56
    go_wp2_with (first | (go_at_call 13; (with_reducible refine (HCA.out _).mono ?_); rintro e w2 ⟨rfl, rfl⟩) | (go_at_call 65; (with_reducible refine (HWN.out _).mono ?_); rintro e w2 ⟨rfl, rfl⟩) | (go_at_call 81; (with_reducible refine (HF.out _).mono ?_); rintro e w3 ⟨rfl, rfl⟩; have HB1 := Lib.hid ((Below.refl w.heap.size w).alloc (Nat.le_refl _) (.cells #[.int .i64 ra, .int .i64 rc] 3))))
    go_ret2
    exact ⟨rfl, HB1.out⟩
end Go.Proofs.YtjemolaobhlapaaGreatDoor

namespace Go.Proofs.YtjemolaobhlapaaGreatDoor
open Go.RowKit
set_option maxRecDepth 100000

theorem ones_mod (x k : Nat) : x &&& ones k = x % 2 ^ k := Nat.and_two_pow_sub_one_eq_mod x k
theorem pow_dvd64 {k : Nat} (h : k ≤ 64) : 2 ^ k ∣ 18446744073709551616 := by
  rw [show (18446744073709551616 : Nat) = 2 ^ 64 by decide]
  exact Nat.pow_dvd_pow 2 h
theorem neg_mod {P M m : Nat} (h0 : 0 < P) (hd : P ∣ M) (hm : m < M) : (M - m) % M % P = if m % P = 0 then 0 else P - m % P := by
  obtain ⟨Q, rfl⟩ := hd
  have h1 := Nat.div_add_mod m P
  have h2 := Nat.mod_lt m h0
  obtain ⟨t, ht⟩ : ∃ t, m / P = t := ⟨_, rfl⟩
  obtain ⟨u, hu⟩ : ∃ u, m % P = u := ⟨_, rfl⟩
  rw [ht, hu] at h1
  rw [hu] at h2 ⊢
  rw [Nat.mod_mul_right_mod]
  have htq : t < Q := by
    rw [← ht]
    exact Nat.div_lt_of_lt_mul hm
  obtain ⟨d, rfl⟩ : ∃ d, Q = t + 1 + d := ⟨Q - (t + 1), by omega⟩
  have e1 : P * (t + 1 + d) = P * t + P + P * d := by rw [Nat.mul_add, Nat.mul_add, Nat.mul_one]
  by_cases h : u = 0
  · rw [if_pos h]
    have : P * (t + 1 + d) - m = P * (1 + d) := by rw [e1, Nat.mul_add, Nat.mul_one]; omega
    rw [this, Nat.mul_mod_right]
  · rw [if_neg h]
    have : P * (t + 1 + d) - m = P * d + (P - u) := by rw [e1]; omega
    rw [this, Nat.mul_add_mod]
    exact Nat.mod_eq_of_lt (by omega)
theorem wrap_rest {s : Bool} {n k q r : Nat} (hk : k ≤ 64) (hq : (if (s && !decide (n % 2 ^ k = 0)) = true then (n / 2 ^ k + 1, 2 ^ k - n % 2 ^ k) else (n / 2 ^ k, n % 2 ^ k)) = (q, r)) : wrapW s n k = r := by
  have hP : 0 < 2 ^ k := Nat.pow_pos (by decide)
  have hd := pow_dvd64 hk
  unfold wrapW
  rw [ones_mod]
  have hm : n % 18446744073709551616 % 2 ^ k = n % 2 ^ k := Nat.mod_mod_of_dvd n hd
  cases s
  · rw [if_neg (by simp)] at hq ⊢
    rw [Prod.mk.injEq] at hq
    rw [hm]; exact hq.2
  · rw [if_pos rfl, neg_mod hP hd (Nat.mod_lt n (by decide)), hm]
    by_cases h : n % 2 ^ k = 0
    · rw [if_pos h]
      rw [decide_eq_true h, if_neg (by decide), Prod.mk.injEq] at hq
      omega
    · rw [if_neg h]
      rw [decide_eq_false h, if_pos (by decide), Prod.mk.injEq] at hq
      exact hq.2
theorem word_digits {v : Nat} (h : v < 18446744073709551616) : Lib.nDigits v ≤ 120 := (num_word h).short
theorem word_ql {v : Nat} (h : v < 18446744073709551616) : ql v ≤ 5 := ql_le (n := v) (k := 5) (by have : qw 5 = 100000000000000000000 := rfl; omega)

set_option maxHeartbeats 4000000 in
theorem rWrap_ok (s : Bool) (a k : Nat) (ha : Num s a) (hk1 : 1 ≤ k) (hk : k ≤ 64) (r : Nat) (hv : wrapW s a k = r) (w : World) :
    Calls Tryz.prog 56 #[.string (bs (numeral s a)), .int .i64 k] w fun e w' => e = .returned (.tuple #[.string (bs (numeral false r)), .int .i64 0]) ∧ Below w.heap.size w w' := by
  have HCA := Lib.hid (fun W => rCheck_any (bs (numeral s a)) (by rw [bs_size]; have := num_len ha; omega) W 0 (check_numeral ha))
  have HWN := Lib.hid (fun W => rWhen_any false 3 W 0 rfl)
  have HF := Lib.hid (fun W => rFirst_two 0 0 0 rfl W)
  have HRA := Lib.hid (fun W => rRead_num s a ha.sign (num_dig ha) W)
  have HPW := Lib.hid (fun W => rPower_any k hk W)
  have qa := num_ql ha
  have qp := pow2_ql hk
  have hP : 0 < 2 ^ k := Nat.pow_pos (by decide)
  obtain ⟨q, r', hq⟩ : ∃ q r, (if (s && !decide (a % 2 ^ k = 0)) = true then (a / 2 ^ k + 1, 2 ^ k - a % 2 ^ k) else (a / 2 ^ k, a % 2 ^ k)) = (q, r) := ⟨_, _, rfl⟩
  have hr := wrap_rest hk hq
  rw [hv] at hr
  subst hr
  obtain ⟨z, hz⟩ : ∃ z, ((s != false) && !decide (q = 0)) = z := ⟨_, rfl⟩
  have hrl : r < 18446744073709551616 := by
    rw [← hv]
    unfold wrapW
    exact Nat.lt_of_le_of_lt Nat.and_le_left (by split <;> exact Nat.mod_lt _ (by decide))
  have HOV := Lib.hid (fun (va vb : Value) W (h1 : Mag W va a) (h2 : Mag W vb (2 ^ k)) => rOverB_any s false a (2 ^ k) va vb W h1 h2 (by omega) (by omega) hP q r hq z hz)
  have HR2 := Lib.hid (fun (v : Value) W (h1 : Mag W v r) => rResult_any false r v W h1 (by have := word_ql hrl; omega) (by simp) (bs (numeral false r)) 0 (resP_sh (word_digits hrl)))
  have h1 : decide ((k : Int) < 1) = false := by simp; omega
  have h2 : decide ((64 : Int) < (k : Int)) = false := by simp; omega
  obtain ⟨P, hPP⟩ : ∃ P, 2 ^ k = P := ⟨_, rfl⟩
  rw [hPP] at HOV HPW
  obtain ⟨x, hx2⟩ : ∃ x, bs (numeral s a) = x := ⟨_, rfl⟩
  rw [hx2] at HCA HRA ⊢
  obtain ⟨y3, hy3⟩ : ∃ y, bs (numeral false r) = y := ⟨_, rfl⟩
  rw [hy3] at HR2 ⊢
  clear hx2 hy3 ha hq hz hv qa qp hP hrl hPP
  go_enter Tryz.func56, Tryz.ntmps56
  go_wp2_with (first | (go_at_call 13; (with_reducible refine (HCA.out _).mono ?_); rintro e w2 ⟨rfl, rfl⟩) | (go_at_call 65; (with_reducible refine (HWN.out _).mono ?_); rintro e w2 ⟨rfl, rfl⟩) | (go_at_call 81; (with_reducible refine (HF.out _).mono ?_); rintro e w3 ⟨rfl, rfl⟩; have HB1 := Lib.hid ((Below.refl w.heap.size w).alloc (Nat.le_refl _) (.cells #[.int .i64 0, .int .i64 0] 3))) | (go_at_call 73; (with_reducible refine (HRA.out _).mono ?_); rintro e w4 ⟨v4, rfl, p4, k4, rfl, hm4, hb4⟩; have HM4 := Lib.hid hm4; have HB4 := Lib.hid (HB1.out.trans (hb4.mono HB1.out.size)); clear hm4 hb4) | (go_at_call 114; (with_reducible refine (HPW.out _).mono ?_); rintro e w5 ⟨v5, rfl, p5, k5, rfl, hm5, hb5⟩; have HM5 := Lib.hid (And.intro (HM4.out.below hb5) hm5); have HBR := Lib.hid (HB4.out.trans (hb5.mono HB4.out.size)); clear hm5 hb5) | (go_at_call 89; (with_reducible refine (HOV.out _ _ _ HM5.out.1 HM5.out.2).mono ?_); rintro e w5 ⟨v5, rfl, p2, c2, p3, c3, rfl, hm5, hn5, hb5⟩; have HB5 := Lib.hid (HBR.out.trans (hb5.mono HBR.out.size)); obtain ⟨D, hD⟩ : ∃ D, w5.heap.size = D := ⟨_, rfl⟩; obtain ⟨W6, hW6⟩ : ∃ W6, (w5.alloc (.cells #[.bool false, .slice none 0 0] 74)).alloc (.cells #[.bool false, .slice none 0 0] 74) = W6 := ⟨_, rfl⟩; have HG := Lib.hid (Bg2.start hD hW6); obtain ⟨W7, hW7⟩ : ∃ W7, (((W6.setCell ⟨D, 0, none⟩ (.bool z)).setCell ⟨D, 1, none⟩ (.slice p2 (ql q) c2)).setCell ⟨D + 1, 0, none⟩ (.bool false)).setCell ⟨D + 1, 1, none⟩ (.slice p3 (ql r) c3) = W7 := ⟨_, rfl⟩; have HX := Lib.hid (dm_set HG.out hD hm5 hn5 HB5.out hW7); clear hm5 hn5 hb5; have g0 := HG.out.b0.at 0; have g1 := HG.out.b0.at 1; have g2 := HG.out.b1.at 0; have g3 := HG.out.b1.at 1; have g4 := HG.out.b0.thawed 0; have g5 := HG.out.b0.thawed 1; have g6 := HG.out.b1.thawed 0; have g7 := HG.out.b1.thawed 1; have k2 := HX.out.2.1.at 0; have k3 := HX.out.2.1.at 1) | (go_at_call 77; (with_reducible refine (HR2.out _ _ HX.out.2.2.2.1).mono ?_); rintro e w9 ⟨rfl, hb9⟩; have HB9 := Lib.hid (HX.out.2.2.2.2.trans (hb9.mono HX.out.2.2.2.2.size)); clear hb9))
  go_ret2
  exact ⟨rfl, HB9.out⟩

theorem rLimb_zero (v : Value) (n : Nat) (w : World) (hv : Mag w v n) (x : Nat) (hx : (if 0 < ql n then dq n 0 else 0) = x) :
    Calls Tryz.prog 141 #[v, .int .i64 0] w fun e w' => e = .returned (.int .i64 x) ∧ w = w' := rLimb_any (dq n) (ql n) v 0 w hv 0 (by omega) x hx
set_option maxHeartbeats 4000000 in
theorem rShift_any (b k : Nat) (hk : k ≤ 64) (vb : Value) (w : World) (hb : Mag w vb b) (qb : ql b < 20000) (m : Nat) (hm : min b k = m) :
    Calls Tryz.prog 119 #[.agg #[.bool false, vb], .int .i64 k] w fun e w' => e = .returned (.int .i64 m) ∧ Below w.heap.size w w' := by
  obtain ⟨p, c, rfl⟩ := hb.len
  obtain ⟨D, hD⟩ : ∃ D, w.heap.size = D := ⟨_, rfl⟩
  obtain ⟨W, hW⟩ : ∃ W, w.alloc (.cells #[.bool false, .slice p (ql b) c] 74) = W := ⟨_, rfl⟩
  have hT : Tn w D false p b c W := by
    have h1 : Below w.heap.size w W := by rw [← hW]; exact (Below.refl _ _).alloc (Nat.le_refl _) _
    exact ⟨by rw [← hW, ← hD]; exact BlockIs.new _ _ _, hb.below h1, h1⟩
  have HSM := Lib.hid (fun W => rSmall_nat k (by omega) W)
  obtain ⟨o, ho⟩ : ∃ o, cmpZ (b : Int) (k : Int) = o := ⟨_, rfl⟩
  have qk : ql k < 20000 := by have := word_ql (v := k) (by omega); omega
  have HOR := Lib.hid (fun (va vb : Value) W (h1 : Mag W va b) (h2 : Mag W vb k) => ord_two va vb W h1 h2 qb qk o ho)
  have hT2 := Lib.hid hT
  clear hb hT
  by_cases hbk : b < k
  · have ho2 : o = -1 := by rw [← ho]; unfold cmpZ; rw [if_neg (by omega), if_pos (by omega)]
    subst ho2
    have hmb : m = b := by omega
    subst hmb
    have hx : (if 0 < ql m then dq m 0 else 0) = m := by
      by_cases h0 : 0 < ql m
      · rw [if_pos h0]; unfold dq; rw [show qw 0 = 1 from rfl, Nat.div_one]; exact Nat.mod_eq_of_lt (by omega)
      · rw [if_neg h0]; exact (ql_eq_zero.1 (by omega)).symm
    have HLM := Lib.hid (fun (v : Value) W (h1 : Mag W v m) => rLimb_zero v m W h1 m hx)
    clear ho hm hx qb qk hbk
    go_enter Tryz.func119, Tryz.ntmps119
    go_wp2
    clear hW
    have hS0 := hT2.out.drew
    refine wp_region_held_drew (S := fun w' => Tn w D false p m c w') (by kernel_rfl) hS0 (fun hS => ?_)
    refine wpAnyH_take (i := 0) rfl (by kernel_rfl) (by kernel_rfl) (by kernel_rfl) (fun _ _ _ h => h) (yB_load rfl (.tmp 2) rfl D rfl (fun w' h => h.b0)) hS ?_
    try simp only [A1, A2, A3, Act.put, A4, A5, A6]
    refine wpAnyH_take (i := 1) (v := .int .i64 k) rfl (by kernel_rfl) (by kernel_rfl) (by kernel_rfl) (fun _ _ _ h => h) (Or.inl ⟨by rfl, fun w' _ => by rfl⟩) hS ?_
    try simp only [A1, A2, A3, Act.put, A4, A5, A6]
    refine wpAnyH_ready (rs := [2]) (by kernel_rfl) (by simp) (AllReadyH.cons rfl (fun K hK => ?_) AllReadyH.nil)
    go_simp
    go_at_call 68
    refine (HSM.out _).mono ?_
    rintro e w5 ⟨v5, rfl, p5, k5, rfl, hm5, hb5⟩
    have hS5 := hS.below hb5
    clear hS
    refine hK.out _ _ hS5 (fun hS => ?_)
    clear hK K
    try simp only [A1, A2, A3, Act.put, A4, A5, A6]
    refine wpAnyH_ready (rs := [3]) (by kernel_rfl) (by simp) (AllReadyH.cons rfl (fun K hK => ?_) AllReadyH.nil)
    go_simp
    go_at_call 74
    refine (HOR.out _ _ _ hS5.ma hm5).mono ?_
    rintro e w6 ⟨rfl, hb6⟩
    have hS6 := hS5.below hb6
    clear hS
    refine hK.out _ _ hS6 (fun hS => ?_)
    clear hK K
    try simp only [A1, A2, A3, Act.put, A4, A5, A6]
    refine wpAnyH_take (i := 4) (v := .bool false) rfl (by kernel_rfl) (by kernel_rfl) (by kernel_rfl) (fun _ _ _ h => h) (Or.inl ⟨by rfl, fun w' _ => by rfl⟩) hS ?_
    try simp only [A1, A2, A3, Act.put, A4, A5, A6]
    refine wpAnyH_done (by kernel_rfl) ?_ _
    have HZ := Lib.hid hS6
    clear hS0 hS5 hS6 hm5 hb5 hb6
    have c0 := HZ.out.b0.at 0
    have c1 := HZ.out.b0.at 1
    go_wp2_with (go_at_call 141; (with_reducible refine (HLM.out _ _ HZ.out.ma).mono ?_); rintro e w9 ⟨rfl, rfl⟩)
    go_ret
    exact ⟨rfl, HZ.out.bl⟩
  · have hmb : m = k := by omega
    subst hmb
    have ho2 : o = 0 ∨ o = 1 := by
      rw [← ho]; unfold cmpZ
      by_cases h1 : (b : Int) = (m : Int)
      · exact Or.inl (if_pos h1)
      · exact Or.inr (by rw [if_neg h1, if_neg (show ¬ ((b : Int) < (m : Int)) by omega)])
    clear ho hm qb qk hbk
    rcases ho2 with rfl | rfl
    all_goals
      go_enter Tryz.func119, Tryz.ntmps119
      go_wp2
      clear hW
      have hS0 := hT2.out.drew
      refine wp_region_held_drew (S := fun w' => Tn w D false p b c w') (by kernel_rfl) hS0 (fun hS => ?_)
      refine wpAnyH_take (i := 0) rfl (by kernel_rfl) (by kernel_rfl) (by kernel_rfl) (fun _ _ _ h => h) (yB_load rfl (.tmp 2) rfl D rfl (fun w' h => h.b0)) hS ?_
      try simp only [A1, A2, A3, Act.put, A4, A5, A6]
      refine wpAnyH_take (i := 1) (v := .int .i64 m) rfl (by kernel_rfl) (by kernel_rfl) (by kernel_rfl) (fun _ _ _ h => h) (Or.inl ⟨by rfl, fun w' _ => by rfl⟩) hS ?_
      try simp only [A1, A2, A3, Act.put, A4, A5, A6]
      refine wpAnyH_ready (rs := [2]) (by kernel_rfl) (by simp) (AllReadyH.cons rfl (fun K hK => ?_) AllReadyH.nil)
      go_simp
      go_at_call 68
      refine (HSM.out _).mono ?_
      rintro e w5 ⟨v5, rfl, p5, k5, rfl, hm5, hb5⟩
      have hS5 := hS.below hb5
      clear hS
      refine hK.out _ _ hS5 (fun hS => ?_)
      clear hK K
      try simp only [A1, A2, A3, Act.put, A4, A5, A6]
      refine wpAnyH_ready (rs := [3]) (by kernel_rfl) (by simp) (AllReadyH.cons rfl (fun K hK => ?_) AllReadyH.nil)
      go_simp
      go_at_call 74
      refine (HOR.out _ _ _ hS5.ma hm5).mono ?_
      rintro e w6 ⟨rfl, hb6⟩
      have hS6 := hS5.below hb6
      clear hS
      refine hK.out _ _ hS6 (fun hS => ?_)
      clear hK K
      try simp only [A1, A2, A3, Act.put, A4, A5, A6]
      refine wpAnyH_take (i := 4) (v := .bool true) rfl (by kernel_rfl) (by kernel_rfl) (by kernel_rfl) (fun _ _ _ h => h) (Or.inl ⟨by rfl, fun w' _ => by rfl⟩) hS ?_
      try simp only [A1, A2, A3, Act.put, A4, A5, A6]
      refine wpAnyH_done (by kernel_rfl) ?_ _
      have HZ := Lib.hid hS6
      clear hS0 hS5 hS6 hm5 hb5 hb6
      go_wp2
      go_ret
      exact ⟨rfl, HZ.out.bl⟩
end Go.Proofs.YtjemolaobhlapaaGreatDoor
