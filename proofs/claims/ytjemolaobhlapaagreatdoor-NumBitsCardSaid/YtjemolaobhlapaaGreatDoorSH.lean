/- The reference's integers: Read at numerals, First of two, sizes. -/
import Derived.Test.YtjemolaobhlapaaGreatDoorRU
import Derived.Test.YtjemolaobhlapaaGreatDoorNY
import Derived.Test.YtjemolaobhlapaaGreatDoorN60
import Derived.Test.YtjemolaobhlapaaGreatDoorRP
set_option linter.unusedSimpArgs false
set_option linter.unusedVariables false
namespace Go.Proofs.YtjemolaobhlapaaGreatDoor
open Go.RowKit
set_option maxRecDepth 100000

theorem rRead_num (s : Bool) (n : Nat) (hs : s = true → n ≠ 0) (hd : Lib.nDigits n < 90000) (w : World) :
    Calls Tryz.prog 73 #[.string (bs (numeral s n))] w fun e w' => ∃ v', e = .returned v' ∧ BigR w s n v' w' := by
  have hdl : (Lib.decDigits n).length = Lib.nDigits n := Lib.decDigits_length n
  have hpos := dec_pos n
  cases s
  · have e : numeral false n = Lib.decDigits n := rfl
    rw [e]
    exact read_plain (bs (Lib.decDigits n)) (by rw [bs_size]; exact hpos) (by rw [bs_list]; exact decDigits_dig n) (by rw [bs_size]; omega) n (by rw [bs_list]; exact numOf_dec n) false (by simp) w
  · have e : numeral true n = 45 :: Lib.decDigits n := rfl
    have h0 : 0 < (bs (numeral true n)).size := by rw [bs_size, e]; simp
    refine read_minus (bs (numeral true n)) (bs (Lib.decDigits n)) h0 ?_ ?_ (by rw [bs_list]; exact decDigits_dig n) (by rw [bs_size]; omega) n (by rw [bs_list]; exact numOf_dec n) true (by simp [hs rfl]) w
    · rfl
    · apply bytes_eq
      rw [Lib.extract_to_end, bs_list, e]
      rfl
theorem firstE_two (a b r : Int) (h : (if a = 0 then b else a) = r) : firstE [a, b] = r := by
  simp only [firstE]
  rw [← h]
  split
  · split
    · rename_i h2; rw [h2]
    · rfl
  · rfl
/-- The errors of two numbers in a block of their own. -/
theorem two_cells {w w1 : World} {a b : Int} (hw : w1 = w.alloc (.cells #[.int .i64 a, .int .i64 b] 3)) : ∀ j, j < ([a, b] : List Int).length → w1.cell? ⟨w.heap.size, j, none⟩ = some (.int .i64 (([a, b] : List Int).getD j 0)) := by
  intro j hj
  subst hw
  match j, hj with
  | 0, _ => exact (BlockIs.new w 3 #[.int .i64 a, .int .i64 b]).at 0
  | 1, _ => exact (BlockIs.new w 3 #[.int .i64 a, .int .i64 b]).at 1
theorem rFirst_two (a b r : Int) (h : (if a = 0 then b else a) = r) (w : World) :
    Calls Tryz.prog 81 #[.slice (some ⟨w.heap.size, 0, none⟩) 2 2] (w.alloc (.cells #[.int .i64 a, .int .i64 b] 3)) fun e w' => e = .returned (.int .i64 r) ∧ w.alloc (.cells #[.int .i64 a, .int .i64 b] 3) = w' :=
  rFirst_any [a, b] w.heap.size _ (by simp) (two_cells rfl) r (firstE_two a b r h)

theorem num_ql {s : Bool} {n : Nat} (h : Num s n) : ql n ≤ 31 := by
  have := ql_dig h.short
  omega
theorem num_dig {s : Bool} {n : Nat} (h : Num s n) : Lib.nDigits n < 90000 := by have := h.short; omega
theorem num_len {s : Bool} {n : Nat} (h : Num s n) : (numeral s n).length ≤ 121 := numeral_len h.short
theorem num_first {b : Nat} : ∃ h : 0 < (bs (numeral false b)).size, (bs (numeral false b))[0].toNat ≠ 45 := by
  have h0 : 0 < (bs (numeral false b)).size := by rw [bs_size]; exact dec_pos b
  refine ⟨h0, ?_⟩
  have h1 := isDig_le (decDigits_dig b ((numeral false b)[0]'(by rw [bs_size] at h0; exact h0)) (List.getElem_mem _))
  show ((numeral false b)[0]'(by rw [bs_size] at h0; exact h0)).toNat ≠ 45
  omega
theorem dec_is {n : Nat} {k : Nat} (hk : k < 10) : Lib.decDigits n = [UInt8.ofNat (48 + k)] ↔ n = k := by
  constructor
  · intro h
    have h1 := numOf_dec n
    rw [h] at h1
    rw [← h1]
    show 0 * 10 + _ = _
    rw [digit_byte hk]; omega
  · rintro rfl
    exact decDigits_small hk
theorem str_is {b : Nat} {k : Nat} (hk : k < 10) : ((bs (numeral false b)).toList == [UInt8.ofNat (48 + k)]) = decide (b = k) := by
  rw [Lib.toList_data, bs_list, Bool.eq_iff_iff, decide_eq_true_iff, ← dec_is hk]
  simp [numeral]

end Go.Proofs.YtjemolaobhlapaaGreatDoor

namespace Go.Proofs.YtjemolaobhlapaaGreatDoor
open Go.RowKit
set_option maxRecDepth 100000

theorem sumB_int (x y : Int) : ∃ r', sumB (isNeg x) (isNeg y) x.natAbs y.natAbs = (r', (x + y).natAbs) ∧ (r' && !decide ((x + y).natAbs = 0)) = isNeg (x + y) := by
  unfold sumB isNeg
  by_cases hx : x < 0 <;> by_cases hy : y < 0
  · rw [decide_eq_true hx, decide_eq_true hy, if_pos rfl]
    refine ⟨true, ?_, ?_⟩
    · rw [Prod.mk.injEq]; exact ⟨rfl, by omega⟩
    · rw [decide_eq_true (show x + y < 0 by omega), decide_eq_false (by omega)]; rfl
  · rw [decide_eq_true hx, decide_eq_false hy, if_neg (by simp)]
    by_cases h : y.natAbs ≤ x.natAbs
    · rw [if_pos h]
      refine ⟨true, ?_, ?_⟩
      · rw [Prod.mk.injEq]; exact ⟨rfl, by omega⟩
      · by_cases h0 : (x + y).natAbs = 0
        · rw [decide_eq_true h0, decide_eq_false (by omega)]; rfl
        · rw [decide_eq_false h0, decide_eq_true (by omega)]; rfl
    · rw [if_neg h]
      refine ⟨false, ?_, ?_⟩
      · rw [Prod.mk.injEq]; exact ⟨rfl, by omega⟩
      · rw [decide_eq_false (show ¬ x + y < 0 by omega)]; rfl
  · rw [decide_eq_false hx, decide_eq_true hy, if_neg (by simp)]
    by_cases h : y.natAbs ≤ x.natAbs
    · rw [if_pos h]
      refine ⟨false, ?_, ?_⟩
      · rw [Prod.mk.injEq]; exact ⟨rfl, by omega⟩
      · rw [decide_eq_false (show ¬ x + y < 0 by omega)]; rfl
    · rw [if_neg h]
      refine ⟨true, ?_, ?_⟩
      · rw [Prod.mk.injEq]; exact ⟨rfl, by omega⟩
      · rw [decide_eq_true (show x + y < 0 by omega), decide_eq_false (by omega)]; rfl
  · rw [decide_eq_false hx, decide_eq_false hy, if_pos rfl]
    refine ⟨false, ?_, ?_⟩
    · rw [Prod.mk.injEq]; exact ⟨rfl, by omega⟩
    · rw [decide_eq_false (show ¬ x + y < 0 by omega)]; rfl
theorem ordB_int (x y : Int) : ordB (isNeg (x - y)) (x - y).natAbs = cmpZ x y := by
  unfold ordB isNeg cmpZ
  by_cases h : x = y
  · rw [if_pos h, if_pos (by omega)]
  · rw [if_neg h, if_neg (by omega)]
    by_cases h2 : x < y
    · rw [if_pos h2, decide_eq_true (by omega), if_pos rfl]
    · rw [if_neg h2, decide_eq_false (by omega), if_neg (by decide)]
theorem neg_ne {z : Int} (h : isNeg z = true) : z.natAbs ≠ 0 := by
  have := of_decide_eq_true h
  omega
theorem digits_mono {a b : Nat} (h : a ≤ b) (hb : Lib.nDigits b ≤ 120) : Lib.nDigits a ≤ 120 :=
  digits_le 119 a (Nat.lt_of_le_of_lt h (Nat.lt_of_lt_of_le (Lib.lt_pow_nDigits b) (Nat.pow_le_pow_right (by decide) hb)))
theorem floor_le {s : Bool} {a b q r : Nat} (hb : 0 < b) (hq : (if (s && !decide (a % b = 0)) = true then (a / b + 1, b - a % b) else (a / b, a % b)) = (q, r)) : q ≤ a := by
  split at hq
  · rename_i h
    rw [Prod.mk.injEq] at hq
    have h1 : a % b ≠ 0 := by intro h0; rw [h0] at h; simp at h
    have h2 : b ≠ 1 := by rintro rfl; exact h1 (Nat.mod_one a)
    have h3 : a ≠ 0 := by rintro rfl; exact h1 (Nat.zero_mod b)
    have h4 : a / b < a := Nat.div_lt_self (by omega) (by omega)
    omega
  · rw [Prod.mk.injEq] at hq
    have := Nat.div_le_self a b
    omega
theorem sign_ne {s t : Bool} {q : Nat} {z : Bool} (hz : ((s != t) && !decide (q = 0)) = z) : z = true → q ≠ 0 := by
  intro h h0
  rw [← hz, h0] at h
  simp at h

theorem rFirst_three (a b c r : Int) (h : (if a = 0 then (if b = 0 then c else b) else a) = r) (w : World) :
    Calls Tryz.prog 81 #[.slice (some ⟨w.heap.size, 0, none⟩) 3 3] (w.alloc (.cells #[.int .i64 a, .int .i64 b, .int .i64 c] 3)) fun e w' => e = .returned (.int .i64 r) ∧ w.alloc (.cells #[.int .i64 a, .int .i64 b, .int .i64 c] 3) = w' :=
  rFirst_any [a, b, c] w.heap.size _ (by simp) (by
    intro j hj
    match j, hj with
    | 0, _ => exact (BlockIs.new w 3 #[.int .i64 a, .int .i64 b, .int .i64 c]).at 0
    | 1, _ => exact (BlockIs.new w 3 #[.int .i64 a, .int .i64 b, .int .i64 c]).at 1
    | 2, _ => exact (BlockIs.new w 3 #[.int .i64 a, .int .i64 b, .int .i64 c]).at 2) r (by
    rw [← h]
    simp only [firstE]
    by_cases hc : c = 0
    · subst hc; simp
    · simp [hc])
end Go.Proofs.YtjemolaobhlapaaGreatDoor

namespace Go.Proofs.YtjemolaobhlapaaGreatDoor
open Go.RowKit
set_option maxRecDepth 100000

theorem dm_set {w w5 W6 W7 : World} {D q r c2 c3 : Nat} {z : Bool} {p2 p3 : Option Addr} (hG : Bg2 w5 D (.bool false) (.slice none 0 0) (.bool false) (.slice none 0 0) W6) (hD : w5.heap.size = D) (hm : Mag w5 (.slice p2 (ql q) c2) q) (hn : Mag w5 (.slice p3 (ql r) c3) r) (hb : Below w.heap.size w w5)
    (hW7 : (((W6.setCell ⟨D, 0, none⟩ (.bool z)).setCell ⟨D, 1, none⟩ (.slice p2 (ql q) c2)).setCell ⟨D + 1, 0, none⟩ (.bool false)).setCell ⟨D + 1, 1, none⟩ (.slice p3 (ql r) c3) = W7) :
    BlockIs W7 D 74 #[.bool z, .slice p2 (ql q) c2] ∧ BlockIs W7 (D + 1) 74 #[.bool false, .slice p3 (ql r) c3] ∧ Mag W7 (.slice p2 (ql q) c2) q ∧ Mag W7 (.slice p3 (ql r) c3) r ∧ Below w.heap.size w W7 := by
  subst hW7
  have h1 := (hG.b1.other ⟨D, 0, none⟩ (.bool z) (by simp)).other ⟨D, 1, none⟩ (.slice p2 (ql q) c2) (by simp)
  have hm6 := hm.below (by rw [hD]; exact hG.bl)
  have hn6 := hn.below (by rw [hD]; exact hG.bl)
  have hs := hb.size
  have hb6 : Below w.heap.size w W6 := hb.trans (hG.bl.mono (by omega))
  exact ⟨(hG.b0.two.other ⟨D + 1, 0, none⟩ _ (by simp)).other ⟨D + 1, 1, none⟩ _ (by simp), h1.two, (hm6.two hG.b0).two h1, (hn6.two hG.b0).two h1,
    ((((hb6.setCell (p := ⟨D, 0, none⟩) (by simp; omega) _).setCell (p := ⟨D, 1, none⟩) (by simp; omega) _).setCell (p := ⟨D + 1, 0, none⟩) (by simp; omega) _).setCell (p := ⟨D + 1, 1, none⟩) (by simp; omega) _)⟩
theorem rSmall_one (w : World) : Calls Tryz.prog 68 #[.int .i64 1] w fun e w' => ∃ v', e = .returned v' ∧ BigR w false 1 v' w' := rSmall_nat 1 (by omega) w
theorem resP_sh {s : Bool} {n : Nat} (h : Lib.nDigits n ≤ 120) : resP s n = (bs (numeral s n), 0) := if_neg (by omega)
theorem resP_lg {s : Bool} {n : Nat} (h : 120 < Lib.nDigits n) : resP s n = (⟨#[]⟩, 4) := if_pos h

structure Tn (w0 : World) (D : Nat) (s : Bool) (p : Option Addr) (a c : Nat) (w : World) : Prop where
  b0 : BlockIs w D 74 #[.bool s, .slice p (ql a) c]
  ma : Mag w (.slice p (ql a) c) a
  bl : Below w0.heap.size w0 w
theorem Tn.below {w0 : World} {D a c : Nat} {s : Bool} {p : Option Addr} {w w' : World} (h : Tn w0 D s p a c w) (hb : Below w.heap.size w w') : Tn w0 D s p a c w' :=
  ⟨h.b0.below hb h.b0.lt, h.ma.below hb, h.bl.trans (hb.mono h.bl.size)⟩
theorem Tn.drew {w0 : World} {D a c : Nat} {s : Bool} {p : Option Addr} {w : World} (h : Tn w0 D s p a c w) : Tn w0 D s p a c w.drew := ⟨h.b0.drew, h.ma.drew, h.bl.drew⟩
theorem Tn.start {w w5 W6 W7 : World} {D a c : Nat} {s : Bool} {p : Option Addr} (hm : Mag w5 (.slice p (ql a) c) a) (hb : Below w.heap.size w w5) (hD : w5.heap.size = D) (hW6 : w5.alloc (.cells #[.bool false, .slice none 0 0] 74) = W6)
    (hW7 : (W6.setCell ⟨D, 0, none⟩ (.bool s)).setCell ⟨D, 1, none⟩ (.slice p (ql a) c) = W7) : BlockIs W6 D 74 #[.bool false, .slice none 0 0] ∧ Tn w D s p a c W7 := by
  have h0 : BlockIs W6 D 74 #[.bool false, .slice none 0 0] := by rw [← hW6, ← hD]; exact BlockIs.new _ _ _
  have h1 : Below w5.heap.size w5 W6 := by rw [← hW6]; exact (Below.refl _ _).alloc (Nat.le_refl _) _
  have hs := hb.size
  subst hW7
  exact ⟨h0, h0.two, (hm.below h1).two h0, (((hb.trans (h1.mono hs)).setCell (p := ⟨D, 0, none⟩) (by simp; omega) _).setCell (p := ⟨D, 1, none⟩) (by simp; omega) _)⟩
/-- A call that returns this, whatever the world. -/
abbrev Ans (f : Nat) (xs : Array Value) (v : Value) : Prop := ∀ W : World, Calls Tryz.prog f xs W fun e w' => e = .returned v ∧ Below W.heap.size W w'

theorem neg_sign2 (y : Int) : ((!isNeg y) && !decide (y.natAbs = 0)) = isNeg (-y) := by
  unfold isNeg
  by_cases h1 : y < 0
  · rw [decide_eq_true h1, decide_eq_false (show ¬ y.natAbs = 0 by omega), decide_eq_false (show ¬ -y < 0 by omega)]; rfl
  · rw [decide_eq_false h1]
    by_cases h0 : y = 0
    · subst h0; rfl
    · rw [decide_eq_true (show -y < 0 by omega), decide_eq_false (show ¬ y.natAbs = 0 by omega)]; rfl
end Go.Proofs.YtjemolaobhlapaaGreatDoor
