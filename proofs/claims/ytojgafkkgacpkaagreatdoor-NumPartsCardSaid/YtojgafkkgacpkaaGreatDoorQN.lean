/- FromDecimal of the reference: the first loop. -/
import Derived.Test.YtojgafkkgacpkaaGreatDoorQL
set_option linter.unusedSimpArgs false
set_option linter.unusedVariables false
namespace Go.Proofs.YtojgafkkgacpkaaGreatDoor
open Go.RowKit
set_option maxRecDepth 100000

/-- Where the reference's first loop leaves the point. -/
def scanD : Int → Nat → List UInt8 → Option Int
  | A, _, [] => some A
  | A, k, c :: l => if c = 46 ∧ A < 0 then scanD k (k + 1) l else if isDig c = true then scanD A (k + 1) l else none
theorem scan_point {s : ByteArray} {k : Nat} {A : Int} {R : Option Int} (h : k < s.size) (hc : s[k].toNat = 46) (hA : A < 0) (hk : scanD A k (s.data.toList.drop k) = R) : scanD k (k + 1) (s.data.toList.drop (k + 1)) = R := by
  rw [drop_cons s k h] at hk
  have h46 : s[k] = 46 := UInt8.toNat_inj.1 hc
  rw [← hk]
  unfold scanD
  rw [if_pos ⟨h46, hA⟩]
  cases (s.data.toList.drop (k + 1)) <;> rfl
theorem scan_dig {s : ByteArray} {k : Nat} {A : Int} {R : Option Int} (h : k < s.size) (hc : ¬ (s[k].toNat = 46 ∧ A < 0)) (hd : isDig s[k] = true) (hk : scanD A k (s.data.toList.drop k) = R) : scanD A (k + 1) (s.data.toList.drop (k + 1)) = R := by
  rw [drop_cons s k h] at hk
  rw [← hk]
  conv => rhs; unfold scanD
  rw [if_neg (fun h1 => hc ⟨by rw [h1.1]; rfl, h1.2⟩), if_pos hd]
theorem scan_bad {s : ByteArray} {k : Nat} {A : Int} {R : Option Int} (h : k < s.size) (hc : ¬ (s[k].toNat = 46 ∧ A < 0)) (hd : isDig s[k] = false) (hk : scanD A k (s.data.toList.drop k) = R) : R = none := by
  rw [drop_cons s k h] at hk
  rw [← hk]
  unfold scanD
  rw [if_neg (fun h1 => hc ⟨by rw [h1.1]; rfl, h1.2⟩), if_neg (by rw [hd]; decide)]
theorem scan_end {s : ByteArray} {k : Nat} {A : Int} {R : Option Int} (h : s.size ≤ k) (hk : scanD A k (s.data.toList.drop k) = R) : R = some A := by
  rw [List.drop_eq_nil_of_le (by simpa using h)] at hk
  rw [← hk]
  unfold scanD
  rfl

set_option maxHeartbeats 4000000 in
theorem rFD_none (s : ByteArray) (hsz : s.size ≤ 300) (R : Option Int) (hR : scanD (-1) 0 s.data.toList = R) (hR0 : R = none) (w : World) :
    Calls Tryz.prog 52 #[.string s] w fun e w' => e = .returned (.tuple #[.string ⟨#[]⟩, .int .i64 1]) ∧ w = w' := by
  have HR0 := Lib.hid hR0
  clear hR0
  have HST := Lib.hid (show scanD (-1) 0 (s.data.toList.drop 0) = R by simpa using hR)
  clear hR
  go_enter Tryz.func52, Tryz.ntmps52
  go_wp2
  go_loop [4, 5] (fun x y => ∃ (A : Int) (k : Nat), k ≤ s.size ∧ x = .int .i64 A ∧ y = .int .i64 k ∧ -1 ≤ A ∧ A ≤ k ∧ Hid (scanD A k (s.data.toList.drop k) = R)) (fun _ y => s.size - (intOf y).toNat)
  case atStart => exact ⟨-1, 0, Nat.zero_le _, rfl, rfl, by omega, by omega, HST⟩
  case round =>
    clear HST
    obtain ⟨A, k, hk, rfl, rfl, hA1, hA2, HK⟩ := hrel
    by_cases hlt : k < s.size
    · obtain ⟨x, hx⟩ : ∃ x : Nat, s[k].toNat = x := ⟨_, rfl⟩
      have hxx : (s[k].toNat : Int) = (x : Int) := by rw [hx]
      have HDG := Lib.hid (dig_iff hx)
      obtain ⟨g, hg⟩ : ∃ g, (decide (48 ≤ x) && decide (x ≤ 57)) = g := ⟨_, rfl⟩
      have HC := Lib.hid (fun w => rIsDigit_any x w g hg)
      rw [hg] at HDG
      by_cases hpt : x = 46 ∧ A < 0
      · have HE := Lib.hid (scan_point hlt (hx.trans hpt.1) hpt.2 HK.out)
        obtain ⟨rfl, hA0⟩ := hpt
        have hA3 : decide (A < 0) = true := decide_eq_true hA0
        clear hg hx HDG HC HK
        go_wp2
        go_round
        case rel => exact ⟨k, k + 1, by omega, rfl, by go_num, by omega, by omega, HE⟩
        case measure => simp [intOf]; omega
      · have HNP := Lib.hid (show ¬ (s[k].toNat = 46 ∧ A < 0) by rw [hx]; exact hpt)
        have hcase : (((x : Int) == 46) = false) ∨ (((x : Int) == 46) = true ∧ decide (A < 0) = false) := by
          by_cases h46 : x = 46
          · refine Or.inr ⟨by simp; omega, decide_eq_false (fun h => hpt ⟨h46, h⟩)⟩
          · exact Or.inl (by simp; omega)
        clear hpt hg hx
        cases g
        · have HE := Lib.hid (scan_bad hlt HNP.out HDG.out HK.out)
          clear HK HDG HNP
          rcases hcase with h46 | ⟨h46, hA3⟩
          · go_wp2_with (go_at_call 111; refine (HC.out _).mono ?_; rintro e w' ⟨rfl, rfl⟩)
            go_ret2
            exact ⟨rfl, rfl⟩
          · go_wp2_with (go_at_call 111; refine (HC.out _).mono ?_; rintro e w' ⟨rfl, rfl⟩)
            go_ret2
            exact ⟨rfl, rfl⟩
        · have HE := Lib.hid (scan_dig hlt HNP.out HDG.out HK.out)
          clear HK HDG HNP
          rcases hcase with h46 | ⟨h46, hA3⟩
          · go_wp2_with (go_at_call 111; refine (HC.out _).mono ?_; rintro e w' ⟨rfl, rfl⟩)
            go_round
            case rel => exact ⟨A, k + 1, by omega, rfl, by go_num, by omega, by omega, HE⟩
            case measure => simp [intOf]; omega
          · go_wp2_with (go_at_call 111; refine (HC.out _).mono ?_; rintro e w' ⟨rfl, rfl⟩)
            go_round
            case rel => exact ⟨A, k + 1, by omega, rfl, by go_num, by omega, by omega, HE⟩
            case measure => simp [intOf]; omega
    · have HE := Lib.hid (scan_end (by omega) HK.out)
      clear HK
      have hkn : k = s.size := by omega
      subst hkn
      exact absurd HE.out (by rw [HR0.out]; simp)

set_option maxHeartbeats 4000000 in
theorem rFD_form (s : ByteArray) (hsz : s.size ≤ 300) (R : Option Int) (hR : scanD (-1) 0 s.data.toList = R) (A0 : Int) (hR0 : R = some A0) (hA0 : A0 < 1 ∨ A0 = s.size - 1) (w : World) :
    Calls Tryz.prog 52 #[.string s] w fun e w' => e = .returned (.tuple #[.string ⟨#[]⟩, .int .i64 1]) ∧ w = w' := by
  have HR0 := Lib.hid hR0
  have HA0 := Lib.hid hA0
  clear hR0 hA0
  have HST := Lib.hid (show scanD (-1) 0 (s.data.toList.drop 0) = R by simpa using hR)
  clear hR
  go_enter Tryz.func52, Tryz.ntmps52
  go_wp2
  go_loop [4, 5] (fun x y => ∃ (A : Int) (k : Nat), k ≤ s.size ∧ x = .int .i64 A ∧ y = .int .i64 k ∧ -1 ≤ A ∧ A ≤ k ∧ Hid (scanD A k (s.data.toList.drop k) = R)) (fun _ y => s.size - (intOf y).toNat)
  case atStart => exact ⟨-1, 0, Nat.zero_le _, rfl, rfl, by omega, by omega, HST⟩
  case round =>
    clear HST
    obtain ⟨A, k, hk, rfl, rfl, hA1, hA2, HK⟩ := hrel
    by_cases hlt : k < s.size
    · obtain ⟨x, hx⟩ : ∃ x : Nat, s[k].toNat = x := ⟨_, rfl⟩
      have hxx : (s[k].toNat : Int) = (x : Int) := by rw [hx]
      have HDG := Lib.hid (dig_iff hx)
      obtain ⟨g, hg⟩ : ∃ g, (decide (48 ≤ x) && decide (x ≤ 57)) = g := ⟨_, rfl⟩
      have HC := Lib.hid (fun w => rIsDigit_any x w g hg)
      rw [hg] at HDG
      by_cases hpt : x = 46 ∧ A < 0
      · have HE := Lib.hid (scan_point hlt (hx.trans hpt.1) hpt.2 HK.out)
        obtain ⟨rfl, hA0⟩ := hpt
        have hA3 : decide (A < 0) = true := decide_eq_true hA0
        clear hg hx HDG HC HK
        go_wp2
        go_round
        case rel => exact ⟨k, k + 1, by omega, rfl, by go_num, by omega, by omega, HE⟩
        case measure => simp [intOf]; omega
      · have HNP := Lib.hid (show ¬ (s[k].toNat = 46 ∧ A < 0) by rw [hx]; exact hpt)
        have hcase : (((x : Int) == 46) = false) ∨ (((x : Int) == 46) = true ∧ decide (A < 0) = false) := by
          by_cases h46 : x = 46
          · refine Or.inr ⟨by simp; omega, decide_eq_false (fun h => hpt ⟨h46, h⟩)⟩
          · exact Or.inl (by simp; omega)
        clear hpt hg hx
        cases g
        · have HE := Lib.hid (scan_bad hlt HNP.out HDG.out HK.out)
          clear HK HDG HNP
          exact absurd HE.out (by rw [HR0.out]; simp)
        · have HE := Lib.hid (scan_dig hlt HNP.out HDG.out HK.out)
          clear HK HDG HNP
          rcases hcase with h46 | ⟨h46, hA3⟩
          · go_wp2_with (go_at_call 111; refine (HC.out _).mono ?_; rintro e w' ⟨rfl, rfl⟩)
            go_round
            case rel => exact ⟨A, k + 1, by omega, rfl, by go_num, by omega, by omega, HE⟩
            case measure => simp [intOf]; omega
          · go_wp2_with (go_at_call 111; refine (HC.out _).mono ?_; rintro e w' ⟨rfl, rfl⟩)
            go_round
            case rel => exact ⟨A, k + 1, by omega, rfl, by go_num, by omega, by omega, HE⟩
            case measure => simp [intOf]; omega
    · have HE := Lib.hid (scan_end (by omega) HK.out)
      clear HK
      have hkn : k = s.size := by omega
      subst hkn
      have hAA : A = A0 := by have := HE.out; rw [HR0.out] at this; injection this with h; exact h.symm
      by_cases h1 : A < 1
      · have d1 : decide (A < 1) = true := decide_eq_true h1
        clear hAA h1
        go_wp2
        go_ret2
        exact ⟨rfl, rfl⟩
      · have d1 : decide (A < 1) = false := decide_eq_false h1
        have d2 : (A == (s.size : Int) - 1) = true := by
          rw [beq_iff_eq, hAA]
          rcases HA0.out with h | h
          · omega
          · exact h
        clear hAA h1
        go_wp2
        go_ret2
        exact ⟨rfl, rfl⟩

set_option maxHeartbeats 4000000 in
theorem rFD_long (s : ByteArray) (hsz : s.size ≤ 300) (R : Option Int) (hR : scanD (-1) 0 s.data.toList = R) (A0 : Int) (hR0 : R = some A0) (hA0 : ¬ A0 < 1) (hA1 : ¬ A0 = s.size - 1) (hl : 121 < s.size) (w : World) :
    Calls Tryz.prog 52 #[.string s] w fun e w' => e = .returned (.tuple #[.string ⟨#[]⟩, .int .i64 4]) ∧ w = w' := by
  have HR0 := Lib.hid hR0
  have HA0 := Lib.hid hA0
  have HA1 := Lib.hid hA1
  clear hR0 hA0 hA1
  have HST := Lib.hid (show scanD (-1) 0 (s.data.toList.drop 0) = R by simpa using hR)
  clear hR
  go_enter Tryz.func52, Tryz.ntmps52
  go_wp2
  go_loop [4, 5] (fun x y => ∃ (A : Int) (k : Nat), k ≤ s.size ∧ x = .int .i64 A ∧ y = .int .i64 k ∧ -1 ≤ A ∧ A ≤ k ∧ Hid (scanD A k (s.data.toList.drop k) = R)) (fun _ y => s.size - (intOf y).toNat)
  case atStart => exact ⟨-1, 0, Nat.zero_le _, rfl, rfl, by omega, by omega, HST⟩
  case round =>
    clear HST
    obtain ⟨A, k, hk, rfl, rfl, hA1, hA2, HK⟩ := hrel
    by_cases hlt : k < s.size
    · obtain ⟨x, hx⟩ : ∃ x : Nat, s[k].toNat = x := ⟨_, rfl⟩
      have hxx : (s[k].toNat : Int) = (x : Int) := by rw [hx]
      have HDG := Lib.hid (dig_iff hx)
      obtain ⟨g, hg⟩ : ∃ g, (decide (48 ≤ x) && decide (x ≤ 57)) = g := ⟨_, rfl⟩
      have HC := Lib.hid (fun w => rIsDigit_any x w g hg)
      rw [hg] at HDG
      by_cases hpt : x = 46 ∧ A < 0
      · have HE := Lib.hid (scan_point hlt (hx.trans hpt.1) hpt.2 HK.out)
        obtain ⟨rfl, hA0⟩ := hpt
        have hA3 : decide (A < 0) = true := decide_eq_true hA0
        clear hg hx HDG HC HK
        go_wp2
        go_round
        case rel => exact ⟨k, k + 1, by omega, rfl, by go_num, by omega, by omega, HE⟩
        case measure => simp [intOf]; omega
      · have HNP := Lib.hid (show ¬ (s[k].toNat = 46 ∧ A < 0) by rw [hx]; exact hpt)
        have hcase : (((x : Int) == 46) = false) ∨ (((x : Int) == 46) = true ∧ decide (A < 0) = false) := by
          by_cases h46 : x = 46
          · refine Or.inr ⟨by simp; omega, decide_eq_false (fun h => hpt ⟨h46, h⟩)⟩
          · exact Or.inl (by simp; omega)
        clear hpt hg hx
        cases g
        · have HE := Lib.hid (scan_bad hlt HNP.out HDG.out HK.out)
          clear HK HDG HNP
          exact absurd HE.out (by rw [HR0.out]; simp)
        · have HE := Lib.hid (scan_dig hlt HNP.out HDG.out HK.out)
          clear HK HDG HNP
          rcases hcase with h46 | ⟨h46, hA3⟩
          · go_wp2_with (go_at_call 111; refine (HC.out _).mono ?_; rintro e w' ⟨rfl, rfl⟩)
            go_round
            case rel => exact ⟨A, k + 1, by omega, rfl, by go_num, by omega, by omega, HE⟩
            case measure => simp [intOf]; omega
          · go_wp2_with (go_at_call 111; refine (HC.out _).mono ?_; rintro e w' ⟨rfl, rfl⟩)
            go_round
            case rel => exact ⟨A, k + 1, by omega, rfl, by go_num, by omega, by omega, HE⟩
            case measure => simp [intOf]; omega
    · have HE := Lib.hid (scan_end (by omega) HK.out)
      clear HK
      have hkn : k = s.size := by omega
      subst hkn
      have hAA : A = A0 := by have := HE.out; rw [HR0.out] at this; injection this with h; exact h.symm
      have d1 : decide (A < 1) = false := by rw [hAA]; exact decide_eq_false (by have := HA0.out; omega)
      have d2 : (A == (s.size : Int) - 1) = false := by rw [hAA, beq_eq_false_iff_ne]; exact HA1.out
      have d3 : decide ((120 : Int) < (s.size : Int) - 1) = true := by simp; omega
      clear hAA
      go_wp2
      go_ret2
      exact ⟨rfl, rfl⟩
end Go.Proofs.YtojgafkkgacpkaaGreatDoor

namespace Go.Proofs.YtojgafkkgacpkaaGreatDoor
open Go.RowKit
set_option maxRecDepth 100000

/-- The scale on its way: a power of ten in a block. -/
def ScB (w0 : World) (B C j : Nat) (w : World) : Prop := ∃ p c, BlockIs w C 74 #[.bool false, .slice p (ql (10 ^ j)) c] ∧ Mag w (.slice p (ql (10 ^ j)) c) (10 ^ j) ∧ Below B w0 w ∧ B ≤ C
theorem ql_ten {j : Nat} (h : j ≤ 1000) : ql (10 ^ j) < 1000 := by
  have h1 : ql (10 ^ j) ≤ j / 4 + 1 := ql_le (by
    rw [qw_ten]
    exact Nat.pow_lt_pow_right (by decide) (by omega))
  omega

set_option maxHeartbeats 8000000 in
theorem rFD_ok (s : ByteArray) (hsz : s.size ≤ 121) (R : Option Int) (hR : scanD (-1) 0 s.data.toList = R) (a : Nat) (hR0 : R = some (a : Int)) (hA0 : 0 < a) (hA1 : a + 1 < s.size) (x y z : ByteArray) (hx : s.extract 0 a = x) (hy : s.extract (a + 1) s.size = y) (hz : x ++ y = z) (z0 : 0 < z.size) (z1 : z.size < 1000) (z2 : ∀ b ∈ z.data.toList, isDig b = true) (N : Nat) (hN : numOf z.data.toList = N) (T : Nat) (hT : 10 ^ (s.size - (a + 1)) = T) (g : Nat) (hg : Nat.gcd N T = g) (res : ByteArray) (er : Int) (hres : finR false (N / g) (T / g) = (res, er)) (w : World) :
    Calls Tryz.prog 52 #[.string s] w fun e w' => e = .returned (.tuple #[.string res, .int .i64 er]) ∧ Below w.heap.size w w' := by
  have HR0 := Lib.hid hR0
  have HA0 := Lib.hid (And.intro hA0 hA1)
  obtain ⟨B, hB⟩ : ∃ B, w.heap.size = B := ⟨_, rfl⟩
  have HS1 := Lib.hid (fun W => rSmall_nat 1 (by decide) W)
  have qT : ql T < 1000 := by rw [← hT]; exact ql_ten (by omega)
  have T0 : 0 < T := by rw [← hT]; exact Nat.pow_pos (by decide)
  have qN : ql N < 1000 := by
    have h1 : N < 10 ^ z.data.toList.length := by rw [← hN]; exact numOf_lt z2
    have h2 : ql N ≤ z.data.toList.length / 4 + 1 := ql_le (Nat.lt_of_lt_of_le h1 (by rw [qw_ten]; exact Nat.pow_le_pow_right (by decide) (by omega)))
    have h3 : z.data.toList.length = z.size := by simp
    omega
  have HRD := Lib.hid (fun W => read_plain z z0 z2 (by omega) N hN false rfl W)
  have HL := Lib.hid (fun (va vb : Value) W (h1 : Mag W va N) (h2 : Mag W vb T) => rLowest_any false false N T va vb W h1 h2 (by omega) (by omega) T0 g hg false rfl false rfl)
  have HWR := Lib.hid (fun (vp vq : Value) W (h1 : Mag W vp (N / g)) (h2 : Mag W vq (T / g)) => (rWriteReal_any false (N / g) (T / g) vp vq W h1 h2 (Nat.lt_of_le_of_lt (ql_mono (Nat.div_le_self _ _)) (by omega)) (Nat.lt_of_le_of_lt (ql_mono (Nat.div_le_self _ _)) (by omega)) (by simp) res er hres).mono (R' := fun e w' => ∃ v, e = .returned v ∧ (v = .tuple #[.string res, .int .i64 er] ∧ Below W.heap.size W w')) fun _ _ h => ⟨_, h.1, rfl, h.2⟩)
  have HTT := Lib.hid hT
  have hzx : x.size + y.size < 1000 := by rw [← hz] at z1; simpa using z1
  have hal : a ≤ s.size := by omega
  have hal2 : a + 1 ≤ s.size := by omega
  clear hR0 hA0 hA1 z0 z1 z2 hN hT hg hres qT T0 qN
  have HST := Lib.hid (show scanD (-1) 0 (s.data.toList.drop 0) = R by simpa using hR)
  clear hR
  go_enter Tryz.func52, Tryz.ntmps52
  go_wp2
  go_loop [4, 5] (fun x y => ∃ (A : Int) (k : Nat), k ≤ s.size ∧ x = .int .i64 A ∧ y = .int .i64 k ∧ -1 ≤ A ∧ A ≤ k ∧ Hid (scanD A k (s.data.toList.drop k) = R)) (fun _ y => s.size - (intOf y).toNat)
  case atStart => exact ⟨-1, 0, Nat.zero_le _, rfl, rfl, by omega, by omega, HST⟩
  case round =>
    clear HST
    obtain ⟨A, k, hk, rfl, rfl, hA1, hA2, HK⟩ := hrel
    by_cases hlt : k < s.size
    · obtain ⟨x, hx⟩ : ∃ x : Nat, s[k].toNat = x := ⟨_, rfl⟩
      have hxx : (s[k].toNat : Int) = (x : Int) := by rw [hx]
      have HDG := Lib.hid (dig_iff hx)
      obtain ⟨g, hg⟩ : ∃ g, (decide (48 ≤ x) && decide (x ≤ 57)) = g := ⟨_, rfl⟩
      have HC := Lib.hid (fun w => rIsDigit_any x w g hg)
      rw [hg] at HDG
      by_cases hpt : x = 46 ∧ A < 0
      · have HE := Lib.hid (scan_point hlt (hx.trans hpt.1) hpt.2 HK.out)
        obtain ⟨rfl, hA0⟩ := hpt
        have hA3 : decide (A < 0) = true := decide_eq_true hA0
        clear hg hx HDG HC HK
        go_wp2
        go_round
        case rel => exact ⟨k, k + 1, by omega, rfl, by go_num, by omega, by omega, HE⟩
        case measure => simp [intOf]; omega
      · have HNP := Lib.hid (show ¬ (s[k].toNat = 46 ∧ A < 0) by rw [hx]; exact hpt)
        have hcase : (((x : Int) == 46) = false) ∨ (((x : Int) == 46) = true ∧ decide (A < 0) = false) := by
          by_cases h46 : x = 46
          · refine Or.inr ⟨by simp; omega, decide_eq_false (fun h => hpt ⟨h46, h⟩)⟩
          · exact Or.inl (by simp; omega)
        clear hpt hg hx
        cases g
        · have HE := Lib.hid (scan_bad hlt HNP.out HDG.out HK.out)
          clear HK HDG HNP
          exact absurd HE.out (by rw [HR0.out]; simp)
        · have HE := Lib.hid (scan_dig hlt HNP.out HDG.out HK.out)
          clear HK HDG HNP
          rcases hcase with h46 | ⟨h46, hA3⟩
          · go_wp2_with (go_at_call 111; refine (HC.out _).mono ?_; rintro e w' ⟨rfl, rfl⟩)
            go_round
            case rel => exact ⟨A, k + 1, by omega, rfl, by go_num, by omega, by omega, HE⟩
            case measure => simp [intOf]; omega
          · go_wp2_with (go_at_call 111; refine (HC.out _).mono ?_; rintro e w' ⟨rfl, rfl⟩)
            go_round
            case rel => exact ⟨A, k + 1, by omega, rfl, by go_num, by omega, by omega, HE⟩
            case measure => simp [intOf]; omega
    · have HE := Lib.hid (scan_end (by omega) HK.out)
      clear HK
      have hkn : k = s.size := by omega
      subst hkn
      have hAA : A = (a : Int) := by have := HE.out; rw [HR0.out] at this; injection this with h; exact h.symm
      subst hAA
      have d1 : decide ((a : Int) < 1) = false := decide_eq_false (by have := HA0.out.1; omega)
      have d2 : ((a : Int) == (s.size : Int) - 1) = false := by rw [beq_eq_false_iff_ne]; have := HA0.out.2; omega
      have d3 : decide ((120 : Int) < (s.size : Int) - 1) = false := by simp; omega
      clear HE
      go_wp2_with (go_at_call 68; refine (HS1.out _).mono ?_; rintro e w1 ⟨v1, rfl, p1, c1, rfl, hm1, hb1⟩; obtain ⟨C, hC⟩ : ∃ C, w1.heap.size = C := ⟨_, rfl⟩; obtain ⟨W2, hW2⟩ : ∃ W2, w1.alloc (.cells #[.bool false, .slice none 0 0] 74) = W2 := ⟨_, rfl⟩; have hbW : Below w1.heap.size w1 W2 := (by rw [← hW2]; exact (Below.refl _ _).alloc (Nat.le_refl _) _); have HC := Lib.hid (show BlockIs W2 C 74 #[.bool false, .slice none 0 0] ∧ Mag W2 (.slice p1 (ql 1) c1) 1 ∧ Below B w W2 ∧ B ≤ C from ⟨(by rw [← hW2, ← hC]; exact BlockIs.new _ _ _), hm1.below hbW, (by rw [← hB]; exact hb1.trans (hbW.mono hb1.size)), (by rw [← hC, ← hB]; exact hb1.size)⟩); clear hm1 hb1 hbW; have c0 := HC.out.1.at 0; have c1' := HC.out.1.at 1; have e0 := HC.out.1.thawed 0; have e1 := HC.out.1.thawed 1)
      have HB0 := Lib.hid (show ScB w B C (a + 1 - (a + 1)) ((W2.setCell ⟨C, 0, none⟩ (.bool false)).setCell ⟨C, 1, none⟩ (.slice p1 (ql 1) c1)) by
        refine ⟨p1, c1, ?_, ?_, (HC.out.2.2.1.setCell (p := ⟨C, 0, none⟩) HC.out.2.2.2 _).setCell (p := ⟨C, 1, none⟩) HC.out.2.2.2 _, HC.out.2.2.2⟩
        · rw [Nat.sub_self]; exact HC.out.1.two
        · rw [Nat.sub_self]; exact HC.out.2.1.two HC.out.1)
      go_loopw [7] (fun x wr => ∃ i : Nat, a + 1 ≤ i ∧ i ≤ s.size ∧ x = .int .i64 i ∧ Hid (ScB w B C (i - (a + 1)) wr)) (fun x _ => s.size - (intOf x).toNat)
      case atStart => exact ⟨a + 1, Nat.le_refl _, by have := HA0.out; omega, by go_num, HB0⟩
      case round =>
        clear HB0 HC c0 c1' e0 e1 hW2 hC
        obtain ⟨i, hi1, hi2, rfl, HB⟩ := hrel
        by_cases hlt2 : i < s.size
        · clear HRD HWR HL
          obtain ⟨p, c, hb, hm, hbl, hBC⟩ := HB.out
          clear HB
          obtain ⟨M, hM⟩ : ∃ M, 10 ^ (i - (a + 1)) = M := ⟨_, rfl⟩
          have HM10 := Lib.hid (show M * 10 = 10 ^ (i + 1 - (a + 1)) by rw [← hM, ← Nat.pow_succ]; congr 1; omega)
          have hqm : ql M < 1000 := by rw [← hM]; exact ql_ten (by omega)
          rw [hM] at hb hm
          clear hM
          have HT := Lib.hid (fun (v u : Value) W (h1 : Mag W v M) (h2 : Mag W u 10) => rTimes_any false false M 10 v u W h1 h2 (by omega) (by have : ql 10 = 1 := ql_small (by decide) (by decide); omega) (M * 10) rfl false rfl)
          clear hqm
          have HW := Lib.hid (show BlockIs wr C 74 #[.bool false, .slice p (ql M) c] ∧ Mag wr (.slice p (ql M) c) M ∧ Below B w wr ∧ B ≤ C from ⟨hb, hm, hbl, hBC⟩)
          clear hb hm hbl hBC
          go_wp2
          obtain ⟨wd, hwd⟩ : ∃ wd, wr.drew = wd := ⟨_, rfl⟩
          have HE := Lib.hid (show BlockIs wd C 74 #[.bool false, .slice p (ql M) c] ∧ Mag wd (.slice p (ql M) c) M ∧ Below B w wd ∧ B ≤ C by rw [← hwd]; exact ⟨HW.out.1.drew, HW.out.2.1.drew, HW.out.2.2.1.drew, HW.out.2.2.2⟩)
          refine AnyTill.region (T := Till 2 3 (fun w' => BlockIs w' C 74 #[.bool false, .slice p (ql M) c]) (fun _ => True)) (by kernel_rfl) ?_
          rw [hwd]
          clear hwd HW
          refine AnyTill.take1 (i := 0) rfl rfl (by kernel_rfl) (by omega) (by omega) (by kernel_rfl) (by kernel_rfl) (by kernel_rfl) (by kernel_rfl) (fun _ _ _ h => h) (yB_load rfl (.tmp 6) rfl C rfl (fun w' h => h)) HE.out.1 trivial ?_
          try simp only [A1, A2, A3, Act.put, A4, A5, A6]
          refine AnyTill.ready (i := 1) (by kernel_rfl) rfl (fun K hK => ?_)
          rw [if_pos (by rfl)]
          refine wp_callE 68 _ _ rfl _ (by kernel_rfl) (by kernel_rfl) (R := BigR wd false 10) (rSmall_nat 10 (by decide) wd) (fun v1 w1 hR1 => ?_)
          obtain ⟨p1, k1, rfl, hm1, hb1⟩ := hR1
          have HF := Lib.hid (show BlockIs w1 C 74 #[.bool false, .slice p (ql M) c] ∧ Mag w1 (.slice p (ql M) c) M ∧ Below B w w1 ∧ B ≤ C from ⟨HE.out.1.below hb1 HE.out.1.lt, HE.out.2.1.below hb1, HE.out.2.2.1.trans (hb1.mono (by have := HE.out.1.lt; have := HE.out.2.2.2; omega)), HE.out.2.2.2⟩)
          refine hK.out _ _ ⟨fun _ => HF.out.1, fun _ => trivial⟩ ?_
          clear hK K
          try simp only [A1, A2, A3, Act.put, A4, A5, A6]
          refine AnyTill.ready (i := 2) (by kernel_rfl) rfl (fun K hK => ?_)
          rw [if_pos (by rfl)]
          refine wp_callE 85 _ _ rfl _ (by kernel_rfl) (by kernel_rfl) (R := BigR w1 false (M * 10)) (HT.out _ _ _ HF.out.2.1 hm1) (fun v2 w2 hR2 => ?_)
          obtain ⟨p2, k2, rfl, hm2, hb2⟩ := hR2
          have HG := Lib.hid (show BlockIs w2 C 74 #[.bool false, .slice p (ql M) c] ∧ Below B w w2 ∧ B ≤ C from ⟨HF.out.1.below hb2 HF.out.1.lt, HF.out.2.2.1.trans (hb2.mono (by have := HF.out.1.lt; have := HF.out.2.2.2; omega)), HF.out.2.2.2⟩)
          refine hK.out _ _ ⟨fun h => absurd h (by decide), fun _ => trivial⟩ ?_
          clear hK K
          try simp only [A1, A2, A3, Act.put, A4, A5, A6]
          refine AnyTill.ready (i := 3) (by kernel_rfl) rfl (fun K hK => ?_)
          rw [if_pos (by rfl)]
          refine wpBig_store1 (.tmp 6) (.tmp 52) rfl C rfl rfl HG.out.1 ?_
          have HN := Lib.hid (show ScB w B C (i + 1 - (a + 1)) (w2.setRow C #[.bool false, .slice p2 (ql (M * 10)) k2]) by refine ⟨p2, k2, ?_, ?_, below_setRow2 HG.out.2.1 _ HG.out.2.2, HG.out.2.2⟩; (rw [← HM10.out]; exact HG.out.1.row2 _); (rw [← HM10.out]; exact hm2.row HG.out.1))
          refine hK.out _ _ ⟨fun h => absurd h (by decide), fun h => absurd h (by decide)⟩ ?_
          clear hK K
          refine AnyTill.done (by kernel_rfl) ?_ _
          obtain ⟨w3, hw3⟩ : ∃ w3, w2.setRow C #[.bool false, .slice p2 (ql (M * 10)) k2] = w3 := ⟨_, rfl⟩
          rw [hw3] at HN ⊢
          clear hw3 HE HF HG hm1 hm2 hb1 hb2
          go_wp2
          go_roundw
          case rel => exact ⟨i + 1, by omega, by omega, by go_num, HN⟩
          case measure => simp [intOf]; omega
        · have hin : i = s.size := by omega
          subst hin
          obtain ⟨p, c, hb, hm, hbl, hBC⟩ := HB.out
          clear HB
          rw [HTT.out] at hb hm
          go_wp2
          have hT0 : (fun w' => BlockIs w' C 74 #[.bool false, .slice p (ql T) c] ∧ Mag w' (.slice p (ql T) c) T ∧ Below B w w' ∧ B ≤ C) wr.drew := ⟨hb.drew, hm.drew, hbl.drew, hBC⟩
          refine wp_region_held_drew (S := (fun w' => BlockIs w' C 74 #[.bool false, .slice p (ql T) c] ∧ Mag w' (.slice p (ql T) c) T ∧ Below B w w' ∧ B ≤ C)) (by kernel_rfl) hT0 (fun hS => ?_)
          obtain ⟨wd, hwd⟩ : ∃ wd, wr.drew = wd := ⟨_, rfl⟩
          rw [hwd] at hS hT0 ⊢
          clear hwd hT0 hb hm hbl hBC
          refine wpAnyH_take (i := 0) rfl (by kernel_rfl) (by kernel_rfl) (by kernel_rfl) (fun _ _ _ h => h) (Or.inl ⟨by rfl, fun w' _ => by rfl⟩) hS ?_
          try simp only [A1, A2, A3, Act.put, A4, A5, A6]
          refine wpAnyH_take (i := 1) rfl (by kernel_rfl) (by kernel_rfl) (by kernel_rfl) (fun _ _ _ h => h) (Or.inl ⟨by rfl, fun w' _ => by rfl⟩) hS ?_
          try simp only [A1, A2, A3, Act.put, A4, A5, A6]
          refine wpAnyH_take (i := 2) (v := .string x) rfl (by kernel_rfl) (by kernel_rfl) (by kernel_rfl) (fun _ _ _ h => h) (Or.inl ⟨by rfl, fun w' _ => by go_simp⟩) hS ?_
          try simp only [A1, A2, A3, Act.put, A4, A5, A6]
          refine wpAnyH_take (i := 3) rfl (by kernel_rfl) (by kernel_rfl) (by kernel_rfl) (fun _ _ _ h => h) (Or.inl ⟨by rfl, fun w' _ => by rfl⟩) hS ?_
          try simp only [A1, A2, A3, Act.put, A4, A5, A6]
          refine wpAnyH_take (i := 4) rfl (by kernel_rfl) (by kernel_rfl) (by kernel_rfl) (fun _ _ _ h => h) (Or.inl ⟨by rfl, fun w' _ => by rfl⟩) hS ?_
          try simp only [A1, A2, A3, Act.put, A4, A5, A6]
          refine wpAnyH_take (i := 5) (v := .int .i64 ((a : Int) + 1)) rfl (by kernel_rfl) (by kernel_rfl) (by kernel_rfl) (fun _ _ _ h => h) (Or.inl ⟨by rfl, fun w' _ => by go_simp; exact IntWalk.i64_in _ (by omega)⟩) hS ?_
          try simp only [A1, A2, A3, Act.put, A4, A5, A6]
          refine wpAnyH_take (i := 6) (v := .string y) rfl (by kernel_rfl) (by kernel_rfl) (by kernel_rfl) (fun _ _ _ h => h) (Or.inl ⟨by rfl, fun w' _ => by go_simp; first | done | (intro h; exact absurd (h (by omega)) (by omega))⟩) hS ?_
          try simp only [A1, A2, A3, Act.put, A4, A5, A6]
          refine wpAnyH_take (i := 7) (v := .string z) rfl (by kernel_rfl) (by kernel_rfl) (by kernel_rfl) (fun _ _ _ h => h) (Or.inl ⟨by rfl, fun w' _ => by go_simp; omega⟩) hS ?_
          try simp only [A1, A2, A3, Act.put, A4, A5, A6]
          refine wpAnyH_take (i := 9) rfl (by kernel_rfl) (by kernel_rfl) (by kernel_rfl) (fun _ _ _ h => h) (yB_load rfl (.tmp 6) rfl C rfl (fun w' h => h.1)) hS ?_
          try simp only [A1, A2, A3, Act.put, A4, A5, A6]
          refine wpAnyH_ready (rs := [8]) (by kernel_rfl) (by simp) (AllReadyH.cons rfl (fun K hK => ?_) AllReadyH.nil)
          rw [if_pos (by rfl)]
          refine wp_callE 73 _ _ rfl _ (by kernel_rfl) (by kernel_rfl) (R := BigR wd false N) (HRD.out _) (fun v1 w1 hR1 => ?_)
          obtain ⟨p1, k1, rfl, hm1, hb1⟩ := hR1
          have hT := (show (fun w' => BlockIs w' C 74 #[.bool false, .slice p (ql T) c] ∧ Mag w' (.slice p (ql T) c) T ∧ Below B w w' ∧ B ≤ C) w1 from ⟨hS.1.below hb1 hS.1.lt, hS.2.1.below hb1, hS.2.2.1.trans (hb1.mono (by have := hS.1.lt; have := hS.2.2.2; omega)), hS.2.2.2⟩)
          clear hS
          refine hK.out _ _ hT (fun hS => ?_)
          clear hK K hT
          try simp only [A1, A2, A3, Act.put, A4, A5, A6]
          refine wpAnyH_ready (rs := [10]) (by kernel_rfl) (by simp) (AllReadyH.cons rfl (fun K hK => ?_) AllReadyH.nil)
          rw [if_pos (by rfl)]
          refine wp_callE 109 _ _ rfl _ (by kernel_rfl) (by kernel_rfl) (R := FrR w1 false (N / g) false (T / g)) (HL.out _ _ _ hm1 hS.2.1) (fun v2 w2 hR2 => ?_)
          obtain ⟨p2, k2, p3, k3, rfl, hm2, hn2, hb2⟩ := hR2
          have hT := (show (fun w' => BlockIs w' C 74 #[.bool false, .slice p (ql T) c] ∧ Mag w' (.slice p (ql T) c) T ∧ Below B w w' ∧ B ≤ C) w2 from ⟨hS.1.below hb2 hS.1.lt, hS.2.1.below hb2, hS.2.2.1.trans (hb2.mono (by have := hS.1.lt; have := hS.2.2.2; omega)), hS.2.2.2⟩)
          clear hS
          refine hK.out _ _ hT (fun hS => ?_)
          clear hK K hT
          try simp only [A1, A2, A3, Act.put, A4, A5, A6]
          refine wpAnyH_ready (rs := [11]) (by kernel_rfl) (by simp) (AllReadyH.cons rfl (fun K hK => ?_) AllReadyH.nil)
          rw [if_pos (by rfl)]
          refine wp_callE 96 _ _ rfl _ (by kernel_rfl) (by kernel_rfl) (R := fun v w' => v = .tuple #[.string res, .int .i64 er] ∧ Below w2.heap.size w2 w') (HWR.out _ _ _ hm2 hn2) (fun v3 w3 hR3 => ?_)
          obtain ⟨rfl, hb3⟩ := hR3
          have hT := (show (fun w' => BlockIs w' C 74 #[.bool false, .slice p (ql T) c] ∧ Mag w' (.slice p (ql T) c) T ∧ Below B w w' ∧ B ≤ C) w3 from ⟨hS.1.below hb3 hS.1.lt, hS.2.1.below hb3, hS.2.2.1.trans (hb3.mono (by have := hS.1.lt; have := hS.2.2.2; omega)), hS.2.2.2⟩)
          clear hS
          refine hK.out _ _ hT (fun hS => ?_)
          clear hK K hT
          try simp only [A1, A2, A3, Act.put, A4, A5, A6]
          refine wpAnyH_take (i := 12) rfl (by kernel_rfl) (by kernel_rfl) (by kernel_rfl) (fun _ _ _ h => h) (Or.inl ⟨by rfl, fun w' _ => by rfl⟩) hS ?_
          try simp only [A1, A2, A3, Act.put, A4, A5, A6]
          refine wpAnyH_take (i := 13) rfl (by kernel_rfl) (by kernel_rfl) (by kernel_rfl) (fun _ _ _ h => h) (Or.inl ⟨by rfl, fun w' _ => by rfl⟩) hS ?_
          try simp only [A1, A2, A3, Act.put, A4, A5, A6]
          refine wpAnyH_take (i := 14) rfl (by kernel_rfl) (by kernel_rfl) (by kernel_rfl) (fun _ _ _ h => h) (Or.inl ⟨by rfl, fun w' _ => by rfl⟩) hS ?_
          try simp only [A1, A2, A3, Act.put, A4, A5, A6]
          refine wpAnyH_take (i := 15) rfl (by kernel_rfl) (by kernel_rfl) (by kernel_rfl) (fun _ _ _ h => h) (Or.inl ⟨by rfl, fun w' _ => by rfl⟩) hS ?_
          try simp only [A1, A2, A3, Act.put, A4, A5, A6]
          refine wpAnyH_done (by kernel_rfl) ?_ _
          go_wp2
          go_ret2
          exact ⟨rfl, by rw [hB]; exact hS.2.2.1⟩
end Go.Proofs.YtojgafkkgacpkaaGreatDoor
