/- The reference: form, Check. -/
import Derived.Test.YtjemolaobhlapaaGreatDoorN46
import Derived.Test.YtjemolaobhlapaaGreatDoorRP
import Derived.Test.YtjemolaobhlapaaGreatDoorRE
import Derived.Test.YtjemolaobhlapaaGreatDoorN18
set_option linter.unusedSimpArgs false
set_option linter.unusedVariables false
namespace Go.Proofs.YtjemolaobhlapaaGreatDoor
open Go.RowKit
set_option maxRecDepth 100000

/-- Whether a string is an integer, whatever its length. -/
def formS (l : List UInt8) : Bool := allD (Lib.trimPrefix l [45]) && !(decide (1 < (Lib.trimPrefix l [45]).length) && decide ((Lib.trimPrefix l [45]).head? = some 48)) && !decide (l = [45, 48])
theorem checkS_form (l : List UInt8) : checkS l = if formS l = true then (if 120 < (Lib.trimPrefix l [45]).length then 4 else 0) else 1 := by
  unfold checkS formS
  by_cases h1 : allD (Lib.trimPrefix l [45]) = false
  · rw [if_pos (Or.inl h1), h1, if_neg (by simp)]
  · have h1' : allD (Lib.trimPrefix l [45]) = true := by simpa using h1
    by_cases h2 : 1 < (Lib.trimPrefix l [45]).length ∧ (Lib.trimPrefix l [45]).head? = some 48
    · rw [if_pos (Or.inr (Or.inl h2)), if_neg (by simp [h2.1, h2.2])]
    · by_cases h3 : l = [45, 48]
      · rw [if_pos (Or.inr (Or.inr h3)), if_neg (by simp [h3])]
      · have this : (decide (1 < (Lib.trimPrefix l [45]).length) && decide ((Lib.trimPrefix l [45]).head? = some 48)) = false := by
          rw [Bool.and_eq_false_iff]
          by_cases h4 : 1 < (Lib.trimPrefix l [45]).length
          · exact Or.inr (decide_eq_false fun h5 => h2 ⟨h4, h5⟩)
          · exact Or.inl (decide_eq_false h4)
        have hf : (allD (Lib.trimPrefix l [45]) && !(decide (1 < (Lib.trimPrefix l [45]).length) && decide ((Lib.trimPrefix l [45]).head? = some 48)) && !decide (l = [45, 48])) = true := by
          rw [h1', decide_eq_false h3, this]
          rfl
        rw [if_neg (by rintro (h | h | h); exact h1 h; exact h2 h; exact h3 h), if_pos hf]
 theorem head_byte {d : ByteArray} (h : 0 < d.size) : d.data.toList.head? = some d[0] := head_at h
theorem trim_minus {s : ByteArray} (h : 0 < s.size) (hc : s[0].toNat = 45) : Lib.trimPrefix s.data.toList [45] = (s.extract 1 s.size).data.toList := by
  have h1 := drop_cons s 0 h
  rw [List.drop_zero] at h1
  have h2 : s[0] = 45 := UInt8.toNat_inj.1 (by rw [hc]; rfl)
  rw [Lib.extract_to_end, h1, h2]
  simp [Lib.trimPrefix, Lib.hasPrefix]
theorem trim_none {s : ByteArray} (h : 0 < s.size) (hc : s[0].toNat ≠ 45) : Lib.trimPrefix s.data.toList [45] = s.data.toList := by
  have h1 := drop_cons s 0 h
  rw [List.drop_zero] at h1
  have h2 : s[0] ≠ 45 := fun h => hc (by rw [h]; rfl)
  rw [h1]
  unfold Lib.trimPrefix
  rw [if_neg]
  intro h3
  apply h2
  have h4 : (45 : UInt8) = s[0] := by simpa [Lib.hasPrefix] using h3
  exact h4.symm
theorem eq_bytes {s : ByteArray} {l : List UInt8} (h : s.data.toList = l) : s = ⟨l.toArray⟩ := by
  have h5 : s = ⟨s.data⟩ := rfl
  rw [h5, show s.data = l.toArray from by rw [← Array.toList_inj]; simpa using h]
theorem not_minus {s d : ByteArray} (h : 0 < s.size) (hc : s[0].toNat = 45) (hd : (s.extract 1 s.size).data.toList = d.data.toList) : (s.data.toList = [45, 48]) ↔ d.data.toList = [48] := by
  have h1 := drop_cons s 0 h
  rw [List.drop_zero] at h1
  have h2 : s[0] = 45 := UInt8.toNat_inj.1 (by rw [hc]; rfl)
  rw [← hd, Lib.extract_to_end, h1, h2]
  simp


set_option maxHeartbeats 2000000 in
theorem form_minus (s : ByteArray) (w : World) (hsz : s.size < 1000000000) (h0 : 0 < s.size) (hc : s[0].toNat = 45) (b : Bool) (hb : formS s.data.toList = b) :
    Calls Tryz.prog 64 #[.string s] w fun e w' => e = .returned (.bool b) ∧ w = w' := by
  have ht := trim_minus h0 hc
  unfold formS at hb
  rw [ht] at hb
  have hx : (s.extract 1 s.size).size = s.size - 1 := by simp
  have hn := fun (d : ByteArray) (h : (s.extract 1 s.size).data.toList = d.data.toList) => not_minus h0 hc h
  obtain ⟨d, hd⟩ : ∃ d, s.extract 1 s.size = d := ⟨_, rfl⟩
  rw [hd] at hb hx hn
  have hn2 := hn d rfl
  have hcc : (s[0].toNat : Int) = 45 := by rw [hc]; rfl
  have hls : (d.data.toList).length = d.size := (Lib.size_eq d).symm
  rw [hls] at hb
  have hszd : d.size < 1000000000 := by omega
  clear hn ht hc hx
  by_cases hz : 0 < d.size
  · obtain ⟨c, hcd⟩ : ∃ c : Nat, d[0].toNat = c := ⟨_, rfl⟩
    have he := empty_f hz
    have hh := head_byte hz
    have hd0 : ((d.size : Int) == 0) = false := by rw [beq_eq_false_iff_ne]; omega
    have HST := Lib.hid (all_start hz)
    have hcx : (d[0].toNat : Int) = (c : Int) := by rw [hcd]
    have hh48 : (d.data.toList.head? = some 48) ↔ c = 48 := by
      rw [hh]
      constructor
      · intro h
        have : d[0] = 48 := by simpa using h
        rw [this] at hcd
        exact hcd.symm
      · intro h
        have : d[0] = 48 := UInt8.toNat_inj.1 (by rw [hcd, h]; rfl)
        rw [this]
    clear hh
    by_cases h48 : d.data.toList = [48]
    · have hs0 : (s.toList == [45, 48]) = true := by rw [Lib.toList_data]; simpa using hn2.2 h48
      have HB := Lib.hid (show b = false by rw [← hb, decide_eq_true (hn2.2 h48)]; simp)
      clear hb hn2 hh48 hls
      go_enter Tryz.func64, Tryz.ntmps64
      go_wp2
      go_ret
      exact ⟨rret_bool HB.out.symm, rfl⟩
    · have hs0 : (s.toList == [45, 48]) = false := by rw [Lib.toList_data]; have h : ¬ s.data.toList = [45, 48] := fun h => h48 (hn2.1 h); simpa using h
      rw [decide_eq_false (fun h => h48 (hn2.1 h))] at hb
      clear hn2 h48
      by_cases h1 : 1 < d.size ∧ c = 48
      · have HB := Lib.hid (show b = false by rw [← hb, decide_eq_true h1.1, decide_eq_true (hh48.2 h1.2)]; simp)
        have hcx2 : (d[0].toNat : Int) = 48 := by rw [hcd, h1.2]; rfl
        replace h1 := h1.1
        clear hcx hcd
        clear hb hh48 hls
        go_enter Tryz.func64, Tryz.ntmps64
        go_wp2
        go_ret
        exact ⟨rret_bool HB.out.symm, rfl⟩
      · have HB := Lib.hid (show (allD d.data.toList && true) = b by
          rw [← hb]
          by_cases h2 : 1 < d.size
          · rw [decide_eq_false (fun h => h1 ⟨h2, hh48.1 h⟩)]; simp
          · rw [decide_eq_false h2]; simp)
        clear hb hh48 hls
        rcases (show ¬ 1 < d.size ∨ (1 < d.size ∧ ¬ c = 48) by omega) with h2 | ⟨h2, h3⟩
        · clear h1
          go_enter Tryz.func64, Tryz.ntmps64
          go_wp2
          go_loop [4] (fun x => ∃ k : Nat, k ≤ d.size ∧ x = .int .i64 k ∧ Hid (allD d.data.toList = (d.data.toList.drop k).all isDig)) (fun x => d.size - (intOf x).toNat)
          case atStart => exact ⟨0, Nat.zero_le _, rfl, HST⟩
          case round =>
            obtain ⟨k, hk, rfl, HK⟩ := hrel
            by_cases hlt : k < d.size
            · obtain ⟨x, hx⟩ : ∃ x : Nat, d[k].toNat = x := ⟨_, rfl⟩
              have hxx : (d[k].toNat : Int) = (x : Int) := by rw [hx]
              have HDG := Lib.hid (dig_iff hx)
              obtain ⟨g, hg⟩ : ∃ g, (decide (48 ≤ x) && decide (x ≤ 57)) = g := ⟨_, rfl⟩
              have HC := Lib.hid (fun w => rIsDigit_any x w g hg)
              rw [hg] at HDG
              clear hg hx
              cases g
              · have HE := Lib.hid (all_no hlt HDG.out HK.out)
                go_wp2_with (go_at_call 111; refine (HC.out _).mono ?_; rintro e w' ⟨rfl, rfl⟩)
                go_ret
                exact ⟨rret_bool (by rw [← HB.out, HE.out]; rfl), rfl⟩
              · have HE := Lib.hid (all_go hlt HDG.out HK.out)
                go_wp2_with (go_at_call 111; refine (HC.out _).mono ?_; rintro e w' ⟨rfl, rfl⟩)
                go_round
                case rel => exact ⟨k + 1, by omega, by go_num, HE⟩
                case measure => simp [intOf]; omega
            · have HE := Lib.hid (all_end (by omega) HK.out)
              go_wp2
              go_ret
              exact ⟨rret_bool (by rw [← HB.out, HE.out]; rfl), rfl⟩
        · clear h1
          have h4 : ((c : Int) == 48) = false := by simp; omega
          go_enter Tryz.func64, Tryz.ntmps64
          go_wp2
          go_loop [4] (fun x => ∃ k : Nat, k ≤ d.size ∧ x = .int .i64 k ∧ Hid (allD d.data.toList = (d.data.toList.drop k).all isDig)) (fun x => d.size - (intOf x).toNat)
          case atStart => exact ⟨0, Nat.zero_le _, rfl, HST⟩
          case round =>
            obtain ⟨k, hk, rfl, HK⟩ := hrel
            by_cases hlt : k < d.size
            · obtain ⟨x, hx⟩ : ∃ x : Nat, d[k].toNat = x := ⟨_, rfl⟩
              have hxx : (d[k].toNat : Int) = (x : Int) := by rw [hx]
              have HDG := Lib.hid (dig_iff hx)
              obtain ⟨g, hg⟩ : ∃ g, (decide (48 ≤ x) && decide (x ≤ 57)) = g := ⟨_, rfl⟩
              have HC := Lib.hid (fun w => rIsDigit_any x w g hg)
              rw [hg] at HDG
              clear hg hx
              cases g
              · have HE := Lib.hid (all_no hlt HDG.out HK.out)
                go_wp2_with (go_at_call 111; refine (HC.out _).mono ?_; rintro e w' ⟨rfl, rfl⟩)
                go_ret
                exact ⟨rret_bool (by rw [← HB.out, HE.out]; rfl), rfl⟩
              · have HE := Lib.hid (all_go hlt HDG.out HK.out)
                go_wp2_with (go_at_call 111; refine (HC.out _).mono ?_; rintro e w' ⟨rfl, rfl⟩)
                go_round
                case rel => exact ⟨k + 1, by omega, by go_num, HE⟩
                case measure => simp [intOf]; omega
            · have HE := Lib.hid (all_end (by omega) HK.out)
              go_wp2
              go_ret
              exact ⟨rret_bool (by rw [← HB.out, HE.out]; rfl), rfl⟩
  · have he := empty_t hz
    have hd0 : ((d.size : Int) == 0) = true := by rw [beq_iff_eq]; omega
    have HB := Lib.hid (show b = false by rw [← hb, nil_t hz]; rfl)
    clear hb hn2 hls
    go_enter Tryz.func64, Tryz.ntmps64
    go_wp2
    go_ret
    exact ⟨rret_bool HB.out.symm, rfl⟩

set_option maxHeartbeats 2000000 in
theorem form_plain (d : ByteArray) (w : World) (hsz : d.size < 1000000000) (hz : 0 < d.size) (c : Nat) (hcd : d[0].toNat = c) (hc : c ≠ 45) (b : Bool) (hb : formS d.data.toList = b) :
    Calls Tryz.prog 64 #[.string d] w fun e w' => e = .returned (.bool b) ∧ w = w' := by
  have ht := trim_none hz (by rw [hcd]; exact hc)
  unfold formS at hb
  rw [ht] at hb
  have hls : (d.data.toList).length = d.size := (Lib.size_eq d).symm
  have hn2 : ¬ d.data.toList = [45, 48] := by
    intro h
    have h1 := drop_cons d 0 hz
    rw [List.drop_zero, h] at h1
    have h2 : d[0] = 45 := by simp at h1; exact h1.symm
    rw [h2] at hcd
    exact hc hcd.symm
  have hn3 : (d.toList == [45, 48]) = false := by rw [Lib.toList_data]; simpa using hn2
  rw [hls, decide_eq_false hn2] at hb
  clear ht hn2
  have he := empty_f hz
  have hh := head_byte hz
  have hd0 : ((d.size : Int) == 0) = false := by rw [beq_eq_false_iff_ne]; omega
  have HST := Lib.hid (all_start hz)
  have hcx : (d[0].toNat : Int) = (c : Int) := by rw [hcd]
  have hh48 : (d.data.toList.head? = some 48) ↔ c = 48 := by
    rw [hh]
    constructor
    · intro h
      have : d[0] = 48 := by simpa using h
      rw [this] at hcd
      exact hcd.symm
    · intro h
      have : d[0] = 48 := UInt8.toNat_inj.1 (by rw [hcd, h]; rfl)
      rw [this]
  clear hh
  by_cases h1 : 1 < d.size ∧ c = 48
  · have HB := Lib.hid (show b = false by rw [← hb, decide_eq_true h1.1, decide_eq_true (hh48.2 h1.2)]; simp)
    have hcx2 : (d[0].toNat : Int) = 48 := by rw [hcd, h1.2]; rfl
    replace h1 := h1.1
    clear hcx hcd
    clear hb hh48 hls
    go_enter Tryz.func64, Tryz.ntmps64
    go_wp2
    go_ret
    exact ⟨rret_bool HB.out.symm, rfl⟩
  · have HB := Lib.hid (show (allD d.data.toList && true) = b by
      rw [← hb]
      by_cases h2 : 1 < d.size
      · rw [decide_eq_false (fun h => h1 ⟨h2, hh48.1 h⟩)]; simp
      · rw [decide_eq_false h2]; simp)
    clear hb hh48 hls
    rcases (show ¬ 1 < d.size ∨ (1 < d.size ∧ ¬ c = 48) by omega) with h2 | ⟨h2, h3⟩
    · clear h1
      go_enter Tryz.func64, Tryz.ntmps64
      go_wp2
      go_loop [4] (fun x => ∃ k : Nat, k ≤ d.size ∧ x = .int .i64 k ∧ Hid (allD d.data.toList = (d.data.toList.drop k).all isDig)) (fun x => d.size - (intOf x).toNat)
      case atStart => exact ⟨0, Nat.zero_le _, rfl, HST⟩
      case round =>
        obtain ⟨k, hk, rfl, HK⟩ := hrel
        by_cases hlt : k < d.size
        · obtain ⟨x, hx⟩ : ∃ x : Nat, d[k].toNat = x := ⟨_, rfl⟩
          have hxx : (d[k].toNat : Int) = (x : Int) := by rw [hx]
          have HDG := Lib.hid (dig_iff hx)
          obtain ⟨g, hg⟩ : ∃ g, (decide (48 ≤ x) && decide (x ≤ 57)) = g := ⟨_, rfl⟩
          have HC := Lib.hid (fun w => rIsDigit_any x w g hg)
          rw [hg] at HDG
          clear hg hx
          cases g
          · have HE := Lib.hid (all_no hlt HDG.out HK.out)
            go_wp2_with (go_at_call 111; refine (HC.out _).mono ?_; rintro e w' ⟨rfl, rfl⟩)
            go_ret
            exact ⟨rret_bool (by rw [← HB.out, HE.out]; rfl), rfl⟩
          · have HE := Lib.hid (all_go hlt HDG.out HK.out)
            go_wp2_with (go_at_call 111; refine (HC.out _).mono ?_; rintro e w' ⟨rfl, rfl⟩)
            go_round
            case rel => exact ⟨k + 1, by omega, by go_num, HE⟩
            case measure => simp [intOf]; omega
        · have HE := Lib.hid (all_end (by omega) HK.out)
          go_wp2
          go_ret
          exact ⟨rret_bool (by rw [← HB.out, HE.out]; rfl), rfl⟩
    · clear h1
      have h4 : ((c : Int) == 48) = false := by simp; omega
      go_enter Tryz.func64, Tryz.ntmps64
      go_wp2
      go_loop [4] (fun x => ∃ k : Nat, k ≤ d.size ∧ x = .int .i64 k ∧ Hid (allD d.data.toList = (d.data.toList.drop k).all isDig)) (fun x => d.size - (intOf x).toNat)
      case atStart => exact ⟨0, Nat.zero_le _, rfl, HST⟩
      case round =>
        obtain ⟨k, hk, rfl, HK⟩ := hrel
        by_cases hlt : k < d.size
        · obtain ⟨x, hx⟩ : ∃ x : Nat, d[k].toNat = x := ⟨_, rfl⟩
          have hxx : (d[k].toNat : Int) = (x : Int) := by rw [hx]
          have HDG := Lib.hid (dig_iff hx)
          obtain ⟨g, hg⟩ : ∃ g, (decide (48 ≤ x) && decide (x ≤ 57)) = g := ⟨_, rfl⟩
          have HC := Lib.hid (fun w => rIsDigit_any x w g hg)
          rw [hg] at HDG
          clear hg hx
          cases g
          · have HE := Lib.hid (all_no hlt HDG.out HK.out)
            go_wp2_with (go_at_call 111; refine (HC.out _).mono ?_; rintro e w' ⟨rfl, rfl⟩)
            go_ret
            exact ⟨rret_bool (by rw [← HB.out, HE.out]; rfl), rfl⟩
          · have HE := Lib.hid (all_go hlt HDG.out HK.out)
            go_wp2_with (go_at_call 111; refine (HC.out _).mono ?_; rintro e w' ⟨rfl, rfl⟩)
            go_round
            case rel => exact ⟨k + 1, by omega, by go_num, HE⟩
            case measure => simp [intOf]; omega
        · have HE := Lib.hid (all_end (by omega) HK.out)
          go_wp2
          go_ret
          exact ⟨rret_bool (by rw [← HB.out, HE.out]; rfl), rfl⟩

set_option maxHeartbeats 2000000 in
theorem form_empty (s : ByteArray) (w : World) (h0 : ¬ 0 < s.size) :
    Calls Tryz.prog 64 #[.string s] w fun e w' => e = .returned (.bool false) ∧ w = w' := by
  have he := empty_t h0
  have hd0 : ((s.size : Int) == 0) = true := by rw [beq_iff_eq]; omega
  go_enter Tryz.func64, Tryz.ntmps64
  go_wp2
  go_ret
  exact ⟨rfl, rfl⟩
theorem form_any (s : ByteArray) (hsz : s.size < 1000000000) (w : World) (b : Bool) (hb : formS s.data.toList = b) :
    Calls Tryz.prog 64 #[.string s] w fun e w' => e = .returned (.bool b) ∧ w = w' := by
  by_cases h0 : 0 < s.size
  · by_cases hc : s[0].toNat = 45
    · exact form_minus s w hsz h0 hc b hb
    · exact form_plain s w hsz h0 _ rfl hc b hb
  · have : b = false := by rw [← hb, nil_t h0]; rfl
    subst this
    exact form_empty s w h0

theorem if_cast (k : Nat) : (if decide ((120 : Int) < (k : Int)) = true then (4 : Int) else 0) = if 120 < k then 4 else 0 := by
  by_cases h : 120 < k
  · rw [if_pos h, if_pos (by simp; omega)]
  · rw [if_neg h, if_neg (by simp; omega)]
theorem form_pos {l : List UInt8} (h : formS l = true) : l ≠ [] := by
  rintro rfl
  exact absurd h (by decide)

set_option maxHeartbeats 2000000 in
theorem rCheck_any (s : ByteArray) (hsz : s.size < 1000000000) (w : World) (r : Int) (hr : checkS s.data.toList = r) :
    Calls Tryz.prog 13 #[.string s] w fun e w' => e = .returned (.int .i64 r) ∧ w = w' := by
  rw [checkS_form] at hr
  obtain ⟨b, hb⟩ : ∃ b, formS s.data.toList = b := ⟨_, rfl⟩
  have HF := Lib.hid (form_any s hsz w b hb)
  rw [hb] at hr
  cases b
  · have HR := Lib.hid (show (1 : Int) = r by rw [← hr]; rfl)
    clear hb hr
    go_enter Tryz.func13, Tryz.ntmps13
    go_wp2_with (go_at_call 64; refine HF.out.mono ?_; rintro e w1 ⟨rfl, rfl⟩)
    go_ret
    exact ⟨rret_int HR.out, rfl⟩
  · have h0 : 0 < s.size := by
      rcases Nat.eq_zero_or_pos s.size with h | h
      · exact absurd (nil_t (by omega)) (form_pos hb)
      · exact h
    simp only [if_true] at hr
    by_cases hc : s[0].toNat = 45
    · have hcc : (s[0].toNat : Int) = 45 := by rw [hc]; rfl
      rw [trim_minus h0 hc, show (s.extract 1 s.size).data.toList.length = s.size - 1 by rw [← Lib.size_eq]; simp] at hr
      have hk : ((s.size : Int) - 1) = ((s.size - 1 : Nat) : Int) := by omega
      obtain ⟨k, hkk⟩ : ∃ k, s.size - 1 = k := ⟨_, rfl⟩
      rw [hkk] at hk hr
      have HW := Lib.hid (fun W => rWhen_any (decide ((120 : Int) < k)) 4 W r (by rw [← hr]; exact if_cast _))
      clear hb hr hc hkk
      go_enter Tryz.func13, Tryz.ntmps13
      go_wp2_with (first | (go_at_call 64; refine HF.out.mono ?_; rintro e w1 ⟨rfl, rfl⟩) | (go_at_call 65; refine (HW.out _).mono ?_; rintro e w1 ⟨rfl, rfl⟩))
      go_ret
      exact ⟨rfl, rfl⟩
    · have hcc : ((s[0].toNat : Int) == 45) = false := by rw [beq_eq_false_iff_ne]; omega
      rw [trim_none h0 hc, ← Lib.size_eq] at hr
      have HW := Lib.hid (fun W => rWhen_any (decide ((120 : Int) < s.size)) 4 W r (by rw [← hr]; exact if_cast _))
      clear hb hr hc
      go_enter Tryz.func13, Tryz.ntmps13
      go_wp2_with (first | (go_at_call 64; refine HF.out.mono ?_; rintro e w1 ⟨rfl, rfl⟩) | (go_at_call 65; refine (HW.out _).mono ?_; rintro e w1 ⟨rfl, rfl⟩))
      go_ret
      exact ⟨rfl, rfl⟩
end Go.Proofs.YtjemolaobhlapaaGreatDoor

namespace Go.Proofs.YtjemolaobhlapaaGreatDoor
open Go.RowKit
set_option maxRecDepth 100000

theorem read_next {t : ByteArray} {lo i m x : Nat} (hit : i < t.size) (hi : lo ≤ i) (hx : t[i].toNat = x) (hm : numOf (((t.data.toList).take i).drop lo) = m) : numOf (((t.data.toList).take (i + 1)).drop lo) = 10 * m + (x - 48) := by
  have hl : i < t.data.toList.length := by rw [← Lib.size_eq]; exact hit
  have e : (t.data.toList).take (i + 1) = (t.data.toList).take i ++ [t[i]] := by
    rw [List.take_succ_eq_append_getElem hl]; rfl
  rw [e, List.drop_append_of_le_length (by rw [List.length_take]; omega), numOf_snoc, hm, hx]
  omega

set_option maxHeartbeats 4000000 in
theorem read_plain (t : ByteArray) (h0 : 0 < t.size) (hd : ∀ x ∈ t.data.toList, isDig x = true) (hsz : t.size < 100000) (N : Nat) (hN : numOf t.data.toList = N) (r : Bool) (hr : (false && !decide (N = 0)) = r) (w : World) :
    Calls Tryz.prog 73 #[.string t] w fun e w' => ∃ v', e = .returned v' ∧ BigR w r N v' w' := by
  obtain ⟨i0, hi0, hz0, hz1, hz2⟩ := info_parts infoI
  obtain ⟨B, hB⟩ : ∃ B, w.heap.size = B := ⟨_, rfl⟩
  obtain ⟨W, hW⟩ : ∃ W, (w.alloc (.cells #[.bool false, .slice none 0 0] 74)).alloc (.cells #[.bool false, .slice none 0 0] 74) = W := ⟨_, rfl⟩
  have h2 := Bg2.start hB hW
  have HD := Lib.hid hd
  have HNN := Lib.hid hN
  have HR := Lib.hid hr
  have hln : t.data.toList.length = t.size := (Lib.size_eq t).symm
  have HS := Lib.hid (show Sm w B false none 0 (dq N) 0 W from ⟨h2.b0, h2.b1, World.ownsRow_nil _ _ _ _, h2.bl⟩)
  clear h2
  have hcc : ((t[0].toNat : Int) == 45) = false := by
    have := isDig_le (hd t[0] (by exact Array.getElem_mem_toList _))
    rw [beq_eq_false_iff_ne]; omega
  obtain ⟨n, hn⟩ : ∃ n, t.size = n := ⟨_, rfl⟩
  have HLN := Lib.hid (hln.trans hn)
  rw [hn] at hsz
  clear hd hN hr hln
  go_enter Tryz.func73, Tryz.ntmps73
  go_wp2
  go_loopw [4] (fun x wr => ∃ k : Nat, 4 * k < n + 4 ∧ x = .int .i64 ((n : Int) - 4 * k) ∧ Hid (∃ p c, Sm w B false p c (dq N) k wr)) (fun x _ => (intOf x).toNat)
  case atStart => exact ⟨0, by omega, by simp, none, 0, HS.out⟩
  case round =>
    clear HS
    obtain ⟨k, hk, rfl, HT⟩ := hrel
    obtain ⟨p, c, HT⟩ := HT.out
    have HT := Lib.hid HT
    have c0 := HT.out.b1.at 0
    have c1 := HT.out.b1.at 1
    by_cases hgo : 4 * k < n
    · obtain ⟨e, he⟩ : ∃ e : Nat, e + 4 * k = n := ⟨n - 4 * k, by omega⟩
      have hee : ((n : Int) - 4 * k) = (e : Int) := by omega
      rw [hee]
      have HCH := Lib.hid (numOf_chunk4 HD.out (i := k) (e := e) (by rw [HLN.out]; exact he))
      obtain ⟨lo, hlo⟩ : ∃ lo, e - 4 = lo := ⟨_, rfl⟩
      have hmx : max (0 : Int) ((e : Int) - 4) = (lo : Int) := by omega
      have hle : lo < e ∧ e ≤ lo + 4 ∧ e ≤ n := by omega
      obtain ⟨hle1, hle2, hle3⟩ := hle
      rw [hlo] at HCH
      have HST := Lib.hid (show numOf (((t.data.toList).take lo).drop lo) = 0 by rw [List.drop_eq_nil_of_le (by rw [List.length_take]; omega)]; rfl)
      have HEK := Lib.hid he
      clear hlo hee he
      go_wp2
      go_loopw [5, 6] (fun y z wr => ∃ i m : Nat, lo ≤ i ∧ i ≤ e ∧ m < 10 ^ (i - lo) ∧ y = .int .i64 m ∧ z = .int .i64 i ∧ Hid (numOf (((t.data.toList).take i).drop lo) = m) ∧ Hid (Sm w B false p c (dq N) k wr)) (fun _ z _ => e - (intOf z).toNat)
      case atStart => exact ⟨lo, 0, Nat.le_refl _, by omega, by simp, rfl, rfl, HST, HT⟩
      case round =>
        clear HT c0 c1 HST
        obtain ⟨i, m, hi1, hi2, hm, rfl, rfl, HM, HT⟩ := hrel
        have hm4 : m < 10000 := Nat.lt_of_lt_of_le hm (show 10 ^ (i - lo) ≤ 10000 from Nat.pow_le_pow_right (n := 10) (by decide) (show i - lo ≤ 4 by omega))
        by_cases hlt : i < e
        · have hit : i < t.size := by omega
          obtain ⟨x, hx⟩ : ∃ x : Nat, t[i].toNat = x := ⟨_, rfl⟩
          have hdx := isDig_le (HD.out t[i] (by exact Array.getElem_mem_toList _))
          rw [hx] at hdx
          have hxx : (t[i].toNat : Int) = (x : Int) := by rw [hx]
          have HN := Lib.hid (read_next (t := t) hit hi1 hx HM.out)
          obtain ⟨hd1, hd2⟩ := hdx
          have hmn : 10 * m + (x - 48) < 10 ^ (i + 1 - lo) := by
            rw [show i + 1 - lo = (i - lo) + 1 by omega, Nat.pow_succ]; omega
          have HMN := Lib.hid hmn
          have hxs : ((x : Int) - 48) = ((x - 48 : Nat) : Int) := by omega
          have HSP := Lib.hid (show (10 * (m : Int) + ((x - 48 : Nat) : Int)) = ((10 * m + (x - 48) : Nat) : Int) by omega)
          clear hx hmn hm
          go_wp2
          go_roundw
          case rel => exact ⟨i + 1, 10 * m + (x - 48), by omega, by omega, HMN.out, congrArg _ HSP.out, by go_num, HN.out, HT.out⟩
          case measure => simp [intOf]; omega
        · obtain rfl : i = e := by omega
          have HX := Lib.hid (show m = dq N k by rw [← HM.out, ← HNN.out]; exact HCH.out)
          have c0 := HT.out.b1.at 0
          have c1 := HT.out.b1.at 1
          have hsz := HT.out.b1.lt
          go_wp2_with (at_builtin; refine wpList_append_own _ rfl _ _ 72 rfl (B + 2) 3 i0 _ 1 8 Tryz.underlying72 hi0 hz0 hz1 hz2 rfl (by decide) _ _ _ rfl (World.ownsRow.alloc HT.out.row _) ⟨wr.heap.size, 0, none⟩ 1 1 [.int .i64 m] rfl rfl (new_cell _ _ _) (one_int _) (by simp [maxLen]; omega) (by omega) (by simp; omega) ?_; intro v' w4 hown' hg4 _; obtain ⟨p', c', rfl, hb4, hs4⟩ := HT.out.put rfl HX.out hown' hg4; have HR4 := Lib.hid hs4; have d1 := hb4.at 1; have e1 := hb4.thawed 1; clear hown' hg4 hs4 hb4)
          go_roundw
          case rel => exact ⟨k + 1, by have := HEK.out; omega, by have := HEK.out; congr 1; omega, p', c', HR4.out⟩
          case measure => simp [intOf]; omega
    · have hdn : decide (4 * (k : Int) < (n : Int)) = false := by simp; omega
      have HQ := Lib.hid (show qv (dq N) k = N by rw [qv_dq]; exact Nat.mod_eq_of_lt (by rw [← HNN.out]; exact num_qw HD.out (by rw [HLN.out]; omega)))
      have HTR := Lib.hid (rTrim_any false (dq N) k _ (B + 2) wr HT.out.row (by omega) (fun _ _ => dq_lt _ _) N HQ.out r HR.out)
      clear hgo
      go_wp2_with (go_at_call 133; refine HTR.out.mono ?_; rintro e w2 ⟨v2, rfl, hm2, hb2⟩; obtain ⟨p2, k2, rfl⟩ := hm2.len; have HM2 := Lib.hid hm2; have HD2 := Lib.hid (HT.out.b0.below hb2 HT.out.b0.lt); have HBL := Lib.hid (HT.out.bl.trans (hb2.mono (by have := HT.out.b0.lt; omega))); have d0 := HD2.out.at 0; have d1 := HD2.out.at 1; have e0 := HD2.out.thawed 0; have e1 := HD2.out.thawed 1; clear hm2 hb2)
      have hbl := (HBL.out.setCell (p := ⟨B, 0, none⟩) (by simp) (.bool r)).setCell (p := ⟨B, 1, none⟩) (by simp) (.slice p2 (ql N) k2)
      exact bodyPost_ret (retBig rfl _ _ B rfl HD2.out.two) rfl ⟨_, rfl, p2, k2, rfl, HM2.out.two HD2.out, hB ▸ hbl⟩

set_option maxHeartbeats 4000000 in
theorem read_minus (s t : ByteArray) (h0 : 0 < s.size) (hc : s[0].toNat = 45) (hst : s.extract 1 s.size = t) (hd : ∀ x ∈ t.data.toList, isDig x = true) (hsz : t.size < 100000) (N : Nat) (hN : numOf t.data.toList = N) (r : Bool) (hr : (true && !decide (N = 0)) = r) (w : World) :
    Calls Tryz.prog 73 #[.string s] w fun e w' => ∃ v', e = .returned v' ∧ BigR w r N v' w' := by
  obtain ⟨i0, hi0, hz0, hz1, hz2⟩ := info_parts infoI
  obtain ⟨B, hB⟩ : ∃ B, w.heap.size = B := ⟨_, rfl⟩
  obtain ⟨W, hW⟩ : ∃ W, (w.alloc (.cells #[.bool false, .slice none 0 0] 74)).alloc (.cells #[.bool false, .slice none 0 0] 74) = W := ⟨_, rfl⟩
  have h2 := Bg2.start hB hW
  have HD := Lib.hid hd
  have HNN := Lib.hid hN
  have HR := Lib.hid hr
  have hln : t.data.toList.length = t.size := (Lib.size_eq t).symm
  have HS := Lib.hid (show Sm w B true none 0 (dq N) 0 (W.setCell ⟨B + 1, 0, none⟩ (.bool true)) from ⟨h2.b0.other _ _ (by simp), h2.b1.set 0 _, World.ownsRow_nil _ _ _ _, h2.bl.setCell (by simp) _⟩)
  have c2 := h2.b1.at 0
  have z2 := h2.b1.thawed 0
  clear h2
  have hcc : (s[0].toNat : Int) = 45 := by rw [hc]; rfl
  obtain ⟨n, hn⟩ : ∃ n, t.size = n := ⟨_, rfl⟩
  have HLN := Lib.hid (hln.trans hn)
  rw [hn] at hsz
  clear hd hN hr hln
  go_enter Tryz.func73, Tryz.ntmps73
  go_wp2
  go_loopw [4] (fun x wr => ∃ k : Nat, 4 * k < n + 4 ∧ x = .int .i64 ((n : Int) - 4 * k) ∧ Hid (∃ p c, Sm w B true p c (dq N) k wr)) (fun x _ => (intOf x).toNat)
  case atStart => exact ⟨0, by omega, by simp, none, 0, HS.out⟩
  case round =>
    clear HS
    obtain ⟨k, hk, rfl, HT⟩ := hrel
    obtain ⟨p, c, HT⟩ := HT.out
    have HT := Lib.hid HT
    have c0 := HT.out.b1.at 0
    have c1 := HT.out.b1.at 1
    by_cases hgo : 4 * k < n
    · obtain ⟨e, he⟩ : ∃ e : Nat, e + 4 * k = n := ⟨n - 4 * k, by omega⟩
      have hee : ((n : Int) - 4 * k) = (e : Int) := by omega
      rw [hee]
      have HCH := Lib.hid (numOf_chunk4 HD.out (i := k) (e := e) (by rw [HLN.out]; exact he))
      obtain ⟨lo, hlo⟩ : ∃ lo, e - 4 = lo := ⟨_, rfl⟩
      have hmx : max (0 : Int) ((e : Int) - 4) = (lo : Int) := by omega
      have hle : lo < e ∧ e ≤ lo + 4 ∧ e ≤ n := by omega
      obtain ⟨hle1, hle2, hle3⟩ := hle
      rw [hlo] at HCH
      have HST := Lib.hid (show numOf (((t.data.toList).take lo).drop lo) = 0 by rw [List.drop_eq_nil_of_le (by rw [List.length_take]; omega)]; rfl)
      have HEK := Lib.hid he
      clear hlo hee he
      go_wp2
      go_loopw [5, 6] (fun y z wr => ∃ i m : Nat, lo ≤ i ∧ i ≤ e ∧ m < 10 ^ (i - lo) ∧ y = .int .i64 m ∧ z = .int .i64 i ∧ Hid (numOf (((t.data.toList).take i).drop lo) = m) ∧ Hid (Sm w B true p c (dq N) k wr)) (fun _ z _ => e - (intOf z).toNat)
      case atStart => exact ⟨lo, 0, Nat.le_refl _, by omega, by simp, rfl, rfl, HST, HT⟩
      case round =>
        clear HT c0 c1 HST
        obtain ⟨i, m, hi1, hi2, hm, rfl, rfl, HM, HT⟩ := hrel
        have hm4 : m < 10000 := Nat.lt_of_lt_of_le hm (show 10 ^ (i - lo) ≤ 10000 from Nat.pow_le_pow_right (n := 10) (by decide) (show i - lo ≤ 4 by omega))
        by_cases hlt : i < e
        · have hit : i < t.size := by omega
          obtain ⟨x, hx⟩ : ∃ x : Nat, t[i].toNat = x := ⟨_, rfl⟩
          have hdx := isDig_le (HD.out t[i] (by exact Array.getElem_mem_toList _))
          rw [hx] at hdx
          have hxx : (t[i].toNat : Int) = (x : Int) := by rw [hx]
          have HN := Lib.hid (read_next (t := t) hit hi1 hx HM.out)
          obtain ⟨hd1, hd2⟩ := hdx
          have hmn : 10 * m + (x - 48) < 10 ^ (i + 1 - lo) := by
            rw [show i + 1 - lo = (i - lo) + 1 by omega, Nat.pow_succ]; omega
          have HMN := Lib.hid hmn
          have hxs : ((x : Int) - 48) = ((x - 48 : Nat) : Int) := by omega
          have HSP := Lib.hid (show (10 * (m : Int) + ((x - 48 : Nat) : Int)) = ((10 * m + (x - 48) : Nat) : Int) by omega)
          clear hx hmn hm
          go_wp2
          go_roundw
          case rel => exact ⟨i + 1, 10 * m + (x - 48), by omega, by omega, HMN.out, congrArg _ HSP.out, by go_num, HN.out, HT.out⟩
          case measure => simp [intOf]; omega
        · obtain rfl : i = e := by omega
          have HX := Lib.hid (show m = dq N k by rw [← HM.out, ← HNN.out]; exact HCH.out)
          have c0 := HT.out.b1.at 0
          have c1 := HT.out.b1.at 1
          have hsz := HT.out.b1.lt
          go_wp2_with (at_builtin; refine wpList_append_own _ rfl _ _ 72 rfl (B + 2) 3 i0 _ 1 8 Tryz.underlying72 hi0 hz0 hz1 hz2 rfl (by decide) _ _ _ rfl (World.ownsRow.alloc HT.out.row _) ⟨wr.heap.size, 0, none⟩ 1 1 [.int .i64 m] rfl rfl (new_cell _ _ _) (one_int _) (by simp [maxLen]; omega) (by omega) (by simp; omega) ?_; intro v' w4 hown' hg4 _; obtain ⟨p', c', rfl, hb4, hs4⟩ := HT.out.put rfl HX.out hown' hg4; have HR4 := Lib.hid hs4; have d1 := hb4.at 1; have e1 := hb4.thawed 1; clear hown' hg4 hs4 hb4)
          go_roundw
          case rel => exact ⟨k + 1, by have := HEK.out; omega, by have := HEK.out; congr 1; omega, p', c', HR4.out⟩
          case measure => simp [intOf]; omega
    · have hdn : decide (4 * (k : Int) < (n : Int)) = false := by simp; omega
      have HQ := Lib.hid (show qv (dq N) k = N by rw [qv_dq]; exact Nat.mod_eq_of_lt (by rw [← HNN.out]; exact num_qw HD.out (by rw [HLN.out]; omega)))
      have HTR := Lib.hid (rTrim_any true (dq N) k _ (B + 2) wr HT.out.row (by omega) (fun _ _ => dq_lt _ _) N HQ.out r HR.out)
      clear hgo
      go_wp2_with (go_at_call 133; refine HTR.out.mono ?_; rintro e w2 ⟨v2, rfl, hm2, hb2⟩; obtain ⟨p2, k2, rfl⟩ := hm2.len; have HM2 := Lib.hid hm2; have HD2 := Lib.hid (HT.out.b0.below hb2 HT.out.b0.lt); have HBL := Lib.hid (HT.out.bl.trans (hb2.mono (by have := HT.out.b0.lt; omega))); have d0 := HD2.out.at 0; have d1 := HD2.out.at 1; have e0 := HD2.out.thawed 0; have e1 := HD2.out.thawed 1; clear hm2 hb2)
      have hbl := (HBL.out.setCell (p := ⟨B, 0, none⟩) (by simp) (.bool r)).setCell (p := ⟨B, 1, none⟩) (by simp) (.slice p2 (ql N) k2)
      exact bodyPost_ret (retBig rfl _ _ B rfl HD2.out.two) rfl ⟨_, rfl, p2, k2, rfl, HM2.out.two HD2.out, hB ▸ hbl⟩
end Go.Proofs.YtjemolaobhlapaaGreatDoor

namespace Go.Proofs.YtjemolaobhlapaaGreatDoor
open Go.RowKit
set_option maxRecDepth 100000

/-- A slice of bytes of the call's own. -/
def Byt (W : World) (b : Nat) (v : Value) (l : List UInt8) : Prop := W.ownsRow b 5 1 v l.length (Lib.byteCells l)
theorem Byt.nil (W : World) (b : Nat) : Byt W b (.slice none 0 0) [] := World.ownsRow_nil _ _ _ _
theorem Byt.len {w : World} {b : Nat} {v : Value} {l : List UInt8} (h : Byt w b v l) : ∃ po cap, v = .slice po l.length cap := by
  rcases h.2 with ⟨h1, h2⟩ | ⟨g, cap, cur, h1, _⟩
  · exact ⟨none, 0, by rw [h1, h2]⟩
  · exact ⟨_, _, h1⟩
theorem Byt.lt {w : World} {b : Nat} {v : Value} {l : List UInt8} (h : Byt w b v l) : ∀ g, v.ownBlock = some g → b ≤ g ∧ g < w.heap.size := World.ownsRow.lt h
theorem Byt.below {w w' : World} {b : Nat} {v : Value} {l : List UInt8} (h : Byt w b v l) (hb : Below w.heap.size w w') : Byt w' b v l := own_below h hb
theorem Byt.some {w : World} {b : Nat} {v : Value} {l : List UInt8} (h : Byt w b v l) (h0 : l ≠ []) : ∃ g cap, v = .slice (some ⟨g, 0, none⟩) l.length cap ∧ b ≤ g ∧ g < w.heap.size ∧ ∀ i (hi : i < l.length), w.cell? ⟨g, i, none⟩ = some (.int .u8 ((l[i]).toNat : Int)) := by
  have h9 := h
  rcases h.2 with ⟨h1, h2⟩ | ⟨g, cap, cur, h1, h2, h3, h4⟩
  · exact absurd (List.eq_nil_of_length_eq_zero h2) h0
  · subst h1
    refine ⟨g, cap, rfl, h2, ?_, fun i hi => ?_⟩
    · exact (h9.lt g rfl).2
    · rw [World.ownsRow.cellAt h9 i (by omega)]
      simp [Lib.byteCells, hi]
theorem byt_put {w0 w w4 : World} {B : Nat} {l : List UInt8} {z : Int} {c : UInt8} {v v' : Value} {o : Obj} (hbl : Below B w0 w) (hsz : B ≤ w.heap.size) (ho : Byt w B v l) (hz : z = (c.toNat : Int))
    (hown : w4.ownsRow B 5 1 v' (l.length + 1) (Lib.byteCells l ++ [.int .u8 z])) (hg : (w.alloc o).grownBy w4 v.ownBlock) :
    Below B w0 w4 ∧ B ≤ w4.heap.size ∧ Byt w4 B v' (l ++ [c]) := by
  subst hz
  refine ⟨(hbl.alloc hsz _).grown hg (by rw [World.size_alloc]; omega) (fun k e => (ho.lt k e).1), ?_, ?_⟩
  · have h1 := hg.size
    rw [World.size_alloc] at h1
    omega
  · unfold Byt
    rw [byteCells_snoc, List.length_append]
    exact hown
theorem one_u8 (z : Int) : ∀ u ∈ ([.int .u8 z] : List Value), u.oneCell' = true := by
  intro u hu; simp at hu; subst hu; rfl
/-- The digits from the last one on. -/
def digB (n k : Nat) : UInt8 := UInt8.ofNat (48 + n / 10 ^ k % 10)
def digL (n k : Nat) : List UInt8 := (List.range k).map (digB n)
theorem digL_len (n k : Nat) : (digL n k).length = k := by simp [digL]
theorem digL_succ (n k : Nat) : digL n (k + 1) = digL n k ++ [digB n k] := by
  unfold digL; rw [List.range_succ, List.map_append]; rfl
theorem digB_nat (n k : Nat) : (digB n k).toNat = 48 + n / 10 ^ k % 10 := digit_byte (Nat.mod_lt _ (by decide))
theorem digL_get (n : Nat) {k i : Nat} (h : i < (digL n k).length) : (digL n k)[i].toNat = 48 + n / 10 ^ i % 10 := by
  rw [← digB_nat]
  simp [digL]
/-- A signed numeral as far as it is written. -/
def wrS (s : Bool) (n k : Nat) : List UInt8 := (if s then [45] else []) ++ wrote n k
theorem wrS_next {s : Bool} {n k : Nat} (h : n / 10 ^ k ≠ 0) : wrS s n k = wrS s n (k + 1) ++ [digB n k] := by
  unfold wrS
  rw [wrote_next, if_neg h, List.append_assoc]
  rfl
theorem wrS_start {s : Bool} {n k : Nat} (h : n < 10 ^ k) : wrS s n k = if s then [45] else [] := by
  unfold wrS
  rw [wrote_none h, List.append_nil]
theorem wrS_end {s : Bool} {n : Nat} (h : 0 < n) : wrS s n 0 = numeral s n := by
  unfold wrS numeral
  rw [wrote_zero h]
theorem qdigits_le : ∀ (k n : Nat), n < 10 ^ (k + 1) → Lib.nDigits n ≤ k + 1
  | 0, n, h => by rw [Lib.nDigits_small (by simpa using h)]; omega
  | k + 1, n, h => by
    by_cases h1 : n < 10
    · rw [Lib.nDigits_small h1]; omega
    · rw [Lib.nDigits_big h1]
      have := qdigits_le k (n / 10) (by rw [Nat.pow_succ] at h; omega)
      omega
theorem wrS_len {s : Bool} {n k D : Nat} (h : n < 10 ^ (D + 1)) : (wrS s n k).length ≤ D + 2 := by
  unfold wrS wrote
  rw [List.length_append]
  have h1 : (if s then [45] else ([] : List UInt8)).length ≤ 1 := by cases s <;> simp
  by_cases h2 : n / 10 ^ k = 0
  · rw [if_pos h2, List.length_nil]; omega
  · rw [if_neg h2, Lib.decDigits_length]
    have := qdigits_le D (n / 10 ^ k) (Nat.lt_of_le_of_lt (Nat.div_le_self _ _) h)
    omega
theorem write_top {n m : Nat} (h1 : n < 10 ^ (m + 1)) (h2 : n / 10 ^ m % 10 = 0) : n < 10 ^ m := by
  rcases Nat.lt_or_ge n (10 ^ m) with h | h
  · exact h
  · have h3 : n / 10 ^ m < 10 := by
      rw [Nat.pow_succ] at h1
      exact Nat.div_lt_of_lt_mul h1
    have h4 := Nat.div_pos h (Nat.pow_pos (n := m) (show 0 < 10 by decide))
    omega
theorem write_nz {n m i : Nat} (h : n / 10 ^ m % 10 ≠ 0) (hi : i ≤ m) : n / 10 ^ i ≠ 0 := by
  intro h0
  apply h
  obtain ⟨d, rfl⟩ : ∃ d, m = i + d := ⟨m - i, by omega⟩
  rw [Nat.pow_add, ← Nat.div_div_eq_div_mul, h0]
  simp
theorem shift_dg {n i j : Nat} (hj : j < 4) : dq n i / 10 ^ j % 10 = n / 10 ^ (4 * i + j) % 10 := digit_place4 n i j hj

set_option maxHeartbeats 8000000 in
theorem rWrite_any (s : Bool) (n : Nat) (va : Value) (w : World) (ha : Mag w va n) (la : ql n < 20000) (hs : s = true → n ≠ 0) :
    Calls Tryz.prog 67 #[.agg #[.bool s, va]] w fun e w' => e = .returned (.string (bs (numeral s n))) ∧ Below w.heap.size w w' := by
  obtain ⟨i0, hi0, hz0, hz1, hz2⟩ := info_parts infoU8
  obtain ⟨B, hB⟩ : ∃ B, w.heap.size = B := ⟨_, rfl⟩
  by_cases hn0 : n = 0
  · obtain ⟨p, c, rfl⟩ := ha.len
    subst hn0
    have hsf : s = false := by cases s; rfl; exact absurd rfl (hs rfl)
    subst hsf
    rw [ql_zero]
    clear ha la hs
    go_enter Tryz.func67, Tryz.ntmps67
    go_wp2
    go_ret
    have h48 : bs (numeral false 0) = ⟨#[48]⟩ := by
      unfold numeral
      rw [decDigits_small (by decide)]
      rfl
    exact ⟨by rw [h48]; rfl, (Below.refl _ _).alloc (Nat.le_refl _) _⟩
  · rcases Row.cases ha with ⟨_, h0⟩ | ⟨g, cap, rfl, _, hg, _, _, hc⟩
    · exact absurd (ql_eq_zero.1 h0) hn0
    · obtain ⟨W, hW⟩ : ∃ W, w.alloc (.cells #[.bool s, .slice (some ⟨g, 0, none⟩) (ql n) cap] 74) = W := ⟨_, rfl⟩
      have HH := Lib.hid (show BlockIs W B 74 #[.bool s, .slice (some ⟨g, 0, none⟩) (ql n) cap] ∧ Below B w W ∧ W.heap.size = B + 1 by
        rw [← hW, ← hB]
        exact ⟨BlockIs.new _ _ _, (Below.refl _ _).alloc (Nat.le_refl _) _, by simp⟩)
      have HC := Lib.hid hc
      have hlg : g < B := by omega
      have HP := Lib.hid (show 0 < n by omega)
      have hl0 : ql n ≠ 0 := fun h => hn0 (ql_eq_zero.1 h)
      obtain ⟨D9, hD9a, hD9⟩ : ∃ D, D < 80000 ∧ n < 10 ^ (D + 1) := ⟨4 * ql n, by omega, Nat.lt_of_lt_of_le (ql_digits n) (Nat.pow_le_pow_right (by decide) (by omega))⟩
      have HD9 := Lib.hid hD9
      clear hD9
      have HD := Lib.hid (show n < 10 ^ (4 * ql n - 1 + 1) by rw [show 4 * ql n - 1 + 1 = 4 * ql n by omega]; exact ql_digits n)
      obtain ⟨L, hL⟩ : ∃ L, ql n = L := ⟨_, rfl⟩
      rw [hL] at HH HC HD la hl0 hW ⊢
      have c0 := HH.out.1.at 0
      have c1 := HH.out.1.at 1
      have hL0 : ((L : Int) == 0) = false := by rw [beq_eq_false_iff_ne]; omega
      clear ha hc hs hn0 hL
      go_enter Tryz.func67, Tryz.ntmps67
      go_wp2
      go_loopw [3, 4] (fun v x wr => ∃ i : Nat, i ≤ L ∧ x = .int .i64 i ∧ Hid (Byt wr (B + 1) v (digL n (4 * i)) ∧ BlockIs wr B 74 #[.bool s, .slice (some ⟨g, 0, none⟩) L cap] ∧ Below B w wr)) (fun _ x _ => L - (intOf x).toNat)
      case atStart => exact ⟨0, Nat.zero_le _, rfl, Byt.nil _ _, HH.out.1, HH.out.2.1⟩
      case round =>
        clear HH c0 c1 hW
        obtain ⟨i, hi, rfl, HT⟩ := hrel
        have c0 := HT.out.2.1.at 0
        have c1 := HT.out.2.1.at 1
        by_cases hlt : i < L
        · have ca := (HT.out.2.2.cell (p := ⟨g, i, none⟩) hlg).trans (HC.out i hlt)
          have hx4 := dq_lt n i
          have HX := Lib.hid (fun j (h : j < 4) => @shift_dg n i j h)
          obtain ⟨x, hx⟩ : ∃ x, dq n i = x := ⟨_, rfl⟩
          rw [hx] at ca hx4 HX
          clear hx
          go_wp2
          go_loopw [3, 5, 6] (fun v y z wr => ∃ j : Nat, j ≤ 4 ∧ y = .int .i64 ((x / 10 ^ j : Nat) : Int) ∧ z = .int .i64 j ∧ Hid (Byt wr (B + 1) v (digL n (4 * i + j)) ∧ BlockIs wr B 74 #[.bool s, .slice (some ⟨g, 0, none⟩) L cap] ∧ Below B w wr)) (fun _ _ z _ => 4 - (intOf z).toNat)
          case atStart => exact ⟨0, Nat.zero_le _, by simp, rfl, HT.out⟩
          case round =>
            clear HT c0 c1 ca
            obtain ⟨j, hj, rfl, rfl, HT⟩ := hrel
            by_cases hjl : j < 4
            · have hyx : x / 10 ^ j ≤ x := Nat.div_le_self _ _
              have HN := Lib.hid (show x / 10 ^ j / 10 = x / 10 ^ (j + 1) by rw [Nat.pow_succ, Nat.div_div_eq_div_mul])
              have HG := Lib.hid (HX.out j hjl)
              obtain ⟨y, hy⟩ : ∃ y, x / 10 ^ j = y := ⟨_, rfl⟩
              rw [hy] at hyx HN HG ⊢
              obtain ⟨pv, cv, hv⟩ := HT.out.1.len
              have hsz := HT.out.2.1.lt
              have HZ := Lib.hid (show ((48 : Int) + (y : Int) % 10) = ((digB n (4 * i + j)).toNat : Int) by rw [digB_nat, ← HG.out]; omega)
              have HY := Lib.hid (show ((y : Int) / 10) = ((y / 10 : Nat) : Int) by omega)
              have hlen := digL_len n (4 * i + j)
              clear hy hv
              go_wp2_with (at_builtin; refine wpList_append_own _ rfl _ _ 142 rfl (B + 1) 5 i0 _ 1 1 Tryz.underlying142 hi0 hz0 hz1 hz2 rfl (by decide) _ _ _ rfl (World.ownsRow.alloc HT.out.1 _) ⟨wr.heap.size, 0, none⟩ 1 1 [.int .u8 ((48 : Int) + (y : Int) % 10)] rfl rfl (new_cell _ _ _) (one_u8 _) (by simp [maxLen]; omega) (by omega) (by simp; omega) ?_; intro v' w4 hown' hg4 _; have HR4 := Lib.hid (byt_put (Below.refl (B + 1) wr) (show B + 1 ≤ wr.heap.size by omega) HT.out.1 HZ.out hown' hg4); clear hown' hg4)
              go_roundw
              case rel =>
                refine ⟨j + 1, by omega, by rw [← HN.out]; exact congrArg _ HY.out, by go_num, ?_, HT.out.2.1.below HR4.out.1 (by omega), HT.out.2.2.trans (HR4.out.1.mono (by omega))⟩
                rw [show 4 * i + (j + 1) = 4 * i + j + 1 by omega, digL_succ]
                exact HR4.out.2.2
              case measure => simp [intOf]; omega
            · obtain rfl : j = 4 := by omega
              go_wp2
              go_roundw
              case rel => exact ⟨i + 1, by omega, by go_num, by rw [show 4 * (i + 1) = 4 * i + 4 by omega]; exact HT.out.1, HT.out.2⟩
              case measure => simp [intOf]; omega
        · obtain rfl : i = L := by omega
          obtain ⟨D, hD⟩ : ∃ D, digL n (4 * i) = D := ⟨_, rfl⟩
          have hDl : D.length = 4 * i := by rw [← hD, digL_len]
          have HDG := Lib.hid (fun k (h : k < D.length) => show (D[k]).toNat = 48 + n / 10 ^ k % 10 by subst hD; exact digL_get n h)
          have HT1 := HT.out.1
          rw [hD] at HT1
          obtain ⟨g2, cap2, rfl, hg2, hg3, hcells⟩ := HT1.some (by intro h; rw [h] at hDl; simp at hDl; omega)
          obtain ⟨M, hM⟩ : ∃ M, D.length = M := ⟨_, rfl⟩
          have HCL := Lib.hid (fun k (h : k < M) => show wr.cell? ⟨g2, k, none⟩ = some (.int .u8 ((48 + n / 10 ^ k % 10 : Nat) : Int)) by rw [hcells k (by omega), HDG.out k (by omega)])
          have HTB := Lib.hid HT.out.2.2
          rw [hM]
          have hM0 : 0 < M ∧ M = 4 * i := by omega
          have HNM := Lib.hid (show n < 10 ^ M by have h := HD.out; rw [show 4 * i - 1 + 1 = M by omega] at h; exact h)
          obtain ⟨hM0, hM4⟩ := hM0
          have hM9 : M < 90000 := by omega
          clear hcells HDG hM hDl hD HT1 HC HD hM4 HT
          go_wp2
          go_loop [7] (fun x => ∃ m : Nat, 0 < m ∧ m ≤ M ∧ x = .int .i64 m ∧ Hid (n < 10 ^ m)) (fun x => (intOf x).toNat)
          case atStart => exact ⟨M, hM0, Nat.le_refl _, rfl, HNM⟩
          case round =>
            clear HNM
            obtain ⟨m, hm0, hmM, rfl, HNM⟩ := hrel
            obtain ⟨k, rfl⟩ : ∃ k, m = k + 1 := ⟨m - 1, by omega⟩
            have ca := HCL.out k (by omega)
            have hkk : (((k + 1 : Nat) : Int) - 1) = (k : Int) := by omega
            by_cases hy0 : n / 10 ^ k % 10 = 0
            · have HE := Lib.hid (write_top HNM.out hy0)
              have hk0 : 0 < k := by
                rcases Nat.eq_zero_or_pos k with h | h
                · have h1 := HE.out
                  have h2 := HP.out
                  rw [h] at h1
                  simp at h1
                  omega
                · exact h
              rw [hy0] at ca
              clear hy0
              go_wp2
              go_round
              case rel => exact ⟨k, hk0, by omega, by first | rfl | (congr 1; omega), HE⟩
              case measure => (simp [intOf] <;> omega)
            · have HNZ := Lib.hid (fun i (h : i ≤ k) => write_nz hy0 h)
              have hneq : (((48 + n / 10 ^ k % 10 : Nat) : Int) == 48) = false := by rw [beq_eq_false_iff_ne]; omega
              obtain ⟨zz, hzz⟩ : ∃ zz, 48 + n / 10 ^ k % 10 = zz := ⟨_, rfl⟩
              rw [hzz] at ca hneq
              have HZT := Lib.hid hzz
              clear hy0 hzz
              obtain ⟨V, rfl⟩ : ∃ V, V = wr := ⟨_, rfl⟩
              obtain ⟨C, hC⟩ : ∃ C, V.heap.size = C := ⟨_, rfl⟩
              have hgC : g2 < C := by omega
              have hBC : B ≤ C := by have := HTB.out.size; omega
              have HCS := Lib.hid (show C ≤ V.heap.size by omega)
              cases s
              · go_wp2
                go_loopw [8, 9] (fun v x wr => ∃ i : Nat, i ≤ k + 1 ∧ x = .int .i64 ((i : Int) - 1) ∧ Hid (Byt wr C v (wrS false n i) ∧ Below C V wr ∧ C ≤ wr.heap.size)) (fun _ x _ => (intOf x + 1).toNat)
                case atStart => exact ⟨k + 1, Nat.le_refl _, by congr 1; omega, by rw [wrS_start HNM.out]; exact Byt.nil _ _, Below.refl _ _, HCS.out⟩
                case round =>
                  clear HNM ca
                  obtain ⟨i, hi, rfl, HT⟩ := hrel
                  by_cases hi0 : i = 0
                  · subst hi0
                    have HB1 := HT.out.1
                    rw [wrS_end HP.out] at HB1
                    obtain ⟨o, cp, rfl, hcv⟩ := conv_row HB1 (by unfold numeral; rw [List.length_append]; have := dec_pos n; omega)
                    go_wp2
                    go_ret
                    exact ⟨rfl, hB ▸ HTB.out.trans (HT.out.2.1.mono (by omega))⟩
                  · obtain ⟨j, rfl⟩ : ∃ j, i = j + 1 := ⟨i - 1, by omega⟩
                    rw [show (((j + 1 : Nat) : Int) - 1) = (j : Int) by omega]
                    have ca := (HT.out.2.1.cell (p := ⟨g2, j, none⟩) hgC).trans (HCL.out j (by omega))
                    have HZ := Lib.hid (show ((48 + n / 10 ^ j % 10 : Nat) : Int) = ((digB n j).toNat : Int) by rw [digB_nat])
                    have HW2 := Lib.hid (wrS_next (s := false) (HNZ.out j (by omega)))
                    obtain ⟨dz, hdz⟩ : ∃ d, 48 + n / 10 ^ j % 10 = d := ⟨_, rfl⟩
                    rw [hdz] at ca HZ
                    obtain ⟨pv, cv, hv⟩ := HT.out.1.len
                    have hlen := wrS_len (s := false) (k := j + 1) HD9.out
                    have hszC := HT.out.2.2
                    obtain ⟨ll, hll⟩ : ∃ l, wrS false n (j + 1) = l := ⟨_, rfl⟩
                    rw [hll] at HT hlen HW2
                    clear hdz hv hll hi0
                    go_wp2_with (at_builtin; refine wpList_append_own _ rfl _ _ 142 rfl (C) 5 i0 _ 1 1 Tryz.underlying142 hi0 hz0 hz1 hz2 rfl (by decide) _ _ _ rfl (World.ownsRow.alloc HT.out.1 _) ⟨wr.heap.size, 0, none⟩ 1 1 [.int .u8 ((dz : Int))] rfl rfl (new_cell _ _ _) (one_u8 _) (by simp [maxLen] <;> omega) (by first | omega | simp) (by simp; omega) ?_; intro v' w4 hown' hg4 _; have HR4 := Lib.hid (byt_put HT.out.2.1 hszC HT.out.1 HZ.out hown' hg4); clear hown' hg4)
                    go_roundw
                    case rel => exact ⟨j, by omega, rfl, by rw [HW2.out]; exact HR4.out.2.2, HR4.out.1, HR4.out.2.1⟩
                    case measure => (simp [intOf] <;> omega)
              · go_wp2_with (at_builtin; refine wpList_append_own _ rfl _ _ 142 rfl (C) 5 i0 _ 1 1 Tryz.underlying142 hi0 hz0 hz1 hz2 rfl (by decide) _ _ _ rfl (World.ownsRow.alloc (Byt.nil V C) _) ⟨C, 0, none⟩ 1 1 [.int .u8 ((45 : Int))] rfl rfl (by rw [← hC]; exact new_cell _ _ _) (one_u8 _) (by simp [maxLen] <;> omega) (by first | omega | simp) (by have := HCS.out; rw [World.size_alloc]; omega) ?_; intro v' w4 hown' hg4 _; have HR4 := Lib.hid (byt_put (c := 45) (Below.refl C V) HCS.out (Byt.nil V C) rfl hown' hg4); clear hown' hg4)
                go_loopw [8, 9] (fun v x wr => ∃ i : Nat, i ≤ k + 1 ∧ x = .int .i64 ((i : Int) - 1) ∧ Hid (Byt wr C v (wrS true n i) ∧ Below C V wr ∧ C ≤ wr.heap.size)) (fun _ x _ => (intOf x + 1).toNat)
                case atStart => exact ⟨k + 1, Nat.le_refl _, by congr 1; omega, by rw [wrS_start HNM.out]; exact HR4.out.2.2, HR4.out.1, HR4.out.2.1⟩
                case round =>
                  clear HNM ca
                  obtain ⟨i, hi, rfl, HT⟩ := hrel
                  by_cases hi0 : i = 0
                  · subst hi0
                    have HB1 := HT.out.1
                    rw [wrS_end HP.out] at HB1
                    obtain ⟨o, cp, rfl, hcv⟩ := conv_row HB1 (by unfold numeral; rw [List.length_append]; have := dec_pos n; omega)
                    go_wp2
                    go_ret
                    exact ⟨rfl, hB ▸ HTB.out.trans (HT.out.2.1.mono (by omega))⟩
                  · obtain ⟨j, rfl⟩ : ∃ j, i = j + 1 := ⟨i - 1, by omega⟩
                    rw [show (((j + 1 : Nat) : Int) - 1) = (j : Int) by omega]
                    have ca := (HT.out.2.1.cell (p := ⟨g2, j, none⟩) hgC).trans (HCL.out j (by omega))
                    have HZ := Lib.hid (show ((48 + n / 10 ^ j % 10 : Nat) : Int) = ((digB n j).toNat : Int) by rw [digB_nat])
                    have HW2 := Lib.hid (wrS_next (s := true) (HNZ.out j (by omega)))
                    obtain ⟨dz, hdz⟩ : ∃ d, 48 + n / 10 ^ j % 10 = d := ⟨_, rfl⟩
                    rw [hdz] at ca HZ
                    obtain ⟨pv, cv, hv⟩ := HT.out.1.len
                    have hlen := wrS_len (s := true) (k := j + 1) HD9.out
                    have hszC := HT.out.2.2
                    obtain ⟨ll, hll⟩ : ∃ l, wrS true n (j + 1) = l := ⟨_, rfl⟩
                    rw [hll] at HT hlen HW2
                    clear hdz hv hll hi0
                    go_wp2_with (at_builtin; refine wpList_append_own _ rfl _ _ 142 rfl (C) 5 i0 _ 1 1 Tryz.underlying142 hi0 hz0 hz1 hz2 rfl (by decide) _ _ _ rfl (World.ownsRow.alloc HT.out.1 _) ⟨wr.heap.size, 0, none⟩ 1 1 [.int .u8 ((dz : Int))] rfl rfl (new_cell _ _ _) (one_u8 _) (by simp [maxLen] <;> omega) (by first | omega | simp) (by simp; omega) ?_; intro v' w4 hown' hg4 _; have HR4 := Lib.hid (byt_put HT.out.2.1 hszC HT.out.1 HZ.out hown' hg4); clear hown' hg4)
                    go_roundw
                    case rel => exact ⟨j, by omega, rfl, by rw [HW2.out]; exact HR4.out.2.2, HR4.out.1, HR4.out.2.1⟩
                    case measure => (simp [intOf] <;> omega)
end Go.Proofs.YtjemolaobhlapaaGreatDoor

namespace Go.Proofs.YtjemolaobhlapaaGreatDoor
open Go.RowKit
set_option maxRecDepth 100000

theorem check_long {s : Bool} {n : Nat} (hs : s = true → n ≠ 0) : checkS (bs (numeral s n)).data.toList = if 120 < Lib.nDigits n then 4 else 0 := by
  rw [bs_list]
  unfold checkS
  rw [trim_numeral, if_neg]
  · rw [Lib.decDigits_length]
  · rintro (h1 | ⟨h1, h2⟩ | h1)
    · rw [allD_dec] at h1; cases h1
    · exact dec_head n (dec_one h1) h2
    · obtain ⟨h2, h3⟩ := numeral_zero h1
      exact hs h2 h3
/-- What result answers. -/
def resP (s : Bool) (n : Nat) : ByteArray × Int := if 120 < Lib.nDigits n then (⟨#[]⟩, 4) else (bs (numeral s n), 0)
theorem numeral_size {s : Bool} {n : Nat} (h : ql n < 20000) : (bs (numeral s n)).size < 1000000000 := by
  rw [bs_size, numeral_signed]
  unfold signed
  rw [List.length_append, Lib.decDigits_length]
  have h1 : (if s = true then [45] else ([] : List UInt8)).length ≤ 1 := by cases s <;> simp
  have h2 := qdigits_le (4 * ql n) n (Nat.lt_of_lt_of_le (ql_digits n) (Nat.pow_le_pow_right (by decide) (by omega)))
  omega

set_option maxHeartbeats 2000000 in
theorem rResult_any (s : Bool) (n : Nat) (va : Value) (w : World) (ha : Mag w va n) (la : ql n < 20000) (hs : s = true → n ≠ 0) (x : ByteArray) (r : Int) (hx : resP s n = (x, r)) :
    Calls Tryz.prog 77 #[.agg #[.bool s, va]] w fun e w' => e = .returned (.tuple #[.string x, .int .i64 r]) ∧ Below w.heap.size w w' := by
  obtain ⟨p, c, rfl⟩ := ha.len
  obtain ⟨B, hB⟩ : ∃ B, w.heap.size = B := ⟨_, rfl⟩
  obtain ⟨W, hW⟩ : ∃ W, w.alloc (.cells #[.bool s, .slice p (ql n) c] 74) = W := ⟨_, rfl⟩
  have HH := Lib.hid (show BlockIs W B 74 #[.bool s, .slice p (ql n) c] ∧ Below B w W by
    rw [← hW, ← hB]
    exact ⟨BlockIs.new _ _ _, (Below.refl _ _).alloc (Nat.le_refl _) _⟩)
  have HWR := Lib.hid (rWrite_any s n _ W (ha.below (by rw [hB]; exact HH.out.2)) la hs)
  have HCK := Lib.hid (fun W => rCheck_any (bs (numeral s n)) (numeral_size la) W _ (check_long hs))
  have c0 := HH.out.1.at 0
  have c1 := HH.out.1.at 1
  have hlt := HH.out.1.lt
  unfold resP at hx
  obtain ⟨y, hy⟩ : ∃ y, bs (numeral s n) = y := ⟨_, rfl⟩
  rw [hy] at HWR HCK hx
  clear ha la hs hy
  by_cases h1 : 120 < Lib.nDigits n
  · rw [if_pos h1, Prod.mk.injEq] at hx
    rw [if_pos h1] at HCK
    obtain ⟨rfl, rfl⟩ := hx
    clear h1
    go_enter Tryz.func77, Tryz.ntmps77
    go_wp2_with (first | (go_at_call 67; refine HWR.out.mono ?_; rintro e w1 ⟨rfl, hb1⟩; have HB1 := Lib.hid (HH.out.2.trans (hb1.mono (by omega)))) | (go_at_call 13; refine (HCK.out _).mono ?_; rintro e w1 ⟨rfl, rfl⟩))
    go_ret2
    exact ⟨rfl, hB ▸ HB1.out⟩
  · rw [if_neg h1, Prod.mk.injEq] at hx
    rw [if_neg h1] at HCK
    obtain ⟨rfl, rfl⟩ := hx
    clear h1
    go_enter Tryz.func77, Tryz.ntmps77
    go_wp2_with (first | (go_at_call 67; refine HWR.out.mono ?_; rintro e w1 ⟨rfl, hb1⟩; have HB1 := Lib.hid (HH.out.2.trans (hb1.mono (by omega)))) | (go_at_call 13; refine (HCK.out _).mono ?_; rintro e w1 ⟨rfl, rfl⟩))
    go_ret2
    exact ⟨rfl, hB ▸ HB1.out⟩
end Go.Proofs.YtjemolaobhlapaaGreatDoor
