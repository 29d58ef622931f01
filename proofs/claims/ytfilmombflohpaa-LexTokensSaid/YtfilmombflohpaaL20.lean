/- The reference's numbers, widths, keywords, names. -/
import Derived.Test.YtfilmombflohpaaL19
set_option linter.unusedSimpArgs false
set_option linter.unusedVariables false
namespace Go.Proofs.Ytfilmombflohpaa
open Go.RowKit Go.ChangeMaps Go.WideMaps
set_option maxRecDepth 100000

def digitsL (l : List UInt8) : Bool := l.all fun c => isDigitI (c.toNat : Int)
def headZ : List UInt8 → Bool
  | [] => false
  | c :: _ => (c.toNat : Int) == 48
def rNumL (l : List UInt8) (m : Nat) : Bool := !l.isEmpty && decide (l.length ≤ m) && !(decide (1 < l.length) && headZ l) && digitsL l

theorem digitsL_no {s : ByteArray} {k : Nat} (h : k < s.size) (hp : isDigitI (s[k].toNat : Int) = false) (e : digitsL s.data.toList = digitsL (s.data.toList.drop k)) : digitsL s.data.toList = false := by
  rw [e, drop_cons s k h]
  show (isDigitI _ && _) = _
  rw [hp]; rfl
theorem digitsL_step {s : ByteArray} {k : Nat} (h : k < s.size) (hp : isDigitI (s[k].toNat : Int) = true) (e : digitsL s.data.toList = digitsL (s.data.toList.drop k)) : digitsL s.data.toList = digitsL (s.data.toList.drop (k + 1)) := by
  rw [e, drop_cons s k h]
  show (isDigitI _ && _) = _
  rw [hp]; rfl
theorem digitsL_end {s : ByteArray} {k : Nat} (h : s.size ≤ k) (e : digitsL s.data.toList = digitsL (s.data.toList.drop k)) : digitsL s.data.toList = true := by
  rw [e, List.drop_eq_nil_of_le (by simpa using h)]; rfl
theorem headZ_cons {s : ByteArray} (h : 0 < s.size) : headZ s.data.toList = ((s[0].toNat : Int) == 48) := by
  rw [head_cons h]; rfl

set_option maxHeartbeats 1000000 in
theorem rNumber_any (s : ByteArray) (m : Nat) (w : World) (hs : s.size ≤ 65536) (hm : m ≤ 65536) :
    Calls Try.prog 101 #[.string s, .int .i64 m] w fun e w' => e = .returned (.bool (rNumL s.data.toList m)) ∧ w = w' := by
  have HN : Hid (rNumL s.data.toList m = (!s.data.toList.isEmpty && decide (s.size ≤ m) && !(decide (1 < s.size) && headZ s.data.toList) && digitsL s.data.toList)) := by
    show _ = _; unfold rNumL; rw [← Lib.size_eq]
  by_cases hz : 0 < s.size
  · have he := empty_f hz
    rw [show s.data.toList.isEmpty = false by rw [← Lib.toList_data]; exact he, headZ_cons hz] at HN
    obtain ⟨z, hzz⟩ : ∃ z, ((s[0].toNat : Int) == 48) = z := ⟨_, rfl⟩
    rw [hzz] at HN
    by_cases hm1 : m < s.size
    · rw [decide_eq_false (by omega : ¬ s.size ≤ m)] at HN
      clear hzz
      go_enter Try.func101, Try.ntmps101
      go_wp2
      all_goals go_ret
      all_goals exact ⟨ret_bool (by rw [HN.out]; simp), rfl⟩
    · rw [decide_eq_true (by omega : s.size ≤ m)] at HN
      by_cases h1 : 1 < s.size
      · rw [decide_eq_true h1] at HN
        cases z
        · go_enter Try.func101, Try.ntmps101
          go_wp2
          go_loop [5] (fun n => ∃ k : Nat, k ≤ s.size ∧ n = .int .i64 k ∧ Hid (digitsL s.data.toList = digitsL (s.data.toList.drop k))) (fun n => s.size - (intOf n).toNat)
          case atStart => exact ⟨0, Nat.zero_le _, rfl, show _ = _ by rw [List.drop_zero]⟩
          case round =>
            obtain ⟨k, hk, rfl, HK⟩ := hrel
            by_cases hlt : k < s.size
            · by_cases hd : isDigitI (s[k].toNat : Int) = true
              · have HD := Lib.hid (digitsL_step hlt hd HK.out)
                go_wp2_with (go_at_call 51; refine (rDigit_any _ _).mono ?_; rintro e w' ⟨rfl, rfl⟩)
                go_round
                case rel => exact ⟨k + 1, hlt, by go_num, HD⟩
                case measure => simp [intOf]; omega
              · have hd' : isDigitI (s[k].toNat : Int) = false := by simpa using hd
                have HD := Lib.hid (digitsL_no hlt hd' HK.out)
                clear hd
                go_wp2_with (go_at_call 51; refine (rDigit_any _ _).mono ?_; rintro e w' ⟨rfl, rfl⟩)
                go_ret
                exact ⟨ret_bool (by rw [HN.out, HD.out, Bool.and_false]), rfl⟩
            · have HD := Lib.hid (digitsL_end (by omega) HK.out)
              go_wp2
              go_ret
              exact ⟨ret_bool (by rw [HN.out, HD.out]; simp), rfl⟩
        · go_enter Try.func101, Try.ntmps101
          go_wp2
          all_goals go_ret
          all_goals exact ⟨ret_bool (by rw [HN.out]; simp), rfl⟩
      · rw [decide_eq_false h1] at HN
        clear hzz
        go_enter Try.func101, Try.ntmps101
        go_wp2
        go_loop [5] (fun n => ∃ k : Nat, k ≤ s.size ∧ n = .int .i64 k ∧ Hid (digitsL s.data.toList = digitsL (s.data.toList.drop k))) (fun n => s.size - (intOf n).toNat)
        case atStart => exact ⟨0, Nat.zero_le _, rfl, show _ = _ by rw [List.drop_zero]⟩
        case round =>
          obtain ⟨k, hk, rfl, HK⟩ := hrel
          by_cases hlt : k < s.size
          · by_cases hd : isDigitI (s[k].toNat : Int) = true
            · have HD := Lib.hid (digitsL_step hlt hd HK.out)
              go_wp2_with (go_at_call 51; refine (rDigit_any _ _).mono ?_; rintro e w' ⟨rfl, rfl⟩)
              go_round
              case rel => exact ⟨k + 1, hlt, by go_num, HD⟩
              case measure => simp [intOf]; omega
            · have hd' : isDigitI (s[k].toNat : Int) = false := by simpa using hd
              have HD := Lib.hid (digitsL_no hlt hd' HK.out)
              clear hd
              go_wp2_with (go_at_call 51; refine (rDigit_any _ _).mono ?_; rintro e w' ⟨rfl, rfl⟩)
              go_ret
              exact ⟨ret_bool (by rw [HN.out, HD.out, Bool.and_false]), rfl⟩
          · have HD := Lib.hid (digitsL_end (by omega) HK.out)
            go_wp2
            go_ret
            exact ⟨ret_bool (by rw [HN.out, HD.out]; simp), rfl⟩
  · have he := empty_t hz
    rw [nil_t hz] at HN
    go_enter Try.func101, Try.ntmps101
    go_wp2
    go_ret
    exact ⟨ret_bool (by rw [nil_t hz]; rfl), rfl⟩
end Go.Proofs.Ytfilmombflohpaa
