/- The reference's reading of a text: words, digits, blanks. -/
import Derived.Test.YtfilmombflohpaaL23
set_option linter.unusedSimpArgs false
set_option linter.unusedVariables false
namespace Go.Proofs.Ytfilmombflohpaa
open Go.RowKit Go.ChangeMaps Go.WideMaps
set_option maxRecDepth 100000

set_option maxHeartbeats 1000000 in
theorem rDigits_any (s : ByteArray) (w : World) (hs : s.size ≤ maxLen) :
    Calls Try.prog 74 #[.string s] w fun e w' => e = .returned (.int .i64 (countL isDigitI s.data.toList)) ∧ w = w' := by
  unfold maxLen at hs
  go_enter Try.func74, Try.ntmps74
  go_wp2
  go_loop [3] (fun n => ∃ k : Nat, k ≤ s.size ∧ n = .int .i64 k ∧ Hid (countL isDigitI s.data.toList = k + countL isDigitI (s.data.toList.drop k))) (fun n => s.size - (intOf n).toNat)
  case atStart => exact ⟨0, Nat.zero_le _, rfl, show _ = _ by simp⟩
  case round =>
    obtain ⟨k, hk, rfl, hc⟩ := hrel
    by_cases hlt : k < s.size
    · by_cases hd : isDigitI (s[k].toNat : Int) = true
      · have HY := Lib.hid (countL_yes hlt hd hc.out)
        go_wp2_with (go_at_call 51; refine (rDigit_any _ _).mono ?_; rintro e w' ⟨rfl, rfl⟩)
        all_goals go_round
        case rel => exact ⟨k + 1, hlt, by go_num, HY⟩
        case measure => simp [intOf]; omega
      · have hd' : isDigitI (s[k].toNat : Int) = false := by simpa using hd
        have HY := Lib.hid (countL_no hlt hd' hc.out)
        clear hd
        go_wp2_with (go_at_call 51; refine (rDigit_any _ _).mono ?_; rintro e w' ⟨rfl, rfl⟩)
        all_goals go_ret
        all_goals exact ⟨ret_int (by rw [← HY.out]), rfl⟩
    · have HY := Lib.hid (countL_out (p := isDigitI) (s := s) (by omega) hc.out)
      go_wp2
      go_ret
      exact ⟨ret_int (by rw [← HY.out]), rfl⟩
/-- How long the word at the start is. -/
def wlen (l : List UInt8) : Nat := if headL l = true then countL isPartI l else 0
theorem wordL_len (l : List UInt8) : (wordL l).length = wlen l := by
  cases l with
  | nil => rfl
  | cons c r =>
    show (if isLetterI (c.toNat : Int) then (c :: r).take (countL isPartI (c :: r)) else []).length = if isLetterI (c.toNat : Int) = true then countL isPartI (c :: r) else 0
    cases isLetterI (c.toNat : Int)
    · rfl
    · have := countL_le isPartI (c :: r)
      simp only [if_true]
      rw [List.length_take]
      omega

theorem wlen_zero {s : ByteArray} (h : 0 < s.size) (hl : isLetterI (s[0].toNat : Int) = false) : wlen s.data.toList = 0 := by
  unfold wlen; rw [headL_cons h, hl]; rfl
theorem wlen_stop {s : ByteArray} {k : Nat} (hh : headL s.data.toList = true) (hk : k = countL isPartI s.data.toList) : wlen s.data.toList = k := by
  unfold wlen; rw [if_pos hh, hk]
theorem part_letter {c : Int} (h : isLetterI c = true) : isPartI c = true := by unfold isPartI; rw [h]; rfl
theorem part_digit {c : Int} (h : isDigitI c = true) : isPartI c = true := by unfold isPartI; rw [h]; simp
theorem part_under {c : Int} (h : c = 95) : isPartI c = true := by subst h; rfl
theorem part_none {c : Int} (h1 : isLetterI c = false) (h2 : isDigitI c = false) (h3 : ¬ c = 95) : isPartI c = false := by
  unfold isPartI; rw [h1, h2]; simpa using h3

set_option maxHeartbeats 2000000 in
theorem rWord_any (s : ByteArray) (w : World) (hs : s.size ≤ maxLen) :
    Calls Try.prog 49 #[.string s] w fun e w' => e = .returned (.int .i64 (wlen s.data.toList)) ∧ w = w' := by
  unfold maxLen at hs
  go_enter Try.func49, Try.ntmps49
  go_wp2
  go_loop [3] (fun n => ∃ k : Nat, k ≤ s.size ∧ n = .int .i64 k ∧ Hid (countL isPartI s.data.toList = k + countL isPartI (s.data.toList.drop k)) ∧ Hid (k = 0 ∨ headL s.data.toList = true)) (fun n => s.size - (intOf n).toNat)
  case atStart => exact ⟨0, Nat.zero_le _, rfl, show _ = _ by simp, show _ ∨ _ from .inl rfl⟩
  case round =>
    obtain ⟨k, hk, rfl, hc, hh⟩ := hrel
    by_cases hlt : k < s.size
    · have H3 := fun w => Lib.hid (rLetter_any (s[k].toNat : Int) w)
      have H4 := fun w => Lib.hid (rDigit_any (s[k].toNat : Int) w)
      rcases Nat.eq_zero_or_pos k with rfl | hk0
      · have hz : 0 < s.size := hlt
        cases hL : isLetterI (s[0].toNat : Int)
        · have HD := Lib.hid (wlen_zero hz hL)
          rw [hL] at H3
          clear hL hh hc
          go_wp2_with (first | (go_at_call 64; refine (H3 _).out.mono ?_; rintro e w' ⟨rfl, rfl⟩) | (go_at_call 51; refine (H4 _).out.mono ?_; rintro e w' ⟨rfl, rfl⟩))
          all_goals go_ret
          all_goals exact ⟨ret_int (by rw [HD.out]; rfl), rfl⟩
        · have HN := Lib.hid (countL_yes hlt (part_letter hL) hc.out)
          have HH := Lib.hid (show (0 + 1 = 0) ∨ headL s.data.toList = true from .inr (by rw [headL_cons hz]; exact hL))
          rw [hL] at H3
          clear hL hh hc
          go_wp2_with (first | (go_at_call 64; refine (H3 _).out.mono ?_; rintro e w' ⟨rfl, rfl⟩) | (go_at_call 51; refine (H4 _).out.mono ?_; rintro e w' ⟨rfl, rfl⟩))
          all_goals go_round
          all_goals first | exact ⟨1, hlt, by go_num, HN, HH⟩ | (simp [intOf]; omega)
      · have hhd : headL s.data.toList = true := by
          rcases hh.out with h | h
          · omega
          · exact h
        have HH := Lib.hid (show (k + 1 = 0) ∨ headL s.data.toList = true from .inr hhd)
        have HHD := Lib.hid hhd
        clear hh hhd
        by_cases h95 : (s[k].toNat : Int) = 95
        · have HN := Lib.hid (countL_yes hlt (part_under h95) hc.out)
          have H3 := fun w => Lib.hid (rLetter_any 95 w)
          have H4 := fun w => Lib.hid (rDigit_any 95 w)
          rw [show isLetterI 95 = false from rfl] at H3
          rw [show isDigitI 95 = false from rfl] at H4
          clear hc
          go_wp2_with (first | (go_at_call 64; refine (H3 _).out.mono ?_; rintro e w' ⟨rfl, rfl⟩) | (go_at_call 51; refine (H4 _).out.mono ?_; rintro e w' ⟨rfl, rfl⟩))
          all_goals go_round
          all_goals first | exact ⟨k + 1, hlt, by go_num, HN, HH⟩ | (simp [intOf]; omega)
        · cases hL : isLetterI (s[k].toNat : Int)
          · cases hD : isDigitI (s[k].toNat : Int)
            · have HD := Lib.hid (wlen_stop HHD.out (countL_no hlt (part_none hL hD h95) hc.out))
              rw [hL] at H3
              rw [hD] at H4
              clear hL hD hc
              go_wp2_with (first | (go_at_call 64; refine (H3 _).out.mono ?_; rintro e w' ⟨rfl, rfl⟩) | (go_at_call 51; refine (H4 _).out.mono ?_; rintro e w' ⟨rfl, rfl⟩))
              all_goals go_ret
              all_goals exact ⟨ret_int (by rw [HD.out]), rfl⟩
            · have HN := Lib.hid (countL_yes hlt (part_digit hD) hc.out)
              rw [hL] at H3
              rw [hD] at H4
              clear hL hD hc
              go_wp2_with (first | (go_at_call 64; refine (H3 _).out.mono ?_; rintro e w' ⟨rfl, rfl⟩) | (go_at_call 51; refine (H4 _).out.mono ?_; rintro e w' ⟨rfl, rfl⟩))
              all_goals go_round
              all_goals first | exact ⟨k + 1, hlt, by go_num, HN, HH⟩ | (simp [intOf]; omega)
          · have HN := Lib.hid (countL_yes hlt (part_letter hL) hc.out)
            rw [hL] at H3
            clear hL hc
            go_wp2_with (first | (go_at_call 64; refine (H3 _).out.mono ?_; rintro e w' ⟨rfl, rfl⟩) | (go_at_call 51; refine (H4 _).out.mono ?_; rintro e w' ⟨rfl, rfl⟩))
            all_goals go_round
            all_goals first | exact ⟨k + 1, hlt, by go_num, HN, HH⟩ | (simp [intOf]; omega)
    · have HD : Hid (wlen s.data.toList = k) := by
        rcases hh.out with h | h
        · subst h
          have : s.data.toList = [] := nil_t (by omega)
          show _ = _
          rw [this]; rfl
        · exact wlen_stop h (countL_out (by omega) hc.out)
      go_wp2
      go_ret
      exact ⟨ret_int (by rw [HD.out]), rfl⟩
end Go.Proofs.Ytfilmombflohpaa
