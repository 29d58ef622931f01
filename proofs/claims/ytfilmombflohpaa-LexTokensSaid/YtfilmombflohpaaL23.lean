/- The reference's names: what the package's are. -/
import Derived.Test.YtfilmombflohpaaL22
set_option linter.unusedSimpArgs false
set_option linter.unusedVariables false
namespace Go.Proofs.Ytfilmombflohpaa
open Go.RowKit Go.ChangeMaps Go.WideMaps
set_option maxRecDepth 100000

theorem isNameL_split (s : ByteArray) : isNameL s.data.toList = (decide (s.size ≤ 24) && headL s.data.toList && !(inK kwL s.data.toList || isWidthL s.data.toList) && partsL s.data.toList) := by
  unfold isNameL isWordL
  rw [← Lib.size_eq]
  cases decide (s.size ≤ 24) <;> cases headL s.data.toList <;> cases partsL s.data.toList <;> cases isWidthL s.data.toList <;> cases inK kwL s.data.toList <;> rfl

theorem parts_no {s : ByteArray} {k : Nat} (h : k < s.size) (hp : isPartI (s[k].toNat : Int) = false) (e : partsL s.data.toList = partsL (s.data.toList.drop k)) : partsL s.data.toList = false := by
  rw [e, partsL_step h, hp]; rfl
theorem parts_yes {s : ByteArray} {k : Nat} (h : k < s.size) (hp : isPartI (s[k].toNat : Int) = true) (e : partsL s.data.toList = partsL (s.data.toList.drop k)) : partsL s.data.toList = partsL (s.data.toList.drop (k + 1)) := by
  rw [e, partsL_step h, hp]; rfl
theorem parts_end {s : ByteArray} {k : Nat} (h : s.size ≤ k) (e : partsL s.data.toList = partsL (s.data.toList.drop k)) : partsL s.data.toList = true := by
  rw [e, List.drop_eq_nil_of_le (by simpa using h)]; rfl
theorem headL_cons {s : ByteArray} (h : 0 < s.size) : headL s.data.toList = isLetterI (s[0].toNat : Int) := by
  rw [head_cons h]; rfl

set_option maxHeartbeats 2000000 in
theorem rName_any (s : ByteArray) (w : World) (hs : s.size ≤ 65536) :
    Calls Try.prog 37 #[.string s] w fun e w' => e = .returned (.bool (isNameL s.data.toList)) ∧ Below w.heap.size w w' := by
  have HN := Lib.hid (isNameL_split s)
  by_cases hz : 0 < s.size
  · have he := empty_f hz
    rw [headL_cons hz] at HN
    have H1 := fun w => Lib.hid (rLetter_any (s[0].toNat : Int) w)
    have H2 := fun w => Lib.hid (rKeyword_any s w hs)
    obtain ⟨h, hh⟩ : ∃ b, isLetterI (s[0].toNat : Int) = b := ⟨_, rfl⟩
    obtain ⟨q, hq⟩ : ∃ b, (inK kwL s.data.toList || isWidthL s.data.toList) = b := ⟨_, rfl⟩
    rw [hh] at HN H1
    rw [hq] at HN H2
    clear hh hq
    by_cases h24 : s.size ≤ 24
    · rw [decide_eq_true h24] at HN
      cases h
      · go_enter Try.func37, Try.ntmps37
        go_wp2_with (first | (go_at_call 64; refine (H1 _).out.mono ?_; rintro e w' ⟨rfl, rfl⟩) | (go_at_call 65; refine (H2 _).out.mono ?_; rintro e w1 ⟨rfl, hb⟩))
        all_goals go_ret
        all_goals exact ⟨ret_bool (by rw [HN.out]; rfl), Below.refl _ _⟩
      · cases q
        · go_enter Try.func37, Try.ntmps37
          go_wp2_with (first | (go_at_call 64; refine (H1 _).out.mono ?_; rintro e w' ⟨rfl, rfl⟩) | (go_at_call 65; refine (H2 _).out.mono ?_; rintro e w1 ⟨rfl, hb⟩))
          go_loop [3] (fun n => ∃ k : Nat, k ≤ s.size ∧ n = .int .i64 k ∧ Hid (partsL s.data.toList = partsL (s.data.toList.drop k))) (fun n => s.size - (intOf n).toNat)
          case atStart => exact ⟨0, Nat.zero_le _, rfl, show _ = _ by rw [List.drop_zero]⟩
          case round =>
            obtain ⟨k, hk, rfl, HK⟩ := hrel
            by_cases hlt : k < s.size
            · have HY := fun h => Lib.hid (parts_yes hlt h HK.out)
              have HF := fun h => Lib.hid (parts_no hlt h HK.out)
              by_cases hc : (s[k].toNat : Int) = 95
              · have HD := HY (by rw [hc]; rfl)
                have H3 := fun w => Lib.hid (rLetter_any 95 w)
                have H4 := fun w => Lib.hid (rDigit_any 95 w)
                rw [show isLetterI 95 = false from rfl] at H3
                rw [show isDigitI 95 = false from rfl] at H4
                clear HY HF H1 H2
                go_wp2_with (first | (go_at_call 64; refine (H3 _).out.mono ?_; rintro e w' ⟨rfl, rfl⟩) | (go_at_call 51; refine (H4 _).out.mono ?_; rintro e w' ⟨rfl, rfl⟩))
                all_goals go_round
                all_goals first | exact ⟨k + 1, hlt, by go_num, HD⟩ | (simp [intOf]; omega)
              · have H3 := fun w => Lib.hid (rLetter_any (s[k].toNat : Int) w)
                have H4 := fun w => Lib.hid (rDigit_any (s[k].toNat : Int) w)
                unfold isPartI at HY HF
                obtain ⟨c1, hc1⟩ : ∃ b, isLetterI (s[k].toNat : Int) = b := ⟨_, rfl⟩
                obtain ⟨c2, hc2⟩ : ∃ b, isDigitI (s[k].toNat : Int) = b := ⟨_, rfl⟩
                rw [hc1] at H3 HY HF
                rw [hc2] at H4 HY HF
                clear hc1 hc2 H1 H2
                cases c1
                · cases c2
                  · have HD := HF (by simpa using hc)
                    clear HY HF
                    go_wp2_with (first | (go_at_call 64; refine (H3 _).out.mono ?_; rintro e w' ⟨rfl, rfl⟩) | (go_at_call 51; refine (H4 _).out.mono ?_; rintro e w' ⟨rfl, rfl⟩))
                    all_goals go_ret
                    all_goals exact ⟨ret_bool (by rw [HN.out, HD.out, Bool.and_false]), hb⟩
                  · have HD := HY (by rfl)
                    clear HY HF
                    go_wp2_with (first | (go_at_call 64; refine (H3 _).out.mono ?_; rintro e w' ⟨rfl, rfl⟩) | (go_at_call 51; refine (H4 _).out.mono ?_; rintro e w' ⟨rfl, rfl⟩))
                    all_goals go_round
                    all_goals first | exact ⟨k + 1, hlt, by go_num, HD⟩ | (simp [intOf]; omega)
                · have HD := HY (by rfl)
                  clear HY HF
                  go_wp2_with (first | (go_at_call 64; refine (H3 _).out.mono ?_; rintro e w' ⟨rfl, rfl⟩) | (go_at_call 51; refine (H4 _).out.mono ?_; rintro e w' ⟨rfl, rfl⟩))
                  all_goals go_round
                  all_goals first | exact ⟨k + 1, hlt, by go_num, HD⟩ | (simp [intOf]; omega)
            · have HD := Lib.hid (parts_end (by omega) HK.out)
              go_wp2
              go_ret
              exact ⟨ret_bool (by rw [HN.out, HD.out]; rfl), hb⟩
        · go_enter Try.func37, Try.ntmps37
          go_wp2_with (first | (go_at_call 64; refine (H1 _).out.mono ?_; rintro e w' ⟨rfl, rfl⟩) | (go_at_call 65; refine (H2 _).out.mono ?_; rintro e w1 ⟨rfl, hb⟩))
          all_goals go_ret
          all_goals exact ⟨ret_bool (by rw [HN.out]; rfl), by assumption⟩
    · rw [decide_eq_false h24] at HN
      go_enter Try.func37, Try.ntmps37
      go_wp2
      all_goals go_ret
      all_goals exact ⟨ret_bool (by rw [HN.out]; rfl), Below.refl _ _⟩
  · have he := empty_t hz
    rw [nil_t hz] at HN
    go_enter Try.func37, Try.ntmps37
    go_wp2
    all_goals go_ret
    all_goals exact ⟨ret_bool (by rw [nil_t hz, HN.out]; simp [headL]), Below.refl _ _⟩

set_option maxHeartbeats 1000000 in
theorem rName3_any (s : ByteArray) (w : World) (hs : s.size ≤ 65536) :
    Calls Try.prog 19 #[.string s] w fun e w' => e = .returned (.bool (isNameL s.data.toList)) ∧ Below w.heap.size w w' := by
  go_enter Try.func19, Try.ntmps19
  go_wp2_with (go_at_call 37; refine (rName_any _ _ hs).mono ?_; rintro e w1 ⟨rfl, hb⟩)
  go_ret
  exact ⟨rfl, hb⟩
end Go.Proofs.Ytfilmombflohpaa
