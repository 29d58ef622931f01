/- The law on tokens. -/
import Derived.Test.YtfilmombflohpaaT1
import Derived.Test.YtfilmombflohpaaL16
set_option linter.unusedSimpArgs false
set_option linter.unusedVariables false
namespace Go.Proofs.Ytfilmombflohpaa
open Go.RowKit Go.ChangeMaps Go.WideMaps Go.Shelf
set_option maxRecDepth 100000

set_option maxHeartbeats 8000000 in
theorem tokens_same (s : ByteArray) (w : World) (hm : ML w) (hl : (resT s).1.length ≤ 20001) (hc : ¬ (4000 < s.size ∧ s.size ≠ 65537)) (hsm : s.size ≤ maxLen)
    (h1 : ∀ w, Calls Try.prog 7 #[.string s] w (ResPost 51 s w))
    (h2 : ∀ w, ML w → Calls Try.prog 8 #[.string s] w (ResPost 47 s w)) :
    Calls Try.prog 3 #[.string s] w fun e w' => e = .returned (.bool true) ∧ Below w.heap.size w w' := by
  unfold ResPost at h1 h2
  obtain ⟨⟨xs, a, b⟩, hr⟩ : ∃ r, resT s = r := ⟨_, rfl⟩
  rw [hr] at h1 h2 hl
  dsimp only at h1 h2 hl
  have H1 := Lib.hid h1
  have H2 := Lib.hid h2
  have HM := Lib.hid hm
  clear h1 h2 hr hm
  unfold maxLen at hsm
  have hs1 : s.size ≤ 4000 ∨ (4000 < s.size ∧ ((s.size : Int) != 65537) = false) := by
    by_cases h : 4000 < s.size
    · refine .inr ⟨h, ?_⟩
      have : s.size = 65537 := by
        by_cases h' : s.size = 65537
        · exact h'
        · exact absurd ⟨h, h'⟩ hc
      rw [this]; rfl
    · exact .inl (by omega)
  clear hc
  rcases hs1 with hs1 | ⟨hs1, hs2⟩
  all_goals
    go_enter Try.func3, Try.ntmps3
    go_wp2_with fail
    refine (H1.out _).mono ?_
    rintro e w1 ⟨v, rfl, hr1, hb1⟩
    have HR1 := Lib.hid hr1
    have HB1 := Lib.hid hb1
    have HM1 := Lib.hid (HM.out.below hb1 HM.out.lt)
    clear hr1 hb1
    go_wp2_with fail
    refine (H2.out _ HM1.out).mono ?_
    rintro e w2 ⟨v', rfl, hr2, hb2⟩
    have HR2 := Lib.hid hr2
    have HR12 := Lib.hid (ownsRow_below HR1.out hb2)
    have HB2 := Lib.hid (HB1.out.trans (hb2.mono HB1.out.size))
    have HM2 := Lib.hid (HM1.out.below hb2 HM1.out.lt)
    clear hr2 hb2
    go_wp2_with fail
    refine (ours_any xs _ _ _ hl HR2.out).mono ?_
    rintro e w3 ⟨v3, rfl, hr3, hb3⟩
    have HR3 := Lib.hid (TokRow.of hr3)
    have HR13 := Lib.hid (TokRow.of (ownsRow_below HR12.out hb3))
    have HB3 := Lib.hid (HB2.out.trans (hb3.mono HB2.out.size))
    have HM3 := Lib.hid (HM2.out.below hb3 HM2.out.lt)
    clear hr3 hb3
    go_wp2_with fail
    refine (sameTokens_any xs _ _ _ hl HR3.out HR13.out).mono ?_
    rintro e w4 ⟨rfl, n4, hw4⟩
    have HB4 : Hid (Below w.heap.size w w4) := hw4 ▸ below_drewN HB3.out n4
    have HM4 : Hid (ML w4) := hw4 ▸ HM3.out.below (below_drewN (Below.refl _ _) n4) HM3.out.lt
    clear hw4
    go_wp2_with fail
    refine (strs_row keywords_any _).mono ?_
    rintro e w5 ⟨rfl, hrow5, hb5, hz5⟩
    have HW5 := Lib.hid hrow5
    have HB5 := Lib.hid (HB4.out.trans (hb5.mono HB4.out.size))
    have HM5 := Lib.hid (HM4.out.below hb5 HM4.out.lt)
    clear hrow5 hb5
    go_wp2_with fail
    refine (r3Keywords_any _).mono ?_
    rintro e w6 ⟨rfl, hrow6, hb6, hz6⟩
    have HW6 := Lib.hid hrow6
    have HW56 := Lib.hid (HW5.out.below hb6 hz5)
    have HB6 := Lib.hid (HB5.out.trans (hb6.mono HB5.out.size))
    have HM6 := Lib.hid (HM5.out.below hb6 HM5.out.lt)
    clear hrow6 hb6
    go_wp2_with fail
    refine (sameStrings_any kwL _ _ _ _ (by decide) rfl HW56.out HW6.out).mono ?_
    rintro e w7 ⟨rfl, n7, hw7⟩
    have HB7 : Hid (Below w.heap.size w w7) := hw7 ▸ below_drewN HB6.out n7
    have HM7 : Hid (ML w7) := hw7 ▸ HM6.out.below (below_drewN (Below.refl _ _) n7) HM6.out.lt
    clear hw7
    go_wp2_with fail
    refine (strs_row signs_any _).mono ?_
    rintro e w8 ⟨rfl, hrow8, hb8, hz8⟩
    have HW8 := Lib.hid hrow8
    have HB8 := Lib.hid (HB7.out.trans (hb8.mono HB7.out.size))
    have HM8 := Lib.hid (HM7.out.below hb8 HM7.out.lt)
    clear hrow8 hb8
    go_wp2_with fail
    refine (strs_row rSigns_any _).mono ?_
    rintro e w9 ⟨rfl, hrow9, hb9, hz9⟩
    have HW9 := Lib.hid hrow9
    have HW89 := Lib.hid (HW8.out.below hb9 hz8)
    have HB9 := Lib.hid (HB8.out.trans (hb9.mono HB8.out.size))
    have HM9 := Lib.hid (HM8.out.below hb9 HM8.out.lt)
    clear hrow9 hb9
    go_wp2_with fail
    refine (sameStrings_any sgL _ _ _ _ (by decide) rfl HW89.out HW9.out).mono ?_
    rintro e w10 ⟨rfl, n10, hw10⟩
    have HB10 : Hid (Below w.heap.size w w10) := hw10 ▸ below_drewN HB9.out n10
    have HM10 : Hid (ML w10) := hw10 ▸ HM9.out.below (below_drewN (Below.refl _ _) n10) HM9.out.lt
    clear hw10
    go_wp2_with fail
    refine (awake_any _ HM10.out).mono ?_
    rintro e w11 ⟨rfl, hb11⟩
    have HB11 := Lib.hid (HB10.out.trans (hb11.mono HB10.out.size))
    clear hb11
    go_wp2_with fail
    go_ret
    exact ⟨rfl, HB11.out⟩

set_option maxHeartbeats 1000000 in
theorem tokens_law (s : ByteArray) (w : World) (hm : ML w) (hsm : s.size ≤ maxLen) :
    Calls Try.prog 3 #[.string s] w fun e w' => e = .returned (.bool true) ∧ Below w.heap.size w w' := by
  by_cases hc : 4000 < s.size ∧ s.size ≠ 65537
  · have HA := Lib.hid (awake_any w hm)
    have h1 := hc.1
    have h2 : ((s.size : Int) != 65537) = true := by
      have := hc.2
      simp only [bne_iff_ne, ne_eq]
      omega
    unfold maxLen at hsm
    clear hc
    go_enter Try.func3, Try.ntmps3
    go_wp2_with (go_at_call 6; refine HA.out.mono ?_; rintro e w1 ⟨rfl, hb1⟩)
    all_goals go_ret
    all_goals exact ⟨rfl, hb1⟩
  · by_cases h4 : s.size ≤ 4000
    · exact tokens_same s w hm (resT_len (by omega)) hc hsm (fun w => rTokens_res s w (by omega)) (fun w hw => tokens_res spans1 s w hw (by omega))
    · have h5 : 65536 < s.size := by omega
      exact tokens_same s w hm (by rw [resT_long h5]; simp) hc hsm (fun w => rTokens_long s w h5 hsm) (fun w _ => tokens_long s w h5 hsm)
end Go.Proofs.Ytfilmombflohpaa
