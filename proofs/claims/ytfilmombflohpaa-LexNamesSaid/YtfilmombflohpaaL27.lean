/- The law on names. -/
import Derived.Test.YtfilmombflohpaaL26
import Derived.Test.YtfilmombflohpaaL16
set_option linter.unusedSimpArgs false
set_option linter.unusedVariables false
namespace Go.Proofs.Ytfilmombflohpaa
open Go.RowKit Go.ChangeMaps Go.WideMaps
set_option maxRecDepth 100000

theorem arr0 (s t u : ByteArray) (W : World) : (Instr.index 36 (.agg #[.string s, .string t, .string u]) (.int .i64 0)).run Try.prog W = .ok (.string s) W := by kernel_rfl
theorem arr1 (s t u : ByteArray) (W : World) : (Instr.index 36 (.agg #[.string s, .string t, .string u]) (.int .i64 1)).run Try.prog W = .ok (.string t) W := by kernel_rfl
theorem arr2 (s t u : ByteArray) (W : World) : (Instr.index 36 (.agg #[.string s, .string t, .string u]) (.int .i64 2)).run Try.prog W = .ok (.string u) W := by kernel_rfl

set_option maxHeartbeats 4000000 in
theorem names_law (s t : ByteArray) (w : World) (hm : ML w) (hsm : s.size ≤ maxLen) (htm : t.size ≤ maxLen) :
    Calls Try.prog 4 #[.string s, .string t] w fun e w' => e = .returned (.bool true) ∧ Below w.heap.size w w' := by
  unfold maxLen at hsm htm
  have hb0 := Below.refl w.heap.size w
  by_cases hbig : 200 < s.size ∨ 200 < t.size
  · have HA := Lib.hid (awake_any w hm)
    by_cases h1 : 200 < s.size
    · clear hbig
      go_enter Try.func4, Try.ntmps4
      go_wp2_with (go_at_call 6; refine HA.out.mono ?_; rintro e w1 ⟨rfl, hb1⟩)
      all_goals go_ret
      all_goals exact ⟨rfl, by assumption⟩
    · have h2 : 200 < t.size := by omega
      clear hbig
      go_enter Try.func4, Try.ntmps4
      go_wp2_with (go_at_call 6; refine HA.out.mono ?_; rintro e w1 ⟨rfl, hb1⟩)
      all_goals go_ret
      all_goals exact ⟨rfl, by assumption⟩
  · have h1 : s.size ≤ 200 := by omega
    have h2 : t.size ≤ 200 := by omega
    clear hbig
    go_enter Try.func4, Try.ntmps4
    go_wp2
    have hu : (s ++ (⟨#[58, 58]⟩ : ByteArray) ++ t).size ≤ 65536 := by
      rw [ByteArray.size_append, ByteArray.size_append, show (⟨#[58, 58]⟩ : ByteArray).size = 2 from rfl]; omega
    obtain ⟨u, huu⟩ : ∃ u, s ++ (⟨#[58, 58]⟩ : ByteArray) ++ t = u := ⟨_, rfl⟩
    rw [huu] at hu ⊢
    clear huu
    have h1' : s.size ≤ 65536 := by omega
    have h2' : t.size ≤ 65536 := by omega
    have i0 := fun W => arr0 s t u W
    have i1 := fun W => arr1 s t u W
    have i2 := fun W => arr2 s t u W
    go_loopw [6, 7, 8, 9, 10, 11, 12, 29] (fun _ _ _ _ _ _ _ n wr => (n = .int .i64 0 ∨ n = .int .i64 1 ∨ n = .int .i64 2 ∨ n = .int .i64 3) ∧ Below w.heap.size w wr) (fun _ _ _ _ _ _ _ n _ => 3 - (intOf n).toNat)
    case atStart => exact ⟨.inl rfl, hb0⟩
    case round =>
      obtain ⟨hk, hb⟩ := hrel
      clear hb0
      rcases hk with rfl | rfl | rfl | rfl
      · have HS3 := fun w => Lib.hid (rSplit3_any s w h1')
        have HS := fun (w' : World) (hb : Below w.heap.size w w') => Lib.hid (split_any s w' h1' (hm.below hb hm.lt))
        have HN := fun w => Lib.hid (isName_any s w h1')
        have HN3 := fun w => Lib.hid (rName3_any s w h1')
        have HG := fun (w' : World) (hb : Below w.heap.size w w') => Lib.hid (isGlobal_any s w' h1' (hm.below hb hm.lt))
        have HG3 := fun w => Lib.hid (rGlobal3_any s w h1')
        dsimp only [splitV] at HS HS3
        obtain ⟨d1, hd1⟩ : ∃ d, mk (splitR s.data.toList).1 = d := ⟨_, rfl⟩
        obtain ⟨d2, hd2⟩ : ∃ d, mk (splitR s.data.toList).2.1 = d := ⟨_, rfl⟩
        obtain ⟨d3, hd3⟩ : ∃ d, (splitR s.data.toList).2.2 = d := ⟨_, rfl⟩
        obtain ⟨n, hn⟩ : ∃ n, isNameL s.data.toList = n := ⟨_, rfl⟩
        obtain ⟨g, hg⟩ : ∃ g, isGlobalL s.data.toList = g := ⟨_, rfl⟩
        rw [hd1, hd2, hd3] at HS HS3
        rw [hn] at HN HN3
        rw [hg] at HG HG3
        clear hd1 hd2 hd3 hn hg
        go_wp2_with (first | (go_at_call 16; refine (fromB (HS3 _).out (by assumption)).mono ?_; rintro e w1 ⟨rfl, hb1⟩) | (go_at_call 17; refine (fromB (HS _ (by assumption)).out (by assumption)).mono ?_; rintro e w2 ⟨rfl, hb2⟩) | (go_at_call 18; refine (fromB (HN _).out (by assumption)).mono ?_; rintro e w3 ⟨rfl, hb3⟩) | (go_at_call 19; refine (fromB (HN3 _).out (by assumption)).mono ?_; rintro e w4 ⟨rfl, hb4⟩) | (go_at_call 20; refine (fromB (HG _ (by assumption)).out (by assumption)).mono ?_; rintro e w5 ⟨rfl, hb5⟩) | (go_at_call 21; refine (fromB (HG3 _).out (by assumption)).mono ?_; rintro e w6 ⟨rfl, hb6⟩))
        all_goals go_roundw
        all_goals first | exact ⟨.inr (.inl rfl), by assumption⟩ | (simp [intOf]; done)
      · have HS3 := fun w => Lib.hid (rSplit3_any t w h2')
        have HS := fun (w' : World) (hb : Below w.heap.size w w') => Lib.hid (split_any t w' h2' (hm.below hb hm.lt))
        have HN := fun w => Lib.hid (isName_any t w h2')
        have HN3 := fun w => Lib.hid (rName3_any t w h2')
        have HG := fun (w' : World) (hb : Below w.heap.size w w') => Lib.hid (isGlobal_any t w' h2' (hm.below hb hm.lt))
        have HG3 := fun w => Lib.hid (rGlobal3_any t w h2')
        dsimp only [splitV] at HS HS3
        obtain ⟨d1, hd1⟩ : ∃ d, mk (splitR t.data.toList).1 = d := ⟨_, rfl⟩
        obtain ⟨d2, hd2⟩ : ∃ d, mk (splitR t.data.toList).2.1 = d := ⟨_, rfl⟩
        obtain ⟨d3, hd3⟩ : ∃ d, (splitR t.data.toList).2.2 = d := ⟨_, rfl⟩
        obtain ⟨n, hn⟩ : ∃ n, isNameL t.data.toList = n := ⟨_, rfl⟩
        obtain ⟨g, hg⟩ : ∃ g, isGlobalL t.data.toList = g := ⟨_, rfl⟩
        rw [hd1, hd2, hd3] at HS HS3
        rw [hn] at HN HN3
        rw [hg] at HG HG3
        clear hd1 hd2 hd3 hn hg
        go_wp2_with (first | (go_at_call 16; refine (fromB (HS3 _).out (by assumption)).mono ?_; rintro e w1 ⟨rfl, hb1⟩) | (go_at_call 17; refine (fromB (HS _ (by assumption)).out (by assumption)).mono ?_; rintro e w2 ⟨rfl, hb2⟩) | (go_at_call 18; refine (fromB (HN _).out (by assumption)).mono ?_; rintro e w3 ⟨rfl, hb3⟩) | (go_at_call 19; refine (fromB (HN3 _).out (by assumption)).mono ?_; rintro e w4 ⟨rfl, hb4⟩) | (go_at_call 20; refine (fromB (HG _ (by assumption)).out (by assumption)).mono ?_; rintro e w5 ⟨rfl, hb5⟩) | (go_at_call 21; refine (fromB (HG3 _).out (by assumption)).mono ?_; rintro e w6 ⟨rfl, hb6⟩))
        all_goals go_roundw
        all_goals first | exact ⟨.inr (.inr (.inl rfl)), by assumption⟩ | (simp [intOf]; done)
      · have HS3 := fun w => Lib.hid (rSplit3_any u w hu)
        have HS := fun (w' : World) (hb : Below w.heap.size w w') => Lib.hid (split_any u w' hu (hm.below hb hm.lt))
        have HN := fun w => Lib.hid (isName_any u w hu)
        have HN3 := fun w => Lib.hid (rName3_any u w hu)
        have HG := fun (w' : World) (hb : Below w.heap.size w w') => Lib.hid (isGlobal_any u w' hu (hm.below hb hm.lt))
        have HG3 := fun w => Lib.hid (rGlobal3_any u w hu)
        dsimp only [splitV] at HS HS3
        obtain ⟨d1, hd1⟩ : ∃ d, mk (splitR u.data.toList).1 = d := ⟨_, rfl⟩
        obtain ⟨d2, hd2⟩ : ∃ d, mk (splitR u.data.toList).2.1 = d := ⟨_, rfl⟩
        obtain ⟨d3, hd3⟩ : ∃ d, (splitR u.data.toList).2.2 = d := ⟨_, rfl⟩
        obtain ⟨n, hn⟩ : ∃ n, isNameL u.data.toList = n := ⟨_, rfl⟩
        obtain ⟨g, hg⟩ : ∃ g, isGlobalL u.data.toList = g := ⟨_, rfl⟩
        rw [hd1, hd2, hd3] at HS HS3
        rw [hn] at HN HN3
        rw [hg] at HG HG3
        clear hd1 hd2 hd3 hn hg
        go_wp2_with (first | (go_at_call 16; refine (fromB (HS3 _).out (by assumption)).mono ?_; rintro e w1 ⟨rfl, hb1⟩) | (go_at_call 17; refine (fromB (HS _ (by assumption)).out (by assumption)).mono ?_; rintro e w2 ⟨rfl, hb2⟩) | (go_at_call 18; refine (fromB (HN _).out (by assumption)).mono ?_; rintro e w3 ⟨rfl, hb3⟩) | (go_at_call 19; refine (fromB (HN3 _).out (by assumption)).mono ?_; rintro e w4 ⟨rfl, hb4⟩) | (go_at_call 20; refine (fromB (HG _ (by assumption)).out (by assumption)).mono ?_; rintro e w5 ⟨rfl, hb5⟩) | (go_at_call 21; refine (fromB (HG3 _).out (by assumption)).mono ?_; rintro e w6 ⟨rfl, hb6⟩))
        all_goals go_roundw
        all_goals first | exact ⟨.inr (.inr (.inr rfl)), by assumption⟩ | (simp [intOf]; done)
      · have HA := Lib.hid (awake_any _ (hm.below hb hm.lt))
        go_wp2_with (go_at_call 6; refine (fromB HA.out (by assumption)).mono ?_; rintro e w1 ⟨rfl, hb1⟩)
        all_goals go_ret
        all_goals exact ⟨rfl, by assumption⟩
end Go.Proofs.Ytfilmombflohpaa
