/- Global names, on both sides: what they are. -/
import Derived.Test.YtfilmombflohpaaL24
set_option linter.unusedSimpArgs false
set_option linter.unusedVariables false
namespace Go.Proofs.Ytfilmombflohpaa
open Go.RowKit Go.ChangeMaps Go.WideMaps
set_option maxRecDepth 100000

theorem fromB {P : Program} {f : Nat} {args : Array Value} {w w0 : World} {r : Ending} (h : Calls P f args w fun e w' => e = r ∧ Below w.heap.size w w') (hb : Below w0.heap.size w0 w) : Calls P f args w fun e w' => e = r ∧ Below w0.heap.size w0 w' :=
  h.mono fun _ _ ⟨he, hw⟩ => ⟨he, hb.trans (hw.mono hb.size)⟩

theorem splitB_any (s : ByteArray) (w : World) (hs : s.size ≤ 65536) :
    Calls Try.prog 32 #[.string s] w fun e w' => e = .returned (.tuple #[.string (mk (spA s.data.toList)), .string (mk (spB s.data.toList))]) ∧ Below w.heap.size w w' :=
  (rSplit_any s w hs).mono fun _ _ ⟨he, n, hn⟩ => ⟨he, by rw [← hn]; exact below_drewN (Below.refl _ _) n⟩
theorem cutB_any (s : ByteArray) (w : World) (hs : s.size ≤ 65536) (hm : ML w) :
    Calls Try.prog 33 #[.string s, .string ⟨#[58, 58]⟩] w fun e w' => e = .returned (.tuple #[.string (mk (Lib.cut s.data.toList [58, 58]).1), .string (mk (Lib.cut s.data.toList [58, 58]).2.1), .bool (Lib.cut s.data.toList [58, 58]).2.2]) ∧ Below w.heap.size w w' :=
  (cut_any s [58, 58] w (by omega) hm).mono fun _ _ ⟨he, n, hn⟩ => ⟨he, by rw [← hn]; exact below_drewN (Below.refl _ _) n⟩

def headLow : List UInt8 → Bool
  | [] => false
  | c :: _ => decide (97 ≤ (c.toNat : Int))
def rUpperL (l : List UInt8) : Bool := isNameL l && isUpperL l
def rLowerL (l : List UInt8) : Bool := isNameL l && headLow l
theorem headLow_cons {s : ByteArray} (h : 0 < s.size) : headLow s.data.toList = decide (97 ≤ (s[0].toNat : Int)) := by
  rw [head_cons h]; rfl
theorem isNameL_pos {s : ByteArray} (h : isNameL s.data.toList = true) : 0 < s.size := by
  rcases Nat.eq_zero_or_pos s.size with h0 | h0
  · rw [nil_t (by omega)] at h
    exact absurd h (by simp [isNameL, isWordL, headL])
  · exact h0

set_option maxHeartbeats 1000000 in
theorem rUpper_any (s : ByteArray) (w : World) (hs : s.size ≤ 65536) :
    Calls Try.prog 67 #[.string s] w fun e w' => e = .returned (.bool (rUpperL s.data.toList)) ∧ Below w.heap.size w w' := by
  have H1 := fun w => Lib.hid (rName_any s w hs)
  have HN : Hid (rUpperL s.data.toList = (isNameL s.data.toList && isUpperL s.data.toList)) := rfl
  by_cases hn : isNameL s.data.toList = true
  · have hz := isNameL_pos hn
    rw [hn] at H1 HN
    rw [isUpperL_cons hz] at HN
    clear hn
    go_enter Try.func67, Try.ntmps67
    go_wp2_with (go_at_call 37; refine (H1 _).out.mono ?_; rintro e w1 ⟨rfl, hb⟩)
    all_goals go_ret
    all_goals exact ⟨ret_bool (by rw [HN.out, Bool.eq_iff_iff]; simp; omega), hb⟩
  · have hn' : isNameL s.data.toList = false := by simpa using hn
    rw [hn'] at H1 HN
    clear hn hn'
    go_enter Try.func67, Try.ntmps67
    go_wp2_with (go_at_call 37; refine (H1 _).out.mono ?_; rintro e w1 ⟨rfl, hb⟩)
    all_goals go_ret
    all_goals exact ⟨ret_bool (by rw [HN.out]; rfl), hb⟩

set_option maxHeartbeats 1000000 in
theorem rLower_any (s : ByteArray) (w : World) (hs : s.size ≤ 65536) :
    Calls Try.prog 68 #[.string s] w fun e w' => e = .returned (.bool (rLowerL s.data.toList)) ∧ Below w.heap.size w w' := by
  have H1 := fun w => Lib.hid (rName_any s w hs)
  have HN : Hid (rLowerL s.data.toList = (isNameL s.data.toList && headLow s.data.toList)) := rfl
  by_cases hn : isNameL s.data.toList = true
  · have hz := isNameL_pos hn
    rw [hn] at H1 HN
    rw [headLow_cons hz] at HN
    clear hn
    go_enter Try.func68, Try.ntmps68
    go_wp2_with (go_at_call 37; refine (H1 _).out.mono ?_; rintro e w1 ⟨rfl, hb⟩)
    all_goals go_ret
    all_goals exact ⟨ret_bool (by rw [HN.out, Bool.eq_iff_iff]; simp), hb⟩
  · have hn' : isNameL s.data.toList = false := by simpa using hn
    rw [hn'] at H1 HN
    clear hn hn'
    go_enter Try.func68, Try.ntmps68
    go_wp2_with (go_at_call 37; refine (H1 _).out.mono ?_; rintro e w1 ⟨rfl, hb⟩)
    all_goals go_ret
    all_goals exact ⟨ret_bool (by rw [HN.out]; rfl), hb⟩

set_option maxHeartbeats 1000000 in
theorem rQualified_any (s : ByteArray) (w : World) (hs : s.size ≤ 65536) :
    Calls Try.prog 66 #[.string s] w fun e w' => e = .returned (.bool (decide ((spB s.data.toList).length < s.size))) ∧ Below w.heap.size w w' := by
  have H1 := fun w => Lib.hid (splitB_any s w hs)
  obtain ⟨a, ha⟩ : ∃ a, mk (spA s.data.toList) = a := ⟨_, rfl⟩
  obtain ⟨b, hb⟩ : ∃ b, mk (spB s.data.toList) = b := ⟨_, rfl⟩
  have hbl : (spB s.data.toList).length = b.size := by rw [← hb, size_of_list]
  rw [hbl]
  rw [ha, hb] at H1
  clear ha hb hbl
  go_enter Try.func66, Try.ntmps66
  go_wp2_with (go_at_call 32; refine (H1 _).out.mono ?_; rintro e w1 ⟨rfl, hb⟩)
  go_ret
  exact ⟨ret_bool (by simp), hb⟩

def rGlobalL (l : List UInt8) (up : Bool) : Bool := if (decide ((spB l).length < l.length) && !rUpperL (spA l)) = true then false else if up = true then rUpperL (spB l) else rLowerL (spB l)

theorem spA_len (l : List UInt8) : (spA l).length ≤ l.length := by
  unfold spA
  split
  · exact lib_cut_le _ _
  · simp
theorem spB_len (l : List UInt8) : (spB l).length ≤ l.length := by
  unfold spB
  split
  · unfold Lib.cut
    split
    · simp
    · simp
  · simp

set_option maxHeartbeats 2000000 in
theorem rGlobal_any (s : ByteArray) (up : Bool) (w : World) (hs : s.size ≤ 65536) :
    Calls Try.prog 39 #[.string s, .bool up] w fun e w' => e = .returned (.bool (rGlobalL s.data.toList up)) ∧ Below w.heap.size w w' := by
  have HN : Hid (rGlobalL s.data.toList up = if (decide ((spB s.data.toList).length < s.size) && !rUpperL (spA s.data.toList)) = true then false else if up = true then rUpperL (spB s.data.toList) else rLowerL (spB s.data.toList)) := by
    show _ = _; unfold rGlobalL; rw [← Lib.size_eq]
  have ha := spA_len s.data.toList
  have hb := spB_len s.data.toList
  rw [← Lib.size_eq] at ha hb
  have H1 := fun w => Lib.hid (splitB_any s w hs)
  have H2 := fun w => Lib.hid (rQualified_any s w hs)
  have H3 := fun w => Lib.hid (rUpper_any (mk (spA s.data.toList)) w (by rw [size_of_list]; omega))
  have H4 := fun w => Lib.hid (rUpper_any (mk (spB s.data.toList)) w (by rw [size_of_list]; omega))
  have H5 := fun w => Lib.hid (rLower_any (mk (spB s.data.toList)) w (by rw [size_of_list]; omega))
  rw [show (mk (spA s.data.toList)).data.toList = spA s.data.toList from rfl] at H3
  rw [show (mk (spB s.data.toList)).data.toList = spB s.data.toList from rfl] at H4 H5
  obtain ⟨q, hq⟩ : ∃ q, decide ((spB s.data.toList).length < s.size) = q := ⟨_, rfl⟩
  obtain ⟨u, hu⟩ : ∃ u, rUpperL (spA s.data.toList) = u := ⟨_, rfl⟩
  obtain ⟨v, hv⟩ : ∃ v, rUpperL (spB s.data.toList) = v := ⟨_, rfl⟩
  obtain ⟨x, hx⟩ : ∃ x, rLowerL (spB s.data.toList) = x := ⟨_, rfl⟩
  rw [hq] at HN H2
  rw [hu] at HN H3
  rw [hv] at HN H4
  rw [hx] at HN H5
  obtain ⟨a, ha'⟩ : ∃ a, mk (spA s.data.toList) = a := ⟨_, rfl⟩
  obtain ⟨b, hb'⟩ : ∃ b, mk (spB s.data.toList) = b := ⟨_, rfl⟩
  rw [ha'] at H1 H3
  rw [hb'] at H1 H4 H5
  clear hq hu hv hx ha hb ha' hb'
  have hb0 := Below.refl w.heap.size w
  go_enter Try.func39, Try.ntmps39
  go_wp2_with (first | (go_at_call 32; refine (fromB (H1 _).out (by assumption)).mono ?_; rintro e w1 ⟨rfl, hb1⟩) | (go_at_call 66; refine (fromB (H2 _).out (by assumption)).mono ?_; rintro e w2 ⟨rfl, hb2⟩) | (go_at_call 67; (first | (with_reducible refine (fromB (H3 _).out (by assumption)).mono ?_) | (with_reducible refine (fromB (H4 _).out (by assumption)).mono ?_)); rintro e w3 ⟨rfl, hb3⟩) | (go_at_call 68; refine (fromB (H5 _).out (by assumption)).mono ?_; rintro e w4 ⟨rfl, hb4⟩))
  all_goals go_ret
  all_goals refine ⟨ret_bool ?_, by assumption⟩
  all_goals rw [HN.out]
  all_goals clear H1 H2 H3 H4 H5 HN
  all_goals simp_all
end Go.Proofs.Ytfilmombflohpaa
