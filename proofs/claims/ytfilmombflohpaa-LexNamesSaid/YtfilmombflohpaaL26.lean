/- Global names and splits, on both sides: the same. -/
import Derived.Test.YtfilmombflohpaaL25
set_option linter.unusedSimpArgs false
set_option linter.unusedVariables false
namespace Go.Proofs.Ytfilmombflohpaa
open Go.RowKit Go.ChangeMaps Go.WideMaps
set_option maxRecDepth 100000

def cutF (l : List UInt8) : Bool := (Lib.cut l [58, 58]).2.2
def isGlobalL (l : List UInt8) : Bool := if cutF l = true then isUpperL (spA l) && isNameL (spA l) && isNameL (spB l) else isNameL l

theorem spB_lt (l : List UInt8) : decide ((spB l).length < l.length) = cutF l := by
  cases h : cutF l
  · have h1 : spB l = l := by unfold spB; rw [if_neg]; unfold cutF at h; rw [h]; simp
    rw [h1]; simp
  · unfold cutF at h
    have h2 := lib_cut_found h
    have h3 : spB l = (Lib.cut l [58, 58]).2.1 := by unfold spB; rw [if_pos h]
    rw [h3]
    have h4 : (Lib.cut l [58, 58]).2.1.length + 2 ≤ l.length := by
      unfold Lib.cut at h ⊢
      split at h
      · rename_i hi
        rw [if_pos hi]
        unfold Lib.cut at h2
        rw [if_pos hi] at h2
        simp at h2 ⊢
        omega
      · simp at h
    simp
    omega

theorem name_case (l : List UInt8) : (rUpperL l || rLowerL l) = isNameL l := by
  unfold rUpperL rLowerL
  cases h : isNameL l
  · rfl
  · match l, h with
    | [], h => simp [isNameL, isWordL, headL] at h
    | c :: r, h =>
      have hl : isLetterI (c.toNat : Int) = true := by
        unfold isNameL isWordL at h
        simp only [Bool.and_eq_true] at h
        exact h.1.1.2.1
      simp [isLetterI] at hl
      simp [isUpperL, headLow]
      omega

theorem global_eq (l : List UInt8) : (rGlobalL l true || rGlobalL l false) = isGlobalL l := by
  unfold rGlobalL isGlobalL
  rw [spB_lt]
  cases h : cutF l
  · have h1 : spB l = l := by unfold spB; rw [if_neg]; unfold cutF at h; rw [h]; simp
    rw [h1]
    simpa using name_case l
  · have hc := name_case (spB l)
    unfold rUpperL at hc ⊢
    generalize isNameL (spB l) = n at hc ⊢
    generalize isUpperL (spB l) = u at hc ⊢
    generalize rLowerL (spB l) = v at hc ⊢
    generalize isNameL (spA l) = x
    generalize isUpperL (spA l) = y
    revert hc
    cases n <;> cases u <;> cases v <;> cases x <;> cases y <;> simp

set_option maxHeartbeats 1000000 in
theorem rGlobal3_any (s : ByteArray) (w : World) (hs : s.size ≤ 65536) :
    Calls Try.prog 21 #[.string s] w fun e w' => e = .returned (.bool (isGlobalL s.data.toList)) ∧ Below w.heap.size w w' := by
  rw [← global_eq]
  have H1 := fun w => Lib.hid (rGlobal_any s true w hs)
  have H2 := fun w => Lib.hid (rGlobal_any s false w hs)
  obtain ⟨a, ha⟩ : ∃ a, rGlobalL s.data.toList true = a := ⟨_, rfl⟩
  obtain ⟨b, hb⟩ : ∃ b, rGlobalL s.data.toList false = b := ⟨_, rfl⟩
  rw [ha] at H1 ⊢
  rw [hb] at H2 ⊢
  clear ha hb
  have hb0 := Below.refl w.heap.size w
  go_enter Try.func21, Try.ntmps21
  go_wp2_with (go_at_call 39; (first | (with_reducible refine (fromB (H1 _).out (by assumption)).mono ?_) | (with_reducible refine (fromB (H2 _).out (by assumption)).mono ?_)); rintro e w3 ⟨rfl, hb3⟩)
  all_goals go_ret
  all_goals exact ⟨ret_bool (by simp_all), by assumption⟩

theorem mk_toList (s : ByteArray) : mk s.data.toList = s := by cases s; simp

set_option maxHeartbeats 2000000 in
theorem isGlobal_any (s : ByteArray) (w : World) (hs : s.size ≤ 65536) (hm : ML w) :
    Calls Try.prog 20 #[.string s] w fun e w' => e = .returned (.bool (isGlobalL s.data.toList)) ∧ Below w.heap.size w w' := by
  have ha := spA_len s.data.toList
  have hb := spB_len s.data.toList
  rw [← Lib.size_eq] at ha hb
  have H1 := Lib.hid (cutB_any s w hs hm)
  cases hf : cutF s.data.toList
  · have HN : Hid (isGlobalL s.data.toList = isNameL s.data.toList) := by show _ = _; unfold isGlobalL; rw [hf]; simp
    have H2 := fun w => Lib.hid (isName_any s w hs)
    rw [show (Lib.cut s.data.toList [58, 58]).2.2 = false from hf] at H1
    obtain ⟨x, hx⟩ : ∃ x, mk (Lib.cut s.data.toList [58, 58]).1 = x := ⟨_, rfl⟩
    obtain ⟨y, hy⟩ : ∃ y, mk (Lib.cut s.data.toList [58, 58]).2.1 = y := ⟨_, rfl⟩
    obtain ⟨n, hn⟩ : ∃ n, isNameL s.data.toList = n := ⟨_, rfl⟩
    rw [hx, hy] at H1
    rw [hn] at HN H2
    clear hx hy hn hf
    have hb0 := Below.refl w.heap.size w
    go_enter Try.func20, Try.ntmps20
    go_wp2_with (first | (go_at_call 33; refine H1.out.mono ?_; rintro e w1 ⟨rfl, hb1⟩) | (go_at_call 18; refine (fromB (H2 _).out (by assumption)).mono ?_; rintro e w2 ⟨rfl, hb2⟩))
    all_goals go_ret
    all_goals exact ⟨ret_bool (by rw [HN.out]), by assumption⟩
  · have hA : spA s.data.toList = (Lib.cut s.data.toList [58, 58]).1 := if_pos hf
    have hB : spB s.data.toList = (Lib.cut s.data.toList [58, 58]).2.1 := if_pos hf
    have HN : Hid (isGlobalL s.data.toList = (isUpperL (spA s.data.toList) && isNameL (spA s.data.toList) && isNameL (spB s.data.toList))) := by show _ = _; unfold isGlobalL; rw [hf]; simp
    rw [show (Lib.cut s.data.toList [58, 58]).2.2 = true from hf, ← hA, ← hB] at H1
    have H2 := fun w => Lib.hid (isUpper_any (mk (spA s.data.toList)) w (by rw [size_of_list]; unfold maxLen; omega))
    have H3 := fun w => Lib.hid (isName_any (mk (spA s.data.toList)) w (by rw [size_of_list]; omega))
    have H4 := fun w => Lib.hid (isName_any (mk (spB s.data.toList)) w (by rw [size_of_list]; omega))
    rw [show (mk (spA s.data.toList)).data.toList = spA s.data.toList from rfl] at H2 H3
    rw [show (mk (spB s.data.toList)).data.toList = spB s.data.toList from rfl] at H4
    obtain ⟨u, hu⟩ : ∃ u, isUpperL (spA s.data.toList) = u := ⟨_, rfl⟩
    obtain ⟨n, hn⟩ : ∃ n, isNameL (spA s.data.toList) = n := ⟨_, rfl⟩
    obtain ⟨m, hm'⟩ : ∃ m, isNameL (spB s.data.toList) = m := ⟨_, rfl⟩
    obtain ⟨x, hx⟩ : ∃ x, mk (spA s.data.toList) = x := ⟨_, rfl⟩
    obtain ⟨y, hy⟩ : ∃ y, mk (spB s.data.toList) = y := ⟨_, rfl⟩
    rw [hu] at HN H2
    rw [hn] at HN H3
    rw [hm'] at HN H4
    rw [hx] at H1 H2 H3
    rw [hy] at H1 H4
    clear hA hB hu hn hm' hx hy hf ha hb
    have hb0 := Below.refl w.heap.size w
    go_enter Try.func20, Try.ntmps20
    go_wp2_with (first | (go_at_call 33; refine H1.out.mono ?_; rintro e w1 ⟨rfl, hb1⟩) | (go_at_call 38; refine (H2 _).out.mono ?_; rintro e w2 ⟨rfl, rfl⟩) | (go_at_call 18; (first | (with_reducible refine (fromB (H3 _).out (by assumption)).mono ?_) | (with_reducible refine (fromB (H4 _).out (by assumption)).mono ?_)); rintro e w3 ⟨rfl, hb3⟩))
    all_goals go_ret
    all_goals exact ⟨ret_bool (by rw [HN.out]; clear H1 H2 H3 H4 HN; simp_all), by assumption⟩

/-- What Split says: the module, the name, 0; or 6. -/
def splitR (l : List UInt8) : List UInt8 × List UInt8 × Int := if isGlobalL l = true then (spA l, spB l, 0) else ([], [], 6)
abbrev splitV (l : List UInt8) : Value := .tuple #[.string (mk (splitR l).1), .string (mk (splitR l).2.1), .int .i64 (splitR l).2.2]

set_option maxHeartbeats 1000000 in
theorem rSplit3_any (s : ByteArray) (w : World) (hs : s.size ≤ 65536) :
    Calls Try.prog 16 #[.string s] w fun e w' => e = .returned (splitV s.data.toList) ∧ Below w.heap.size w w' := by
  have H1 := fun w => Lib.hid (rGlobal3_any s w hs)
  have H2 := fun w => Lib.hid (splitB_any s w hs)
  have HN : Hid (splitR s.data.toList = if isGlobalL s.data.toList = true then (spA s.data.toList, spB s.data.toList, 0) else ([], [], 6)) := rfl
  cases hg : isGlobalL s.data.toList
  · rw [hg] at H1 HN
    have HN' : Hid (splitR s.data.toList = ([], [], 6)) := HN.out.trans (by simp)
    clear hg HN
    have hb0 := Below.refl w.heap.size w
    unfold splitV
    rw [HN'.out]
    go_enter Try.func16, Try.ntmps16
    go_wp2_with (go_at_call 21; refine (H1 _).out.mono ?_; rintro e w1 ⟨rfl, hb1⟩)
    all_goals go_ret3
    all_goals exact ⟨rfl, by assumption⟩
  · rw [hg] at H1 HN
    have HN' : Hid (splitR s.data.toList = (spA s.data.toList, spB s.data.toList, 0)) := HN.out.trans (by simp)
    unfold splitV
    rw [HN'.out]
    obtain ⟨x, hx⟩ : ∃ x, mk (spA s.data.toList) = x := ⟨_, rfl⟩
    obtain ⟨y, hy⟩ : ∃ y, mk (spB s.data.toList) = y := ⟨_, rfl⟩
    dsimp only
    rw [hx, hy] at H2 ⊢
    clear hg HN HN' hx hy
    have hb0 := Below.refl w.heap.size w
    go_enter Try.func16, Try.ntmps16
    go_wp2_with (first | (go_at_call 21; refine (H1 _).out.mono ?_; rintro e w1 ⟨rfl, hb1⟩) | (go_at_call 32; refine (fromB (H2 _).out (by assumption)).mono ?_; rintro e w2 ⟨rfl, hb2⟩))
    all_goals go_ret3
    all_goals exact ⟨rfl, by assumption⟩

set_option maxHeartbeats 1000000 in
theorem split_any (s : ByteArray) (w : World) (hs : s.size ≤ 65536) (hm : ML w) :
    Calls Try.prog 17 #[.string s] w fun e w' => e = .returned (splitV s.data.toList) ∧ Below w.heap.size w w' := by
  have H1 := Lib.hid (isGlobal_any s w hs hm)
  have H2 := fun (w' : World) (hb : Below w.heap.size w w') => Lib.hid (cutB_any s w' hs (hm.below hb hm.lt))
  have HN : Hid (splitR s.data.toList = if isGlobalL s.data.toList = true then (spA s.data.toList, spB s.data.toList, 0) else ([], [], 6)) := rfl
  have hb0 := Below.refl w.heap.size w
  cases hg : isGlobalL s.data.toList
  · rw [hg] at H1 HN
    have HN' : Hid (splitR s.data.toList = ([], [], 6)) := HN.out.trans (by simp)
    clear hg HN
    unfold splitV
    rw [HN'.out]
    go_enter Try.func17, Try.ntmps17
    go_wp2_with (go_at_call 20; refine H1.out.mono ?_; rintro e w1 ⟨rfl, hb1⟩)
    all_goals go_ret3
    all_goals exact ⟨rfl, by assumption⟩
  · rw [hg] at H1 HN
    have HN' : Hid (splitR s.data.toList = (spA s.data.toList, spB s.data.toList, 0)) := HN.out.trans (by simp)
    unfold splitV
    rw [HN'.out]
    cases hf : cutF s.data.toList
    · have hA : spA s.data.toList = [] := if_neg (by unfold cutF at hf; rw [hf]; simp)
      have hB : spB s.data.toList = s.data.toList := if_neg (by unfold cutF at hf; rw [hf]; simp)
      rw [hA, hB]
      rw [show (Lib.cut s.data.toList [58, 58]).2.2 = false from hf] at H2
      obtain ⟨x, hx⟩ : ∃ x, mk (Lib.cut s.data.toList [58, 58]).1 = x := ⟨_, rfl⟩
      obtain ⟨y, hy⟩ : ∃ y, mk (Lib.cut s.data.toList [58, 58]).2.1 = y := ⟨_, rfl⟩
      dsimp only
      rw [hx, hy] at H2
      rw [mk_toList]
      clear hg HN HN' hx hy hf hA hB
      go_enter Try.func17, Try.ntmps17
      go_wp2_with (first | (go_at_call 20; refine H1.out.mono ?_; rintro e w1 ⟨rfl, hb1⟩) | (go_at_call 33; refine (fromB (H2 _ (by assumption)).out (by assumption)).mono ?_; rintro e w2 ⟨rfl, hb2⟩))
      all_goals go_ret3
      all_goals exact ⟨rfl, by assumption⟩
    · have hA : spA s.data.toList = (Lib.cut s.data.toList [58, 58]).1 := if_pos hf
      have hB : spB s.data.toList = (Lib.cut s.data.toList [58, 58]).2.1 := if_pos hf
      rw [show (Lib.cut s.data.toList [58, 58]).2.2 = true from hf, ← hA, ← hB] at H2
      obtain ⟨x, hx⟩ : ∃ x, mk (spA s.data.toList) = x := ⟨_, rfl⟩
      obtain ⟨y, hy⟩ : ∃ y, mk (spB s.data.toList) = y := ⟨_, rfl⟩
      dsimp only
      rw [hx, hy] at H2 ⊢
      clear hg HN HN' hx hy hf hA hB
      go_enter Try.func17, Try.ntmps17
      go_wp2_with (first | (go_at_call 20; refine H1.out.mono ?_; rintro e w1 ⟨rfl, hb1⟩) | (go_at_call 33; refine (fromB (H2 _ (by assumption)).out (by assumption)).mono ?_; rintro e w2 ⟨rfl, hb2⟩))
      all_goals go_ret3
      all_goals exact ⟨rfl, by assumption⟩
end Go.Proofs.Ytfilmombflohpaa
