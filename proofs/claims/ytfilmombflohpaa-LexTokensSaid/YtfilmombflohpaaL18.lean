/- IsName of the package; the reference's keywords. -/
import Derived.Test.YtfilmombflohpaaL17
set_option linter.unusedSimpArgs false
set_option linter.unusedVariables false
namespace Go.Proofs.Ytfilmombflohpaa
open Go.RowKit Go.ChangeMaps Go.WideMaps
set_option maxRecDepth 100000

theorem containsS_kw (s : ByteArray) : Lib.containsS ((kwL.map mk).take 57) s = inK kwL s.data.toList := by
  rw [List.take_of_length_le (by decide), Bool.eq_iff_iff, Lib.containsS_iff]
  unfold inK
  rw [List.contains_iff_mem, List.mem_map]
  constructor
  · rintro ⟨l, hl, rfl⟩
    simpa using hl
  · intro h
    exact ⟨_, h, by cases s; simp⟩

theorem contains_kw (s : ByteArray) (w : World) :
    Calls Try.prog 36 #[.slice (some ⟨w.heap.size, 0, none⟩) 57 57, .string s] (w.alloc (.cells (strCells kwL) 9)) fun e w' => e = .returned (.bool (inK kwL s.data.toList)) ∧ w.alloc (.cells (strCells kwL) 9) = w' := by
  refine (Try.slices_Contains_string w.heap.size 0 57 57 (kwL.map mk) s _ (by decide) (by decide) ?_).mono ?_
  · intro j hj
    rw [Nat.zero_add, strCells_cell w kwL j (by simpa using hj)]
    congr 2
    have h1 : j < kwL.length := by simpa using hj
    simp [List.getD, h1]
  · rintro e w' ⟨rfl, rfl⟩
    exact ⟨by rw [containsS_kw], rfl⟩

/-- A name: at most 24 bytes, a word, no keyword. -/
def isNameL (l : List UInt8) : Bool := decide (l.length ≤ 24) && isWordL l && !isWidthL l && !inK kwL l

set_option maxHeartbeats 1000000 in
theorem isName_any (s : ByteArray) (w : World) (hs : s.size ≤ 65536) :
    Calls Try.prog 18 #[.string s] w fun e w' => e = .returned (.bool (isNameL s.data.toList)) ∧ Below w.heap.size w w' := by
  have hm : s.size ≤ maxLen := by unfold maxLen; omega
  have HN : Hid (isNameL s.data.toList = (decide (s.size ≤ 24) && isWordL s.data.toList && !isWidthL s.data.toList && !inK kwL s.data.toList)) := by
    show _ = _; unfold isNameL; rw [← Lib.size_eq]
  obtain ⟨b1, h1⟩ : ∃ b, isWordL s.data.toList = b := ⟨_, rfl⟩
  obtain ⟨b2, h2⟩ : ∃ b, isWidthL s.data.toList = b := ⟨_, rfl⟩
  obtain ⟨b3, h3⟩ : ∃ b, inK kwL s.data.toList = b := ⟨_, rfl⟩
  rw [h1, h2, h3] at HN
  have H1 := fun w => Lib.hid (isWord_any s w hs)
  have H2 := fun w => Lib.hid (isWidth_any s w hm)
  have H3 := fun w => Lib.hid (contains_kw s w)
  rw [h1] at H1
  rw [h2] at H2
  rw [h3] at H3
  clear h1 h2 h3
  go_enter Try.func18, Try.ntmps18
  go_wp2_with (first | (go_at_call 34; refine (H1 _).out.mono ?_; rintro e w1 ⟨rfl, hb1⟩) | (go_at_call 35; refine (H2 _).out.mono ?_; rintro e w' ⟨rfl, rfl⟩) | (go_at_call 12; refine (keywords_any _).mono ?_; rintro e w' ⟨rfl, rfl⟩) | (go_at_call 36; refine (H3 _).out.mono ?_; rintro e w' ⟨rfl, rfl⟩))
  all_goals go_ret
  all_goals refine ⟨ret_bool ?_, ?_⟩
  all_goals first | exact Below.refl _ _ | assumption | exact (by assumption : Below w.heap.size w _).alloc (by assumption : Below w.heap.size w _).size _ | skip
  all_goals rw [HN.out]
  all_goals clear H1 H2 H3 HN
  all_goals first | (rw [decide_eq_true (by omega)]; simp [*]; done) | (rw [decide_eq_false (by omega)]; simp; done)
end Go.Proofs.Ytfilmombflohpaa
