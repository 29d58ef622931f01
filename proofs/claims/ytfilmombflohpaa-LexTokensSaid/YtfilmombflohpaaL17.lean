/- isWord: a loop over the runes of a string. -/
import Derived.Laws.RangeAny
import Derived.WalkSmall
import Derived.Test.YtfilmombflohpaaL12B
set_option linter.unusedSimpArgs false
set_option linter.unusedVariables false
namespace Go.Proofs.Ytfilmombflohpaa
open Go.RowKit Go.ChangeMaps Go.WideMaps
set_option maxRecDepth 100000

def headL : List UInt8 → Bool
  | [] => false
  | c :: _ => isLetterI (c.toNat : Int)
def partsL (l : List UInt8) : Bool := l.all fun c => isPartI (c.toNat : Int)
/-- A letter, then letters, digits, underscores. -/
def isWordL (l : List UInt8) : Bool := headL l && partsL l

theorem partsL_step {s : ByteArray} {k : Nat} (h : k < s.size) : partsL (s.data.toList.drop k) = (isPartI (s[k].toNat : Int) && partsL (s.data.toList.drop (k + 1))) := by
  rw [drop_cons s k h]; rfl

theorem wl_no {s : ByteArray} {k : Nat} {b : Bool} (h : k < s.size) (hp : isPartI (s[k].toNat : Int) = false) (e : isWordL s.data.toList = (partsL (s.data.toList.drop k) && b)) : isWordL s.data.toList = false := by
  rw [e, partsL_step h, hp]; rfl
theorem wl_head {s : ByteArray} (h : 0 < s.size) (hp : isLetterI (s[0].toNat : Int) = false) : isWordL s.data.toList = false := by
  unfold isWordL
  rw [head_cons h]
  show (isLetterI _ && _) = _
  rw [hp]; rfl
theorem wl_step {s : ByteArray} {k : Nat} (h : k < s.size) (hp : isPartI (s[k].toNat : Int) = true) (hl : k = 0 → isLetterI (s[k].toNat : Int) = true) (e : isWordL s.data.toList = (partsL (s.data.toList.drop k) && (decide (0 < k) || headL s.data.toList))) :
    isWordL s.data.toList = (partsL (s.data.toList.drop (k + 1)) && (decide (0 < k + 1) || headL s.data.toList)) := by
  rw [e, partsL_step h, hp]
  rcases Nat.eq_zero_or_pos k with rfl | h0
  · have := hl rfl
    have hh : headL s.data.toList = true := by rw [head_cons h]; exact this
    simp [hh]
  · simp [h0]
theorem wl_end {s : ByteArray} {k : Nat} (h : s.size ≤ k) (h0 : 0 < k) (e : isWordL s.data.toList = (partsL (s.data.toList.drop k) && (decide (0 < k) || headL s.data.toList))) : isWordL s.data.toList = true := by
  rw [e, List.drop_eq_nil_of_le (by simpa using h)]
  simp [partsL, h0]
theorem wl_high {s : ByteArray} {k : Nat} (h : k < s.size) (hc : 122 < s[k].toNat) : isPartI (s[k].toNat : Int) = false := by
  unfold isPartI isLetterI isDigitI
  rw [Bool.eq_false_iff]
  intro hx
  simp at hx
  omega

set_option maxHeartbeats 2000000 in
theorem isWord_any (s : ByteArray) (w : World) (hs : s.size ≤ 65536) :
    Calls Try.prog 34 #[.string s] w fun e w' => e = .returned (.bool (isWordL s.data.toList)) ∧ Below w.heap.size w w' := by
  by_cases hz : 0 < s.size
  · have he := empty_f hz
    go_enter Try.func34, Try.ntmps34
    go_wp2
    go_loopw [3, 4] (fun _ _ wr => ∃ k : Nat, k ≤ s.size ∧ wr.heap[w.heap.size]? = some (.stringIter s k) ∧ Hid (isWordL s.data.toList = (partsL (s.data.toList.drop k) && (decide (0 < k) || headL s.data.toList))) ∧ Below w.heap.size w wr) (fun _ _ wr => s.size - wr.iterPos w.heap.size)
    case atStart => exact ⟨0, Nat.zero_le _, World.iter_heap w s 0, show _ = _ by unfold isWordL; rw [List.drop_zero, Bool.and_comm]; simp, (Below.refl _ _).alloc (Nat.le_refl _) _⟩
    case round =>
      obtain ⟨k, hk, hit, HW, hb⟩ := hrel
      have hpos := iterPos_of hit
      by_cases hlt : k < s.size
      · obtain ⟨c, hcc⟩ : ∃ c : Nat, s[k].toNat = c := ⟨_, rfl⟩
        have hmod : ((c : Int) % 256) = c := by have := UInt8.toNat_lt s[k]; omega
        by_cases h128 : c < 128
        · have hnx : ∀ ty, (Instr.next (.pointer (some ⟨w.heap.size, 0, none⟩)) true ty).run Try.prog wr = _ := fun ty => Lib.run_next_ascii_at wr w.heap.size s k ty hit hlt (by omega)
          have hit2 := Lib.iterAt_heap wr w.heap.size s k (k + 1) hit
          have hb2 := Lib.below_iterAt hb (k := w.heap.size) (Nat.le_refl _) s (k + 1)
          obtain ⟨W1, hW1⟩ : ∃ W1, wr.iterAt w.heap.size s (k + 1) = W1 := ⟨_, rfl⟩
          rw [hW1] at hnx hit2 hb2
          rw [hcc] at hnx
          clear hW1
          by_cases h122 : 122 < c
          · have HE := Lib.hid (wl_no hlt (wl_high hlt (by omega)) HW.out)
            clear hcc
            go_wp2_with (first | (go_at_call 59; refine (isPart_any _ _).mono ?_; rintro e w' ⟨rfl, rfl⟩) | (go_at_call 60; refine (isLetter_any _ _).mono ?_; rintro e w' ⟨rfl, rfl⟩))
            all_goals go_ret
            all_goals exact ⟨ret_bool HE.out.symm, hb2⟩
          · by_cases hP : isPartI (c : Int) = true
            · have HPs := Lib.hid (show isPartI (s[k].toNat : Int) = true by rw [hcc]; exact hP)
              have hpos2 := iterPos_of hit2
              rcases Nat.eq_zero_or_pos k with rfl | hk0
              · by_cases hL : isLetterI (c : Int) = true
                · have HN := Lib.hid (wl_step hlt HPs.out (fun _ => by rw [hcc]; exact hL) HW.out)
                  clear hcc
                  go_wp2_with (first | (go_at_call 59; refine (isPart_any _ _).mono ?_; rintro e w' ⟨rfl, rfl⟩) | (go_at_call 60; refine (isLetter_any _ _).mono ?_; rintro e w' ⟨rfl, rfl⟩))
                  all_goals go_roundw
                  all_goals first | exact ⟨1, hlt, hit2, HN, hb2⟩ | (rw [hpos, hpos2]; omega)
                · have HE := Lib.hid (wl_head hz (by rw [hcc]; simpa using hL))
                  clear hcc
                  go_wp2_with (first | (go_at_call 59; refine (isPart_any _ _).mono ?_; rintro e w' ⟨rfl, rfl⟩) | (go_at_call 60; refine (isLetter_any _ _).mono ?_; rintro e w' ⟨rfl, rfl⟩))
                  all_goals go_ret
                  all_goals exact ⟨ret_bool HE.out.symm, hb2⟩
              · have HN := Lib.hid (wl_step hlt HPs.out (fun h => by omega) HW.out)
                clear hcc
                go_wp2_with (first | (go_at_call 59; refine (isPart_any _ _).mono ?_; rintro e w' ⟨rfl, rfl⟩) | (go_at_call 60; refine (isLetter_any _ _).mono ?_; rintro e w' ⟨rfl, rfl⟩))
                all_goals go_roundw
                all_goals first | exact ⟨k + 1, hlt, hit2, HN, hb2⟩ | (rw [hpos, hpos2]; omega)
            · have HE := Lib.hid (wl_no hlt (by rw [hcc]; simpa using hP) HW.out)
              clear hcc
              go_wp2_with (first | (go_at_call 59; refine (isPart_any _ _).mono ?_; rintro e w' ⟨rfl, rfl⟩) | (go_at_call 60; refine (isLetter_any _ _).mono ?_; rintro e w' ⟨rfl, rfl⟩))
              all_goals go_ret
              all_goals exact ⟨ret_bool HE.out.symm, hb2⟩
        · have hhi := (decode_high s k hlt (by omega)).1
          have hnx : ∀ ty, (Instr.next (.pointer (some ⟨w.heap.size, 0, none⟩)) true ty).run Try.prog wr = _ := fun ty => Lib.run_next_any_at wr w.heap.size s k ty hit hlt
          have hdl := decode_le s k
          obtain ⟨r, hr⟩ : ∃ r : Nat, (Utf8.decode s k).1 = r := ⟨_, rfl⟩
          have hb2 := Lib.below_iterAt hb (k := w.heap.size) (Nat.le_refl _) s (k + (Utf8.decode s k).2)
          obtain ⟨W1, hW1⟩ : ∃ W1, wr.iterAt w.heap.size s (k + (Utf8.decode s k).2) = W1 := ⟨_, rfl⟩
          rw [hW1] at hnx hb2
          rw [hr] at hnx hhi hdl
          have HE := Lib.hid (wl_no hlt (wl_high hlt (by omega)) HW.out)
          clear hcc hmod hr hW1
          go_wp2_with (first | (go_at_call 59; refine (isPart_any _ _).mono ?_; rintro e w' ⟨rfl, rfl⟩) | (go_at_call 60; refine (isLetter_any _ _).mono ?_; rintro e w' ⟨rfl, rfl⟩))
          all_goals go_ret
          all_goals exact ⟨ret_bool HE.out.symm, hb2⟩
      · have hnx : ∀ ty, (Instr.next (.pointer (some ⟨w.heap.size, 0, none⟩)) true ty).run Try.prog wr = _ := fun ty => Lib.run_next_end_at wr w.heap.size s k ty hit hlt
        have HE := Lib.hid (wl_end (by omega) (by omega) HW.out)
        go_wp2
        go_ret
        exact ⟨ret_bool HE.out.symm, hb⟩
  · have he := empty_t hz
    have hn := Lib.hid (nil_t hz)
    go_enter Try.func34, Try.ntmps34
    go_wp2
    go_loopw [3, 4] (fun _ _ wr => wr.heap[w.heap.size]? = some (.stringIter s 0) ∧ Below w.heap.size w wr) (fun _ _ wr => 0)
    case atStart => exact ⟨World.iter_heap w s 0, (Below.refl _ _).alloc (Nat.le_refl _) _⟩
    case round =>
      obtain ⟨hit, hb⟩ := hrel
      have hnx : ∀ ty, (Instr.next (.pointer (some ⟨w.heap.size, 0, none⟩)) true ty).run Try.prog wr = _ := fun ty => Lib.run_next_end_at wr w.heap.size s 0 ty hit hz
      go_wp2
      go_ret
      exact ⟨ret_bool (by rw [hn.out]; rfl), hb⟩
end Go.Proofs.Ytfilmombflohpaa
