/- Qualified names. -/
import Derived.Test.YtfilmombflohpaaL6
set_option linter.unusedSimpArgs false
set_option linter.unusedVariables false
namespace Go.Proofs.Ytfilmombflohpaa
open Go.RowKit Go.ChangeMaps Go.WideMaps
set_option maxRecDepth 100000

/-- A qualified name at the start, its module, what stands behind the colons, and its name given. -/
def qualC (kw : List (List UInt8)) (m : List UInt8) (found : Bool) (n : List UInt8) : Int × Int :=
  if isUpperL m = false ∨ found = false ∨ n = [] ∨ isKeywordL kw n = true then (0, 0)
  else if 24 < m.length ∨ 24 < n.length then (0, 6)
  else ((m.length : Int) + 2 + n.length, 0)
def qualifiedI (kw : List (List UInt8)) (l : List UInt8) : Int × Int :=
  qualC kw (wordL l) (Lib.hasPrefix (l.drop (wordL l).length) [58, 58]) (wordL (Lib.trimPrefix (l.drop (wordL l).length) [58, 58]))

theorem cutprefix_any (s : ByteArray) (p : List UInt8) (w : World) :
    Calls Try.prog 61 #[.string s, .string (mk p)] w fun e w' => e = .returned (.tuple #[.string (mk (Lib.trimPrefix s.data.toList p)), .bool (Lib.hasPrefix s.data.toList p)]) ∧ w = w' :=
  (Try.strings_CutPrefix s (mk p) w).mono fun _ _ ⟨he, hw⟩ => ⟨he, hw.symm⟩

theorem trimPrefix_le (l p : List UInt8) : (Lib.trimPrefix l p).length ≤ l.length := by
  unfold Lib.trimPrefix; split <;> simp

set_option maxHeartbeats 1000000 in
theorem qualified_any (s : ByteArray) (kb sb : Nat) (kw : List (List UInt8)) (w : World) (hs : s.size ≤ maxLen) (hk : SetAt w kb kw) :
    Calls Try.prog 75 #[scan kb sb, .string s] w fun e w' => e = .returned (.tuple #[.int .i64 (qualifiedI kw s.data.toList).1, .int .i64 (qualifiedI kw s.data.toList).2]) ∧ Below w.heap.size w w' := by
  obtain ⟨w0, hw0⟩ : ∃ w0, w.alloc (.cells #[.map (some kb), .map (some sb)] 58) = w0 := ⟨_, rfl⟩
  have hb0 : Below w.heap.size w w0 := by rw [← hw0]; exact (Below.refl _ w).alloc (Nat.le_refl _) _
  have hz0 : w.heap.size < w0.heap.size := by rw [← hw0]; simp
  have hc0 : w0.cell? ⟨w.heap.size, 0, none⟩ = some (.map (some kb)) := by rw [← hw0]; simp
  have hc1 : w0.cell? ⟨w.heap.size, 1, none⟩ = some (.map (some sb)) := by rw [← hw0]; simp
  have hk1 : SetAt w0 kb kw := hk.below hb0 hk.lt
  have hms := hs
  unfold maxLen at hms
  have hml := wordL_le s.data.toList
  have C1 := word_any s w0 hs
  obtain ⟨m, hm⟩ : ∃ m, wordL s.data.toList = m := ⟨_, rfl⟩
  rw [hm] at hml C1
  rw [← Lib.size_eq] at hml
  have C2 := cutprefix_any (s.extract m.length s.size) [58, 58] w0
  rw [Lib.extract_to_end] at C2
  have htl := trimPrefix_le (s.data.toList.drop m.length) [58, 58]
  rw [List.length_drop, ← Lib.size_eq] at htl
  obtain ⟨r, hr⟩ : ∃ r, Lib.trimPrefix (s.data.toList.drop m.length) [58, 58] = r := ⟨_, rfl⟩
  obtain ⟨f, hf⟩ : ∃ f, Lib.hasPrefix (s.data.toList.drop m.length) [58, 58] = f := ⟨_, rfl⟩
  rw [hr, hf] at C2
  rw [hr] at htl
  have hrx : (mk r).size ≤ maxLen := by unfold maxLen; rw [size_of_list]; omega
  have C3 := word_any (mk r) w0 hrx
  rw [show (mk r).data.toList = r from rfl] at C3
  have hnl := wordL_le r
  obtain ⟨n, hn⟩ : ∃ n, wordL r = n := ⟨_, rfl⟩
  rw [hn] at C3 hnl
  have hmx : (mk m).size ≤ maxLen := by unfold maxLen; rw [size_of_list]; omega
  have C4 := isUpper_any (mk m) w0 hmx
  rw [show (mk m).data.toList = m from rfl] at C4
  have hnx : (mk n).size ≤ maxLen := by unfold maxLen; rw [size_of_list]; omega
  have C5 := isKeyword_any (mk n) kb sb kw w0 hnx hk1
  rw [show (mk n).data.toList = n from rfl] at C5
  have HQ : Hid (qualifiedI kw s.data.toList = qualC kw m f n) := by show _ = _; unfold qualifiedI; rw [hm, hr, hn, hf]
  obtain ⟨u, hu⟩ : ∃ u, isUpperL m = u := ⟨_, rfl⟩
  obtain ⟨q, hq⟩ : ∃ q, isKeywordL kw n = q := ⟨_, rfl⟩
  rw [hu] at C4
  rw [hq] at C5
  have D1 := Lib.hid C1
  have D2 := Lib.hid C2
  have D3 := Lib.hid C3
  have D4 := Lib.hid C4
  have D5 := Lib.hid C5
  have HU := Lib.hid hu
  have HK := Lib.hid hq
  clear C1 C2 C3 C4 C5 hm hr hn hf hu hq hk hk1
  by_cases hn0 : n = []
  · subst hn0
    cases u
    all_goals cases f
    all_goals
      go_enter Try.func75, Try.ntmps75
      go_wp2_with (first | (go_at_call 92; (first | (with_reducible refine D1.out.mono ?_) | (with_reducible refine D3.out.mono ?_)); rintro e w' ⟨rfl, rfl⟩) | (go_at_call 61; (with_reducible refine D2.out.mono ?_); rintro e w' ⟨rfl, rfl⟩) | (go_at_call 38; (with_reducible refine D4.out.mono ?_); rintro e w' ⟨rfl, rfl⟩))
      go_ret2
      exact ⟨ret_pair (by rw [HQ.out]; unfold qualC; rw [if_pos (by simp)]), hb0⟩
  · have hni : n.isEmpty = false := by cases n <;> simp_all
    cases u
    all_goals cases f
    all_goals cases q
    all_goals
      go_enter Try.func75, Try.ntmps75
      go_wp2_with (first | (go_at_call 92; (first | (with_reducible refine D1.out.mono ?_) | (with_reducible refine D3.out.mono ?_)); rintro e w' ⟨rfl, rfl⟩) | (go_at_call 61; (with_reducible refine D2.out.mono ?_); rintro e w' ⟨rfl, rfl⟩) | (go_at_call 38; (with_reducible refine D4.out.mono ?_); rintro e w' ⟨rfl, rfl⟩) | (go_at_call 93; (with_reducible refine D5.out.mono ?_); rintro e w1 ⟨rfl, hb⟩))
    all_goals
      go_ret2
      refine ⟨ret_pair ?_, by first | exact hb0 | exact hb0.trans (hb.mono (by omega))⟩
      rw [HQ.out]
      unfold qualC
      first
        | (refine if_pos ?_; simp [HU.out, HK.out]; done)
        | (refine (if_neg ?_).trans (if_pos ?_); · (simp [HU.out, HK.out, hn0]; done)
           omega)
        | (refine (if_neg ?_).trans (if_neg ?_); · (simp [HU.out, HK.out, hn0]; done)
           omega)
end Go.Proofs.Ytfilmombflohpaa
