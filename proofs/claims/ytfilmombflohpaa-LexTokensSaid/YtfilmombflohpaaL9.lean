/- The maps of keywords and signs. -/
import Derived.Test.YtfilmombflohpaaL8
set_option linter.unusedSimpArgs false
set_option linter.unusedVariables false
namespace Go.Proofs.Ytfilmombflohpaa
open Go.RowKit Go.ChangeMaps Go.WideMaps
set_option maxRecDepth 100000

/-- A row of strings, from block b on. -/
def RowAt (w : World) (b : Nat) (ls : List (List UInt8)) : Prop := ∀ j, j < ls.length → w.cell? ⟨b, j, none⟩ = some (.string (mk (ls.getD j [])))

theorem take_getD {ls : List (List UInt8)} {k : Nat} (h : k < ls.length) : ls.take (k + 1) = ls.take k ++ [ls.getD k []] := by
  rw [List.take_succ_eq_append_getElem h]; simp [h]

theorem SetAt.setCell {w : World} {b : Nat} {keys : List (List UInt8)} (h : SetAt w b keys) {a : Addr} (ha : b ≠ a.block) (u : Value) : SetAt (w.setCell a u) b keys := by
  obtain ⟨n, D, hn, ho, hk⟩ := h
  exact ⟨n, D, hn, ho.setCell ha u, hk⟩

set_option maxHeartbeats 1000000 in
theorem setOf_any (b cap : Nat) (ls : List (List UInt8)) (w : World) (hl : ls.length ≤ 1000) (hb : b < w.heap.size) (hr : RowAt w b ls) (hz : ∀ l ∈ ls, l.length ≤ 1000) :
    Calls Try.prog 54 #[.slice (some ⟨b, 0, none⟩) ls.length cap] w fun e w' => e = .returned (.map (some w.heap.size)) ∧ SetAt w' w.heap.size ls ∧ Below w.heap.size w w' := by
  have hmm := @run_makeMap Try.prog
  have HZ := Lib.hid hz
  clear hz
  go_enter Try.func54, Try.ntmps54
  go_wp2
  go_loopw [5, 9] (fun _ n wr => ∃ (k : Nat) (D : DataW Unit), k ≤ ls.length ∧ n = .int .i64 k ∧ wr.ownsMap Try.prog 9 (plainElem Try.prog 4) w.heap.size k D ∧ Hid (Maps.IsMap D ∧ ∀ x : List UInt8, D.atKey (.string x) (.lit (.bool false)) = .lit (.bool (inK (ls.take k) x))) ∧ Below w.heap.size w wr) (fun _ n _ => ls.length - (intOf n).toNat)
  case atStart => exact ⟨0, .map [], Nat.zero_le _, rfl, World.ownsMap_made _ _ _ _, ⟨⟨[], rfl⟩, fun x => rfl⟩, (Below.refl _ w).alloc (Nat.le_refl _) _⟩
  case round =>
    obtain ⟨k, D, hk, rfl, hown, HD, hbl⟩ := hrel
    by_cases hlt : k < ls.length
    · have hc := (hbl.cell (p := ⟨b, k, none⟩) hb).trans (hr k hlt)
      obtain ⟨x, hx⟩ : ∃ x, ls.getD k [] = x := ⟨_, rfl⟩
      rw [hx] at hc
      have hxs : (mk x).size ≤ maxLen := by
        have h1 : x ∈ ls := by rw [← hx]; simp [hlt]
        have := HZ.out x h1
        unfold maxLen; rw [size_of_list]; omega
      have HX := Lib.hid hx
      clear hx
      go_wp2_with (at_mapUpdate; refine wpList_mapUpdate_own _ rfl _ _ _ 56 rfl 9 4 (Maps.string_keyed Try.underlying9) Try.underlying56 _ w.heap.size k _ rfl hown (by unfold maxLen; omega) _ _ _ rfl rfl (keyOf_string_mk Try.underlying9 hxs) _ [] (plainElem_bool Try.underlying4 true) ?_; intro w1 hown1 hgrow1)
      go_roundw
      case rel =>
        refine ⟨k + 1, _, by omega, by go_num, hown1, ⟨HD.out.1.put _ _, fun y => ?_⟩, hbl.grown hgrow1 hbl.size (fun j e => by cases e; exact Nat.le_refl _)⟩
        rw [take_getD hlt, HX.out]
        by_cases e : y = x
        · subst e
          rw [Maps.atKey_put_same HD.out.1 (by trivial)]
          simp [inK]
        · rw [Maps.atKey_put_other (by simpa using e), HD.out.2]
          simp [inK, e]
      case measure => simp [intOf]; omega
    · obtain rfl : k = ls.length := by omega
      go_wp2
      go_ret
      exact ⟨rfl, ⟨ls.length, D, hl, hown, fun x => by rw [HD.out.2, List.take_length]⟩, hbl⟩

theorem kw_len : ∀ l ∈ kwL, l.length ≤ 1000 := by decide
theorem sg_len : ∀ l ∈ sgL, l.length ≤ 1000 := by decide

set_option maxHeartbeats 1000000 in
theorem newScanner_any (w : World) :
    Calls Try.prog 29 #[] w fun e w' => ∃ kb sb, e = .returned (scan kb sb) ∧ SetAt w' kb kwL ∧ SetAt w' sb sgL ∧ Below w.heap.size w w' := by
  go_enter Try.func29, Try.ntmps29
  go_wp2_with fail
  refine (keywords_any _).mono ?_
  rintro e w1 ⟨rfl, rfl⟩
  go_wp2_with fail
  refine (setOf_any _ _ kwL _ (by decide) (by simp) (fun j hj => by have := strCells_cell (w.alloc (.cells #[.map none, .map none] 58)) kwL j hj; simpa using this) kw_len).mono ?_
  rintro e w2 ⟨rfl, hs2, hb2⟩
  have hz2 := hb2.size
  simp only [World.size_alloc] at hs2 hz2
  have hb2' : Below (w.heap.size + 2) ((w.alloc (.cells #[.map none, .map none] 58)).alloc (.cells (strCells kwL) 9)) w2 := by simpa using hb2
  clear hb2
  go_wp2_with fail
  refine (signs_any _).mono ?_
  rintro e w3 ⟨rfl, rfl⟩
  go_wp2_with fail
  refine (setOf_any _ _ sgL _ (by decide) (by simp) (fun j hj => strCells_cell w2 sgL j hj) sg_len).mono ?_
  rintro e w4 ⟨rfl, hs4, hb4⟩
  simp only [World.size_alloc] at hs4
  have hz4 := hb4.size
  simp only [World.size_alloc] at hz4
  have hb24 : Below w2.heap.size w2 w4 := ((Below.refl _ w2).alloc (Nat.le_refl _) _).trans (hb4.mono (by simp))
  have hs4' : SetAt w4 (w.heap.size + 1 + 1) kwL := hs2.below hb24 hs2.lt
  have hc0 : w4.cell? ⟨w.heap.size, 0, none⟩ = some (.map none) := by
    rw [hb24.cell (p := ⟨w.heap.size, 0, none⟩) (by show w.heap.size < w2.heap.size; omega), hb2'.cell (p := ⟨w.heap.size, 0, none⟩) (by show w.heap.size < w.heap.size + 2; omega)]
    simp
  have hc1 : w4.cell? ⟨w.heap.size, 1, none⟩ = some (.map none) := by
    rw [hb24.cell (p := ⟨w.heap.size, 1, none⟩) (by show w.heap.size < w2.heap.size; omega), hb2'.cell (p := ⟨w.heap.size, 1, none⟩) (by show w.heap.size < w.heap.size + 2; omega)]
    simp
  have hf0 : w4.frozen? ⟨w.heap.size, 0, none⟩ = false := by
    rw [hb24.frozen (p := ⟨w.heap.size, 0, none⟩) (by show w.heap.size < w2.heap.size; omega), hb2'.frozen (p := ⟨w.heap.size, 0, none⟩) (by show w.heap.size < w.heap.size + 2; omega)]
    simp
  have hf1 : w4.frozen? ⟨w.heap.size, 1, none⟩ = false := by
    rw [hb24.frozen (p := ⟨w.heap.size, 1, none⟩) (by show w.heap.size < w2.heap.size; omega), hb2'.frozen (p := ⟨w.heap.size, 1, none⟩) (by show w.heap.size < w.heap.size + 2; omega)]
    simp
  have hz : w.heap.size < w4.heap.size := by omega
  have H2 := Lib.hid hb2'
  have H4 := Lib.hid hb24
  have S4 := Lib.hid hs4'
  have S5 := Lib.hid hs4
  clear hb2' hb24 hs4' hs4 hs2 hb4
  go_wp2
  refine bodyPost_ret (v := scan (w.heap.size + 1 + 1) (w2.heap.size + 1)) (by simp [results, Try.results29, go_sem, hc0, hc1]) rfl ⟨_, _, rfl, ?_, ?_, ?_⟩
  · exact (S4.out.setCell (by show _ ≠ w.heap.size; omega) _).setCell (by show _ ≠ w.heap.size; omega) _
  · exact (S5.out.setCell (by show _ ≠ w.heap.size; omega) _).setCell (by show _ ≠ w.heap.size; omega) _
  · exact (((((Below.refl _ w).alloc (Nat.le_refl _) _).alloc (by simp) _).trans (H2.out.mono (by omega))).trans (H4.out.mono (by omega))).setCell (p := ⟨w.heap.size, 0, none⟩) (Nat.le_refl _) _ |>.setCell (p := ⟨w.heap.size, 1, none⟩) (Nat.le_refl _) _
end Go.Proofs.Ytfilmombflohpaa
