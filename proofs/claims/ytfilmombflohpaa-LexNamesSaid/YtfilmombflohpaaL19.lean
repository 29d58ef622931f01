/- The reference's functions on bytes and words. -/
import Derived.Test.YtfilmombflohpaaL18
set_option linter.unusedSimpArgs false
set_option linter.unusedVariables false
namespace Go.Proofs.Ytfilmombflohpaa
open Go.RowKit Go.ChangeMaps Go.WideMaps
set_option maxRecDepth 100000

theorem rLetter_any (c : Int) (w : World) :
    Calls Try.prog 64 #[.int .u8 c] w fun e w' => e = .returned (.bool (isLetterI c)) ∧ w = w' := by
  go_enter Try.func64, Try.ntmps64
  go_wp2
  all_goals
    go_ret
    exact ⟨ret_bool (by rw [Bool.eq_iff_iff]; simp [isLetterI]; omega), rfl⟩

theorem rDigit_any (c : Int) (w : World) :
    Calls Try.prog 51 #[.int .u8 c] w fun e w' => e = .returned (.bool (isDigitI c)) ∧ w = w' := by
  go_enter Try.func51, Try.ntmps51
  go_wp2
  all_goals
    go_ret
    exact ⟨ret_bool (by rw [Bool.eq_iff_iff]; simp [isDigitI]; omega), rfl⟩

set_option maxHeartbeats 1000000 in
theorem rKeywords_any (w : World) :
    Calls Try.prog 31 #[] w fun e w' => e = .returned (.slice (some ⟨w.heap.size, 0, none⟩) 57 57) ∧ w' = w.alloc (.cells (strCells kwL) 9) := by
  go_enter Try.func31, Try.ntmps31
  go_wp2
  go_ret
  exact ⟨rfl, rfl⟩

theorem inK_hit {l : List (List UInt8)} {k : Nat} {x : List UInt8} (h : k < l.length) (e : l.getD k [] = x) : inK l x = true := by
  unfold inK
  rw [List.contains_iff_mem, ← e]
  simp only [List.getD_eq_getElem?_getD, List.getElem?_eq_getElem h, Option.getD_some]
  exact List.getElem_mem h
theorem inK_step {l : List (List UInt8)} {k : Nat} {x : List UInt8} (h : k < l.length) (e : l.getD k [] ≠ x) (hi : inK l x = inK (l.drop k) x) : inK l x = inK (l.drop (k + 1)) x := by
  rw [hi, List.drop_eq_getElem_cons h]
  unfold inK
  simp only [List.getD_eq_getElem?_getD, List.getElem?_eq_getElem h, Option.getD_some] at e
  rw [List.contains_cons]
  have : (x == l[k]) = false := by simpa using fun h => e h.symm
  rw [this, Bool.false_or]
theorem inK_end {l : List (List UInt8)} {k : Nat} {x : List UInt8} (h : l.length ≤ k) (hi : inK l x = inK (l.drop k) x) : inK l x = false := by
  rw [hi, List.drop_eq_nil_of_le h]; rfl

theorem mk_eq {l : List UInt8} {s : ByteArray} (h : mk l = s) : l = s.data.toList := by rw [← h]
theorem mk_ne {l : List UInt8} {s : ByteArray} (h : ¬ mk l = s) : l ≠ s.data.toList := by
  rintro rfl; exact h (by cases s; simp)

set_option maxHeartbeats 1000000 in
theorem rHasWord_any (s : ByteArray) (b : Nat) (w : World) (hc : ∀ j, j < 57 → w.cell? ⟨b, j, none⟩ = some (.string (mk (kwL.getD j [])))) :
    Calls Try.prog 88 #[.slice (some ⟨b, 0, none⟩) 57 57, .string s] w fun e w' => e = .returned (.bool (inK kwL s.data.toList)) ∧ w = w' := by
  have hl : kwL.length = 57 := rfl
  obtain ⟨L, hL⟩ : ∃ L, kwL = L := ⟨_, rfl⟩
  rw [hL] at hc hl ⊢
  clear hL
  go_enter Try.func88, Try.ntmps88
  go_wp2
  go_loop [5] (fun n => ∃ k : Nat, k ≤ 57 ∧ n = .int .i64 k ∧ Hid (inK L s.data.toList = inK (L.drop k) s.data.toList)) (fun n => 57 - (intOf n).toNat)
  case atStart => exact ⟨0, by omega, rfl, show _ = _ by rw [List.drop_zero]⟩
  case round =>
    obtain ⟨k, hk, rfl, HK⟩ := hrel
    by_cases hlt : k < 57
    · have hck := hc k hlt
      obtain ⟨x, hx⟩ : ∃ x, L.getD k [] = x := ⟨_, rfl⟩
      rw [hx] at hck
      clear hc
      by_cases he : x = s.data.toList
      · have HE := Lib.hid (inK_hit (by omega) (hx.trans he))
        have hb : (x == s.toList) = true := by rw [Lib.toList_data]; simpa using he
        clear hx he
        go_wp2
        go_ret
        exact ⟨ret_bool HE.out.symm, rfl⟩
      · have HE := Lib.hid (inK_step (by omega) (fun h => he (hx.symm.trans h)) HK.out)
        have hb : (x == s.toList) = false := by rw [Lib.toList_data]; simpa using he
        clear hx he
        go_wp2
        go_round
        case rel => exact ⟨k + 1, by omega, by go_num, HE⟩
        case measure => simp [intOf]; omega
    · have HE := Lib.hid (inK_end (by omega) HK.out)
      go_wp2
      go_ret
      exact ⟨ret_bool HE.out.symm, rfl⟩
end Go.Proofs.Ytfilmombflohpaa
