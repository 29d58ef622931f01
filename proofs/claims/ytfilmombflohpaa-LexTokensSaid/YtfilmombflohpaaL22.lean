/- The reference's keywords and names: what the package's are. -/
import Derived.Test.YtfilmombflohpaaL21
set_option linter.unusedSimpArgs false
set_option linter.unusedVariables false
namespace Go.Proofs.Ytfilmombflohpaa
open Go.RowKit Go.ChangeMaps Go.WideMaps
set_option maxRecDepth 100000

theorem two_digits (a b : UInt8) (ha : isDigitI (a.toNat : Int) = true) (hb : isDigitI (b.toNat : Int) = true) : (Op.bytesLess [49, 48] [a, b] || [49, 48] == [a, b]) = !((a.toNat : Int) == 48) := by
  simp [isDigitI] at ha hb
  rw [Bool.eq_iff_iff]
  have h49 : (49 : UInt8) < a ↔ 49 < a.toNat := by rw [UInt8.lt_iff_toNat_lt]; rfl
  have h48 : (48 : UInt8) < b ↔ 48 < b.toNat := by rw [UInt8.lt_iff_toNat_lt]; rfl
  have e49 : (49 : UInt8) = a ↔ 49 = a.toNat := by rw [← UInt8.toNat_inj]; rfl
  have e48 : (48 : UInt8) = b ↔ 48 = b.toNat := by rw [← UInt8.toNat_inj]; rfl
  simp [Op.bytesLess, h49, h48, e49, e48]
  omega

theorem isW_eq (d : List UInt8) : isW d = (!decide (d.length < 1) && rNumL d 2 && !(d == [48]) && (decide (d.length = 1) || (Op.bytesLess d [54, 52] || d == [54, 52]))) := by
  match d with
  | [] => rfl
  | [a] =>
    cases ha : isDigitI (a.toNat : Int) <;> simp [isW, rNumL, digitsL, countL, ha]
  | [a, b] =>
    cases ha : isDigitI (a.toNat : Int)
    · simp [isW, rNumL, digitsL, countL, ha]
    · cases hb : isDigitI (b.toNat : Int)
      · simp [isW, rNumL, digitsL, countL, ha, hb]
      · have h2 := two_digits a b ha hb
        simp only [isW, rNumL, digitsL, countL, ha, hb, headZ]
        rw [h2]
        simp [ha, hb]
  | a :: b :: c :: r => simp [isW, rNumL]

theorem rBitsL_eq (l : List UInt8) : rBitsL l = isWidthL l := by
  match l with
  | [] => rfl
  | [a] => simp [rBitsL, isWidthL, Lib.hasPrefix, List.isPrefixOf, bvL]
  | a :: b :: d =>
    unfold rBitsL isWidthL
    have h1 : Lib.hasPrefix (a :: b :: d) bvL = ([a, b] == [98, 118]) := by
      rw [Bool.eq_iff_iff]
      simp [Lib.hasPrefix, List.isPrefixOf, bvL]
      exact ⟨fun h => ⟨h.1.symm, h.2.symm⟩, fun h => ⟨h.1.symm, h.2.symm⟩⟩
    have h2 : (a :: b :: d).take 2 = [a, b] := by simp
    rw [h1, h2]
    cases h : ([a, b] == [98, 118] : Bool)
    · simp
    · have h3 : Lib.trimPrefix (a :: b :: d) bvL = d := by
        unfold Lib.trimPrefix
        rw [h1, h]
        simp [bvL]
      rw [h3, isW_eq]
      have h4 : decide ((a :: b :: d).length < 3) = decide (d.length < 1) := by rw [List.length_cons, List.length_cons, decide_eq_decide]; omega
      have h5 : decide ((a :: b :: d).length = 3) = decide (d.length = 1) := by simp
      have h6 : (a :: b :: d).drop 2 = d := by simp
      rw [h4, h5, h6]
      cases decide (d.length < 1) <;> simp

set_option maxHeartbeats 1000000 in
theorem rKeyword_any (s : ByteArray) (w : World) (hs : s.size ≤ 65536) :
    Calls Try.prog 65 #[.string s] w fun e w' => e = .returned (.bool (inK kwL s.data.toList || isWidthL s.data.toList)) ∧ Below w.heap.size w w' := by
  have H1 := Lib.hid (rHasWord_any s w.heap.size (w.alloc (.cells (strCells kwL) 9)) (fun j hj => strCells_cell w kwL j hj))
  have H2 := fun w => Lib.hid (rBits_any s w hs)
  rw [rBitsL_eq] at H2
  obtain ⟨b1, h1⟩ : ∃ b, inK kwL s.data.toList = b := ⟨_, rfl⟩
  obtain ⟨b2, h2⟩ : ∃ b, isWidthL s.data.toList = b := ⟨_, rfl⟩
  rw [h1] at H1 ⊢
  rw [h2] at H2 ⊢
  clear h1 h2
  go_enter Try.func65, Try.ntmps65
  go_wp2_with (first | (go_at_call 31; refine (rKeywords_any _).mono ?_; rintro e w' ⟨rfl, rfl⟩) | (go_at_call 88; refine H1.out.mono ?_; rintro e w' ⟨rfl, rfl⟩) | (go_at_call 89; refine (H2 _).out.mono ?_; rintro e w' ⟨rfl, rfl⟩))
  all_goals go_ret
  all_goals exact ⟨ret_bool (by simp [*]), (Below.refl _ w).alloc (Nat.le_refl _) _⟩
end Go.Proofs.Ytfilmombflohpaa
