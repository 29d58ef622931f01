/- The rules of tokens. -/
import Derived.Test.YtfilmombflohpaaL2
set_option linter.unusedSimpArgs false
set_option linter.unusedVariables false
namespace Go.Proofs.Ytfilmombflohpaa
open Go.RowKit Go.ChangeMaps Go.WideMaps

def bvL : List UInt8 := [98, 118]
/-- Do these bytes, behind bv, make one of bv1 to bv64? -/
def isW (d : List UInt8) : Bool :=
  if d.length < 1 ∨ 2 < d.length ∨ countL isDigitI d ≠ d.length then false
  else if d.length = 1 then !(d == [48])
  else (Op.bytesLess [49, 48] d || [49, 48] == d) && (Op.bytesLess d [54, 52] || d == [54, 52])
/-- Is it one of bv1 to bv64? -/
def isWidthL (l : List UInt8) : Bool := Lib.hasPrefix l bvL && isW (Lib.trimPrefix l bvL)

theorem size_of_list (l : List UInt8) : (⟨l.toArray⟩ : ByteArray).size = l.length := by
  rw [Lib.size_eq]

set_option maxHeartbeats 400000 in
theorem isWidth_any (s : ByteArray) (w : World) (hs : s.size ≤ maxLen) :
    Calls Try.prog 35 #[.string s] w fun e w' => e = .returned (.bool (isWidthL s.data.toList)) ∧ w = w' := by
  have hle : (Lib.trimPrefix s.data.toList [98, 118]).length ≤ s.data.toList.length := by unfold Lib.trimPrefix; split <;> simp
  have hms := hs
  unfold maxLen at hms
  rw [← Lib.size_eq] at hle
  obtain ⟨d, hd⟩ : ∃ d, Lib.trimPrefix s.data.toList [98, 118] = d := ⟨_, rfl⟩
  obtain ⟨f, hf⟩ : ∃ f, Lib.hasPrefix s.data.toList [98, 118] = f := ⟨_, rfl⟩
  rw [hd] at hle
  have HW : Hid (isWidthL s.data.toList = (f && isW d)) := by show _ = _; unfold isWidthL bvL; rw [hd, hf]
  have hc := (Try.strings_CutPrefix s ⟨#[98, 118]⟩ w)
  rw [show (⟨#[98, 118]⟩ : ByteArray).data.toList = [98, 118] from rfl, hd, hf] at hc
  have HC := Lib.hid hc
  clear hc hd hf
  have hx : (mk d).size ≤ maxLen := by unfold maxLen; rw [size_of_list]; omega
  have hdig := countDigits_any (mk d) w hx
  rw [show (mk d).data.toList = d from rfl] at hdig
  have HG := Lib.hid hdig
  clear hdig
  cases f
  all_goals
    go_enter Try.func35, Try.ntmps35
    go_wp2_with (first | (go_at_call 61; refine HC.out.mono ?_; rintro e w' ⟨rfl, rfl⟩) | (go_at_call 62; refine HG.out.mono ?_; rintro e w' ⟨rfl, rfl⟩))
  all_goals
    go_ret
    refine ⟨ret_bool ?_, rfl⟩
    rw [HW.out]
    clear HW HC HG
    try simp only [bne_iff_ne, ne_eq, Bool.false_and, Bool.true_and, beq_iff_eq, bne_eq_false_iff_eq, beq_eq_false_iff_ne] at *
    try (unfold isW; first | rw [if_pos (by omega)] | rw [if_neg (by omega), if_pos (by omega)] | (rw [if_neg (by omega), if_neg (by omega)]; try simp_all))

/-- A scanner's two maps. -/
abbrev scan (kb sb : Nat) : Value := .agg #[.map (some kb), .map (some sb)]

theorem bcell {W w1 : World} (hb : Below W.heap.size W w1) : (∀ b o, b < W.heap.size → w1.cell? ⟨b, o, none⟩ = W.cell? ⟨b, o, none⟩) ∧ (∀ b o, b < W.heap.size → w1.frozen? ⟨b, o, none⟩ = W.frozen? ⟨b, o, none⟩) :=
  ⟨fun b o h => hb.cell (p := ⟨b, o, none⟩) h, fun b o h => hb.frozen (p := ⟨b, o, none⟩) h⟩

def isKeywordL (kw : List (List UInt8)) (l : List UInt8) : Bool := inK kw l || isWidthL l

set_option maxRecDepth 100000 in
set_option maxHeartbeats 400000 in
theorem isKeyword_any (s : ByteArray) (kb sb : Nat) (kw : List (List UInt8)) (w : World) (hs : s.size ≤ maxLen) (hk : SetAt w kb kw) :
    Calls Try.prog 93 #[scan kb sb, .string s] w fun e w' => e = .returned (.bool (isKeywordL kw s.data.toList)) ∧ Below w.heap.size w w' := by
  have hk1 : SetAt (w.alloc (.cells #[.map (some kb), .map (some sb)] 58)) kb kw := hk.below ((Below.refl _ w).alloc (Nat.le_refl _) _) hk.lt
  have HK := Lib.hid hk1
  obtain ⟨x, hx⟩ : ∃ x, inK kw s.data.toList = x := ⟨_, rfl⟩
  have hl := hk1.look hs
  rw [hx] at hl
  have HX := Lib.hid hx
  clear hx hk1 hk
  go_enter Try.func93, Try.ntmps93
  go_wp2_with (go_at_call 35; refine (isWidth_any s _ hs).mono ?_; rintro e w' ⟨rfl, rfl⟩)
  all_goals
    go_ret
    refine ⟨ret_bool ?_, ?_⟩
    · unfold isKeywordL; rw [HX.out]; simp_all
    · exact (Below.refl _ w).alloc (Nat.le_refl _) _
end Go.Proofs.Ytfilmombflohpaa
