/- A slice of tokens that came in, opened. -/
import Derived.Deep.Slices
import Derived.Deep.Fields
import Derived.Deep.Strs
import Derived.ChangeSame
import Derived.Test.YtfilmombflohpaaK4
set_option linter.unusedSimpArgs false
set_option linter.unusedVariables false
namespace Go.Proofs.Ytfilmombflohpaa
open Go.RowKit Go.ChangeShapes Go.WideShapes Go.Deep
set_option maxRecDepth 100000

theorem tok_cells : Try.prog.cellsOf 51 = 3 := by kernel_rfl
theorem one_int : Try.prog.cellsOf 3 = 1 := by kernel_rfl
theorem one_string : Try.prog.cellsOf 9 = 1 := by kernel_rfl

/-- The three cells of a token. -/
def TokAt (W : World) (a : Addr) (x : Span) : Prop := W.cell? (a.add 0) = some (.int .i64 x.kind) ∧ W.cell? (a.add 1) = some (.string (mk x.text)) ∧ W.cell? (a.add 2) = some (.int .i64 x.at_)

theorem mk_list (s : ByteArray) : mk s.data.toList = s := by
  cases s
  rfl

instance : Inhabited Span := ⟨⟨0, [], 0, 0, 0⟩⟩

theorem tok_open {H : Type} {enc : TypeId × Value → H} {W : World} {spare : Nat → Bool} {held : Bool} {n : Nat} {a : Addr} {cs : List Value} {y : DataW H × List MemPlace}
    (hc : W.cells? 0 a 3 = some cs) (h : DataW.trod enc Try.prog W 0 spare held n 51 cs = some y) : ∃ x, TokAt W a x := by
  obtain ⟨_, hlen, hat⟩ := World.cells?_some hc
  match cs, hlen with
  | [v0, v1, v2], _ =>
    obtain ⟨y0, y1, y2, m, _, _, h0, h1, h2⟩ := trod_struct3 Try.underlying51 h
    simp only [one_int, one_string] at h0 h1 h2
    obtain ⟨k, hk, _, _⟩ := DataW.trod_int Try.underlying3 (show DataW.trod enc Try.prog W 0 spare held m 3 [v0] = some y0 from h0)
    obtain ⟨s, hs, _, _⟩ := DataW.trod_string Try.underlying9 (show DataW.trod enc Try.prog W 0 spare held m 9 [v1] = some y1 from h1)
    obtain ⟨p, hp, _, _⟩ := DataW.trod_int Try.underlying3 (show DataW.trod enc Try.prog W 0 spare held m 3 [v2] = some y2 from h2)
    have e0 : v0 = .int .i64 k := by simpa using hk
    have e1 : v1 = .string s := by simpa using hs
    have e2 : v2 = .int .i64 p := by simpa using hp
    refine ⟨⟨k, s.data.toList, p, 0, 0⟩, ?_, ?_, ?_⟩
    · rw [hat 0 (by omega), e0]; rfl
    · rw [hat 1 (by omega), e1, mk_list]; rfl
    · rw [hat 2 (by omega), e2]; rfl

theorem arg_open {H : Type} {enc : TypeId × Value → H} {W : World} {spare : Nat → Bool} {held : Bool} {fuel : Nat} {v : Value} {y : DataW H × List MemPlace}
    (h : DataW.trod enc Try.prog W 0 spare held fuel 23 [v] = some y) : ∃ xs : List Span, xs.length ≤ maxLen ∧ ArgRow W v xs := by
  rcases open_slice Try.underlying23 h with ⟨hcs, _⟩ | ⟨a, len, cap, m, n, D, Pl, hcs, _, hl, hm, hmm, _, hi⟩
  · obtain rfl : v = .slice none 0 0 := by simpa using hcs
    exact ⟨[], by simp [maxLen], none, 0, rfl, .inl rfl⟩
  · obtain rfl : v = .slice (some a) len cap := by simpa using hcs
    have hlm : len ≤ m := by rw [hmm]; split <;> omega
    rw [tok_cells] at hi
    obtain ⟨f, hf⟩ := choose_lt (n := len) (p := fun i x => TokAt W (a.add (i * 3)) x) (fun i hil => by
      obtain ⟨cs', hc, ht⟩ := hi i (by omega)
      exact tok_open hc ht)
    have hlen : ((List.range len).map f).length = len := by simp
    refine ⟨(List.range len).map f, by rw [hlen]; omega, some a, cap, by rw [hlen], .inr ⟨a, rfl, ?_⟩⟩
    intro i u hu
    have hib : i < len * 3 := by
      have := (List.getElem?_eq_some_iff.1 hu).1
      rwa [tokCells_len, hlen] at this
    have hj : i / 3 < len := by omega
    have hg : ((List.range len).map f)[i / 3]? = some (f (i / 3)) := by
      rw [List.getElem?_map, List.getElem?_range hj]
      rfl
    obtain ⟨g0, g1, g2⟩ := tokCells_get hg
    obtain ⟨f0, f1, f2⟩ := hf (i / 3) hj
    rw [add_add] at f0 f1 f2
    have hr : i % 3 = 0 ∨ i % 3 = 1 ∨ i % 3 = 2 := by omega
    rcases hr with hr | hr | hr
    · obtain e : i = i / 3 * 3 + 0 := by omega
      rw [e] at hu ⊢
      rw [Nat.add_zero] at hu
      exact f0.trans (g0.symm.trans hu)
    · obtain e : i = i / 3 * 3 + 1 := by omega
      rw [e] at hu ⊢
      exact f1.trans (g1.symm.trans hu)
    · obtain e : i = i / 3 * 3 + 2 := by omega
      rw [e] at hu ⊢
      exact f2.trans (g2.symm.trans hu)
end Go.Proofs.Ytfilmombflohpaa
