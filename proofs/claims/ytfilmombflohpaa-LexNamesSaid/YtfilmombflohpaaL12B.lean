/- What is said of the iterator over the tokens of a text. -/
import Derived.Test.YtfilmombflohpaaL12
set_option linter.unusedSimpArgs false
set_option linter.unusedVariables false
namespace Go.Proofs.Ytfilmombflohpaa
open Go.RowKit Go.ChangeMaps Go.WideMaps Go.Shelf
set_option maxRecDepth 100000

/-- What is handed to a round. -/
abbrev spanV (x : Span) : Value := .agg #[.int .i64 x.kind, .string (mk x.text), .int .i64 x.at_, .int .i64 x.end_]
abbrev encS (x : Span) : Array Value := #[spanV x, .int .i64 x.err]

/-- The iterator: it hands on what 'spansT' says, one by one, as long as it is asked to go on. -/
def Spans1 : Prop := ∀ (n : Nat) (_ : 1 ≤ n) (l : Nat) (s : ByteArray) (Bt Bs kb sb n₁ n₀ : Nat) (Fb : List Nat) (J Jx : List Span → World → Prop) (W : World)
    (_ : s.size ≤ 65536) (_ : Env s Bt Bs kb sb W) (_ : 0 < n₁) (_ : kb < n₀) (_ : sb < n₀) (_ : Bt ∉ Fb) (_ : Bs ∉ Fb) (_ : ∀ k ∈ Fb, k < W.heap.size) (_ : n₁ ≤ W.heap.size)
    (_ : AbidesFrom W.heap.size J)
    (_ : ∀ pre x W1, J pre W1 → pre.length < (spansT s s.data.toList 0).length → YieldAt Fence.wide (n - 1) Try.prog l (encS x) W1 fun e W' => (e = .returned (.bool true) ∧ J (pre ++ [x]) W' ∧ Kept n₁ n₀ Fb W1 W') ∨ (e = .returned (.bool false) ∧ Jx (pre ++ [x]) W'))
    (_ : J [] W),
    CallsIn Fence.wide n Try.prog 55 #[.func (.yield l) #[] #[], .pointer (some ⟨Bt, 0, none⟩), .pointer (some ⟨Bs, 0, none⟩)] W fun e W' => (∃ v, e = .returned v) ∧ ((∃ ys, ys = spansT s s.data.toList 0 ∧ J ys W') ∨ (∃ pre, pre <+: spansT s s.data.toList 0 ∧ Jx pre W'))

theorem spansF_len (kw sg : List (List UInt8)) : ∀ (f : Nat) (l : List UInt8) (a : Nat), (spansF kw sg f l a).length ≤ l.length + 1
  | 0, _, _ => by simp [spansF]
  | f + 1, l, a => by
    unfold spansF
    have hg := gapI_bd l.length l
    split
    · simp
    · split
      · simp
      · split
        · simp
        · rename_i k n e hfr
          split
          · simp
          · rename_i he
            have he' : e = 0 := by omega
            subst he'
            have hb := firstRule_bd kw sg _ 7 0 k n hfr
            rw [List.length_drop] at hb
            have := spansF_len kw sg f ((l.drop (gapI l.length l).1.toNat).drop n.toNat) (a + (gapI l.length l).1.toNat + n.toNat)
            rw [List.length_drop, List.length_drop] at this
            simp only [List.length_cons]
            omega

/-- The tokens in cells. -/
def tokCells (xs : List Span) : List Value := xs.flatMap fun x => [.int .i64 x.kind, .string (mk x.text), .int .i64 x.at_]
theorem tokCells_snoc (xs : List Span) (x : Span) : tokCells (xs ++ [x]) = tokCells xs ++ [.int .i64 x.kind, .string (mk x.text), .int .i64 x.at_] := by
  simp [tokCells]

theorem info49 : (Try.prog.info? 47).map (fun i => (i.zero, i.size, i.bytes)) = some (some (.agg #[.int .i64 0, .string ⟨#[]⟩, .int .i64 0]), 3, 32) := by kernel_rfl
end Go.Proofs.Ytfilmombflohpaa
