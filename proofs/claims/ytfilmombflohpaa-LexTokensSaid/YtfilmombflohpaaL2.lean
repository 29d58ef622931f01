/- The maps of keywords and signs, and the rules of tokens. -/
import Derived.Test.YtfilmombflohpaaL1
import Derived.Maps.OwnOps
import Derived.Maps.OwnSet
import Derived.Deep.QuietTactic
import Derived.BigQuiet
set_option linter.unusedSimpArgs false
set_option linter.unusedVariables false
namespace Go.Proofs.Ytfilmombflohpaa
open Go.RowKit Go.ChangeMaps Go.WideMaps

theorem zero4 (w : World) : (zeroValue 4).run Try.prog w = .ok (.bool false) w := by kernel_rfl

/-- Is it one of these words? -/
def inK (keys : List (List UInt8)) (s : List UInt8) : Bool := keys.contains s

theorem plainElem_bool_inv {P : Program} {e : TypeId} (he : P.underlying e = some .bool) {v : Value} {z : DataW Unit × List MemPlace} (h : plainElem P e v = some z) : ∃ x, v = .bool x ∧ z = (.lit (.bool x), []) := by
  unfold plainElem at h
  rw [he] at h
  cases v <;> simp at h
  exact ⟨_, rfl, h.symm⟩

/-- Block b is a map from strings to bools that says yes to just these keys. -/
def SetAt (w : World) (b : Nat) (keys : List (List UInt8)) : Prop :=
  ∃ (n : Nat) (D : DataW Unit), n ≤ 1000 ∧ w.ownsMap Try.prog 9 (plainElem Try.prog 4) b n D ∧
    ∀ k : List UInt8, D.atKey (.string k) (.lit (.bool false)) = .lit (.bool (inK keys k))

theorem SetAt.lt {w : World} {b : Nat} {keys : List (List UInt8)} (h : SetAt w b keys) : b < w.heap.size := by
  obtain ⟨n, D, _, ho, _⟩ := h; exact ho.lt

theorem SetAt.below {w w' : World} {b N : Nat} {keys : List (List UInt8)} (h : SetAt w b keys) (hb : Below N w w') (hN : b < N) : SetAt w' b keys := by
  obtain ⟨n, D, hn, ⟨es, clock, he, F, hs, hD⟩, hk⟩ := h
  exact ⟨n, D, hn, ⟨es, clock, (hb.block b hN).trans he, F, hs, hD⟩, hk⟩

theorem SetAt.look {w : World} {b : Nat} {keys : List (List UInt8)} (h : SetAt w b keys) {s : ByteArray} (hs : s.size ≤ maxLen) :
    (Instr.lookup 56 (.map (some b)) (.string s) false).run Try.prog w = .ok (.bool (inK keys s.data.toList)) w := by
  obtain ⟨n, D, hn, ho, hk⟩ := h
  obtain ⟨v, ps, hrun, hv⟩ := ho.lookup (Maps.string_keyed Try.underlying9) Try.underlying56 (zero4 w) (plainElem_bool Try.underlying4 false) (keyOf_string_mk Try.underlying9 hs)
  rw [hk] at hv
  rw [hrun]
  obtain ⟨x, rfl, hx⟩ := plainElem_bool_inv Try.underlying4 hv
  simp only [Prod.mk.injEq, DataW.lit.injEq, Lit.bool.injEq] at hx
  rw [hx.1]

theorem SetAt.made (w : World) : SetAt (w.alloc (.map #[] 0)) w.heap.size [] :=
  ⟨0, .map [], by omega, World.ownsMap_made _ _ _ _, fun k => rfl⟩

theorem SetAt.put {w' : World} {b : Nat} {keys : List (List UInt8)} {n : Nat} {D : DataW Unit} {s : List UInt8}
    (hk : ∀ k : List UInt8, D.atKey (.string k) (.lit (.bool false)) = .lit (.bool (inK keys k))) (hn : n + 1 ≤ 1000)
    (hm : Maps.IsMap D) (h : w'.ownsMap Try.prog 9 (plainElem Try.prog 4) b (n + 1) (D.put (.string s) (.lit (.bool true)))) : SetAt w' b (keys ++ [s]) := by
  refine ⟨n + 1, _, hn, h, fun k => ?_⟩
  by_cases e : k = s
  · subst e
    rw [Maps.atKey_put_same hm (by trivial)]
    simp [inK]
  · rw [Maps.atKey_put_other (by simpa using e), hk]
    simp [inK, e]

theorem wpList_lookup_set (w : World) {ops : Array Oper} {rest : List Oper} {o : Oper} {a : Act} {Q : Exit → Act → World → Prop}
    (m x : Operand) (hop : o.op = Op.lookup 56 m x false) (hg : o.guard = none)
    (b : Nat) (keys : List (List UInt8)) (h : SetAt w b keys) (s : ByteArray)
    (hm : a.eval m = .map (some b)) (hx : a.eval x = .string s) (hs : s.size ≤ maxLen)
    (hK : wpList Try.prog ops Q rest (a.put o.dst (.bool (inK keys s.data.toList))) w) :
    wpList Try.prog ops Q (o :: rest) a w := by
  refine wpList_plain hg fun K' hK' => ?_
  unfold Oper.wp
  simp [execOp, hop, hm, hx, h.look hs, Result.andThen]
  exact hK' _ _ hK

end Go.Proofs.Ytfilmombflohpaa
