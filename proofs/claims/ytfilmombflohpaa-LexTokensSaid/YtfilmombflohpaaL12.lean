/- The iterator over the tokens of a text: what it keeps, and what it asks. -/
import Derived.RangeFuncNested
import Derived.RangeFuncBound
import Derived.RangeFuncCalls
import Derived.RangeFuncLeaves
import Derived.RangeFuncBox
import Derived.Shelf.Abstract
import Derived.Shelf.RegionOpen
import Derived.OwnWalkIn
import Derived.TacticsInMore
import Derived.LoopNIn
import Derived.LoopIn
import Derived.Laws.EntriesVeiled
import Derived.StillTailTactics
import Derived.RegionTactic
import Derived.BigRegion
import Derived.Deep.RegionHeld3
import Derived.IntWalk
import Derived.Test.YtfilmombflohpaaL11
set_option linter.unusedSimpArgs false
set_option linter.unusedVariables false
namespace Go.Proofs.Ytfilmombflohpaa
open Go.RowKit Go.ChangeMaps Go.WideMaps Go.Shelf
set_option maxRecDepth 100000

/-- What a round keeps: whatever lies below n₁; the maps below n₀; all cells but those in the blocks of F and those of tokens. -/
structure Kept (n₁ n₀ : Nat) (F : List Nat) (W W' : World) : Prop where
  size : W.heap.size ≤ W'.heap.size
  low : ∀ k, k < n₁ → W'.heap[k]? = W.heap[k]?
  maps : ∀ k es cl, k < n₀ → W.heap[k]? = some (.map es cl) → W'.heap[k]? = some (.map es cl)
  cells : ∀ k c t fr, W.heap[k]? = some (.cells c t fr) → k ∉ F → t ≠ 47 → W'.heap[k]? = some (.cells c t fr)

theorem Kept.trans {n₁ n₀ : Nat} {F : List Nat} {A B C : World} (h : Kept n₁ n₀ F A B) (k : Kept n₁ n₀ F B C) : Kept n₁ n₀ F A C :=
  ⟨Nat.le_trans h.size k.size, fun i hi => (k.low i hi).trans (h.low i hi), fun i es cl hi he => k.maps i es cl hi (h.maps i es cl hi he), fun i c t fr he hf ht => k.cells i c t fr (h.cells i c t fr he hf ht) hf ht⟩

theorem Kept.of_below {n₁ n₀ : Nat} {F : List Nat} {A B : World} (h : Below A.heap.size A B) (h1 : n₁ ≤ A.heap.size) : Kept n₁ n₀ F A B :=
  ⟨h.size, fun k hk => h.block k (by omega), fun k es cl _ he => (h.block k (Array.getElem?_eq_some_iff.1 he).1).trans he, fun k c t fr he _ _ => (h.block k (Array.getElem?_eq_some_iff.1 he).1).trans he⟩

theorem Kept.putObj {n₁ n₀ : Nat} {F : List Nat} {w : World} (hn : n₁ ≤ w.heap.size) (hn0 : n₀ ≤ w.heap.size) (W : World) (l : Nat) (o o' : Obj) (hl : w.heap.size ≤ l) (h : W.heap[l]? = some o) (ho : o.isCells = false) (_ : o.isWalk = false) : Kept n₁ n₀ F W (W.putObj l o') :=
  ⟨by simp, fun k hk => World.putObj_heap_other (by omega), fun k es cl hk he => (World.putObj_heap_other (by omega)).trans he,
    fun k c t fr he _ _ => (World.putObj_heap_other (by rintro rfl; rw [h] at he; cases he; cases ho)).trans he⟩

/-- What the iterator reads. -/
structure Env (s : ByteArray) (Bt Bs kb sb : Nat) (W : World) : Prop where
  text : W.heap[Bt]? = some (.cells #[.string s] 9 (0, 0))
  scan : W.heap[Bs]? = some (.cells #[.map (some kb), .map (some sb)] 58 (0, 0))
  kw : SetAt W kb kwL
  sg : SetAt W sb sgL
  ml : ML W

theorem SetAt.same {w w' : World} {b : Nat} {keys : List (List UInt8)} (h : SetAt w b keys) (hb : ∀ es cl, w.heap[b]? = some (.map es cl) → w'.heap[b]? = some (.map es cl)) : SetAt w' b keys := by
  obtain ⟨n, D, hn, ⟨es, clock, he, F, hs, hD⟩, hk⟩ := h
  exact ⟨n, D, hn, ⟨es, clock, hb _ _ he, F, hs, hD⟩, hk⟩

theorem ML.same {w w' : World} (h : ML w) (hb : w'.heap[0]? = w.heap[0]?) : ML w' := by
  obtain ⟨m, hm⟩ := h
  exact ⟨m, (World.cell?_of_block (a := ⟨0, 0, none⟩) hb).trans hm⟩

theorem Env.kept {s : ByteArray} {Bt Bs kb sb n₁ n₀ : Nat} {F : List Nat} {W W' : World} (h : Env s Bt Bs kb sb W) (hk : Kept n₁ n₀ F W W') (h1 : 0 < n₁) (hkb : kb < n₀) (hsb : sb < n₀) (hBt : Bt ∉ F) (hBs : Bs ∉ F) : Env s Bt Bs kb sb W' :=
  ⟨hk.cells _ _ _ _ h.text hBt (by decide), hk.cells _ _ _ _ h.scan hBs (by decide), h.kw.same fun es cl he => hk.maps _ es cl hkb he, h.sg.same fun es cl he => hk.maps _ es cl hsb he, h.ml.same (hk.low 0 h1)⟩

theorem Env.below {s : ByteArray} {Bt Bs kb sb : Nat} {W W' : World} (h : Env s Bt Bs kb sb W) (hb : Below W.heap.size W W') : Env s Bt Bs kb sb W' :=
  ⟨(hb.block _ (Array.getElem?_eq_some_iff.1 h.text).1).trans h.text, (hb.block _ (Array.getElem?_eq_some_iff.1 h.scan).1).trans h.scan, h.kw.below hb h.kw.lt, h.sg.below hb h.sg.lt, h.ml.below hb h.ml.lt⟩

theorem Env.t {s : ByteArray} {Bt Bs kb sb : Nat} {W : World} (h : Env s Bt Bs kb sb W) : W.cell? ⟨Bt, 0, none⟩ = some (.string s) := by
  unfold World.cell?; rw [h.text]; rfl
theorem Env.s0 {s : ByteArray} {Bt Bs kb sb : Nat} {W : World} (h : Env s Bt Bs kb sb W) : W.cell? ⟨Bs, 0, none⟩ = some (.map (some kb)) := by
  unfold World.cell?; rw [h.scan]; rfl
theorem Env.s1 {s : ByteArray} {Bt Bs kb sb : Nat} {W : World} (h : Env s Bt Bs kb sb W) : W.cell? ⟨Bs, 1, none⟩ = some (.map (some sb)) := by
  unfold World.cell?; rw [h.scan]; rfl

end Go.Proofs.Ytfilmombflohpaa
