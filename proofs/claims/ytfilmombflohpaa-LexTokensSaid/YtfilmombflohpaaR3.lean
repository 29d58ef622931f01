/- The reference's signs. -/
import Derived.BigQuiet
import Derived.Deep.QuietTactic
import Derived.Test.YtfilmombflohpaaR2
set_option linter.unusedSimpArgs false
set_option linter.unusedVariables false
namespace Go.Proofs.Ytfilmombflohpaa
open Go.RowKit Go.ChangeMaps Go.WideMaps
set_option maxRecDepth 100000

set_option maxHeartbeats 1000000 in
theorem rSigns_any (w : World) :
    Calls Try.prog 15 #[] w fun e w' => e = .returned (.slice (some ⟨w.heap.size, 0, none⟩) 39 39) ∧ w' = w.alloc (.cells (strCells sgL) 9) := by
  go_enter Try.func15, Try.ntmps15
  go_wp2
  go_ret
  exact ⟨rfl, rfl⟩

/-- The longest of these at the start, if it is longer than n. -/
def longest (l : List UInt8) (ss : List (List UInt8)) (n : Nat) : Nat := ss.foldl (fun n x => if n < x.length ∧ x.length ≤ l.length ∧ l.take x.length = x then x.length else n) n
/-- How long the sign at the start is. -/
def headU : List UInt8 → Bool
  | [] => false
  | c :: _ => (c.toNat : Int) == 95
def rSignL (l : List UInt8) : Nat := if longest l sgL 0 = 0 ∧ headU l = true then 1 else longest l sgL 0
theorem headU_cons {s : ByteArray} (h : 0 < s.size) : headU s.data.toList = ((s[0].toNat : Int) == 95) := by
  rw [head_cons h]; rfl

theorem longest_step (l : List UInt8) (ss : List (List UInt8)) (k : Nat) (h : k < ss.length) : longest l (ss.take (k + 1)) 0 = if longest l (ss.take k) 0 < (ss.getD k []).length ∧ (ss.getD k []).length ≤ l.length ∧ l.take (ss.getD k []).length = ss.getD k [] then (ss.getD k []).length else longest l (ss.take k) 0 := by
  unfold longest
  rw [List.take_add_one, List.getElem?_eq_getElem h, List.foldl_append]
  simp [List.getD, h]
end Go.Proofs.Ytfilmombflohpaa
