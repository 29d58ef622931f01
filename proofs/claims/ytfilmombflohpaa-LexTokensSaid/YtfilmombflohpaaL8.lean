/- The keywords and signs, and the maps of them. -/
import Derived.Test.YtfilmombflohpaaL7
set_option linter.unusedSimpArgs false
set_option linter.unusedVariables false
namespace Go.Proofs.Ytfilmombflohpaa
open Go.RowKit Go.ChangeMaps Go.WideMaps
set_option maxRecDepth 100000

/-- The keywords, in ascending order. -/
def kwL : List (List UInt8) := [[97, 114, 114, 97, 121], [97, 115], [97, 115, 115, 101, 114, 116], [97, 115, 115, 117, 109, 101], [98, 111, 111, 108], [98, 121], [99, 97, 108, 99], [99, 97, 108, 108], [99, 97, 115, 101], [99, 108, 97, 115, 115], [99, 111, 110, 115, 116], [100, 97, 116, 97, 116, 121, 112, 101], [100, 101, 99, 114, 101, 97, 115, 101, 115], [101, 108, 115, 101], [101, 110, 115, 117, 114, 101, 115], [101, 120, 105, 115, 116, 115], [101, 120, 112, 111, 114, 116], [102, 97, 108, 115, 101], [102, 111, 114, 97, 108, 108], [102, 114, 101, 115, 104], [102, 117, 101, 108], [102, 117, 110, 99, 116, 105, 111, 110], [103, 104, 111, 115, 116], [103, 114, 101, 97, 116, 101, 115, 116], [104, 105, 100, 100, 101, 110], [105, 102], [105, 109, 112, 111, 114, 116], [105, 110], [105, 110, 116], [105, 110, 118, 97, 114, 105, 97, 110, 116], [108, 101, 97, 115, 116], [108, 101, 109, 109, 97], [109, 97, 112], [109, 97, 116, 99, 104], [109, 101, 116, 104, 111, 100], [109, 111, 100, 105, 102, 105, 101, 115], [109, 111, 100, 117, 108, 101], [109, 117, 108, 116, 105, 115, 101, 116], [110, 101, 119], [111, 108, 100], [111, 112, 97, 113, 117, 101], [112, 114, 105, 110, 116], [114, 101, 97, 100, 115], [114, 101, 97, 108], [114, 101, 102, 105, 110, 101, 115], [114, 101, 113, 117, 105, 114, 101, 115], [114, 101, 116, 117, 114, 110], [114, 101, 116, 117, 114, 110, 115], [114, 101, 118, 101, 97, 108], [115, 101, 113], [115, 101, 116], [116, 104, 101, 110], [116, 114, 117, 101], [116, 121, 112, 101], [118, 97, 114], [119, 104, 105, 108, 101], [119, 105, 116, 110, 101, 115, 115]]
/-- The signs, in ascending order. -/
def sgL : List (List UInt8) := [[33], [33, 61], [35], [37], [38], [38, 38], [40], [41], [42], [43], [44], [45], [46], [46, 46], [47], [58], [58, 58], [58, 61], [58, 124], [59], [60], [60, 60], [60, 61], [60, 61, 61, 62], [61], [61, 61], [61, 61, 62], [61, 62], [62], [62, 61], [62, 62], [63], [91], [93], [94], [123], [124], [124, 124], [125]]

/-- Strings in cells. -/
def strCells (l : List (List UInt8)) : Array Value := (l.map fun x => Value.string (mk x)).toArray

set_option maxHeartbeats 1000000 in
theorem keywords_any (w : World) :
    Calls Try.prog 12 #[] w fun e w' => e = .returned (.slice (some ⟨w.heap.size, 0, none⟩) 57 57) ∧ w' = w.alloc (.cells (strCells kwL) 9) := by
  go_enter Try.func12, Try.ntmps12
  go_wp2
  go_ret
  exact ⟨rfl, rfl⟩

set_option maxHeartbeats 1000000 in
theorem signs_any (w : World) :
    Calls Try.prog 14 #[] w fun e w' => e = .returned (.slice (some ⟨w.heap.size, 0, none⟩) 39 39) ∧ w' = w.alloc (.cells (strCells sgL) 9) := by
  go_enter Try.func14, Try.ntmps14
  go_wp2
  go_ret
  exact ⟨rfl, rfl⟩

theorem strCells_cell (w : World) (l : List (List UInt8)) (j : Nat) (h : j < l.length) : (w.alloc (.cells (strCells l) 9)).cell? ⟨w.heap.size, j, none⟩ = some (.string (mk (l.getD j []))) := by
  have h0 : (w.alloc (.cells (strCells l) 9)).heap[w.heap.size]? = some (.cells (strCells l) 9) := by
    show (w.heap.push _)[w.heap.size]? = _
    simp
  unfold World.cell?
  rw [h0]
  simp [strCells, h]
end Go.Proofs.Ytfilmombflohpaa
