/- The laws' guard: example 1, and a place. -/
import Derived.Test.YtfilmombflohpaaL13
import Derived.Test.YtfilmombflohpaaL14
import Derived.Test.YtfilmombflohpaaL15
set_option linter.unusedSimpArgs false
set_option linter.unusedVariables false
namespace Go.Proofs.Ytfilmombflohpaa
open Go.RowKit Go.ChangeMaps Go.WideMaps
set_option maxRecDepth 100000

def exS : ByteArray := ⟨#[120, 32, 58, 61, 32, 77, 58, 58, 102, 40, 51, 44, 32, 49, 46, 53, 41, 59, 32, 47, 47, 32, 101, 110, 100]⟩
def exT : List Span := [⟨0, [120], 0, 1, 0⟩, ⟨4, [58, 61], 2, 4, 0⟩, ⟨0, [77, 58, 58, 102], 5, 9, 0⟩, ⟨4, [40], 9, 10, 0⟩, ⟨2, [51], 10, 11, 0⟩, ⟨4, [44], 11, 12, 0⟩, ⟨3, [49, 46, 53], 13, 16, 0⟩, ⟨4, [41], 16, 17, 0⟩, ⟨4, [59], 17, 18, 0⟩]

theorem unmap (xs : List Span) : (xs.map (fun s => (s.kind, s.text, s.at_, s.end_, s.err))).map (fun p => (⟨p.1, p.2.1, p.2.2.1, p.2.2.2.1, p.2.2.2.2⟩ : Span)) = xs := by
  rw [List.map_map]
  exact List.map_id _

theorem exS_spans : spansT exS exS.data.toList 0 = exT := by
  have h1 : spansT exS exS.data.toList 0 = spansF kwL sgL 100 ex1 0 := spansF_fuel kwL sgL _ _ _ _ (by decide) (by decide)
  rw [h1, ← unmap (spansF kwL sgL 100 ex1 0), ex1_spans]
  rfl

set_option maxHeartbeats 2000000 in
theorem awake_any (w : World) (hm : ML w) :
    Calls Try.prog 6 #[] w fun e w' => e = .returned (.bool true) ∧ Below w.heap.size w w' := by
  have HT := Lib.hid (tokens_of spans1 exS w (by decide) hm (by rw [exS_spans]; decide) (by rw [exS_spans]; decide))
  rw [exS_spans] at HT
  have HP := Lib.hid (position_any ⟨#[97, 10, 98, 99, 100]⟩ 4 · (by decide) (by decide))
  rw [show lc (List.take 4 (⟨#[97, 10, 98, 99, 100]⟩ : ByteArray).data.toList) = (2, 3) from by decide] at HP
  go_enter Try.func6, Try.ntmps6
  go_wp2_with (first | (go_at_call 8; refine HT.out.mono ?_; rintro e w1 ⟨v, rfl, hr, hb⟩; obtain ⟨g, cap, rfl⟩ := ownsRow_succ (k := 8) hr; have c6 := cells_of hr 6 (.int .i64 0) rfl; have c7 := cells_of hr 7 (.string ⟨#[77, 58, 58, 102]⟩) rfl; have c8 := cells_of hr 8 (.int .i64 5) rfl; have c20 := cells_of hr 20 (.int .i64 13) rfl; clear hr) | (go_at_call 26; refine (HP.out _).mono ?_; rintro e w2 ⟨rfl, rfl⟩))
  go_ret
  exact ⟨rfl, hb⟩
end Go.Proofs.Ytfilmombflohpaa
