/- Tokens, of the package and of the reference: one answer. -/
import Derived.Test.YtfilmombflohpaaR9
set_option linter.unusedSimpArgs false
set_option linter.unusedVariables false
namespace Go.Proofs.Ytfilmombflohpaa
open Go.RowKit Go.ChangeMaps Go.WideMaps Go.Shelf
set_option maxRecDepth 100000

/-- The answer: the tokens, a place, an error. -/
def resT (s : ByteArray) : List Span × Int × Int :=
  if 65536 < s.size then ([], 0, 23)
  else match (spansT s s.data.toList 0).find? (fun x => x.err != 0) with
    | some x => ([], x.at_, x.err)
    | none => (spansT s s.data.toList 0, 0, 0)

theorem find_bad {xs p : List Span} {x : Span} (h : p ++ [x] <+: xs) (hp : ∀ y ∈ p, y.err = 0) (hx : x.err ≠ 0) : xs.find? (fun x => x.err != 0) = some x := by
  obtain ⟨t, rfl⟩ := h
  rw [List.append_assoc, List.find?_append]
  have h1 : p.find? (fun x => x.err != 0) = none := by
    rw [List.find?_eq_none]
    intro y hy
    simp [hp y hy]
  rw [h1]
  simp [hx]
theorem find_good {xs : List Span} (h : ∀ y ∈ xs, y.err = 0) : xs.find? (fun x => x.err != 0) = none := by
  rw [List.find?_eq_none]
  intro y hy
  simp [h y hy]

/-- A list of tokens, a place, an error. -/
def ResPost (t : TypeId) (s : ByteArray) (w : World) (e : Ending) (w' : World) : Prop :=
  ∃ v, e = .returned (.tuple #[v, .int .i64 (resT s).2.1, .int .i64 (resT s).2.2]) ∧ w'.ownsRow w.heap.size t 3 v (resT s).1.length (tokCells (resT s).1) ∧ Below w.heap.size w w'

theorem resT_bad {s : ByteArray} (hs : s.size ≤ 20000) {p : List Span} {x : Span} (h : p ++ [x] <+: spansT s s.data.toList 0) (hp : ∀ y ∈ p, y.err = 0) (hx : x.err ≠ 0) : resT s = ([], x.at_, x.err) := by
  unfold resT
  rw [if_neg (by omega), find_bad h hp hx]
theorem resT_good {s : ByteArray} (hs : s.size ≤ 20000) (h : ∀ y ∈ spansT s s.data.toList 0, y.err = 0) : resT s = (spansT s s.data.toList 0, 0, 0) := by
  unfold resT
  rw [if_neg (by omega), find_good h]
theorem resT_long {s : ByteArray} (hs : 65536 < s.size) : resT s = ([], 0, 23) := by
  unfold resT
  rw [if_pos hs]
theorem resT_len {s : ByteArray} (hs : s.size ≤ 20000) : (resT s).1.length ≤ 20001 := by
  unfold resT
  rw [if_neg (by omega)]
  split
  · simp
  · have := spansF_len kwL sgL (s.size + 1) s.data.toList 0
    rw [← Lib.size_eq] at this
    show (spansF kwL sgL (s.size + 1) s.data.toList 0).length ≤ 20001
    omega

theorem rTokens_res (s : ByteArray) (w : World) (hs : s.size ≤ 20000) : Calls Try.prog 7 #[.string s] w (ResPost 51 s w) :=
  (rTokens_any s w hs).mono fun e w' ⟨hB, h⟩ => by
    unfold ResPost
    rcases h with ⟨h0, v, he, hr⟩ | ⟨p, x, hp, h0, hx, he⟩
    · rw [resT_good hs h0]; exact ⟨v, he, hr, hB⟩
    · rw [resT_bad hs (hp ▸ List.prefix_rfl) h0 hx]; exact ⟨_, he, World.ownsRow_nil _ _ _ _, hB⟩

theorem tokens_res (hS : Spans1) (s : ByteArray) (w : World) (hm : ML w) (hs : s.size ≤ 19999) : Calls Try.prog 8 #[.string s] w (ResPost 47 s w) := by
  have hl := spansF_len kwL sgL (s.size + 1) s.data.toList 0
  rw [← Lib.size_eq] at hl
  refine (tokens_all hS s w (by omega) hm (by show (spansF kwL sgL (s.size + 1) s.data.toList 0).length ≤ 20000; omega)).mono fun e w' ⟨hB, h⟩ => ?_
  unfold ResPost
  rcases h with ⟨h0, v, he, hr⟩ | ⟨p, x, hp, h0, hx, he⟩
  · rw [resT_good (by omega) h0]; exact ⟨v, he, hr, hB⟩
  · rw [resT_bad (by omega) hp h0 hx]; exact ⟨_, he, World.ownsRow_nil _ _ _ _, hB⟩

set_option maxHeartbeats 1000000 in
theorem rTokens_long (s : ByteArray) (w : World) (hs : 65536 < s.size) (hm : s.size ≤ maxLen) : Calls Try.prog 7 #[.string s] w (ResPost 51 s w) := by
  unfold maxLen at hm
  unfold ResPost
  rw [resT_long hs]
  have HB := Lib.hid (Below.refl w.heap.size w)
  go_enter Try.func7, Try.ntmps7
  go_wp2
  go_ret3
  exact ⟨_, rfl, World.ownsRow_nil _ _ _ _, HB.out⟩

set_option maxHeartbeats 1000000 in
theorem tokens_long (s : ByteArray) (w : World) (hs : 65536 < s.size) (hm : s.size ≤ maxLen) : Calls Try.prog 8 #[.string s] w (ResPost 47 s w) := by
  unfold maxLen at hm
  unfold ResPost
  rw [resT_long hs]
  go_enter Try.func8, Try.ntmps8
  go_wp2
  refine bodyPost_ret (v := .tuple #[.slice none 0 0, .int .i64 0, .int .i64 23]) (by simp [results, Try.results8, go_sem]) rfl ⟨_, rfl, World.ownsRow_nil _ _ _ _, ?_⟩
  exact (((Below.refl _ w).alloc (Nat.le_refl _) _).alloc (by simp) _).alloc (by simp; omega) _
end Go.Proofs.Ytfilmombflohpaa
