/- Lists of tokens: converted, compared; lists of strings compared. -/
import Derived.Test.YtfilmombflohpaaR8
import Derived.BigQuiet
import Derived.Deep.QuietTactic
set_option linter.unusedSimpArgs false
set_option linter.unusedVariables false
namespace Go.Proofs.Ytfilmombflohpaa
open Go.RowKit Go.ChangeMaps Go.WideMaps Go.Shelf
set_option maxRecDepth 100000

theorem tokCells_take (xs : List Span) : ∀ k, k < xs.length → ∃ x, xs.take (k + 1) = xs.take k ++ [x] ∧ (tokCells xs)[k * 3]? = some (.int .i64 x.kind) ∧ (tokCells xs)[k * 3 + 1]? = some (.string (mk x.text)) ∧ (tokCells xs)[k * 3 + 2]? = some (.int .i64 x.at_) := by
  induction xs with
  | nil => intro k h; simp at h
  | cons y ys ih =>
    intro k h
    have e : tokCells (y :: ys) = .int .i64 y.kind :: .string (mk y.text) :: .int .i64 y.at_ :: tokCells ys := rfl
    rw [e]
    cases k with
    | zero => exact ⟨y, by simp, rfl, rfl, rfl⟩
    | succ k =>
      obtain ⟨x, h1, h2, h3, h4⟩ := ih k (by simpa using h)
      refine ⟨x, by simp [h1], ?_, ?_, ?_⟩
      · rw [show (k + 1) * 3 = k * 3 + 3 by omega]; exact h2
      · rw [show (k + 1) * 3 + 1 = k * 3 + 1 + 3 by omega]; exact h3
      · rw [show (k + 1) * 3 + 2 = k * 3 + 2 + 3 by omega]; exact h4

theorem row_cell {w : World} {base n g size cap : Nat} {e : TypeId} {xs : List Value} (h : w.ownsRow base e size (.slice (some ⟨g, 0, none⟩) n cap) n xs) {i : Nat} {v : Value} (hv : xs[i]? = some v) : w.cell? ⟨g, i, none⟩ = some v := by
  rcases h.2 with ⟨h, _⟩ | ⟨g', cap', cur, h, _, hg, _, _, _, ht⟩
  · cases h
  · cases h
    have hh : w.heap[g]? = some (.cells cur e (0, 0)) := hg
    unfold World.cell?
    rw [hh]
    rw [← ht] at hv
    have : cur.toList[i]? = some v := by
      rw [List.getElem?_take] at hv
      split at hv
      · exact hv
      · cases hv
    simpa using this

theorem row_shape {w : World} {base n size : Nat} {e : TypeId} {v : Value} {xs : List Value} (h : w.ownsRow base e size v n xs) : (v = .slice none 0 0 ∧ n = 0) ∨ ∃ g cap, v = .slice (some ⟨g, 0, none⟩) n cap ∧ g < w.heap.size := by
  rcases h.2 with h | ⟨g, cap, cur, rfl, _, hg, _⟩
  · exact .inl h
  · exact .inr ⟨g, cap, rfl, (Array.getElem?_eq_some_iff.1 hg).1⟩

set_option maxHeartbeats 4000000 in
theorem ours_any (xs : List Span) (v : Value) (N : Nat) (w : World) (hx : xs.length ≤ 20001) (hr : w.ownsRow N 47 3 v xs.length (tokCells xs)) :
    Calls Try.prog 10 #[v] w fun e w' => ∃ v', e = .returned v' ∧ w'.ownsRow w.heap.size 51 3 v' xs.length (tokCells xs) ∧ Below w.heap.size w w' := by
  obtain ⟨i0, hi, hz0, hz1, hz2⟩ := info_parts info53
  have HC := fun k hk => tokCells_take xs k hk
  have HC := Lib.hid HC
  rcases row_shape hr with ⟨rfl, h0⟩ | ⟨g, cap, rfl, hg⟩
  · have hxs : xs = [] := List.eq_nil_of_length_eq_zero h0
    subst hxs
    have HB := Lib.hid (Below.refl w.heap.size w)
    clear HC hr h0
    go_enter Try.func10, Try.ntmps10
    go_wp2
    refine wp_loop_rounds 1 ?_
    rw [rounds_succ]
    go_wp2
    go_ret
    exact ⟨_, rfl, World.ownsRow_nil _ _ _ _, HB.out⟩
  · obtain ⟨n, hn⟩ : ∃ n, xs.length = n := ⟨_, rfl⟩
    rw [hn] at hx hr ⊢
    have HR := Lib.hid hr
    have HN := Lib.hid hn
    clear hr hn
    obtain ⟨B, hB⟩ : ∃ B, w.heap.size = B := ⟨_, rfl⟩
    rw [hB] at hg ⊢
    have HB0 := Lib.hid (show Below B w w ∧ B ≤ w.heap.size from ⟨Below.refl _ _, by rw [hB]; exact Nat.le_refl _⟩)
    clear hB
    go_enter Try.func10, Try.ntmps10
    go_wp2
    go_loopw [3, 8] (fun v i wr => ∃ k : Nat, k ≤ n ∧ i = .int .i64 k ∧ Hid (wr.ownsRow B 51 3 v k (tokCells (xs.take k))) ∧ Hid (Below B w wr ∧ B ≤ wr.heap.size)) (fun _ i _ => n - (intOf i).toNat)
    case atStart => exact ⟨0, Nat.zero_le _, rfl, World.ownsRow_nil _ _ _ _, HB0⟩
    case round =>
      obtain ⟨k, hk, rfl, HO, HB⟩ := hrel
      clear HB0
      by_cases hlt : k < n
      · obtain ⟨x, ht, e0, e1, e2⟩ := HC.out k (by rw [HN.out]; exact hlt)
        have c0 := (HB.out.1.cell (p := ⟨g, k * 3, none⟩) hg).trans (row_cell HR.out e0)
        have c1 := (HB.out.1.cell (p := ⟨g, k * 3 + 1, none⟩) hg).trans (row_cell HR.out e1)
        have c2 := (HB.out.1.cell (p := ⟨g, k * 3 + 2, none⟩) hg).trans (row_cell HR.out e2)
        have HT := Lib.hid ht
        clear e0 e1 e2 ht
        go_wp2_with (at_builtin; refine wpList_append_own _ rfl _ _ 23 rfl B 51 i0 (.agg #[.int .i64 0, .string ⟨#[]⟩, .int .i64 0]) 3 32 Try.underlying23 hi hz0 hz1 hz2 rfl (by decide) _ _ _ rfl ((HO.out.alloc _).alloc _) ⟨wr.heap.size + 1, 0, none⟩ 1 1 [.int .i64 x.kind, .string (mk x.text), .int .i64 x.at_] rfl rfl (cell_three_new2 _ _ _ _ _ _) (by simp [Value.oneCell']) (by simp [maxLen]; omega) (by omega) (by have := HB.out.2; simp; omega) ?_; intro v' w2 hown' hgrow _; have HG := Lib.hid (show Below B w w2 ∧ B ≤ w2.heap.size from ⟨grow_below HB.out.1 HB.out.2 HO.out hgrow, by have h1 := hgrow.size; have h2 := HB.out.2; rw [World.size_alloc, World.size_alloc] at h1; omega⟩))
        go_roundw
        case rel =>
          refine ⟨k + 1, by omega, by go_num, ?_, HG⟩
          show World.ownsRow _ _ _ _ _ _ _
          rw [HT.out, tokCells_snoc]
          simpa using hown'
        case measure => simp [intOf]; omega
      · obtain rfl : k = n := by omega
        have HX : Hid (xs.take k = xs) := by show _ = _; rw [← HN.out]; exact List.take_length
        go_wp2
        go_ret
        exact ⟨_, rfl, by have := HO.out; rwa [HX.out] at this, HB.out.1⟩

/-- Two rows of the same tokens. -/
def TokRow (w : World) (v : Value) (xs : List Span) : Prop :=
  (v = .slice none 0 0 ∧ xs.length = 0) ∨ ∃ g cap, v = .slice (some ⟨g, 0, none⟩) xs.length cap ∧ ∀ i u, (tokCells xs)[i]? = some u → w.cell? ⟨g, i, none⟩ = some u
theorem TokRow.of {w : World} {base : Nat} {e : TypeId} {v : Value} {xs : List Span} (h : w.ownsRow base e 3 v xs.length (tokCells xs)) : TokRow w v xs := by
  rcases row_shape h with h0 | ⟨g, cap, rfl, _⟩
  · exact .inl h0
  · exact .inr ⟨g, cap, rfl, fun i u hu => row_cell h hu⟩

set_option maxHeartbeats 4000000 in
theorem sameTokens_any (xs : List Span) (v v' : Value) (w : World) (hx : xs.length ≤ 20001) (h1 : TokRow w v xs) (h2 : TokRow w v' xs) :
    Calls Try.prog 9 #[v, v'] w fun e w' => e = .returned (.bool true) ∧ ∃ n, w.drewN n = w' := by
  have HC := fun k hk => tokCells_take xs k hk
  have HC := Lib.hid HC
  rcases h1 with ⟨rfl, h0⟩ | ⟨g, cap, rfl, hg⟩
  · rcases h2 with ⟨rfl, _⟩ | ⟨g', cap', rfl, _⟩
    · go_enter Try.func9, Try.ntmps9
      go_wp2
      refine wp_loop_rounds 1 ?_
      rw [rounds_succ]
      go_wp2
      go_ret
      exact ⟨rfl, 0, rfl⟩
    · rw [h0]
      go_enter Try.func9, Try.ntmps9
      go_wp2
      refine wp_loop_rounds 1 ?_
      rw [rounds_succ]
      go_wp2
      go_ret
      exact ⟨rfl, 0, rfl⟩
  · obtain ⟨g', cap', rfl, hg'⟩ : ∃ g' cap', v' = .slice g' xs.length cap' ∧ (xs.length = 0 ∨ ∃ b, g' = some ⟨b, 0, none⟩ ∧ ∀ i u, (tokCells xs)[i]? = some u → w.cell? ⟨b, i, none⟩ = some u) := by
      rcases h2 with ⟨rfl, h0⟩ | ⟨g', cap', rfl, hg'⟩
      · exact ⟨none, 0, by rw [h0], .inl h0⟩
      · exact ⟨some ⟨g', 0, none⟩, cap', rfl, .inr ⟨g', rfl, hg'⟩⟩
    obtain ⟨n, hn⟩ : ∃ n, xs.length = n := ⟨_, rfl⟩
    rw [hn] at hx hg' ⊢
    have HG := Lib.hid hg
    have HG' := Lib.hid hg'
    have HN := Lib.hid hn
    clear hg hg' hn
    go_enter Try.func9, Try.ntmps9
    go_wp2
    go_loopw [5] (fun i wr => ∃ k : Nat, k ≤ n ∧ i = .int .i64 k ∧ ∃ m, wr = w.drewN m) (fun i _ => n - (intOf i).toNat)
    case atStart => exact ⟨0, Nat.zero_le _, rfl, 0, rfl⟩
    case round =>
      obtain ⟨k, hk, rfl, m, rfl⟩ := hrel
      by_cases hlt : k < n
      · obtain ⟨x, _, e0, e1, e2⟩ := HC.out k (by rw [HN.out]; exact hlt)
        obtain ⟨b, rfl, HB⟩ : ∃ b, g' = some ⟨b, 0, none⟩ ∧ Hid (∀ i u, (tokCells xs)[i]? = some u → w.cell? ⟨b, i, none⟩ = some u) := by
          rcases HG'.out with h | ⟨b, h, h'⟩
          · omega
          · exact ⟨b, h, h'⟩
        have c0 := HG.out _ _ e0
        have c1 := HG.out _ _ e1
        have c2 := HG.out _ _ e2
        have d0 := HB.out _ _ e0
        have d1 := HB.out _ _ e1
        have d2 := HB.out _ _ e2
        clear e0 e1 e2
        go_wp2
        go_quiet (fail)
        go_wp2
        go_roundw
        case rel => exact ⟨k + 1, by omega, by go_num, _, rfl⟩
        case measure => simp [intOf]; omega
      · go_wp2
        go_ret
        exact ⟨rfl, m, rfl⟩

set_option maxHeartbeats 4000000 in
theorem sameStrings_any (ls : List (List UInt8)) (b b' n : Nat) (w : World) (hx : n ≤ 1000) (hn : ls.length = n) (h1 : RowAt w b ls) (h2 : RowAt w b' ls) :
    Calls Try.prog 11 #[.slice (some ⟨b, 0, none⟩) n n, .slice (some ⟨b', 0, none⟩) n n] w fun e w' => e = .returned (.bool true) ∧ ∃ n, w.drewN n = w' := by
  have H1 := Lib.hid h1
  have H2 := Lib.hid h2
  have HN := Lib.hid hn
  clear h1 h2 hn
  go_enter Try.func11, Try.ntmps11
  go_wp2
  go_loopw [5] (fun i wr => ∃ k : Nat, k ≤ n ∧ i = .int .i64 k ∧ ∃ m, wr = w.drewN m) (fun i _ => n - (intOf i).toNat)
  case atStart => exact ⟨0, Nat.zero_le _, rfl, 0, rfl⟩
  case round =>
    obtain ⟨k, hk, rfl, m, rfl⟩ := hrel
    by_cases hlt : k < n
    · have c0 := H1.out k (by rw [HN.out]; exact hlt)
      have c1 := H2.out k (by rw [HN.out]; exact hlt)
      go_wp2
      go_quiet (fail)
      go_wp2
      go_roundw
      case rel => exact ⟨k + 1, by omega, by go_num, _, rfl⟩
      case measure => simp [intOf]; omega
    · go_wp2
      go_ret
      exact ⟨rfl, m, rfl⟩

theorem r3Keywords_any (w : World) :
    Calls Try.prog 13 #[] w fun e w' => e = .returned (.slice (some ⟨w.heap.size, 0, none⟩) 57 57) ∧ RowAt w' w.heap.size kwL ∧ Below w.heap.size w w' ∧ w.heap.size < w'.heap.size := by
  go_enter Try.func13, Try.ntmps13
  have HR : ∀ W, W = w.alloc (.cells (strCells kwL) 9) → Hid (RowAt W w.heap.size kwL ∧ Below w.heap.size w W ∧ w.heap.size < W.heap.size) := by
    rintro W rfl
    exact ⟨fun j hj => strCells_cell w kwL j hj, (Below.refl _ w).alloc (Nat.le_refl _) _, by simp⟩
  go_wp2_with (go_at_call 31; refine (rKeywords_any w).mono ?_; rintro e W ⟨rfl, hW⟩; have HW := HR W hW; clear hW)
  go_ret
  exact ⟨rfl, HW.out⟩
theorem strs_row {f : Nat} {ls : List (List UInt8)} {n : Nat} (h : ∀ w, Calls Try.prog f #[] w fun e w' => e = .returned (.slice (some ⟨w.heap.size, 0, none⟩) n n) ∧ w' = w.alloc (.cells (strCells ls) 9)) (w : World) :
    Calls Try.prog f #[] w fun e w' => e = .returned (.slice (some ⟨w.heap.size, 0, none⟩) n n) ∧ RowAt w' w.heap.size ls ∧ Below w.heap.size w w' ∧ w.heap.size < w'.heap.size :=
  (h w).mono fun _ _ ⟨he, hw⟩ => ⟨he, by subst hw; exact ⟨fun j hj => strCells_cell w ls j hj, (Below.refl _ w).alloc (Nat.le_refl _) _, by simp⟩⟩
end Go.Proofs.Ytfilmombflohpaa
