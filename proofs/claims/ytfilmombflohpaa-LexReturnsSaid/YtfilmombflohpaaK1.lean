/- Lists of tokens that came in: bounded, converted. -/
import Derived.Test.YtfilmombflohpaaR9
import Derived.Test.YtfilmombflohpaaJ7
set_option linter.unusedSimpArgs false
set_option linter.unusedVariables false
namespace Go.Proofs.Ytfilmombflohpaa
open Go.RowKit Go.ChangeMaps Go.WideMaps Go.Shelf
set_option maxRecDepth 100000

/-- A slice that came in, read as tokens. -/
def ArgRow (w : World) (v : Value) (xs : List Span) : Prop :=
  ∃ o cap, v = .slice o xs.length cap ∧ (xs.length = 0 ∨ ∃ a, o = some a ∧ ∀ i u, (tokCells xs)[i]? = some u → w.cell? (a.add i) = some u)
theorem add_block (a : Addr) (i : Nat) : (a.add i).block = a.block := by unfold Addr.add; split <;> rfl
theorem add_next (a : Addr) (i j : Nat) (hj : 0 < j) : a.add (i + j) = ⟨(a.add i).block, (a.add i).off + j, none⟩ := by
  unfold Addr.add
  rw [if_neg (by omega)]
  by_cases hi : i = 0
  · rw [if_pos hi, hi, Nat.zero_add]
  · rw [if_neg hi, Nat.add_assoc]
theorem lt_of_at {w : World} {p : Addr} {u : Value} (h : w.cell? p = some u) : p.block < w.heap.size := by
  rcases Nat.lt_or_ge p.block w.heap.size with h' | h'
  · exact h'
  · unfold World.cell? at h
    rw [Array.getElem?_eq_none h'] at h
    simp at h
theorem ArgRow.below {w w' : World} {v : Value} {xs : List Span} (h : ArgRow w v xs) (hb : Below w.heap.size w w') : ArgRow w' v xs := by
  obtain ⟨o, cap, rfl, h⟩ := h
  refine ⟨o, cap, rfl, ?_⟩
  rcases h with h | ⟨a, rfl, h⟩
  · exact .inl h
  · exact .inr ⟨a, rfl, fun i u hu => (hb.cell (lt_of_at (h i u hu))).trans (h i u hu)⟩

/-- The law's bound. -/
def shortB (xs : List Span) : Bool := xs.all (fun x => decide (x.text.length ≤ 200)) && decide (xs.length ≤ 80)

set_option maxHeartbeats 4000000 in
theorem short_any (xs : List Span) (v : Value) (w : World) (hn : xs.length ≤ maxLen) (h : ArgRow w v xs) :
    Calls Try.prog 22 #[v] w fun e w' => e = .returned (.bool (shortB xs)) ∧ Below w.heap.size w w' := by
  have HC := Lib.hid (fun k hk => tokCells_take xs k hk)
  obtain ⟨n, hxn⟩ : ∃ n, xs.length = n := ⟨_, rfl⟩
  obtain ⟨o, cap, rfl, h⟩ := h
  have HV := Lib.hid h
  have HN := Lib.hid hxn
  rw [hxn] at hn ⊢
  unfold maxLen at hn
  have HB0 := Lib.hid (Below.refl w.heap.size w)
  clear h hxn
  go_enter Try.func22, Try.ntmps22
  go_wp2
  go_loopw [7] (fun i wr => ∃ k : Nat, k ≤ n ∧ i = .int .i64 k ∧ Hid (Below w.heap.size w wr) ∧ Hid (∀ x ∈ xs.take k, x.text.length ≤ 200)) (fun i _ => n - (intOf i).toNat)
  case atStart => exact ⟨0, Nat.zero_le _, rfl, HB0, by show ∀ x ∈ xs.take 0, _; intro x hx; simp at hx⟩
  case round =>
    clear HB0
    obtain ⟨k, hk, rfl, HB, HL⟩ := hrel
    by_cases hlt : k < n
    · obtain ⟨x, ht, e0, e1, e2⟩ := HC.out k (by rw [HN.out]; exact hlt)
      obtain ⟨a, rfl, ha⟩ : ∃ a, o = some a ∧ ∀ i u, (tokCells xs)[i]? = some u → w.cell? (a.add i) = some u := by
        rcases HV.out with h | h
        · have := HN.out; omega
        · exact h
      have c0 := (HB.out.cell (lt_of_at (ha _ _ e0))).trans (ha _ _ e0)
      have c1 := (HB.out.cell (lt_of_at (ha _ _ e1))).trans (ha _ _ e1)
      have c2 := (HB.out.cell (lt_of_at (ha _ _ e2))).trans (ha _ _ e2)
      have HT := Lib.hid ht
      rw [add_next a (k * 3) 1 (by omega)] at c1
      rw [add_next a (k * 3) 2 (by omega)] at c2
      clear e0 e1 e2 ht ha
      go_wp2_with fail
      · rename_i hbig
        go_ret
        refine ⟨ret_bool ?_, HB.out.alloc (HB.out.size) _⟩
        have hx : x ∈ xs := List.mem_of_mem_take (i := k + 1) (by rw [HT.out]; simp)
        symm
        unfold shortB
        rw [Bool.and_eq_false_iff]
        refine .inl ?_
        rw [List.all_eq_false]
        exact ⟨x, hx, by simp; omega⟩
      · rename_i hsm
        refine ⟨⟨k + 1, by omega, by go_num, HB.out.alloc (HB.out.size) _, ?_⟩, ?_⟩
        · show ∀ y ∈ xs.take (k + 1), _
          rw [HT.out]
          intro y hy
          rcases List.mem_append.1 hy with h | h
          · exact HL.out y h
          · obtain rfl : y = x := by simpa using h
            omega
        · simp [intOf]; omega
    · obtain rfl : k = n := by omega
      go_wp2_with fail
      go_ret
      refine ⟨ret_bool ?_, HB.out⟩
      unfold shortB
      have h1 : (xs.all fun x => decide (x.text.length ≤ 200)) = true := by
        rw [List.all_eq_true]
        intro x hx
        simpa using HL.out x (by rw [show xs.take k = xs from List.take_of_length_le (Nat.le_of_eq HN.out)]; exact hx)
      rw [h1, Bool.true_and, HN.out]
      simp
      omega

set_option maxHeartbeats 4000000 in
theorem theirs_any (xs : List Span) (v : Value) (w : World) (hx : xs.length ≤ 80) (h : ArgRow w v xs) :
    Calls Try.prog 24 #[v] w fun e w' => ∃ v', e = .returned v' ∧ w'.ownsRow w.heap.size 47 3 v' xs.length (tokCells xs) ∧ Below w.heap.size w w' := by
  obtain ⟨i0, hi, hz0, hz1, hz2⟩ := info_parts info49
  have HC := Lib.hid (fun k hk => tokCells_take xs k hk)
  obtain ⟨n, hxn⟩ : ∃ n, xs.length = n := ⟨_, rfl⟩
  obtain ⟨o, cap, rfl, h⟩ := h
  have HV := Lib.hid h
  have HN := Lib.hid hxn
  rw [hxn] at hx ⊢
  obtain ⟨B, hB⟩ : ∃ B, w.heap.size = B := ⟨_, rfl⟩
  have HB0 := Lib.hid (show Below B w w ∧ B ≤ w.heap.size from ⟨Below.refl _ _, by rw [hB]; exact Nat.le_refl _⟩)
  have HBE := Lib.hid hB
  rw [hB]
  clear h hxn hB
  go_enter Try.func24, Try.ntmps24
  go_wp2
  go_loopw [3, 8] (fun v i wr => ∃ k : Nat, k ≤ n ∧ i = .int .i64 k ∧ Hid (wr.ownsRow B 47 3 v k (tokCells (xs.take k))) ∧ Hid (Below B w wr ∧ B ≤ wr.heap.size)) (fun _ i _ => n - (intOf i).toNat)
  case atStart => exact ⟨0, Nat.zero_le _, rfl, World.ownsRow_nil _ _ _ _, HB0⟩
  case round =>
    obtain ⟨k, hk, rfl, HO, HB⟩ := hrel
    clear HB0
    by_cases hlt : k < n
    · obtain ⟨x, ht, e0, e1, e2⟩ := HC.out k (by rw [HN.out]; exact hlt)
      obtain ⟨a, rfl, ha⟩ : ∃ a, o = some a ∧ ∀ i u, (tokCells xs)[i]? = some u → w.cell? (a.add i) = some u := by
        rcases HV.out with h | h
        · have := HN.out; omega
        · exact h
      have hlt2 : ∀ i u, (tokCells xs)[i]? = some u → (a.add i).block < B := fun i u hu => by rw [← HBE.out]; exact lt_of_at (ha i u hu)
      have c0 := (HB.out.1.cell (hlt2 _ _ e0)).trans (ha _ _ e0)
      have c1 := (HB.out.1.cell (hlt2 _ _ e1)).trans (ha _ _ e1)
      have c2 := (HB.out.1.cell (hlt2 _ _ e2)).trans (ha _ _ e2)
      have HT := Lib.hid ht
      rw [add_next a (k * 3) 1 (by omega)] at c1
      rw [add_next a (k * 3) 2 (by omega)] at c2
      clear e0 e1 e2 ht ha hlt2
      go_wp2_with (at_builtin; refine wpList_append_own _ rfl _ _ 26 rfl B 47 i0 (.agg #[.int .i64 0, .string ⟨#[]⟩, .int .i64 0]) 3 32 Try.underlying26 hi hz0 hz1 hz2 rfl (by decide) _ _ _ rfl ((HO.out.alloc _).alloc _) ⟨wr.heap.size + 1, 0, none⟩ 1 1 [.int .i64 x.kind, .string (mk x.text), .int .i64 x.at_] rfl rfl (cell_three_new2 _ _ _ _ _ _) (by simp [Value.oneCell']) (by simp [maxLen]; omega) (by omega) (by have := HB.out.2; simp; omega) ?_; intro v' w2 hown' hgrow _; have HG := Lib.hid (show Below B w w2 ∧ B ≤ w2.heap.size from ⟨grow_below HB.out.1 HB.out.2 HO.out hgrow, by have h1 := hgrow.size; have h2 := HB.out.2; rw [World.size_alloc, World.size_alloc] at h1; omega⟩))
      go_roundw
      case rel =>
        refine ⟨k + 1, by omega, by go_num, ?_, HG⟩
        show World.ownsRow _ _ _ _ _ _ _
        rw [HT.out, tokCells_snoc]
        simpa using hown'
      case measure => simp [intOf]; omega
    · obtain rfl : k = n := by omega
      have HX : Hid (xs.take k = xs) := by show _ = _; exact List.take_of_length_le (Nat.le_of_eq HN.out)
      go_wp2
      go_ret
      exact ⟨_, rfl, by have := HO.out; rwa [HX.out] at this, HB.out.1⟩
end Go.Proofs.Ytfilmombflohpaa

namespace Go.Proofs.Ytfilmombflohpaa
open Go.RowKit Go.ChangeMaps Go.WideMaps Go.Shelf
set_option maxRecDepth 100000

/-- Tokens that differ in their offsets alone. -/
def Words (ys xs : List Span) : Prop := ys.length = xs.length ∧ ∀ (i : Nat) (y x : Span), ys[i]? = some y → xs[i]? = some x → y.kind = x.kind ∧ y.text = x.text

theorem tokCells_get {xs : List Span} {k : Nat} {x : Span} (h : xs[k]? = some x) : (tokCells xs)[k * 3]? = some (.int .i64 x.kind) ∧ (tokCells xs)[k * 3 + 1]? = some (.string (mk x.text)) ∧ (tokCells xs)[k * 3 + 2]? = some (.int .i64 x.at_) := by
  have hk : k < xs.length := (List.getElem?_eq_some_iff.1 h).1
  obtain ⟨y, ht, e0, e1, e2⟩ := tokCells_take xs k hk
  have : (xs.take (k + 1))[k]? = some y := by
    have hl : (xs.take k).length = k := by rw [List.length_take]; omega
    rw [ht, List.getElem?_append_right (by omega), hl]
    simp
  rw [List.getElem?_take, if_pos (by omega), h] at this
  obtain rfl := Option.some.inj this
  exact ⟨e0, e1, e2⟩

set_option maxHeartbeats 4000000 in
theorem sameWords_any (ys xs : List Span) (v v' : Value) (w : World) (hx : xs.length ≤ 80) (hw : Words ys xs) (h1 : ∃ o cap, v = .slice o ys.length cap ∧ (ys.length = 0 ∨ ∃ g, o = some ⟨g, 0, none⟩ ∧ ∀ i u, (tokCells ys)[i]? = some u → w.cell? ⟨g, i, none⟩ = some u)) (h2 : ArgRow w v' xs) :
    Calls Try.prog 25 #[v, v'] w fun e w' => e = .returned (.bool true) ∧ ∃ n, w.drewN n = w' := by
  obtain ⟨o, cap, rfl, h1⟩ := h1
  obtain ⟨o', cap', rfl, h2⟩ := h2
  have H1 := Lib.hid h1
  have H2 := Lib.hid h2
  have HW := Lib.hid hw
  obtain ⟨n, hn⟩ : ∃ n, xs.length = n := ⟨_, rfl⟩
  have hn2 : ys.length = n := hw.1.trans hn
  have HN := Lib.hid hn
  have HN2 := Lib.hid hn2
  rw [hn2, hn]
  rw [hn] at hx
  clear h1 h2 hw hn hn2
  go_enter Try.func25, Try.ntmps25
  go_wp2
  go_loopw [5] (fun i wr => ∃ k : Nat, k ≤ n ∧ i = .int .i64 k ∧ ∃ m, wr = w.drewN m) (fun i _ => n - (intOf i).toNat)
  case atStart => exact ⟨0, Nat.zero_le _, rfl, 0, rfl⟩
  case round =>
    obtain ⟨k, hk, rfl, m, rfl⟩ := hrel
    by_cases hlt : k < n
    · obtain ⟨y, hy⟩ : ∃ y, ys[k]? = some y := ⟨ys[k]'(by have := HN2.out; omega), List.getElem?_eq_getElem (by have := HN2.out; omega)⟩
      obtain ⟨x, hxx⟩ : ∃ x, xs[k]? = some x := ⟨xs[k]'(by have := HN.out; omega), List.getElem?_eq_getElem (by have := HN.out; omega)⟩
      obtain ⟨hkd, htx⟩ := HW.out.2 k y x hy hxx
      obtain ⟨e0, e1, _⟩ := tokCells_get hy
      obtain ⟨d0, d1, _⟩ := tokCells_get hxx
      rw [hkd] at e0
      rw [htx] at e1
      obtain ⟨g, rfl, hg⟩ : ∃ g, o = some ⟨g, 0, none⟩ ∧ ∀ i u, (tokCells ys)[i]? = some u → w.cell? ⟨g, i, none⟩ = some u := by
        rcases H1.out with h | h
        · have := HN2.out; omega
        · exact h
      obtain ⟨a, rfl, ha⟩ : ∃ a, o' = some a ∧ ∀ i u, (tokCells xs)[i]? = some u → w.cell? (a.add i) = some u := by
        rcases H2.out with h | h
        · have := HN.out; omega
        · exact h
      have c0 := hg _ _ e0
      have c1 := hg _ _ e1
      have f0 := ha _ _ d0
      have f1 := ha _ _ d1
      rw [add_next a (k * 3) 1 (by omega)] at f1
      clear hy hxx hkd htx e0 e1 d0 d1 hg ha
      go_wp2
      go_quiet (fail)
      go_wp2
      go_roundw
      case rel => exact ⟨k + 1, by omega, by go_num, _, rfl⟩
      case measure => simp [intOf]; omega
    · go_wp2
      go_ret
      exact ⟨rfl, m, rfl⟩
end Go.Proofs.Ytfilmombflohpaa
