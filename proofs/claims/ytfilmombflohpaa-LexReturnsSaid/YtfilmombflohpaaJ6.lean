/- Lists of tokens without their places; checks of all of them; the first error. -/
import Derived.Lib.SlBuf
import Derived.Laws.CopyRow
import Derived.Laws.MakeOwn
import Derived.Test.YtfilmombflohpaaJ4
import Derived.Test.YtfilmombflohpaaR9
set_option linter.unusedSimpArgs false
set_option linter.unusedVariables false
namespace Go.Proofs.Ytfilmombflohpaa
open Go.RowKit Go.ChangeMaps Go.WideMaps Go.Shelf
set_option maxRecDepth 100000

theorem run_copy_wide {P : Program} (w : World) (dT sT ty elem : TypeId) (g o dLen dCap : Nat) (a : Addr) (sLen sCap : Nat) (cur : Array Value) (t : TypeId) (cs : List Value) (n k : Nat)
    (hu : P.underlying dT = some (.slice elem)) (hs : (P.info? elem).map (·.size) = some k)
    (hg : w.heap[g]? = some (.cells cur t (0, 0))) (hn : n = Nat.min sLen dLen) (hl : cs.length = n * k)
    (hsrc : ∀ j v, cs[j]? = some v → w.cell? (a.add j) = some v) (hfit : o + cs.length ≤ cur.size) (h1 : ∀ v ∈ cs, v.oneCell' = true) :
    (Builtin.copy_ #[dT, sT] ty #[.slice (some ⟨g, o, none⟩) dLen dCap, .slice (some a) sLen sCap]).run P w =
      .ok (goInt n) (w.setRow g (cur.toList.take o ++ cs ++ cur.toList.drop (o + cs.length)).toArray) := by
  have hl' := run_loadCells_list (P := P) w a cs hsrc
  have hst := run_storeCells_at P g o t cs 0 cur w hg (by simpa using hfit) h1
  rw [hl] at hl'
  cases hq : P.info? elem with
  | none => simp [hq] at hs
  | some i =>
    have hi : i.size = k := by simpa [hq] using hs
    simp [Builtin.copy_, run_underlying hu, Builtin.lenOf, Builtin.firstCells, sizeOf, typeInfo, hq, hi, ← hn, hl', hst]

/-- A token without its place. -/
def z0 (x : Span) : Span := { x with at_ := 0 }
def zc (k : Nat) (xs : List Span) : Array Value := (tokCells ((xs.take k).map z0 ++ xs.drop k)).toArray

theorem tokCells_app (xs ys : List Span) : tokCells (xs ++ ys) = tokCells xs ++ tokCells ys := by simp [tokCells]
theorem tokCells_len (xs : List Span) : (tokCells xs).length = xs.length * 3 := by
  induction xs with
  | nil => rfl
  | cons x xs ih =>
    have : tokCells (x :: xs) = .int .i64 x.kind :: .string (mk x.text) :: .int .i64 x.at_ :: tokCells xs := rfl
    rw [this]; simp only [List.length_cons, ih]; omega

theorem zc_step (xs : List Span) (k : Nat) (h : k < xs.length) : (zc k xs).setIfInBounds (k * 3 + 2) (.int .i64 0) = zc (k + 1) xs := by
  obtain ⟨y, hy⟩ : ∃ y, xs[k]? = some y := ⟨xs[k], List.getElem?_eq_getElem h⟩
  have hd : xs.drop k = y :: xs.drop (k + 1) := by
    rw [List.drop_eq_getElem_cons h]
    have := List.getElem?_eq_getElem h
    rw [hy] at this
    rw [← Option.some.inj this]
  have ht : xs.take (k + 1) = xs.take k ++ [y] := by rw [List.take_add_one, hy]; rfl
  unfold zc
  rw [hd, ht, List.map_append, List.append_assoc]
  rw [tokCells_app, tokCells_app]
  have hl : (tokCells ((xs.take k).map z0)).length = k * 3 := by rw [tokCells_len, List.length_map, List.length_take]; congr 1; omega
  generalize tokCells ((xs.take k).map z0) = L at hl
  have e1 : tokCells (y :: xs.drop (k + 1)) = .int .i64 y.kind :: .string (mk y.text) :: .int .i64 y.at_ :: tokCells (xs.drop (k + 1)) := rfl
  have e2 : tokCells ([y].map z0 ++ xs.drop (k + 1)) = .int .i64 y.kind :: .string (mk y.text) :: .int .i64 0 :: tokCells (xs.drop (k + 1)) := rfl
  rw [e1, e2]
  apply Array.ext'
  rw [Array.toList_setIfInBounds]
  simp only []
  rw [List.set_append_right _ _ (by omega), hl, show k * 3 + 2 - k * 3 = 2 by omega]
  rfl
end Go.Proofs.Ytfilmombflohpaa

namespace Go.Proofs.Ytfilmombflohpaa
open Go.RowKit Go.ChangeMaps Go.WideMaps Go.Shelf
set_option maxRecDepth 100000

theorem zc_zero (xs : List Span) : zc 0 xs = (tokCells xs).toArray := by simp [zc]
theorem zc_all (xs : List Span) : zc xs.length xs = (tokCells (xs.map z0)).toArray := by simp [zc]
theorem tokCells_one (xs : List Span) : ∀ v ∈ tokCells xs, v.oneCell' = true := by
  intro v hv
  unfold tokCells at hv
  rw [List.mem_flatMap] at hv
  obtain ⟨x, _, h⟩ := hv
  simp only [List.mem_cons, List.not_mem_nil, or_false] at h
  rcases h with rfl | rfl | rfl <;> rfl

theorem zc_get (xs : List Span) (k : Nat) (h : k < xs.length) : ∃ v, (zc k xs)[k * 3 + 2]? = some v := by
  have hl : (zc k xs).size = xs.length * 3 := by
    unfold zc
    rw [List.size_toArray, tokCells_len, List.length_append, List.length_map, List.length_take, List.length_drop]
    congr 1; omega
  exact ⟨_, Array.getElem?_eq_getElem (by omega)⟩

set_option maxHeartbeats 4000000 in
theorem withoutPlaces_any (xs : List Span) (v : Value) (N0 : Nat) (w : World) (hx : xs.length ≤ 20000) (hr : w.ownsRow N0 47 3 v xs.length (tokCells xs)) :
    Calls Try.prog 40 #[v] w fun e w' => e = .returned (.slice (some ⟨w.heap.size, 0, none⟩) xs.length xs.length) ∧ BlockIs w' w.heap.size 47 (tokCells (xs.map z0)).toArray ∧ Below w.heap.size w w' := by
  obtain ⟨i0, hi, hz0, hz1, hz2⟩ := info_parts info49
  obtain ⟨n, hn⟩ : ∃ n, xs.length = n := ⟨_, rfl⟩
  have HZ := Lib.hid (zc_step xs)
  have HZG := Lib.hid (zc_get xs)
  have HZA := Lib.hid (zc_all xs)
  rw [hn] at hx hr HZ HZG HZA ⊢
  have HTL := Lib.hid (show (tokCells xs).length = n * 3 by rw [tokCells_len, hn])
  obtain ⟨B, hB⟩ : ∃ B, w.heap.size = B := ⟨_, rfl⟩
  have hmk := run_makeSlice (P := Try.prog) w 26 47 i0 _ Try.underlying26 hi hz0 .i64 .i64 (n : Int) (n : Int) (by omega) (Int.le_refl _) (by rw [hz1]; simp; omega) (by rw [hz2]; omega) (by omega)
  rw [Int.toNat_natCast, hz1] at hmk
  obtain ⟨cur, hcur⟩ : ∃ cur, madeCells (Value.agg #[.int .i64 0, .string ⟨#[]⟩, .int .i64 0]).cells (n * 3) = cur := ⟨_, rfl⟩
  have hcs : cur.size = n * 3 := by rw [← hcur]; exact size_madeCells _ _
  rw [hcur] at hmk
  obtain ⟨W1, hW1⟩ : ∃ W1, w.alloc (.cells cur 47) = W1 := ⟨_, rfl⟩
  have b1 : BlockIs W1 B 47 cur := alloc_block hW1 hB (Below.refl _ _)
  have hb1 : Below B w W1 := alloc_below hW1 (by omega)
  rw [hW1, hB] at hmk
  obtain ⟨W2, hW2⟩ : ∃ W2, W1.setRow B (tokCells xs).toArray = W2 := ⟨_, rfl⟩
  have b2 : BlockIs W2 B 47 (zc 0 xs) := by rw [← hW2, zc_zero]; exact setRow_heap W1 B cur _ 47 (0, 0) b1
  have hb2 : Below B w W2 := by rw [← hW2]; exact hb1.trans ⟨rfl, rfl, rfl, by simp [World.setRow], fun k hk => setRow_other W1 B k _ (by omega)⟩
  have hcopy : ∀ ty, (Builtin.copy_ #[26, 26] ty #[.slice (some ⟨B, 0, none⟩) n n, v]).run Try.prog W1 = .ok (goInt n) W2 := by
    intro ty
    rcases row_shape hr with ⟨rfl, h0⟩ | ⟨g, cap, rfl, hg⟩
    · subst h0
      have hxs : xs = [] := List.eq_nil_of_length_eq_zero hn
      have hcn : cur = #[] := Array.eq_empty_of_size_eq_zero (by omega)
      rw [run_copy_nil (P := Try.prog) W1 26 26 ty 47 ⟨B, 0, none⟩ 0 0 Try.underlying26 (by rw [hi]; rfl)]
      rw [← hW2, hxs, show (tokCells []).toArray = cur from by rw [hcn]; rfl, setRow_self W1 B cur 47 (0, 0) b1]
      rfl
    · have hs : ∀ j u, (tokCells xs)[j]? = some u → W1.cell? ((⟨g, 0, none⟩ : Addr).add j) = some u := by
        intro j u hu
        have hadd : (⟨g, 0, none⟩ : Addr).add j = ⟨g, j, none⟩ := by unfold Addr.add; split <;> simp_all
        rw [hadd]
        exact (hb1.cell (p := ⟨g, j, none⟩) (by rw [← hB]; exact hg)).trans (row_cell hr hu)
      have := run_copy_wide (P := Try.prog) W1 26 26 ty 47 B 0 n n ⟨g, 0, none⟩ n cap cur 47 (tokCells xs) n 3 Try.underlying26 (by rw [hi, Option.map_some, hz1]) b1 (by simp) HTL.out hs (by rw [HTL.out, hcs]; omega) (tokCells_one xs)
      rw [this, ← hW2]
      congr 3
      rw [HTL.out, List.take_zero, List.nil_append, List.drop_eq_nil_of_le (by rw [Array.length_toList, hcs]; omega), List.append_nil]
  rw [hB]
  have HCP := Lib.hid hcopy
  have HMK := Lib.hid hmk
  have hvl : ∃ o cap, v = .slice o n cap := by
    rcases row_shape hr with ⟨rfl, h0⟩ | ⟨g, cap, rfl, _⟩
    · exact ⟨none, 0, by rw [h0]⟩
    · exact ⟨_, _, rfl⟩
  obtain ⟨o, cap, rfl⟩ := hvl
  have HB2 := Lib.hid (And.intro b2 hb2)
  clear hcopy hr hi hz0 hz1 hz2 hcur hcs hW1 b1 hb1 hW2 b2 hb2 hn
  have hmk2 := HMK.out
  go_enter Try.func40, Try.ntmps40
  go_wp2_with (with_reducible refine Lib.wpList_copy_run _ rfl (.tmp 8) (.tmp 9) 26 26 rfl _ _ rfl rfl (HCP.out _) ?_)
  clear hmk2
  go_loopw [13] (fun i wr => ∃ k : Nat, k ≤ n ∧ i = .int .i64 k ∧ Hid (BlockIs wr B 47 (zc k xs) ∧ Below B w wr)) (fun i _ => n - (intOf i).toNat)
  case atStart => exact ⟨0, Nat.zero_le _, rfl, HB2⟩
  case round =>
    clear HB2 HCP HMK
    obtain ⟨k, hk, rfl, HW⟩ := hrel
    by_cases hlt : k < n
    · obtain ⟨u, hu⟩ := HZG.out k hlt
      have c2 := (HW.out.1.at (k * 3 + 2)).trans hu
      have f2 := HW.out.1.thawed (k * 3 + 2)
      clear hu
      go_wp2
      go_roundw
      case rel =>
        refine ⟨k + 1, by omega, by go_num, ?_, HW.out.2.setCell (by simp) _⟩
        have := HW.out.1.set (k * 3 + 2) (.int .i64 0)
        rwa [HZ.out k hlt] at this
      case measure => simp [intOf]; omega
    · obtain rfl : k = n := by omega
      go_wp2
      go_ret
      exact ⟨rfl, by rw [← HZA.out]; exact HW.out.1, HW.out.2⟩
end Go.Proofs.Ytfilmombflohpaa
