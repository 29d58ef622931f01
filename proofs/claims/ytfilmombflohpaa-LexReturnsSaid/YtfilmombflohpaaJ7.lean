/- The checks of all tokens, and the first error. -/
import Derived.Test.YtfilmombflohpaaJ6
import Derived.Outline
set_option linter.unusedSimpArgs false
set_option linter.unusedVariables false
namespace Go.Proofs.Ytfilmombflohpaa
open Go.RowKit Go.ChangeMaps Go.WideMaps Go.Shelf
set_option maxRecDepth 100000

theorem info27 : (Try.prog.info? 27).map (fun i => (i.zero, i.size, i.bytes)) = some (some (.int .i64 0), 1, 8) := by kernel_rfl

/-- The errors in cells. -/
def errCells (ys : List Span) : List Value := ys.map fun y => .int .i64 (checkE y)

theorem cell_one_new (w : World) (x : Value) (t : TypeId) : ∀ j u, [x][j]? = some u → (w.alloc (.cells #[x] t)).cell? ((⟨w.heap.size, 0, none⟩ : Addr).add j) = some u := by
  intro j u hj
  match j, hj with
  | 0, hj => simp at hj; subst hj; simp [Addr.add]
theorem grow_below1 {w w1 w2 : World} {N n size : Nat} {t : TypeId} {v : Value} {xs : List Value} {o : Obj} (hb : Below N w w1) (hN : N ≤ w1.heap.size) (hr : w1.ownsRow N t size v n xs) (hg : (w1.alloc o).grownBy w2 v.ownBlock) : Below N w w2 ∧ N ≤ w2.heap.size :=
  ⟨(hb.alloc hN o).grown hg (by rw [World.size_alloc]; omega) (fun k e => (hr.lt k e).1), by have := hg.size; rw [World.size_alloc] at this; omega⟩

set_option maxHeartbeats 4000000 in
theorem transform_any (hS : Spans1) (ys : List Span) (kb sb B0 : Nat) (w : World) (hx : ys.length ≤ 20000) (hl : ∀ y ∈ ys, y.text.length ≤ 65536 ∧ y.at_ = 0) (hy : BlockIs w B0 47 (tokCells ys).toArray) (hk : SetAt w kb kwL) (hs : SetAt w sb sgL) (hm : ML w) :
    Calls Try.prog 42 #[.slice (some ⟨B0, 0, none⟩) ys.length ys.length, .func (.func 43) #[scan kb sb] #[]] w fun e w' => ∃ v, e = .returned v ∧ w'.ownsRow w.heap.size 27 1 v ys.length (errCells ys) ∧ Below w.heap.size w w' := by
  obtain ⟨i0, hi, hz0, hz1, hz2⟩ := info_parts info27
  obtain ⟨n, hn⟩ : ∃ n, ys.length = n := ⟨_, rfl⟩
  have HC := Lib.hid (tokCells_take ys)
  have HCK := Lib.hid (show ∀ y ∈ ys, ∀ W, SetAt W kb kwL ∧ SetAt W sb sgL ∧ ML W → Calls Try.prog 43 #[scan kb sb, .agg #[.int .i64 y.kind, .string (mk y.text), .int .i64 0]] W fun e w' => e = .returned (.int .i64 (checkE y)) ∧ Below W.heap.size W w' from fun y hyy W hW => checkToken_any hS y kb sb W (hl y hyy).1 hW.1 hW.2.1 hW.2.2)
  have HL := Lib.hid hl
  rw [hn] at hx HC ⊢
  obtain ⟨B, hB⟩ : ∃ B, w.heap.size = B := ⟨_, rfl⟩
  have hB0 : B0 < B := by rw [← hB]; exact hy.lt
  obtain ⟨W1, hmk, hrow, hgr⟩ := run_makeSlice_owned (P := Try.prog) w B 71 27 i0 _ 1 Try.underlying71 hi hz0 hz1 .i64 .i64 n (by omega) (by rw [hz2]; omega) (by unfold maxLen; omega) (by omega)
  have hb1 : Below B w W1 := (Below.refl B w).grown hgr (by omega) (fun k e => by cases e)
  have HW1 := Lib.hid (show W1.ownsRow B 27 1 (.slice (some ⟨B, 0, none⟩) 0 n) 0 (errCells (ys.take 0)) ∧ Below B w W1 ∧ B ≤ W1.heap.size from ⟨by rw [← hB]; simpa [errCells] using (hB ▸ hrow), hb1, by have := hb1.size; omega⟩)
  have HY := Lib.hid hy
  have HS0 := Lib.hid (And.intro hk (And.intro hs hm))
  have hkl := hk.lt
  have hsl := hs.lt
  have hml := hm.lt
  rw [hB] at hmk hkl hsl hml ⊢
  have HMK := Lib.hid hmk
  have HN := Lib.hid hn
  clear hy hk hs hm hmk hrow hgr hb1 hB hl hn
  have hmk := HMK.out
  go_enter Try.func42, Try.ntmps42
  go_wp2
  clear hmk
  go_loopw [5, 13] (fun v i wr => ∃ k : Nat, k ≤ n ∧ i = .int .i64 k ∧ Hid (wr.ownsRow B 27 1 v k (errCells (ys.take k)) ∧ Below B w wr ∧ B ≤ wr.heap.size)) (fun _ i _ => n - (intOf i).toNat)
  case atStart => exact ⟨0, Nat.zero_le _, rfl, HW1⟩
  case round =>
    clear HW1 HMK
    obtain ⟨k, hk, rfl, HW⟩ := hrel
    by_cases hlt : k < n
    · obtain ⟨y, ht, e0, e1, e2⟩ := HC.out k hlt
      have hyy : y ∈ ys := by
        have : y ∈ ys.take (k + 1) := by rw [ht]; simp
        exact List.mem_of_mem_take this
      have hya := (HL.out y hyy).2
      rw [hya] at e2
      have c0 := (HW.out.2.1.cell (p := ⟨B0, k * 3, none⟩) hB0).trans ((HY.out.at (k * 3)).trans (by simpa using e0))
      have c1 := (HW.out.2.1.cell (p := ⟨B0, k * 3 + 1, none⟩) hB0).trans ((HY.out.at (k * 3 + 1)).trans (by simpa using e1))
      have c2 := (HW.out.2.1.cell (p := ⟨B0, k * 3 + 2, none⟩) hB0).trans ((HY.out.at (k * 3 + 2)).trans (by simpa using e2))
      have HCY := Lib.hid (HCK.out y hyy)
      have HT := Lib.hid ht
      obtain ⟨q, hq⟩ : ∃ q, checkE y = q := ⟨_, rfl⟩
      rw [hq] at HCY
      have HQ := Lib.hid hq
      have HB1 := fun o => Lib.hid (HW.out.2.1.alloc HW.out.2.2 o)
      clear e0 e1 e2 ht hya hq
      go_wp2_with (first | (go_at_call 43; refine (HCY.out _ ⟨HS0.out.1.below (HB1 _).out hkl, HS0.out.2.1.below (HB1 _).out hsl, HS0.out.2.2.below (HB1 _).out hml⟩).mono ?_; rintro e w1 ⟨rfl, hb1⟩; have HO1 := Lib.hid (ownsRow_below (HW.out.1.alloc _) hb1); have HB2 := Lib.hid (show Below B w w1 ∧ B ≤ w1.heap.size from ⟨(HB1 _).out.trans (hb1.mono (by have := HW.out.2.2; simp; omega)), by have h1 := hb1.size; have h2 := HW.out.2.2; rw [World.size_alloc] at h1; omega⟩)) | (at_builtin; refine wpList_append_own _ rfl _ _ 71 rfl B 27 i0 (.int .i64 0) 1 8 Try.underlying71 hi hz0 hz1 hz2 rfl (by decide) _ _ _ rfl (HO1.out.alloc _) ⟨w1.heap.size, 0, none⟩ 1 1 [.int .i64 q] rfl rfl (cell_one_new _ _ _) (by simp [Value.oneCell']) (by simp [maxLen]; omega) (by omega) (by have := HB2.out.2; simp; omega) ?_; intro v' w2 hown' hgrow _; have HG := Lib.hid (grow_below1 HB2.out.1 HB2.out.2 HO1.out hgrow)))
      go_roundw
      case rel =>
        refine ⟨k + 1, by omega, by go_num, ?_, HG.out⟩
        have hq := HQ.out
        have : errCells (ys.take (k + 1)) = errCells (ys.take k) ++ [.int .i64 q] := by rw [HT.out]; simp [errCells, hq]
        rw [this]
        simpa using hown'
      case measure => simp [intOf]; omega
    · obtain rfl : k = n := by omega
      have HX : Hid (ys.take k = ys) := by show _ = _; rw [← HN.out]; exact List.take_length
      go_wp2
      go_ret
      exact ⟨_, rfl, by have := HW.out.1; rwa [HX.out] at this, HW.out.2.1⟩

/-- The first error. -/
def firstE : List Int → Int
  | [] => 0
  | e :: r => if e = 0 then firstE r else e

theorem firstE_drop {l : List Int} {k : Nat} {e : Int} (h : l[k]? = some e) : firstE (l.drop k) = if e = 0 then firstE (l.drop (k + 1)) else e := by
  have hk : k < l.length := by
    by_cases h' : k < l.length
    · exact h'
    · rw [List.getElem?_eq_none (by omega)] at h; cases h
  rw [List.drop_eq_getElem_cons hk]
  rw [List.getElem?_eq_getElem hk] at h
  rw [Option.some.inj h]
  rfl

set_option maxHeartbeats 4000000 in
theorem first_any (es : List Int) (v : Value) (N0 : Nat) (w : World) (hx : es.length ≤ 20000) (hr : w.ownsRow N0 27 1 v es.length (es.map fun e => .int .i64 e)) :
    Calls Try.prog 41 #[v] w fun e w' => e = .returned (.int .i64 (firstE es)) ∧ w = w' := by
  obtain ⟨n, hn⟩ : ∃ n, es.length = n := ⟨_, rfl⟩
  rw [hn] at hx hr
  have HN := Lib.hid hn
  obtain ⟨q, hq⟩ : ∃ q, firstE es = q := ⟨_, rfl⟩
  rw [hq]
  have HQ := Lib.hid hq
  rcases row_shape hr with ⟨rfl, rfl⟩ | ⟨g, cap, rfl, hg⟩
  · have hes : es = [] := List.eq_nil_of_length_eq_zero hn
    have HQ0 : Hid (q = 0) := by show _ = _; rw [← hq, hes]; rfl
    clear hr hn hq
    go_enter Try.func41, Try.ntmps41
    go_wp2
    refine wp_loop_rounds 1 ?_
    rw [rounds_succ]
    go_wp2
    go_ret
    exact ⟨ret_int HQ0.out.symm, rfl⟩
  · have HR := Lib.hid hr
    clear hr hn hq
    go_enter Try.func41, Try.ntmps41
    go_wp2
    go_loop [7] (fun i => ∃ k : Nat, k ≤ n ∧ i = .int .i64 k ∧ Hid (q = firstE (es.drop k))) (fun i => n - (intOf i).toNat)
    case atStart => exact ⟨0, Nat.zero_le _, rfl, show _ = _ by rw [List.drop_zero]; exact HQ.out.symm⟩
    case round =>
      obtain ⟨k, hk, rfl, HK⟩ := hrel
      by_cases hlt : k < n
      · obtain ⟨e, he⟩ : ∃ e, es[k]? = some e := ⟨es[k]'(by have := HN.out; omega), List.getElem?_eq_getElem (by have := HN.out; omega)⟩
        have c0 := row_cell HR.out (i := k) (v := .int .i64 e) (by rw [List.getElem?_map, he]; rfl)
        have hst := firstE_drop he
        rw [← HK.out] at hst
        by_cases h0 : e = 0
        · rw [if_pos h0] at hst
          have HST := Lib.hid hst
          have hb : (e != 0) = false := by simpa using h0
          clear hst he h0
          go_wp2
          go_round
          case rel => exact ⟨k + 1, by omega, by go_num, HST⟩
          case measure => simp [intOf]; omega
        · rw [if_neg h0] at hst
          have HST := Lib.hid hst
          have hb : (e != 0) = true := by simpa using h0
          clear hst he h0
          go_wp2
          go_ret
          exact ⟨ret_int HST.out.symm, rfl⟩
      · have HST : Hid (q = 0) := by
          show _ = _
          rw [HK.out, List.drop_eq_nil_of_le (by have := HN.out; omega)]
          rfl
        go_wp2
        go_ret
        exact ⟨ret_int HST.out.symm, rfl⟩
end Go.Proofs.Ytfilmombflohpaa
