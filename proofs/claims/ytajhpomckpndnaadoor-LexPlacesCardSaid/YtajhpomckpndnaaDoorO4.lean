/- The reference's Offset. -/
import Derived.Test.YtajhpomckpndnaaDoorO3
set_option linter.unusedSimpArgs false
set_option linter.unusedVariables false
namespace Go.Proofs.YtajhpomckpndnaaDoor
open Go.RowKit Go.ChangeMaps Go.WideMaps
set_option maxRecDepth 100000

/-- What Offset says: the offset, the error. -/
def offR (s : ByteArray) (line col : Int) : Int × Int :=
  if 65536 < s.size then (0, 23) else match offF s.data.toList line col with
    | some a => (a, 0)
    | none => (0, 3)
abbrev offV (s : ByteArray) (line col : Int) : Value := .tuple #[.int .i64 (offR s line col).1, .int .i64 (offR s line col).2]
theorem offR_long {s : ByteArray} {line col : Int} (h : 65536 < s.size) : offR s line col = (0, 23) := by unfold offR; rw [if_pos h]
theorem offR_none {s : ByteArray} {line col : Int} (h : s.size ≤ 65536) (ho : offF s.data.toList line col = none) : offR s line col = (0, 3) := by unfold offR; rw [if_neg (by omega), ho]
theorem offR_some {s : ByteArray} {line col a : Int} (h : s.size ≤ 65536) (ho : offF s.data.toList line col = some a) : offR s line col = (a, 0) := by unfold offR; rw [if_neg (by omega), ho]

theorem starts_snoc : ∀ (l : List UInt8) (k : Int) (c : UInt8), starts (l ++ [c]) k = starts l k ++ if isNl c then [k + l.length + 1] else []
  | [], k, c => by cases hc : isNl c <;> simp [starts, hc]
  | d :: r, k, c => by
    have ih := starts_snoc r (k + 1) c
    rw [List.cons_append, starts, starts, ih]
    have e : k + 1 + (r.length : Int) + 1 = k + ((d :: r).length : Int) + 1 := by rw [List.length_cons]; omega
    rw [e]
    cases isNl d <;> simp
theorem starts_le : ∀ (l : List UInt8) (k x : Int), x ∈ starts l k → x ≤ k + l.length
  | [], _, _, h => by simp [starts] at h
  | c :: r, k, x, h => by
    rw [List.length_cons]
    unfold starts at h
    split at h
    · rcases List.mem_cons.1 h with rfl | h
      · omega
      · have := starts_le r _ _ h; omega
    · have := starts_le r _ _ h; omega
theorem starts_len : ∀ (l : List UInt8) (k : Int), (starts l k).length ≤ l.length
  | [], _ => by simp [starts]
  | c :: r, k => by
    have := starts_len r (k + 1)
    unfold starts
    split
    · simpa using this
    · rw [List.length_cons]; omega

/-- The lines' beginnings in the first k bytes. -/
def stK (s : ByteArray) (k : Nat) : List Int := 0 :: starts (s.data.toList.take k) 0
theorem stK_yes {s : ByteArray} {k : Nat} (h : k < s.size) (hc : (s[k].toNat : Int) = 10) : stK s (k + 1) = stK s k ++ [(k : Int) + 1] := by
  have h1 : s.data.toList.take (k + 1) = s.data.toList.take k ++ [s[k]] := by
    rw [List.take_add_one, List.getElem?_eq_getElem (by simpa using h)]; rfl
  unfold stK
  rw [h1, starts_snoc, if_pos (by unfold isNl; simpa using hc), List.length_take, ← Lib.size_eq, Nat.min_eq_left (by omega)]
  simp
theorem stK_no {s : ByteArray} {k : Nat} (h : k < s.size) (hc : (s[k].toNat : Int) ≠ 10) : stK s (k + 1) = stK s k := by
  have h1 : s.data.toList.take (k + 1) = s.data.toList.take k ++ [s[k]] := by
    rw [List.take_add_one, List.getElem?_eq_getElem (by simpa using h)]; rfl
  unfold stK
  rw [h1, starts_snoc, if_neg (by unfold isNl; simpa using hc)]
  simp
theorem stK_end (s : ByteArray) : stK s s.size = 0 :: starts s.data.toList 0 := by
  unfold stK; rw [List.take_of_length_le (by rw [← Lib.size_eq]; exact Nat.le_refl _)]
theorem stK_len (s : ByteArray) (k : Nat) (h : k ≤ s.size) : (stK s k).length ≤ k + 1 := by
  unfold stK
  have := starts_len (s.data.toList.take k) 0
  rw [List.length_take, ← Lib.size_eq] at this
  rw [List.length_cons]; omega

theorem info3 : (Tryd.prog.info? 3).map (fun i => (i.zero, i.size, i.bytes)) = some (some (.int .i64 0), 1, 8) := by kernel_rfl

theorem row_one (w : World) (x : Value) (t : TypeId) : (w.alloc (.cells #[x] t)).ownsRow w.heap.size t 1 (.slice (some ⟨w.heap.size, 0, none⟩) 1 1) 1 [x] :=
  ⟨rfl, .inr ⟨w.heap.size, 1, #[x], rfl, Nat.le_refl _, World.alloc_heap_new w _, Nat.le_refl _, by decide, rfl, rfl⟩⟩

theorem ret_off {s : ByteArray} {line col a e : Int} (h : offR s line col = (a, e)) : Ending.returned (.tuple #[.int .i64 a, .int .i64 e]) = .returned (offV s line col) := by
  unfold offV; rw [h]

set_option maxHeartbeats 4000000 in
theorem rOffset_any (s : ByteArray) (line col : Int) (w : World) (hs : s.size ≤ maxLen) (hcol : col ≤ 9223372036854775807) :
    Calls Tryd.prog 7 #[.string s, .int .i64 line, .int .i64 col] w fun e w' => e = .returned (offV s line col) ∧ Below w.heap.size w w' := by
  unfold maxLen at hs
  by_cases hl : 65536 < s.size
  · unfold offV
    rw [offR_long hl]
    go_enter Tryd.func7, Tryd.ntmps7
    go_wp2
    all_goals go_ret2
    all_goals exact ⟨rfl, Below.refl _ _⟩
  · obtain ⟨i0, hi, hz0, hz1, hz2⟩ := info_parts info3
    have hb0 : Below w.heap.size w (w.alloc (.cells #[.int .i64 0] 3)) := (Below.refl _ w).alloc (Nat.le_refl _) _
    have hr0 := row_one w (.int .i64 0) 3
    go_enter Tryd.func7, Tryd.ntmps7
    go_wp2
    go_loopw [8, 9] (fun v n wr => ∃ k : Nat, k ≤ s.size ∧ n = .int .i64 k ∧ wr.ownsRow w.heap.size 3 1 v (stK s k).length ((stK s k).map (Value.int .i64)) ∧ Below w.heap.size w wr) (fun _ n _ => s.size - (intOf n).toNat)
    case atStart => exact ⟨0, Nat.zero_le _, rfl, hr0, hb0⟩
    case round =>
      obtain ⟨k, hk, rfl, hr, hb⟩ := hrel
      clear hr0 hb0
      have hlen := stK_len s k hk
      by_cases hlt : k < s.size
      · by_cases hc : (s[k].toNat : Int) = 10
        · have HY := Lib.hid (stK_yes hlt hc)
          go_wp2_with (at_builtin; refine wpList_append_own _ rfl _ _ 41 rfl w.heap.size 3 i0 (.int .i64 0) 1 8 Tryd.underlying41 hi hz0 hz1 hz2 rfl (by decide) _ _ _ rfl (hr.alloc _) ⟨wr.heap.size, 0, none⟩ 1 1 [.int .i64 ((k : Int) + 1)] rfl rfl (cell_one_new _ _ _) (by simp [Value.oneCell']) (by simp [maxLen]; omega) (by omega) (by have := hb.size; simp; omega) ?_; intro v' w2 hown' hgrow _)
          have hgr : (wr.alloc (.cells #[.int .i64 ((k : Int) + 1)] 3)).grownBy w2 u8.ownBlock := hgrow
          have hb2 : Below w.heap.size w w2 := (hb.alloc hb.size _).grown hgr (by have := hb.size; simp; omega) (fun j ej => (hr.lt j ej).1)
          refine ⟨⟨k + 1, hlt, by go_num, ?_, hb2⟩, by simp [intOf]; omega⟩
          rw [HY.out, List.length_append, List.map_append]
          exact hown'
        · have HY := Lib.hid (stK_no hlt hc)
          go_wp2
          go_roundw
          case rel => exact ⟨k + 1, hlt, by go_num, by rw [HY.out]; exact hr, hb⟩
          case measure => simp [intOf]; omega
      · obtain rfl : k = s.size := by omega
        have he := stK_end s
        obtain ⟨st, hst⟩ : ∃ st, stK s s.size = st := ⟨_, rfl⟩
        rw [hst] at he hr hlen
        clear hst
        have hmem : ∀ x ∈ st, 0 ≤ x ∧ x ≤ s.size := by
          intro x hx
          rw [he] at hx
          rcases List.mem_cons.1 hx with rfl | hx
          · omega
          · have h1 := starts_ge _ _ _ hx
            have h2 := starts_le _ _ _ hx
            rw [← Lib.size_eq] at h2
            omega
        have HS := Lib.hid (offS_eq s.data.toList 0 line col)
        rw [← he, ← Lib.size_eq] at HS
        obtain ⟨g, cap, rfl⟩ : ∃ g cap, u8 = .slice (some ⟨g, 0, none⟩) st.length cap := by
          rw [he] at hr
          obtain ⟨g, cap, rfl⟩ := ownsRow_succ hr
          exact ⟨g, cap, by rw [he]; rfl⟩
        have hcell : ∀ j, j < st.length → wr.cell? ⟨g, j, none⟩ = some (.int .i64 (st.getD j 0)) := by
          intro j hj
          refine cells_of hr j _ ?_
          simp [List.getElem?_map, List.getD, hj]
        have hgd : ∀ j, j < st.length → 0 ≤ st.getD j 0 ∧ st.getD j 0 ≤ s.size := by
          intro j hj
          refine hmem _ ?_
          simp only [List.getD_eq_getElem?_getD, List.getElem?_eq_getElem hj, Option.getD_some]
          exact List.getElem_mem hj
        obtain ⟨L, hL⟩ : ∃ L, st.length = L := ⟨_, rfl⟩
        have HS2 : Hid ((offF s.data.toList line col).map (· + 0) = if line < 1 ∨ (L : Int) < line then none
          else if col < 1 ∨ (if line < L then st.getD line.toNat 0 - 1 else (0 : Int) + s.size) - st.getD (line - 1).toNat 0 < col - 1 then none
          else some (st.getD (line - 1).toNat 0 + col - 1)) := by
          rw [← hL]; exact HS.out.symm
        rw [hL] at hcell hgd hlen
        clear hmem HS he hr hlt hk
        rw [hL]
        clear hL
        have hnone : ∀ {o : Option Int}, o.map (· + 0) = none → o = none := by intro o h; cases o <;> simp_all
        have hsome : ∀ {o : Option Int} {a : Int}, o.map (· + 0) = some a → o = some a := by intro o a h; cases o <;> simp_all
        by_cases ho : line < 1 ∨ (L : Int) < line
        · have HR := Lib.hid (offR_none (s := s) (line := line) (col := col) (by omega) (hnone (by rw [HS2.out, if_pos ho])))
          by_cases h1 : line < 1
          · clear ho HS2 hnone hsome hcell hgd
            go_wp2
            all_goals go_ret2
            all_goals exact ⟨ret_off HR.out, hb⟩
          · have h2 : (L : Int) < line := by omega
            clear ho HS2 hnone hsome hcell hgd
            go_wp2
            all_goals go_ret2
            all_goals exact ⟨ret_off HR.out, hb⟩
        · obtain ⟨j, rfl⟩ : ∃ j : Nat, line = (j : Int) + 1 := ⟨(line - 1).toNat, by omega⟩
          rw [if_neg ho] at HS2
          have hj : j < L := by omega
          have e1 : ((j : Int) + 1 - 1).toNat = j := by omega
          have e2 : ((j : Int) + 1).toNat = j + 1 := by omega
          rw [e1, e2] at HS2
          have cx := hcell j hj
          have bx := hgd j hj
          obtain ⟨x, hx⟩ : ∃ x, st.getD j 0 = x := ⟨_, rfl⟩
          rw [hx] at cx bx HS2
          obtain ⟨E, hE⟩ : ∃ E : Int, (if (j : Int) + 1 < L then st.getD (j + 1) 0 - 1 else (0 : Int) + s.size) = E := ⟨_, rfl⟩
          rw [hE] at HS2
          by_cases hc : col < 1 ∨ E - x < col - 1
          · have HR := Lib.hid (offR_none (s := s) (line := (j : Int) + 1) (col := col) (by omega) (hnone (by rw [HS2.out, if_pos hc])))
            clear HS2 hnone hsome
            by_cases hj2 : j + 1 < L
            · have cy := hcell (j + 1) hj2
              have by' := hgd (j + 1) hj2
              obtain ⟨y, hy⟩ : ∃ y, st.getD (j + 1) 0 = y := ⟨_, rfl⟩
              rw [hy] at cy by' hE
              rw [if_pos (by omega)] at hE
              clear hcell hgd hx hy ho
              by_cases hc1 : col < 1
              · clear hc hE
                go_wp2
                all_goals go_ret2
                all_goals exact ⟨ret_off HR.out, hb⟩
              · have hc2 : y - 1 - x < col - 1 := by omega
                clear hc hE
                go_wp2
                all_goals go_ret2
                all_goals exact ⟨ret_off HR.out, hb⟩
            · rw [if_neg (by omega)] at hE
              clear hcell hgd hx ho
              by_cases hc1 : col < 1
              · clear hc hE
                go_wp2
                all_goals go_ret2
                all_goals exact ⟨ret_off HR.out, hb⟩
              · have hc2 : (s.size : Int) - x < col - 1 := by omega
                clear hc hE
                go_wp2
                all_goals go_ret2
                all_goals exact ⟨ret_off HR.out, hb⟩
          · have HR := Lib.hid (offR_some (s := s) (line := (j : Int) + 1) (col := col) (by omega) (hsome (by rw [HS2.out, if_neg hc])))
            clear HS2 hnone hsome
            have hc1 : 1 ≤ col := by omega
            by_cases hj2 : j + 1 < L
            · have cy := hcell (j + 1) hj2
              have by' := hgd (j + 1) hj2
              obtain ⟨y, hy⟩ : ∃ y, st.getD (j + 1) 0 = y := ⟨_, rfl⟩
              rw [hy] at cy by' hE
              rw [if_pos (by omega)] at hE
              have hc2 : col - 1 ≤ y - 1 - x := by omega
              clear hcell hgd hx hy ho hc hE
              go_wp2
              all_goals go_ret2
              all_goals exact ⟨ret_off HR.out, hb⟩
            · rw [if_neg (by omega)] at hE
              have hc2 : col - 1 ≤ (s.size : Int) - x := by omega
              clear hcell hgd hx ho hc hE
              go_wp2
              all_goals go_ret2
              all_goals exact ⟨ret_off HR.out, hb⟩
end Go.Proofs.YtajhpomckpndnaaDoor
