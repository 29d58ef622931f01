/- The package's Offset. -/
import Derived.Test.YtajhpomckpndnaaDoorO5
set_option linter.unusedSimpArgs false
set_option linter.unusedVariables false
namespace Go.Proofs.YtajhpomckpndnaaDoor
open Go.RowKit Go.ChangeMaps Go.WideMaps
set_option maxRecDepth 100000

theorem sizesF_bd : ∀ (l : List UInt8) (x : Int), x ∈ sizesF l → 1 ≤ x ∧ x ≤ l.length + 1
  | [], x, h => by simp [sizesF] at h; subst h; simp
  | c :: r, x, h => by
    obtain ⟨z, q, hz, hz1⟩ := sizesF_cons r
    have ih := fun y hy => sizesF_bd r y hy
    rw [List.length_cons]
    cases hc : isNl c
    · have hs : sizesF (c :: r) = (z + 1) :: q := by simp [sizesF, hc, hz]
      rw [hs] at h
      rw [hz] at ih
      rcases List.mem_cons.1 h with rfl | h
      · have := ih z (by simp); omega
      · have := ih x (by simp [h]); omega
    · have hs : sizesF (c :: r) = 1 :: sizesF r := by simp [sizesF, hc]
      rw [hs] at h
      rcases List.mem_cons.1 h with rfl | h
      · omega
      · have := ih x h; omega
theorem sizesF_len : ∀ l : List UInt8, (sizesF l).length ≤ l.length + 1
  | [] => by simp [sizesF]
  | c :: r => by
    obtain ⟨z, q, hz, hz1⟩ := sizesF_cons r
    have ih := sizesF_len r
    rw [List.length_cons]
    cases hc : isNl c
    · have hs : sizesF (c :: r) = (z + 1) :: q := by simp [sizesF, hc, hz]
      rw [hs]; rw [hz] at ih; rw [List.length_cons] at ih ⊢; omega
    · have hs : sizesF (c :: r) = 1 :: sizesF r := by simp [sizesF, hc]
      rw [hs, List.length_cons]; omega

theorem sum_take : ∀ (z : List Int) (k : Nat), (∀ x ∈ z, 1 ≤ x ∧ x ≤ 65537) → 0 ≤ (z.take k).sum ∧ (z.take k).sum ≤ 65537 * (k : Int)
  | [], k, _ => by simp; omega
  | x :: r, 0, _ => by simp
  | x :: r, k + 1, h => by
    have ih := sum_take r k (fun y hy => h y (by simp [hy]))
    have hx := h x (by simp)
    rw [List.take_succ_cons, List.sum_cons]
    omega
theorem sum_step (z : List Int) (k : Nat) (h : k < z.length) : (z.take (k + 1)).sum = (z.take k).sum + z.getD k 0 := by
  rw [List.take_add_one, List.getElem?_eq_getElem h, List.sum_append]
  simp [List.getD, h]

theorem split_any' (s : ByteArray) (w : World) (hs : s.size ≤ 65536) (hm : ML w) :
    Calls Tryd.prog 13 #[.string s, .string ⟨#[10]⟩] w fun e w' => e = .returned (.slice (some ⟨w.heap.size, 0, none⟩) (Lib.splitB ⟨#[10]⟩ 0 (Lib.countB s ⟨#[10]⟩) s).length (Lib.splitB ⟨#[10]⟩ 0 (Lib.countB s ⟨#[10]⟩) s).length) ∧ w' = w.alloc (.cells ((Lib.splitB ⟨#[10]⟩ 0 (Lib.countB s ⟨#[10]⟩) s).map Value.string).toArray 9) := by
  obtain ⟨m, hm⟩ := hm
  have h1 : 1 ≤ (⟨#[10]⟩ : ByteArray).size := by decide
  rw [Lib.splitB_all ⟨#[10]⟩ h1 0 _ s rfl]
  exact Tryd.strings_Split s ⟨#[10]⟩ m w (by omega) hm h1

theorem row_base {w : World} {base base' : Nat} {e : TypeId} {size : Nat} {v : Value} {n : Nat} {xs : List Value} (h : w.ownsRow base e size v n xs) (hb : base' ≤ base) : w.ownsRow base' e size v n xs := by
  refine ⟨h.1, ?_⟩
  rcases h.2 with h | ⟨g, cap, cur, a, b, c⟩
  · exact .inl h
  · exact .inr ⟨g, cap, cur, a, Nat.le_trans hb b, c⟩

/-- strings.Split, then the sizes. -/
theorem sizes_any (s : ByteArray) (w : World) (hs : s.size ≤ 65536) (zs : List ByteArray) (hzs : Lib.splitB ⟨#[10]⟩ 0 (Lib.countB s ⟨#[10]⟩) s = zs) :
    Calls Tryd.prog 12 #[.slice (some ⟨w.heap.size, 0, none⟩) zs.length zs.length, .func (.func 14) #[] #[]] (w.alloc (.cells (zs.map Value.string).toArray 9)) fun e w' =>
      ∃ v, e = .returned v ∧ w'.ownsRow w.heap.size 3 1 v (sizesF s.data.toList).length ((sizesF s.data.toList).map (Value.int .i64)) ∧ Below w.heap.size w w' := by
  have hsz := split_sizes s
  rw [hzs] at hsz
  have hlen : zs.length = (sizesF s.data.toList).length := by rw [← hsz, List.length_map]
  have hl := sizesF_len s.data.toList
  rw [← Lib.size_eq] at hl
  have hb0 : Below w.heap.size w (w.alloc (.cells (zs.map Value.string).toArray 9)) := (Below.refl _ w).alloc (Nat.le_refl _) _
  refine (transform_any zs w.heap.size _ (by omega) ?_ (by simp) ?_).mono ?_
  · intro z hz
    have h1 : ((z.size : Int) + 1) ∈ sizesF s.data.toList := by rw [← hsz]; exact List.mem_map.2 ⟨z, hz, rfl⟩
    have := (sizesF_bd _ _ h1).2
    rw [← Lib.size_eq] at this
    omega
  · intro j hj
    have h0 : (w.alloc (.cells (zs.map Value.string).toArray 9)).heap[w.heap.size]? = some (.cells (zs.map Value.string).toArray 9) := World.alloc_heap_new w _
    unfold World.cell?
    rw [h0]
    simp [List.getD, hj]
  · rintro e w' ⟨v, rfl, hr, hb⟩
    refine ⟨v, rfl, ?_, hb0.trans (hb.mono (by simp))⟩
    have e1 : zs.map sizeV = (sizesF s.data.toList).map (Value.int .i64) := by rw [← hsz, List.map_map]; rfl
    rw [hlen, e1] at hr
    exact row_base hr (by simp)

set_option maxHeartbeats 4000000 in
theorem offset_any (s : ByteArray) (line col : Int) (w : World) (hs : s.size ≤ maxLen) (hm : ML w) (hcol : col ≤ 9223372036854775807) :
    Calls Tryd.prog 8 #[.string s, .int .i64 line, .int .i64 col] w fun e w' => e = .returned (offV s line col) ∧ Below w.heap.size w w' := by
  unfold maxLen at hs
  by_cases hl : 65536 < s.size
  · have HR := Lib.hid (offR_long (line := line) (col := col) hl)
    go_enter Tryd.func8, Tryd.ntmps8
    go_wp2
    all_goals go_ret2
    all_goals exact ⟨ret_off HR.out, Below.refl _ _⟩
  · have hl' : s.size ≤ 65536 := by omega
    obtain ⟨zs, hzs⟩ : ∃ zs, Lib.splitB ⟨#[10]⟩ 0 (Lib.countB s ⟨#[10]⟩) s = zs := ⟨_, rfl⟩
    have H1 := Lib.hid (split_any' s w hl' hm)
    have H2 := Lib.hid (sizes_any s w hl' zs hzs)
    rw [hzs] at H1
    have HS := Lib.hid (offZ_eq s.data.toList line col)
    have hlen := sizesF_len s.data.toList
    have hbd := sizesF_bd s.data.toList
    rw [← Lib.size_eq] at hlen hbd
    obtain ⟨Z, hZ⟩ : ∃ Z, sizesF s.data.toList = Z := ⟨_, rfl⟩
    have hpos : 1 ≤ Z.length := by
      obtain ⟨z, q, hq, _⟩ := sizesF_cons s.data.toList
      rw [← hZ, hq, List.length_cons]; omega
    rw [hZ] at H2 HS hlen hbd
    clear hZ hzs hl
    have hbd' : ∀ x ∈ Z, 1 ≤ x ∧ x ≤ 65537 := fun x hx => by have := hbd x hx; omega
    have HSUM := Lib.hid (fun k => sum_take Z k hbd')
    have HSTEP := Lib.hid (sum_step Z)
    have hgd : ∀ j, j < Z.length → 1 ≤ Z.getD j 0 ∧ Z.getD j 0 ≤ 65537 := by
      intro j hj
      refine hbd' _ ?_
      simp only [List.getD_eq_getElem?_getD, List.getElem?_eq_getElem hj, Option.getD_some]
      exact List.getElem_mem hj
    obtain ⟨L, hL⟩ : ∃ L, Z.length = L := ⟨_, rfl⟩
    have HC : Hid (∀ (w1 : World) (v : Value), w1.ownsRow w.heap.size 3 1 v L (Z.map (Value.int .i64)) → ∃ g cap, v = .slice (some ⟨g, 0, none⟩) L cap ∧ L ≤ cap ∧ ∀ j, j < L → w1.cell? ⟨g, j, none⟩ = some (.int .i64 (Z.getD j 0))) := by
      intro w1 v hr
      obtain ⟨m, hm⟩ : ∃ m, L = m + 1 := ⟨L - 1, by omega⟩
      rw [hm] at hr ⊢
      have hr2 := hr
      obtain ⟨g, cap, rfl⟩ := ownsRow_succ hr
      refine ⟨g, cap, rfl, ?_, ?_⟩
      · rcases hr2.2 with ⟨h, _⟩ | ⟨g', cap', cur, h, _, _, h5, _⟩
        · cases h
        · cases h; exact h5
      · intro j hj
        refine cells_of hr j _ ?_
        have : j < Z.length := by omega
        simp [List.getElem?_map, List.getD, this]
    rw [hL] at H2 hlen hpos hgd HSTEP
    have HS2 : Hid (offF s.data.toList line col = if line < 1 ∨ (L : Int) < line then none
      else if col < 1 ∨ Z.getD (line - 1).toNat 0 < col then none
      else some (col - 1 + (Z.take (line - 1).toNat).sum)) := by
      rw [← hL]; exact HS.out.symm
    clear HS hL hbd hbd'
    by_cases ho : line < 1 ∨ (L : Int) < line
    · have HR := Lib.hid (offR_none (s := s) (line := line) (col := col) hl' (by rw [HS2.out, if_pos ho]))
      by_cases h1 : line < 1
      · clear ho HS2 hgd HSUM HSTEP
        go_enter Tryd.func8, Tryd.ntmps8
        go_wp2_with (first | (go_at_call 13; refine H1.out.mono ?_; rintro e w' ⟨rfl, rfl⟩) | (go_at_call 12; refine H2.out.mono ?_; rintro e w1 ⟨v, rfl, hr, hb⟩; obtain ⟨g, cap, rfl, hcap, hcell⟩ := HC.out w1 v hr))
        all_goals go_ret2
        all_goals exact ⟨ret_off HR.out, hb⟩
      · have h2 : (L : Int) < line := by omega
        clear ho HS2 hgd HSUM HSTEP
        go_enter Tryd.func8, Tryd.ntmps8
        go_wp2_with (first | (go_at_call 13; refine H1.out.mono ?_; rintro e w' ⟨rfl, rfl⟩) | (go_at_call 12; refine H2.out.mono ?_; rintro e w1 ⟨v, rfl, hr, hb⟩; obtain ⟨g, cap, rfl, hcap, hcell⟩ := HC.out w1 v hr))
        all_goals go_ret2
        all_goals exact ⟨ret_off HR.out, hb⟩
    · obtain ⟨j, rfl⟩ : ∃ j : Nat, line = (j : Int) + 1 := ⟨(line - 1).toNat, by omega⟩
      rw [if_neg ho] at HS2
      have hj : j < L := by omega
      have e1 : ((j : Int) + 1 - 1).toNat = j := by omega
      rw [e1] at HS2
      have bx := hgd j hj
      obtain ⟨x, hx⟩ : ∃ x, Z.getD j 0 = x := ⟨_, rfl⟩
      rw [hx] at bx HS2
      by_cases hc : col < 1 ∨ x < col
      · have HR := Lib.hid (offR_none (s := s) (line := (j : Int) + 1) (col := col) hl' (by rw [HS2.out, if_pos hc]))
        by_cases hc1 : col < 1
        · clear ho hc HS2 hgd HSUM HSTEP hx
          go_enter Tryd.func8, Tryd.ntmps8
          go_wp2_with (first | (go_at_call 13; refine H1.out.mono ?_; rintro e w' ⟨rfl, rfl⟩) | (go_at_call 12; refine H2.out.mono ?_; rintro e w1 ⟨v, rfl, hr, hb⟩; obtain ⟨g, cap, rfl, hcap, hcell⟩ := HC.out w1 v hr))
          all_goals go_ret2
          all_goals exact ⟨ret_off HR.out, hb⟩
        · have hc2 : x < col := by omega
          clear ho hc HS2 hgd HSUM HSTEP
          go_enter Tryd.func8, Tryd.ntmps8
          go_wp2_with (first | (go_at_call 13; refine H1.out.mono ?_; rintro e w' ⟨rfl, rfl⟩) | (go_at_call 12; refine H2.out.mono ?_; rintro e w1 ⟨v, rfl, hr, hb⟩; obtain ⟨g, cap, rfl, hcap, hcell⟩ := HC.out w1 v hr; have cx := hcell j hj; rw [hx] at cx; clear hcell))
          all_goals go_ret2
          all_goals exact ⟨ret_off HR.out, hb⟩
      · have HR := Lib.hid (offR_some (s := s) (line := (j : Int) + 1) (col := col) hl' (by rw [HS2.out, if_neg hc]))
        have hc1 : 1 ≤ col := by omega
        have hc2 : col ≤ x := by omega
        clear ho hc HS2
        go_enter Tryd.func8, Tryd.ntmps8
        go_wp2_with (first | (go_at_call 13; refine H1.out.mono ?_; rintro e w' ⟨rfl, rfl⟩) | (go_at_call 12; refine H2.out.mono ?_; rintro e w1 ⟨v, rfl, hr, hb⟩; obtain ⟨g, cap, rfl, hcap, hcell⟩ := HC.out w1 v hr; have cx := hcell j hj; rw [hx] at cx; have HCELL := Lib.hid hcell; clear hcell))
        go_loop [9, 11, 46] (fun a _ c => ∃ (k : Nat) (y : Int), k ≤ j ∧ c = .int .i64 k ∧ a = .int .i64 y ∧ Hid (y = col - 1 + (Z.take k).sum)) (fun _ _ c => j - (intOf c).toNat)
        case atStart => exact ⟨0, col - 1, Nat.zero_le _, rfl, rfl, show _ = _ by simp⟩
        case round =>
          obtain ⟨k, y, hk, rfl, rfl, HY⟩ := hrel
          have hs1 := HSUM.out k
          have hyb : y = col - 1 + (Z.take k).sum := HY.out
          have hy1 : 0 ≤ y ∧ y ≤ 65537 + 65537 * 65537 := by omega
          clear hs1 hyb
          by_cases hlt : k < j
          · have ck := HCELL.out k (by omega)
            have bk := hgd k (by omega)
            have hst := HSTEP.out k (by omega)
            obtain ⟨z, hz⟩ : ∃ z, Z.getD k 0 = z := ⟨_, rfl⟩
            rw [hz] at ck bk hst
            have HY2 : Hid (y + z = col - 1 + (Z.take (k + 1)).sum) := by
              have h1 : y = col - 1 + (Z.take k).sum := HY.out
              show _ = _
              omega
            clear hst hz hgd
            go_wp2
            go_round
            case rel => exact ⟨k + 1, y + z, hlt, by go_num, rfl, HY2⟩
            case measure => simp [intOf]; omega
          · obtain rfl : k = j := by omega
            clear hgd
            go_wp2
            go_ret2
            exact ⟨ret_off (by rw [HR.out, HY.out]), hb⟩
end Go.Proofs.YtajhpomckpndnaaDoor
