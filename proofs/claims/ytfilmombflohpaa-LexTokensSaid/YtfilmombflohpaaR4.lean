/- The reference's signs: the longest one. -/
import Derived.Test.YtfilmombflohpaaM1
set_option linter.unusedSimpArgs false
set_option linter.unusedVariables false
namespace Go.Proofs.Ytfilmombflohpaa
open Go.RowKit Go.ChangeMaps Go.WideMaps
set_option maxRecDepth 100000

theorem RowAt.below {w w' : World} {b B : Nat} {ls : List (List UInt8)} (h : RowAt w b ls) (hb : Below B w w') (hB : b < B) : RowAt w' b ls :=
  fun j hj => (hb.cell (p := ⟨b, j, none⟩) hB).trans (h j hj)

theorem sg_at : ∀ k, k < 39 → 0 < (sgL.getD k []).length ∧ (sgL.getD k []).length ≤ 4 := by decide

set_option maxHeartbeats 4000000 in
theorem rSign_any (s : ByteArray) (w : World) (hs : s.size ≤ 65536) :
    Calls Try.prog 53 #[.string s] w fun e w' => e = .returned (.int .i64 (rSignL s.data.toList)) ∧ Below w.heap.size w w' := by
  have HR : ∀ W, W = w.alloc (.cells (strCells sgL) 9) → Hid (RowAt W w.heap.size sgL ∧ Below w.heap.size w W ∧ w.heap.size < W.heap.size) := by
    rintro W rfl
    exact ⟨fun j hj => strCells_cell w sgL j hj, (Below.refl _ w).alloc (Nat.le_refl _) _, by simp⟩
  have H1 := Lib.hid (rSigns_any w)
  obtain ⟨B, hB⟩ : ∃ B, w.heap.size = B := ⟨_, rfl⟩
  rw [hB] at H1 HR ⊢
  clear hB
  go_enter Try.func53, Try.ntmps53
  go_wp2_with (go_at_call 15; refine H1.out.mono ?_; rintro e W ⟨rfl, hW⟩; have HW := HR W hW; clear hW)
  clear HR H1
  go_loopw [4, 5] (fun n i wr => ∃ k m : Nat, k ≤ 39 ∧ m ≤ 4 ∧ n = .int .i64 m ∧ i = .int .i64 k ∧ Hid (m = longest s.data.toList (sgL.take k) 0) ∧ Hid (RowAt wr B sgL ∧ Below B w wr ∧ B < wr.heap.size)) (fun _ i _ => 39 - (intOf i).toNat)
  case atStart => exact ⟨0, 0, by omega, by omega, rfl, rfl, (show _ = _ from rfl), HW⟩
  case round =>
    clear HW
    obtain ⟨k, m, hk, hm, rfl, rfl, HM, HW⟩ := hrel
    by_cases hlt : k < 39
    · have c := HW.out.1 k hlt
      have hst := longest_step s.data.toList sgL k hlt
      have hx4 := sg_at k hlt
      rw [← HM.out] at hst
      obtain ⟨x, hx⟩ : ∃ x, mk (sgL.getD k []) = x := ⟨_, rfl⟩
      have hxl : sgL.getD k [] = x.data.toList := by rw [← hx]
      rw [hx] at c
      rw [hxl, ← Lib.size_eq, ← Lib.size_eq] at hst
      rw [hxl, ← Lib.size_eq] at hx4
      clear hx hxl
      have HS := Lib.hid hst
      clear hst
      have hx1 := hx4.1
      have hx2 := hx4.2
      clear hx4
      have HB := Lib.hid (HW.out.2.1)
      by_cases h1 : m < x.size
      · have d1 : decide (m < x.size) = true := by simpa using h1
        by_cases h2 : x.size ≤ s.size
        · have d2 : decide (x.size ≤ s.size) = true := by simpa using h2
          by_cases h3 : s.data.toList.take x.size = x.data.toList
          · have d3 : ((s.extract 0 x.size).toList == x.toList) = true := by
              rw [Lib.toList_data, Lib.toList_data, head_data, h3]; simp
            have HE : Hid (longest s.data.toList (sgL.take (k + 1)) 0 = x.size) := by show _ = _; rw [HS.out, if_pos ⟨h1, h2, h3⟩]
            clear h3
            go_wp2
            go_quiet (fail)
            go_wp2
            go_roundw
            case rel => exact ⟨k + 1, x.size, by omega, hx2, rfl, by go_num, HE.out.symm, ⟨(HW.out.1).below (below_drewN (Below.refl _ _) _) HW.out.2.2, below_drewN HB.out _, HW.out.2.2⟩⟩
            case measure => simp [intOf]; omega
          · have d3 : ((s.extract 0 x.size).toList == x.toList) = false := by
              rw [Lib.toList_data, Lib.toList_data, head_data]; simpa using h3
            have HE : Hid (longest s.data.toList (sgL.take (k + 1)) 0 = m) := by show _ = _; rw [HS.out, if_neg (fun e => h3 e.2.2)]
            clear h3
            go_wp2
            go_quiet (fail)
            go_wp2
            go_roundw
            case rel => exact ⟨k + 1, m, by omega, hm, rfl, by go_num, HE.out.symm, ⟨(HW.out.1).below (below_drewN (Below.refl _ _) _) HW.out.2.2, below_drewN HB.out _, HW.out.2.2⟩⟩
            case measure => simp [intOf]; omega
        · have d2 : decide (x.size ≤ s.size) = false := by simpa using h2
          have HE : Hid (longest s.data.toList (sgL.take (k + 1)) 0 = m) := by show _ = _; rw [HS.out, if_neg (fun e => h2 e.2.1)]
          go_wp2
          go_quiet (fail)
          go_wp2
          go_roundw
          case rel => exact ⟨k + 1, m, by omega, hm, rfl, by go_num, HE.out.symm, ⟨(HW.out.1).below (below_drewN (Below.refl _ _) _) HW.out.2.2, below_drewN HB.out _, HW.out.2.2⟩⟩
          case measure => simp [intOf]; omega
      · have d1 : decide (m < x.size) = false := by simpa using h1
        have HE : Hid (longest s.data.toList (sgL.take (k + 1)) 0 = m) := by show _ = _; rw [HS.out, if_neg (fun e => h1 e.1)]
        go_wp2
        go_quiet (fail)
        go_wp2
        go_roundw
        case rel => exact ⟨k + 1, m, by omega, hm, rfl, by go_num, HE.out.symm, ⟨(HW.out.1).below (below_drewN (Below.refl _ _) _) HW.out.2.2, below_drewN HB.out _, HW.out.2.2⟩⟩
        case measure => simp [intOf]; omega
    · obtain rfl : k = 39 := by omega
      have HL : Hid (m = longest s.data.toList sgL 0) := by
        have h := HM.out
        rw [show sgL.take 39 = sgL from rfl] at h
        exact h
      have HB := Lib.hid (HW.out.2.1)
      clear HM HW hlt
      by_cases h0 : m = 0
      · subst h0
        by_cases hz : 0 < s.size
        · have he := empty_f hz
          have HU := Lib.hid (headU_cons hz)
          by_cases hu : (s[0].toNat : Int) = 95
          · have hu' : ((s[0].toNat : Int) == 95) = true := by simpa using hu
            have HR : Hid (rSignL s.data.toList = 1) := by show _ = _; unfold rSignL; rw [← HL.out, HU.out, hu']; rfl
            clear hu
            go_wp2
            all_goals go_ret
            all_goals exact ⟨ret_int (by simp [HR.out]), HB.out⟩
          · have hu' : ((s[0].toNat : Int) == 95) = false := by simpa using hu
            have HR : Hid (rSignL s.data.toList = 0) := by show _ = _; unfold rSignL; rw [← HL.out, HU.out, hu']; rfl
            clear hu
            go_wp2
            all_goals go_ret
            all_goals exact ⟨ret_int (by simp [HR.out]), HB.out⟩
        · have he := empty_t hz
          have HR : Hid (rSignL s.data.toList = 0) := by show _ = _; unfold rSignL; rw [← HL.out, nil_t hz]; rfl
          go_wp2
          all_goals go_ret
          all_goals exact ⟨ret_int (by simp [HR.out]), HB.out⟩
      · have h0' : ((m : Int) == 0) = false := by simpa using h0
        have HR : Hid (rSignL s.data.toList = m) := by show _ = _; unfold rSignL; rw [← HL.out, if_neg (fun e => h0 e.1)]
        go_wp2
        all_goals go_ret
        all_goals exact ⟨ret_int (by rw [HR.out]), HB.out⟩
end Go.Proofs.Ytfilmombflohpaa
