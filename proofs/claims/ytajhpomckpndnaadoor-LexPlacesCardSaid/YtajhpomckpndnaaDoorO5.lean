/- The package's Offset: its parts. -/
import Derived.Test.YtajhpomckpndnaaDoorO4
set_option linter.unusedSimpArgs false
set_option linter.unusedVariables false
namespace Go.Proofs.YtajhpomckpndnaaDoor
open Go.RowKit Go.ChangeMaps Go.WideMaps
set_option maxRecDepth 100000

theorem lineSize_any (s : ByteArray) (w : World) (hs : s.size ≤ 65536) :
    Calls Tryd.prog 14 #[.string s] w fun e w' => e = .returned (.int .i64 (s.size + 1)) ∧ w = w' := by
  go_enter Tryd.func14, Tryd.ntmps14
  go_wp2
  go_ret
  exact ⟨rfl, rfl⟩

def sizeV (z : ByteArray) : Value := .int .i64 (z.size + 1)

set_option maxHeartbeats 2000000 in
theorem transform_any (zs : List ByteArray) (g : Nat) (w : World) (hn : zs.length ≤ 65537) (hz : ∀ z ∈ zs, z.size ≤ 65536) (hg : g < w.heap.size) (hc : ∀ j, j < zs.length → w.cell? ⟨g, j, none⟩ = some (.string (zs.getD j ByteArray.empty))) :
    Calls Tryd.prog 12 #[.slice (some ⟨g, 0, none⟩) zs.length zs.length, .func (.func 14) #[] #[]] w fun e w' => ∃ v, e = .returned v ∧ w'.ownsRow w.heap.size 3 1 v zs.length (zs.map sizeV) ∧ Below w.heap.size w w' := by
  obtain ⟨i0, hi, hz0, hz1, hz2⟩ := info_parts info3
  have hzj : ∀ j, j < zs.length → (zs.getD j ByteArray.empty).size ≤ 65536 := by
    intro j hj
    refine hz _ ?_
    simp only [List.getD_eq_getElem?_getD, List.getElem?_eq_getElem hj, Option.getD_some]
    exact List.getElem_mem hj
  have hst : ∀ j, j < zs.length → (zs.take (j + 1)).map sizeV = (zs.take j).map sizeV ++ [sizeV (zs.getD j ByteArray.empty)] := by
    intro j hj
    rw [List.take_add_one, List.getElem?_eq_getElem hj, List.map_append]
    simp [List.getD, hj]
  have hend : (zs.take zs.length).map sizeV = zs.map sizeV := by rw [List.take_of_length_le (Nat.le_refl _)]
  have HST := Lib.hid hst
  have HZ := Lib.hid hzj
  have HEND := Lib.hid hend
  clear hst hz hzj hend
  obtain ⟨X, hX⟩ : ∃ X : Nat → List Value, ∀ j, (zs.take j).map sizeV = X j := ⟨_, fun _ => rfl⟩
  obtain ⟨n, hnn⟩ : ∃ n, zs.length = n := ⟨_, rfl⟩
  rw [hnn] at hn hc ⊢
  go_enter Tryd.func12, Tryd.ntmps12
  go_wp2_with (at_make; refine wpList_make_own _ rfl _ _ 41 rfl w.heap.size 3 i0 (.int .i64 0) 1 Tryd.underlying41 hi hz0 hz1 _ _ _ n rfl rfl (by omega) ?b2 ?b3 (Nat.le_refl _) ?_)
  case b2 => rw [hz2]; omega
  case b3 => unfold maxLen; omega
  intro w0 hown0 hgrow0
  have hb0 : Below w.heap.size w w0 := (Below.refl _ _).grown hgrow0 (Nat.le_refl _) (fun k h => by cases h)
  go_wp2
  go_loopw [5, 7, 13] (fun v _ c wr => ∃ k : Nat, k ≤ n ∧ c = .int .i64 k ∧ wr.ownsRow w.heap.size 3 1 v k (X k) ∧ Below w.heap.size w wr) (fun _ _ c _ => n - (intOf c).toNat)
  case atStart => exact ⟨0, Nat.zero_le _, rfl, by rw [← hX]; exact hown0, hb0⟩
  case round =>
    obtain ⟨k, hk, rfl, hr, hb⟩ := hrel
    clear hown0 hgrow0 hb0
    by_cases hlt : k < n
    · have hck := (hb.cell (p := ⟨g, k, none⟩) hg).trans (hc k hlt)
      have hzk := HZ.out k (by omega)
      have HY := HST.out k (by omega)
      rw [hX, hX] at HY
      obtain ⟨z, hz⟩ : ∃ z, zs.getD k ByteArray.empty = z := ⟨_, rfl⟩
      rw [hz] at hck hzk HY
      have HY2 := Lib.hid HY
      clear HY hz hc hX HST HZ HEND
      go_wp2_with (first | (go_at_call 14; refine (lineSize_any _ _ hzk).mono ?_; rintro e w' ⟨rfl, rfl⟩) | (at_builtin; refine wpList_append_own _ rfl _ _ 41 rfl w.heap.size 3 i0 (.int .i64 0) 1 8 Tryd.underlying41 hi hz0 hz1 hz2 rfl (by decide) _ _ _ rfl (hr.alloc _) ⟨wr.heap.size, 0, none⟩ 1 1 [.int .i64 ((z.size : Int) + 1)] rfl rfl (cell_one_new _ _ _) (by simp [Value.oneCell']) (by simp [maxLen]; omega) (by omega) (by have := hb.size; simp; omega) ?_; intro v' w2 hown' hgrow _))
      have hgr : (wr.alloc (.cells #[.int .i64 ((z.size : Int) + 1)] 3)).grownBy w2 u5.ownBlock := hgrow
      have hb2 : Below w.heap.size w w2 := (hb.alloc hb.size _).grown hgr (by have := hb.size; simp; omega) (fun j ej => (hr.lt j ej).1)
      refine ⟨⟨k + 1, hlt, by go_num, ?_, hb2⟩, by simp [intOf] <;> omega⟩
      rw [HY2.out]
      exact hown'
    · obtain rfl : k = n := by omega
      have HE := HEND.out
      rw [hnn, hX] at HE
      have hr' := hr
      rw [HE] at hr'
      clear HE
      clear hX HST HZ HEND hc hnn
      go_wp2
      go_ret
      exact ⟨_, rfl, hr', hb⟩
end Go.Proofs.YtajhpomckpndnaaDoor
