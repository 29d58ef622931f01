/- Gaps: spaces and comments. -/
import Derived.Test.YtfilmombflohpaaG1
set_option linter.unusedSimpArgs false
set_option linter.unusedVariables false
namespace Go.Proofs.Ytfilmombflohpaa
open Go.RowKit Go.ChangeMaps Go.WideMaps
set_option maxRecDepth 100000

theorem lib_cut_le (l sep : List UInt8) : (Lib.cut l sep).1.length ≤ l.length := by
  unfold Lib.cut; split <;> simp <;> omega

theorem lib_cut_found {l sep : List UInt8} (h : (Lib.cut l sep).2.2 = true) : (Lib.cut l sep).1.length + sep.length ≤ l.length := by
  unfold Lib.cut at h ⊢
  split
  · rename_i h0
    have := Lib.index_room l sep h0
    have := Lib.index_ge l sep
    simp only [List.length_take]
    omega
  · rename_i h0; rw [if_neg h0] at h; cases h

set_option maxHeartbeats 1000000 in
theorem gap_any (s : ByteArray) (w : World) (hs : s.size < 4294967281) (hm : ML w) :
    Calls Try.prog 57 #[.string s] w fun e w' => e = .returned (.tuple #[.int .i64 (gapI s.size s.data.toList).1, .int .i64 (gapI s.size s.data.toList).2]) ∧ Below w.heap.size w w' := by
  go_enter Try.func57, Try.ntmps57
  go_wp2
  go_loopw [4] (fun n wr => ∃ k : Nat, k ≤ s.size ∧ n = .int .i64 k ∧ Hid (gapI s.size s.data.toList = ((gapI s.size (s.data.toList.drop k)).1 + k, (gapI s.size (s.data.toList.drop k)).2)) ∧ Below w.heap.size w wr) (fun n _ => s.size - (intOf n).toNat)
  case atStart => exact ⟨0, Nat.zero_le _, rfl, show _ = _ by simp, Below.refl _ _⟩
  case round =>
    obtain ⟨k, hk, rfl, HG, hb⟩ := hrel
    by_cases hlt : k < s.size
    · obtain ⟨r, hr⟩ : ∃ r, s.extract k s.size = r := ⟨_, rfl⟩
      have hrs : 0 < r.size := by rw [← hr]; simp; omega
      have hrz : r.size = s.size - k := by rw [← hr]; simp
      have hr2 : r.size ≤ s.size := by omega
      have hrl : s.data.toList.drop k = r.data.toList := by rw [← hr, Lib.extract_to_end]
      have hw32 : wrap32 (r[0].toNat : Int) = (r[0].toNat : Int) := by have := r[0].toNat_lt; unfold wrap32; omega
      have hm1 : ML wr := hm.below hb hm.lt
      have HS := gapI_stepB hrs hr2
      have C0 := space_any2 r[0] wr
      have C1 := fun W => prefix_any r [47, 47] W
      have C2 := fun W => prefix_any r [47, 42] W
      have C3 := fun W (hW : ML W) => cut_any r [10] W (by omega) hW
      have C4 := fun W (hW : ML W) => cut_any (r.extract 2 r.size) [42, 47] W (by simp; omega) hW
      rw [Lib.extract_to_end] at C4
      have hl1 := lib_cut_le r.data.toList [10]
      have hl2 := lib_cut_le (r.data.toList.drop 2) [42, 47]
      rw [← Lib.size_eq] at hl1
      rw [List.length_drop, ← Lib.size_eq] at hl2
      have hf4 : (Lib.cut (r.data.toList.drop 2) [42, 47]).2.2 = true → (Lib.cut (r.data.toList.drop 2) [42, 47]).1.length + 2 ≤ r.size - 2 := fun h => by have := lib_cut_found h; rw [List.length_drop, ← Lib.size_eq] at this; exact this
      have hp1 : Lib.hasPrefix r.data.toList [47, 47] = true → 1 ≤ (Lib.cut r.data.toList [10]).1.length := cut_line_pos
      obtain ⟨b0, e0⟩ : ∃ b, isSpaceI r[0] = b := ⟨_, rfl⟩
      obtain ⟨b1, e1⟩ : ∃ b, Lib.hasPrefix r.data.toList [47, 47] = b := ⟨_, rfl⟩
      obtain ⟨b2, e2⟩ : ∃ b, Lib.hasPrefix r.data.toList [47, 42] = b := ⟨_, rfl⟩
      obtain ⟨x3, e3⟩ : ∃ b, Lib.cut r.data.toList [10] = b := ⟨_, rfl⟩
      obtain ⟨x4, e4⟩ : ∃ b, Lib.cut (r.data.toList.drop 2) [42, 47] = b := ⟨_, rfl⟩
      have h2r : b2 = true → 2 ≤ r.size := by
        rintro rfl
        have hh : Lib.hasPrefix r.data.toList [47, 42] = true := e2
        rw [Lib.size_eq]
        generalize r.data.toList = l at hh
        match l, hh with
        | [], hh => simp [Lib.hasPrefix] at hh
        | [_], hh => simp [Lib.hasPrefix, List.isPrefixOf] at hh
        | _ :: _ :: _, _ => simp
      rw [e0, e1, e2, e3, e4] at HS
      rw [e0] at C0
      rw [e1] at C1 hp1
      rw [e2] at C2
      rw [e3] at C3 hl1 hp1
      rw [e4] at C4 hl2 hf4
      clear e0 e1 e2 e3 e4
      obtain ⟨c3, d3, f3⟩ := x3
      obtain ⟨c4, d4, f4⟩ := x4
      dsimp only at C3 C4 hl1 hl2 hp1 hf4 HS
      have D0 := Lib.hid C0
      have D1 := fun W => Lib.hid (C1 W)
      have D2 := fun W => Lib.hid (C2 W)
      have D3 := fun W hW => Lib.hid (C3 W hW)
      have D4 := fun W hW => Lib.hid (C4 W hW)
      rw [← hrl] at HS
      have ES := Lib.hid HS
      have EL := Lib.hid hrl
      have EZ := Lib.hid hrz
      clear C0 C1 C2 C3 C4 HS hrl hrz
      cases b0
      · cases b1
        · cases b2
          · go_wp2_with (first | (go_at_call 82; refine D0.out.mono ?_; rintro e w1 ⟨rfl, n0, hw0⟩; have hb1 : Below w.heap.size w w1 := hw0 ▸ below_drewN hb n0; have hm2 : ML w1 := hw0 ▸ hm1.below (below_drewN (Below.refl _ _) n0) hm1.lt; clear hw0) | (go_at_call 83; (first | (with_reducible refine (D1 _).out.mono ?_) | (with_reducible refine (D2 _).out.mono ?_)); rintro e w' ⟨rfl, rfl⟩))
            go_ret2
            exact ⟨ret_pair (by rw [HG.out, ES.out]; simp), hb1⟩
          · have h2 := h2r rfl
            cases f4
            · go_wp2_with (first | (go_at_call 82; refine D0.out.mono ?_; rintro e w1 ⟨rfl, n0, hw0⟩; have hb1 : Below w.heap.size w w1 := hw0 ▸ below_drewN hb n0; have hm2 : ML w1 := hw0 ▸ hm1.below (below_drewN (Below.refl _ _) n0) hm1.lt; clear hw0) | (go_at_call 83; (first | (with_reducible refine (D1 _).out.mono ?_) | (with_reducible refine (D2 _).out.mono ?_)); rintro e w' ⟨rfl, rfl⟩) | (go_at_call 33; (with_reducible refine (D4 _ (by assumption)).out.mono ?_); rintro e w' ⟨rfl, n, rfl⟩))
              go_ret2
              exact ⟨ret_pair (by rw [HG.out, ES.out]; simp), below_drewN hb1 _⟩
            · have h4 := hf4 rfl
              go_wp2_with (first | (go_at_call 82; refine D0.out.mono ?_; rintro e w1 ⟨rfl, n0, hw0⟩; have hb1 : Below w.heap.size w w1 := hw0 ▸ below_drewN hb n0; have hm2 : ML w1 := hw0 ▸ hm1.below (below_drewN (Below.refl _ _) n0) hm1.lt; clear hw0) | (go_at_call 83; (first | (with_reducible refine (D1 _).out.mono ?_) | (with_reducible refine (D2 _).out.mono ?_)); rintro e w' ⟨rfl, rfl⟩) | (go_at_call 33; (with_reducible refine (D4 _ (by assumption)).out.mono ?_); rintro e w' ⟨rfl, n, rfl⟩))
              go_roundw
              case rel => exact ⟨k + (2 + c4.length + 2), by have := EZ.out; omega, by go_num, gap_next HG.out (by rw [ES.out, EL.out]; simp), below_drewN hb1 _⟩
              case measure => simp [intOf]; omega
        · have hp := hp1 rfl
          go_wp2_with (first | (go_at_call 82; refine D0.out.mono ?_; rintro e w1 ⟨rfl, n0, hw0⟩; have hb1 : Below w.heap.size w w1 := hw0 ▸ below_drewN hb n0; have hm2 : ML w1 := hw0 ▸ hm1.below (below_drewN (Below.refl _ _) n0) hm1.lt; clear hw0) | (go_at_call 83; (first | (with_reducible refine (D1 _).out.mono ?_) | (with_reducible refine (D2 _).out.mono ?_)); rintro e w' ⟨rfl, rfl⟩) | (go_at_call 33; (with_reducible refine (D3 _ (by assumption)).out.mono ?_); rintro e w' ⟨rfl, n, rfl⟩))
          go_roundw
          case rel => exact ⟨k + c3.length, by have := EZ.out; omega, by go_num, gap_next HG.out (by rw [ES.out, EL.out]; simp), below_drewN hb1 _⟩
          case measure => simp [intOf]; omega
      · go_wp2_with (go_at_call 82; refine D0.out.mono ?_; rintro e w1 ⟨rfl, n0, hw0⟩; have hb1 : Below w.heap.size w w1 := hw0 ▸ below_drewN hb n0; have hm2 : ML w1 := hw0 ▸ hm1.below (below_drewN (Below.refl _ _) n0) hm1.lt; clear hw0)
        go_roundw
        case rel => exact ⟨k + 1, by omega, by go_num, gap_next HG.out (by rw [ES.out, EL.out]; simp), hb1⟩
        case measure => simp [intOf]; omega
    · go_wp2
      go_ret2
      exact ⟨ret_pair (by rw [HG.out, List.drop_eq_nil_of_le (by rw [← Lib.size_eq]; omega), gapI_nil]; simp), hb⟩
end Go.Proofs.Ytfilmombflohpaa
