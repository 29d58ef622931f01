/- divide, where the divisor has one limb or is the greater one. -/
import Derived.Test.YtjemolaobhlapaaGreatDoorN10
set_option linter.unusedSimpArgs false
set_option linter.unusedVariables false
namespace Go.Proofs.YtjemolaobhlapaaGreatDoor
open Go.RowKit
set_option maxRecDepth 100000

theorem builtM : Tryz.prog.built 80 [] = some (magF (fun _ => 0) 0) := by kernel_rfl
theorem yM_zero {ops : Array Oper} {S : World → Prop} {op : Oper} {a : Act} (hw : Region.wanted op (yielded ops a.tmps) = true) (ho : op.op = .build 80 #[]) : YieldsIf Tryz.prog ops S op (.agg (magF (fun _ => 0) 0)) a :=
  .inl ⟨hw, fun w _ => by
    unfold execOp
    simp only [ho, Sem.run_bind, run_build w 80 _ _ builtM, Result.andThen_ok, List.map_toArray, List.map_nil, Array.map_empty, Array.toList_empty]
    rfl⟩

/-- Four blocks of magnitudes: two arguments, two results. -/
structure St4 (w0 : World) (B : Nat) (f g h k : Nat → Nat) (u v x y : Nat) (w : World) : Prop where
  b0 : BlockIs w B 80 (magF f u)
  b1 : BlockIs w (B + 1) 80 (magF g v)
  b2 : BlockIs w (B + 2) 80 (magF h x)
  b3 : BlockIs w (B + 3) 80 (magF k y)
  bl : Below B w0 w
theorem St4.below {w0 : World} {B : Nat} {f g h k : Nat → Nat} {u v x y : Nat} {w w' : World} (s : St4 w0 B f g h k u v x y w) (hb : Below w.heap.size w w') : St4 w0 B f g h k u v x y w' :=
  ⟨s.b0.below hb s.b0.lt, s.b1.below hb s.b1.lt, s.b2.below hb s.b2.lt, s.b3.below hb s.b3.lt, s.bl.trans (hb.mono (by have := s.b0.lt; omega))⟩
theorem St4.drew {w0 : World} {B : Nat} {f g h k : Nat → Nat} {u v x y : Nat} {w : World} (s : St4 w0 B f g h k u v x y w) : St4 w0 B f g h k u v x y w.drew := ⟨s.b0.drew, s.b1.drew, s.b2.drew, s.b3.drew, s.bl.drew⟩
theorem St4.set2 {w0 : World} {B : Nat} {f g h k : Nat → Nat} {u v x y : Nat} {w : World} (s : St4 w0 B f g h k u v x y w) (h' : Nat → Nat) (x' : Nat) : St4 w0 B f g h' k u v x' y (w.setRow (B + 2) (magF h' x')) :=
  ⟨s.b0.rowOther _ _ (by omega), s.b1.rowOther _ _ (by omega), s.b2.row _, s.b3.rowOther _ _ (by omega), below_row s.bl _ _ (by omega)⟩
theorem St4.set3 {w0 : World} {B : Nat} {f g h k : Nat → Nat} {u v x y : Nat} {w : World} (s : St4 w0 B f g h k u v x y w) (h' : Nat → Nat) (x' : Nat) : St4 w0 B f g h h' u v x x' (w.setRow (B + 3) (magF h' x')) :=
  ⟨s.b0.rowOther _ _ (by omega), s.b1.rowOther _ _ (by omega), s.b2.rowOther _ _ (by omega), s.b3.row _, below_row s.bl _ _ (by omega)⟩
theorem St4.alloc {w0 : World} {B : Nat} {f g h k : Nat → Nat} {u v x y : Nat} {w : World} (s : St4 w0 B f g h k u v x y w) (o : Obj) : St4 w0 B f g h k u v x y (w.alloc o) :=
  ⟨s.b0.alloc _, s.b1.alloc _, s.b2.alloc _, s.b3.alloc _, s.bl.alloc (by have := s.b0.lt; omega) _⟩
theorem St4.row {w0 : World} {B : Nat} {f g h k : Nat → Nat} {u v x y : Nat} {w : World} (s : St4 w0 B f g h k u v x y w) (C : Nat) (cs : Array Value) (hC : B + 3 < C) : St4 w0 B f g h k u v x y (w.setRow C cs) :=
  ⟨s.b0.rowOther _ _ (by omega), s.b1.rowOther _ _ (by omega), s.b2.rowOther _ _ (by omega), s.b3.rowOther _ _ (by omega), below_row s.bl _ _ (by omega)⟩
theorem st4_start (a b : Nat) (w : World) {B : Nat} (hB : w.heap.size = B) {W : World} (hW : (((w.alloc (.cells (mag a) 80)).alloc (.cells (mag b) 80)).alloc (.cells (magF (fun _ => 0) 0) 80)).alloc (.cells (magF (fun _ => 0) 0) 80) = W) :
    St4 w B (limb a) (limb b) (fun _ => 0) (fun _ => 0) (len a) (len b) 0 0 W := by
  obtain ⟨h1, h2, h3, h4, h5⟩ := start4 a b w hB hW
  exact ⟨h1, h2, h3, h4, h5⟩
theorem ret_two {a b c d : Array Value} (h : a = b) (h2 : c = d) : Ending.returned (.tuple #[.agg a, .agg c]) = .returned (.tuple #[.agg b, .agg d]) := by rw [h, h2]
theorem mag_zero : mag 0 = magF (fun _ => 0) 0 := by
  unfold mag
  rw [len_zero]
  exact magF_congr _ fun i _ => by unfold limb; simp
theorem limb_zero (b : Nat) (h : len b = 1) (hb : b < pw 30) : limb b 0 = b := by
  have := (lt_pw_iff (k := 1) hb).2 (by omega)
  unfold limb
  simp only [pw] at this ⊢
  omega

set_option maxHeartbeats 4000000 in
theorem divide_less (a b : Nat) (ha : a < pw 30) (hb : b < pw 30) (hab : a < b) (w : World) :
    Calls Tryz.prog 142 #[.agg (mag a), .agg (mag b)] w fun e w' => e = .returned (.tuple #[.agg (mag 0), .agg (mag a)]) ∧ Below w.heap.size w w' := by
  obtain ⟨B, hB⟩ : ∃ B, w.heap.size = B := ⟨_, rfl⟩
  obtain ⟨W, hW⟩ : ∃ W, (((w.alloc (.cells (mag a) 80)).alloc (.cells (mag b) 80)).alloc (.cells (magF (fun _ => 0) 0) 80)).alloc (.cells (magF (fun _ => 0) 0) 80) = W := ⟨_, rfl⟩
  have HW := Lib.hid (st4_start a b w hB hW)
  have hz0 := zeroM
  have HC := Lib.hid (fun W => compare_any a b ha hb W (-1) (by unfold cmpN; rw [if_neg (by omega), if_pos hab]))
  clear hab ha hb
  go_enter Tryz.func142, Tryz.ntmps142
  go_wp2_with (first | ((with_reducible refine wpM_load (.tmp 2) B ?_ HW.out.b0 ?_); rfl) | ((with_reducible refine wpM_load (.tmp 3) (B + 1) ?_ HW.out.b1 ?_); rfl) | (go_at_call 70; refine (HC.out _).mono ?_; rintro e w1 ⟨rfl, hb1⟩; have H1 := Lib.hid (HW.out.below hb1); clear hb1))
  have hH0 := H1.out.drew
  refine wp_region_held_drew (S := fun w' => ∃ h k x y, St4 w B (limb a) (limb b) h k (len a) (len b) x y w') (by kernel_rfl) ⟨_, _, _, _, hH0⟩ (fun hS => ?_)
  refine wpAnyH_take (i := 0) rfl (by kernel_rfl) (by kernel_rfl) (by kernel_rfl) (fun _ _ _ h => h) (yM_zero rfl rfl) hS ?_
  try simp only [Act.put, List.setIfInBounds_toArray, List.set_cons_zero, List.set_cons_succ]
  refine wpAnyH_take (i := 1) rfl (by kernel_rfl) (by kernel_rfl) (by kernel_rfl) (fun _ _ _ h => h) (yM_load rfl (.tmp 2) rfl B rfl (fun w' ⟨_, _, _, _, h⟩ => h.b0)) hS ?_
  try simp only [Act.put, List.setIfInBounds_toArray, List.set_cons_zero, List.set_cons_succ]
  clear hS
  refine wpAnyH_ready (rs := [2]) (by kernel_rfl) (by simp) (AllReadyH.cons rfl (fun K hK => ?_) AllReadyH.nil)
  rw [if_pos (by rfl)]
  refine wpM_store1 (.tmp 4) (.tmp 13) rfl (B + 2) (f := fun _ => 0) (u := 0) rfl rfl hH0.b2 ?_
  have hH1 := hH0.set2 (fun _ => 0) 0
  refine hK.out _ _ ⟨_, _, _, _, hH1⟩ (fun _ => ?_)
  clear hK K
  refine wpAnyH_ready (rs := [3]) (by kernel_rfl) (by simp) (AllReadyH.cons rfl (fun K hK => ?_) AllReadyH.nil)
  rw [if_pos (by rfl)]
  refine wpM_store1 (.tmp 5) (.tmp 14) rfl (B + 3) (f := limb a) (u := len a) rfl rfl hH1.b3 ?_
  have hH2 := hH1.set3 (limb a) (len a)
  refine hK.out _ _ ⟨_, _, _, _, hH2⟩ (fun _ => ?_)
  clear hK K
  refine wpAnyH_done (by kernel_rfl) ?_ _
  go_wp2
  exact bodyPost_ret (retMM rfl _ _ (B + 2) (B + 3) rfl rfl hH2.b2 hH2.b3) rfl ⟨ret_two mag_zero.symm rfl, hB ▸ hH2.bl⟩
end Go.Proofs.YtjemolaobhlapaaGreatDoor

namespace Go.Proofs.YtjemolaobhlapaaGreatDoor
open Go.RowKit
set_option maxRecDepth 100000

set_option maxHeartbeats 4000000 in
theorem divide_limb (a b : Nat) (ha : a < pw 30) (hb : b < pw 30) (hab : b ≤ a) (hl : len b = 1) (w : World) :
    Calls Tryz.prog 142 #[.agg (mag a), .agg (mag b)] w fun e w' => e = .returned (.tuple #[.agg (mag (a / b)), .agg (mag (a % b))]) ∧ Below w.heap.size w w' := by
  obtain ⟨B, hB⟩ : ∃ B, w.heap.size = B := ⟨_, rfl⟩
  obtain ⟨W, hW⟩ : ∃ W, (((w.alloc (.cells (mag a) 80)).alloc (.cells (mag b) 80)).alloc (.cells (magF (fun _ => 0) 0) 80)).alloc (.cells (magF (fun _ => 0) 0) 80) = W := ⟨_, rfl⟩
  have HW := Lib.hid (st4_start a b w hB hW)
  have hz0 := zeroM
  have hb0 : 0 < b := by
    by_cases e : b = 0
    · subst e; rw [len_zero] at hl; omega
    · omega
  have hb9 : b < 1000000000 := by have := limb_lt b 0; rw [limb_zero b hl hb] at this; exact this
  have HL0 := Lib.hid (limb_zero b hl hb)
  have HLL := Lib.hid hl
  obtain ⟨r, hr, HR⟩ : ∃ r : Int, 0 ≤ r ∧ Hid (cmpN a b = r) := ⟨_, by unfold cmpN; split <;> (try split) <;> omega, rfl⟩
  have HC := Lib.hid (fun W => compare_any a b ha hb W r HR.out)
  have HD := Lib.hid (fun W => divideLimb_any a b ha hb0 (by omega) W)
  obtain ⟨m, hm⟩ : ∃ m, a % b = m := ⟨_, rfl⟩
  have hmod := Nat.mod_lt a hb0
  rw [hm] at HD hmod
  have HO := Lib.hid (fun W => ofWord_any m (by omega) W)
  have HMM := Lib.hid hm
  rw [hm]
  clear hm
  clear hab ha hb hl hb0 hb9 hmod
  go_enter Tryz.func142, Tryz.ntmps142
  go_wp2_with (first | ((with_reducible refine wpM_load (.tmp 2) B ?_ HW.out.b0 ?_); rfl) | ((with_reducible refine wpM_load (.tmp 3) (B + 1) ?_ HW.out.b1 ?_); rfl) | (go_at_call 70; refine (HC.out _).mono ?_; rintro e w1 ⟨rfl, hb1⟩; have H1 := Lib.hid (HW.out.below hb1); clear hb1; have c30 := (H1.out.b1.at 30).trans ((magF_used _ _).trans (by rw [HLL.out])); have c0 := (H1.out.b1.at 0).trans ((magF_get _ _ (by omega)).trans (by rw [HL0.out]))) | ((with_reducible refine wpM_load (.tmp 2) B ?_ H1.out.b0 ?_); rfl) | (go_at_call 181; refine (HD.out _).mono ?_; rintro e w2 ⟨rfl, hb2⟩; have H2 := Lib.hid (H1.out.below hb2); clear hb2 c30 c0) | ((with_reducible refine wpM_store (f := limb (a / b)) (u := len (a / b)) (.tmp 6) (.tmp 25) _ ?_ ?_ (BlockIs.new _ _ _) ?_); rfl; rfl))
  obtain ⟨C, hC⟩ : ∃ C, w2.heap.size = C := ⟨_, rfl⟩
  have hC3 : B + 3 < C := by rw [← hC]; exact H2.out.b3.lt
  have hH0 : St4 w B (limb a) (limb b) (fun _ => 0) (fun _ => 0) (len a) (len b) 0 0 ((w2.alloc (.cells (magF (fun _ => 0) 0) 80)).setRow C (magF (limb (a / b)) (len (a / b)))).drew := ((H2.out.alloc _).row C _ hC3).drew
  have hC0 : BlockIs ((w2.alloc (.cells (magF (fun _ => 0) 0) 80)).setRow C (magF (limb (a / b)) (len (a / b)))).drew C 80 (magF (limb (a / b)) (len (a / b))) := by
    rw [← hC]; exact ((BlockIs.new w2 80 (magF (fun _ => 0) 0)).row _).drew
  clear hz0
  rw [hC]
  refine wp_region_held_drew (S := fun w' => (∃ h k x y, St4 w B (limb a) (limb b) h k (len a) (len b) x y w') ∧ BlockIs w' C 80 (magF (limb (a / b)) (len (a / b)))) (by kernel_rfl) ⟨⟨_, _, _, _, hH0⟩, hC0⟩ (fun hS => ?_)
  refine wpAnyH_take (i := 0) rfl (by kernel_rfl) (by kernel_rfl) (by kernel_rfl) (fun _ _ _ h => h) (yM_load rfl (.tmp 6) rfl C rfl (fun w' h => h.2)) hS ?_
  try simp only [Act.put, List.setIfInBounds_toArray, List.set_cons_zero, List.set_cons_succ]
  refine wpAnyH_take (i := 1) (v := .int .u64 m) rfl (by kernel_rfl) (by kernel_rfl) (by kernel_rfl) (fun _ _ _ h => h) (Or.inl ⟨by rfl, fun w' _ => by rfl⟩) hS ?_
  try simp only [Act.put, List.setIfInBounds_toArray, List.set_cons_zero, List.set_cons_succ]
  clear hS
  refine wpAnyH_ready (rs := [2]) (by kernel_rfl) (by simp) (AllReadyH.cons rfl (fun K hK => ?_) AllReadyH.nil)
  go_simp
  go_at_call 143
  refine (HO.out _).mono ?_
  rintro e w3 ⟨rfl, hb3⟩
  have hH1 := hH0.below hb3
  have hC1 := hC0.below hb3 hC0.lt
  refine hK.out _ _ ⟨⟨_, _, _, _, hH1⟩, hC1⟩ (fun _ => ?_)
  clear hK K hb3
  try simp only [Act.put, List.setIfInBounds_toArray, List.set_cons_zero, List.set_cons_succ]
  refine wpAnyH_ready (rs := [3]) (by kernel_rfl) (by simp) (AllReadyH.cons rfl (fun K hK => ?_) AllReadyH.nil)
  rw [if_pos (by rfl)]
  refine wpM_store1 (.tmp 4) (.tmp 27) rfl (B + 2) (f := limb (a / b)) (u := len (a / b)) rfl rfl hH1.b2 ?_
  have hH2 := hH1.set2 (limb (a / b)) (len (a / b))
  refine hK.out _ _ ⟨⟨_, _, _, _, hH2⟩, hC1.rowOther _ _ (by omega)⟩ (fun _ => ?_)
  clear hK K
  refine wpAnyH_ready (rs := [4]) (by kernel_rfl) (by simp) (AllReadyH.cons rfl (fun K hK => ?_) AllReadyH.nil)
  rw [if_pos (by rfl)]
  refine wpM_store1 (.tmp 5) (.tmp 29) rfl (B + 3) (f := limb m) (u := len m) rfl rfl hH2.b3 ?_
  have hH3 := hH2.set3 (limb m) (len m)
  refine hK.out _ _ ⟨⟨_, _, _, _, hH3⟩, (hC1.rowOther _ _ (by omega)).rowOther _ _ (by omega)⟩ (fun _ => ?_)
  clear hK K
  refine wpAnyH_done (by kernel_rfl) ?_ _
  go_wp2
  exact bodyPost_ret (retMM rfl _ _ (B + 2) (B + 3) rfl rfl hH3.b2 hH3.b3) rfl ⟨rfl, hB ▸ hH3.bl⟩
end Go.Proofs.YtjemolaobhlapaaGreatDoor
