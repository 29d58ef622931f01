/- subtract, restore. -/
import Derived.Test.YtjemolaobhlapaaGreatDoorNQ
set_option linter.unusedSimpArgs false
set_option linter.unusedVariables false
namespace Go.Proofs.YtjemolaobhlapaaGreatDoor
open Go.RowKit
set_option maxRecDepth 100000

/-- Below N, but for the block G. -/
structure But (N G : Nat) (w w' : World) : Prop where
  os : w'.os = w.os
  tape : w'.tape = w.tape
  output : w'.output = w.output
  size : w.heap.size ≤ w'.heap.size
  block : ∀ k, k < N → k ≠ G → w'.heap[k]? = w.heap[k]?
theorem But.of {N G : Nat} {w w' : World} (h : Below N w w') : But N G w w' := ⟨h.os, h.tape, h.output, h.size, fun k hk _ => h.block k hk⟩
theorem But.dN {N G : Nat} {w w' : World} (h : But N G w w') (n : Nat) : But N G w (w'.drewN n) := ⟨h.os, h.tape, h.output, h.size, h.block⟩
theorem But.drew {N G : Nat} {w w' : World} (h : But N G w w') : But N G w w'.drew := ⟨h.os, h.tape, h.output, h.size, h.block⟩
theorem But.set {N G : Nat} {w w' : World} (h : But N G w w') (o : Nat) (v : Value) : But N G w (w'.setCell ⟨G, o, none⟩ v) :=
  ⟨h.os, h.tape, h.output, by rw [World.size_setCell]; exact h.size, fun k hk hn => by rw [heap_setCell_other w' ⟨G, o, none⟩ k v hn]; exact h.block k hk hn⟩
theorem But.keep {W W' : World} {B N G : Nat} {t : TypeId} {cs : Array Value} (h : BlockIs W B t cs) (hb : But N G W W') (hn : B < N) (hg : B ≠ G) : BlockIs W' B t cs := by
  show W'.heap[B]? = _
  rw [hb.block B hn hg]; exact h
/-- A change of a block of one's own. -/
theorem But.below {M N G : Nat} {w W W' : World} (h : But N G W W') (hw : Below M w W) (hM : M ≤ N) (hG : M ≤ G) : Below M w W' :=
  hw.trans ⟨h.os, h.tape, h.output, h.size, fun k hk => h.block k (by omega) (by omega)⟩

/-- What subtract leaves: the digit was right, or it was one too large. -/
def SubPost (w : World) (G v : Nat) (R X P d : Nat) (e : Ending) (w' : World) : Prop :=
  (d = R / X ∧ e = .returned (.bool false) ∧ BlockIs w' G 80 (magF (limb (R % X)) v) ∧ But w.heap.size G w w') ∨
  (d = R / X + 1 ∧ e = .returned (.bool true) ∧ (∃ V, V < P ∧ V + (R / X + 1) * X = R + P ∧ BlockIs w' G 80 (magF (limb V) v)) ∧ But w.heap.size G w w')


theorem upd_upd (f : Nat → Nat) (i x y : Nat) : upd (upd f i x) i y = upd f i y := by
  funext j; unfold upd; split <;> rfl
theorem Good.limb {R e : Nat} (h : R < pw e) : Good (limb R) e := ⟨fun k _ => limb_lt R k, fun _ h1 _ => limb_big (Nat.lt_of_lt_of_le h (pw_mono h1))⟩
theorem Good.row {f : Nat → Nat} {e : Nat} (h : Good f e) (v : Nat) : magF f v = magF (Proofs.YtjemolaobhlapaaGreatDoor.limb (val f 30)) v := magF_congr v fun i hi => (limb_val h.1 hi).symm

set_option maxHeartbeats 4000000 in
theorem subtract_any (R D i u d v G : Nat) (h : Est R D i u) (hu : len D = u) (hd : d < 1000000000) (hq1 : R / (D * pw i) ≤ d) (hq2 : d ≤ R / (D * pw i) + 1) (w : World) (hG : BlockIs w G 80 (magF (limb R) v)) :
    Calls Tryz.prog 195 #[.pointer (some ⟨G, 0, none⟩), .agg (mag D), .int .u64 d, .int .i64 i] w (SubPost w G v R (D * pw i) (pw (i + u + 1)) d) := by
  obtain ⟨B, hB⟩ : ∃ B, w.heap.size = B := ⟨_, rfl⟩
  obtain ⟨W, hW⟩ : ∃ W, w.alloc (.cells (mag D) 80) = W := ⟨_, rfl⟩
  have hGB : G < B := by rw [← hB]; exact hG.lt
  have hb1 : BlockIs W B 80 (magF (limb D) u) := by rw [← hW, ← hB, ← hu]; exact BlockIs.new _ _ _
  have HW := Lib.hid (show BlockIs W B 80 (magF (limb D) u) ∧ BlockIs W G 80 (magF (limb R) v) ∧ But B G w W from ⟨hb1, by rw [← hW]; exact hG.alloc _, by rw [← hW, ← hB]; exact But.of ((Below.refl _ _).alloc (Nat.le_refl _) _)⟩)
  have h29 := h.hi
  have hu28 : u ≤ 29 := by omega
  have c30 := (hb1.at 30).trans (magF_used _ _)
  have H := Lib.hid (And.intro h (And.intro hq1 hq2))
  clear hb1 hq1 hq2 hG hu h
  go_enter Tryz.func195, Tryz.ntmps195
  go_wp2
  clear c30 hW
  go_loopw [9, 16] (fun y x wr => ∃ (k c : Nat) (f : Nat → Nat), k ≤ u ∧ c ≤ 1000000000 ∧ x = .int .i64 k ∧ y = .int .u64 c ∧ Hid (val f 30 + d * (D % pw k) * pw i = R + c * pw (i + k) ∧ Good f (i + u + 1)) ∧ Hid (BlockIs wr B 80 (magF (limb D) u) ∧ BlockIs wr G 80 (magF f v) ∧ But B G w wr)) (fun _ x _ => u - (intOf x).toNat)
  case atStart => exact ⟨0, 0, limb R, by omega, by omega, rfl, rfl, ⟨by rw [val_limb, Nat.mod_eq_of_lt (Nat.lt_of_lt_of_le H.out.1.hRu (pw_mono (by omega)))]; simp [pw, Nat.mod_one], Good.limb H.out.1.hRu⟩, HW⟩
  case round =>
    clear HW
    obtain ⟨k, c, f, hk, hc, rfl, rfl, HF, HW⟩ := hrel
    by_cases hku : k < u
    · have cb := (HW.out.1.at k).trans (magF_get _ _ (by omega))
      have cg := (HW.out.2.1.at (i + k)).trans (magF_get _ _ (by omega))
      have fg := HW.out.2.1.thawed (i + k)
      have hx := HF.out.2.1 (i + k) (by omega)
      have hl := limb_lt D k
      have HS := Lib.hid (fun (x' c' : Nat) => sub_step (f := f) (R := R) (D := D) (d := d) (i := i) (k := k) (c := c) (x' := x') (c' := c') (by omega) HF.out.1)
      obtain ⟨l, hle⟩ : ∃ l, limb D k = l := ⟨_, rfl⟩
      obtain ⟨x, hxe⟩ : ∃ x, f (i + k) = x := ⟨_, rfl⟩
      rw [hle] at cb hl HS
      rw [hxe] at cg hx HS
      have hp0 : 0 ≤ (d : Int) * l := by have := Nat.mul_le_mul (show d ≤ 999999999 by omega) (show l ≤ 999999999 by omega); omega
      have hpm : d * l ≤ 999999999 * 999999999 := Nat.mul_le_mul (by omega) (by omega)
      have hp1 : (d : Int) * l + c < 1000000000000000000 := by omega
      obtain ⟨p, hpe⟩ : ∃ p, d * l + c = p := ⟨_, rfl⟩
      have hpi : (d : Int) * l + c = p := by omega
      have hpl : p < 1000000000000000000 := by omega
      have HPE := Lib.hid hpe
      clear hpm hpe hle hxe
      by_cases hlow : x < p % 1000000000
      · have b1 : decide ((x : Int) < (p : Int) % 1000000000) = true := by simp; omega
        go_wp2
        go_region
        go_wp2
        go_region
        go_wp2
        go_roundw
        case rel =>
          refine ⟨k + 1, p / 1000000000 + 1, upd f (i + k) (x + 1000000000 - p % 1000000000), by omega, by omega, rfl, rfl, ⟨HS.out _ _ (by have := HPE.out; omega), HF.out.2.upd (by omega) (by omega)⟩, ((HW.out.1.other _ _ (by simp <;> omega)).other _ _ (by simp <;> omega)).drew.drew, ?_, ((HW.out.2.2.set _ _).set _ _).drew.drew⟩
          rw [← upd_upd f (i + k) (x + 1000000000)]
          exact ((HW.out.2.1.limb (by omega) (by omega)).limb (by omega) (by omega)).drew.drew
        case measure => simp [intOf]; omega
      · have b1 : decide ((x : Int) < (p : Int) % 1000000000) = false := by simp; omega
        go_wp2
        go_region
        go_wp2
        go_roundw
        case rel =>
          refine ⟨k + 1, p / 1000000000, upd f (i + k) (x - p % 1000000000), by omega, by omega, rfl, rfl, ⟨HS.out _ _ (by have := HPE.out; omega), HF.out.2.upd (by omega) (by omega)⟩, (HW.out.1.other _ _ (by simp <;> omega)).drew, ?_, (HW.out.2.2.set _ _).drew⟩
          exact (HW.out.2.1.limb (by omega) (by omega)).drew
        case measure => simp [intOf]; omega
    · obtain rfl : k = u := by omega
      have c30 := (HW.out.1.at 30).trans (magF_used _ _)
      have cg := (HW.out.2.1.at (i + k)).trans (magF_get _ _ (by omega))
      have fg := HW.out.2.1.thawed (i + k)
      have hx := HF.out.2.1 (i + k) (by omega)
      have HS := Lib.hid (fun (x' t : Nat) => sub_end (f := f) (R := R) (D := D) (d := d) (i := i) (u := k) (c := c) (x' := x') (t := t) H.out.1.hD (by omega) HF.out.1)
      obtain ⟨x, hxe⟩ : ∃ x, f (i + k) = x := ⟨_, rfl⟩
      rw [hxe] at cg hx HS
      clear hxe hku hk
      by_cases hlow : x < c
      · have HG := Lib.hid (HF.out.2.upd (i := i + k) (x := x + 1000000000 - c) (by omega) (by omega))
        have HV := Lib.hid (HS.out (x + 1000000000 - c) 1 (by omega))
        have b1 : decide ((x : Int) + 1000000000 - c < 1000000000) = true := by simp; omega
        go_wp2
        go_region
        go_wp2
        go_region
        go_wp2
        go_ret
        have hv := val_top HG.out.1 HG.out.2 (by omega)
        have hE := HV.out
        rw [Nat.one_mul] at hE
        have hdq := H.out.1.wrong H.out.2.2 hv hE
        refine Or.inr ⟨hdq, rfl, ⟨_, hv, by rw [← hdq]; exact hE, ?_⟩, hB ▸ (HW.out.2.2.set _ _).drew.drew⟩
        rw [← HG.out.row]
        exact (HW.out.2.1.limb (by omega) (by omega)).drew.drew
      · have HG := Lib.hid (HF.out.2.upd (i := i + k) (x := x - c) (by omega) (by omega))
        have HV := Lib.hid (HS.out (x - c) 0 (by omega))
        have b1 : decide ((x : Int) + 1000000000 - c < 1000000000) = false := by simp; omega
        go_wp2
        go_region
        go_wp2
        go_region
        go_wp2
        go_ret
        have hE := HV.out
        rw [Nat.zero_mul, Nat.add_zero] at hE
        obtain ⟨hdq, hr⟩ := H.out.1.right H.out.2.1 hE
        refine Or.inl ⟨hdq, rfl, ?_, hB ▸ (HW.out.2.2.set _ _).drew.drew⟩
        rw [← hr, ← HG.out.row]
        exact (HW.out.2.1.limb (by omega) (by omega)).drew.drew

set_option maxHeartbeats 4000000 in
theorem restore_any (R D i u v G V : Nat) (h : Est R D i u) (hu : len D = u) (hV : V < pw (i + u + 1)) (hv : V + (R / (D * pw i) + 1) * (D * pw i) = R + pw (i + u + 1)) (w : World) (hG : BlockIs w G 80 (magF (limb V) v)) :
    Calls Tryz.prog 196 #[.pointer (some ⟨G, 0, none⟩), .agg (mag D), .int .i64 i] w fun e w' => e = .returned (.tuple #[]) ∧ BlockIs w' G 80 (magF (limb (R % (D * pw i))) v) ∧ But w.heap.size G w w' := by
  obtain ⟨B, hB⟩ : ∃ B, w.heap.size = B := ⟨_, rfl⟩
  obtain ⟨W, hW⟩ : ∃ W, w.alloc (.cells (mag D) 80) = W := ⟨_, rfl⟩
  have hGB : G < B := by rw [← hB]; exact hG.lt
  have hb1 : BlockIs W B 80 (magF (limb D) u) := by rw [← hW, ← hB, ← hu]; exact BlockIs.new _ _ _
  have HW := Lib.hid (show BlockIs W B 80 (magF (limb D) u) ∧ BlockIs W G 80 (magF (limb V) v) ∧ But B G w W from ⟨hb1, by rw [← hW]; exact hG.alloc _, by rw [← hW, ← hB]; exact But.of ((Below.refl _ _).alloc (Nat.le_refl _) _)⟩)
  have h29 := h.hi
  have hu28 : u ≤ 29 := by omega
  have c30 := (hb1.at 30).trans (magF_used _ _)
  have H := Lib.hid (And.intro h (And.intro hV hv))
  clear hb1 hV hv hG hu h
  go_enter Tryz.func196, Tryz.ntmps196
  go_wp2
  clear c30 hW
  go_loopw [6, 11] (fun y x wr => ∃ (k c : Nat) (f : Nat → Nat), k ≤ u ∧ c ≤ 1 ∧ x = .int .i64 k ∧ y = .int .u32 c ∧ Hid (val f 30 + c * pw (i + k) = V + D % pw k * pw i ∧ Good f (i + u + 1)) ∧ Hid (BlockIs wr B 80 (magF (limb D) u) ∧ BlockIs wr G 80 (magF f v) ∧ But B G w wr)) (fun _ x _ => u - (intOf x).toNat)
  case atStart => exact ⟨0, 0, limb V, by omega, by omega, rfl, rfl, ⟨by rw [val_limb, Nat.mod_eq_of_lt (Nat.lt_of_lt_of_le H.out.2.1 (pw_mono (by omega)))]; simp [pw, Nat.mod_one], Good.limb H.out.2.1⟩, HW⟩
  case round =>
    clear HW
    obtain ⟨k, c, f, hk, hc, rfl, rfl, HF, HW⟩ := hrel
    by_cases hku : k < u
    · have cb := (HW.out.1.at k).trans (magF_get _ _ (by omega))
      have cg := (HW.out.2.1.at (i + k)).trans (magF_get _ _ (by omega))
      have fg := HW.out.2.1.thawed (i + k)
      have hx := HF.out.2.1 (i + k) (by omega)
      have hl := limb_lt D k
      have HS := Lib.hid (fun (x' c' : Nat) => put_step (f := f) (V := V) (D := D) (i := i) (k := k) (c := c) (x' := x') (c' := c') (by omega) HF.out.1)
      obtain ⟨l, hle⟩ : ∃ l, limb D k = l := ⟨_, rfl⟩
      obtain ⟨x, hxe⟩ : ∃ x, f (i + k) = x := ⟨_, rfl⟩
      rw [hle] at cb hl HS
      rw [hxe] at cg hx HS
      clear hle hxe
      go_wp2
      go_region
      go_wp2
      go_roundw
      case rel =>
        refine ⟨k + 1, (x + l + c) / 1000000000, upd f (i + k) ((x + l + c) % 1000000000), by omega, by omega, rfl, rfl, ⟨HS.out _ _ (by omega), HF.out.2.upd (by omega) (by omega)⟩, (HW.out.1.other _ _ (by simp <;> omega)).drew, ?_, (HW.out.2.2.set _ _).drew⟩
        exact (HW.out.2.1.limb (by omega) (by omega)).drew
      case measure => simp [intOf]; omega
    · obtain rfl : k = u := by omega
      have c30 := (HW.out.1.at 30).trans (magF_used _ _)
      have cg := (HW.out.2.1.at (i + k)).trans (magF_get _ _ (by omega))
      have fg := HW.out.2.1.thawed (i + k)
      have hx := HF.out.2.1 (i + k) (by omega)
      have HS := Lib.hid (fun (x' t : Nat) => put_end (f := f) (V := V) (D := D) (i := i) (u := k) (c := c) (x' := x') (t := t) H.out.1.hD (by omega) HF.out.1)
      obtain ⟨x, hxe⟩ : ∃ x, f (i + k) = x := ⟨_, rfl⟩
      rw [hxe] at cg hx HS
      clear hxe hku hk
      have HG := Lib.hid (HF.out.2.upd (i := i + k) (x := (x + c) % 1000000000) (by omega) (by omega))
      have HV := Lib.hid (HS.out ((x + c) % 1000000000) ((x + c) / 1000000000) (by omega))
      go_wp2
      go_region
      go_wp2
      go_end0
      have hE := HV.out
      have hx' := H.out.1.back H.out.2.2 (val_top HG.out.1 HG.out.2 (by omega)) (show (x + c) / 1000000000 ≤ 1 by omega) hE
      refine ⟨rfl, ?_, hB ▸ (HW.out.2.2.set _ _).drew⟩
      rw [← hx', ← HG.out.row]
      exact (HW.out.2.1.limb (by omega) (by omega)).drew
end Go.Proofs.YtjemolaobhlapaaGreatDoor
