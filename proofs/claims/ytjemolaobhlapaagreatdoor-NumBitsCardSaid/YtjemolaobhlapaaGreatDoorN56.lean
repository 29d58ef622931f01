/- awake. -/
import Derived.Laws.EntriesVeiled
import Derived.Test.YtjemolaobhlapaaGreatDoorN55
set_option linter.unusedSimpArgs false
set_option linter.unusedVariables false
namespace Go.Proofs.YtjemolaobhlapaaGreatDoor
open Go.RowKit
set_option maxRecDepth 1000000

structure Aw (w0 : World) (B : Nat) (w : World) : Prop where
  bl : Below B w0 w
  env : Env w
  le : B ≤ w.heap.size
theorem Aw.step {w0 w w' : World} {B : Nat} (h : Aw w0 B w) (hb : Below w.heap.size w w') : Aw w0 B w' :=
  ⟨h.bl.trans (hb.mono h.le), h.env.same hb, Nat.le_trans h.le hb.size⟩
theorem Aw.alloc {w0 w : World} {B : Nat} (h : Aw w0 B w) (o : Obj) : Aw w0 B (w.alloc o) := h.step ((Below.refl _ _).alloc (Nat.le_refl _) _)
abbrev ex9 : Array Value := #[.func (.func 21) #[] #[], .string ⟨#[57, 57]⟩, .string ⟨#[49]⟩, .string ⟨#[49, 48, 48]⟩, .func (.func 23) #[] #[], .string ⟨#[53]⟩, .string ⟨#[49, 50]⟩, .string ⟨#[45, 55]⟩, .func (.func 25) #[] #[], .string ⟨#[45, 49, 50]⟩, .string ⟨#[49, 50]⟩, .string ⟨#[45, 49, 52, 52]⟩, .func (.func 33) #[] #[], .string ⟨#[45, 49, 50]⟩, .string ⟨#[49, 56]⟩, .string ⟨#[54]⟩, .func (.func 47) #[] #[], .string ⟨#[54]⟩, .string ⟨#[45, 52]⟩, .string ⟨#[45, 51, 47, 50]⟩, .func (.func 35) #[] #[], .string ⟨#[49, 47, 50]⟩, .string ⟨#[49, 47, 51]⟩, .string ⟨#[53, 47, 54]⟩, .func (.func 37) #[] #[], .string ⟨#[49, 47, 50]⟩, .string ⟨#[49, 47, 50]⟩, .string ⟨#[48, 47, 49]⟩, .func (.func 39) #[] #[], .string ⟨#[50, 47, 51]⟩, .string ⟨#[51, 47, 52]⟩, .string ⟨#[49, 47, 50]⟩, .func (.func 41) #[] #[], .string ⟨#[49, 47, 50]⟩, .string ⟨#[45, 51, 47, 52]⟩, .string ⟨#[45, 50, 47, 51]⟩]
abbrev ex3 : Array Value := #[.string ⟨#[45, 55]⟩, .string ⟨#[50]⟩, .string ⟨#[45, 52]⟩, .string ⟨#[49]⟩, .string ⟨#[45, 55]⟩, .string ⟨#[45, 50]⟩, .string ⟨#[52]⟩, .string ⟨#[49]⟩, .string ⟨#[55]⟩, .string ⟨#[45, 50]⟩, .string ⟨#[45, 51]⟩, .string ⟨#[49]⟩]

set_option maxHeartbeats 40000000 in
theorem awake_any (w : World) (he : Env w) :
    Calls Tryz.prog 10 #[] w fun e w' => e = .returned (.bool true) ∧ Below w.heap.size w w' := by
  obtain ⟨B, hB⟩ : ∃ B, w.heap.size = B := ⟨_, rfl⟩
  have HE := Lib.hid (show Aw w B w from ⟨Below.refl _ _, he, by omega⟩)
  clear he
  obtain ⟨W1, hW1⟩ : ∃ W1, w.alloc (.cells ex9 63) = W1 := ⟨_, rfl⟩
  have HA := Lib.hid (show BlockIs W1 B 63 ex9 ∧ Aw w B W1 by rw [← hW1]; exact ⟨by rw [← hB]; exact BlockIs.new _ _ _, HE.out.alloc _⟩)
  clear HE
  go_enter Tryz.func10, Tryz.ntmps10
  go_wp2_with fail
  go_loopw [50] (fun x wr => ∃ i : Nat, i ≤ 9 ∧ x = .int .i64 i ∧ Hid (BlockIs wr B 63 ex9 ∧ Aw w B wr)) (fun x _ => 9 - (intOf x).toNat)
  case atStart => exact ⟨0, by omega, rfl, HA⟩
  case round =>
    clear HA hW1
    obtain ⟨i, hi, rfl, HW⟩ := hrel
    have h10 : i = 0 ∨ i = 1 ∨ i = 2 ∨ i = 3 ∨ i = 4 ∨ i = 5 ∨ i = 6 ∨ i = 7 ∨ i = 8 ∨ i = 9 := by omega
    clear hi
    rcases h10 with rfl | rfl | rfl | rfl | rfl | rfl | rfl | rfl | rfl | rfl
    · have c0 : wr.cell? ⟨B, 0, none⟩ = some (.func (.func 21) #[] #[]) := HW.out.1.at 0
      have c1 : wr.cell? ⟨B, 1, none⟩ = some (.string ⟨#[57, 57]⟩) := HW.out.1.at 1
      have c2 : wr.cell? ⟨B, 2, none⟩ = some (.string ⟨#[49]⟩) := HW.out.1.at 2
      have c3 : wr.cell? ⟨B, 3, none⟩ = some (.string ⟨#[49, 48, 48]⟩) := HW.out.1.at 3
      obtain ⟨U, hU⟩ : ∃ U, wr.alloc (.cells #[.func (.func 21) #[] #[], .string ⟨#[57, 57]⟩, .string ⟨#[49]⟩, .string ⟨#[49, 48, 48]⟩] 63) = U := ⟨_, rfl⟩
      obtain ⟨C, hC⟩ : ∃ C, wr.heap.size = C := ⟨_, rfl⟩
      have HU := Lib.hid (show BlockIs U C 63 #[.func (.func 21) #[] #[], .string ⟨#[57, 57]⟩, .string ⟨#[49]⟩, .string ⟨#[49, 48, 48]⟩] ∧ Aw w B U ∧ BlockIs U B 63 ex9 by rw [← hU, ← hC]; exact ⟨BlockIs.new _ _ _, HW.out.2.alloc _, HW.out.1.alloc _⟩)
      have d0 : U.cell? ⟨C, 0, none⟩ = some (.func (.func 21) #[] #[]) := HU.out.1.at 0
      have d1 : U.cell? ⟨C, 1, none⟩ = some (.string ⟨#[57, 57]⟩) := HU.out.1.at 1
      have d2 : U.cell? ⟨C, 2, none⟩ = some (.string ⟨#[49]⟩) := HU.out.1.at 2
      go_wp2_with (go_at_call 21; (with_reducible refine (ex_add _ HU.out.2.1.env).mono ?_); rintro e w5 ⟨rfl, hb5⟩; have HX := Lib.hid (show BlockIs w5 B 63 ex9 ∧ Aw w B w5 from ⟨HU.out.2.2.below hb5 HU.out.2.2.lt, HU.out.2.1.step hb5⟩); have c9 : w5.cell? ⟨C, 3, none⟩ = some (.string ⟨#[49, 48, 48]⟩) := (HU.out.1.below hb5 HU.out.1.lt).at 3; clear hb5)
      go_roundw
      case rel => exact ⟨1, by omega, rfl, HX⟩
      case measure => simp [intOf]
    · have c0 : wr.cell? ⟨B, 4, none⟩ = some (.func (.func 23) #[] #[]) := HW.out.1.at 4
      have c1 : wr.cell? ⟨B, 5, none⟩ = some (.string ⟨#[53]⟩) := HW.out.1.at 5
      have c2 : wr.cell? ⟨B, 6, none⟩ = some (.string ⟨#[49, 50]⟩) := HW.out.1.at 6
      have c3 : wr.cell? ⟨B, 7, none⟩ = some (.string ⟨#[45, 55]⟩) := HW.out.1.at 7
      obtain ⟨U, hU⟩ : ∃ U, wr.alloc (.cells #[.func (.func 23) #[] #[], .string ⟨#[53]⟩, .string ⟨#[49, 50]⟩, .string ⟨#[45, 55]⟩] 63) = U := ⟨_, rfl⟩
      obtain ⟨C, hC⟩ : ∃ C, wr.heap.size = C := ⟨_, rfl⟩
      have HU := Lib.hid (show BlockIs U C 63 #[.func (.func 23) #[] #[], .string ⟨#[53]⟩, .string ⟨#[49, 50]⟩, .string ⟨#[45, 55]⟩] ∧ Aw w B U ∧ BlockIs U B 63 ex9 by rw [← hU, ← hC]; exact ⟨BlockIs.new _ _ _, HW.out.2.alloc _, HW.out.1.alloc _⟩)
      have d0 : U.cell? ⟨C, 0, none⟩ = some (.func (.func 23) #[] #[]) := HU.out.1.at 0
      have d1 : U.cell? ⟨C, 1, none⟩ = some (.string ⟨#[53]⟩) := HU.out.1.at 1
      have d2 : U.cell? ⟨C, 2, none⟩ = some (.string ⟨#[49, 50]⟩) := HU.out.1.at 2
      go_wp2_with (go_at_call 23; (with_reducible refine (ex_sub _ HU.out.2.1.env).mono ?_); rintro e w5 ⟨rfl, hb5⟩; have HX := Lib.hid (show BlockIs w5 B 63 ex9 ∧ Aw w B w5 from ⟨HU.out.2.2.below hb5 HU.out.2.2.lt, HU.out.2.1.step hb5⟩); have c9 : w5.cell? ⟨C, 3, none⟩ = some (.string ⟨#[45, 55]⟩) := (HU.out.1.below hb5 HU.out.1.lt).at 3; clear hb5)
      go_roundw
      case rel => exact ⟨2, by omega, rfl, HX⟩
      case measure => simp [intOf]
    · have c0 : wr.cell? ⟨B, 8, none⟩ = some (.func (.func 25) #[] #[]) := HW.out.1.at 8
      have c1 : wr.cell? ⟨B, 9, none⟩ = some (.string ⟨#[45, 49, 50]⟩) := HW.out.1.at 9
      have c2 : wr.cell? ⟨B, 10, none⟩ = some (.string ⟨#[49, 50]⟩) := HW.out.1.at 10
      have c3 : wr.cell? ⟨B, 11, none⟩ = some (.string ⟨#[45, 49, 52, 52]⟩) := HW.out.1.at 11
      obtain ⟨U, hU⟩ : ∃ U, wr.alloc (.cells #[.func (.func 25) #[] #[], .string ⟨#[45, 49, 50]⟩, .string ⟨#[49, 50]⟩, .string ⟨#[45, 49, 52, 52]⟩] 63) = U := ⟨_, rfl⟩
      obtain ⟨C, hC⟩ : ∃ C, wr.heap.size = C := ⟨_, rfl⟩
      have HU := Lib.hid (show BlockIs U C 63 #[.func (.func 25) #[] #[], .string ⟨#[45, 49, 50]⟩, .string ⟨#[49, 50]⟩, .string ⟨#[45, 49, 52, 52]⟩] ∧ Aw w B U ∧ BlockIs U B 63 ex9 by rw [← hU, ← hC]; exact ⟨BlockIs.new _ _ _, HW.out.2.alloc _, HW.out.1.alloc _⟩)
      have d0 : U.cell? ⟨C, 0, none⟩ = some (.func (.func 25) #[] #[]) := HU.out.1.at 0
      have d1 : U.cell? ⟨C, 1, none⟩ = some (.string ⟨#[45, 49, 50]⟩) := HU.out.1.at 1
      have d2 : U.cell? ⟨C, 2, none⟩ = some (.string ⟨#[49, 50]⟩) := HU.out.1.at 2
      go_wp2_with (go_at_call 25; (with_reducible refine (ex_mul _ HU.out.2.1.env).mono ?_); rintro e w5 ⟨rfl, hb5⟩; have HX := Lib.hid (show BlockIs w5 B 63 ex9 ∧ Aw w B w5 from ⟨HU.out.2.2.below hb5 HU.out.2.2.lt, HU.out.2.1.step hb5⟩); have c9 : w5.cell? ⟨C, 3, none⟩ = some (.string ⟨#[45, 49, 52, 52]⟩) := (HU.out.1.below hb5 HU.out.1.lt).at 3; clear hb5)
      go_roundw
      case rel => exact ⟨3, by omega, rfl, HX⟩
      case measure => simp [intOf]
    · have c0 : wr.cell? ⟨B, 12, none⟩ = some (.func (.func 33) #[] #[]) := HW.out.1.at 12
      have c1 : wr.cell? ⟨B, 13, none⟩ = some (.string ⟨#[45, 49, 50]⟩) := HW.out.1.at 13
      have c2 : wr.cell? ⟨B, 14, none⟩ = some (.string ⟨#[49, 56]⟩) := HW.out.1.at 14
      have c3 : wr.cell? ⟨B, 15, none⟩ = some (.string ⟨#[54]⟩) := HW.out.1.at 15
      obtain ⟨U, hU⟩ : ∃ U, wr.alloc (.cells #[.func (.func 33) #[] #[], .string ⟨#[45, 49, 50]⟩, .string ⟨#[49, 56]⟩, .string ⟨#[54]⟩] 63) = U := ⟨_, rfl⟩
      obtain ⟨C, hC⟩ : ∃ C, wr.heap.size = C := ⟨_, rfl⟩
      have HU := Lib.hid (show BlockIs U C 63 #[.func (.func 33) #[] #[], .string ⟨#[45, 49, 50]⟩, .string ⟨#[49, 56]⟩, .string ⟨#[54]⟩] ∧ Aw w B U ∧ BlockIs U B 63 ex9 by rw [← hU, ← hC]; exact ⟨BlockIs.new _ _ _, HW.out.2.alloc _, HW.out.1.alloc _⟩)
      have d0 : U.cell? ⟨C, 0, none⟩ = some (.func (.func 33) #[] #[]) := HU.out.1.at 0
      have d1 : U.cell? ⟨C, 1, none⟩ = some (.string ⟨#[45, 49, 50]⟩) := HU.out.1.at 1
      have d2 : U.cell? ⟨C, 2, none⟩ = some (.string ⟨#[49, 56]⟩) := HU.out.1.at 2
      go_wp2_with (go_at_call 33; (with_reducible refine (ex_gcd _ HU.out.2.1.env).mono ?_); rintro e w5 ⟨rfl, hb5⟩; have HX := Lib.hid (show BlockIs w5 B 63 ex9 ∧ Aw w B w5 from ⟨HU.out.2.2.below hb5 HU.out.2.2.lt, HU.out.2.1.step hb5⟩); have c9 : w5.cell? ⟨C, 3, none⟩ = some (.string ⟨#[54]⟩) := (HU.out.1.below hb5 HU.out.1.lt).at 3; clear hb5)
      go_roundw
      case rel => exact ⟨4, by omega, rfl, HX⟩
      case measure => simp [intOf]
    · have c0 : wr.cell? ⟨B, 16, none⟩ = some (.func (.func 47) #[] #[]) := HW.out.1.at 16
      have c1 : wr.cell? ⟨B, 17, none⟩ = some (.string ⟨#[54]⟩) := HW.out.1.at 17
      have c2 : wr.cell? ⟨B, 18, none⟩ = some (.string ⟨#[45, 52]⟩) := HW.out.1.at 18
      have c3 : wr.cell? ⟨B, 19, none⟩ = some (.string ⟨#[45, 51, 47, 50]⟩) := HW.out.1.at 19
      obtain ⟨U, hU⟩ : ∃ U, wr.alloc (.cells #[.func (.func 47) #[] #[], .string ⟨#[54]⟩, .string ⟨#[45, 52]⟩, .string ⟨#[45, 51, 47, 50]⟩] 63) = U := ⟨_, rfl⟩
      obtain ⟨C, hC⟩ : ∃ C, wr.heap.size = C := ⟨_, rfl⟩
      have HU := Lib.hid (show BlockIs U C 63 #[.func (.func 47) #[] #[], .string ⟨#[54]⟩, .string ⟨#[45, 52]⟩, .string ⟨#[45, 51, 47, 50]⟩] ∧ Aw w B U ∧ BlockIs U B 63 ex9 by rw [← hU, ← hC]; exact ⟨BlockIs.new _ _ _, HW.out.2.alloc _, HW.out.1.alloc _⟩)
      have d0 : U.cell? ⟨C, 0, none⟩ = some (.func (.func 47) #[] #[]) := HU.out.1.at 0
      have d1 : U.cell? ⟨C, 1, none⟩ = some (.string ⟨#[54]⟩) := HU.out.1.at 1
      have d2 : U.cell? ⟨C, 2, none⟩ = some (.string ⟨#[45, 52]⟩) := HU.out.1.at 2
      go_wp2_with (go_at_call 47; (with_reducible refine (ex_real _ HU.out.2.1.env).mono ?_); rintro e w5 ⟨rfl, hb5⟩; have HX := Lib.hid (show BlockIs w5 B 63 ex9 ∧ Aw w B w5 from ⟨HU.out.2.2.below hb5 HU.out.2.2.lt, HU.out.2.1.step hb5⟩); have c9 : w5.cell? ⟨C, 3, none⟩ = some (.string ⟨#[45, 51, 47, 50]⟩) := (HU.out.1.below hb5 HU.out.1.lt).at 3; clear hb5)
      go_roundw
      case rel => exact ⟨5, by omega, rfl, HX⟩
      case measure => simp [intOf]
    · have c0 : wr.cell? ⟨B, 20, none⟩ = some (.func (.func 35) #[] #[]) := HW.out.1.at 20
      have c1 : wr.cell? ⟨B, 21, none⟩ = some (.string ⟨#[49, 47, 50]⟩) := HW.out.1.at 21
      have c2 : wr.cell? ⟨B, 22, none⟩ = some (.string ⟨#[49, 47, 51]⟩) := HW.out.1.at 22
      have c3 : wr.cell? ⟨B, 23, none⟩ = some (.string ⟨#[53, 47, 54]⟩) := HW.out.1.at 23
      obtain ⟨U, hU⟩ : ∃ U, wr.alloc (.cells #[.func (.func 35) #[] #[], .string ⟨#[49, 47, 50]⟩, .string ⟨#[49, 47, 51]⟩, .string ⟨#[53, 47, 54]⟩] 63) = U := ⟨_, rfl⟩
      obtain ⟨C, hC⟩ : ∃ C, wr.heap.size = C := ⟨_, rfl⟩
      have HU := Lib.hid (show BlockIs U C 63 #[.func (.func 35) #[] #[], .string ⟨#[49, 47, 50]⟩, .string ⟨#[49, 47, 51]⟩, .string ⟨#[53, 47, 54]⟩] ∧ Aw w B U ∧ BlockIs U B 63 ex9 by rw [← hU, ← hC]; exact ⟨BlockIs.new _ _ _, HW.out.2.alloc _, HW.out.1.alloc _⟩)
      have d0 : U.cell? ⟨C, 0, none⟩ = some (.func (.func 35) #[] #[]) := HU.out.1.at 0
      have d1 : U.cell? ⟨C, 1, none⟩ = some (.string ⟨#[49, 47, 50]⟩) := HU.out.1.at 1
      have d2 : U.cell? ⟨C, 2, none⟩ = some (.string ⟨#[49, 47, 51]⟩) := HU.out.1.at 2
      go_wp2_with (go_at_call 35; (with_reducible refine (ex_addr _ HU.out.2.1.env).mono ?_); rintro e w5 ⟨rfl, hb5⟩; have HX := Lib.hid (show BlockIs w5 B 63 ex9 ∧ Aw w B w5 from ⟨HU.out.2.2.below hb5 HU.out.2.2.lt, HU.out.2.1.step hb5⟩); have c9 : w5.cell? ⟨C, 3, none⟩ = some (.string ⟨#[53, 47, 54]⟩) := (HU.out.1.below hb5 HU.out.1.lt).at 3; clear hb5)
      go_roundw
      case rel => exact ⟨6, by omega, rfl, HX⟩
      case measure => simp [intOf]
    · have c0 : wr.cell? ⟨B, 24, none⟩ = some (.func (.func 37) #[] #[]) := HW.out.1.at 24
      have c1 : wr.cell? ⟨B, 25, none⟩ = some (.string ⟨#[49, 47, 50]⟩) := HW.out.1.at 25
      have c2 : wr.cell? ⟨B, 26, none⟩ = some (.string ⟨#[49, 47, 50]⟩) := HW.out.1.at 26
      have c3 : wr.cell? ⟨B, 27, none⟩ = some (.string ⟨#[48, 47, 49]⟩) := HW.out.1.at 27
      obtain ⟨U, hU⟩ : ∃ U, wr.alloc (.cells #[.func (.func 37) #[] #[], .string ⟨#[49, 47, 50]⟩, .string ⟨#[49, 47, 50]⟩, .string ⟨#[48, 47, 49]⟩] 63) = U := ⟨_, rfl⟩
      obtain ⟨C, hC⟩ : ∃ C, wr.heap.size = C := ⟨_, rfl⟩
      have HU := Lib.hid (show BlockIs U C 63 #[.func (.func 37) #[] #[], .string ⟨#[49, 47, 50]⟩, .string ⟨#[49, 47, 50]⟩, .string ⟨#[48, 47, 49]⟩] ∧ Aw w B U ∧ BlockIs U B 63 ex9 by rw [← hU, ← hC]; exact ⟨BlockIs.new _ _ _, HW.out.2.alloc _, HW.out.1.alloc _⟩)
      have d0 : U.cell? ⟨C, 0, none⟩ = some (.func (.func 37) #[] #[]) := HU.out.1.at 0
      have d1 : U.cell? ⟨C, 1, none⟩ = some (.string ⟨#[49, 47, 50]⟩) := HU.out.1.at 1
      have d2 : U.cell? ⟨C, 2, none⟩ = some (.string ⟨#[49, 47, 50]⟩) := HU.out.1.at 2
      go_wp2_with (go_at_call 37; (with_reducible refine (ex_subr _ HU.out.2.1.env).mono ?_); rintro e w5 ⟨rfl, hb5⟩; have HX := Lib.hid (show BlockIs w5 B 63 ex9 ∧ Aw w B w5 from ⟨HU.out.2.2.below hb5 HU.out.2.2.lt, HU.out.2.1.step hb5⟩); have c9 : w5.cell? ⟨C, 3, none⟩ = some (.string ⟨#[48, 47, 49]⟩) := (HU.out.1.below hb5 HU.out.1.lt).at 3; clear hb5)
      go_roundw
      case rel => exact ⟨7, by omega, rfl, HX⟩
      case measure => simp [intOf]
    · have c0 : wr.cell? ⟨B, 28, none⟩ = some (.func (.func 39) #[] #[]) := HW.out.1.at 28
      have c1 : wr.cell? ⟨B, 29, none⟩ = some (.string ⟨#[50, 47, 51]⟩) := HW.out.1.at 29
      have c2 : wr.cell? ⟨B, 30, none⟩ = some (.string ⟨#[51, 47, 52]⟩) := HW.out.1.at 30
      have c3 : wr.cell? ⟨B, 31, none⟩ = some (.string ⟨#[49, 47, 50]⟩) := HW.out.1.at 31
      obtain ⟨U, hU⟩ : ∃ U, wr.alloc (.cells #[.func (.func 39) #[] #[], .string ⟨#[50, 47, 51]⟩, .string ⟨#[51, 47, 52]⟩, .string ⟨#[49, 47, 50]⟩] 63) = U := ⟨_, rfl⟩
      obtain ⟨C, hC⟩ : ∃ C, wr.heap.size = C := ⟨_, rfl⟩
      have HU := Lib.hid (show BlockIs U C 63 #[.func (.func 39) #[] #[], .string ⟨#[50, 47, 51]⟩, .string ⟨#[51, 47, 52]⟩, .string ⟨#[49, 47, 50]⟩] ∧ Aw w B U ∧ BlockIs U B 63 ex9 by rw [← hU, ← hC]; exact ⟨BlockIs.new _ _ _, HW.out.2.alloc _, HW.out.1.alloc _⟩)
      have d0 : U.cell? ⟨C, 0, none⟩ = some (.func (.func 39) #[] #[]) := HU.out.1.at 0
      have d1 : U.cell? ⟨C, 1, none⟩ = some (.string ⟨#[50, 47, 51]⟩) := HU.out.1.at 1
      have d2 : U.cell? ⟨C, 2, none⟩ = some (.string ⟨#[51, 47, 52]⟩) := HU.out.1.at 2
      go_wp2_with (go_at_call 39; (with_reducible refine (ex_mulr _ HU.out.2.1.env).mono ?_); rintro e w5 ⟨rfl, hb5⟩; have HX := Lib.hid (show BlockIs w5 B 63 ex9 ∧ Aw w B w5 from ⟨HU.out.2.2.below hb5 HU.out.2.2.lt, HU.out.2.1.step hb5⟩); have c9 : w5.cell? ⟨C, 3, none⟩ = some (.string ⟨#[49, 47, 50]⟩) := (HU.out.1.below hb5 HU.out.1.lt).at 3; clear hb5)
      go_roundw
      case rel => exact ⟨8, by omega, rfl, HX⟩
      case measure => simp [intOf]
    · have c0 : wr.cell? ⟨B, 32, none⟩ = some (.func (.func 41) #[] #[]) := HW.out.1.at 32
      have c1 : wr.cell? ⟨B, 33, none⟩ = some (.string ⟨#[49, 47, 50]⟩) := HW.out.1.at 33
      have c2 : wr.cell? ⟨B, 34, none⟩ = some (.string ⟨#[45, 51, 47, 52]⟩) := HW.out.1.at 34
      have c3 : wr.cell? ⟨B, 35, none⟩ = some (.string ⟨#[45, 50, 47, 51]⟩) := HW.out.1.at 35
      obtain ⟨U, hU⟩ : ∃ U, wr.alloc (.cells #[.func (.func 41) #[] #[], .string ⟨#[49, 47, 50]⟩, .string ⟨#[45, 51, 47, 52]⟩, .string ⟨#[45, 50, 47, 51]⟩] 63) = U := ⟨_, rfl⟩
      obtain ⟨C, hC⟩ : ∃ C, wr.heap.size = C := ⟨_, rfl⟩
      have HU := Lib.hid (show BlockIs U C 63 #[.func (.func 41) #[] #[], .string ⟨#[49, 47, 50]⟩, .string ⟨#[45, 51, 47, 52]⟩, .string ⟨#[45, 50, 47, 51]⟩] ∧ Aw w B U ∧ BlockIs U B 63 ex9 by rw [← hU, ← hC]; exact ⟨BlockIs.new _ _ _, HW.out.2.alloc _, HW.out.1.alloc _⟩)
      have d0 : U.cell? ⟨C, 0, none⟩ = some (.func (.func 41) #[] #[]) := HU.out.1.at 0
      have d1 : U.cell? ⟨C, 1, none⟩ = some (.string ⟨#[49, 47, 50]⟩) := HU.out.1.at 1
      have d2 : U.cell? ⟨C, 2, none⟩ = some (.string ⟨#[45, 51, 47, 52]⟩) := HU.out.1.at 2
      go_wp2_with (go_at_call 41; (with_reducible refine (ex_divr _ HU.out.2.1.env).mono ?_); rintro e w5 ⟨rfl, hb5⟩; have HX := Lib.hid (show BlockIs w5 B 63 ex9 ∧ Aw w B w5 from ⟨HU.out.2.2.below hb5 HU.out.2.2.lt, HU.out.2.1.step hb5⟩); have c9 : w5.cell? ⟨C, 3, none⟩ = some (.string ⟨#[45, 50, 47, 51]⟩) := (HU.out.1.below hb5 HU.out.1.lt).at 3; clear hb5)
      go_roundw
      case rel => exact ⟨9, by omega, rfl, HX⟩
      case measure => simp [intOf]
    · rw [show (((9 : Nat)) : Int) = 9 from rfl]
      obtain ⟨D, hD⟩ : ∃ D, wr.heap.size = D := ⟨_, rfl⟩
      obtain ⟨W2, hW2⟩ : ∃ W2, wr.alloc (.cells ex3 65) = W2 := ⟨_, rfl⟩
      have HA2 := Lib.hid (show BlockIs W2 D 65 ex3 ∧ Aw w B W2 by rw [← hW2]; exact ⟨by rw [← hD]; exact BlockIs.new _ _ _, HW.out.2.alloc _⟩)
      clear HW
      go_wp2_with fail
      go_loopw [78] (fun x wr => ∃ i : Nat, i ≤ 3 ∧ x = .int .i64 i ∧ Hid (BlockIs wr D 65 ex3 ∧ Aw w B wr)) (fun x _ => 3 - (intOf x).toNat)
      case atStart => exact ⟨0, by omega, rfl, HA2⟩
      case round =>
        clear HA2 hW2 hD
        obtain ⟨i, hi, rfl, HW⟩ := hrel
        have h4 : i = 0 ∨ i = 1 ∨ i = 2 ∨ i = 3 := by omega
        clear hi
        rcases h4 with rfl | rfl | rfl | rfl
        · have c0 : wr.cell? ⟨D, 0, none⟩ = some (.string ⟨#[45, 55]⟩) := HW.out.1.at 0
          have c1 : wr.cell? ⟨D, 1, none⟩ = some (.string ⟨#[50]⟩) := HW.out.1.at 1
          have c2 : wr.cell? ⟨D, 2, none⟩ = some (.string ⟨#[45, 52]⟩) := HW.out.1.at 2
          have c3 : wr.cell? ⟨D, 3, none⟩ = some (.string ⟨#[49]⟩) := HW.out.1.at 3
          obtain ⟨U, hU⟩ : ∃ U, wr.alloc (.cells #[.string ⟨#[45, 55]⟩, .string ⟨#[50]⟩, .string ⟨#[45, 52]⟩, .string ⟨#[49]⟩] 65) = U := ⟨_, rfl⟩
          obtain ⟨C, hC⟩ : ∃ C, wr.heap.size = C := ⟨_, rfl⟩
          have HU := Lib.hid (show BlockIs U C 65 #[.string ⟨#[45, 55]⟩, .string ⟨#[50]⟩, .string ⟨#[45, 52]⟩, .string ⟨#[49]⟩] ∧ Aw w B U ∧ BlockIs U D 65 ex3 by rw [← hU, ← hC]; exact ⟨BlockIs.new _ _ _, HW.out.2.alloc _, HW.out.1.alloc _⟩)
          have d0 : U.cell? ⟨C, 0, none⟩ = some (.string ⟨#[45, 55]⟩) := HU.out.1.at 0
          have d1 : U.cell? ⟨C, 1, none⟩ = some (.string ⟨#[50]⟩) := HU.out.1.at 1
          go_wp2_with (go_at_call 27; (with_reducible refine (ex_dm0 _ HU.out.2.1.env).mono ?_); rintro e w5 ⟨rfl, hb5⟩; have HX := Lib.hid (show BlockIs w5 D 65 ex3 ∧ Aw w B w5 from ⟨HU.out.2.2.below hb5 HU.out.2.2.lt, HU.out.2.1.step hb5⟩); have c8 : w5.cell? ⟨C, 2, none⟩ = some (.string ⟨#[45, 52]⟩) := (HU.out.1.below hb5 HU.out.1.lt).at 2; have c9 : w5.cell? ⟨C, 3, none⟩ = some (.string ⟨#[49]⟩) := (HU.out.1.below hb5 HU.out.1.lt).at 3; clear hb5)
          go_roundw
          case rel => exact ⟨1, by omega, rfl, HX⟩
          case measure => simp [intOf]
        · have c0 : wr.cell? ⟨D, 4, none⟩ = some (.string ⟨#[45, 55]⟩) := HW.out.1.at 4
          have c1 : wr.cell? ⟨D, 5, none⟩ = some (.string ⟨#[45, 50]⟩) := HW.out.1.at 5
          have c2 : wr.cell? ⟨D, 6, none⟩ = some (.string ⟨#[52]⟩) := HW.out.1.at 6
          have c3 : wr.cell? ⟨D, 7, none⟩ = some (.string ⟨#[49]⟩) := HW.out.1.at 7
          obtain ⟨U, hU⟩ : ∃ U, wr.alloc (.cells #[.string ⟨#[45, 55]⟩, .string ⟨#[45, 50]⟩, .string ⟨#[52]⟩, .string ⟨#[49]⟩] 65) = U := ⟨_, rfl⟩
          obtain ⟨C, hC⟩ : ∃ C, wr.heap.size = C := ⟨_, rfl⟩
          have HU := Lib.hid (show BlockIs U C 65 #[.string ⟨#[45, 55]⟩, .string ⟨#[45, 50]⟩, .string ⟨#[52]⟩, .string ⟨#[49]⟩] ∧ Aw w B U ∧ BlockIs U D 65 ex3 by rw [← hU, ← hC]; exact ⟨BlockIs.new _ _ _, HW.out.2.alloc _, HW.out.1.alloc _⟩)
          have d0 : U.cell? ⟨C, 0, none⟩ = some (.string ⟨#[45, 55]⟩) := HU.out.1.at 0
          have d1 : U.cell? ⟨C, 1, none⟩ = some (.string ⟨#[45, 50]⟩) := HU.out.1.at 1
          go_wp2_with (go_at_call 27; (with_reducible refine (ex_dm1 _ HU.out.2.1.env).mono ?_); rintro e w5 ⟨rfl, hb5⟩; have HX := Lib.hid (show BlockIs w5 D 65 ex3 ∧ Aw w B w5 from ⟨HU.out.2.2.below hb5 HU.out.2.2.lt, HU.out.2.1.step hb5⟩); have c8 : w5.cell? ⟨C, 2, none⟩ = some (.string ⟨#[52]⟩) := (HU.out.1.below hb5 HU.out.1.lt).at 2; have c9 : w5.cell? ⟨C, 3, none⟩ = some (.string ⟨#[49]⟩) := (HU.out.1.below hb5 HU.out.1.lt).at 3; clear hb5)
          go_roundw
          case rel => exact ⟨2, by omega, rfl, HX⟩
          case measure => simp [intOf]
        · have c0 : wr.cell? ⟨D, 8, none⟩ = some (.string ⟨#[55]⟩) := HW.out.1.at 8
          have c1 : wr.cell? ⟨D, 9, none⟩ = some (.string ⟨#[45, 50]⟩) := HW.out.1.at 9
          have c2 : wr.cell? ⟨D, 10, none⟩ = some (.string ⟨#[45, 51]⟩) := HW.out.1.at 10
          have c3 : wr.cell? ⟨D, 11, none⟩ = some (.string ⟨#[49]⟩) := HW.out.1.at 11
          obtain ⟨U, hU⟩ : ∃ U, wr.alloc (.cells #[.string ⟨#[55]⟩, .string ⟨#[45, 50]⟩, .string ⟨#[45, 51]⟩, .string ⟨#[49]⟩] 65) = U := ⟨_, rfl⟩
          obtain ⟨C, hC⟩ : ∃ C, wr.heap.size = C := ⟨_, rfl⟩
          have HU := Lib.hid (show BlockIs U C 65 #[.string ⟨#[55]⟩, .string ⟨#[45, 50]⟩, .string ⟨#[45, 51]⟩, .string ⟨#[49]⟩] ∧ Aw w B U ∧ BlockIs U D 65 ex3 by rw [← hU, ← hC]; exact ⟨BlockIs.new _ _ _, HW.out.2.alloc _, HW.out.1.alloc _⟩)
          have d0 : U.cell? ⟨C, 0, none⟩ = some (.string ⟨#[55]⟩) := HU.out.1.at 0
          have d1 : U.cell? ⟨C, 1, none⟩ = some (.string ⟨#[45, 50]⟩) := HU.out.1.at 1
          go_wp2_with (go_at_call 27; (with_reducible refine (ex_dm2 _ HU.out.2.1.env).mono ?_); rintro e w5 ⟨rfl, hb5⟩; have HX := Lib.hid (show BlockIs w5 D 65 ex3 ∧ Aw w B w5 from ⟨HU.out.2.2.below hb5 HU.out.2.2.lt, HU.out.2.1.step hb5⟩); have c8 : w5.cell? ⟨C, 2, none⟩ = some (.string ⟨#[45, 51]⟩) := (HU.out.1.below hb5 HU.out.1.lt).at 2; have c9 : w5.cell? ⟨C, 3, none⟩ = some (.string ⟨#[49]⟩) := (HU.out.1.below hb5 HU.out.1.lt).at 3; clear hb5)
          go_roundw
          case rel => exact ⟨3, by omega, rfl, HX⟩
          case measure => simp [intOf]
        · rw [show (((3 : Nat)) : Int) = 3 from rfl]
          have HA := Lib.hid HW.out.2
          clear HW
          have HRP := Lib.hid (fun W => Tryz.strings_Repeat ⟨#[57]⟩ 120 W (by omega) (by show 1 * 120 ≤ _; omega))
          rw [show (⟨(Lib.repeatL (ByteArray.mk #[57]).data.toList 120).toArray⟩ : ByteArray) = bs ninesL from rfl] at HRP
          have hn9 : bs ninesL ++ ⟨#[57]⟩ = bs (ninesL ++ [57]) := bs_app ninesL [57]
          have hsz : (bs ninesL).size = 120 := by kernel_rfl
          go_wp2_with (first | (go_at_call 62; refine (HRP.out _).mono ?_; rintro e w6 ⟨rfl, hb6⟩; replace HA := Lib.hid (HA.out.step hb6); clear hb6) | (go_at_call 21; (with_reducible refine (ex_large _ HA.out.env).mono ?_); rintro e w6 ⟨rfl, hb6⟩; replace HA := Lib.hid (HA.out.step hb6); clear hb6) | (go_at_call 27; (with_reducible refine (ex_dm3 _ HA.out.env).mono ?_); rintro e w6 ⟨rfl, hb6⟩; replace HA := Lib.hid (HA.out.step hb6); clear hb6) | (go_at_call 31; (with_reducible refine (ex_pow _ HA.out.env).mono ?_); rintro e w6 ⟨rfl, hb6⟩; replace HA := Lib.hid (HA.out.step hb6); clear hb6) | (go_at_call 53; (with_reducible refine (ex_floor _ HA.out.env).mono ?_); rintro e w6 ⟨rfl, hb6⟩; replace HA := Lib.hid (HA.out.step hb6); clear hb6) | (go_at_call 51; (with_reducible refine (ex_dec _ HA.out.env).mono ?_); rintro e w6 ⟨rfl, hb6⟩; replace HA := Lib.hid (HA.out.step hb6); clear hb6) | (go_at_call 55; (with_reducible refine (ex_wrap _ HA.out.env).mono ?_); rintro e w6 ⟨rfl, hb6⟩; replace HA := Lib.hid (HA.out.step hb6); clear hb6) | (go_at_call 57; (with_reducible refine (ex_b0 _ HA.out.env).mono ?_); rintro e w6 ⟨rfl, hb6⟩; replace HA := Lib.hid (HA.out.step hb6); clear hb6) | (go_at_call 57; (with_reducible refine (ex_b8 _ HA.out.env).mono ?_); rintro e w6 ⟨rfl, hb6⟩; replace HA := Lib.hid (HA.out.step hb6); clear hb6) | (go_at_call 57; (with_reducible refine (ex_b7 _ HA.out.env).mono ?_); rintro e w6 ⟨rfl, hb6⟩; replace HA := Lib.hid (HA.out.step hb6); clear hb6) | (go_at_call 29; (with_reducible refine (ex_cmp _ HA.out.env).mono ?_); rintro e w6 ⟨rfl, hb6⟩; replace HA := Lib.hid (HA.out.step hb6); clear hb6) | (go_at_call 43; (with_reducible refine (ex_cmpr _ HA.out.env).mono ?_); rintro e w6 ⟨rfl, hb6⟩; replace HA := Lib.hid (HA.out.step hb6); clear hb6) | (go_at_call 16; (with_reducible refine (ex_int _ HA.out.env).mono ?_); rintro e w6 ⟨rfl, hb6⟩; replace HA := Lib.hid (HA.out.step hb6); clear hb6) | (go_at_call 18; (with_reducible refine (ex_neg _ HA.out.env).mono ?_); rintro e w6 ⟨rfl, hb6⟩; replace HA := Lib.hid (HA.out.step hb6); clear hb6) | (go_at_call 12; (with_reducible refine (ex_c1 _ HA.out.env).mono ?_); rintro e w6 ⟨rfl, hb6⟩; replace HA := Lib.hid (HA.out.step hb6); clear hb6) | (go_at_call 12; (with_reducible refine (ex_c2 _ HA.out.env).mono ?_); rintro e w6 ⟨rfl, hb6⟩; replace HA := Lib.hid (HA.out.step hb6); clear hb6) | (go_at_call 12; (with_reducible refine (ex_c3 _ HA.out.env).mono ?_); rintro e w6 ⟨rfl, hb6⟩; replace HA := Lib.hid (HA.out.step hb6); clear hb6) | (go_at_call 45; (with_reducible refine (ex_cr _ HA.out.env).mono ?_); rintro e w6 ⟨rfl, hb6⟩; replace HA := Lib.hid (HA.out.step hb6); clear hb6) | (go_at_call 14; (with_reducible refine (ex_from _ HA.out.env).mono ?_); rintro e w6 ⟨rfl, hb6⟩; replace HA := Lib.hid (HA.out.step hb6); clear hb6))
          go_ret
          exact ⟨rfl, hB ▸ HA.out.bl⟩
end Go.Proofs.YtjemolaobhlapaaGreatDoor
