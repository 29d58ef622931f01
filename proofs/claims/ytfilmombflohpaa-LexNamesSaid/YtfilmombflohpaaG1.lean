/- strings.ContainsRune of a blank, at every byte. -/
import Derived.Test.YtfilmombflohpaaL5
import Derived.Laws.Runes
import Derived.BigQuiet
import Derived.IntWalk
import Derived.Deep.QuietTactic
set_option linter.unusedSimpArgs false
set_option linter.unusedVariables false
namespace Go.Proofs.Ytfilmombflohpaa
open Go.RowKit Go.ChangeMaps Go.WideMaps
set_option maxRecDepth 1000000

theorem enc_two (r : Nat) (h1 : 128 ≤ r) (h2 : r ≤ 255) : ∃ a b : UInt8, Utf8.encode (r : Int) = ⟨#[a, b]⟩ ∧ 128 ≤ b.toNat := by
  have hv : Utf8.valid (r : Int) = true := by
    unfold Utf8.valid
    simp
    omega
  refine ⟨UInt8.ofNat (0xC0 + r / 64), UInt8.ofNat (0x80 + r % 64), ?_, ?_⟩
  · unfold Utf8.encode
    simp only [hv, if_true, Int.toNat_natCast]
    rw [if_neg (by omega), if_pos (by omega)]
  · rw [UInt8.toNat_ofNat']
    omega

theorem idx_blank (b : UInt8) (h : 128 ≤ b.toNat) : Lib.indexByte [10, 13] b = -1 := by
  have n1 : ¬ b = 10 := by rintro rfl; simp at h
  have n2 : ¬ b = 13 := by rintro rfl; simp at h
  have n1' : ¬ (10 : UInt8) = b := fun e => n1 e.symm
  have n2' : ¬ (13 : UInt8) = b := fun e => n2 e.symm
  simp [Lib.indexByte, n1, n2, n1', n2']
theorem quiet_add_same {P : Program} {f : FuncId} {args : Array Value} {w : World} {a n : Nat} {v : Value}
    (h : Calls P f args (w.drewN (a + n)) fun e w' => e = .returned v ∧ w' = w.drewN (a + n)) :
    Calls P f args (w.drewN (a + n)) fun e w'' => e = .returned v ∧ ∃ m, w'' = w.drewN (a + m) :=
  h.mono fun _ _ ⟨he, hm⟩ => ⟨he, n, hm⟩

set_option maxHeartbeats 1000000 in
theorem idxrune_high (r : Nat) (w : World) (h1 : 128 ≤ r) (h2 : r ≤ 255) :
    Calls Try.prog 95 #[.string (mk [32, 9, 10, 13]), .int .i32 (r : Int)] w fun e w' => e = .returned (.int .i64 (-1)) ∧ ∃ n, w.drewN n = w' := by
  have b1 : decide ((0 : Int) ≤ (r : Int)) = true := by simp
  have b2 : decide ((r : Int) < 128) = false := by simp; omega
  have b3 : ((r : Int) == 65533) = false := by simp; omega
  have hv : Lib.validRune (r : Int) = true := by unfold Lib.validRune; simp; omega
  have HV := Lib.hid (Try.utf8_ValidRune (r : Int) w)
  rw [hv] at HV
  clear hv
  go_enter Try.func95, Try.ntmps95
  go_wp2_with (go_at_call 105; refine HV.out.mono ?_; rintro e w' ⟨rfl, rfl⟩)
  go_step3
  go_wp2_with fail
  obtain ⟨a, b, hab, hb⟩ := enc_two r h1 h2
  rw [hab]
  have e1 : wrap64 (((⟨#[a, b]⟩ : ByteArray).size : Int) - 1) = 1 := by
    have e0 : ((⟨#[a, b]⟩ : ByteArray).size : Int) = 2 := rfl
    rw [e0]; unfold wrap64; omega
  rw [e1]
  have hn9 : ((((mk [32, 9, 10, 13])[1]'(by decide)).toNat : Int) != (((⟨#[a, b]⟩ : ByteArray)[1]'(by show 1 < 2; omega)).toNat : Int)) = true := by
    show ((9 : Int) != (b.toNat : Int)) = true
    simp; omega
  have HI : ∀ W, Hid (Calls Try.prog 104 #[.string ((mk [32, 9, 10, 13]).extract 2 4), .int .u8 (((⟨#[a, b]⟩ : ByteArray)[1]'(by show 1 < 2; omega)).toNat : Int)] W fun e w' => e = .returned (.int .i64 (-1)) ∧ w' = W) := by
    intro W
    have h := Try.strings_IndexByte ((mk [32, 9, 10, 13]).extract 2 4) (b.toNat : Int) W
    rw [Int.toNat_natCast, show b.toNat.toUInt8 = b by simp, show ((mk [32, 9, 10, 13]).extract 2 4).data.toList = [10, 13] from rfl, idx_blank b hb] at h
    exact Lib.hid h
  clear b1 b2 b3 e1 hab HV h1 h2
  refine wp_loop_rounds 1 ?_
  rw [rounds_succ]
  go_wp2_with fail
  try go_step3
  go_wp2_with fail
  go_quiet (fail)
  go_wp2_with fail
  have s2 : IntKind.i64.wrap ((1 : Int) + 1) = 2 := IntWalk.i64_in _ (by omega)
  go_quiet ((go_at_call 104; exact quiet_add_same (HI _).out))
  go_wp2_with fail
  rw [Exit.noGoto_ret]
  go_wp2_with fail
  try rw [Exit.noGoto_ret]
  go_ret
  exact ⟨rfl, _, rfl⟩

set_option maxHeartbeats 400000 in
theorem space_any2 (c : UInt8) (w : World) :
    Calls Try.prog 82 #[.string (mk [32, 9, 10, 13]), .int .i32 (c.toNat : Int)] w fun e w' => e = .returned (.bool (isSpaceI c)) ∧ ∃ n, w.drewN n = w' := by
  by_cases h : c.toNat < 128
  · exact (space_any c w h).mono fun e w' ⟨he, hw⟩ => ⟨he, 0, hw⟩
  · have hc := c.toNat_lt
    have HI := Lib.hid (idxrune_high c.toNat w (by omega) (by omega))
    have hs : isSpaceI c = false := by
      have h : ∀ n, n < 256 → 128 ≤ n → isSpaceI (UInt8.ofNat n) = false := by decide +kernel
      have := h c.toNat (by omega) (by omega)
      rwa [UInt8.ofNat_toNat] at this
    rw [hs]
    go_enter Try.func82, Try.ntmps82
    go_wp2_with (go_at_call 95; refine HI.out.mono ?_; rintro e w1 ⟨rfl, n, rfl⟩)
    go_ret
    exact ⟨rfl, n, rfl⟩
end Go.Proofs.Ytfilmombflohpaa
