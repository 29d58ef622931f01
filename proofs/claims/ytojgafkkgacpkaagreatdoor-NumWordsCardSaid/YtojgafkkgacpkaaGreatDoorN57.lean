/- The law NumWords: the ten operations on words of 64 bits. -/
import Derived.Test.YtojgafkkgacpkaaGreatDoorN31
import Derived.Test.YtojgafkkgacpkaaGreatDoorN32
import Derived.Test.YtojgafkkgacpkaaGreatDoorN33
import Derived.Test.YtojgafkkgacpkaaGreatDoorN34
import Derived.Test.YtojgafkkgacpkaaGreatDoorN35
import Derived.Test.YtojgafkkgacpkaaGreatDoorN36
import Derived.Test.YtojgafkkgacpkaaGreatDoorN37
import Derived.Test.YtojgafkkgacpkaaGreatDoorN38
import Derived.Test.YtojgafkkgacpkaaGreatDoorN39
import Derived.Test.YtojgafkkgacpkaaGreatDoorN42
import Derived.Test.YtojgafkkgacpkaaGreatDoorN43
import Derived.Test.YtojgafkkgacpkaaGreatDoorN55
set_option linter.unusedSimpArgs false
set_option linter.unusedVariables false
namespace Go.Proofs.YtojgafkkgacpkaaGreatDoor
open Go.RowKit
set_option maxRecDepth 1000000

theorem opW_lt (i a b : Nat) (ha : a < 18446744073709551616) (hb : b < 18446744073709551616) : opW i a b < 18446744073709551616 := by
  have h64 : (2 : Nat) ^ 64 = 18446744073709551616 := rfl
  unfold opW
  split
  · exact Nat.mod_lt _ (by decide)
  · exact Nat.mod_lt _ (by decide)
  · exact Nat.mod_lt _ (by decide)
  · exact Nat.lt_of_le_of_lt (Nat.div_le_self _ _) ha
  · exact Nat.lt_of_le_of_lt (Nat.mod_le _ _) ha
  · exact Nat.lt_of_le_of_lt Nat.and_le_left ha
  · rw [← h64] at ha hb ⊢; exact Nat.or_lt_two_pow ha hb
  · rw [← h64] at ha hb ⊢; exact Nat.xor_lt_two_pow ha hb
  · exact Nat.mod_lt _ (by decide)
  · exact Nat.lt_of_le_of_lt (Nat.div_le_self _ _) ha
theorem and_ones {x : Nat} (h : x < 18446744073709551616) : x &&& ones 64 = x := Nat.and_two_pow_sub_one_of_lt_two_pow h
theorem le_ones {x : Nat} (h : x < 18446744073709551616) : x ≤ ones 64 := by
  have : ones 64 = 18446744073709551615 := rfl
  omega
abbrev ten (v0 v1 v2 v3 v4 v5 v6 v7 v8 v9 : Nat) : Array Value := #[.int .u64 v0, .int .u64 v1, .int .u64 v2, .int .u64 v3, .int .u64 v4, .int .u64 v5, .int .u64 v6, .int .u64 v7, .int .u64 v8, .int .u64 v9]
/-- The ten words wanted, in one block. -/
structure Wd (w0 : World) (B : Nat) (c : Array Value) (w : World) : Prop where
  b : BlockIs w B 57 c
  bl : Below B w0 w
theorem Wd.step {w0 w w' : World} {B : Nat} {c : Array Value} (h : Wd w0 B c w) (hb : Below w.heap.size w w') : Wd w0 B c w' :=
  ⟨h.b.below hb h.b.lt, h.bl.trans (hb.mono (by have := h.b.lt; omega))⟩
theorem Wd.alloc {w0 w : World} {B : Nat} {c : Array Value} (h : Wd w0 B c w) (o : Obj) : Wd w0 B c (w.alloc o) := h.step ((Below.refl _ _).alloc (Nat.le_refl _) _)
theorem Wd.drew {w0 w : World} {B : Nat} {c : Array Value} (h : Wd w0 B c w) : Wd w0 B c w.drew := ⟨h.b.drew, h.bl.drew⟩
theorem Wd.env {w0 w : World} {B : Nat} {c : Array Value} (h : Wd w0 B c w) (he : Env w0 ∧ w0.heap.size = B) : Env w := he.1.same (by rw [he.2]; exact h.bl)
theorem Wd.put {w0 w : World} {B : Nat} {c : Array Value} (h : Wd w0 B c w) (i : Nat) (x : Value) : Wd w0 B (c.setIfInBounds i x) (w.setCell ⟨B, i, none⟩ x) :=
  ⟨h.b.set i x, h.bl.setCell (by simp) _⟩
theorem Wd.put3 {w0 w : World} {B v0 v1 v2 v3 v4 v5 v6 v7 v8 v9 : Nat} (h : Wd w0 B (ten v0 v1 v2 v3 v4 v5 v6 v7 v8 v9) w) (x : Nat) : Wd w0 B (ten v0 v1 v2 x v4 v5 v6 v7 v8 v9) (w.setCell ⟨B, 3, none⟩ (.int .u64 x)) := h.put 3 _
theorem Wd.put4 {w0 w : World} {B v0 v1 v2 v3 v4 v5 v6 v7 v8 v9 : Nat} (h : Wd w0 B (ten v0 v1 v2 v3 v4 v5 v6 v7 v8 v9) w) (x : Nat) : Wd w0 B (ten v0 v1 v2 v3 x v5 v6 v7 v8 v9) (w.setCell ⟨B, 4, none⟩ (.int .u64 x)) := h.put 4 _
theorem Wd.put8 {w0 w : World} {B v0 v1 v2 v3 v4 v5 v6 v7 v8 v9 : Nat} (h : Wd w0 B (ten v0 v1 v2 v3 v4 v5 v6 v7 v8 v9) w) (x : Nat) : Wd w0 B (ten v0 v1 v2 v3 v4 v5 v6 v7 x v9) (w.setCell ⟨B, 8, none⟩ (.int .u64 x)) := h.put 8 _
theorem Wd.put9 {w0 w : World} {B v0 v1 v2 v3 v4 v5 v6 v7 v8 v9 : Nat} (h : Wd w0 B (ten v0 v1 v2 v3 v4 v5 v6 v7 v8 v9) w) (x : Nat) : Wd w0 B (ten v0 v1 v2 v3 v4 v5 v6 v7 v8 x) (w.setCell ⟨B, 9, none⟩ (.int .u64 x)) := h.put 9 _
/-- The call awake(), as the laws use it. -/
abbrev AwakeOk : Prop := ∀ w, Env w → Calls Tryz.prog 10 #[] w fun e w' => e = .returned (.bool true) ∧ Below w.heap.size w w'
set_option maxHeartbeats 40000000 in
theorem words_mid (a b : Nat) (ha : a < 18446744073709551616) (hb : b < 18446744073709551616) (h0 : 0 < b) (h64 : b < 64) (w : World) (he : Env w) (haw : AwakeOk) :
    Calls Tryz.prog 7 #[.int .u64 a, .int .u64 b] w fun e w' => e = .returned (.bool true) ∧ Below w.heap.size w w' := by
  obtain ⟨B, hB⟩ : ∃ B, w.heap.size = B := ⟨_, rfl⟩
  have HE := Lib.hid (show Env w ∧ w.heap.size = B from ⟨he, hB⟩)
  have HAW := Lib.hid haw
  clear he haw
  obtain ⟨v0, e0⟩ : ∃ v, opW 0 a b = v := ⟨_, rfl⟩
  have l0 := opW_lt 0 a b ha hb
  have H0 := Lib.hid (fun W (h : Env W) => Bits0_ok a b 64 ha hb (by omega) (by omega) (le_ones ha) (le_ones hb) W h.tab v0 l0 (by rw [and_ones l0]; exact e0))
  rw [e0] at l0
  have F0 := Lib.hid (fun W (h : Env W) => FormatUint_any v0 l0 W h.tab)
  obtain ⟨v1, e1⟩ : ∃ v, opW 1 a b = v := ⟨_, rfl⟩
  have l1 := opW_lt 1 a b ha hb
  have H1 := Lib.hid (fun W (h : Env W) => Bits1_ok a b 64 ha hb (by omega) (by omega) (le_ones ha) (le_ones hb) W h.tab v1 l1 (by rw [and_ones l1]; exact e1))
  rw [e1] at l1
  have F1 := Lib.hid (fun W (h : Env W) => FormatUint_any v1 l1 W h.tab)
  obtain ⟨v2, e2⟩ : ∃ v, opW 2 a b = v := ⟨_, rfl⟩
  have l2 := opW_lt 2 a b ha hb
  have H2 := Lib.hid (fun W (h : Env W) => Bits2_ok a b 64 ha hb (by omega) (by omega) (le_ones ha) (le_ones hb) W h.tab v2 l2 (by rw [and_ones l2]; exact e2))
  rw [e2] at l2
  have F2 := Lib.hid (fun W (h : Env W) => FormatUint_any v2 l2 W h.tab)
  obtain ⟨v3, e3⟩ : ∃ v, opW 3 a b = v := ⟨_, rfl⟩
  have l3 := opW_lt 3 a b ha hb
  have H3 := Lib.hid (fun W (h : Env W) => Bits3_ok a b 64 ha hb h0 (by omega) (by omega) (le_ones ha) (le_ones hb) W h.tab v3 l3 (by rw [and_ones l3]; exact e3))
  rw [e3] at l3
  have F3 := Lib.hid (fun W (h : Env W) => FormatUint_any v3 l3 W h.tab)
  obtain ⟨v4, e4⟩ : ∃ v, opW 4 a b = v := ⟨_, rfl⟩
  have l4 := opW_lt 4 a b ha hb
  have H4 := Lib.hid (fun W (h : Env W) => Bits4_ok a b 64 ha hb h0 (by omega) (by omega) (le_ones ha) (le_ones hb) W h.tab v4 l4 (by rw [and_ones l4]; exact e4))
  rw [e4] at l4
  have F4 := Lib.hid (fun W (h : Env W) => FormatUint_any v4 l4 W h.tab)
  obtain ⟨v5, e5⟩ : ∃ v, opW 5 a b = v := ⟨_, rfl⟩
  have l5 := opW_lt 5 a b ha hb
  have H5 := Lib.hid (fun W (h : Env W) => Bits5_ok a b 64 ha hb (by omega) (by omega) (le_ones ha) (le_ones hb) W h.tab v5 l5 (by rw [and_ones l5]; exact e5))
  rw [e5] at l5
  have F5 := Lib.hid (fun W (h : Env W) => FormatUint_any v5 l5 W h.tab)
  obtain ⟨v6, e6⟩ : ∃ v, opW 6 a b = v := ⟨_, rfl⟩
  have l6 := opW_lt 6 a b ha hb
  have H6 := Lib.hid (fun W (h : Env W) => Bits6_ok a b 64 ha hb (by omega) (by omega) (le_ones ha) (le_ones hb) W h.tab v6 l6 (by rw [and_ones l6]; exact e6))
  rw [e6] at l6
  have F6 := Lib.hid (fun W (h : Env W) => FormatUint_any v6 l6 W h.tab)
  obtain ⟨v7, e7⟩ : ∃ v, opW 7 a b = v := ⟨_, rfl⟩
  have l7 := opW_lt 7 a b ha hb
  have H7 := Lib.hid (fun W (h : Env W) => Bits7_ok a b 64 ha hb (by omega) (by omega) (le_ones ha) (le_ones hb) W h.tab v7 l7 (by rw [and_ones l7]; exact e7))
  rw [e7] at l7
  have F7 := Lib.hid (fun W (h : Env W) => FormatUint_any v7 l7 W h.tab)
  obtain ⟨v8, e8⟩ : ∃ v, opW 8 a b = v := ⟨_, rfl⟩
  have l8 := opW_lt 8 a b ha hb
  have H8 := Lib.hid (fun W (h : Env W) => Bits8_ok a b 64 ha hb (by omega) (by omega) (le_ones ha) (le_ones hb) W h.tab v8 l8 (by rw [and_ones l8]; exact e8))
  rw [e8] at l8
  have F8 := Lib.hid (fun W (h : Env W) => FormatUint_any v8 l8 W h.tab)
  obtain ⟨v9, e9⟩ : ∃ v, opW 9 a b = v := ⟨_, rfl⟩
  have l9 := opW_lt 9 a b ha hb
  have H9 := Lib.hid (fun W (h : Env W) => Bits9_ok a b 64 ha hb (by omega) (by omega) (le_ones ha) (le_ones hb) W h.tab v9 l9 (by rw [and_ones l9]; exact e9))
  rw [e9] at l9
  have F9 := Lib.hid (fun W (h : Env W) => FormatUint_any v9 l9 W h.tab)
  have FA := Lib.hid (fun W (h : Env W) => FormatUint_any a ha W h.tab)
  have FB := Lib.hid (fun W (h : Env W) => FormatUint_any b hb W h.tab)
  simp only [show ∀ n, numeral false n = Lib.decDigits n from fun _ => rfl, show ((64 : Nat) : Int) = 64 from rfl] at H0 H1 H2 H3 H4 H5 H6 H7 H8 H9
  have x0 : IntKind.u64.wrap ((a : Int) + b) = v0 := by rw [IntKind.wrap_u64, ← e0]; show _ = (((a + b) % 18446744073709551616 : Nat) : Int); omega
  have x1 : IntKind.u64.wrap ((a : Int) - b) = v1 := by rw [IntKind.wrap_u64, ← e1]; show _ = (((a + (18446744073709551616 - b)) % 18446744073709551616 : Nat) : Int); omega
  have x2 : IntKind.u64.wrap ((a : Int) * b) = v2 := by rw [IntKind.wrap_u64, ← e2]; show _ = ((a * b % 18446744073709551616 : Nat) : Int); rw [Int.natCast_emod, Int.natCast_mul]; rfl
  have x5 : bits .and .u64 (a : Int) b = v5 := by rw [← e5]; exact bits_and_u64_nat a b ha hb
  have x6 : bits .or .u64 (a : Int) b = v6 := by rw [← e6]; exact bits_or_u64_nat a b ha hb
  have x7 : bits .xor .u64 (a : Int) b = v7 := by rw [← e7]; exact bits_xor_u64_nat a b ha hb
  have X3 := Lib.hid (show IntKind.u64.wrap ((a : Int) / b) = v3 by rw [← e3] at l3 ⊢; rw [IntKind.wrap_u64]; show ((a / b : Nat) : Int) % _ = ((a / b : Nat) : Int); have h : a / b ≤ a := Nat.div_le_self _ _; obtain ⟨q, hq⟩ : ∃ q, a / b = q := ⟨_, rfl⟩; rw [hq] at h ⊢; omega)
  have X4 := Lib.hid (show ((a : Int).tmod b) = v4 by rw [← e4]; rfl)
  have E8 := Lib.hid e8
  have E9 := Lib.hid e9
  clear e0 e1 e2 e3 e4 e5 e6 e7 e8 e9
  obtain ⟨W, hW⟩ : ∃ W, w.alloc (.cells #[.int .u64 v0, .int .u64 v1, .int .u64 v2, .int .u64 0, .int .u64 0, .int .u64 v5, .int .u64 v6, .int .u64 v7, .int .u64 0, .int .u64 0] 57) = W := ⟨_, rfl⟩
  have HD := Lib.hid (show Wd w B (ten v0 v1 v2 0 0 v5 v6 v7 0 0) W by rw [← hW]; exact ⟨by rw [← hB]; exact BlockIs.new _ _ _, (Below.refl _ _).alloc (by omega) _⟩)
  have hbn : ((b : Int) != 0) = true := by simp; omega
  go_enter Tryz.func7, Tryz.ntmps7
  go_wp2_with fail
  clear x0 x1 x2 x5 x6 x7 hW
  have hH0 := HD.out.drew
  obtain ⟨Wr, hWr⟩ : ∃ x, W.drew = x := ⟨_, rfl⟩
  rw [hWr] at hH0
  refine wp_region_held_drew (S := fun w' => ∃ x y, Wd w B (ten v0 v1 v2 x y v5 v6 v7 0 0) w') (by kernel_rfl) (by rw [hWr]; exact ⟨_, _, hH0⟩) (fun hS => ?_)
  rw [hWr] at hS ⊢
  clear hWr
  refine wpAnyH_take (i := 0) (v := .slice (some ⟨B, 0, none⟩) 10 10) rfl (by kernel_rfl) (by kernel_rfl) (by kernel_rfl) (fun _ _ _ h => h) (Or.inl ⟨by rfl, fun w' _ => by rfl⟩) hS ?_
  try simp only [A1, A2, A3, Act.put, A4, A5, A6]
  refine wpAnyH_take (i := 1) (v := .slice (some ⟨B, 0, none⟩) 10 10) rfl (by kernel_rfl) (by kernel_rfl) (by kernel_rfl) (fun _ _ _ h => h) (Or.inl ⟨by rfl, fun w' _ => by rfl⟩) hS ?_
  try simp only [A1, A2, A3, Act.put, A4, A5, A6]
  refine wpAnyH_take (i := 2) (v := .int .u64 a) rfl (by kernel_rfl) (by kernel_rfl) (by kernel_rfl) (fun _ _ _ h => h) (Or.inl ⟨by rfl, fun w' _ => by rfl⟩) hS ?_
  try simp only [A1, A2, A3, Act.put, A4, A5, A6]
  refine wpAnyH_take (i := 3) (v := .int .u64 b) rfl (by kernel_rfl) (by kernel_rfl) (by kernel_rfl) (fun _ _ _ h => h) (Or.inl ⟨by rfl, fun w' _ => by rfl⟩) hS ?_
  try simp only [A1, A2, A3, Act.put, A4, A5, A6]
  refine wpAnyH_take (i := 4) (v := .int .u64 v3) rfl (by kernel_rfl) (by kernel_rfl) (by kernel_rfl) (fun _ _ _ h => h) (Or.inl ⟨by rfl, fun w' _ => by go_simp; rw [if_neg (by omega), X3.out]⟩) hS ?_
  try simp only [A1, A2, A3, Act.put, A4, A5, A6]
  refine wpAnyH_take (i := 5) (v := .int .u64 a) rfl (by kernel_rfl) (by kernel_rfl) (by kernel_rfl) (fun _ _ _ h => h) (Or.inl ⟨by rfl, fun w' _ => by rfl⟩) hS ?_
  try simp only [A1, A2, A3, Act.put, A4, A5, A6]
  refine wpAnyH_take (i := 6) (v := .int .u64 b) rfl (by kernel_rfl) (by kernel_rfl) (by kernel_rfl) (fun _ _ _ h => h) (Or.inl ⟨by rfl, fun w' _ => by rfl⟩) hS ?_
  try simp only [A1, A2, A3, Act.put, A4, A5, A6]
  refine wpAnyH_take (i := 7) (v := .int .u64 v4) rfl (by kernel_rfl) (by kernel_rfl) (by kernel_rfl) (fun _ _ _ h => h) (Or.inl ⟨by rfl, fun w' _ => by go_simp; rw [if_neg (by omega), X4.out]⟩) hS ?_
  try simp only [A1, A2, A3, Act.put, A4, A5, A6]
  refine wpAnyH_take (i := 8) (v := .pointer (some ⟨B, 3, none⟩)) rfl (by kernel_rfl) (by kernel_rfl) (by kernel_rfl) (fun _ _ _ h => h) (Or.inl ⟨by rfl, fun w' _ => by go_simp⟩) hS ?_
  try simp only [A1, A2, A3, Act.put, A4, A5, A6]
  have c3 : Wr.cell? ⟨B, 3, none⟩ = some (.int .u64 0) := hH0.b.at 3
  have g3 : Wr.frozen? ⟨B, 3, none⟩ = false := hH0.b.thawed 3
  refine wpAnyH_ready (rs := [9]) (by kernel_rfl) (by simp) (AllReadyH.cons rfl (fun K hK => ?_) AllReadyH.nil)
  rw [if_pos (by rfl)]
  go_simp
  have hH1 := hH0.put3 v3
  clear hS
  refine hK.out _ _ ⟨_, _, hH1⟩ (fun hS => ?_)
  clear hK K
  refine wpAnyH_take (i := 10) (v := .pointer (some ⟨B, 4, none⟩)) rfl (by kernel_rfl) (by kernel_rfl) (by kernel_rfl) (fun _ _ _ h => h) (Or.inl ⟨by rfl, fun w' _ => by go_simp⟩) hS ?_
  try simp only [A1, A2, A3, Act.put, A4, A5, A6]
  obtain ⟨U, hU⟩ : ∃ U, Wr.setCell ⟨B, 3, none⟩ (.int .u64 v3) = U := ⟨_, rfl⟩
  rw [hU] at hH1 hS ⊢
  clear hU c3 g3
  have c4 : U.cell? ⟨B, 4, none⟩ = some (.int .u64 0) := hH1.b.at 4
  have g4 : U.frozen? ⟨B, 4, none⟩ = false := hH1.b.thawed 4
  refine wpAnyH_ready (rs := [11]) (by kernel_rfl) (by simp) (AllReadyH.cons rfl (fun K hK => ?_) AllReadyH.nil)
  rw [if_pos (by rfl)]
  go_simp
  have hH2 := hH1.put4 v4
  clear hS
  refine hK.out _ _ ⟨_, _, hH2⟩ (fun hS => ?_)
  clear hK K hS
  refine wpAnyH_done (by kernel_rfl) ?_ _
  obtain ⟨U2, hU2⟩ : ∃ U2, U.setCell ⟨B, 4, none⟩ (.int .u64 v4) = U2 := ⟨_, rfl⟩
  rw [hU2] at hH2 ⊢
  clear hU2 c4 g4
  have HW := Lib.hid hH2
  clear hH0 hH1 hH2 HD
  obtain ⟨U3, hU3⟩ : ∃ x, U2.setCell ⟨B, 8, none⟩ (.int .u64 v8) = x := ⟨_, rfl⟩
  obtain ⟨U4, hU4⟩ : ∃ x, U3.setCell ⟨B, 9, none⟩ (.int .u64 v9) = x := ⟨_, rfl⟩
  have h3 := HW.out.put8 v8
  rw [hU3] at h3
  have h4 := h3.put9 v9
  rw [hU4] at h4
  have c8 : U2.cell? ⟨B, 8, none⟩ = some (.int .u64 0) := HW.out.b.at 8
  have g8 : U2.frozen? ⟨B, 8, none⟩ = false := HW.out.b.thawed 8
  have c9 : U3.cell? ⟨B, 9, none⟩ = some (.int .u64 0) := h3.b.at 9
  have g9 : U3.frozen? ⟨B, 9, none⟩ = false := h3.b.thawed 9
  have HV := Lib.hid h4
  clear h3 h4 HW
  have x8 : IntKind.u64.wrap ((a : Int) * 2 ^ b) = v8 := by rw [IntKind.wrap_u64, ← E8.out]; show _ = ((a * 2 ^ min b 64 % 18446744073709551616 : Nat) : Int); rw [Nat.min_eq_left (by omega), Int.natCast_emod, Int.natCast_mul, Int.natCast_pow]; rfl
  have x9 : ((a : Int) / 2 ^ b) = v9 := by rw [← E9.out]; show _ = ((a / 2 ^ min b 64 : Nat) : Int); rw [Nat.min_eq_left (by omega), Int.natCast_ediv, Int.natCast_pow]; rfl
  have hb64 : decide ((b : Int) < 64) = true := by simp; omega
  skip
  go_wp2_with ((first | (with_reducible refine (FA.out _ (HV.out.env HE.out)).mono ?_) | (with_reducible refine (FB.out _ (HV.out.env HE.out)).mono ?_)); rintro e w6 ⟨rfl, hb6⟩; replace HV := Lib.hid (HV.out.step hb6); clear hb6)
  clear x8 x9 c8 c9 g8 g9 hU3 hU4  hb64 hbn
  go_loopw [61] (fun x wr => ∃ i : Nat, i ≤ 10 ∧ x = .int .i64 i ∧ Hid (Wd w B (ten v0 v1 v2 v3 v4 v5 v6 v7 v8 v9) wr)) (fun x _ => 10 - (intOf x).toNat)
  case atStart => exact ⟨0, by omega, rfl, HV⟩
  case round =>
    clear HV
    obtain ⟨i, hi, rfl, HW⟩ := hrel
    have h11 : i = 0 ∨ i = 1 ∨ i = 2 ∨ i = 3 ∨ i = 4 ∨ i = 5 ∨ i = 6 ∨ i = 7 ∨ i = 8 ∨ i = 9 ∨ i = 10 := by omega
    clear hi
    rcases h11 with rfl | rfl | rfl | rfl | rfl | rfl | rfl | rfl | rfl | rfl | rfl
    · rw [show ((0 : Nat) : Int) = 0 from rfl]
      have ci : wr.cell? ⟨B, 0, none⟩ = some (.int .u64 v0) := HW.out.b.at 0
      go_wp2_with (first | (go_at_call 57; (with_reducible refine (H0.out _ (HW.out.env HE.out)).mono ?_); rintro e w6 ⟨rfl, hb6⟩; have HX := Lib.hid (HW.out.step hb6); clear hb6) | (go_at_call 59; (with_reducible refine (F0.out _ (HX.out.env HE.out)).mono ?_); rintro e w7 ⟨rfl, hb7⟩; have HY := Lib.hid (HX.out.step hb7); clear hb7))
      go_roundw
      case rel => exact ⟨1, by omega, rfl, HY⟩
      case measure => simp [intOf]
    · rw [show ((1 : Nat) : Int) = 1 from rfl]
      have ci : wr.cell? ⟨B, 1, none⟩ = some (.int .u64 v1) := HW.out.b.at 1
      go_wp2_with (first | (go_at_call 57; (with_reducible refine (H1.out _ (HW.out.env HE.out)).mono ?_); rintro e w6 ⟨rfl, hb6⟩; have HX := Lib.hid (HW.out.step hb6); clear hb6) | (go_at_call 59; (with_reducible refine (F1.out _ (HX.out.env HE.out)).mono ?_); rintro e w7 ⟨rfl, hb7⟩; have HY := Lib.hid (HX.out.step hb7); clear hb7))
      go_roundw
      case rel => exact ⟨2, by omega, rfl, HY⟩
      case measure => simp [intOf]
    · rw [show ((2 : Nat) : Int) = 2 from rfl]
      have ci : wr.cell? ⟨B, 2, none⟩ = some (.int .u64 v2) := HW.out.b.at 2
      go_wp2_with (first | (go_at_call 57; (with_reducible refine (H2.out _ (HW.out.env HE.out)).mono ?_); rintro e w6 ⟨rfl, hb6⟩; have HX := Lib.hid (HW.out.step hb6); clear hb6) | (go_at_call 59; (with_reducible refine (F2.out _ (HX.out.env HE.out)).mono ?_); rintro e w7 ⟨rfl, hb7⟩; have HY := Lib.hid (HX.out.step hb7); clear hb7))
      go_roundw
      case rel => exact ⟨3, by omega, rfl, HY⟩
      case measure => simp [intOf]
    · rw [show ((3 : Nat) : Int) = 3 from rfl]
      have hbe : ((b : Int) == 0) = false := by simp; omega
      have ci : wr.cell? ⟨B, 3, none⟩ = some (.int .u64 v3) := HW.out.b.at 3
      go_wp2_with (first | (go_at_call 57; (with_reducible refine (H3.out _ (HW.out.env HE.out)).mono ?_); rintro e w6 ⟨rfl, hb6⟩; have HX := Lib.hid (HW.out.step hb6); clear hb6) | (go_at_call 59; (with_reducible refine (F3.out _ (HX.out.env HE.out)).mono ?_); rintro e w7 ⟨rfl, hb7⟩; have HY := Lib.hid (HX.out.step hb7); clear hb7))
      go_roundw
      case rel => exact ⟨4, by omega, rfl, HY⟩
      case measure => simp [intOf]
    · rw [show ((4 : Nat) : Int) = 4 from rfl]
      have hbe : ((b : Int) == 0) = false := by simp; omega
      have ci : wr.cell? ⟨B, 4, none⟩ = some (.int .u64 v4) := HW.out.b.at 4
      go_wp2_with (first | (go_at_call 57; (with_reducible refine (H4.out _ (HW.out.env HE.out)).mono ?_); rintro e w6 ⟨rfl, hb6⟩; have HX := Lib.hid (HW.out.step hb6); clear hb6) | (go_at_call 59; (with_reducible refine (F4.out _ (HX.out.env HE.out)).mono ?_); rintro e w7 ⟨rfl, hb7⟩; have HY := Lib.hid (HX.out.step hb7); clear hb7))
      go_roundw
      case rel => exact ⟨5, by omega, rfl, HY⟩
      case measure => simp [intOf]
    · rw [show ((5 : Nat) : Int) = 5 from rfl]
      have ci : wr.cell? ⟨B, 5, none⟩ = some (.int .u64 v5) := HW.out.b.at 5
      go_wp2_with (first | (go_at_call 57; (with_reducible refine (H5.out _ (HW.out.env HE.out)).mono ?_); rintro e w6 ⟨rfl, hb6⟩; have HX := Lib.hid (HW.out.step hb6); clear hb6) | (go_at_call 59; (with_reducible refine (F5.out _ (HX.out.env HE.out)).mono ?_); rintro e w7 ⟨rfl, hb7⟩; have HY := Lib.hid (HX.out.step hb7); clear hb7))
      go_roundw
      case rel => exact ⟨6, by omega, rfl, HY⟩
      case measure => simp [intOf]
    · rw [show ((6 : Nat) : Int) = 6 from rfl]
      have ci : wr.cell? ⟨B, 6, none⟩ = some (.int .u64 v6) := HW.out.b.at 6
      go_wp2_with (first | (go_at_call 57; (with_reducible refine (H6.out _ (HW.out.env HE.out)).mono ?_); rintro e w6 ⟨rfl, hb6⟩; have HX := Lib.hid (HW.out.step hb6); clear hb6) | (go_at_call 59; (with_reducible refine (F6.out _ (HX.out.env HE.out)).mono ?_); rintro e w7 ⟨rfl, hb7⟩; have HY := Lib.hid (HX.out.step hb7); clear hb7))
      go_roundw
      case rel => exact ⟨7, by omega, rfl, HY⟩
      case measure => simp [intOf]
    · rw [show ((7 : Nat) : Int) = 7 from rfl]
      have ci : wr.cell? ⟨B, 7, none⟩ = some (.int .u64 v7) := HW.out.b.at 7
      go_wp2_with (first | (go_at_call 57; (with_reducible refine (H7.out _ (HW.out.env HE.out)).mono ?_); rintro e w6 ⟨rfl, hb6⟩; have HX := Lib.hid (HW.out.step hb6); clear hb6) | (go_at_call 59; (with_reducible refine (F7.out _ (HX.out.env HE.out)).mono ?_); rintro e w7 ⟨rfl, hb7⟩; have HY := Lib.hid (HX.out.step hb7); clear hb7))
      go_roundw
      case rel => exact ⟨8, by omega, rfl, HY⟩
      case measure => simp [intOf]
    · rw [show ((8 : Nat) : Int) = 8 from rfl]
      have ci : wr.cell? ⟨B, 8, none⟩ = some (.int .u64 v8) := HW.out.b.at 8
      go_wp2_with (first | (go_at_call 57; (with_reducible refine (H8.out _ (HW.out.env HE.out)).mono ?_); rintro e w6 ⟨rfl, hb6⟩; have HX := Lib.hid (HW.out.step hb6); clear hb6) | (go_at_call 59; (with_reducible refine (F8.out _ (HX.out.env HE.out)).mono ?_); rintro e w7 ⟨rfl, hb7⟩; have HY := Lib.hid (HX.out.step hb7); clear hb7))
      go_roundw
      case rel => exact ⟨9, by omega, rfl, HY⟩
      case measure => simp [intOf]
    · rw [show ((9 : Nat) : Int) = 9 from rfl]
      have ci : wr.cell? ⟨B, 9, none⟩ = some (.int .u64 v9) := HW.out.b.at 9
      go_wp2_with (first | (go_at_call 57; (with_reducible refine (H9.out _ (HW.out.env HE.out)).mono ?_); rintro e w6 ⟨rfl, hb6⟩; have HX := Lib.hid (HW.out.step hb6); clear hb6) | (go_at_call 59; (with_reducible refine (F9.out _ (HX.out.env HE.out)).mono ?_); rintro e w7 ⟨rfl, hb7⟩; have HY := Lib.hid (HX.out.step hb7); clear hb7))
      go_roundw
      case rel => exact ⟨10, by omega, rfl, HY⟩
      case measure => simp [intOf]
    · rw [show ((10 : Nat) : Int) = 10 from rfl]
      go_wp2_with (go_at_call 10; (with_reducible refine (HAW.out _ (HW.out.env HE.out)).mono ?_); rintro e w6 ⟨rfl, hb6⟩; have HX := Lib.hid (HW.out.step hb6); clear hb6)
      go_ret
      exact ⟨rfl, hB ▸ HX.out.bl⟩
set_option maxHeartbeats 40000000 in
theorem words_large (a b : Nat) (ha : a < 18446744073709551616) (hb : b < 18446744073709551616) (h0 : 0 < b) (h64 : 64 ≤ b) (w : World) (he : Env w) (haw : AwakeOk) :
    Calls Tryz.prog 7 #[.int .u64 a, .int .u64 b] w fun e w' => e = .returned (.bool true) ∧ Below w.heap.size w w' := by
  obtain ⟨B, hB⟩ : ∃ B, w.heap.size = B := ⟨_, rfl⟩
  have HE := Lib.hid (show Env w ∧ w.heap.size = B from ⟨he, hB⟩)
  have HAW := Lib.hid haw
  clear he haw
  obtain ⟨v0, e0⟩ : ∃ v, opW 0 a b = v := ⟨_, rfl⟩
  have l0 := opW_lt 0 a b ha hb
  have H0 := Lib.hid (fun W (h : Env W) => Bits0_ok a b 64 ha hb (by omega) (by omega) (le_ones ha) (le_ones hb) W h.tab v0 l0 (by rw [and_ones l0]; exact e0))
  rw [e0] at l0
  have F0 := Lib.hid (fun W (h : Env W) => FormatUint_any v0 l0 W h.tab)
  obtain ⟨v1, e1⟩ : ∃ v, opW 1 a b = v := ⟨_, rfl⟩
  have l1 := opW_lt 1 a b ha hb
  have H1 := Lib.hid (fun W (h : Env W) => Bits1_ok a b 64 ha hb (by omega) (by omega) (le_ones ha) (le_ones hb) W h.tab v1 l1 (by rw [and_ones l1]; exact e1))
  rw [e1] at l1
  have F1 := Lib.hid (fun W (h : Env W) => FormatUint_any v1 l1 W h.tab)
  obtain ⟨v2, e2⟩ : ∃ v, opW 2 a b = v := ⟨_, rfl⟩
  have l2 := opW_lt 2 a b ha hb
  have H2 := Lib.hid (fun W (h : Env W) => Bits2_ok a b 64 ha hb (by omega) (by omega) (le_ones ha) (le_ones hb) W h.tab v2 l2 (by rw [and_ones l2]; exact e2))
  rw [e2] at l2
  have F2 := Lib.hid (fun W (h : Env W) => FormatUint_any v2 l2 W h.tab)
  obtain ⟨v3, e3⟩ : ∃ v, opW 3 a b = v := ⟨_, rfl⟩
  have l3 := opW_lt 3 a b ha hb
  have H3 := Lib.hid (fun W (h : Env W) => Bits3_ok a b 64 ha hb h0 (by omega) (by omega) (le_ones ha) (le_ones hb) W h.tab v3 l3 (by rw [and_ones l3]; exact e3))
  rw [e3] at l3
  have F3 := Lib.hid (fun W (h : Env W) => FormatUint_any v3 l3 W h.tab)
  obtain ⟨v4, e4⟩ : ∃ v, opW 4 a b = v := ⟨_, rfl⟩
  have l4 := opW_lt 4 a b ha hb
  have H4 := Lib.hid (fun W (h : Env W) => Bits4_ok a b 64 ha hb h0 (by omega) (by omega) (le_ones ha) (le_ones hb) W h.tab v4 l4 (by rw [and_ones l4]; exact e4))
  rw [e4] at l4
  have F4 := Lib.hid (fun W (h : Env W) => FormatUint_any v4 l4 W h.tab)
  obtain ⟨v5, e5⟩ : ∃ v, opW 5 a b = v := ⟨_, rfl⟩
  have l5 := opW_lt 5 a b ha hb
  have H5 := Lib.hid (fun W (h : Env W) => Bits5_ok a b 64 ha hb (by omega) (by omega) (le_ones ha) (le_ones hb) W h.tab v5 l5 (by rw [and_ones l5]; exact e5))
  rw [e5] at l5
  have F5 := Lib.hid (fun W (h : Env W) => FormatUint_any v5 l5 W h.tab)
  obtain ⟨v6, e6⟩ : ∃ v, opW 6 a b = v := ⟨_, rfl⟩
  have l6 := opW_lt 6 a b ha hb
  have H6 := Lib.hid (fun W (h : Env W) => Bits6_ok a b 64 ha hb (by omega) (by omega) (le_ones ha) (le_ones hb) W h.tab v6 l6 (by rw [and_ones l6]; exact e6))
  rw [e6] at l6
  have F6 := Lib.hid (fun W (h : Env W) => FormatUint_any v6 l6 W h.tab)
  obtain ⟨v7, e7⟩ : ∃ v, opW 7 a b = v := ⟨_, rfl⟩
  have l7 := opW_lt 7 a b ha hb
  have H7 := Lib.hid (fun W (h : Env W) => Bits7_ok a b 64 ha hb (by omega) (by omega) (le_ones ha) (le_ones hb) W h.tab v7 l7 (by rw [and_ones l7]; exact e7))
  rw [e7] at l7
  have F7 := Lib.hid (fun W (h : Env W) => FormatUint_any v7 l7 W h.tab)
  obtain ⟨v8, e8⟩ : ∃ v, opW 8 a b = v := ⟨_, rfl⟩
  have l8 := opW_lt 8 a b ha hb
  have H8 := Lib.hid (fun W (h : Env W) => Bits8_ok a b 64 ha hb (by omega) (by omega) (le_ones ha) (le_ones hb) W h.tab v8 l8 (by rw [and_ones l8]; exact e8))
  rw [e8] at l8
  have F8 := Lib.hid (fun W (h : Env W) => FormatUint_any v8 l8 W h.tab)
  obtain ⟨v9, e9⟩ : ∃ v, opW 9 a b = v := ⟨_, rfl⟩
  have l9 := opW_lt 9 a b ha hb
  have H9 := Lib.hid (fun W (h : Env W) => Bits9_ok a b 64 ha hb (by omega) (by omega) (le_ones ha) (le_ones hb) W h.tab v9 l9 (by rw [and_ones l9]; exact e9))
  rw [e9] at l9
  have F9 := Lib.hid (fun W (h : Env W) => FormatUint_any v9 l9 W h.tab)
  have FA := Lib.hid (fun W (h : Env W) => FormatUint_any a ha W h.tab)
  have FB := Lib.hid (fun W (h : Env W) => FormatUint_any b hb W h.tab)
  simp only [show ∀ n, numeral false n = Lib.decDigits n from fun _ => rfl, show ((64 : Nat) : Int) = 64 from rfl] at H0 H1 H2 H3 H4 H5 H6 H7 H8 H9
  have x0 : IntKind.u64.wrap ((a : Int) + b) = v0 := by rw [IntKind.wrap_u64, ← e0]; show _ = (((a + b) % 18446744073709551616 : Nat) : Int); omega
  have x1 : IntKind.u64.wrap ((a : Int) - b) = v1 := by rw [IntKind.wrap_u64, ← e1]; show _ = (((a + (18446744073709551616 - b)) % 18446744073709551616 : Nat) : Int); omega
  have x2 : IntKind.u64.wrap ((a : Int) * b) = v2 := by rw [IntKind.wrap_u64, ← e2]; show _ = ((a * b % 18446744073709551616 : Nat) : Int); rw [Int.natCast_emod, Int.natCast_mul]; rfl
  have x5 : bits .and .u64 (a : Int) b = v5 := by rw [← e5]; exact bits_and_u64_nat a b ha hb
  have x6 : bits .or .u64 (a : Int) b = v6 := by rw [← e6]; exact bits_or_u64_nat a b ha hb
  have x7 : bits .xor .u64 (a : Int) b = v7 := by rw [← e7]; exact bits_xor_u64_nat a b ha hb
  have X3 := Lib.hid (show IntKind.u64.wrap ((a : Int) / b) = v3 by rw [← e3] at l3 ⊢; rw [IntKind.wrap_u64]; show ((a / b : Nat) : Int) % _ = ((a / b : Nat) : Int); have h : a / b ≤ a := Nat.div_le_self _ _; obtain ⟨q, hq⟩ : ∃ q, a / b = q := ⟨_, rfl⟩; rw [hq] at h ⊢; omega)
  have X4 := Lib.hid (show ((a : Int).tmod b) = v4 by rw [← e4]; rfl)
  obtain rfl : v8 = 0 := by rw [← e8]; show a * 2 ^ min b 64 % 18446744073709551616 = 0; rw [Nat.min_eq_right (by omega)]; exact Nat.mul_mod_left _ _
  obtain rfl : v9 = 0 := by rw [← e9]; show a / 2 ^ min b 64 = 0; rw [Nat.min_eq_right (by omega)]; exact Nat.div_eq_of_lt ha
  simp only [show ((0 : Nat) : Int) = 0 from rfl] at F8 F9
  have E8 := Lib.hid e8
  have E9 := Lib.hid e9
  clear e0 e1 e2 e3 e4 e5 e6 e7 e8 e9
  obtain ⟨W, hW⟩ : ∃ W, w.alloc (.cells #[.int .u64 v0, .int .u64 v1, .int .u64 v2, .int .u64 0, .int .u64 0, .int .u64 v5, .int .u64 v6, .int .u64 v7, .int .u64 0, .int .u64 0] 57) = W := ⟨_, rfl⟩
  have HD := Lib.hid (show Wd w B (ten v0 v1 v2 0 0 v5 v6 v7 0 0) W by rw [← hW]; exact ⟨by rw [← hB]; exact BlockIs.new _ _ _, (Below.refl _ _).alloc (by omega) _⟩)
  have hbn : ((b : Int) != 0) = true := by simp; omega
  go_enter Tryz.func7, Tryz.ntmps7
  go_wp2_with fail
  clear x0 x1 x2 x5 x6 x7 hW
  have hH0 := HD.out.drew
  obtain ⟨Wr, hWr⟩ : ∃ x, W.drew = x := ⟨_, rfl⟩
  rw [hWr] at hH0
  refine wp_region_held_drew (S := fun w' => ∃ x y, Wd w B (ten v0 v1 v2 x y v5 v6 v7 0 0) w') (by kernel_rfl) (by rw [hWr]; exact ⟨_, _, hH0⟩) (fun hS => ?_)
  rw [hWr] at hS ⊢
  clear hWr
  refine wpAnyH_take (i := 0) (v := .slice (some ⟨B, 0, none⟩) 10 10) rfl (by kernel_rfl) (by kernel_rfl) (by kernel_rfl) (fun _ _ _ h => h) (Or.inl ⟨by rfl, fun w' _ => by rfl⟩) hS ?_
  try simp only [A1, A2, A3, Act.put, A4, A5, A6]
  refine wpAnyH_take (i := 1) (v := .slice (some ⟨B, 0, none⟩) 10 10) rfl (by kernel_rfl) (by kernel_rfl) (by kernel_rfl) (fun _ _ _ h => h) (Or.inl ⟨by rfl, fun w' _ => by rfl⟩) hS ?_
  try simp only [A1, A2, A3, Act.put, A4, A5, A6]
  refine wpAnyH_take (i := 2) (v := .int .u64 a) rfl (by kernel_rfl) (by kernel_rfl) (by kernel_rfl) (fun _ _ _ h => h) (Or.inl ⟨by rfl, fun w' _ => by rfl⟩) hS ?_
  try simp only [A1, A2, A3, Act.put, A4, A5, A6]
  refine wpAnyH_take (i := 3) (v := .int .u64 b) rfl (by kernel_rfl) (by kernel_rfl) (by kernel_rfl) (fun _ _ _ h => h) (Or.inl ⟨by rfl, fun w' _ => by rfl⟩) hS ?_
  try simp only [A1, A2, A3, Act.put, A4, A5, A6]
  refine wpAnyH_take (i := 4) (v := .int .u64 v3) rfl (by kernel_rfl) (by kernel_rfl) (by kernel_rfl) (fun _ _ _ h => h) (Or.inl ⟨by rfl, fun w' _ => by go_simp; rw [if_neg (by omega), X3.out]⟩) hS ?_
  try simp only [A1, A2, A3, Act.put, A4, A5, A6]
  refine wpAnyH_take (i := 5) (v := .int .u64 a) rfl (by kernel_rfl) (by kernel_rfl) (by kernel_rfl) (fun _ _ _ h => h) (Or.inl ⟨by rfl, fun w' _ => by rfl⟩) hS ?_
  try simp only [A1, A2, A3, Act.put, A4, A5, A6]
  refine wpAnyH_take (i := 6) (v := .int .u64 b) rfl (by kernel_rfl) (by kernel_rfl) (by kernel_rfl) (fun _ _ _ h => h) (Or.inl ⟨by rfl, fun w' _ => by rfl⟩) hS ?_
  try simp only [A1, A2, A3, Act.put, A4, A5, A6]
  refine wpAnyH_take (i := 7) (v := .int .u64 v4) rfl (by kernel_rfl) (by kernel_rfl) (by kernel_rfl) (fun _ _ _ h => h) (Or.inl ⟨by rfl, fun w' _ => by go_simp; rw [if_neg (by omega), X4.out]⟩) hS ?_
  try simp only [A1, A2, A3, Act.put, A4, A5, A6]
  refine wpAnyH_take (i := 8) (v := .pointer (some ⟨B, 3, none⟩)) rfl (by kernel_rfl) (by kernel_rfl) (by kernel_rfl) (fun _ _ _ h => h) (Or.inl ⟨by rfl, fun w' _ => by go_simp⟩) hS ?_
  try simp only [A1, A2, A3, Act.put, A4, A5, A6]
  have c3 : Wr.cell? ⟨B, 3, none⟩ = some (.int .u64 0) := hH0.b.at 3
  have g3 : Wr.frozen? ⟨B, 3, none⟩ = false := hH0.b.thawed 3
  refine wpAnyH_ready (rs := [9]) (by kernel_rfl) (by simp) (AllReadyH.cons rfl (fun K hK => ?_) AllReadyH.nil)
  rw [if_pos (by rfl)]
  go_simp
  have hH1 := hH0.put3 v3
  clear hS
  refine hK.out _ _ ⟨_, _, hH1⟩ (fun hS => ?_)
  clear hK K
  refine wpAnyH_take (i := 10) (v := .pointer (some ⟨B, 4, none⟩)) rfl (by kernel_rfl) (by kernel_rfl) (by kernel_rfl) (fun _ _ _ h => h) (Or.inl ⟨by rfl, fun w' _ => by go_simp⟩) hS ?_
  try simp only [A1, A2, A3, Act.put, A4, A5, A6]
  obtain ⟨U, hU⟩ : ∃ U, Wr.setCell ⟨B, 3, none⟩ (.int .u64 v3) = U := ⟨_, rfl⟩
  rw [hU] at hH1 hS ⊢
  clear hU c3 g3
  have c4 : U.cell? ⟨B, 4, none⟩ = some (.int .u64 0) := hH1.b.at 4
  have g4 : U.frozen? ⟨B, 4, none⟩ = false := hH1.b.thawed 4
  refine wpAnyH_ready (rs := [11]) (by kernel_rfl) (by simp) (AllReadyH.cons rfl (fun K hK => ?_) AllReadyH.nil)
  rw [if_pos (by rfl)]
  go_simp
  have hH2 := hH1.put4 v4
  clear hS
  refine hK.out _ _ ⟨_, _, hH2⟩ (fun hS => ?_)
  clear hK K hS
  refine wpAnyH_done (by kernel_rfl) ?_ _
  obtain ⟨U2, hU2⟩ : ∃ U2, U.setCell ⟨B, 4, none⟩ (.int .u64 v4) = U2 := ⟨_, rfl⟩
  rw [hU2] at hH2 ⊢
  clear hU2 c4 g4
  have HW := Lib.hid hH2
  clear hH0 hH1 hH2 HD
  have HV := HW
  clear HW
  have hb64 : decide ((b : Int) < 64) = false := by simp; omega
  skip
  go_wp2_with ((first | (with_reducible refine (FA.out _ (HV.out.env HE.out)).mono ?_) | (with_reducible refine (FB.out _ (HV.out.env HE.out)).mono ?_)); rintro e w6 ⟨rfl, hb6⟩; replace HV := Lib.hid (HV.out.step hb6); clear hb6)
  clear  hb64 hbn
  go_loopw [61] (fun x wr => ∃ i : Nat, i ≤ 10 ∧ x = .int .i64 i ∧ Hid (Wd w B (ten v0 v1 v2 v3 v4 v5 v6 v7 0 0) wr)) (fun x _ => 10 - (intOf x).toNat)
  case atStart => exact ⟨0, by omega, rfl, HV⟩
  case round =>
    clear HV
    obtain ⟨i, hi, rfl, HW⟩ := hrel
    have h11 : i = 0 ∨ i = 1 ∨ i = 2 ∨ i = 3 ∨ i = 4 ∨ i = 5 ∨ i = 6 ∨ i = 7 ∨ i = 8 ∨ i = 9 ∨ i = 10 := by omega
    clear hi
    rcases h11 with rfl | rfl | rfl | rfl | rfl | rfl | rfl | rfl | rfl | rfl | rfl
    · rw [show ((0 : Nat) : Int) = 0 from rfl]
      have ci : wr.cell? ⟨B, 0, none⟩ = some (.int .u64 v0) := HW.out.b.at 0
      go_wp2_with (first | (go_at_call 57; (with_reducible refine (H0.out _ (HW.out.env HE.out)).mono ?_); rintro e w6 ⟨rfl, hb6⟩; have HX := Lib.hid (HW.out.step hb6); clear hb6) | (go_at_call 59; (with_reducible refine (F0.out _ (HX.out.env HE.out)).mono ?_); rintro e w7 ⟨rfl, hb7⟩; have HY := Lib.hid (HX.out.step hb7); clear hb7))
      go_roundw
      case rel => exact ⟨1, by omega, rfl, HY⟩
      case measure => simp [intOf]
    · rw [show ((1 : Nat) : Int) = 1 from rfl]
      have ci : wr.cell? ⟨B, 1, none⟩ = some (.int .u64 v1) := HW.out.b.at 1
      go_wp2_with (first | (go_at_call 57; (with_reducible refine (H1.out _ (HW.out.env HE.out)).mono ?_); rintro e w6 ⟨rfl, hb6⟩; have HX := Lib.hid (HW.out.step hb6); clear hb6) | (go_at_call 59; (with_reducible refine (F1.out _ (HX.out.env HE.out)).mono ?_); rintro e w7 ⟨rfl, hb7⟩; have HY := Lib.hid (HX.out.step hb7); clear hb7))
      go_roundw
      case rel => exact ⟨2, by omega, rfl, HY⟩
      case measure => simp [intOf]
    · rw [show ((2 : Nat) : Int) = 2 from rfl]
      have ci : wr.cell? ⟨B, 2, none⟩ = some (.int .u64 v2) := HW.out.b.at 2
      go_wp2_with (first | (go_at_call 57; (with_reducible refine (H2.out _ (HW.out.env HE.out)).mono ?_); rintro e w6 ⟨rfl, hb6⟩; have HX := Lib.hid (HW.out.step hb6); clear hb6) | (go_at_call 59; (with_reducible refine (F2.out _ (HX.out.env HE.out)).mono ?_); rintro e w7 ⟨rfl, hb7⟩; have HY := Lib.hid (HX.out.step hb7); clear hb7))
      go_roundw
      case rel => exact ⟨3, by omega, rfl, HY⟩
      case measure => simp [intOf]
    · rw [show ((3 : Nat) : Int) = 3 from rfl]
      have hbe : ((b : Int) == 0) = false := by simp; omega
      have ci : wr.cell? ⟨B, 3, none⟩ = some (.int .u64 v3) := HW.out.b.at 3
      go_wp2_with (first | (go_at_call 57; (with_reducible refine (H3.out _ (HW.out.env HE.out)).mono ?_); rintro e w6 ⟨rfl, hb6⟩; have HX := Lib.hid (HW.out.step hb6); clear hb6) | (go_at_call 59; (with_reducible refine (F3.out _ (HX.out.env HE.out)).mono ?_); rintro e w7 ⟨rfl, hb7⟩; have HY := Lib.hid (HX.out.step hb7); clear hb7))
      go_roundw
      case rel => exact ⟨4, by omega, rfl, HY⟩
      case measure => simp [intOf]
    · rw [show ((4 : Nat) : Int) = 4 from rfl]
      have hbe : ((b : Int) == 0) = false := by simp; omega
      have ci : wr.cell? ⟨B, 4, none⟩ = some (.int .u64 v4) := HW.out.b.at 4
      go_wp2_with (first | (go_at_call 57; (with_reducible refine (H4.out _ (HW.out.env HE.out)).mono ?_); rintro e w6 ⟨rfl, hb6⟩; have HX := Lib.hid (HW.out.step hb6); clear hb6) | (go_at_call 59; (with_reducible refine (F4.out _ (HX.out.env HE.out)).mono ?_); rintro e w7 ⟨rfl, hb7⟩; have HY := Lib.hid (HX.out.step hb7); clear hb7))
      go_roundw
      case rel => exact ⟨5, by omega, rfl, HY⟩
      case measure => simp [intOf]
    · rw [show ((5 : Nat) : Int) = 5 from rfl]
      have ci : wr.cell? ⟨B, 5, none⟩ = some (.int .u64 v5) := HW.out.b.at 5
      go_wp2_with (first | (go_at_call 57; (with_reducible refine (H5.out _ (HW.out.env HE.out)).mono ?_); rintro e w6 ⟨rfl, hb6⟩; have HX := Lib.hid (HW.out.step hb6); clear hb6) | (go_at_call 59; (with_reducible refine (F5.out _ (HX.out.env HE.out)).mono ?_); rintro e w7 ⟨rfl, hb7⟩; have HY := Lib.hid (HX.out.step hb7); clear hb7))
      go_roundw
      case rel => exact ⟨6, by omega, rfl, HY⟩
      case measure => simp [intOf]
    · rw [show ((6 : Nat) : Int) = 6 from rfl]
      have ci : wr.cell? ⟨B, 6, none⟩ = some (.int .u64 v6) := HW.out.b.at 6
      go_wp2_with (first | (go_at_call 57; (with_reducible refine (H6.out _ (HW.out.env HE.out)).mono ?_); rintro e w6 ⟨rfl, hb6⟩; have HX := Lib.hid (HW.out.step hb6); clear hb6) | (go_at_call 59; (with_reducible refine (F6.out _ (HX.out.env HE.out)).mono ?_); rintro e w7 ⟨rfl, hb7⟩; have HY := Lib.hid (HX.out.step hb7); clear hb7))
      go_roundw
      case rel => exact ⟨7, by omega, rfl, HY⟩
      case measure => simp [intOf]
    · rw [show ((7 : Nat) : Int) = 7 from rfl]
      have ci : wr.cell? ⟨B, 7, none⟩ = some (.int .u64 v7) := HW.out.b.at 7
      go_wp2_with (first | (go_at_call 57; (with_reducible refine (H7.out _ (HW.out.env HE.out)).mono ?_); rintro e w6 ⟨rfl, hb6⟩; have HX := Lib.hid (HW.out.step hb6); clear hb6) | (go_at_call 59; (with_reducible refine (F7.out _ (HX.out.env HE.out)).mono ?_); rintro e w7 ⟨rfl, hb7⟩; have HY := Lib.hid (HX.out.step hb7); clear hb7))
      go_roundw
      case rel => exact ⟨8, by omega, rfl, HY⟩
      case measure => simp [intOf]
    · rw [show ((8 : Nat) : Int) = 8 from rfl]
      have ci : wr.cell? ⟨B, 8, none⟩ = some (.int .u64 0) := HW.out.b.at 8
      go_wp2_with (first | (go_at_call 57; (with_reducible refine (H8.out _ (HW.out.env HE.out)).mono ?_); rintro e w6 ⟨rfl, hb6⟩; have HX := Lib.hid (HW.out.step hb6); clear hb6) | (go_at_call 59; (with_reducible refine (F8.out _ (HX.out.env HE.out)).mono ?_); rintro e w7 ⟨rfl, hb7⟩; have HY := Lib.hid (HX.out.step hb7); clear hb7))
      go_roundw
      case rel => exact ⟨9, by omega, rfl, HY⟩
      case measure => simp [intOf]
    · rw [show ((9 : Nat) : Int) = 9 from rfl]
      have ci : wr.cell? ⟨B, 9, none⟩ = some (.int .u64 0) := HW.out.b.at 9
      go_wp2_with (first | (go_at_call 57; (with_reducible refine (H9.out _ (HW.out.env HE.out)).mono ?_); rintro e w6 ⟨rfl, hb6⟩; have HX := Lib.hid (HW.out.step hb6); clear hb6) | (go_at_call 59; (with_reducible refine (F9.out _ (HX.out.env HE.out)).mono ?_); rintro e w7 ⟨rfl, hb7⟩; have HY := Lib.hid (HX.out.step hb7); clear hb7))
      go_roundw
      case rel => exact ⟨10, by omega, rfl, HY⟩
      case measure => simp [intOf]
    · rw [show ((10 : Nat) : Int) = 10 from rfl]
      go_wp2_with (go_at_call 10; (with_reducible refine (HAW.out _ (HW.out.env HE.out)).mono ?_); rintro e w6 ⟨rfl, hb6⟩; have HX := Lib.hid (HW.out.step hb6); clear hb6)
      go_ret
      exact ⟨rfl, hB ▸ HX.out.bl⟩
set_option maxHeartbeats 40000000 in
theorem words_zero (a b : Nat) (ha : a < 18446744073709551616) (hb : b < 18446744073709551616) (h0 : b ≤ 0) (h64 : b < 64) (w : World) (he : Env w) (haw : AwakeOk) :
    Calls Tryz.prog 7 #[.int .u64 a, .int .u64 b] w fun e w' => e = .returned (.bool true) ∧ Below w.heap.size w w' := by
  obtain ⟨B, hB⟩ : ∃ B, w.heap.size = B := ⟨_, rfl⟩
  have HE := Lib.hid (show Env w ∧ w.heap.size = B from ⟨he, hB⟩)
  have HAW := Lib.hid haw
  clear he haw
  obtain ⟨v0, e0⟩ : ∃ v, opW 0 a b = v := ⟨_, rfl⟩
  have l0 := opW_lt 0 a b ha hb
  have H0 := Lib.hid (fun W (h : Env W) => Bits0_ok a b 64 ha hb (by omega) (by omega) (le_ones ha) (le_ones hb) W h.tab v0 l0 (by rw [and_ones l0]; exact e0))
  rw [e0] at l0
  have F0 := Lib.hid (fun W (h : Env W) => FormatUint_any v0 l0 W h.tab)
  obtain ⟨v1, e1⟩ : ∃ v, opW 1 a b = v := ⟨_, rfl⟩
  have l1 := opW_lt 1 a b ha hb
  have H1 := Lib.hid (fun W (h : Env W) => Bits1_ok a b 64 ha hb (by omega) (by omega) (le_ones ha) (le_ones hb) W h.tab v1 l1 (by rw [and_ones l1]; exact e1))
  rw [e1] at l1
  have F1 := Lib.hid (fun W (h : Env W) => FormatUint_any v1 l1 W h.tab)
  obtain ⟨v2, e2⟩ : ∃ v, opW 2 a b = v := ⟨_, rfl⟩
  have l2 := opW_lt 2 a b ha hb
  have H2 := Lib.hid (fun W (h : Env W) => Bits2_ok a b 64 ha hb (by omega) (by omega) (le_ones ha) (le_ones hb) W h.tab v2 l2 (by rw [and_ones l2]; exact e2))
  rw [e2] at l2
  have F2 := Lib.hid (fun W (h : Env W) => FormatUint_any v2 l2 W h.tab)
  have H3 := Lib.hid (fun W (_ : Env W) => Bits3_zero a b 64 ha hb (by omega) (by omega) (by omega) (le_ones ha) (le_ones hb) W)
  have H4 := Lib.hid (fun W (_ : Env W) => Bits4_zero a b 64 ha hb (by omega) (by omega) (by omega) (le_ones ha) (le_ones hb) W)
  obtain ⟨v5, e5⟩ : ∃ v, opW 5 a b = v := ⟨_, rfl⟩
  have l5 := opW_lt 5 a b ha hb
  have H5 := Lib.hid (fun W (h : Env W) => Bits5_ok a b 64 ha hb (by omega) (by omega) (le_ones ha) (le_ones hb) W h.tab v5 l5 (by rw [and_ones l5]; exact e5))
  rw [e5] at l5
  have F5 := Lib.hid (fun W (h : Env W) => FormatUint_any v5 l5 W h.tab)
  obtain ⟨v6, e6⟩ : ∃ v, opW 6 a b = v := ⟨_, rfl⟩
  have l6 := opW_lt 6 a b ha hb
  have H6 := Lib.hid (fun W (h : Env W) => Bits6_ok a b 64 ha hb (by omega) (by omega) (le_ones ha) (le_ones hb) W h.tab v6 l6 (by rw [and_ones l6]; exact e6))
  rw [e6] at l6
  have F6 := Lib.hid (fun W (h : Env W) => FormatUint_any v6 l6 W h.tab)
  obtain ⟨v7, e7⟩ : ∃ v, opW 7 a b = v := ⟨_, rfl⟩
  have l7 := opW_lt 7 a b ha hb
  have H7 := Lib.hid (fun W (h : Env W) => Bits7_ok a b 64 ha hb (by omega) (by omega) (le_ones ha) (le_ones hb) W h.tab v7 l7 (by rw [and_ones l7]; exact e7))
  rw [e7] at l7
  have F7 := Lib.hid (fun W (h : Env W) => FormatUint_any v7 l7 W h.tab)
  obtain ⟨v8, e8⟩ : ∃ v, opW 8 a b = v := ⟨_, rfl⟩
  have l8 := opW_lt 8 a b ha hb
  have H8 := Lib.hid (fun W (h : Env W) => Bits8_ok a b 64 ha hb (by omega) (by omega) (le_ones ha) (le_ones hb) W h.tab v8 l8 (by rw [and_ones l8]; exact e8))
  rw [e8] at l8
  have F8 := Lib.hid (fun W (h : Env W) => FormatUint_any v8 l8 W h.tab)
  obtain ⟨v9, e9⟩ : ∃ v, opW 9 a b = v := ⟨_, rfl⟩
  have l9 := opW_lt 9 a b ha hb
  have H9 := Lib.hid (fun W (h : Env W) => Bits9_ok a b 64 ha hb (by omega) (by omega) (le_ones ha) (le_ones hb) W h.tab v9 l9 (by rw [and_ones l9]; exact e9))
  rw [e9] at l9
  have F9 := Lib.hid (fun W (h : Env W) => FormatUint_any v9 l9 W h.tab)
  have FA := Lib.hid (fun W (h : Env W) => FormatUint_any a ha W h.tab)
  have FB := Lib.hid (fun W (h : Env W) => FormatUint_any b hb W h.tab)
  simp only [show ∀ n, numeral false n = Lib.decDigits n from fun _ => rfl, show ((64 : Nat) : Int) = 64 from rfl] at H0 H1 H2 H3 H4 H5 H6 H7 H8 H9
  have x0 : IntKind.u64.wrap ((a : Int) + b) = v0 := by rw [IntKind.wrap_u64, ← e0]; show _ = (((a + b) % 18446744073709551616 : Nat) : Int); omega
  have x1 : IntKind.u64.wrap ((a : Int) - b) = v1 := by rw [IntKind.wrap_u64, ← e1]; show _ = (((a + (18446744073709551616 - b)) % 18446744073709551616 : Nat) : Int); omega
  have x2 : IntKind.u64.wrap ((a : Int) * b) = v2 := by rw [IntKind.wrap_u64, ← e2]; show _ = ((a * b % 18446744073709551616 : Nat) : Int); rw [Int.natCast_emod, Int.natCast_mul]; rfl
  have x5 : bits .and .u64 (a : Int) b = v5 := by rw [← e5]; exact bits_and_u64_nat a b ha hb
  have x6 : bits .or .u64 (a : Int) b = v6 := by rw [← e6]; exact bits_or_u64_nat a b ha hb
  have x7 : bits .xor .u64 (a : Int) b = v7 := by rw [← e7]; exact bits_xor_u64_nat a b ha hb
  have E8 := Lib.hid e8
  have E9 := Lib.hid e9
  clear e0 e1 e2 e5 e6 e7 e8 e9
  obtain ⟨W, hW⟩ : ∃ W, w.alloc (.cells #[.int .u64 v0, .int .u64 v1, .int .u64 v2, .int .u64 0, .int .u64 0, .int .u64 v5, .int .u64 v6, .int .u64 v7, .int .u64 0, .int .u64 0] 57) = W := ⟨_, rfl⟩
  have HD := Lib.hid (show Wd w B (ten v0 v1 v2 0 0 v5 v6 v7 0 0) W by rw [← hW]; exact ⟨by rw [← hB]; exact BlockIs.new _ _ _, (Below.refl _ _).alloc (by omega) _⟩)
  have hbn : ((b : Int) != 0) = false := by simp; omega
  go_enter Tryz.func7, Tryz.ntmps7
  have HW := HD
  obtain ⟨U3, hU3⟩ : ∃ x, W.setCell ⟨B, 8, none⟩ (.int .u64 v8) = x := ⟨_, rfl⟩
  obtain ⟨U4, hU4⟩ : ∃ x, U3.setCell ⟨B, 9, none⟩ (.int .u64 v9) = x := ⟨_, rfl⟩
  have h3 := HW.out.put8 v8
  rw [hU3] at h3
  have h4 := h3.put9 v9
  rw [hU4] at h4
  have c8 : W.cell? ⟨B, 8, none⟩ = some (.int .u64 0) := HW.out.b.at 8
  have g8 : W.frozen? ⟨B, 8, none⟩ = false := HW.out.b.thawed 8
  have c9 : U3.cell? ⟨B, 9, none⟩ = some (.int .u64 0) := h3.b.at 9
  have g9 : U3.frozen? ⟨B, 9, none⟩ = false := h3.b.thawed 9
  have HV := Lib.hid h4
  clear h3 h4 HW
  have x8 : IntKind.u64.wrap ((a : Int) * 2 ^ b) = v8 := by rw [IntKind.wrap_u64, ← E8.out]; show _ = ((a * 2 ^ min b 64 % 18446744073709551616 : Nat) : Int); rw [Nat.min_eq_left (by omega), Int.natCast_emod, Int.natCast_mul, Int.natCast_pow]; rfl
  have x9 : ((a : Int) / 2 ^ b) = v9 := by rw [← E9.out]; show _ = ((a / 2 ^ min b 64 : Nat) : Int); rw [Nat.min_eq_left (by omega), Int.natCast_ediv, Int.natCast_pow]; rfl
  have hb64 : decide ((b : Int) < 64) = true := by simp; omega
  skip
  go_wp2_with ((first | (with_reducible refine (FA.out _ (HV.out.env HE.out)).mono ?_) | (with_reducible refine (FB.out _ (HV.out.env HE.out)).mono ?_)); rintro e w6 ⟨rfl, hb6⟩; replace HV := Lib.hid (HV.out.step hb6); clear hb6)
  clear x8 x9 c8 c9 g8 g9 hU3 hU4  hb64 hbn x0 x1 x2 x5 x6 x7 hW HD
  go_loopw [61] (fun x wr => ∃ i : Nat, i ≤ 10 ∧ x = .int .i64 i ∧ Hid (Wd w B (ten v0 v1 v2 0 0 v5 v6 v7 v8 v9) wr)) (fun x _ => 10 - (intOf x).toNat)
  case atStart => exact ⟨0, by omega, rfl, HV⟩
  case round =>
    clear HV
    obtain ⟨i, hi, rfl, HW⟩ := hrel
    have h11 : i = 0 ∨ i = 1 ∨ i = 2 ∨ i = 3 ∨ i = 4 ∨ i = 5 ∨ i = 6 ∨ i = 7 ∨ i = 8 ∨ i = 9 ∨ i = 10 := by omega
    clear hi
    rcases h11 with rfl | rfl | rfl | rfl | rfl | rfl | rfl | rfl | rfl | rfl | rfl
    · rw [show ((0 : Nat) : Int) = 0 from rfl]
      have hbe : ((b : Int) == 0) = true := by simp; omega
      have ci : wr.cell? ⟨B, 0, none⟩ = some (.int .u64 v0) := HW.out.b.at 0
      go_wp2_with (first | (go_at_call 57; (with_reducible refine (H0.out _ (HW.out.env HE.out)).mono ?_); rintro e w6 ⟨rfl, hb6⟩; have HX := Lib.hid (HW.out.step hb6); clear hb6) | (go_at_call 59; (with_reducible refine (F0.out _ (HX.out.env HE.out)).mono ?_); rintro e w7 ⟨rfl, hb7⟩; have HY := Lib.hid (HX.out.step hb7); clear hb7))
      go_roundw
      case rel => exact ⟨1, by omega, rfl, HY⟩
      case measure => simp [intOf]
    · rw [show ((1 : Nat) : Int) = 1 from rfl]
      have hbe : ((b : Int) == 0) = true := by simp; omega
      have ci : wr.cell? ⟨B, 1, none⟩ = some (.int .u64 v1) := HW.out.b.at 1
      go_wp2_with (first | (go_at_call 57; (with_reducible refine (H1.out _ (HW.out.env HE.out)).mono ?_); rintro e w6 ⟨rfl, hb6⟩; have HX := Lib.hid (HW.out.step hb6); clear hb6) | (go_at_call 59; (with_reducible refine (F1.out _ (HX.out.env HE.out)).mono ?_); rintro e w7 ⟨rfl, hb7⟩; have HY := Lib.hid (HX.out.step hb7); clear hb7))
      go_roundw
      case rel => exact ⟨2, by omega, rfl, HY⟩
      case measure => simp [intOf]
    · rw [show ((2 : Nat) : Int) = 2 from rfl]
      have hbe : ((b : Int) == 0) = true := by simp; omega
      have ci : wr.cell? ⟨B, 2, none⟩ = some (.int .u64 v2) := HW.out.b.at 2
      go_wp2_with (first | (go_at_call 57; (with_reducible refine (H2.out _ (HW.out.env HE.out)).mono ?_); rintro e w6 ⟨rfl, hb6⟩; have HX := Lib.hid (HW.out.step hb6); clear hb6) | (go_at_call 59; (with_reducible refine (F2.out _ (HX.out.env HE.out)).mono ?_); rintro e w7 ⟨rfl, hb7⟩; have HY := Lib.hid (HX.out.step hb7); clear hb7))
      go_roundw
      case rel => exact ⟨3, by omega, rfl, HY⟩
      case measure => simp [intOf]
    · rw [show ((3 : Nat) : Int) = 3 from rfl]
      have hbe : ((b : Int) == 0) = true := by simp; omega
      have ci : wr.cell? ⟨B, 3, none⟩ = some (.int .u64 0) := HW.out.b.at 3
      go_wp2_with (first | (go_at_call 57; (with_reducible refine (H3.out _ (HW.out.env HE.out)).mono ?_); rintro e w6 ⟨rfl, hb6⟩; have HX := Lib.hid (HW.out.step hb6); clear hb6) | (go_at_call 59; (with_reducible refine (F3.out _ (HX.out.env HE.out)).mono ?_); rintro e w7 ⟨rfl, hb7⟩; have HY := Lib.hid (HX.out.step hb7); clear hb7))
      go_roundw
      case rel => exact ⟨4, by omega, rfl, HX⟩
      case measure => simp [intOf]
    · rw [show ((4 : Nat) : Int) = 4 from rfl]
      have hbe : ((b : Int) == 0) = true := by simp; omega
      have ci : wr.cell? ⟨B, 4, none⟩ = some (.int .u64 0) := HW.out.b.at 4
      go_wp2_with (first | (go_at_call 57; (with_reducible refine (H4.out _ (HW.out.env HE.out)).mono ?_); rintro e w6 ⟨rfl, hb6⟩; have HX := Lib.hid (HW.out.step hb6); clear hb6) | (go_at_call 59; (with_reducible refine (F4.out _ (HX.out.env HE.out)).mono ?_); rintro e w7 ⟨rfl, hb7⟩; have HY := Lib.hid (HX.out.step hb7); clear hb7))
      go_roundw
      case rel => exact ⟨5, by omega, rfl, HX⟩
      case measure => simp [intOf]
    · rw [show ((5 : Nat) : Int) = 5 from rfl]
      have hbe : ((b : Int) == 0) = true := by simp; omega
      have ci : wr.cell? ⟨B, 5, none⟩ = some (.int .u64 v5) := HW.out.b.at 5
      go_wp2_with (first | (go_at_call 57; (with_reducible refine (H5.out _ (HW.out.env HE.out)).mono ?_); rintro e w6 ⟨rfl, hb6⟩; have HX := Lib.hid (HW.out.step hb6); clear hb6) | (go_at_call 59; (with_reducible refine (F5.out _ (HX.out.env HE.out)).mono ?_); rintro e w7 ⟨rfl, hb7⟩; have HY := Lib.hid (HX.out.step hb7); clear hb7))
      go_roundw
      case rel => exact ⟨6, by omega, rfl, HY⟩
      case measure => simp [intOf]
    · rw [show ((6 : Nat) : Int) = 6 from rfl]
      have hbe : ((b : Int) == 0) = true := by simp; omega
      have ci : wr.cell? ⟨B, 6, none⟩ = some (.int .u64 v6) := HW.out.b.at 6
      go_wp2_with (first | (go_at_call 57; (with_reducible refine (H6.out _ (HW.out.env HE.out)).mono ?_); rintro e w6 ⟨rfl, hb6⟩; have HX := Lib.hid (HW.out.step hb6); clear hb6) | (go_at_call 59; (with_reducible refine (F6.out _ (HX.out.env HE.out)).mono ?_); rintro e w7 ⟨rfl, hb7⟩; have HY := Lib.hid (HX.out.step hb7); clear hb7))
      go_roundw
      case rel => exact ⟨7, by omega, rfl, HY⟩
      case measure => simp [intOf]
    · rw [show ((7 : Nat) : Int) = 7 from rfl]
      have hbe : ((b : Int) == 0) = true := by simp; omega
      have ci : wr.cell? ⟨B, 7, none⟩ = some (.int .u64 v7) := HW.out.b.at 7
      go_wp2_with (first | (go_at_call 57; (with_reducible refine (H7.out _ (HW.out.env HE.out)).mono ?_); rintro e w6 ⟨rfl, hb6⟩; have HX := Lib.hid (HW.out.step hb6); clear hb6) | (go_at_call 59; (with_reducible refine (F7.out _ (HX.out.env HE.out)).mono ?_); rintro e w7 ⟨rfl, hb7⟩; have HY := Lib.hid (HX.out.step hb7); clear hb7))
      go_roundw
      case rel => exact ⟨8, by omega, rfl, HY⟩
      case measure => simp [intOf]
    · rw [show ((8 : Nat) : Int) = 8 from rfl]
      have hbe : ((b : Int) == 0) = true := by simp; omega
      have ci : wr.cell? ⟨B, 8, none⟩ = some (.int .u64 v8) := HW.out.b.at 8
      go_wp2_with (first | (go_at_call 57; (with_reducible refine (H8.out _ (HW.out.env HE.out)).mono ?_); rintro e w6 ⟨rfl, hb6⟩; have HX := Lib.hid (HW.out.step hb6); clear hb6) | (go_at_call 59; (with_reducible refine (F8.out _ (HX.out.env HE.out)).mono ?_); rintro e w7 ⟨rfl, hb7⟩; have HY := Lib.hid (HX.out.step hb7); clear hb7))
      go_roundw
      case rel => exact ⟨9, by omega, rfl, HY⟩
      case measure => simp [intOf]
    · rw [show ((9 : Nat) : Int) = 9 from rfl]
      have hbe : ((b : Int) == 0) = true := by simp; omega
      have ci : wr.cell? ⟨B, 9, none⟩ = some (.int .u64 v9) := HW.out.b.at 9
      go_wp2_with (first | (go_at_call 57; (with_reducible refine (H9.out _ (HW.out.env HE.out)).mono ?_); rintro e w6 ⟨rfl, hb6⟩; have HX := Lib.hid (HW.out.step hb6); clear hb6) | (go_at_call 59; (with_reducible refine (F9.out _ (HX.out.env HE.out)).mono ?_); rintro e w7 ⟨rfl, hb7⟩; have HY := Lib.hid (HX.out.step hb7); clear hb7))
      go_roundw
      case rel => exact ⟨10, by omega, rfl, HY⟩
      case measure => simp [intOf]
    · rw [show ((10 : Nat) : Int) = 10 from rfl]
      go_wp2_with (go_at_call 10; (with_reducible refine (HAW.out _ (HW.out.env HE.out)).mono ?_); rintro e w6 ⟨rfl, hb6⟩; have HX := Lib.hid (HW.out.step hb6); clear hb6)
      go_ret
      exact ⟨rfl, hB ▸ HX.out.bl⟩

theorem words_any (a b : Nat) (ha : a < 18446744073709551616) (hb : b < 18446744073709551616) (w : World) (he : Env w) (haw : AwakeOk) :
    Calls Tryz.prog 7 #[.int .u64 a, .int .u64 b] w fun e w' => e = .returned (.bool true) ∧ Below w.heap.size w w' := by
  by_cases h0 : b ≤ 0
  · exact words_zero a b ha hb h0 (by omega) w he haw
  · by_cases h64 : b < 64
    · exact words_mid a b ha hb (by omega) h64 w he haw
    · exact words_large a b ha hb (by omega) (by omega) w he haw
end Go.Proofs.YtojgafkkgacpkaaGreatDoor
