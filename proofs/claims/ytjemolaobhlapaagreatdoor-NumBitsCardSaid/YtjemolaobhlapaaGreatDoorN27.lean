/- strconv.FormatUint, FromInt; mask. -/
import Derived.Lib.AppendIntMem
import Derived.Test.YtjemolaobhlapaaGreatDoorN25
import Derived.Laws.Bits64
import Derived.Laws.Bits64b
set_option linter.unusedSimpArgs false
set_option linter.unusedVariables false
namespace Go.Proofs.YtjemolaobhlapaaGreatDoor
open Go.RowKit Go.Sort
set_option maxRecDepth 100000

/-- The table of powers of ten that package strconv reads. -/
abbrev Tab (w : World) : Prop := Lib.TabIs Tryz.prog w "internal/strconv.uint64pow10" .u64 Lib.pow10Tab
theorem Tab.below {N : Nat} {w w' : World} (h : Tab w) (hb : Below N w w') (hN : w.heap.size ≤ N) : Tab w' := by
  unfold Tab Lib.TabIs World.var? at h ⊢
  cases hg : Tryz.prog.globalNamed "internal/strconv.uint64pow10" with
  | none => rw [hg] at h; cases h
  | some g =>
    rw [hg] at h
    simp only [Option.bind_some] at h ⊢
    have hlt : g < w.heap.size := by
      rcases Nat.lt_or_ge g w.heap.size with h' | h'
      · exact h'
      · rw [Array.getElem?_eq_none h'] at h; cases h
    rw [hb.block g (by omega)]
    exact h

set_option maxHeartbeats 2000000 in
theorem formatUint_any (u : Nat) (hu64 : u < 18446744073709551616) (w : World) (htab : Tab w) :
    Calls Tryz.prog 121 #[.int .u64 u, .int .i64 10] w fun e w' => e = .returned (.string (bs (Lib.decDigits u))) ∧ Below w.heap.size w w' := by
  by_cases hs : u < 100
  · have h5 : IntKind.i64.wrap (u : Int) = u := IntWalk.i64_in (u : Int) (by omega)
    go_enter Tryz.func121, Tryz.ntmps121
    go_wp2_with (go_at_call 169; refine (Tryz.internal_strconv_small u hs _).mono ?_; rintro e w' ⟨rfl, rfl⟩)
    go_ret
    exact ⟨rfl, Below.refl _ _⟩
  · have hu1 : 1 ≤ u := by omega
    have hnd20 : Lib.nDigits u ≤ 20 := by have := Lib.numDigits_eq u hu1 hu64; split at this <;> omega
    have hdd : Lib.decDigits u = Lib.decDigits u := rfl
    have hal : Tryz.prog.arrayLen 172 = 24 := by kernel_rfl
    have hel : Tryz.prog.elem 172 = 5 := by kernel_rfl
    have hH0 := Lib.holds_zero0 w 172 (Lib.nDigits u) (by omega)
    have hfmt := Tryz.internal_strconv_formatBase10 w.heap.size 0 24 u (Array.replicate (Lib.nDigits u) 0) (w.alloc (.cells Lib.zeros24 172)) hH0 (by rw [Array.size_replicate]; exact Lib.lt_pow_nDigits u) hu64 (by rw [Array.size_replicate]; omega)
    rw [Array.size_replicate] at hfmt
    have HH0 := Lib.hid hH0
    have HNL := Lib.hid (Lib.decDigits_length u)
    have HT := Lib.hid (Lib.tabIs_alloc htab (.cells Lib.zeros24 172))
    have HND := Lib.hid (Tryz.internal_strconv_numDigits u hu1 hu64 (w.alloc (.cells Lib.zeros24 172)) HT.out)
    obtain ⟨D, hD⟩ : ∃ D, Lib.nDigits u = D := ⟨_, rfl⟩
    rw [hD] at HH0 HND hfmt hnd20 HNL
    have hsl : ∀ W, (Instr.sliceAt 172 (.pointer (some ⟨w.heap.size, 0, none⟩)) none (some (.int .i64 (D : Int))) none).run Tryz.prog W = .ok (.slice (some ⟨w.heap.size, 0, none⟩) D 24) W := fun W => by
      rw [run_sliceAt_array_h W 172 ⟨w.heap.size, 0, none⟩ (by rw [hal]; exact Tryz.underlying172) .i64 (D : Int) (by omega) (by rw [hal]; omega)]
      go_simp
    clear hal hel hD
    go_enter Tryz.func121, Tryz.ntmps121
    go_wp2_with (go_at_call 170; refine HND.out.mono ?_; rintro e w' ⟨rfl, rfl⟩)
    go_at_call 171
    refine hfmt.mono ?_
    rintro e w' ⟨rfl, k, v', dk, rfl, hF⟩
    have hcv : (convert 142 9 (.slice (some ⟨w.heap.size, 0, none⟩) D 24)).run Tryz.prog ((putRow (fun (b : UInt8) => Value.int .u8 (b.toNat : Int)) (w.alloc (.cells Lib.zeros24 172)) w.heap.size 0 dk).drewN k) = .ok (.string (bs (Lib.decDigits u))) ((putRow (fun (b : UInt8) => Value.int .u8 (b.toNat : Int)) (w.alloc (.cells Lib.zeros24 172)) w.heap.size 0 dk).drewN k) := by
      have h := run_convert_bytes_back (P := Tryz.prog) ((putRow (fun (b : UInt8) => Value.int .u8 (b.toNat : Int)) (w.alloc (.cells Lib.zeros24 172)) w.heap.size 0 dk).drewN k) 142 9 5 ⟨w.heap.size, 0, none⟩ 24 (Lib.decDigits u) Tryz.underlying142 Tryz.underlying5 Tryz.underlying9 (fun j hj => by
        have hF2 := hF
        rw [← HNL.out, Lib.decDigits_length] at hF2
        rw [Lib.row_is_numeral hF2 j hj, Lib.add_plain, World.cell?_drewN]
        exact cell?_putRow (fun (b : UInt8) => Value.int .u8 (b.toNat : Int)) _ w.heap.size 0 _ dk HH0.out (by rw [hF.size, Array.size_replicate]) j (by rw [hF.size]; rw [HNL.out] at hj; exact hj))
      rw [HNL.out] at h
      exact h
    obtain ⟨os, eo⟩ := Lib.fin_at w (.cells Lib.zeros24 172) dk k 0
    have HBW := Lib.hid (show Below w.heap.size w _ from Lib.below_grow w.heap.size w (Nat.le_refl _) k os)
    rw [← eo] at HBW
    obtain ⟨W3, hW3⟩ : ∃ W3, (putRow (fun (b : UInt8) => Value.int .u8 (b.toNat : Int)) (w.alloc (.cells Lib.zeros24 172)) w.heap.size 0 dk).drewN k = W3 := ⟨_, rfl⟩
    rw [hW3] at hcv HBW ⊢
    clear hW3 eo hF hfmt HH0 HND
    go_wp2
    go_ret
    exact ⟨rfl, HBW.out⟩

set_option maxHeartbeats 2000000 in
theorem FormatUint_any (u : Nat) (hu64 : u < 18446744073709551616) (w : World) (htab : Tab w) :
    Calls Tryz.prog 59 #[.int .u64 u, .int .i64 10] w fun e w' => e = .returned (.string (bs (Lib.decDigits u))) ∧ Below w.heap.size w w' := by
  have HF := Lib.hid (formatUint_any u hu64 w htab)
  clear htab
  go_enter Tryz.func59, Tryz.ntmps59
  go_wp2_with (go_at_call 121; refine HF.out.mono ?_; rintro e w' ⟨rfl, hb⟩)
  go_ret
  exact ⟨rfl, hb⟩

/-- width ones. -/
def ones (k : Nat) : Nat := 2 ^ k - 1
theorem ones_lt {k : Nat} (h : k ≤ 64) : ones k < 18446744073709551616 := by
  unfold ones
  have := Nat.pow_le_pow_right (show 0 < 2 by omega) h
  have h2 : 2 ^ 64 = 18446744073709551616 := rfl
  have := Nat.two_pow_pos k
  omega
theorem mask_step : ∀ i, i < 64 → bits .or .u64 (IntKind.u64.wrap ((ones i : Nat) * 2 : Int)) 1 = ((ones (i + 1) : Nat) : Int) := by decide +kernel
set_option maxHeartbeats 2000000 in
theorem mask_any (k : Nat) (hk : k ≤ 64) (w : World) :
    Calls Tryz.prog 113 #[.int .i64 k] w fun e w' => e = .returned (.int .u64 (ones k)) ∧ w' = w := by
  go_enter Tryz.func113, Tryz.ntmps113
  go_wp2
  go_loopw [3, 5] (fun x y wr => ∃ i m : Nat, i ≤ k ∧ x = .int .u64 m ∧ y = .int .i64 i ∧ Hid (m = ones i) ∧ wr = w) (fun _ y _ => k - (intOf y).toNat)
  case atStart => exact ⟨0, 0, by omega, rfl, rfl, Lib.hid rfl, rfl⟩
  case round =>
    obtain ⟨i, m, hi, rfl, rfl, HM, rfl⟩ := hrel
    by_cases h : i < k
    · have HO := Lib.hid (show bits .or .u64 (IntKind.u64.wrap ((m : Int) * 2)) 1 = ((ones (i + 1) : Nat) : Int) by rw [HM.out]; exact mask_step i (by omega))
      go_wp2
      all_goals exact ⟨⟨i + 1, ones (i + 1), by omega, by rw [HO.out], by simp, Lib.hid rfl, trivial⟩, by simp [intOf]; omega⟩
    · have h2 : i = k := by omega
      subst h2
      go_wp2
      all_goals go_ret
      all_goals exact ⟨ret_int (by rw [HM.out]), rfl⟩
end Go.Proofs.YtjemolaobhlapaaGreatDoor

namespace Go.Proofs.YtjemolaobhlapaaGreatDoor
open Go.RowKit
set_option maxRecDepth 100000

/-- The operation number i on words. -/
def opW (i a b : Nat) : Nat :=
  match i with
  | 0 => (a + b) % 18446744073709551616
  | 1 => (a + (18446744073709551616 - b)) % 18446744073709551616
  | 2 => a * b % 18446744073709551616
  | 3 => a / b
  | 4 => a % b
  | 5 => a &&& b
  | 6 => a ||| b
  | 7 => a ^^^ b
  | 8 => a * 2 ^ min b 64 % 18446744073709551616
  | _ => a / 2 ^ min b 64

theorem op0_any (a b : Nat) (ha : a < 18446744073709551616) (hb : b < 18446744073709551616) (w : World) :
    Calls Tryz.prog 159 #[.int .u64 a, .int .u64 b] w fun e w' => e = .returned (.int .u64 (opW 0 a b : Nat)) ∧ w' = w := by
  go_enter Tryz.func159, Tryz.ntmps159
  go_wp2
  all_goals go_ret
  all_goals exact ⟨ret_int (by rw [IntKind.wrap_u64]; show _ = (((a + b) % 18446744073709551616 : Nat) : Int); omega), rfl⟩

theorem op1_any (a b : Nat) (ha : a < 18446744073709551616) (hb : b < 18446744073709551616) (w : World) :
    Calls Tryz.prog 160 #[.int .u64 a, .int .u64 b] w fun e w' => e = .returned (.int .u64 (opW 1 a b : Nat)) ∧ w' = w := by
  go_enter Tryz.func160, Tryz.ntmps160
  go_wp2
  all_goals go_ret
  all_goals exact ⟨ret_int (by rw [IntKind.wrap_u64]; show _ = (((a + (18446744073709551616 - b)) % 18446744073709551616 : Nat) : Int); omega), rfl⟩

theorem op2_any (a b : Nat) (ha : a < 18446744073709551616) (hb : b < 18446744073709551616) (w : World) :
    Calls Tryz.prog 161 #[.int .u64 a, .int .u64 b] w fun e w' => e = .returned (.int .u64 (opW 2 a b : Nat)) ∧ w' = w := by
  go_enter Tryz.func161, Tryz.ntmps161
  go_wp2
  all_goals go_ret
  all_goals exact ⟨ret_int (by rw [IntKind.wrap_u64]; show _ = ((a * b % 18446744073709551616 : Nat) : Int); rw [Int.natCast_emod, Int.natCast_mul]; rfl), rfl⟩

theorem op3_any (a b : Nat) (ha : a < 18446744073709551616) (hb : b < 18446744073709551616) (h0 : 0 < b) (w : World) :
    Calls Tryz.prog 162 #[.int .u64 a, .int .u64 b] w fun e w' => e = .returned (.int .u64 (opW 3 a b : Nat)) ∧ w' = w := by
  go_enter Tryz.func162, Tryz.ntmps162
  go_wp2
  all_goals go_ret
  all_goals exact ⟨ret_int (by rw [IntKind.wrap_u64]; show _ = ((a / b : Nat) : Int); have h : a / b ≤ a := Nat.div_le_self _ _; have h2 : ((a : Int) / (b : Int)) = ((a / b : Nat) : Int) := rfl; rw [h2]; obtain ⟨q, hq⟩ : ∃ q, a / b = q := ⟨_, rfl⟩; rw [hq] at h ⊢; clear hq h2; omega), rfl⟩

theorem op4_any (a b : Nat) (ha : a < 18446744073709551616) (hb : b < 18446744073709551616) (h0 : 0 < b) (w : World) :
    Calls Tryz.prog 163 #[.int .u64 a, .int .u64 b] w fun e w' => e = .returned (.int .u64 (opW 4 a b : Nat)) ∧ w' = w := by
  go_enter Tryz.func163, Tryz.ntmps163
  go_wp2
  all_goals go_ret
  all_goals exact ⟨ret_int (by rfl), rfl⟩

theorem op5_any (a b : Nat) (ha : a < 18446744073709551616) (hb : b < 18446744073709551616) (w : World) :
    Calls Tryz.prog 164 #[.int .u64 a, .int .u64 b] w fun e w' => e = .returned (.int .u64 (opW 5 a b : Nat)) ∧ w' = w := by
  go_enter Tryz.func164, Tryz.ntmps164
  go_wp2
  all_goals go_ret
  all_goals exact ⟨ret_int (by exact bits_and_u64_nat a b ha hb), rfl⟩

theorem op6_any (a b : Nat) (ha : a < 18446744073709551616) (hb : b < 18446744073709551616) (w : World) :
    Calls Tryz.prog 165 #[.int .u64 a, .int .u64 b] w fun e w' => e = .returned (.int .u64 (opW 6 a b : Nat)) ∧ w' = w := by
  go_enter Tryz.func165, Tryz.ntmps165
  go_wp2
  all_goals go_ret
  all_goals exact ⟨ret_int (by exact bits_or_u64_nat a b ha hb), rfl⟩

theorem op7_any (a b : Nat) (ha : a < 18446744073709551616) (hb : b < 18446744073709551616) (w : World) :
    Calls Tryz.prog 166 #[.int .u64 a, .int .u64 b] w fun e w' => e = .returned (.int .u64 (opW 7 a b : Nat)) ∧ w' = w := by
  go_enter Tryz.func166, Tryz.ntmps166
  go_wp2
  all_goals go_ret
  all_goals exact ⟨ret_int (by exact bits_xor_u64_nat a b ha hb), rfl⟩

theorem op8_any (a b : Nat) (ha : a < 18446744073709551616) (hb : b < 18446744073709551616) (w : World) :
    Calls Tryz.prog 167 #[.int .u64 a, .int .u64 b] w fun e w' => e = .returned (.int .u64 (opW 8 a b : Nat)) ∧ w' = w := by
  go_enter Tryz.func167, Tryz.ntmps167
  go_wp2
  all_goals go_ret
  all_goals exact ⟨ret_int (by rw [IntKind.wrap_u64]; show _ = ((a * 2 ^ min b 64 % 18446744073709551616 : Nat) : Int); rw [Int.natCast_emod, Int.natCast_mul, Int.natCast_pow]; rfl), rfl⟩

theorem op9_any (a b : Nat) (ha : a < 18446744073709551616) (hb : b < 18446744073709551616) (w : World) :
    Calls Tryz.prog 168 #[.int .u64 a, .int .u64 b] w fun e w' => e = .returned (.int .u64 (opW 9 a b : Nat)) ∧ w' = w := by
  go_enter Tryz.func168, Tryz.ntmps168
  go_wp2
  all_goals go_ret
  all_goals exact ⟨ret_int (by show _ = ((a / 2 ^ min b 64 : Nat) : Int); rw [Int.natCast_ediv, Int.natCast_pow]; rfl), rfl⟩

/-- The table of operations. -/
abbrev opsV : Array Value := #[.bool false, .func (.func 159) #[] #[], .bool false, .func (.func 160) #[] #[], .bool false, .func (.func 161) #[] #[], .bool true, .func (.func 162) #[] #[], .bool true, .func (.func 163) #[] #[], .bool false, .func (.func 164) #[] #[], .bool false, .func (.func 165) #[] #[], .bool false, .func (.func 166) #[] #[], .bool false, .func (.func 167) #[] #[], .bool false, .func (.func 168) #[] #[]]
theorem infoO : (Tryz.prog.info? 133).map (·.size) = some opsV.size := by kernel_rfl
theorem opsOne : (opsV.all fun x => x.oneCell') = true := by kernel_rfl
theorem wpO_store {ops : Array Oper} {rest : List Oper} {a : Act} {w : World} {Q : Exit → Act → World → Prop} {d : Option Tmp} {ty : TypeId} {pos : String} {after : Array _} (x y : Operand) (B : Nat) {cs0 : Array Value}
    (hx : a.eval x = .pointer (some ⟨B, 0, none⟩)) (hy : a.eval y = .agg opsV) (hB : BlockIs w B 133 cs0) (hs : cs0.size = opsV.size) (h : wpList Tryz.prog ops Q rest (a.put d undef) (w.setRow B opsV)) :
    wpList Tryz.prog ops Q ({ dst := d, op := .store 133 x y, type := ty, pos := pos, after := after, guard := none } :: rest) a w :=
  wpList_store_row rfl 133 x y rfl B opsV hx hy 133 _ hB infoO hs opsOne h
theorem retO {fn : Func} {p : Tmp} (h : fn.results = #[.cell p 133]) (tmps : Array Value) (w : World) (B : Nat) (hp : tmps.getD p undef = .pointer (some ⟨B, 0, none⟩)) (hB : BlockIs w B 133 opsV) :
    (results fn tmps).run Tryz.prog w = .ok (.agg opsV) w :=
  results_cell_row h tmps w B 133 opsV (0, 0) _ hp hB Tryz.underlying133 rfl infoO
set_option maxHeartbeats 4000000 in
theorem bitOperations_any (w : World) :
    Calls Tryz.prog 117 #[] w fun e w' => e = .returned (.agg opsV) ∧ Below w.heap.size w w' := by
  go_enter Tryz.func117, Tryz.ntmps117
  go_wp2_with ((with_reducible refine wpO_store (.tmp 0) (.tmp 11) w.heap.size ?_ ?_ (BlockIs.new _ _ _) ?_ ?_); rfl; rfl; rfl)
  exact bodyPost_ret (retO rfl _ _ w.heap.size rfl ((BlockIs.new _ _ _).row _)) rfl ⟨rfl, below_row ((Below.refl _ _).alloc (Nat.le_refl _) _) _ _ (Nat.le_refl _)⟩
end Go.Proofs.YtjemolaobhlapaaGreatDoor
