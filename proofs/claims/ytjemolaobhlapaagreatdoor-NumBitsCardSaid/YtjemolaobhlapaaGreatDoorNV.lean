/- Lists of numbers: buildSlice, transform. -/
import Derived.Laws.MakeOwn
import Derived.Test.YtjemolaobhlapaaGreatDoorNU
import Derived.Test.YtjemolaobhlapaaGreatDoorN46
set_option linter.unusedSimpArgs false
set_option linter.unusedVariables false
namespace Go.Proofs.YtjemolaobhlapaaGreatDoor
open Go.RowKit
set_option maxRecDepth 100000

theorem wp_valueW {o : Oper} {a : Act} {w w' : World} {K : Act → World → Prop} {Q : Exit → Act → World → Prop} {v : Value} (h : (execOp a.eval o).run Tryz.prog w = .ok (.value v) w') (hk : K (a.put o.dst v) w') : o.wp Tryz.prog a w K Q := by
  unfold Oper.wp
  rw [h]
  exact hk
theorem run_buildM1 (f : Nat → Nat) (u : Nat) (w : World) : (Instr.buildSlice 170 1 #[(0, .agg (magF f u))]).run Tryz.prog w = .ok (.slice (some ⟨w.heap.size, 0, none⟩) 1 1) (w.alloc (.cells (magF f u) 80)) := by kernel_rfl
theorem run_buildS1 (f : Nat → Nat) (u : Nat) (s : Bool) (w : World) : (Instr.buildSlice 166 1 #[(0, .agg (sigF f u s))]).run Tryz.prog w = .ok (.slice (some ⟨w.heap.size, 0, none⟩) 1 1) (w.alloc (.cells (sigF f u s) 82)) := by kernel_rfl
def magsL (f : Nat → Nat) (u : Nat) (g : Nat → Nat) (v : Nat) : List Value := magL f u ++ magL g v
theorem run_buildM2 (f : Nat → Nat) (u : Nat) (g : Nat → Nat) (v : Nat) (w : World) : (Instr.buildSlice 170 2 #[(0, .agg (magF f u)), (1, .agg (magF g v))]).run Tryz.prog w = .ok (.slice (some ⟨w.heap.size, 0, none⟩) 2 2) (w.alloc (.cells (magsL f u g v).toArray 80)) := by kernel_rfl

theorem ownsRow_below {w w' : World} {base size n : Nat} {e : TypeId} {v : Value} {xs : List Value} (h : w.ownsRow base e size v n xs) (hb : Below w.heap.size w w') : w'.ownsRow base e size v n xs :=
  h.kept (row := none) ⟨hb.os, hb.tape, hb.output, hb.size, fun k hk _ => hb.block k hk⟩ (by cases v.ownBlock <;> simp)
theorem range_below {w w' : World} {B L o : Nat} {cs : List Value} (h : w.rangeAt L o cs) (hb : Below B w w') (hl : L < B) : w'.rangeAt L o cs :=
  fun j v hv => (hb.cell (p := ⟨L, o + j, none⟩) hl).trans (h j v hv)
theorem wpM_loadAt {ops : Array Oper} {rest : List Oper} {a : Act} {w : World} {Q : Exit → Act → World → Prop} {d : Option Tmp} {ty : TypeId} {pos : String} {after : Array _} (x : Operand) (L o : Nat) {f : Nat → Nat} {u : Nat}
    (hx : a.eval x = .pointer (some ⟨L, o, none⟩)) (hL : w.rangeAt L o (magL f u)) (h : wpList Tryz.prog ops Q rest (a.put d (.agg (magF f u))) w) :
    wpList Tryz.prog ops Q ({ dst := d, op := .load 80 x, type := ty, pos := pos, after := after, guard := none } :: rest) a w :=
  wpList_load_mid rfl 80 x rfl L o hx (magL f u) _ hL Tryz.underlying80 rfl (infoLM f u) h
/-- The rows of the first n elements. -/
def rowsOf (r : Nat → List Value) : Nat → List Value
  | 0 => []
  | n + 1 => rowsOf r n ++ r n
/-- What transform leaves. -/
def TrPost (w : World) (e : TypeId) (size n : Nat) (xs : List Value) (en : Ending) (w' : World) : Prop := ∃ v, en = .returned v ∧ w'.ownsRow w.heap.size e size v n xs ∧ Below w.heap.size w w'

theorem infoMz : (Tryz.prog.info? 80).map (fun i => (i.zero, i.size, i.bytes)) = some (some (.agg (magF (fun _ => 0) 0)), 31, 128) := by kernel_rfl
theorem infoSz : (Tryz.prog.info? 82).map (fun i => (i.zero, i.size, i.bytes)) = some (some (.agg (sigF (fun _ => 0) 0 false)), 32, 136) := by kernel_rfl
theorem wpM_buildSlice1 {ops : Array Oper} {rest : List Oper} {a : Act} {w : World} {Q : Exit → Act → World → Prop} {d : Option Tmp} {ty : TypeId} {pos : String} {after : Array _} (x : Operand) {f : Nat → Nat} {u : Nat}
    (hx : a.eval x = .agg (magF f u)) (h : wpList Tryz.prog ops Q rest (a.put d (.slice (some ⟨w.heap.size, 0, none⟩) 1 1)) (w.alloc (.cells (magF f u) 80))) :
    wpList Tryz.prog ops Q ({ dst := d, op := .buildSlice 170 1 #[(0, x)], type := ty, pos := pos, after := after, guard := none } :: rest) a w :=
  BigFrame.wpList_want rfl fun _ hK => wp_valueW (by
    unfold execOp
    simp only [Sem.run_bind, List.map_toArray, List.map_cons, List.map_nil, hx, run_buildM1, Result.andThen_ok]
    rfl) (hK _ _ h)
theorem wpS_buildSlice1 {ops : Array Oper} {rest : List Oper} {a : Act} {w : World} {Q : Exit → Act → World → Prop} {d : Option Tmp} {ty : TypeId} {pos : String} {after : Array _} (x : Operand) {f : Nat → Nat} {u : Nat} {s : Bool}
    (hx : a.eval x = .agg (sigF f u s)) (h : wpList Tryz.prog ops Q rest (a.put d (.slice (some ⟨w.heap.size, 0, none⟩) 1 1)) (w.alloc (.cells (sigF f u s) 82))) :
    wpList Tryz.prog ops Q ({ dst := d, op := .buildSlice 166 1 #[(0, x)], type := ty, pos := pos, after := after, guard := none } :: rest) a w :=
  BigFrame.wpList_want rfl fun _ hK => wp_valueW (by
    unfold execOp
    simp only [Sem.run_bind, List.map_toArray, List.map_cons, List.map_nil, hx, run_buildS1, Result.andThen_ok]
    rfl) (hK _ _ h)
/-- A block's cells, read from its head. -/
theorem block_cells {w : World} {B : Nat} {t : TypeId} {cs : List Value} (h : BlockIs w B t cs.toArray) : ∀ j u, cs[j]? = some u → w.cell? ((⟨B, 0, none⟩ : Addr).add j) = some u := by
  intro j u hj
  rw [add_zero_block, h.at, List.getElem?_toArray]
  exact hj

set_option maxHeartbeats 4000000 in
theorem transformM_any (n : Nat) (hn : n ≤ 1000) (x y : Nat → Nat) (L G c : Nat) (w : World) (hL : ∀ k, k < n → w.rangeAt L (k * 31) (magL (limb (x k)) (len (x k)))) (hLw : L < w.heap.size) (hG : BlockIs w G 80 (magF (limb c) (len c)))
    (hcall : ∀ k, k < n → ∀ W, BlockIs W G 80 (magF (limb c) (len c)) → Calls Tryz.prog 157 #[.agg (mag (x k)), .pointer (some ⟨G, 0, none⟩)] W fun e w' => e = .returned (.agg (mag (y k))) ∧ Below W.heap.size W w') :
    Calls Tryz.prog 156 #[.slice (some ⟨L, 0, none⟩) n n, .func (.func 157) #[] #[.pointer (some ⟨G, 0, none⟩)]] w (TrPost w 80 31 n (rowsOf (fun k => magL (limb (y k)) (len (y k))) n)) := by
  obtain ⟨i0, hi, hz0, hz1, hz2⟩ := info_parts infoMz
  obtain ⟨B, hB⟩ : ∃ B, w.heap.size = B := ⟨_, rfl⟩
  obtain ⟨W1, hmk, hrow, hgr⟩ := run_makeSlice_owned (P := Tryz.prog) w B 170 80 i0 _ 31 Tryz.underlying170 hi hz0 hz1 .i64 .i64 n (by omega) (by rw [hz2]; omega) (by unfold maxLen; omega) (by omega)
  have hb1 : Below B w W1 := (Below.refl B w).grown hgr (by omega) (fun k e => by cases e)
  have HW1 := Lib.hid (show W1.ownsRow B 80 31 (.slice (some ⟨B, 0, none⟩) 0 n) 0 (rowsOf (fun k => magL (limb (y k)) (len (y k))) 0) ∧ Below B w W1 ∧ B ≤ W1.heap.size from ⟨by rw [← hB]; exact (hB ▸ hrow), hb1, by have := hb1.size; omega⟩)
  have hz0' := zeroM
  have HL := Lib.hid hL
  have HG := Lib.hid hG
  have HGl := Lib.hid hG.lt
  have HLw := Lib.hid hLw
  have HC := Lib.hid hcall
  rw [hB] at hmk HGl HLw
  have HMK := Lib.hid hmk
  clear hL hG hLw hcall hmk hrow hgr hb1
  have hmk := HMK.out
  go_enter Tryz.func156, Tryz.ntmps156
  go_wp2
  clear hmk
  go_loopw [5, 13] (fun v x wr => ∃ k : Nat, k ≤ n ∧ x = .int .i64 k ∧ Hid (wr.ownsRow B 80 31 v k (rowsOf (fun k => magL (limb (y k)) (len (y k))) k) ∧ Below B w wr ∧ B ≤ wr.heap.size)) (fun _ x _ => n - (intOf x).toNat)
  case atStart => exact ⟨0, by omega, rfl, HW1⟩
  case round =>
    clear HW1 HMK
    obtain ⟨k, hk, rfl, HW⟩ := hrel
    by_cases hlt : k < n
    · have HR := Lib.hid (range_below (HL.out k hlt) HW.out.2.1 HLw.out)
      have HCk := Lib.hid (HC.out k hlt)
      obtain ⟨C, hC⟩ : ∃ C, wr.heap.size = C := ⟨_, rfl⟩
      have HBC := Lib.hid (show B ≤ C by rw [← hC]; exact HW.out.2.2)
      have HGr := Lib.hid (HG.out.below HW.out.2.1 HGl.out)
      obtain ⟨W2, hW2⟩ : ∃ W2, wr.alloc (.cells (magF (fun _ => 0) 0) 80) = W2 := ⟨_, rfl⟩
      have HA := Lib.hid (show BlockIs W2 C 80 (magF (fun _ => 0) 0) by rw [← hW2, ← hC]; exact BlockIs.new _ _ _)
      obtain ⟨V2, hV2⟩ : ∃ V2, W2.setRow C (magF (limb (x k)) (len (x k))) = V2 := ⟨_, rfl⟩
      have HV := Lib.hid (show BlockIs V2 C 80 (magF (limb (x k)) (len (x k))) ∧ Below wr.heap.size wr V2 by
        rw [← hV2]
        refine ⟨HA.out.row _, below_row ?_ _ _ (by omega)⟩
        rw [← hW2]; exact (Below.refl _ _).alloc (Nat.le_refl _) _)
      have HG2 := Lib.hid (HGr.out.below HV.out.2 HGr.out.lt)
      have HB2 := Lib.hid (show Below B w V2 ∧ B ≤ V2.heap.size from ⟨HW.out.2.1.trans (HV.out.2.mono (by rw [hC]; exact HBC.out)), by have := HV.out.2.size; have := HW.out.2.2; omega⟩)
      have HO2 := Lib.hid (ownsRow_below HW.out.1 HV.out.2)
      obtain ⟨z, hz⟩ : ∃ z, y k = z := ⟨_, rfl⟩
      rw [hz] at HCk
      have HZ := Lib.hid hz
      clear hz
      go_wp2_with (first | ((with_reducible refine wpM_loadAt (.tmp 15) L (k * 31) ?_ HR.out ?_); rfl) | ((with_reducible refine wpM_store (.tmp 7) (.tmp 16) C (f := limb (x k)) (u := len (x k)) ?_ ?_ HA.out ?_); rfl; rfl; rw [hV2]) | ((with_reducible refine wpM_load (.tmp 7) C ?_ HV.out.1 ?_); rfl) | (go_at_call 157; refine (HCk.out _ HG2.out).mono ?_; rintro e w3 ⟨rfl, hb3⟩; have HO3 := Lib.hid (ownsRow_below HO2.out hb3); have HB3 := Lib.hid (show Below B w w3 ∧ B ≤ w3.heap.size from ⟨HB2.out.1.trans (hb3.mono HB2.out.2), by have := hb3.size; have := HB2.out.2; omega⟩); clear hb3) | ((with_reducible refine wpM_buildSlice1 (.tmp 20) (f := limb z) (u := len z) ?_ ?_); rfl) | (at_builtin; refine wpList_append_own _ rfl _ _ 170 rfl B 80 i0 _ 31 128 Tryz.underlying170 hi hz0 hz1 hz2 rfl (by decide) _ _ _ rfl (HO3.out.alloc _) ⟨w3.heap.size, 0, none⟩ 1 1 (magL (limb z) (len z)) rfl (magL_len _ _) (block_cells (BlockIs.new _ _ _)) (magL_one _ _) (by simp [maxLen]; omega) (by omega) (by have := HB3.out.2; simp; omega) ?_; intro v' w4 hown' hg4 _; have HG4 := Lib.hid (And.intro hown' (show Below B w w4 ∧ B ≤ w4.heap.size from ⟨(HB3.out.1.alloc HB3.out.2 _).grown hg4 (by rw [World.size_alloc]; have := HB3.out.2; omega) (fun k e => (HO3.out.lt k e).1), by have h1 := hg4.size; have h2 := HB3.out.2; rw [World.size_alloc] at h1; omega⟩)); clear hown' hg4))
      go_roundw
      case rel =>
        refine ⟨k + 1, by omega, by go_num, ?_, HG4.out.2⟩
        have h := HG4.out.1
        rw [← HZ.out] at h
        exact h
      case measure => simp [intOf]; omega
    · obtain rfl : k = n := by omega
      go_wp2
      go_ret
      exact ⟨_, rfl, hB ▸ HW.out.1, hB ▸ HW.out.2.1⟩

set_option maxHeartbeats 4000000 in
theorem transformS_any (n : Nat) (hn : n ≤ 1000) (x : Nat → ByteArray) (sg : Nat → Bool) (y : Nat → Nat) (L : Nat) (w : World) (hL : ∀ k, k < n → w.cell? ⟨L, k, none⟩ = some (.string (x k))) (hLw : L < w.heap.size)
    (hcall : ∀ k, k < n → ∀ W, Calls Tryz.prog 69 #[.string (x k)] W fun e w' => e = .returned (.agg (sig (sg k) (y k))) ∧ Below W.heap.size W w') :
    Calls Tryz.prog 151 #[.slice (some ⟨L, 0, none⟩) n n, .func (.func 69) #[] #[]] w (TrPost w 82 32 n (rowsOf (fun k => sigL (limb (y k)) (len (y k)) (sg k)) n)) := by
  obtain ⟨i0, hi, hz0, hz1, hz2⟩ := info_parts infoSz
  obtain ⟨B, hB⟩ : ∃ B, w.heap.size = B := ⟨_, rfl⟩
  obtain ⟨W1, hmk, hrow, hgr⟩ := run_makeSlice_owned (P := Tryz.prog) w B 166 82 i0 _ 32 Tryz.underlying166 hi hz0 hz1 .i64 .i64 n (by omega) (by rw [hz2]; omega) (by unfold maxLen; omega) (by omega)
  have hb1 : Below B w W1 := (Below.refl B w).grown hgr (by omega) (fun k e => by cases e)
  have HW1 := Lib.hid (show W1.ownsRow B 82 32 (.slice (some ⟨B, 0, none⟩) 0 n) 0 (rowsOf (fun k => sigL (limb (y k)) (len (y k)) (sg k)) 0) ∧ Below B w W1 ∧ B ≤ W1.heap.size from ⟨by rw [← hB]; exact (hB ▸ hrow), hb1, by have := hb1.size; omega⟩)
  have HL := Lib.hid hL
  have HLw := Lib.hid hLw
  have HC := Lib.hid hcall
  rw [hB] at hmk HLw
  have HMK := Lib.hid hmk
  clear hL hLw hcall hmk hrow hgr hb1
  have hmk := HMK.out
  go_enter Tryz.func151, Tryz.ntmps151
  go_wp2
  clear hmk
  go_loopw [5, 13] (fun v x wr => ∃ k : Nat, k ≤ n ∧ x = .int .i64 k ∧ Hid (wr.ownsRow B 82 32 v k (rowsOf (fun k => sigL (limb (y k)) (len (y k)) (sg k)) k) ∧ Below B w wr ∧ B ≤ wr.heap.size)) (fun _ x _ => n - (intOf x).toNat)
  case atStart => exact ⟨0, by omega, rfl, HW1⟩
  case round =>
    clear HW1 HMK
    obtain ⟨k, hk, rfl, HW⟩ := hrel
    by_cases hlt : k < n
    · have c0 : wr.cell? ⟨L, k, none⟩ = some (.string (x k)) := (HW.out.2.1.cell (p := ⟨L, k, none⟩) HLw.out).trans (HL.out k hlt)
      have HCk := Lib.hid (HC.out k hlt)
      obtain ⟨z, hz⟩ : ∃ z, y k = z := ⟨_, rfl⟩
      obtain ⟨t, ht⟩ : ∃ t, sg k = t := ⟨_, rfl⟩
      obtain ⟨a, ha⟩ : ∃ a, x k = a := ⟨_, rfl⟩
      rw [hz, ht, ha] at HCk
      rw [ha] at c0
      have HZ := Lib.hid (And.intro hz ht)
      clear hz ht ha
      go_wp2_with (first | (go_at_call 69; refine (HCk.out _).mono ?_; rintro e w3 ⟨rfl, hb3⟩; have HO3 := Lib.hid (ownsRow_below HW.out.1 hb3); have HB3 := Lib.hid (show Below B w w3 ∧ B ≤ w3.heap.size from ⟨HW.out.2.1.trans (hb3.mono HW.out.2.2), by have := hb3.size; have := HW.out.2.2; omega⟩); clear hb3) | ((with_reducible refine wpS_buildSlice1 (.tmp 20) (f := limb z) (u := len z) (s := t) ?_ ?_); rfl) | (at_builtin; refine wpList_append_own _ rfl _ _ 166 rfl B 82 i0 _ 32 136 Tryz.underlying166 hi hz0 hz1 hz2 rfl (by decide) _ _ _ rfl (HO3.out.alloc _) ⟨w3.heap.size, 0, none⟩ 1 1 (sigL (limb z) (len z) t) rfl (sigL_len _ _ _) (block_cells (BlockIs.new _ _ _)) (sigL_one _ _ _) (by simp [maxLen]; omega) (by omega) (by have := HB3.out.2; simp; omega) ?_; intro v' w4 hown' hg4 _; have HG4 := Lib.hid (And.intro hown' (show Below B w w4 ∧ B ≤ w4.heap.size from ⟨(HB3.out.1.alloc HB3.out.2 _).grown hg4 (by rw [World.size_alloc]; have := HB3.out.2; omega) (fun k e => (HO3.out.lt k e).1), by have h1 := hg4.size; have h2 := HB3.out.2; rw [World.size_alloc] at h1; omega⟩)); clear hown' hg4))
      go_roundw
      case rel =>
        refine ⟨k + 1, by omega, by go_num, ?_, HG4.out.2⟩
        have h := HG4.out.1
        rw [← HZ.out.1, ← HZ.out.2] at h
        exact h
      case measure => simp [intOf]; omega
    · obtain rfl : k = n := by omega
      go_wp2
      go_ret
      exact ⟨_, rfl, hB ▸ HW.out.1, hB ▸ HW.out.2.1⟩
end Go.Proofs.YtjemolaobhlapaaGreatDoor
