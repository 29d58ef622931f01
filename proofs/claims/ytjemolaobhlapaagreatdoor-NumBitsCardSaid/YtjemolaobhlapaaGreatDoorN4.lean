/- Leaves of magnitudes. -/
import Derived.ProofKit
import Derived.WalkKit
import Derived.WalkSpells
import Derived.WalkLawsBesides
import Derived.Lib.Hide
import Derived.Laws.Rows
import Derived.Deep.MidRow
import Derived.Deep.WholeRow
import Derived.Test.YtjemolaobhlapaaGreatDoorProg
import Derived.Test.YtjemolaobhlapaaGreatDoorND
import Derived.IntWalk
import Derived.Lib.ItoaMem
import Derived.Deep.QuietTactic
import Derived.BigQuiet
set_option linter.unusedSimpArgs false
set_option linter.unusedVariables false
namespace Go.Proofs.YtjemolaobhlapaaGreatDoor
open Go.RowKit
set_option maxRecDepth 100000

theorem ret_bool {a b : Bool} (h : a = b) : Ending.returned (.bool a) = .returned (.bool b) := by rw [h]
theorem ret_int {k : IntKind} {a b : Int} (h : a = b) : Ending.returned (.int k a) = .returned (.int k b) := by rw [h]
theorem ret_agg {a b : Array Value} (h : a = b) : Ending.returned (.agg a) = .returned (.agg b) := by rw [h]
theorem infoM : (Tryz.prog.info? 80).map (·.size) = some 31 := by kernel_rfl
theorem infoF (f : Nat → Nat) (u : Nat) : (Tryz.prog.info? 80).map (·.size) = some (magF f u).size := by rw [magF_size]; exact infoM
theorem infoL : (Tryz.prog.info? 78).map (·.size) = some 30 := by kernel_rfl

/-- A whole magnitude is loaded; is stored. -/
theorem wpM_load {ops : Array Oper} {rest : List Oper} {a : Act} {w : World} {Q : Exit → Act → World → Prop} {d : Option Tmp} {ty : TypeId} {pos : String} {after : Array _} (x : Operand) (B : Nat) {f : Nat → Nat} {u : Nat}
    (hx : a.eval x = .pointer (some ⟨B, 0, none⟩)) (hB : BlockIs w B 80 (magF f u)) (h : wpList Tryz.prog ops Q rest (a.put d (.agg (magF f u))) w) :
    wpList Tryz.prog ops Q ({ dst := d, op := .load 80 x, type := ty, pos := pos, after := after, guard := none } :: rest) a w :=
  wpList_load_row rfl 80 x rfl B hx 80 (magF f u) (0, 0) _ hB Tryz.underlying80 rfl (infoF _ _) h
theorem wpM_store {ops : Array Oper} {rest : List Oper} {a : Act} {w : World} {Q : Exit → Act → World → Prop} {d : Option Tmp} {ty : TypeId} {pos : String} {after : Array _} (x y : Operand) (B : Nat) {f g : Nat → Nat} {u v : Nat}
    (hx : a.eval x = .pointer (some ⟨B, 0, none⟩)) (hy : a.eval y = .agg (magF f u)) (hB : BlockIs w B 80 (magF g v)) (h : wpList Tryz.prog ops Q rest (a.put d undef) (w.setRow B (magF f u))) :
    wpList Tryz.prog ops Q ({ dst := d, op := .store 80 x y, type := ty, pos := pos, after := after, guard := none } :: rest) a w :=
  wpList_store_row rfl 80 x y rfl B (magF f u) hx hy 80 _ hB (infoF _ _) (by rw [magF_size, magF_size]) (magF_one _ _) h
/-- A magnitude is returned out of a block. -/
theorem retM {fn : Func} {p : Tmp} (h : fn.results = #[.cell p 80]) (tmps : Array Value) (w : World) (B : Nat) (hp : tmps.getD p undef = .pointer (some ⟨B, 0, none⟩)) {f : Nat → Nat} {u : Nat} (hB : BlockIs w B 80 (magF f u)) :
    (results fn tmps).run Tryz.prog w = .ok (.agg (magF f u)) w :=
  results_cell_row h tmps w B 80 (magF f u) (0, 0) _ hp hB Tryz.underlying80 rfl (infoF _ _)

theorem loadM {w : World} {B : Nat} {f : Nat → Nat} {u : Nat} (hB : BlockIs w B 80 (magF f u)) : (loadVar 80 ⟨B, 0, none⟩).run Tryz.prog w = .ok (.agg (magF f u)) w :=
  run_loadVar_row w B 80 80 (magF f u) (0, 0) _ hB Tryz.underlying80 rfl (infoF _ _)
/-- A magnitude out of a block and a value are returned; two magnitudes out of blocks. -/
theorem retMV {fn : Func} {p q : Tmp} (h : fn.results = #[.cell p 80, .tmp q]) (tmps : Array Value) (w : World) (B : Nat) (hp : tmps.getD p undef = .pointer (some ⟨B, 0, none⟩)) {f : Nat → Nat} {u : Nat} (hB : BlockIs w B 80 (magF f u)) {v : Value} (hq : tmps.getD q undef = v) :
    (results fn tmps).run Tryz.prog w = .ok (.tuple #[.agg (magF f u), v]) w := by
  have hp' : tmps[p]?.getD undef = .pointer (some ⟨B, 0, none⟩) := by simpa using hp
  have hq' : tmps[q]?.getD undef = v := by simpa using hq
  simp [results, h, hp', hq', asAddr, loadM hB]
theorem retMM {fn : Func} {p q : Tmp} (h : fn.results = #[.cell p 80, .cell q 80]) (tmps : Array Value) (w : World) (B C : Nat) (hp : tmps.getD p undef = .pointer (some ⟨B, 0, none⟩)) (hq : tmps.getD q undef = .pointer (some ⟨C, 0, none⟩)) {f g : Nat → Nat} {u v : Nat} (hB : BlockIs w B 80 (magF f u)) (hC : BlockIs w C 80 (magF g v)) :
    (results fn tmps).run Tryz.prog w = .ok (.tuple #[.agg (magF f u), .agg (magF g v)]) w := by
  have hp' : tmps[p]?.getD undef = .pointer (some ⟨B, 0, none⟩) := by simpa using hp
  have hq' : tmps[q]?.getD undef = .pointer (some ⟨C, 0, none⟩) := by simpa using hq
  simp [results, h, hp', hq', asAddr, loadM hB, loadM hC]

set_option maxHeartbeats 1000000 in
theorem isZero_any (n : Nat) (hn : n < pw 30) (w : World) (b : Bool) (h : decide (n = 0) = b) :
    Calls Tryz.prog 86 #[.agg (mag n)] w fun e w' => e = .returned (.bool b) ∧ Below w.heap.size w w' := by
  have c30 := ((BlockIs.new w 80 (mag n)).at 30).trans (magF_used _ _)
  have HZ := Lib.hid (len_eq_zero hn)
  have H := Lib.hid h
  clear h
  go_enter Tryz.func86, Tryz.ntmps86
  go_wp2
  go_ret
  refine ⟨ret_bool ?_, (Below.refl _ _).alloc (Nat.le_refl _) _⟩
  rw [← H.out]
  have := HZ.out
  by_cases h0 : n = 0
  · simp [h0, len_zero]
  · have : len n ≠ 0 := by omega
    simp [h0]; omega

set_option maxHeartbeats 1000000 in
theorem isSmall_any (n : Nat) (hn : n < pw 30) (w : World) (b : Bool) (h : decide (n < 1000000000000000000) = b) :
    Calls Tryz.prog 145 #[.agg (mag n)] w fun e w' => e = .returned (.bool b) ∧ Below w.heap.size w w' := by
  have c30 := ((BlockIs.new w 80 (mag n)).at 30).trans (magF_used _ _)
  have HZ := Lib.hid (lt_pw_iff (k := 2) hn)
  have H := Lib.hid h
  clear h
  go_enter Tryz.func145, Tryz.ntmps145
  go_wp2
  go_ret
  refine ⟨ret_bool ?_, (Below.refl _ _).alloc (Nat.le_refl _) _⟩
  rw [← H.out]
  have := HZ.out
  rw [pw_two] at this
  rw [decide_eq_decide]
  omega

end Go.Proofs.YtjemolaobhlapaaGreatDoor

namespace Go.Proofs.YtjemolaobhlapaaGreatDoor
open Go.RowKit
set_option maxRecDepth 100000

theorem trim_step {f : Nat → Nat} {u : Nat} (hz : ∀ k, u ≤ k → k < 30 → f k = 0) (h : f (u - 1) = 0) : ∀ k, u - 1 ≤ k → k < 30 → f k = 0 := by
  intro k h1 h2
  by_cases e : k = u - 1
  · subst e; exact h
  · exact hz k (by omega) h2
theorem trim_end {f : Nat → Nat} {u : Nat} (hb : ∀ k, k < 30 → f k < 1000000000) (hz : ∀ k, u ≤ k → k < 30 → f k = 0) (hu : u ≤ 30) (ht : u = 0 ∨ 0 < f (u - 1)) : magF f u = mag (val f 30) := by
  unfold mag
  rw [len_of hb hz hu ht]
  exact magF_congr _ fun i hi => (limb_val hb hi).symm

set_option maxHeartbeats 1000000 in
theorem trimmed_any (f : Nat → Nat) (u : Nat) (hb : ∀ k, k < 30 → f k < 1000000000) (hz : ∀ k, u ≤ k → k < 30 → f k = 0) (hu : u ≤ 30) (w : World) :
    Calls Tryz.prog 132 #[.agg (magF f u)] w fun e w' => e = .returned (.agg (mag (val f 30))) ∧ Below w.heap.size w w' := by
  have HB := Lib.hid hb
  have HZ := Lib.hid hz
  clear hb hz
  obtain ⟨B, hB⟩ : ∃ B, w.heap.size = B := ⟨_, rfl⟩
  go_enter Tryz.func132, Tryz.ntmps132
  go_wp2
  rw [zeroM]
  obtain ⟨W0, hW0⟩ : ∃ W0, (w.alloc (.cells (magF f u) 80)).alloc (.cells (magF (fun _ => 0) 0) 80) = W0 := ⟨_, rfl⟩
  have H0 : Hid (BlockIs W0 B 80 (magF f u) ∧ BlockIs W0 (B + 1) 80 (magF (fun _ => 0) 0) ∧ Below B w W0) := by
    rw [← hW0, ← hB]
    refine ⟨(BlockIs.new w _ _).alloc _, ?_, ((Below.refl _ _).alloc (Nat.le_refl _) _).alloc (by simp) _⟩
    have := BlockIs.new (w.alloc (.cells (magF f u) 80)) 80 (magF (fun _ => 0) 0)
    rwa [World.size_alloc] at this
  rw [hW0]
  clear hW0
  go_loopw [] (fun wr => ∃ v : Nat, v ≤ 30 ∧ Hid (BlockIs wr B 80 (magF f v) ∧ BlockIs wr (B + 1) 80 (magF (fun _ => 0) 0) ∧ Below B w wr) ∧ Hid (∀ k, v ≤ k → k < 30 → f k = 0)) (fun wr => usedAt wr B)
  case atStart => exact ⟨u, hu, H0, HZ⟩
  case round =>
    clear H0 HZ
    obtain ⟨v, hv, HW, HZ⟩ := hrel
    have c30 := (HW.out.1.at 30).trans (magF_used _ _)
    have HF := Lib.hid (And.intro HB.out HZ.out)
    by_cases h0 : v = 0
    · subst h0
      go_wp2_with (first | ((with_reducible refine wpM_load (.tmp 1) B ?_ HW.out.1 ?_); rfl) | ((with_reducible refine wpM_store (f := f) (u := 0) (.tmp 2) (.tmp 19) (B + 1) ?_ ?_ HW.out.2.1 ?_); rfl; rfl))
      exact bodyPost_ret (retM rfl _ _ (B + 1) rfl (HW.out.2.1.row _)) rfl ⟨ret_agg (trim_end HF.out.1 HF.out.2 (by omega) (.inl rfl)), by rw [hB]; exact below_row HW.out.2.2 _ _ (by omega)⟩
    · obtain ⟨v1, rfl⟩ : ∃ v1, v = v1 + 1 := ⟨v - 1, by omega⟩
      have ci := (HW.out.1.at v1).trans (magF_get _ _ (by omega))
      have f30 := HW.out.1.thawed 30
      by_cases hl : f v1 = 0
      · have HN := Lib.hid (trim_step HZ.out hl)
        have e30 := magF_setu f (v1 + 1) v1
        have HS := Lib.hid (show BlockIs (wr.setCell ⟨B, 30, none⟩ (.int .i64 v1)) B 80 (magF f v1) ∧ BlockIs (wr.setCell ⟨B, 30, none⟩ (.int .i64 v1)) (B + 1) 80 (magF (fun _ => 0) 0) ∧ Below B w (wr.setCell ⟨B, 30, none⟩ (.int .i64 v1)) from
          ⟨e30 ▸ HW.out.1.set 30 _, HW.out.2.1.other _ _ (by simp), HW.out.2.2.setCell (by simp) _⟩)
        have hm1 := usedAt_mag HW.out.1
        have hm2 := usedAt_mag HS.out.1
        clear e30
        go_wp2
        go_roundw
        case rel => exact ⟨v1, by omega, HS, HN⟩
        case measure => rw [hm1, hm2]; omega
      · have hl2 : ((f v1 : Int) == 0) = false := by simp; omega
        go_wp2_with (first | ((with_reducible refine wpM_load (.tmp 1) B ?_ HW.out.1 ?_); rfl) | ((with_reducible refine wpM_store (f := f) (u := v1 + 1) (.tmp 2) (.tmp 19) (B + 1) ?_ ?_ HW.out.2.1 ?_); rfl; rfl))
        exact bodyPost_ret (retM rfl _ _ (B + 1) rfl (HW.out.2.1.row _)) rfl ⟨ret_agg (trim_end HF.out.1 HF.out.2 (by omega) (.inr (by rw [Nat.add_sub_cancel]; omega))), by rw [hB]; exact below_row HW.out.2.2 _ _ (by omega)⟩
end Go.Proofs.YtjemolaobhlapaaGreatDoor

namespace Go.Proofs.YtjemolaobhlapaaGreatDoor
open Go.RowKit
set_option maxRecDepth 100000

/-- The part of a number that has been read into a word from above. -/
def wordAt (n k : Nat) : Nat := n / pw k % 18446744073709551616
theorem wordAt_next (n k : Nat) : (wordAt n (k + 1) * 1000000000 + limb n k) % 18446744073709551616 = wordAt n k := by
  unfold wordAt
  rw [div_step n k]
  omega
theorem wordAt_zero (n : Nat) : wordAt n 0 = n % 18446744073709551616 := by unfold wordAt; rw [div_first]
theorem wordAt_top {n : Nat} (h : n < pw 30) : wordAt n (len n) = 0 := by unfold wordAt; rw [Nat.div_eq_of_lt (len_lt h)]
theorem word_wrap (a b : Nat) : IntKind.u64.wrap (IntKind.u64.wrap ((a : Int) * 1000000000) + (b : Int)) = (((a * 1000000000 + b) % 18446744073709551616 : Nat) : Int) := by
  rw [IntKind.wrap_u64, IntKind.wrap_u64]; omega

set_option maxHeartbeats 1000000 in
theorem word_any (n : Nat) (hn : n < pw 30) (w : World) :
    Calls Tryz.prog 72 #[.agg (mag n)] w fun e w' => e = .returned (.int .u64 ((n % 18446744073709551616 : Nat) : Int)) ∧ Below w.heap.size w w' := by
  have HL := Lib.hid (wordAt_top hn)
  have h30 := len_30 hn
  obtain ⟨B, hB⟩ : ∃ B, w.heap.size = B := ⟨_, rfl⟩
  have hb1 := BlockIs.new w 80 (mag n)
  rw [hB] at hb1
  have c30 := (hb1.at 30).trans (magF_used _ _)
  have HC := Lib.hid (fun (k : Nat) (h : k < 30) => (hb1.at k).trans (magF_get (limb n) (len n) h))
  have HN := Lib.hid (show Below w.heap.size w (w.alloc (.cells (mag n) 80)) from (Below.refl _ _).alloc (Nat.le_refl _) _)
  clear hb1
  go_enter Tryz.func72, Tryz.ntmps72
  go_wp2
  obtain ⟨W, hW⟩ : ∃ W, w.alloc (.cells (mag n) 80) = W := ⟨_, rfl⟩
  rw [hW] at HC HN c30 ⊢
  clear hW c30
  go_loop [3, 4] (fun x i => ∃ k : Nat, k ≤ 30 ∧ i = .int .i64 ((k : Int) - 1) ∧ x = .int .u64 (wordAt n k)) (fun _ i => (intOf i + 1).toNat)
  case atStart => exact ⟨len n, h30, rfl, by rw [HL.out]; rfl⟩
  case round =>
    obtain ⟨k, hk, rfl, rfl⟩ := hrel
    by_cases h0 : k = 0
    · subst h0
      go_wp2
      go_ret
      exact ⟨ret_int (by rw [wordAt_zero]; omega), by have := HN.out; rw [hB] at this; exact this⟩
    · obtain ⟨j, rfl⟩ : ∃ j, k = j + 1 := ⟨k - 1, by omega⟩
      have hj : ((j + 1 : Nat) : Int) - 1 = j := by omega
      rw [hj]
      have ck := HC.out j (by omega)
      have HWW := Lib.hid (wordAt_next n j)
      have hlm := limb_lt n j
      go_wp2
      go_round
      case rel => exact ⟨j, by omega, by first | rfl | go_num, by rw [word_wrap, HWW.out]⟩
      case measure => simp [intOf]

/-! ### ofWord -/
theorem div_pw (w0 k : Nat) : w0 / pw k / 1000000000 = w0 / pw (k + 1) := by rw [pw_succ, Nat.div_div_eq_div_mul]
theorem word_pw : (18446744073709551616 : Nat) ≤ pw 3 := by decide
theorem pw3_30 : pw 3 ≤ pw 30 := pw_mono (by omega)
/-- The limbs below k of a number. -/
def low (n k : Nat) : Nat → Nat := fun i => if i < k then limb n i else 0
theorem low_next (n k : Nat) : upd (low n k) k (limb n k) = low n (k + 1) := by
  funext i
  unfold upd low
  by_cases h : i = k
  · subst h; simp
  · rw [if_neg h]
    by_cases h2 : i < k
    · rw [if_pos h2, if_pos (by omega)]
    · rw [if_neg h2, if_neg (by omega)]
theorem low_zero (n : Nat) : low n 0 = fun _ => 0 := by funext i; simp [low]
theorem low_all {n k : Nat} (h : n < pw k) : low n k = limb n := by
  funext i
  unfold low
  by_cases h2 : i < k
  · rw [if_pos h2]
  · rw [if_neg h2, limb_big (Nat.lt_of_lt_of_le h (pw_mono (by omega)))]
theorem div_zero_iff {n k : Nat} (h : n / pw k = 0) : n < pw k := by
  rcases (Nat.div_eq_zero_iff).1 h with h | h
  · have := pw_pos k; omega
  · exact h
theorem len_div {n k : Nat} (h : n / pw (k + 1) = 0) (h2 : 0 < n / pw k) (h30 : n < pw 30) : len n = k + 1 := by
  have h1 := len_le h30 (div_zero_iff h)
  by_cases hc : k + 1 ≤ len n
  · omega
  · have := (lt_pw_iff (k := k) h30).2 (by omega)
    rw [Nat.div_eq_of_lt this] at h2
    omega

set_option maxHeartbeats 1000000 in
theorem ofWord_any (n : Nat) (hn : n < 18446744073709551616) (w : World) :
    Calls Tryz.prog 143 #[.int .u64 n] w fun e w' => e = .returned (.agg (mag n)) ∧ Below w.heap.size w w' := by
  have h3 : n < pw 3 := Nat.lt_of_lt_of_le hn word_pw
  have h30 : n < pw 30 := Nat.lt_of_lt_of_le h3 pw3_30
  have HN3 := Lib.hid (And.intro h3 h30)
  clear h3 h30
  obtain ⟨B, hB⟩ : ∃ B, w.heap.size = B := ⟨_, rfl⟩
  have H0 : Hid (∀ W0, (w.alloc (.cells (magF (fun _ => 0) 0) 80)).alloc (.cells (magF (fun _ => 0) 0) 80) = W0 → BlockIs W0 B 80 (magF (fun _ => 0) 0) ∧ BlockIs W0 (B + 1) 80 (magF (low n 0) 0) ∧ Below B w W0) := by
    rintro W0 rfl
    rw [← hB, low_zero]
    refine ⟨(BlockIs.new w _ _).alloc _, ?_, ((Below.refl _ _).alloc (Nat.le_refl _) _).alloc (by simp) _⟩
    have := BlockIs.new (w.alloc (.cells (magF (fun _ => 0) 0) 80)) 80 (magF (fun _ => 0) 0)
    rwa [World.size_alloc] at this
  go_enter Tryz.func143, Tryz.ntmps143
  go_wp2
  rw [zeroM]
  obtain ⟨W0, hW0⟩ : ∃ W0, (w.alloc (.cells (magF (fun _ => 0) 0) 80)).alloc (.cells (magF (fun _ => 0) 0) 80) = W0 := ⟨_, rfl⟩
  have HS := Lib.hid (H0.out W0 hW0)
  rw [hW0]
  clear hW0 H0
  go_loopw [0] (fun x wr => ∃ k : Nat, k ≤ 3 ∧ Hid (BlockIs wr B 80 (magF (fun _ => 0) 0) ∧ BlockIs wr (B + 1) 80 (magF (low n k) k) ∧ Below B w wr) ∧ x = .int .u64 ((n / pw k : Nat) : Int) ∧ Hid (k = 0 ∨ 0 < n / pw (k - 1))) (fun x _ => (intOf x).toNat)
  case atStart => exact ⟨0, by omega, HS, by rw [div_first], .inl rfl⟩
  case round =>
    clear HS
    obtain ⟨k, hk, HW, rfl, HP⟩ := hrel
    have c30 := (HW.out.2.1.at 30).trans (magF_used _ _)
    have f30 := HW.out.2.1.thawed 30
    obtain ⟨q, hq⟩ : ∃ q, n / pw k = q := ⟨_, rfl⟩
    have hql : q < 18446744073709551616 := by rw [← hq]; exact Nat.lt_of_le_of_lt (Nat.div_le_self _ _) hn
    have HQ := Lib.hid hq
    rw [hq]
    clear hq
    by_cases h0 : q = 0
    · subst h0
      have HE : Hid (magF (low n k) k = mag n) := by
        have h := div_zero_iff HQ.out
        rw [low_all h]
        unfold mag
        rcases HP.out with h1 | h1
        · subst h1
          have : n = 0 := by simp [pw] at h; exact h
          subst this
          rw [len_zero]; exact rfl
        · by_cases hk0 : k = 0
          · subst hk0
            have : n = 0 := by simp [pw] at h; exact h
            subst this
            rw [len_zero]; exact rfl
          · obtain ⟨j, rfl⟩ : ∃ j, k = j + 1 := ⟨k - 1, by omega⟩
            rw [len_div HQ.out h1 HN3.out.2]; exact rfl
      go_wp2_with (first | ((with_reducible refine wpM_load (.tmp 3) (B + 1) ?_ HW.out.2.1 ?_); rfl) | ((with_reducible refine wpM_store (f := low n k) (u := k) (.tmp 2) (.tmp 19) B ?_ ?_ HW.out.1 ?_); rfl; rfl))
      exact bodyPost_ret (retM rfl _ _ B rfl (HW.out.1.row _)) rfl ⟨ret_agg HE.out, by rw [hB]; exact below_row HW.out.2.2 _ _ (by omega)⟩
    · have hk3 : k < 3 := by
        by_cases e : k = 3
        · subst e
          have := HQ.out
          rw [Nat.div_eq_of_lt HN3.out.1] at this
          omega
        · omega
      have ck := (HW.out.2.1.at k).trans (magF_get _ _ (by omega))
      have fk := HW.out.2.1.thawed k
      have hqm : q % 1000000000 = limb n k := by unfold limb; rw [HQ.out]
      have hqd : q / 1000000000 = n / pw (k + 1) := by rw [← div_pw, HQ.out]
      have HM := Lib.hid hqm
      have HD := Lib.hid hqd
      clear hqm hqd
      go_wp2
      go_roundw
      case rel =>
        refine ⟨k + 1, by omega, ?_, by rw [← HD.out]; rfl, .inr (by rw [Nat.add_sub_cancel, HQ.out]; omega)⟩
        refine ⟨(HW.out.1.other _ _ (by simp)).other _ _ (by simp), ?_, (HW.out.2.2.setCell (by simp) _).setCell (by simp) _⟩
        rw [← low_next]
        exact (HW.out.2.1.limb (by omega) (by rw [← HM.out]; rfl)).used rfl
      case measure => simp [intOf]; omega
end Go.Proofs.YtjemolaobhlapaaGreatDoor

namespace Go.Proofs.YtjemolaobhlapaaGreatDoor
open Go.RowKit
set_option maxRecDepth 100000

theorem below_dN {B : Nat} {w w' : World} (h : Below B w w') (n : Nat) : Below B w (w'.drewN n) := ⟨h.os, h.tape, h.output, h.size, h.block⟩
theorem BlockIs.dN {W : World} {B : Nat} {t : TypeId} {cs : Array Value} (h : BlockIs W B t cs) (n : Nat) : BlockIs (W.drewN n) B t cs := h
theorem top_eq {n : Nat} (h : n < pw 30) (h0 : 0 < n) : n / pw (len n - 1) = limb n (len n - 1) := by
  obtain ⟨h1, _⟩ := len_low h h0
  have h3 := len_lt h
  rw [show len n = len n - 1 + 1 by omega, pw_succ] at h3
  unfold limb
  rw [Nat.mod_eq_of_lt (Nat.div_lt_of_lt_mul (by rw [Nat.mul_comm] at h3; rw [Nat.mul_comm]; exact h3))]
def dg0 (t : Nat) : Nat := if t = 0 then 0 else Lib.nDigits t
theorem dg0_zero : dg0 0 = 0 := rfl
theorem dg0_next {t : Nat} (h : 0 < t) : dg0 t = dg0 (t / 10) + 1 := by
  unfold dg0
  rw [if_neg (by omega)]
  by_cases h10 : t < 10
  · rw [Lib.nDigits_small h10, if_pos (by omega)]
  · rw [Lib.nDigits_big h10, if_neg (by omega)]
theorem nDigits_top {n : Nat} (h : n < pw 30) (h0 : 0 < n) : Lib.nDigits n = (len n - 1) * 9 + dg0 (limb n (len n - 1)) := by
  obtain ⟨h1, h2⟩ := len_low h h0
  have h3 := limb_top h h0
  rw [nDigits_limbs h2, top_eq h h0]
  unfold dg0
  rw [if_neg (by omega)]; omega

theorem dg0_le {t : Nat} (h : t < 1000000000) : dg0 t ≤ 9 := by
  have h0 : ∀ u, u < 1 → dg0 u = 0 := fun u hu => by have : u = 0 := by omega
                                                     subst this; rfl
  have hs : ∀ k m, (∀ u, u < m → dg0 u ≤ k) → ∀ u, u < m * 10 → dg0 u ≤ k + 1 := by
    intro k m ih u hu
    by_cases e : u = 0
    · subst e; rw [dg0_zero]; omega
    · rw [dg0_next (by omega)]; have := ih (u / 10) (by omega); omega
  have := hs 8 100000000 (hs 7 10000000 (hs 6 1000000 (hs 5 100000 (hs 4 10000 (hs 3 1000 (hs 2 100 (hs 1 10 (hs 0 1 (fun u hu => Nat.le_of_eq (h0 u hu))))))))))
  exact this t (by omega)
theorem nDigits_le {n : Nat} (h : n < pw 30) : Lib.nDigits n ≤ 270 := by
  by_cases h0 : n = 0
  · subst h0; rw [Lib.nDigits_small (by omega)]; omega
  · rw [nDigits_top h (by omega)]
    have := dg0_le (limb_lt n (len n - 1))
    have := len_30 h
    omega

set_option maxHeartbeats 1000000 in
theorem size_any (n : Nat) (hn : n < pw 30) (w : World) :
    Calls Tryz.prog 91 #[.agg (mag n)] w fun e w' => e = .returned (.int .i64 (Lib.nDigits n)) ∧ Below w.heap.size w w' := by
  obtain ⟨B, hB⟩ : ∃ B, w.heap.size = B := ⟨_, rfl⟩
  have hb1 : BlockIs (w.alloc (.cells (mag n) 80)) w.heap.size 80 (magF (limb n) (len n)) := BlockIs.new w 80 (mag n)
  rw [hB] at hb1
  have HB1 := Lib.hid hb1
  have HN := Lib.hid (show Below B w (w.alloc (.cells (mag n) 80)) by rw [← hB]; exact (Below.refl _ _).alloc (Nat.le_refl _) _)
  have HS := Lib.hid (show B + 1 = (w.alloc (.cells (mag n) 80)).heap.size by rw [World.size_alloc, hB])
  clear hb1
  by_cases h0 : n = 0
  · have H0 := Lib.hid (show decide (n = 0) = true by simp [h0])
    have HD := Lib.hid (show Lib.nDigits n = 1 by rw [h0]; exact Lib.nDigits_small (by omega))
    clear h0
    go_enter Tryz.func91, Tryz.ntmps91
    go_wp2_with (first | ((with_reducible refine wpM_load (.tmp 1) B ?_ HB1.out ?_); rfl) | (go_at_call 86; refine (isZero_any n hn _ true H0.out).mono ?_; rintro e w1 ⟨rfl, hb⟩))
    go_ret
    exact ⟨ret_int (by rw [HD.out]; rfl), by rw [hB]; exact HN.out.trans (hb.mono (by rw [← HS.out]; omega))⟩
  · have H0 := Lib.hid (show decide (n = 0) = false by simp [h0])
    have hlow := len_low hn (by omega)
    have h30 := len_30 hn
    have hll := limb_lt n (len n - 1)
    obtain ⟨k, hk⟩ : ∃ k, len n = k + 1 := ⟨len n - 1, by omega⟩
    have HD := Lib.hid (nDigits_top hn (by omega))
    rw [hk] at HD hll h30
    rw [Nat.add_sub_cancel] at HD hll
    have HK := Lib.hid hk
    have HMK := Lib.hid (show mag n = magF (limb n) (k + 1) by unfold mag; rw [hk])
    clear h0 hlow hk
    go_enter Tryz.func91, Tryz.ntmps91
    go_wp2_with (first | ((with_reducible refine wpM_load (.tmp 1) B ?_ HB1.out ?_); rfl) | (go_at_call 86; refine (isZero_any n hn _ false H0.out).mono ?_; rintro e w1 ⟨rfl, hb⟩; have HW := Lib.hid (show BlockIs w1 B 80 (magF (limb n) (k + 1)) ∧ Below B w w1 from ⟨(HK.out ▸ HB1.out).below hb (by rw [← HS.out]; omega), HN.out.trans (hb.mono (by rw [← HS.out]; omega))⟩); have c30 := (HW.out.1.at 30).trans (magF_used _ _); have ck := (HW.out.1.at k).trans (magF_get _ _ (by omega)); clear hb))
    go_loop [3, 4] (fun s t => ∃ x y : Nat, y < 1000000000 ∧ x ≤ 300 ∧ s = .int .i64 x ∧ t = .int .u32 y ∧ Hid (x + dg0 y = Lib.nDigits n)) (fun _ t => (intOf t).toNat)
    case atStart => exact ⟨k * 9, limb n k, hll, by omega, rfl, rfl, HD.out.symm⟩
    case round =>
      obtain ⟨x, y, hy, hx, rfl, rfl, HX⟩ := hrel
      by_cases h0 : y = 0
      · subst h0
        go_wp2
        go_ret
        exact ⟨ret_int (by rw [← HX.out]; rfl), HW.out.2⟩
      · have HY := Lib.hid (dg0_next (t := y) (by omega))
        have hxl : x + 1 ≤ 300 := by have := HX.out; have := HY.out; have := nDigits_le hn; omega
        go_wp2
        go_round
        case rel => exact ⟨x + 1, y / 10, by omega, hxl, rfl, rfl, by have := HX.out; have := HY.out; exact (by omega : x + 1 + dg0 (y / 10) = Lib.nDigits n)⟩
        case measure => simp [intOf]; omega

/-! ### wordGcd -/
set_option maxHeartbeats 1000000 in
theorem wordGcd_any (a b : Nat) (ha : a < 18446744073709551616) (hb : b < 18446744073709551616) (w : World) :
    Calls Tryz.prog 146 #[.int .u64 a, .int .u64 b] w fun e w' => e = .returned (.int .u64 (Nat.gcd a b)) ∧ Below w.heap.size w w' := by
  obtain ⟨g, hg⟩ : ∃ g, Nat.gcd a b = g := ⟨_, rfl⟩
  have HG := Lib.hid hg
  clear hg
  go_enter Tryz.func146, Tryz.ntmps146
  go_wp2
  go_loopw [0, 1] (fun x y wr => ∃ m n : Nat, m < 18446744073709551616 ∧ n < 18446744073709551616 ∧ x = .int .u64 m ∧ y = .int .u64 n ∧ Hid (Nat.gcd m n = g) ∧ Below w.heap.size w wr) (fun _ y _ => (intOf y).toNat)
  case atStart => exact ⟨a, b, ha, hb, rfl, rfl, HG, Below.refl _ _⟩
  case round =>
    obtain ⟨m, n, hm, hn, rfl, rfl, HX, hbl⟩ := hrel
    by_cases h0 : n = 0
    · subst h0
      go_wp2
      go_ret
      exact ⟨ret_int (by rw [HG.out, ← HX.out, Nat.gcd_zero_right]), hbl⟩
    · have HY := Lib.hid (show Nat.gcd n (m % n) = g by rw [← HX.out, Nat.gcd_comm m n, Nat.gcd_rec n m, Nat.gcd_comm])
      have hmod := Nat.mod_lt m (show 0 < n by omega)
      go_wp2
      go_quiet (fail)
      go_wp2
      go_roundw
      case rel => exact ⟨n, m % n, by omega, by omega, rfl, rfl, HY, below_dN hbl _⟩
      case measure => simp [intOf]; omega
end Go.Proofs.YtjemolaobhlapaaGreatDoor
