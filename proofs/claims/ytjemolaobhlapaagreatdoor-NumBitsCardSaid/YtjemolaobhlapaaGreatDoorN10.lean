/- times. -/
import Derived.Test.YtjemolaobhlapaaGreatDoorN7
import Derived.Deep.RegionHeld3
import Derived.StillTailTactics
import Derived.BigFrame
set_option linter.unusedSimpArgs false
set_option linter.unusedVariables false
namespace Go.Proofs.YtjemolaobhlapaaGreatDoor
open Go.RowKit
set_option maxRecDepth 100000

theorem start4 (a b : Nat) (w : World) {B : Nat} (hB : w.heap.size = B) {W : World} (hW : (((w.alloc (.cells (mag a) 80)).alloc (.cells (mag b) 80)).alloc (.cells (magF (fun _ => 0) 0) 80)).alloc (.cells (magF (fun _ => 0) 0) 80) = W) :
    BlockIs W B 80 (magF (limb a) (len a)) ∧ BlockIs W (B + 1) 80 (magF (limb b) (len b)) ∧ BlockIs W (B + 2) 80 (magF (fun _ => 0) 0) ∧ BlockIs W (B + 3) 80 (magF (fun _ => 0) 0) ∧ Below B w W := by
  obtain ⟨h1, h2, h3, h4⟩ := start3 a b w hB rfl
  rw [← hW]
  refine ⟨h1.alloc _, h2.alloc _, h3.alloc _, ?_, h4.alloc (by rw [World.size_alloc, World.size_alloc, World.size_alloc, hB]; omega) _⟩
  have := BlockIs.new (((w.alloc (.cells (mag a) 80)).alloc (.cells (mag b) 80)).alloc (.cells (magF (fun _ => 0) 0) 80)) 80 (magF (fun _ => 0) 0)
  rwa [World.size_alloc, World.size_alloc, World.size_alloc, hB] at this
theorem val_zero (k : Nat) : val (fun _ => 0) k = 0 := by
  induction k with
  | zero => rfl
  | succ k ih => rw [val_succ, ih]; simp
/-- What the loops keep of the limbs of the product. -/
def Good (f : Nat → Nat) (e : Nat) : Prop := (∀ k, k < 30 → f k < 1000000000) ∧ (∀ k, e ≤ k → k < 30 → f k = 0)
theorem Good.zero (e : Nat) : Good (fun _ => 0) e := ⟨fun _ _ => (by decide : 0 < 1000000000), fun _ _ _ => rfl⟩
theorem Good.upd {f : Nat → Nat} {e i x : Nat} (h : Good f e) (hx : x < 1000000000) (hi : i < e) : Good (upd f i x) e := by
  refine ⟨fun k hk => ?_, fun k h1 h2 => ?_⟩
  · unfold Proofs.YtjemolaobhlapaaGreatDoor.upd; split
    · exact hx
    · exact h.1 k hk
  · rw [upd_other _ _ (by omega)]; exact h.2 k h1 h2
theorem Good.more {f : Nat → Nat} {e e' : Nat} (h : Good f e) (he : e ≤ e') : Good f e' := ⟨h.1, fun k h1 h2 => h.2 k (by omega) h2⟩
theorem row_end {a b i lb c : Nat} {f : Nat → Nat} (hb : b < pw lb) (hi : i + lb < 30) (hg : Good f (i + lb)) (h : val f 30 + c * pw (i + lb) = prodPart a b i lb) : val (upd f (i + lb) c) 30 = a % pw (i + 1) * b := by
  have h1 := val_upd f c hi
  rw [hg.2 _ (Nat.le_refl _) hi] at h1
  rw [part_end hb] at h
  omega

set_option maxHeartbeats 4000000 in
theorem times_any (a b : Nat) (ha : a < pw 30) (hb : b < pw 30) (hab : len a + len b ≤ 30) (w : World) :
    Calls Tryz.prog 140 #[.agg (mag a), .agg (mag b)] w fun e w' => e = .returned (.agg (mag (a * b))) ∧ Below w.heap.size w w' := by
  obtain ⟨B, hB⟩ : ∃ B, w.heap.size = B := ⟨_, rfl⟩
  obtain ⟨W, hW⟩ : ∃ W, (((w.alloc (.cells (mag a) 80)).alloc (.cells (mag b) 80)).alloc (.cells (magF (fun _ => 0) 0) 80)).alloc (.cells (magF (fun _ => 0) 0) 80) = W := ⟨_, rfl⟩
  have HW := Lib.hid (start4 a b w hB hW)
  have c30 := (HW.out.1.at 30).trans (magF_used _ _)
  have hz0 := zeroM
  have HLA := Lib.hid (len_lt ha)
  have HLB := Lib.hid (len_lt hb)
  obtain ⟨la, hla⟩ : ∃ l, len a = l := ⟨_, rfl⟩
  obtain ⟨lb, hlb⟩ : ∃ l, len b = l := ⟨_, rfl⟩
  rw [hla] at HW c30 hab HLA
  rw [hlb] at HW hab HLB
  clear hla hlb ha hb
  go_enter Tryz.func140, Tryz.ntmps140
  go_wp2
  clear hz0 c30 hW
  go_loopw [12] (fun x wr => ∃ (i : Nat) (f : Nat → Nat), i ≤ la ∧ x = .int .i64 i ∧ Hid (val f 30 = a % pw i * b ∧ Good f (i + lb)) ∧ Hid (BlockIs wr B 80 (magF (limb a) la) ∧ BlockIs wr (B + 1) 80 (magF (limb b) lb) ∧ BlockIs wr (B + 2) 80 (magF (fun _ => 0) 0) ∧ BlockIs wr (B + 3) 80 (magF f 0) ∧ Below B w wr)) (fun x _ => la - (intOf x).toNat)
  case atStart => exact ⟨0, fun _ => 0, by omega, rfl, ⟨by rw [val_zero]; simp [pw, Nat.mod_one], Good.zero _⟩, HW⟩
  case round =>
    clear HW
    obtain ⟨i, f, hi, rfl, HF, HW⟩ := hrel
    by_cases hlt : i < la
    · have d30 := (HW.out.2.1.at 30).trans (magF_used _ _)
      go_wp2
      clear d30
      go_loopw [7, 17] (fun y x wr => ∃ (j c : Nat) (g : Nat → Nat), j ≤ lb ∧ c < 1000000000 ∧ x = .int .i64 j ∧ y = .int .u64 c ∧ Hid (val g 30 + c * pw (i + j) = prodPart a b i j ∧ Good g (i + lb)) ∧ Hid (BlockIs wr B 80 (magF (limb a) la) ∧ BlockIs wr (B + 1) 80 (magF (limb b) lb) ∧ BlockIs wr (B + 2) 80 (magF (fun _ => 0) 0) ∧ BlockIs wr (B + 3) 80 (magF g 0) ∧ Below B w wr)) (fun _ x _ => lb - (intOf x).toNat)
      case atStart => exact ⟨0, 0, f, by omega, by omega, rfl, rfl, ⟨by rw [part_zero, HF.out.1]; omega, HF.out.2⟩, HW⟩
      case round =>
        clear HW HF
        obtain ⟨j, c, g, hj, hc, rfl, rfl, HG, HW⟩ := hrel
        by_cases hjl : j < lb
        · have ca := (HW.out.1.at i).trans (magF_get _ _ (by omega))
          have cb := (HW.out.2.1.at j).trans (magF_get _ _ (by omega))
          have cg := (HW.out.2.2.2.1.at (i + j)).trans (magF_get _ _ (by omega))
          have fg := HW.out.2.2.2.1.thawed (i + j)
          have hgl := HG.out.2.1 (i + j) (by omega)
          have HP := Lib.hid (part_step (by omega) HG.out.1)
          have hxl := limb_lt a i
          have hyl := limb_lt b j
          obtain ⟨x, hx⟩ : ∃ x, limb a i = x := ⟨_, rfl⟩
          obtain ⟨y, hy⟩ : ∃ y, limb b j = y := ⟨_, rfl⟩
          obtain ⟨z, hz⟩ : ∃ z, g (i + j) = z := ⟨_, rfl⟩
          rw [hx] at ca hxl HP
          rw [hy] at cb hyl HP
          rw [hz] at cg hgl HP
          clear hx hy hz
          have hpl := prod_lt hxl hyl hgl hc
          have hp0 : 0 ≤ (x : Int) * y := by omega
          have hp1 : (x : Int) * y + z + c < 1000000000000000000 := by omega
          go_wp2
          go_quiet (fail)
          go_wp2
          go_roundw
          case rel =>
            refine ⟨j + 1, (x * y + z + c) / 1000000000, Proofs.YtjemolaobhlapaaGreatDoor.upd g (i + j) ((x * y + z + c) % 1000000000), by omega, by omega, rfl, rfl, ⟨HP.out, HG.out.2.upd (Nat.mod_lt _ (by decide)) (by omega)⟩, (HW.out.1.dN _).other _ _ (by simp <;> omega), (HW.out.2.1.dN _).other _ _ (by simp <;> omega), (HW.out.2.2.1.dN _).other _ _ (by simp <;> omega), ?_, (below_dN HW.out.2.2.2.2 _).setCell (by simp <;> omega) _⟩
            exact (HW.out.2.2.2.1.dN _).limb (by omega) rfl
          case measure => simp [intOf]; omega
        · obtain rfl : j = lb := by omega
          have d30 := (HW.out.2.1.at 30).trans (magF_used _ _)
          have HP := Lib.hid (row_end HLB.out (by omega) HG.out.2 HG.out.1)
          have cg := (HW.out.2.2.2.1.at (i + j)).trans (magF_get _ _ (by omega))
          have fg := HW.out.2.2.2.1.thawed (i + j)
          go_wp2
          go_roundw
          case rel =>
            refine ⟨i + 1, Proofs.YtjemolaobhlapaaGreatDoor.upd g (i + j) c, by omega, rfl, ⟨HP.out, (HG.out.2.more (by omega)).upd hc (by omega)⟩, HW.out.1.other _ _ (by simp <;> omega), HW.out.2.1.other _ _ (by simp <;> omega), HW.out.2.2.1.other _ _ (by simp <;> omega), ?_, HW.out.2.2.2.2.setCell (by simp <;> omega) _⟩
            exact HW.out.2.2.2.1.limb (by omega) rfl
          case measure => simp [intOf]; omega
    · obtain rfl : i = la := by omega
      have c30 := (HW.out.1.at 30).trans (magF_used _ _)
      have d30 := (HW.out.2.1.at 30).trans (magF_used _ _)
      have f30 := HW.out.2.2.2.1.thawed 30
      have e30 := (HW.out.2.2.2.1.at 30).trans (magF_used _ _)
      have HT := Lib.hid (fun W => trimmed_any f (i + lb) HF.out.2.1 HF.out.2.2 hab W)
      have HV := Lib.hid (show val f 30 = a * b by rw [HF.out.1, Nat.mod_eq_of_lt HLA.out])
      have HW2 : Hid (BlockIs (wr.setCell ⟨B + 3, 30, none⟩ (.int .i64 ((i : Int) + lb))) (B + 2) 80 (magF (fun _ => 0) 0) ∧ BlockIs (wr.setCell ⟨B + 3, 30, none⟩ (.int .i64 ((i : Int) + lb))) (B + 3) 80 (magF f (i + lb)) ∧ Below B w (wr.setCell ⟨B + 3, 30, none⟩ (.int .i64 ((i : Int) + lb)))) :=
        ⟨HW.out.2.2.1.other _ _ (by simp <;> omega), HW.out.2.2.2.1.used rfl, HW.out.2.2.2.2.setCell (by simp <;> omega) _⟩
      obtain ⟨W2, hW2⟩ : ∃ W', wr.setCell ⟨B + 1 + 1 + 1, 30, none⟩ (.int .i64 ((i : Int) + lb)) = W' := ⟨_, rfl⟩
      rw [show wr.setCell ⟨B + 3, 30, none⟩ (.int .i64 ((i : Int) + lb)) = W2 from hW2] at HW2
      go_wp2_with (first | ((with_reducible refine wpM_load (f := f) (u := i + lb) (.tmp 5) (B + 3) ?_ HW2.out.2.1 ?_); rfl) | (go_at_call 132; refine (HT.out _).mono ?_; rintro e w1 ⟨rfl, hb1⟩; have HW1 := Lib.hid (show BlockIs w1 (B + 2) 80 (magF (fun _ => 0) 0) ∧ Below B w w1 from ⟨HW2.out.1.below hb1 HW2.out.1.lt, HW2.out.2.2.trans (hb1.mono (by have := HW2.out.1.lt; omega))⟩); clear hb1; rw [HV.out]) | ((with_reducible refine wpM_store (f := limb (a * b)) (u := len (a * b)) (.tmp 4) (.tmp 68) (B + 2) ?_ ?_ HW1.out.1 ?_); rfl; rfl))
      exact bodyPost_ret (retM rfl _ _ (B + 2) rfl (HW1.out.1.row _)) rfl ⟨rfl, hB ▸ below_row HW1.out.2 _ _ (by omega)⟩
end Go.Proofs.YtjemolaobhlapaaGreatDoor

namespace Go.Proofs.YtjemolaobhlapaaGreatDoor
open Go.RowKit
set_option maxRecDepth 100000

/-- Two results: a magnitude out of a block, a number. -/
theorem ret_agg2 {a b : Array Value} {k : IntKind} {x y : Int} (h : a = b) (h2 : x = y) : Ending.returned (.tuple #[.agg a, .int k x]) = .returned (.tuple #[.agg b, .int k y]) := by rw [h, h2]
/-- The limbs from k on are the quotient's. -/
def mixQ (n d k : Nat) : Nat → Nat := fun i => if k ≤ i then limb (n / d) i else limb n i
theorem mixQ_next (n d k : Nat) : upd (mixQ n d (k + 1)) k (limb (n / d) k) = mixQ n d k := by
  funext i
  unfold upd mixQ
  by_cases h : i = k
  · subst h; simp
  · rw [if_neg h]
    by_cases h2 : k ≤ i
    · rw [if_pos h2, if_pos (by omega)]
    · rw [if_neg h2, if_neg (by omega)]
theorem mixQ_at (n d k : Nat) : mixQ n d (k + 1) k = limb n k := by unfold mixQ; rw [if_neg (by omega)]
theorem mixQ_top {n d : Nat} (hn : n < pw 30) : mixQ n d (len n) = limb n := by
  funext i
  unfold mixQ
  by_cases h : len n ≤ i
  · rw [if_pos h, limb_past hn h]
    exact limb_big (Nat.lt_of_le_of_lt (Nat.div_le_self _ _) ((lt_pw_iff hn).2 h))
  · rw [if_neg h]
theorem mixQ_zero (n d : Nat) : mixQ n d 0 = limb (n / d) := by funext i; simp [mixQ]
theorem quo_end {n d : Nat} (hn : n < pw 30) : (∀ k, len n ≤ k → k < 30 → limb (n / d) k = 0) ∧ val (limb (n / d)) 30 = n / d := by
  have h := Nat.lt_of_le_of_lt (Nat.div_le_self n d) hn
  refine ⟨fun k hk _ => limb_big (Nat.lt_of_le_of_lt (Nat.div_le_self _ _) ((lt_pw_iff hn).2 hk)), ?_⟩
  rw [val_limb, Nat.mod_eq_of_lt h]
theorem start2 (n : Nat) (w : World) {B : Nat} (hB : w.heap.size = B) {W : World} (hW : (w.alloc (.cells (mag n) 80)).alloc (.cells (magF (fun _ => 0) 0) 80) = W) :
    BlockIs W B 80 (magF (limb n) (len n)) ∧ BlockIs W (B + 1) 80 (magF (fun _ => 0) 0) ∧ Below B w W := by
  rw [← hW, ← hB]
  refine ⟨(BlockIs.new w _ _).alloc _, ?_, ((Below.refl _ _).alloc (Nat.le_refl _) _).alloc (by simp) _⟩
  have := BlockIs.new (w.alloc (.cells (mag n) 80)) 80 (magF (fun _ => 0) 0)
  rwa [World.size_alloc] at this

set_option maxHeartbeats 4000000 in
theorem divideLimb_any (n d : Nat) (hn : n < pw 30) (hd : 0 < d) (hd2 : d < 4294967296) (w : World) :
    Calls Tryz.prog 181 #[.agg (mag n), .int .u32 d] w fun e w' => e = .returned (.tuple #[.agg (mag (n / d)), .int .u64 ((n % d : Nat) : Int)]) ∧ Below w.heap.size w w' := by
  obtain ⟨B, hB⟩ : ∃ B, w.heap.size = B := ⟨_, rfl⟩
  obtain ⟨W, hW⟩ : ∃ W, (w.alloc (.cells (mag n) 80)).alloc (.cells (magF (fun _ => 0) 0) 80) = W := ⟨_, rfl⟩
  have hst := start2 n w hB hW
  rw [← mixQ_top (d := d) hn] at hst
  have HW := Lib.hid hst
  clear hst
  have c30 := (HW.out.1.at 30).trans (magF_used _ _)
  have h30 := len_30 hn
  have hz0 := zeroM
  have HME := Lib.hid (quo_end (d := d) hn)
  have HP := Lib.hid (div_past (d := d) (len_lt hn))
  obtain ⟨M, hM⟩ : ∃ M, len n = M := ⟨_, rfl⟩
  rw [hM] at HW HME c30 h30 HP
  clear hM hn
  go_enter Tryz.func181, Tryz.ntmps181
  go_wp2
  clear hz0 c30 hW
  go_loopw [6, 7] (fun r x wr => ∃ i q : Nat, i ≤ M ∧ q < d ∧ x = .int .i64 ((i : Int) - 1) ∧ r = .int .u64 q ∧ Hid (n / pw i % d = q) ∧ Hid (BlockIs wr B 80 (magF (mixQ n d i) M) ∧ BlockIs wr (B + 1) 80 (magF (fun _ => 0) 0) ∧ Below B w wr)) (fun _ x _ => (intOf x + 1).toNat)
  case atStart => exact ⟨M, 0, Nat.le_refl _, hd, rfl, rfl, HP.out, HW⟩
  case round =>
    clear HW
    obtain ⟨i, q, hi, hq, rfl, rfl, HC, HW⟩ := hrel
    by_cases h0 : i = 0
    · subst h0
      rw [mixQ_zero] at HW
      have HQ := Lib.hid (show n % d = q by rw [← HC.out, div_first])
      have HT := Lib.hid (fun W => trimmed_any (limb (n / d)) M (fun k _ => limb_lt _ k) HME.out.1 h30 W)
      go_wp2_with (first | ((with_reducible refine wpM_load (.tmp 2) B ?_ HW.out.1 ?_); rfl) | (go_at_call 132; refine (HT.out _).mono ?_; rintro e w1 ⟨rfl, hb1⟩; have HW1 := Lib.hid (show BlockIs w1 (B + 1) 80 (magF (fun _ => 0) 0) ∧ Below B w w1 from ⟨HW.out.2.1.below hb1 HW.out.2.1.lt, HW.out.2.2.trans (hb1.mono (by have := HW.out.2.1.lt; omega))⟩); clear hb1; rw [HME.out.2]) | ((with_reducible refine wpM_store (f := limb (n / d)) (u := len (n / d)) (.tmp 4) (.tmp 36) (B + 1) ?_ ?_ HW1.out.1 ?_); rfl; rfl))
      exact bodyPost_ret (retMV rfl _ _ (B + 1) rfl (HW1.out.1.row _) rfl) rfl ⟨ret_agg2 rfl (by rw [HQ.out]), hB ▸ below_row HW1.out.2 _ _ (by omega)⟩
    · obtain ⟨j, rfl⟩ : ∃ j, i = j + 1 := ⟨i - 1, by omega⟩
      have hj : ((j + 1 : Nat) : Int) - 1 = j := by omega
      rw [hj]
      have ca := (HW.out.1.at j).trans (magF_get _ _ (by omega))
      rw [mixQ_at] at ca
      have fa := HW.out.1.thawed j
      have hs := limb_div n d j hd
      have hn := rest_low n d j hd
      have hxl := limb_lt n j
      have hdl := digit_lt hq hxl
      have hrl := Nat.mod_lt (q * 1000000000 + limb n j) hd
      rw [HC.out] at hs hn
      obtain ⟨x, hx⟩ : ∃ x, limb n j = x := ⟨_, rfl⟩
      rw [hx] at ca hxl hs hn hdl hrl
      have HS := Lib.hid (And.intro hs hn)
      have HDL := Lib.hid (And.intro hdl hrl)
      clear hx hs hn hdl hrl
      go_wp2
      go_region
      go_wp2
      go_roundw
      case rel =>
        refine ⟨j, (q * 1000000000 + x) % d, by omega, HDL.out.2, by first | rfl | (congr 1; omega), rfl, HS.out.2, ?_, (HW.out.2.1.other _ _ (by simp)).drew, ((HW.out.2.2.setCell (by simp) _)).drew⟩
        rw [← mixQ_next, HS.out.1]
        refine (HW.out.1.limb (by omega) ?_).drew
        have := HDL.out.1
        rw [show ((q : Int) * 1000000000 + (x : Int)) / (d : Int) = (((q * 1000000000 + x) / d : Nat) : Int) from rfl]
        generalize (q * 1000000000 + x) / d = z at this ⊢
        omega
      case measure => simp [intOf] <;> omega
end Go.Proofs.YtjemolaobhlapaaGreatDoor

namespace Go.Proofs.YtjemolaobhlapaaGreatDoor
open Go.RowKit
set_option maxRecDepth 100000

theorem wpM_loadG {ops : Array Oper} {rest : List Oper} {a : Act} {w : World} {Q : Exit → Act → World → Prop} {d : Option Tmp} {ty : TypeId} {pos : String} {after : Array _} {gd : Option _} (x : Operand) (B : Nat) {f : Nat → Nat} {u : Nat}
    (hw : Region.wanted { dst := d, op := .load 80 x, type := ty, pos := pos, after := after, guard := gd } (yielded ops a.tmps) = true)
    (hx : a.eval x = .pointer (some ⟨B, 0, none⟩)) (hB : BlockIs w B 80 (magF f u)) (h : wpList Tryz.prog ops Q rest (a.put d (.agg (magF f u))) w) :
    wpList Tryz.prog ops Q ({ dst := d, op := .load 80 x, type := ty, pos := pos, after := after, guard := gd } :: rest) a w :=
  BigFrame.wpList_want hw fun _ hK => wp_load_row 80 x rfl B hx 80 (magF f u) (0, 0) _ hB Tryz.underlying80 rfl (infoF _ _) (hK _ _ h)
theorem infoLM (f : Nat → Nat) (u : Nat) : (Tryz.prog.info? 80).map (·.size) = some (magL f u).length := by rw [magL_len]; exact infoM
theorem loadAtM {w : World} {B : Nat} {f : Nat → Nat} {u : Nat} (hB : BlockIs w B 80 (magF f u)) : (Instr.loadAt 80 (.pointer (some ⟨B, 0, none⟩))).run Tryz.prog w = .ok (.agg (magF f u)) w := by
  simp only [Instr.loadAt, Instr.sureAddr, Sem.run_bind, Sem.run_pure, Result.andThen_ok, loadM hB]

/-- In a region that draws its order: a whole magnitude is loaded first. -/
theorem yM_load {ops : Array Oper} {S : World → Prop} {op : Oper} {a : Act} (hw : Region.wanted op (yielded ops a.tmps) = true) (x : Operand) (ho : op.op = .load 80 x) (B : Nat) (hx : a.eval x = .pointer (some ⟨B, 0, none⟩))
    {f : Nat → Nat} {u : Nat} (hS : ∀ w, S w → BlockIs w B 80 (magF f u)) : YieldsIf Tryz.prog ops S op (.agg (magF f u)) a :=
  .inl ⟨hw, fun w hw' => by
    unfold execOp
    simp only [ho, hx, Instr.loadAt, Instr.sureAddr, Sem.run_bind, Sem.run_pure, Result.andThen_ok, loadM (hS w hw')]⟩

theorem wpM_store1 {o : Oper} {a : Act} {w : World} {K : Act → World → Prop} {Q : Exit → Act → World → Prop} (x y : Operand) (ho : o.op = .store 80 x y) (B : Nat) {f g : Nat → Nat} {u v : Nat}
    (hx : a.eval x = .pointer (some ⟨B, 0, none⟩)) (hy : a.eval y = .agg (magF f u)) (hB : BlockIs w B 80 (magF g v)) (h : K (a.put o.dst undef) (w.setRow B (magF f u))) : o.wp Tryz.prog a w K Q :=
  wp_store_row 80 x y ho B (magF f u) hx hy 80 _ hB (infoF _ _) (by rw [magF_size, magF_size]) (magF_one _ _) h

theorem pw2_30 : pw 2 ≤ pw 30 := pw_mono (by omega)
theorem small_30 {n : Nat} (h : n < 1000000000000000000) : n < pw 30 := Nat.lt_of_lt_of_le (by rw [pw_two]; exact h) pw2_30
theorem gcd_lt {a b : Nat} (ha : a < 18446744073709551616) (hb : b < 18446744073709551616) : Nat.gcd a b < 18446744073709551616 := by
  by_cases h : a = 0
  · subst h; rw [Nat.gcd_zero_left]; exact hb
  · exact Nat.lt_of_le_of_lt (Nat.gcd_le_left b (by omega)) ha

/-- Three blocks of magnitudes, and nothing changed that was there before. -/
structure St3 (w0 : World) (B : Nat) (f g h : Nat → Nat) (u v x : Nat) (w : World) : Prop where
  b0 : BlockIs w B 80 (magF f u)
  b1 : BlockIs w (B + 1) 80 (magF g v)
  b2 : BlockIs w (B + 2) 80 (magF h x)
  bl : Below B w0 w
theorem St3.below {w0 : World} {B : Nat} {f g h : Nat → Nat} {u v x : Nat} {w w' : World} (s : St3 w0 B f g h u v x w) (hb : Below w.heap.size w w') : St3 w0 B f g h u v x w' :=
  ⟨s.b0.below hb s.b0.lt, s.b1.below hb s.b1.lt, s.b2.below hb s.b2.lt, s.bl.trans (hb.mono (by have := s.b0.lt; omega))⟩
theorem St3.dN {w0 : World} {B : Nat} {f g h : Nat → Nat} {u v x : Nat} {w : World} (s : St3 w0 B f g h u v x w) (n : Nat) : St3 w0 B f g h u v x (w.drewN n) := ⟨s.b0.dN n, s.b1.dN n, s.b2.dN n, below_dN s.bl n⟩
theorem St3.drew {w0 : World} {B : Nat} {f g h : Nat → Nat} {u v x : Nat} {w : World} (s : St3 w0 B f g h u v x w) : St3 w0 B f g h u v x w.drew := ⟨s.b0.drew, s.b1.drew, s.b2.drew, s.bl.drew⟩
theorem st3_start (a b : Nat) (w : World) {B : Nat} (hB : w.heap.size = B) {W : World} (hW : ((w.alloc (.cells (mag a) 80)).alloc (.cells (mag b) 80)).alloc (.cells (magF (fun _ => 0) 0) 80) = W) :
    St3 w B (limb a) (limb b) (fun _ => 0) (len a) (len b) 0 W := by
  obtain ⟨h1, h2, h3, h4⟩ := start3 a b w hB hW
  exact ⟨h1, h2, h3, h4⟩

set_option maxHeartbeats 4000000 in
theorem gcd_small (a b : Nat) (ha : a < 1000000000000000000) (hb : b < 1000000000000000000) (hb0 : 0 < b) (w : World) :
    Calls Tryz.prog 92 #[.agg (mag a), .agg (mag b)] w fun e w' => e = .returned (.agg (mag (Nat.gcd a b))) ∧ Below w.heap.size w w' := by
  obtain ⟨B, hB⟩ : ∃ B, w.heap.size = B := ⟨_, rfl⟩
  obtain ⟨W, hW⟩ : ∃ W, ((w.alloc (.cells (mag a) 80)).alloc (.cells (mag b) 80)).alloc (.cells (magF (fun _ => 0) 0) 80) = W := ⟨_, rfl⟩
  have HW := Lib.hid (st3_start a b w hB hW)
  have hz0 := zeroM
  have HZ := Lib.hid (fun W => isZero_any b (small_30 hb) W false (by simp; omega))
  have HS1 := Lib.hid (fun W => isSmall_any a (small_30 ha) W true (by simp [ha]))
  have HS2 := Lib.hid (fun W => isSmall_any b (small_30 hb) W true (by simp [hb]))
  have HW1 := Lib.hid (fun W => word_any a (small_30 ha) W)
  have HW2 := Lib.hid (fun W => word_any b (small_30 hb) W)
  have HM1 := Lib.hid (show a % 18446744073709551616 = a by omega)
  have HM2 := Lib.hid (show b % 18446744073709551616 = b by omega)
  have HG := Lib.hid (fun W => wordGcd_any a b (by omega) (by omega) W)
  have HO := Lib.hid (fun W => ofWord_any (Nat.gcd a b) (gcd_lt (by omega) (by omega)) W)
  clear ha hb hb0
  go_enter Tryz.func92, Tryz.ntmps92
  go_wp2
  clear hz0 hW
  go_loopw [] (fun wr => St3 w B (limb a) (limb b) (fun _ => 0) (len a) (len b) 0 wr) (fun _ => 0)
  case atStart => exact HW.out
  case round =>
    clear HW
    have HW := Lib.hid hrel
    clear hrel
    go_wp2_with (first | ((with_reducible refine wpM_load (.tmp 3) (B + 1) ?_ HW.out.b1 ?_); rfl) | (go_at_call 86; refine (HZ.out _).mono ?_; rintro e w1 ⟨rfl, hb1⟩; have HWa := Lib.hid (HW.out.below hb1); clear hb1) | ((with_reducible refine wpM_load (.tmp 2) B ?_ HWa.out.b0 ?_); rfl) | ((with_reducible refine wpM_loadG (.tmp 3) (B + 1) ?_ ?_ HWb.out.b1 ?_); rfl; rfl) | (go_at_call 145; (with_reducible refine (HS2.out _).mono ?_); rintro e w3 ⟨rfl, hb3⟩; have HWc := Lib.hid (HWb.out.below hb3); clear hb3) | (go_at_call 145; refine (HS1.out _).mono ?_; rintro e w2 ⟨rfl, hb2⟩; have HWb := Lib.hid (HWa.out.below hb2); clear hb2))
    rw [HM1.out] at HW1
    rw [HM2.out] at HW2
    have hH0 := HWc.out.drew
    refine wp_region_held_drew (S := fun w' => ∃ h x, St3 w B (limb a) (limb b) h (len a) (len b) x w') (by kernel_rfl) ⟨_, _, hH0⟩ (fun hS => ?_)
    refine wpAnyH_take (i := 0) rfl (by kernel_rfl) (by kernel_rfl) (by kernel_rfl) (fun _ _ _ h => h) (yM_load rfl (.tmp 2) rfl B rfl (fun w' ⟨_, _, h⟩ => h.b0)) hS ?_
    simp only [Act.put, List.setIfInBounds_toArray, List.set_cons_zero, List.set_cons_succ]
    refine wpAnyH_take (i := 2) rfl (by kernel_rfl) (by kernel_rfl) (by kernel_rfl) (fun _ _ _ h => h) (yM_load rfl (.tmp 3) rfl (B + 1) rfl (fun w' ⟨_, _, h⟩ => h.b1)) hS ?_
    simp only [Act.put, List.setIfInBounds_toArray, List.set_cons_zero, List.set_cons_succ]
    clear hS
    refine wpAnyH_ready (rs := [1]) (by kernel_rfl) (by simp) (AllReadyH.cons rfl (fun K hK => ?_) AllReadyH.nil)
    go_simp
    go_at_call 72
    refine (HW1.out _).mono ?_
    rintro e w4 ⟨rfl, hb4⟩
    have hH4 := hH0.below hb4
    refine hK.out _ _ ⟨_, _, hH4⟩ (fun _ => ?_)
    clear hK K hb4
    try simp only [Act.put, List.setIfInBounds_toArray, List.set_cons_zero, List.set_cons_succ]
    refine wpAnyH_ready (rs := [3]) (by kernel_rfl) (by simp) (AllReadyH.cons rfl (fun K hK => ?_) AllReadyH.nil)
    go_simp
    go_at_call 72
    refine (HW2.out _).mono ?_
    rintro e w5 ⟨rfl, hb5⟩
    have hH5 := hH4.below hb5
    refine hK.out _ _ ⟨_, _, hH5⟩ (fun _ => ?_)
    clear hK K hb5
    try simp only [Act.put, List.setIfInBounds_toArray, List.set_cons_zero, List.set_cons_succ]
    refine wpAnyH_ready (rs := [4]) (by kernel_rfl) (by simp) (AllReadyH.cons rfl (fun K hK => ?_) AllReadyH.nil)
    go_simp
    go_at_call 146
    refine (HG.out _).mono ?_
    rintro e w6 ⟨rfl, hb6⟩
    have hH6 := hH5.below hb6
    refine hK.out _ _ ⟨_, _, hH6⟩ (fun _ => ?_)
    clear hK K hb6
    try simp only [Act.put, List.setIfInBounds_toArray, List.set_cons_zero, List.set_cons_succ]
    refine wpAnyH_ready (rs := [5]) (by kernel_rfl) (by simp) (AllReadyH.cons rfl (fun K hK => ?_) AllReadyH.nil)
    go_simp
    go_at_call 143
    refine (HO.out _).mono ?_
    rintro e w7 ⟨rfl, hb7⟩
    have hH7 := hH6.below hb7
    refine hK.out _ _ ⟨_, _, hH7⟩ (fun _ => ?_)
    clear hK K hb7
    try simp only [Act.put, List.setIfInBounds_toArray, List.set_cons_zero, List.set_cons_succ]
    refine wpAnyH_ready (rs := [6]) (by kernel_rfl) (by simp) (AllReadyH.cons rfl (fun K hK => ?_) AllReadyH.nil)
    rw [if_pos (by rfl)]
    refine wpM_store1 (.tmp 4) (.tmp 21) rfl (B + 2) (f := limb (Nat.gcd a b)) (u := len (Nat.gcd a b)) rfl rfl hH7.b2 ?_
    refine hK.out _ _ ⟨_, _, hH7.b0.rowOther _ _ (by omega), hH7.b1.rowOther _ _ (by omega), hH7.b2.row _, below_row hH7.bl _ _ (by omega)⟩ (fun _ => ?_)
    clear hK K
    refine wpAnyH_done (by kernel_rfl) ?_ _
    go_wp2
    exact bodyPost_ret (retM rfl _ _ (B + 2) rfl (hH7.b2.row _)) rfl ⟨rfl, hB ▸ below_row hH7.bl _ _ (by omega)⟩
end Go.Proofs.YtjemolaobhlapaaGreatDoor
