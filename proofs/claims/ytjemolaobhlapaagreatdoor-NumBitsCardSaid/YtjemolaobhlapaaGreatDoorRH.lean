/- The reference: magnitude (the order of two magnitudes). -/
import Derived.Test.YtjemolaobhlapaaGreatDoorRE
set_option linter.unusedSimpArgs false
set_option linter.unusedVariables false
namespace Go.Proofs.YtjemolaobhlapaaGreatDoor
open Go.RowKit
set_option maxRecDepth 100000

/-- The order of two numbers: -1, 0 or 1. -/
def cmpQ (a b : Nat) : Int := if a = b then 0 else if a < b then -1 else 1
theorem cmpQ_lt {a b : Nat} (h : a < b) : cmpQ a b = -1 := by unfold cmpQ; rw [if_neg (by omega), if_pos h]
theorem cmpQ_gt {a b : Nat} (h : b < a) : cmpQ a b = 1 := by unfold cmpQ; rw [if_neg (by omega), if_neg (by omega)]
theorem ql_less {a b : Nat} (h : ql a < ql b) : a < b := by
  have h1 := lt_qw_iff (n := a) (k := ql a) |>.2 (Nat.le_refl _)
  have h2 := (ql_low (n := b) (by rcases Nat.eq_zero_or_pos b with h0 | h0; (rw [h0, ql_zero] at h; omega); exact h0)).2
  have := qw_mono (i := ql a) (j := ql b - 1) (by omega)
  omega
theorem qtop {a M : Nat} (h : ql a ≤ M) : a / qw M = 0 := Nat.div_eq_of_lt (lt_qw_iff.2 h)

set_option maxHeartbeats 2000000 in
theorem rMag_any (a b : Nat) (va vb : Value) (w : World) (ha : Mag w va a) (hb : Mag w vb b) (la : ql a < 1000000) (lb : ql b < 1000000) (r : Int) (hr : cmpQ a b = r) :
    Calls Tryz.prog 138 #[va, vb] w fun e w' => e = .returned (.int .i64 r) ∧ Below w.heap.size w w' := by
  by_cases hl : ql a = ql b
  · by_cases h0 : ql b = 0
    · obtain ⟨p, c, rfl⟩ := ha.len
      obtain ⟨q, d, rfl⟩ := hb.len
      have h1 : a = 0 := ql_eq_zero.1 (by omega)
      have h2 : b = 0 := ql_eq_zero.1 h0
      subst h1 h2
      have hr0 : r = 0 := by rw [← hr]; rfl
      subst hr0
      rw [ql_zero]
      clear ha hb la lb hr hl h0
      go_enter Tryz.func138, Tryz.ntmps138
      go_wp2
      refine wp_loop_rounds 1 ?_
      rw [rounds_succ]
      go_wp2
      go_ret
      exact ⟨rfl, Below.refl _ _⟩
    · rcases Row.cases ha with ⟨_, h1⟩ | ⟨g, cap, rfl, _, hg, _, _, hc⟩
      · omega
      rcases Row.cases hb with ⟨_, h1⟩ | ⟨j, dap, rfl, _, hj, _, _, hd⟩
      · omega
      have HC := Lib.hid hc
      have HD := Lib.hid hd
      have HR := Lib.hid hr
      have HT := Lib.hid (show a / qw (ql b - 1 + 1) = b / qw (ql b - 1 + 1) by rw [show ql b - 1 + 1 = ql b by omega, qtop (Nat.le_of_eq hl), qtop (Nat.le_refl _)])
      rw [hl] at HC ⊢
      obtain ⟨n, hn⟩ : ∃ n, ql b = n := ⟨_, rfl⟩
      rw [hn] at HC HD HT h0 lb ⊢
      clear ha hb hc hd hr hl la hn
      go_enter Tryz.func138, Tryz.ntmps138
      go_wp2
      go_loopw [5] (fun x wr => ∃ i : Nat, i < n + 1 ∧ x = .int .i64 ((i : Int) - 1) ∧ Hid (a / qw i = b / qw i) ∧ Hid (Below w.heap.size w wr)) (fun x _ => (intOf x + 1).toNat)
      case atStart => exact ⟨n, by omega, rfl, by rw [show n - 1 + 1 = n by omega] at HT; exact HT, Lib.hid (Below.refl _ _)⟩
      case round =>
        clear HT
        obtain ⟨i, hi, rfl, HI, HW⟩ := hrel
        by_cases hz : i = 0
        · subst hz
          have HE := Lib.hid (show r = 0 by rw [← HR.out]; have h := HI.out; rw [qdiv_first, qdiv_first] at h; unfold cmpQ; rw [if_pos h])
          go_wp2
          go_ret
          exact ⟨rret_int HE.out.symm, HW.out⟩
        · obtain ⟨k, rfl⟩ : ∃ k, i = k + 1 := ⟨i - 1, by omega⟩
          have ca := (HW.out.cell (p := ⟨g, k, none⟩) hg).trans (HC.out k (by omega))
          have cb := (HW.out.cell (p := ⟨j, k, none⟩) hj).trans (HD.out k (by omega))
          obtain ⟨x, hx⟩ : ∃ x, dq a k = x := ⟨_, rfl⟩
          obtain ⟨y, hy⟩ : ∃ y, dq b k = y := ⟨_, rfl⟩
          rw [hx] at ca
          rw [hy] at cb
          have HX := Lib.hid (And.intro hx hy)
          clear hx hy
          rw [show (((k + 1 : Nat) : Int) - 1) = (k : Int) by omega]
          have hz : ∀ m, Below w.heap.size w (wr.drewN m) := fun m => below_drewN HW.out m
          have HZ := Lib.hid hz
          clear hz
          by_cases h1 : x < y
          · have HE := Lib.hid (show r = -1 by rw [← HR.out]; exact cmpQ_lt (qlt_of_dq HI.out (by rw [HX.out.1, HX.out.2]; exact h1)))
            go_wp2
            go_quiet (fail)
            go_wp2
            go_ret
            exact ⟨rret_int HE.out.symm, HZ.out _⟩
          · by_cases h2 : y < x
            · have HE := Lib.hid (show r = 1 by rw [← HR.out]; exact cmpQ_gt (qlt_of_dq HI.out.symm (by rw [HX.out.1, HX.out.2]; exact h2)))
              go_wp2
              go_quiet (fail)
              go_wp2
              have HW2 := Lib.hid (HZ.out nq)
              obtain ⟨W2, hW2⟩ : ∃ W', wr.drewN nq = W' := ⟨_, rfl⟩
              rw [hW2] at HW2 ⊢
              clear hW2 HZ HW ca cb
              have ca := (HW2.out.cell (p := ⟨g, k, none⟩) hg).trans ((HC.out k (by omega)).trans (by rw [HX.out.1]))
              have cb := (HW2.out.cell (p := ⟨j, k, none⟩) hj).trans ((HD.out k (by omega)).trans (by rw [HX.out.2]))
              go_quiet (fail)
              go_wp2
              go_ret
              exact ⟨rret_int HE.out.symm, below_drewN HW2.out _⟩
            · have hxy : x = y := by omega
              subst hxy
              have HE := Lib.hid (show a / qw k = b / qw k from qdiv_same HI.out (by rw [HX.out.1, HX.out.2]))
              go_wp2
              go_quiet (fail)
              go_wp2
              have HW2 := Lib.hid (HZ.out nq)
              obtain ⟨W2, hW2⟩ : ∃ W', wr.drewN nq = W' := ⟨_, rfl⟩
              rw [hW2] at HW2 ⊢
              clear hW2 HZ HW ca cb
              have ca := (HW2.out.cell (p := ⟨g, k, none⟩) hg).trans ((HC.out k (by omega)).trans (by rw [HX.out.1]))
              have cb := (HW2.out.cell (p := ⟨j, k, none⟩) hj).trans ((HD.out k (by omega)).trans (by rw [HX.out.2]))
              go_quiet (fail)
              go_wp2
              go_roundw
              case rel => exact ⟨k, by omega, rfl, HE, below_drewN HW2.out _⟩
              case measure => (simp [intOf] <;> omega)
  · obtain ⟨p, c, rfl⟩ := ha.len
    obtain ⟨q, d, rfl⟩ := hb.len
    rcases Nat.lt_or_ge (ql a) (ql b) with h1 | h1
    · have HE := Lib.hid (show r = -1 by rw [← hr]; exact cmpQ_lt (ql_less h1))
      obtain ⟨n, hn⟩ : ∃ n, ql a = n := ⟨_, rfl⟩
      obtain ⟨m, hm⟩ : ∃ n, ql b = n := ⟨_, rfl⟩
      rw [hn, hm] at h1
      rw [hn] at la
      rw [hm] at lb
      rw [hn, hm]
      clear ha hb hr hl hn hm
      go_enter Tryz.func138, Tryz.ntmps138
      go_wp2
      go_ret
      exact ⟨rret_int HE.out.symm, Below.refl _ _⟩
    · have HE := Lib.hid (show r = 1 by rw [← hr]; exact cmpQ_gt (ql_less (by omega)))
      obtain ⟨n, hn⟩ : ∃ n, ql a = n := ⟨_, rfl⟩
      obtain ⟨m, hm⟩ : ∃ n, ql b = n := ⟨_, rfl⟩
      rw [hn, hm] at h1 hl
      rw [hn] at la
      rw [hm] at lb
      rw [hn, hm]
      clear ha hb hr hn hm
      go_enter Tryz.func138, Tryz.ntmps138
      go_wp2
      go_ret
      exact ⟨rret_int HE.out.symm, Below.refl _ _⟩
end Go.Proofs.YtjemolaobhlapaaGreatDoor

namespace Go.Proofs.YtjemolaobhlapaaGreatDoor
open Go.RowKit
set_option maxRecDepth 100000

theorem infoI : (Tryz.prog.info? 3).map (fun i => (i.zero, i.size, i.bytes)) = some (some (.int .i64 0), 1, 8) := by kernel_rfl
theorem limb_dq (a i : Nat) : (if i < ql a then dq a i else 0) = dq a i := by
  by_cases h : i < ql a
  · rw [if_pos h]
  · rw [if_neg h, dq_past (by omega)]
theorem rLimb_mag {a : Nat} {v : Value} {w : World} (hv : Mag w v a) (i : Nat) (hi : i < 1000000) (x : Nat) (hx : dq a i = x) :
    Calls Tryz.prog 141 #[v, .int .i64 i] w fun e w' => e = .returned (.int .i64 x) ∧ w = w' :=
  rLimb_any (dq a) (ql a) v 0 w hv i hi x (by rw [limb_dq]; exact hx)
theorem sum_more {a b i : Nat} (h : i < ql a ∨ i < ql b ∨ 0 < qcar a b i) : i < ql (a + b) := by
  have key : 0 < (a + b) / qw i := by
    rw [← qsum_step]
    have e1 : 0 ≤ a / qw i := Nat.zero_le _
    have e2 : 0 ≤ b / qw i := Nat.zero_le _
    rcases h with h | h | h
    · have h0 : 0 < a := by rcases Nat.eq_zero_or_pos a with h0 | h0; (rw [h0, ql_zero] at h; omega); exact h0
      have h1 := (ql_low h0).2
      have h2 := qw_mono (i := i) (j := ql a - 1) (by omega)
      have h3 := Nat.div_pos (Nat.le_trans h2 h1) (qw_pos i)
      exact Nat.lt_of_lt_of_le h3 (by first | exact Nat.le_trans (Nat.le_add_right _ _) (Nat.le_add_right _ _) | exact Nat.le_trans (Nat.le_add_left _ _) (Nat.le_add_right _ _))
    · have h0 : 0 < b := by rcases Nat.eq_zero_or_pos b with h0 | h0; (rw [h0, ql_zero] at h; omega); exact h0
      have h1 := (ql_low h0).2
      have h2 := qw_mono (i := i) (j := ql b - 1) (by omega)
      have h3 := Nat.div_pos (Nat.le_trans h2 h1) (qw_pos i)
      exact Nat.lt_of_lt_of_le h3 (by first | exact Nat.le_trans (Nat.le_add_right _ _) (Nat.le_add_right _ _) | exact Nat.le_trans (Nat.le_add_left _ _) (Nat.le_add_right _ _))
    · exact Nat.lt_of_lt_of_le h (Nat.le_add_left _ _)
  rcases Nat.lt_or_ge i (ql (a + b)) with h1 | h1
  · exact h1
  · rw [qtop h1] at key; omega
theorem sum_end {a b i : Nat} (h1 : ql a ≤ i) (h2 : ql b ≤ i) (h3 : qcar a b i = 0) : ql (a + b) ≤ i := by
  apply ql_le
  have h := qsum_step a b i
  rw [qtop h1, qtop h2, h3] at h
  rcases Nat.lt_or_ge (a + b) (qw i) with h4 | h4
  · exact h4
  · have := Nat.div_pos h4 (qw_pos i); omega
/-- Two magnitudes that came in, and a row of the call's own. -/
structure Pl (w0 : World) (B : Nat) (va : Value) (a : Nat) (vb : Value) (b : Nat) (v : Value) (f : Nat → Nat) (k : Nat) (w : World) : Prop where
  a : Mag w va a
  b : Mag w vb b
  o : Row w B v f k
  bl : Below B w0 w
  sz : B ≤ w.heap.size
theorem Row.lt {w : World} {b k : Nat} {v : Value} {f : Nat → Nat} (h : Row w b v f k) : ∀ g, v.ownBlock = some g → b ≤ g ∧ g < w.heap.size := World.ownsRow.lt h

theorem new_cell (w : World) (t : TypeId) (x : Value) : ∀ j u, ([x] : List Value)[j]? = some u → (w.alloc (.cells #[x] t)).cell? ((⟨w.heap.size, 0, none⟩ : Addr).add j) = some u := by
  intro j u hj
  match j, hj with
  | 0, hj => 
    simp at hj; subst hj
    exact (BlockIs.new w t #[x]).at 0
  | j + 1, hj => simp at hj
theorem one_int (z : Int) : ∀ u ∈ ([.int .i64 z] : List Value), u.oneCell' = true := by
  intro u hu; simp at hu; subst hu; rfl
/-- What an append of a limb leaves. -/
theorem row_put {w0 w w4 : World} {B i x : Nat} {z : Int} {v v' : Value} {f : Nat → Nat} {o : Obj} (hbl : Below B w0 w) (hsz : B ≤ w.heap.size) (ho : Row w B v f i) (hz : z = x) (hx : x = f i)
    (hown : w4.ownsRow B 3 1 v' (i + 1) (rowL f i ++ [.int .i64 z])) (hg : (w.alloc o).grownBy w4 v.ownBlock) :
    Below B w0 w4 ∧ B ≤ w4.heap.size ∧ Row w4 B v' f (i + 1) := by
  subst hz hx
  refine ⟨(hbl.alloc hsz _).grown hg (by rw [World.size_alloc]; omega) (fun k e => (ho.lt k e).1), ?_, ?_⟩
  · have h1 := hg.size
    rw [World.size_alloc] at h1
    omega
  · unfold Row
    rw [rowL_succ]
    exact hown

set_option maxHeartbeats 2000000 in
theorem rPlus_any (a b : Nat) (va vb : Value) (w : World) (ha : Mag w va a) (hb : Mag w vb b) (ll : ql (a + b) < 100000) :
    Calls Tryz.prog 137 #[va, vb] w fun e w' => ∃ v', e = .returned v' ∧ Mag w' v' (a + b) ∧ Below w.heap.size w w' := by
  obtain ⟨i0, hi0, hz0, hz1, hz2⟩ := info_parts infoI
  obtain ⟨p, c, rfl⟩ := ha.len
  obtain ⟨q, d, rfl⟩ := hb.len
  obtain ⟨B, hB⟩ : ∃ B, w.heap.size = B := ⟨_, rfl⟩
  have HA := Lib.hid ha
  have HBm := Lib.hid hb
  clear ha hb
  have la : ql a ≤ ql (a + b) := ql_mono (by omega)
  have lb : ql b ≤ ql (a + b) := ql_mono (by omega)
  obtain ⟨M, hM⟩ : ∃ M, ql (a + b) = M := ⟨_, rfl⟩
  rw [hM] at la lb ll
  have HM := Lib.hid hM
  clear hM
  have HT := Lib.hid (show Row w B (.slice none 0 0) (dq (a + b)) 0 from World.ownsRow_nil _ _ _ _)
  go_enter Tryz.func137, Tryz.ntmps137
  go_wp2
  go_loopw [5, 6, 7] (fun v c x wr => ∃ i : Nat, i ≤ M ∧ c = .int .i64 (qcar a b i) ∧ x = .int .i64 i ∧ Hid (Below B w wr ∧ B ≤ wr.heap.size ∧ Row wr B v (dq (a + b)) i)) (fun _ _ x _ => M - (intOf x).toNat)
  case atStart => exact ⟨0, Nat.zero_le _, by rw [qcar_zero]; rfl, rfl, Below.refl _ _, by omega, HT.out⟩
  case round =>
    clear HT
    obtain ⟨i, hi, rfl, rfl, HW⟩ := hrel
    have hc1 := qcar_le a b i
    obtain ⟨c1, hcc⟩ : ∃ c, qcar a b i = c := ⟨_, rfl⟩
    have HCC := Lib.hid hcc
    rw [hcc] at hc1 ⊢
    clear hcc
    by_cases hgo : i < ql a ∨ i < ql b ∨ 0 < c1
    · have hlt : i < M := by have h := sum_more (a := a) (b := b) (i := i) (by rw [HCC.out]; exact hgo); rw [HM.out] at h; exact h
      obtain ⟨x, hx⟩ : ∃ x, dq a i = x := ⟨_, rfl⟩
      obtain ⟨y, hy⟩ : ∃ y, dq b i = y := ⟨_, rfl⟩
      have hx4 : x < 10000 := by rw [← hx]; exact dq_lt _ _
      have hy4 : y < 10000 := by rw [← hy]; exact dq_lt _ _
      have HLA := Lib.hid (rLimb_mag (HA.out.below (by rw [hB]; exact HW.out.1)) i (by omega) x hx)
      have HLB := Lib.hid (rLimb_mag (HBm.out.below (by rw [hB]; exact HW.out.1)) i (by omega) y hy)
      have HN := Lib.hid (show (x + y + c1) / 10000 = qcar a b (i + 1) by rw [qcar_next, hx, hy, HCC.out])
      have HS := Lib.hid (show (x + y + c1) % 10000 = dq (a + b) i by rw [dq_sum, hx, hy, HCC.out])
      obtain ⟨la1, hla⟩ : ∃ n, ql a = n := ⟨_, rfl⟩
      obtain ⟨lb1, hlb⟩ : ∃ n, ql b = n := ⟨_, rfl⟩
      rw [hla] at hgo la HLA ⊢
      rw [hlb] at hgo lb HLB ⊢
      clear hx hy hla hlb
      have HO := Lib.hid (show wr.ownsRow B 3 1 _ i (rowL (dq (a + b)) i) from HW.out.2.2)
      have hsz := HW.out.2.1
      have HBL := Lib.hid HW.out.1
      have hmod : ((x : Int) + y + c1) % 10000 = (((x + y + c1) % 10000 : Nat) : Int) := by omega
      have hdiv : ((x : Int) + y + c1) / 10000 = (((x + y + c1) / 10000 : Nat) : Int) := by omega
      have HMD := Lib.hid (And.intro hmod hdiv)
      clear hmod hdiv
      rcases (show i < la1 ∨ (¬ i < la1 ∧ i < lb1) ∨ (¬ i < la1 ∧ ¬ i < lb1 ∧ 0 < c1) by omega) with h1 | ⟨h1, h2⟩ | ⟨h1, h2, h3⟩
      all_goals
        go_wp2_with (first | (go_at_call 141; (with_reducible refine HLA.out.mono ?_); rintro e w1 ⟨rfl, rfl⟩) | (go_at_call 141; (with_reducible refine HLB.out.mono ?_); rintro e w1 ⟨rfl, rfl⟩) | (at_builtin; refine wpList_append_own _ rfl _ _ 72 rfl B 3 i0 _ 1 8 Tryz.underlying72 hi0 hz0 hz1 hz2 rfl (by decide) _ _ _ rfl (HO.out.alloc _) ⟨wr.heap.size, 0, none⟩ 1 1 [.int .i64 (((x : Int) + y + c1) % 10000)] rfl rfl (new_cell _ _ _) (one_int _) (by simp [maxLen]; omega) (by omega) (by simp; omega) ?_; intro v' w4 hown' hg4 _; have HR4 := Lib.hid (row_put HBL.out hsz HW.out.2.2 HMD.out.1 HS.out hown' hg4); clear hown' hg4))
        go_roundw
        case rel => exact ⟨i + 1, by omega, by rw [← HN.out]; exact congrArg _ HMD.out.2, by go_num, HR4.out⟩
        case measure => simp [intOf]; omega
    · have h1 : ¬ i < ql a := by omega
      have h2 : ¬ i < ql b := by omega
      obtain rfl : c1 = 0 := by omega
      have hend := sum_end (a := a) (b := b) (i := i) (by omega) (by omega) HCC.out
      rw [HM.out] at hend
      obtain rfl : i = M := by omega
      have HRES := Lib.hid (show Mag wr _ (a + b) from by have h := HW.out.2.2.base (Nat.zero_le _); unfold Mag; rw [HM.out]; exact h)
      obtain ⟨la1, hla⟩ : ∃ n, ql a = n := ⟨_, rfl⟩
      obtain ⟨lb1, hlb⟩ : ∃ n, ql b = n := ⟨_, rfl⟩
      rw [hla] at h1 la ⊢
      rw [hlb] at h2 lb ⊢
      clear hla hlb hgo
      go_wp2
      go_ret
      exact ⟨_, rfl, HRES.out, hB ▸ HW.out.1⟩
end Go.Proofs.YtjemolaobhlapaaGreatDoor

namespace Go.Proofs.YtjemolaobhlapaaGreatDoor
open Go.RowKit
set_option maxRecDepth 100000

theorem Row.len {w : World} {b k : Nat} {v : Value} {f : Nat → Nat} (h : Row w b v f k) : ∃ po cap, v = .slice po k cap := by
  rcases h.cases with ⟨h1, h2⟩ | ⟨g, cap, h1, _⟩
  · exact ⟨none, 0, by rw [h1, h2]⟩
  · exact ⟨_, _, h1⟩
theorem Row.dN {w : World} {b k : Nat} {v : Value} {f : Nat → Nat} (h : Row w b v f k) (n : Nat) : Row (w.drewN n) b v f k := h
theorem Mag.dN {w : World} {a : Nat} {v : Value} (h : Mag w v a) (n : Nat) : Mag (w.drewN n) v a := h
theorem Mag.drew {w : World} {a : Nat} {v : Value} (h : Mag w v a) : Mag w.drew v a := h
theorem rLimb_quiet {a : Nat} {v : Value} {w : World} (hv : Mag w v a) (i : Nat) (hi : i < 1000000) (x : Nat) (hx : dq a i = x) (n : Nat) :
    Calls Tryz.prog 141 #[v, .int .i64 i] (w.drewN n) fun e w' => e = .returned (.int .i64 x) ∧ w' = w.drewN n :=
  (rLimb_mag (hv.dN n) i hi x hx).mono fun _ _ h => ⟨h.1, h.2.symm⟩
theorem diff_low {x y c : Nat} (hx : x < 10000) (hy : y < 10000) (hc : c ≤ 1) (h : (x : Int) - y - c < 0) : (x : Int) - y - c + 10000 = ((x + 10000 - y - c) % 10000 : Nat) ∧ 1 - (x + 10000 - y - c) / 10000 = 1 := by omega
theorem diff_high {x y c : Nat} (hx : x < 10000) (hy : y < 10000) (hc : c ≤ 1) (h : ¬ (x : Int) - y - c < 0) : (x : Int) - y - c = ((x + 10000 - y - c) % 10000 : Nat) ∧ 1 - (x + 10000 - y - c) / 10000 = 0 := by omega

theorem run_field1 (s : Bool) (po : Option Addr) (l c : Nat) (w : World) : (Instr.field 74 (.agg #[.bool s, .slice po l c]) 1).run Tryz.prog w = .ok (.slice po l c) w := by kernel_rfl

set_option maxHeartbeats 1000000 in
theorem rMinus_row (a b : Nat) (va vb : Value) (w : World) (ha : Mag w va a) (hb : Mag w vb b) (hab : b ≤ a) (ll : ql a < 100000) :
    Calls Tryz.prog 139 #[va, vb] w fun e w' => ∃ v', e = .returned v' ∧ Row w' w.heap.size v' (dq (a - b)) (ql (a - b)) ∧ Below w.heap.size w w' := by
  obtain ⟨i0, hi0, hz0, hz1, hz2⟩ := info_parts infoI
  obtain ⟨q, d, rfl⟩ := hb.len
  obtain ⟨B, hB⟩ : ∃ B, w.heap.size = B := ⟨_, rfl⟩
  have HBm := Lib.hid hb
  have HA := Lib.hid ha
  clear hb
  have HT := Lib.hid (show Row w B (.slice none 0 0) (dq (a - b)) 0 from World.ownsRow_nil _ _ _ _)
  have HTR := Lib.hid (fun (v : Value) (W : World) (h : Row W B v (dq (a - b)) (ql a)) => rTrim_row false (dq (a - b)) (ql a) v B W h (by omega) (fun _ _ => dq_lt _ _) (a - b) (by rw [qv_dq, Nat.mod_eq_of_lt (Nat.lt_of_le_of_lt (Nat.sub_le _ _) (ql_lt a))]) false rfl)
  have HAB := Lib.hid hab
  clear hab
  have hfl := run_field1
  rcases Row.cases ha with ⟨rfl, h0⟩ | ⟨g, cap, rfl, _, hg, _, _, hc⟩
  · rw [h0] at HTR
    have HTR2 := Lib.hid (HTR.out (.slice none 0 0) w HT.out)
    clear ha HTR
    go_enter Tryz.func139, Tryz.ntmps139
    go_wp2
    refine wp_loop_rounds 1 ?_
    rw [rounds_succ]
    go_wp2_with (go_at_call 133; refine HTR2.out.mono ?_; rintro e w1 ⟨v', rfl, hm, hbl⟩; obtain ⟨p', c', rfl⟩ := hm.len)
    go_ret
    exact ⟨_, rfl, hB ▸ hm, hbl⟩
  · have HC := Lib.hid hc
    obtain ⟨n, hn⟩ : ∃ n, ql a = n := ⟨_, rfl⟩
    rw [hn] at HC HTR ll ⊢
    clear ha hc hn
    go_enter Tryz.func139, Tryz.ntmps139
    go_wp2
    go_loopw [5, 6, 7] (fun v c x wr => ∃ i : Nat, i ≤ n ∧ c = .int .i64 (qbor a b i) ∧ x = .int .i64 i ∧ Hid (Below B w wr ∧ B ≤ wr.heap.size ∧ Row wr B v (dq (a - b)) i)) (fun _ _ x _ => n - (intOf x).toNat)
    case atStart => exact ⟨0, Nat.zero_le _, by rw [qbor_zero]; rfl, rfl, Below.refl _ _, by omega, HT.out⟩
    case round =>
      clear HT
      obtain ⟨i, hi, rfl, rfl, HW⟩ := hrel
      have hc1 := qbor_le a b i
      have hN := qbor_next a b i
      have hS := dq_diff a b i HAB.out
      obtain ⟨c1, hcc⟩ : ∃ c, qbor a b i = c := ⟨_, rfl⟩
      rw [hcc] at hc1 hN hS ⊢
      clear hcc
      obtain ⟨p0, c0, rfl⟩ := HW.out.2.2.len
      by_cases hlt : i < n
      · have ca := (HW.out.1.cell (p := ⟨g, i, none⟩) (by rw [← hB]; exact hg)).trans (HC.out i hlt)
        obtain ⟨x, hx⟩ : ∃ x, dq a i = x := ⟨_, rfl⟩
        obtain ⟨y, hy⟩ : ∃ y, dq b i = y := ⟨_, rfl⟩
        have hx4 : x < 10000 := by rw [← hx]; exact dq_lt _ _
        have hy4 : y < 10000 := by rw [← hy]; exact dq_lt _ _
        have HLB := Lib.hid (rLimb_quiet (HBm.out.below (by rw [hB]; exact HW.out.1)) i (by omega) y hy)
        rw [hx] at ca hN hS
        rw [hy] at hN hS
        have HS := Lib.hid hS
        have HN := Lib.hid hN
        clear hx hy hN hS
        have hsz := HW.out.2.1
        go_wp2
        go_quiet (first | (go_at_call 141; exact Calls.quiet_of_same (HLB.out _)))
        have HB2 := Lib.hid (below_drewN HW.out.1 nq)
        have HO2 := Lib.hid (HW.out.2.2.dN nq)
        have hsz : B ≤ (wr.drewN nq).heap.size := HW.out.2.1
        obtain ⟨W2, hW2⟩ : ∃ W', wr.drewN nq = W' := ⟨_, rfl⟩
        rw [hW2] at HB2 HO2 hsz ⊢
        clear hW2 ca HW HLB
        by_cases hneg : (x : Int) - y - c1 < 0
        · have HD := Lib.hid (diff_low hx4 hy4 hc1 hneg)
          go_wp2_with (at_builtin; refine wpList_append_own _ rfl _ _ 72 rfl B 3 i0 _ 1 8 Tryz.underlying72 hi0 hz0 hz1 hz2 rfl (by decide) _ _ _ rfl (World.ownsRow.alloc HO2.out _) ⟨W2.heap.size, 0, none⟩ 1 1 [.int .i64 ((x : Int) - y - c1 + 10000)] rfl rfl (new_cell _ _ _) (one_int _) (by simp [maxLen]; omega) (by omega) (by simp; omega) ?_; intro v' w4 hown' hg4 _; have HR4 := Lib.hid (row_put HB2.out hsz HO2.out HD.out.1 HS.out.symm hown' hg4); clear hown' hg4)
          go_roundw
          case rel => exact ⟨i + 1, by omega, by rw [HN.out, HD.out.2]; rfl, by go_num, HR4.out⟩
          case measure => simp [intOf]; omega
        · have HD := Lib.hid (diff_high hx4 hy4 hc1 hneg)
          go_wp2_with (at_builtin; refine wpList_append_own _ rfl _ _ 72 rfl B 3 i0 _ 1 8 Tryz.underlying72 hi0 hz0 hz1 hz2 rfl (by decide) _ _ _ rfl (World.ownsRow.alloc HO2.out _) ⟨W2.heap.size, 0, none⟩ 1 1 [.int .i64 ((x : Int) - y - c1)] rfl rfl (new_cell _ _ _) (one_int _) (by simp [maxLen]; omega) (by omega) (by simp; omega) ?_; intro v' w4 hown' hg4 _; have HR4 := Lib.hid (row_put HB2.out hsz HO2.out HD.out.1 HS.out.symm hown' hg4); clear hown' hg4)
          go_roundw
          case rel => exact ⟨i + 1, by omega, by rw [HN.out, HD.out.2]; rfl, by go_num, HR4.out⟩
          case measure => simp [intOf]; omega
      · obtain rfl : i = n := by omega
        go_wp2_with (go_at_call 133; refine (HTR.out _ _ HW.out.2.2).mono ?_; rintro e w1 ⟨v', rfl, hm, hbl⟩; obtain ⟨p', c', rfl⟩ := hm.len)
        go_ret
        exact ⟨_, rfl, hB ▸ hm, hB ▸ HW.out.1.trans (hbl.mono HW.out.2.1)⟩
theorem rMinus_any (a b : Nat) (va vb : Value) (w : World) (ha : Mag w va a) (hb : Mag w vb b) (hab : b ≤ a) (ll : ql a < 100000) :
    Calls Tryz.prog 139 #[va, vb] w fun e w' => ∃ v', e = .returned v' ∧ Mag w' v' (a - b) ∧ Below w.heap.size w w' :=
  (rMinus_row a b va vb w ha hb hab ll).mono fun _ _ ⟨v', h1, h2, h3⟩ => ⟨v', h1, h2.base (Nat.zero_le _), h3⟩
end Go.Proofs.YtjemolaobhlapaaGreatDoor
