/- The reference: Times. -/
import Derived.Test.YtjemolaobhlapaaGreatDoorRJ
import Derived.Laws.AppendOwnNone
set_option linter.unusedSimpArgs false
set_option linter.unusedVariables false
namespace Go.Proofs.YtjemolaobhlapaaGreatDoor
open Go.RowKit
set_option maxRecDepth 100000

theorem Bg.dN {w0 : World} {B : Nat} {a b c d : Value} {w : World} (h : Bg w0 B a b c d w) (n : Nat) : Bg w0 B a b c d (w.drewN n) := by
  obtain ⟨h0, h1, ⟨x, y, h2⟩, h3⟩ := h
  exact ⟨h0, h1, ⟨x, y, h2⟩, below_drewN h3 n⟩
theorem Bg.set {w0 : World} {B C i : Nat} {a b c d : Value} {w : World} (h : Bg w0 B a b c d w) (x : Value) (hC : B + 3 ≤ C) : Bg w0 B a b c d (w.setCell ⟨C, i, none⟩ x) := by
  obtain ⟨h0, h1, ⟨u, v, h2⟩, h3⟩ := h
  exact ⟨h0.other _ _ (by simp <;> omega), h1.other _ _ (by simp <;> omega), ⟨u, v, h2.other _ _ (by simp <;> omega)⟩, h3.setCell (by simp <;> omega) _⟩
theorem Bg.grown {w0 : World} {B : Nat} {a b c d : Value} {w w' : World} (h : Bg w0 B a b c d w) (hg : w.grownBy w' none) : Bg w0 B a b c d w' := by
  have hb : Below w.heap.size w w' := ⟨hg.os, hg.tape, hg.output, hg.size, fun k hk => hg.block k hk (by simp)⟩
  exact h.below hb
theorem made_zero (n : Nat) : (madeCells (Value.int .i64 0).cells (n * 1)).toList = rowL (fun _ => 0) n := by
  rw [rowL_rep, Nat.mul_one]
  simp only [madeCells, Value.cells]
  simp [Nat.mod_one, List.map_const']
/-- Two integers and a row to be filled. -/
structure Tm (w0 : World) (B : Nat) (a b c d : Value) (C K : Nat) (f : Nat → Nat) (w : World) : Prop where
  bg : Bg w0 B a b c d w
  row : Row w C (.slice (some ⟨C, 0, none⟩) K K) f K
  hC : B + 3 ≤ C
theorem Tm.dN {w0 : World} {B C K : Nat} {a b c d : Value} {f : Nat → Nat} {w : World} (h : Tm w0 B a b c d C K f w) (n : Nat) : Tm w0 B a b c d C K f (w.drewN n) := ⟨h.bg.dN n, h.row.dN n, h.hC⟩
theorem Tm.put {w0 : World} {B C K i x : Nat} {a b c d : Value} {f : Nat → Nat} {w : World} {z : Int} (h : Tm w0 B a b c d C K f w) (hi : i < K) (hz : z = x) : Tm w0 B a b c d C K (upd f i x) (w.setCell ⟨C, i, none⟩ (.int .i64 z)) := by
  subst hz
  refine ⟨h.bg.set _ h.hC, ?_, h.hC⟩
  have := (World.ownsRow.stored h.row i (.int .i64 x)).1
  unfold Row
  rwa [← rowL_set f x hi]
theorem Tm.cell {w0 : World} {B C K i : Nat} {a b c d : Value} {f : Nat → Nat} {w : World} (h : Tm w0 B a b c d C K f w) (hi : i < K) : w.cell? ⟨C, i, none⟩ = some (.int .i64 (f i)) := by
  rw [World.ownsRow.cellAt h.row i (by omega), rowL_get _ hi]
theorem Tm.free {w0 : World} {B C K : Nat} {a b c d : Value} {f : Nat → Nat} {w : World} (h : Tm w0 B a b c d C K f w) (i : Nat) : w.frozen? ⟨C, i, none⟩ = false := World.ownsRow.frozenAt h.row i
theorem upd_lt {f : Nat → Nat} {i x N : Nat} (h : ∀ k, f k < N) (hx : x < N) : ∀ k, upd f i x k < N := by
  intro k; unfold upd; split
  · exact hx
  · exact h k

set_option maxHeartbeats 8000000 in
theorem rTimes_any (s t : Bool) (a b : Nat) (va vb : Value) (w : World) (ha : Mag w va a) (hb : Mag w vb b) (la : ql a < 40000) (lb : ql b < 40000) (n : Nat) (hn : a * b = n) (r : Bool) (hr : ((s != t) && !decide (n = 0)) = r) :
    Calls Tryz.prog 85 #[.agg #[.bool s, va], .agg #[.bool t, vb]] w fun e w' => ∃ v', e = .returned v' ∧ BigR w r n v' w' := by
  obtain ⟨i0, hi0, hz0, hz1, hz2⟩ := info_parts infoI
  obtain ⟨q, d, rfl⟩ := hb.len
  obtain ⟨B, hB⟩ : ∃ B, w.heap.size = B := ⟨_, rfl⟩
  rcases Row.cases ha with ⟨rfl, h0⟩ | ⟨g, cap, rfl, _, hg, _, _, hc⟩
  · have ha0 : a = 0 := ql_eq_zero.1 h0
    have hn0 : n = 0 := by rw [← hn, ha0, Nat.zero_mul]
    have hr0 : r = false := by rw [← hr, hn0]; simp
    subst hn0 hr0
    obtain ⟨W, hW⟩ : ∃ W, ((w.alloc (.cells #[.bool s, .slice none 0 0] 74)).alloc (.cells #[.bool t, .slice q (ql b) d] 74)).alloc (.cells #[.bool false, .slice none 0 0] 74) = W := ⟨_, rfl⟩
    have HS := Lib.hid (Bg.start hB hW)
    have HSZ := Lib.hid (show W.heap.size = B + 3 by rw [← hW, World.size_alloc, World.size_alloc, World.size_alloc, hB])
    obtain ⟨K, hK⟩ : ∃ K, ql b + 1 = K := ⟨_, rfl⟩
    have HTR := Lib.hid (fun (C : Nat) (W : World) (h : Row W C (.slice (some ⟨C, 0, none⟩) K K) (fun _ => 0) K) => rTrim_any (s != t) (fun _ => 0) K _ C W h (by omega) (fun i _ => (by decide : (0 : Nat) < 10000)) 0 (by rw [qv_cut (Nat.zero_le K) (fun _ _ _ => rfl)]; rfl) false (by simp))
    have hKK : ((ql b : Int) + 1) = (K : Int) := by omega
    obtain ⟨lb1, hlb⟩ : ∃ k, ql b = k := ⟨_, rfl⟩
    rw [hlb] at HS hKK lb hK hW
    rw [hlb]
    have c0 := HS.out.b0.at 0
    have c1 := HS.out.b0.at 1
    have c2 := HS.out.b1.at 0
    have c3 := HS.out.b1.at 1
    clear ha hb hn hr hlb h0 ha0 la
    go_enter Tryz.func85, Tryz.ntmps85
    go_wp2_with (at_make; refine wpList_make_full _ rfl _ _ 72 rfl (B + 3) 3 i0 _ 1 Tryz.underlying72 hi0 hz0 hz1 .i64 .i64 _ _ K rfl rfl rfl rfl (by rw [hz2]; omega) (by unfold maxLen; omega) (by rw [HSZ.out]; omega) ?_; intro w1 hown hgr; rw [HSZ.out, made_zero] at hown; rw [HSZ.out]; have HT0 := Lib.hid (Tm.mk (HS.out.grown hgr) hown (Nat.le_refl _)); clear hown hgr c0 c1 c2 c3; have c0 := HT0.out.bg.b0.at 0; have c1 := HT0.out.bg.b0.at 1; have c2 := HT0.out.bg.b1.at 0; have c3 := HT0.out.bg.b1.at 1)
    refine wp_loop_rounds 1 ?_
    rw [rounds_succ]
    have HT1 := Lib.hid (HTR.out _ w1 HT0.out.row)
    have HBG := Lib.hid HT0.out.bg
    go_wp2_with (go_at_call 133; refine HT1.out.mono ?_; rintro e w2 ⟨v2, rfl, hm2, hb2⟩; obtain ⟨p2, k2, rfl⟩ := hm2.len; have HB2 := Lib.hid (HBG.out.below hb2); have HM2 := Lib.hid hm2; obtain ⟨x2, y2, hd⟩ := HB2.out.b2; have HD := Lib.hid hd; have d0 := HD.out.at 0; have d1 := HD.out.at 1; have e0 := HD.out.thawed 0; have e1 := HD.out.thawed 1; clear hm2 hb2 hd)
    have hbl := (HB2.out.bl.setCell (p := ⟨B + 2, 0, none⟩) (by simp) (.bool false)).setCell (p := ⟨B + 2, 1, none⟩) (by simp) (.slice p2 (ql 0) k2)
    exact bodyPost_ret (retBig rfl _ _ (B + 2) rfl HD.out.two) rfl ⟨_, rfl, p2, k2, rfl, HM2.out.two HD.out, hB ▸ hbl⟩
  · obtain ⟨W, hW⟩ : ∃ W, ((w.alloc (.cells #[.bool s, .slice (some ⟨g, 0, none⟩) (ql a) cap] 74)).alloc (.cells #[.bool t, .slice q (ql b) d] 74)).alloc (.cells #[.bool false, .slice none 0 0] 74) = W := ⟨_, rfl⟩
    have HS := Lib.hid (Bg.start hB hW)
    have HSZ := Lib.hid (show W.heap.size = B + 3 by rw [← hW, World.size_alloc, World.size_alloc, World.size_alloc, hB])
    have HBm := Lib.hid hb
    have HC := Lib.hid hc
    have hlg : g < B := by omega
    obtain ⟨K, hK⟩ : ∃ K, ql a + ql b + 1 = K := ⟨_, rfl⟩
    have HTR := Lib.hid (fun (C : Nat) (f : Nat → Nat) (W : World) (h : Row W C (.slice (some ⟨C, 0, none⟩) K K) f K) (hf : ∀ k, f k < 10000) (hv : qv f K = n) => rTrim_any (s != t) f K _ C W h (by omega) (fun i _ => hf i) n hv r hr)
    have HN := Lib.hid hn
    have HEND := Lib.hid (show a % qw (ql a) * b = n by rw [Nat.mod_eq_of_lt (ql_lt a), hn])
    have hKK : ((ql a : Int) + ql b + 1) = (K : Int) := by omega
    obtain ⟨la1, hla⟩ : ∃ k, ql a = k := ⟨_, rfl⟩
    obtain ⟨lb1, hlb⟩ : ∃ k, ql b = k := ⟨_, rfl⟩
    have HLB := Lib.hid hlb
    rw [hla] at HC HS hKK la hK HEND hW
    rw [hlb] at HS hKK lb hK hW
    have HBm2 := Lib.hid (show Mag w (.slice q lb1 d) b by rw [← hlb]; exact HBm.out)
    rw [hla, hlb]
    have c0 := HS.out.b0.at 0
    have c1 := HS.out.b0.at 1
    have c2 := HS.out.b1.at 0
    have c3 := HS.out.b1.at 1
    clear ha hb hc hn hr HBm hla hlb
    go_enter Tryz.func85, Tryz.ntmps85
    go_wp2_with (at_make; refine wpList_make_full _ rfl _ _ 72 rfl (B + 3) 3 i0 _ 1 Tryz.underlying72 hi0 hz0 hz1 .i64 .i64 _ _ K rfl rfl rfl rfl (by rw [hz2]; omega) (by unfold maxLen; omega) (by rw [HSZ.out]; omega) ?_; intro w1 hown hgr; rw [HSZ.out, made_zero] at hown; rw [HSZ.out]; have HT0 := Lib.hid (Tm.mk (HS.out.grown hgr) hown (Nat.le_refl _)); clear hown hgr)
    go_loopw [6] (fun x wr => ∃ i : Nat, i ≤ la1 ∧ x = .int .i64 i ∧ ∃ f : Nat → Nat, Hid (Tm w B (.bool s) (.slice (some ⟨g, 0, none⟩) la1 cap) (.bool t) (.slice q lb1 d) (B + 3) K f wr ∧ (∀ k, f k < 10000) ∧ qv f K = a % qw i * b)) (fun x _ => la1 - (intOf x).toNat)
    case atStart => exact ⟨0, Nat.zero_le _, rfl, fun _ => 0, HT0.out, fun _ => (by decide : (0 : Nat) < 10000), by rw [qv_cut (Nat.zero_le K) (fun _ _ _ => rfl)]; simp [qv, qw, Nat.mod_one]⟩
    case round =>
      clear HT0 c0 c1 c2 c3
      obtain ⟨i, hi, rfl, f, HT⟩ := hrel
      have c0 := HT.out.1.bg.b0.at 0
      have c1 := HT.out.1.bg.b0.at 1
      have c2 := HT.out.1.bg.b1.at 0
      have c3 := HT.out.1.bg.b1.at 1
      by_cases hlt : i < la1
      · go_wp2
        go_loopw [7, 8] (fun cc y wr2 => ∃ j c : Nat, j ≤ lb1 + 1 ∧ c < 10000 ∧ cc = .int .i64 c ∧ y = .int .i64 j ∧ ∃ f : Nat → Nat, Hid (Tm w B (.bool s) (.slice (some ⟨g, 0, none⟩) la1 cap) (.bool t) (.slice q lb1 d) (B + 3) K f wr2 ∧ (∀ k, f k < 10000) ∧ qv f K + c * qw (i + j) = qprod a b i j)) (fun _ y _ => lb1 + 2 - (intOf y).toNat)
        case atStart => exact ⟨0, 0, Nat.zero_le _, by omega, rfl, rfl, f, HT.out.1, HT.out.2.1, by rw [qpart_zero, HT.out.2.2]; omega⟩
        case round =>
          clear HT c0 c1 c2 c3
          obtain ⟨j, c, hj, hc, rfl, rfl, f2, HT⟩ := hrel
          have c0 := HT.out.1.bg.b0.at 0
          have c1 := HT.out.1.bg.b0.at 1
          have c2 := HT.out.1.bg.b1.at 0
          have c3 := HT.out.1.bg.b1.at 1
          by_cases hgo : j < lb1 ∨ 0 < c
          · have hj2 : j ≤ lb1 := by
              rcases Nat.lt_or_ge lb1 j with h | h
              · have := qpart_room HT.out.2.2 (by rw [HLB.out]; exact h); omega
              · exact h
            have hijK : i + j < K := by omega
            have co := HT.out.1.cell hijK
            have ca := (HT.out.1.bg.bl.cell (p := ⟨g, i, none⟩) hlg).trans (HC.out i hlt)
            obtain ⟨x, hx⟩ : ∃ x, dq a i = x := ⟨_, rfl⟩
            obtain ⟨y, hy⟩ : ∃ y, dq b j = y := ⟨_, rfl⟩
            obtain ⟨z, hz⟩ : ∃ z, f2 (i + j) = z := ⟨_, rfl⟩
            have HL := Lib.hid (rLimb_quiet (HT.out.1.bg.mag hB HBm2.out) j (by omega) y hy)
            rw [hx] at ca
            rw [hz] at co
            have hx4 : x < 10000 := by rw [← hx]; exact dq_lt _ _
            have hy4 : y < 10000 := by rw [← hy]; exact dq_lt _ _
            have hz4 : z < 10000 := by rw [← hz]; exact HT.out.2.1 _
            have hm : x * y ≤ 99980001 := Nat.le_trans (Nat.mul_le_mul (show x ≤ 9999 by omega) (show y ≤ 9999 by omega)) (by decide)
            have hm1 : ((x : Int) * y) = ((x * y : Nat) : Int) := by rw [Int.natCast_mul]
            have HR := Lib.hid (show ((z : Int) + (x : Int) * y + c) % 10000 = (((z + x * y + c) % 10000 : Nat) : Int) ∧ ((z : Int) + (x : Int) * y + c) / 10000 = (((z + x * y + c) / 10000 : Nat) : Int) ∧ (z + x * y + c) / 10000 < 10000 by rw [hm1]; omega)
            have hq1 : (x : Int) * y ≤ 99980001 := by rw [hm1]; omega
            have hq0 : 0 ≤ (x : Int) * y := by rw [hm1]; omega
            have HP := Lib.hid (show qv (upd f2 (i + j) ((z + x * y + c) % 10000)) K + (z + x * y + c) / 10000 * qw (i + (j + 1)) = qprod a b i (j + 1) by
              have h := qpart_step (K := K) (a := a) (b := b) (i := i) (j := j) (c := c) (f := f2) hijK HT.out.2.2
              rw [hx, hy, hz] at h
              exact h)
            have HJ := Lib.hid (show j + 1 ≤ lb1 + 1 by omega)
            clear hx hy hz hm hm1
            have HTd := Lib.hid (fun m => HT.out.1.dN m)
            have HF := Lib.hid HT.out.2.1
            rcases (show j < lb1 ∨ (¬ j < lb1 ∧ 0 < c) by omega) with h1 | ⟨h1, h2⟩
            all_goals
              go_wp2
              go_quiet (first | (go_at_call 141; exact Calls.quiet_of_same (HL.out _)))
              have HT2 := Lib.hid (HTd.out nq)
              obtain ⟨W2, hW2⟩ : ∃ W', wr.drewN nq = W' := ⟨_, rfl⟩
              rw [hW2] at HT2 ⊢
              clear hW2 ca co c0 c1 c2 c3 HT HL HTd
              have co := HT2.out.cell hijK
              have cf := HT2.out.free (i + j)
              go_wp2
              go_roundw
              case rel => exact ⟨j + 1, (z + x * y + c) / 10000, HJ.out, HR.out.2.2, congrArg _ HR.out.2.1, by go_num, _, HT2.out.put hijK HR.out.1, upd_lt HF.out (Nat.mod_lt _ (by decide)), HP.out⟩
              case measure => simp [intOf]; omega
          · have h1 : ¬ j < lb1 := by omega
            obtain rfl : c = 0 := by omega
            have HE := Lib.hid (show qv f2 K = a % qw (i + 1) * b by have h := HT.out.2.2; rw [qpart_end (Nat.lt_of_lt_of_le (ql_lt b) (qw_mono (by rw [HLB.out]; omega)))] at h; omega)
            go_wp2
            go_roundw
            case rel => exact ⟨i + 1, by omega, by go_num, f2, HT.out.1, HT.out.2.1, HE.out⟩
            case measure => simp [intOf]; omega
      · obtain rfl : i = la1 := by omega
        have HT1 := Lib.hid (HTR.out _ f wr HT.out.1.row HT.out.2.1 (by rw [HT.out.2.2]; exact HEND.out))
        have HBG := Lib.hid HT.out.1.bg
        clear HT
        go_wp2_with (go_at_call 133; refine HT1.out.mono ?_; rintro e w2 ⟨v2, rfl, hm2, hb2⟩; obtain ⟨p2, k2, rfl⟩ := hm2.len; have HB2 := Lib.hid (HBG.out.below hb2); have HM2 := Lib.hid hm2; obtain ⟨x2, y2, hd⟩ := HB2.out.b2; have HD := Lib.hid hd; have d0 := HD.out.at 0; have d1 := HD.out.at 1; have e0 := HD.out.thawed 0; have e1 := HD.out.thawed 1; clear hm2 hb2 hd)
        have hbl := (HB2.out.bl.setCell (p := ⟨B + 2, 0, none⟩) (by simp) (.bool r)).setCell (p := ⟨B + 2, 1, none⟩) (by simp) (.slice p2 (ql n) k2)
        exact bodyPost_ret (retBig rfl _ _ (B + 2) rfl HD.out.two) rfl ⟨_, rfl, p2, k2, rfl, HM2.out.two HD.out, hB ▸ hbl⟩
end Go.Proofs.YtjemolaobhlapaaGreatDoor

namespace Go.Proofs.YtjemolaobhlapaaGreatDoor
open Go.RowKit
set_option maxRecDepth 100000

theorem one_mag (w : World) {d : Nat} (h1 : 1 ≤ d) (h2 : d < 10000) : Mag (w.alloc (.cells #[.int .i64 d] 3)) (.slice (some ⟨w.heap.size, 0, none⟩) 1 1) d := by
  have h : Row (w.alloc (.cells #[.int .i64 d] 3)) 0 (.slice (some ⟨w.heap.size, 0, none⟩) 1 1) (fun _ => d) 1 :=
    World.ownsRow_lit w #[.int .i64 d] 1 (Nat.zero_le _) (by unfold maxLen; omega) rfl
  exact h.mag (by simp [qv, qw]) (fun _ _ => h2) (Or.inr h1)
theorem ql_small {d : Nat} (h1 : 1 ≤ d) (h2 : d < 10000) : ql d = 1 := by
  have h := ql_le (n := d) (k := 1) (by simp [qw]; omega)
  have := (ql_low (n := d) (by omega)).1
  omega

set_option maxHeartbeats 4000000 in
theorem rByLimb_any (a d : Nat) (va : Value) (w : World) (ha : Mag w va a) (la : ql a < 30000) (h1 : 1 ≤ d) (h2 : d < 10000) (n : Nat) (hn : a * d = n) :
    Calls Tryz.prog 183 #[va, .int .i64 d] w fun e w' => ∃ v, e = .returned v ∧ MagR w n v w' := by
  obtain ⟨p, c, rfl⟩ := ha.len
  have hb0 : Below w.heap.size w (w.alloc (.cells #[.int .i64 d] 3)) := (Below.refl _ _).alloc (Nat.le_refl _) _
  have HT := Lib.hid (rTimes_any false false a d _ _ (w.alloc (.cells #[.int .i64 d] 3)) (ha.below hb0) (one_mag w h1 h2) (by omega) (by rw [ql_small h1 h2]; omega) n hn false (by simp))
  have hfl := run_field1
  have HB0 := Lib.hid hb0
  clear ha la h1 h2 hn hb0
  go_enter Tryz.func183, Tryz.ntmps183
  go_wp2_with (go_at_call 85; refine HT.out.mono ?_; rintro e w1 ⟨v1, rfl, p1, k1, rfl, hm1, hb1⟩)
  go_ret
  exact ⟨_, rfl, p1, k1, rfl, hm1, HB0.out.trans (hb1.mono HB0.out.size)⟩

/-- A row behind a row. -/
def cat (f : Nat → Nat) (n : Nat) (g : Nat → Nat) : Nat → Nat := fun i => if i < n then f i else g (i - n)
theorem rowL_cat (f : Nat → Nat) (n : Nat) (g : Nat → Nat) (m : Nat) : rowL (cat f n g) (n + m) = rowL f n ++ rowL g m := by
  apply List.ext_getElem?
  intro j
  by_cases h1 : j < n
  · rw [rowL_get _ (by omega), List.getElem?_append_left (by rw [rowL_len]; exact h1), rowL_get _ h1]
    simp [cat, h1]
  · by_cases h2 : j < n + m
    · rw [rowL_get _ h2, List.getElem?_append_right (by rw [rowL_len]; omega), rowL_len, rowL_get _ (by omega)]
      simp [cat, h1]
    · rw [List.getElem?_eq_none (by rw [rowL_len]; omega), List.getElem?_eq_none (by rw [List.length_append, rowL_len, rowL_len]; omega)]
theorem qv_cat1 (d : Nat) (g : Nat → Nat) (m : Nat) : qv (cat (fun _ => d) 1 g) (1 + m) = d + 10000 * qv g m := by
  induction m with
  | zero => simp [qv, cat, qw]
  | succ m ih =>
    rw [show 1 + (m + 1) = (1 + m) + 1 by omega, qv_succ, ih, qv_succ]
    have h1 : cat (fun _ => d) 1 g (1 + m) = g m := by
      unfold cat; rw [if_neg (by omega)]; congr 1; omega
    rw [h1, show qw (1 + m) = 10000 * qw m by rw [Nat.add_comm, qw_succ, Nat.mul_comm], Nat.mul_add]
    have : g m * (10000 * qw m) = 10000 * (g m * qw m) := by ac_rfl
    omega

/-- append(s, x...) of rows of limbs, x nil or not. -/
theorem wpI_append {w : World} {ops : Array Oper} {rest : List Oper} {o : Oper} {a : Act} {Q : Exit → Act → World → Prop} (hgd : o.guard = none) (s x : Operand)
    (ho : o.op = .call { callee := .builtin .append, args := #[s, x], argTypes := #[72, 72] }) (base : Nat) (v : Value) (n : Nat) (f : Nat → Nat) (hs : a.eval s = v) (hown : Row w base v f n)
    (vs : Value) (m : Nat) (g : Nat → Nat) (hx : a.eval x = vs) (hsrc : Row w 0 vs g m) (hnm : n + m < 1000000) (hbase : base ≤ w.heap.size)
    (h : ∀ v' w', Row w' base v' (cat f n g) (n + m) → w.grownBy w' v.ownBlock → wpList Tryz.prog ops Q rest (a.put o.dst v') w') : wpList Tryz.prog ops Q (o :: rest) a w := by
  obtain ⟨i0, hi0, hz0, hz1, hz2⟩ := info_parts infoI
  rcases hsrc.cases with ⟨rfl, rfl⟩ | ⟨gb, cap, rfl, _, hg, _, _, hc⟩
  · refine wpList_append_own_none hgd s x 72 ho base 3 i0 1 Tryz.underlying72 hi0 v n (rowL f n) hs hown hx ?_
    refine h v w ?_ (World.grownBy.refl _ _)
    exact hown.congr fun i hi => by unfold cat; rw [if_pos hi]
  · refine wpList_append_own w hgd s x 72 ho base 3 i0 _ 1 8 Tryz.underlying72 hi0 hz0 hz1 hz2 rfl (by decide) v n (rowL f n) hs hown ⟨gb, 0, none⟩ m cap (rowL g m) hx (by rw [rowL_len]; omega) ?_ (rowL_one _ _) (by unfold maxLen; omega) (by omega) hbase fun v' w' h1 h2 _ => h v' w' (by unfold Row; rw [rowL_cat]; exact h1) h2
    intro j u hj
    have hjm : j < m := by have := (List.getElem?_eq_some_iff.1 hj).1; rwa [rowL_len] at this
    rw [rowL_get _ hjm] at hj
    rw [show ((⟨gb, 0, none⟩ : Addr).add j) = ⟨gb, j, none⟩ by unfold Addr.add; split <;> simp_all, hc j hjm]
    exact hj
end Go.Proofs.YtjemolaobhlapaaGreatDoor

namespace Go.Proofs.YtjemolaobhlapaaGreatDoor
open Go.RowKit
set_option maxRecDepth 100000

/-- The quotient's row when the places from i on are done. -/
def quo (q i : Nat) : Nat → Nat := fun k => if i ≤ k then dq q k else 0
theorem quo_next {q i j : Nat} : upd (quo q (i + 1)) i (dq q i) j = quo q i j := by
  unfold upd quo
  by_cases h : j = i
  · subst h; rw [if_pos rfl, if_pos (Nat.le_refl _)]
  · rw [if_neg h]
    by_cases h2 : i ≤ j
    · rw [if_pos (by omega), if_pos h2]
    · rw [if_neg (by omega), if_neg h2]
theorem quo_zero (q : Nat) : quo q 0 = dq q := by funext k; simp [quo]
theorem qdig {a b k d : Nat} (hb : 0 < b) (h1 : d * b ≤ a / qw (k + 1) % b * 10000 + dq a k) (h2 : a / qw (k + 1) % b * 10000 + dq a k < (d + 1) * b) : dq (a / b) k = d := by
  rw [dq_div _ _ _ hb]
  exact Nat.div_eq_of_lt_le (by omega) (by omega)
theorem rest_ok {R b d : Nat} (h1 : d * b ≤ R) (h2 : R < (d + 1) * b) : R % b = R - b * d := by
  have e : R = b * d + (R - b * d) := by rw [Nat.mul_comm]; omega
  have h3 : R - b * d < b := by rw [Nat.add_mul] at h2; rw [Nat.mul_comm b d]; omega
  have h4 : (b * d + (R - b * d)) % b = R - b * d := by rw [Nat.mul_add_mod, Nat.mod_eq_of_lt h3]
  rw [← e] at h4
  exact h4
theorem over_lt {a b k : Nat} (hb : 0 < b) : a / qw (k + 1) % b * 10000 + dq a k < b * 10000 := by
  have h1 := Nat.mod_lt (a / qw (k + 1)) hb
  have h2 := dq_lt a k
  have h3 : (a / qw (k + 1) % b + 1) * 10000 ≤ b * 10000 := Nat.mul_le_mul_right _ h1
  omega
theorem rest_low' {a b k R : Nat} (hR : a / qw (k + 1) % b * 10000 + dq a k = R) : 0 < b → a / qw k % b = R % b := fun hb => by rw [qrest_low a b k hb, hR]
/-- The state between the rounds: the quotient's row, the rest, and what came in. -/
structure Ov (w0 : World) (B la : Nat) (f : Nat → Nat) (v : Value) (r : Nat) (w : World) : Prop where
  row : Row w B (.slice (some ⟨B, 0, none⟩) la la) f la
  rest : Row w (B + 1) v (dq r) (ql r)
  bl : Below B w0 w
  sz : B < w.heap.size
theorem Ov.below {w0 : World} {B la : Nat} {f : Nat → Nat} {v : Value} {r : Nat} {w w' : World} (h : Ov w0 B la f v r w) (hb : Below w.heap.size w w') : Ov w0 B la f v r w' :=
  ⟨h.row.below hb, h.rest.below hb, h.bl.trans (hb.mono (Nat.le_of_lt h.sz)), Nat.lt_of_lt_of_le h.sz hb.size⟩
theorem Ov.with {w0 : World} {B la : Nat} {f : Nat → Nat} {v v2 : Value} {r r2 : Nat} {w w' : World} (h : Ov w0 B la f v r w) (hb : Below w.heap.size w w') (hr : Row w' (B + 1) v2 (dq r2) (ql r2)) : Ov w0 B la f v2 r2 w' :=
  ⟨h.row.below hb, hr, (h.below hb).bl, (h.below hb).sz⟩
/-- A row elsewhere, behind a store into a block. -/
theorem Row.past {w : World} {b k C i : Nat} {v x : Value} {f : Nat → Nat} (h : Row w b v f k) (hC : C < b) : Row (w.setCell ⟨C, i, none⟩ x) b v f k := by
  refine ⟨h.1, ?_⟩
  rcases h.2 with h1 | ⟨g, cap, cur, h1, h2, h3, h4⟩
  · exact .inl h1
  · exact .inr ⟨g, cap, cur, h1, h2, by rw [heap_setCell_other w ⟨C, i, none⟩ g x (by simp; omega)]; exact h3, h4⟩
theorem Ov.put {w0 : World} {B la : Nat} {f : Nat → Nat} {v : Value} {r i x : Nat} {z : Int} {w : World} (h : Ov w0 B la f v r w) (hi : i < la) (hz : z = x) : Ov w0 B la (upd f i x) v r (w.setCell ⟨B, i, none⟩ (.int .i64 z)) := by
  subst hz
  refine ⟨?_, h.rest.past (Nat.lt_succ_self _), h.bl.setCell (by simp) _, by simpa using h.sz⟩
  have := (World.ownsRow.stored h.row i (.int .i64 x)).1
  unfold Row
  rwa [← rowL_set f x hi]
theorem Ov.free {w0 : World} {B la : Nat} {f : Nat → Nat} {v : Value} {r : Nat} {w : World} (h : Ov w0 B la f v r w) (i : Nat) : w.frozen? ⟨B, i, none⟩ = false := World.ownsRow.frozenAt h.row i
theorem Ov.cell {w0 : World} {B la i : Nat} {f : Nat → Nat} {v : Value} {r : Nat} {w : World} (h : Ov w0 B la f v r w) (hi : i < la) : w.cell? ⟨B, i, none⟩ = some (.int .i64 (f i)) := by
  rw [World.ownsRow.cellAt h.row i (by omega), rowL_get _ hi]

set_option maxHeartbeats 8000000 in
theorem rOver_any (a b : Nat) (va vb : Value) (w : World) (ha : Mag w va a) (hb : Mag w vb b) (la : ql a < 20000) (lb : ql b < 20000) (hb0 : 0 < b) :
    Calls Tryz.prog 144 #[va, vb] w fun e w' => ∃ v1 v2, e = .returned (.tuple #[v1, v2]) ∧ Mag w' v1 (a / b) ∧ Mag w' v2 (a % b) ∧ Below w.heap.size w w' := by
  obtain ⟨i0, hi0, hz0, hz1, hz2⟩ := info_parts infoI
  obtain ⟨q, d, rfl⟩ := hb.len
  obtain ⟨B, hB⟩ : ∃ B, w.heap.size = B := ⟨_, rfl⟩
  have hfl := run_field1
  have HBm := Lib.hid hb
  have HB0 := Lib.hid hb0
  rcases Row.cases ha with ⟨rfl, h0⟩ | ⟨g, cap, rfl, _, hg, _, _, hc⟩
  · have ha0 : a = 0 := ql_eq_zero.1 h0
    subst ha0
    have HT := Lib.hid (fun (W : World) (h : Row W B (.slice (some ⟨B, 0, none⟩) 0 0) (fun _ => 0) 0) => rTrim_row false (fun _ => 0) 0 _ B W h (by omega) (fun i _ => (by decide : (0 : Nat) < 10000)) 0 rfl false rfl)
    rw [Nat.zero_div, Nat.zero_mod]
    clear ha hb hb0 la lb h0
    go_enter Tryz.func144, Tryz.ntmps144
    go_wp2_with (at_make; refine wpList_make_full _ rfl _ _ 72 rfl B 3 i0 _ 1 Tryz.underlying72 hi0 hz0 hz1 .i64 .i64 _ _ 0 rfl rfl rfl rfl (by rw [hz2]; omega) (by unfold maxLen; omega) (by rw [hB]; omega) ?_; intro w1 hown hgr; rw [hB, made_zero] at hown; rw [hB]; have HW1 := Lib.hid (And.intro hown hgr); clear hown hgr)
    have HT1 := Lib.hid (HT.out w1 HW1.out.1)
    have HBL := Lib.hid (show Below B w w1 from ⟨HW1.out.2.os, HW1.out.2.tape, HW1.out.2.output, by have := HW1.out.2.size; omega, fun j hj => HW1.out.2.block j (by omega) (by simp)⟩)
    refine wp_loop_rounds 1 ?_
    rw [rounds_succ]
    go_wp2_with (go_at_call 133; refine HT1.out.mono ?_; rintro e w2 ⟨v2, rfl, hm2, hb2⟩; obtain ⟨p2, k2, rfl⟩ := hm2.len; have HM3 := Lib.hid (And.intro (hm2.base (Nat.zero_le _)) hb2); clear hm2 hb2)
    go_ret2
    exact ⟨_, _, rfl, HM3.out.1, Mag.zero _, hB ▸ HBL.out.trans (HM3.out.2.mono (by have := HW1.out.2.size; omega))⟩
  · have HC := Lib.hid hc
    have hlg : g < B := by omega
    have HTQ := Lib.hid (fun (W : World) (h : Row W B (.slice (some ⟨B, 0, none⟩) (ql a) (ql a)) (quo (a / b) 0) (ql a)) => rTrim_row false (dq (a / b)) (ql a) _ B W (by rw [← quo_zero]; exact h) (by omega) (fun i _ => dq_lt _ _) (a / b) (by rw [qv_dq, Nat.mod_eq_of_lt (Nat.lt_of_le_of_lt (Nat.div_le_self a b) (ql_lt a))]) false rfl)
    have HT0 := Lib.hid (show a / qw (ql a) % b = 0 by rw [Nat.div_eq_of_lt (ql_lt a), Nat.zero_mod])
    have HQT := Lib.hid (show ∀ k, k < ql a → (fun _ => 0 : Nat → Nat) k = quo (a / b) (ql a) k from fun k hk => by unfold quo; rw [if_neg (by omega)])
    obtain ⟨la1, hla⟩ : ∃ k, ql a = k := ⟨_, rfl⟩
    have HLA := Lib.hid hla
    rw [hla] at HC HTQ HT0 HQT la
    rw [hla]
    clear ha hb hc hla hb0
    go_enter Tryz.func144, Tryz.ntmps144
    go_wp2_with (at_make; refine wpList_make_full _ rfl _ _ 72 rfl B 3 i0 _ 1 Tryz.underlying72 hi0 hz0 hz1 .i64 .i64 _ _ la1 rfl rfl rfl rfl (by rw [hz2]; omega) (by unfold maxLen; omega) (by rw [hB]; omega) ?_; intro w1 hown hgr; rw [hB, made_zero] at hown; rw [hB]; have HW1 := Lib.hid (And.intro hown hgr); clear hown hgr)
    go_loopw [7, 8] (fun v x wr => ∃ i : Nat, i ≤ la1 ∧ x = .int .i64 ((i : Int) - 1) ∧ Hid (Ov w B la1 (quo (a / b) i) v (a / qw i % b) wr)) (fun _ x _ => (intOf x + 1).toNat)
    case atStart =>
      have hr1 : Row w1 B (.slice (some ⟨B, 0, none⟩) la1 la1) (quo (a / b) la1) la1 := Row.congr HW1.out.1 HQT.out
      refine ⟨la1, Nat.le_refl _, rfl, hr1, ?_, ⟨HW1.out.2.os, HW1.out.2.tape, HW1.out.2.output, by have := HW1.out.2.size; omega, fun j hj => HW1.out.2.block j (by omega) (by simp)⟩, (hr1.lt B rfl).2⟩
      rw [HT0.out, ql_zero]
      exact World.ownsRow_nil _ _ _ _
    case round =>
      clear HW1
      obtain ⟨i, hi, rfl, HT⟩ := hrel
      obtain ⟨p0, k0, rfl⟩ := HT.out.rest.len
      by_cases hz : i = 0
      · subst hz
        have HT2 := Lib.hid (HTQ.out _ HT.out.row)
        have HM2 := Lib.hid (show Mag wr _ (a % b) from by have h := HT.out.rest.base (Nat.zero_le _); rw [qdiv_first] at h; exact h)
        have HBL := Lib.hid HT.out.bl
        rw [qdiv_first]
        obtain ⟨r0, hr0⟩ : ∃ r, ql (a % b) = r := ⟨_, rfl⟩
        rw [hr0] at HM2 ⊢
        clear hr0
        go_wp2_with (go_at_call 133; refine HT2.out.mono ?_; rintro e w2 ⟨v2, rfl, hm2, hb2⟩; obtain ⟨p2, k2, rfl⟩ := hm2.len; have HM3 := Lib.hid (And.intro (hm2.base (Nat.zero_le _)) hb2); clear hm2 hb2)
        go_ret2
        exact ⟨_, _, rfl, HM3.out.1, HM2.out.below HM3.out.2, hB ▸ HBL.out.trans (HM3.out.2.mono (by have := HT.out.sz; omega))⟩
      · obtain ⟨k, rfl⟩ : ∃ k, i = k + 1 := ⟨i - 1, by omega⟩
        rw [show (((k + 1 : Nat) : Int) - 1) = (k : Int) by omega]
        have ca := (HT.out.bl.cell (p := ⟨g, k, none⟩) hlg).trans (HC.out k (by omega))
        obtain ⟨R, hR⟩ : ∃ R, a / qw (k + 1) % b * 10000 + dq a k = R := ⟨_, rfl⟩
        have hRlt := over_lt (a := a) (k := k) HB0.out
        have HRE := Lib.hid (rest_low' (a := a) (b := b) (k := k) (R := R) hR)
        have HQD := Lib.hid (fun d h1 h2 => @qdig a b k d HB0.out h1 h2)
        rw [hR] at hRlt HQD
        have hlR : ql R < 20010 := by
          have h := ql_le (n := R) (k := ql b + 1) (by rw [qw_succ]; exact Nat.lt_of_lt_of_le hRlt (Nat.mul_le_mul_right _ (Nat.le_of_lt (ql_lt b))))
          omega
        obtain ⟨r, hr⟩ : ∃ r, a / qw (k + 1) % b = r := ⟨_, rfl⟩
        obtain ⟨x, hx⟩ : ∃ x, dq a k = x := ⟨_, rfl⟩
        have hx4 : x < 10000 := by rw [← hx]; exact dq_lt _ _
        have hrb : r < b := by rw [← hr]; exact Nat.mod_lt _ HB0.out
        have hlr : ql r < 20010 := Nat.lt_of_le_of_lt (ql_mono (Nat.le_of_lt hrb)) (by omega)
        rw [hx] at ca
        rw [hr, hx] at hR
        rw [hr] at HT ⊢
        have HX := Lib.hid hx
        have HRR := Lib.hid hR
        clear hx hr hR hrb
        have hszr := HT.out.sz
        have HA0 := Lib.hid (show Below wr.heap.size wr (wr.alloc (.cells #[.int .i64 x] 3)) from (Below.refl _ _).alloc (Nat.le_refl _) _)
        have HLIT := Lib.hid (show Row (wr.alloc (.cells #[.int .i64 x] 3)) (B + 1) (.slice (some ⟨wr.heap.size, 0, none⟩) 1 1) (fun _ => x) 1 from World.ownsRow_lit wr #[.int .i64 x] 1 (by omega) (by unfold maxLen; omega) rfl)
        have HSRC := Lib.hid ((HT.out.rest.below HA0.out).base (Nat.zero_le _))
        have HTR := Lib.hid (fun (v : Value) W (h : Row W (B + 1) v (cat (fun _ => x) 1 (dq r)) (1 + ql r)) => rTrim_row false _ _ v (B + 1) W h (by omega) (fun i _ => by unfold cat; split; exact hx4; exact dq_lt _ _) R (by rw [qv_cat1, qv_self, ← HRR.out]; omega) false (by simp))
        clear hlr
        obtain ⟨lr, hlr⟩ : ∃ l, ql r = l := ⟨_, rfl⟩
        rw [hlr] at HSRC HTR ⊢
        have hlr2 : lr < 20010 := by rw [← hlr]; exact Nat.lt_of_le_of_lt (ql_mono (Nat.le_of_lt (show r < b by have := HRR.out; omega))) (by omega)
        clear hlr
        have HMG := Lib.hid (fun (v : Value) W (h1 : Mag W v R) (h2 : Mag W (.slice q (ql b) d) b) => rMag_any R b v _ W h1 h2 (by omega) (by omega) _ rfl)
        obtain ⟨o, ho⟩ : ∃ o, cmpQ R b = o := ⟨_, rfl⟩
        rw [ho] at HMG
        have HBT := Lib.hid (fun W (h : Below B w W) => HBm.out.below (by rw [hB]; exact h))
        have hstart : (R < b ∧ decide (o < 0) = true) ∨ (¬ R < b ∧ decide (o < 0) = false) := by
          by_cases hc0 : R < b
          · exact Or.inl ⟨hc0, by rw [← ho, cmpQ_lt hc0]; rfl⟩
          · exact Or.inr ⟨hc0, by
              rw [← ho]
              unfold cmpQ
              split
              · rfl
              · first | rfl | (rw [if_neg hc0]; rfl)⟩
        clear ho
        have HRL := Lib.hid hRlt
        clear hRlt
        rcases hstart with ⟨hc0, ho2⟩ | ⟨hc0, ho2⟩
        all_goals
          have HC0 := Lib.hid hc0
          clear hc0
          go_wp2_with (first | (at_builtin; refine wpI_append rfl _ _ rfl (B + 1) _ 1 (fun _ => x) rfl HLIT.out _ lr (dq r) rfl HSRC.out (by omega) (by simp; omega) ?_; intro v3 w3 hrow3 hg3; have HT3 := Lib.hid (show Row w3 (B + 1) v3 (cat (fun _ => x) 1 (dq r)) (1 + lr) ∧ Below wr.heap.size wr w3 from ⟨hrow3, HA0.out.grown hg3 (by simp) (fun k e => by cases e; exact Nat.le_refl _)⟩); obtain ⟨p3, k3, rfl⟩ := hrow3.len; clear hrow3 hg3) | (go_at_call 133; refine (HTR.out _ _ HT3.out.1).mono ?_; rintro e w4 ⟨v4, rfl, hm4, hb4⟩; obtain ⟨p4, k4, rfl⟩ := hm4.len; have HT4 := Lib.hid ((HT.out.below HT3.out.2).with hb4 hm4); clear hm4 hb4) | (go_at_call 138; refine (HMG.out _ _ (HT4.out.rest.base (Nat.zero_le _)) (HBT.out _ HT4.out.bl)).mono ?_; rintro e w5 ⟨rfl, hb5⟩; have HT5 := Lib.hid (HT4.out.below hb5); clear hb5))
          clear ca HT HA0 HLIT HSRC HTR HT4
          go_loopw [9, 10] (fun l h wr => ∃ lo hi : Nat, lo ≤ hi ∧ hi ≤ 9999 ∧ l = .int .i64 lo ∧ h = .int .i64 hi ∧ Hid (Ov w B la1 (quo (a / b) (k + 1)) (.slice p4 (ql R) k4) R wr ∧ lo * b ≤ R ∧ R < (hi + 1) * b)) (fun l h _ => (intOf h).toNat - (intOf l).toNat)
          case atStart =>
            first
              | exact ⟨0, 0, Nat.le_refl _, by decide, rfl, rfl, HT5.out, by omega, by have := HC0.out; omega⟩
              | exact ⟨0, 9999, Nat.zero_le _, Nat.le_refl _, rfl, rfl, HT5.out, by omega, by have := HRL.out; omega⟩
          case round =>
            clear HT5
            obtain ⟨lo, hi, hlh, hh, rfl, rfl, HI⟩ := hrel
            by_cases hlt : lo < hi
            · obtain ⟨mid, hmid⟩ : ∃ m, (lo + hi + 1) / 2 = m := ⟨_, rfl⟩
              have hmi : ((lo : Int) + hi + 1) / 2 = (mid : Int) := by omega
              have hm1 : lo < mid ∧ mid ≤ hi := by omega
              obtain ⟨hm1, hm2⟩ := hm1
              obtain ⟨P, hP⟩ : ∃ P, b * mid = P := ⟨_, rfl⟩
              have hlP : ql P < 40000 := by
                have h := ql_mul b mid
                rw [hP, ql_small (d := mid) (by omega) (by omega)] at h
                omega
              have HBL := Lib.hid (rByLimb_any b mid _ wr (HBT.out _ HI.out.1.bl) (by omega) (by omega) (by omega) P hP)
              have HTM := Lib.hid (fun (v : Value) W (h : Mag W v P) => trimR false P v W h (by omega) false rfl)
              have HMP := Lib.hid (fun (v u : Value) W (h1 : Mag W v P) (h2 : Mag W u R) => rMag_any P R v u W h1 h2 (by omega) (by omega) _ rfl)
              obtain ⟨o2, ho2⟩ : ∃ o, cmpQ P R = o := ⟨_, rfl⟩
              rw [ho2] at HMP
              have hcase : (P ≤ R ∧ decide (o2 ≤ 0) = true) ∨ (R < P ∧ decide (o2 ≤ 0) = false) := by
                rcases Nat.lt_or_ge R P with h | h
                · exact Or.inr ⟨h, by rw [← ho2, cmpQ_gt h]; rfl⟩
                · refine Or.inl ⟨h, ?_⟩
                  rw [← ho2]
                  unfold cmpQ
                  split
                  · rfl
                  · rw [if_pos (by omega)]; rfl
              have HPP := Lib.hid (show mid * b = P by rw [Nat.mul_comm]; exact hP)
              clear ho2 hP hmid
              rcases hcase with ⟨hpr, hdec⟩ | ⟨hpr, hdec⟩
              all_goals
                have HPR := Lib.hid hpr
                clear hpr
                go_wp2_with (first | (go_at_call 183; refine HBL.out.mono ?_; rintro e w6 ⟨v6, rfl, p6, k6, rfl, hm6, hb6⟩; have HT6 := Lib.hid (And.intro hm6 (HI.out.1.below hb6)); clear hm6 hb6) | (go_at_call 133; refine (HTM.out _ _ HT6.out.1).mono ?_; rintro e w7 ⟨v7, rfl, p7, k7, rfl, hm7, hb7⟩; have HT7 := Lib.hid (And.intro hm7 (HT6.out.2.below hb7)); clear hm7 hb7) | (go_at_call 138; refine (HMP.out _ _ _ HT7.out.1 (HT7.out.2.rest.base (Nat.zero_le _))).mono ?_; rintro e w8 ⟨rfl, hb8⟩; have HT8 := Lib.hid (HT7.out.2.below hb8); clear hb8))
                go_roundw
                case rel =>
                  first
                    | exact ⟨mid, hi, hm2, hh, rfl, rfl, HT8.out, by rw [HPP.out]; exact HPR.out, HI.out.2.2⟩
                    | exact ⟨lo, mid - 1, by omega, by omega, rfl, by congr 1; omega, HT8.out, HI.out.2.1, by rw [show mid - 1 + 1 = mid by omega, HPP.out]; exact HPR.out⟩
                case measure => simp [intOf]; omega
            · obtain rfl : lo = hi := by omega
              have HQ := Lib.hid (show dq (a / b) k = lo from HQD.out lo HI.out.2.1 HI.out.2.2)
              have HME := Lib.hid (rest_ok HI.out.2.1 HI.out.2.2)
              have cq := HI.out.1.cell (i := k) (by omega)
              have fq := HI.out.1.free k
              have HP1 := Lib.hid (HI.out.1.put (i := k) (x := lo) (z := (lo : Int)) (by omega) rfl)
              obtain ⟨W2, hW2⟩ : ∃ W2, wr.setCell ⟨B, k, none⟩ (.int .i64 lo) = W2 := ⟨_, rfl⟩
              rw [hW2] at HP1
              have HQC := Lib.hid (fun (v : Value) (m : Nat) (W : World) (h : Ov w B la1 (upd (quo (a / b) (k + 1)) k lo) v m W) => show Ov w B la1 (quo (a / b) k) v m W from ⟨h.row.congr fun j _ => by rw [← HQ.out]; exact quo_next, h.rest, h.bl, h.sz⟩)
              by_cases hl0 : 0 < lo
              · obtain ⟨P, hP⟩ : ∃ P, b * lo = P := ⟨_, rfl⟩
                have HBL := Lib.hid (rByLimb_any b lo _ W2 (HBT.out _ HP1.out.bl) (by omega) hl0 (by omega) P hP)
                have HMN := Lib.hid (fun (v u : Value) W (h1 : Mag W v R) (h2 : Mag W u P) => rMinus_row R P v u W h1 h2 (by rw [← hP, Nat.mul_comm]; exact HI.out.2.1) (by omega))
                have HRF := Lib.hid (show R - P = a / qw k % b by rw [HRE.out HB0.out, HME.out, hP])
                clear hP
                go_wp2_with (first | (go_at_call 183; refine HBL.out.mono ?_; rintro e w6 ⟨v6, rfl, p6, k6, rfl, hm6, hb6⟩; have HT6 := Lib.hid (And.intro hm6 (HP1.out.below hb6)); clear hm6 hb6) | (go_at_call 139; refine (HMN.out _ _ _ (HT6.out.2.rest.base (Nat.zero_le _)) HT6.out.1).mono ?_; rintro e w7 ⟨v7, rfl, hm7, hb7⟩; have HT7 := Lib.hid (HT6.out.2.with hb7 (hm7.base (by have := HT6.out.2.sz; omega))); clear hm7 hb7))
                go_roundw
                case rel => exact ⟨k, by omega, rfl, by rw [← HRF.out]; exact HQC.out _ _ _ HT7.out⟩
                case measure => (simp [intOf] <;> omega)
              · obtain rfl : lo = 0 := by omega
                have HRF := Lib.hid (show R = a / qw k % b by rw [HRE.out HB0.out, HME.out]; simp)
                go_wp2
                go_roundw
                case rel =>
                  have h := HQC.out _ _ _ HP1.out
                  rw [← hW2] at h
                  exact ⟨k, by omega, rfl, by rw [← HRF.out]; exact h⟩
                case measure => (simp [intOf] <;> omega)
end Go.Proofs.YtjemolaobhlapaaGreatDoor
