/- The reference: Negative, Plus, Minus. -/
import Derived.Test.YtjemolaobhlapaaGreatDoorRH
import Derived.Deep.RegionHeld3
import Derived.StillTailTactics
import Derived.BigFrame
set_option linter.unusedSimpArgs false
set_option linter.unusedVariables false
namespace Go.Proofs.YtjemolaobhlapaaGreatDoor
open Go.RowKit
set_option maxRecDepth 100000

/-- A call of a function, by a contract that does not tell the value. -/
theorem wp_callE {o : Oper} {a : Act} {w : World} {K : Act → World → Prop} {Q : Exit → Act → World → Prop} (f : Nat) (xs : Array Operand) (ts : Array TypeId) (ho : o.op = .call { callee := .value (.func f), args := xs, argTypes := ts }) (vs : Array Value) (hf : (Tryz.prog.funcs[f]?).map (fun fn => (fn.name == "runtime.NumGoroutine", fn.body.isNone)) = some (false, false)) (hv : xs.map a.eval = vs) {R : Value → World → Prop}
    (h : Calls Tryz.prog f vs w fun e w' => ∃ v, e = .returned v ∧ R v w') (hk : ∀ v w', R v w' → K (a.put o.dst v) w') : o.wp Tryz.prog a w K Q := by
  unfold Oper.wp
  have hr : (execOp a.eval o).run Tryz.prog w = .ok (.enter f vs) w := by
    subst hv
    simp [execOp, ho, resolve, invoke, Act.eval, go_sem, callFunc, Deferred.ofValue]
    obtain ⟨fn, hfn, hx⟩ := Option.map_eq_some_iff.1 hf
    rw [Prod.mk.injEq] at hx
    have h1 : ¬ fn.name = "runtime.NumGoroutine" := by simpa using hx.1
    have h2 : ¬ fn.body = none := by
      have h3 := hx.2
      cases hb : fn.body with
      | none => rw [hb] at h3; cases h3
      | some _ => simp
    rw [hfn]
    simp [h1, h2]
  rw [hr]
  show Calls Tryz.prog f vs w _
  refine h.mono ?_
  rintro e w' ⟨v, rfl, hR⟩
  exact hk v w' hR
/-- What a function that makes an integer leaves. -/
def BigR (w : World) (s : Bool) (n : Nat) (v : Value) (w' : World) : Prop := ∃ p c, v = .agg #[.bool s, .slice p (ql n) c] ∧ Mag w' (.slice p (ql n) c) n ∧ Below w.heap.size w w'
def MagR (w : World) (n : Nat) (v : Value) (w' : World) : Prop := ∃ p c, v = .slice p (ql n) c ∧ Mag w' (.slice p (ql n) c) n ∧ Below w.heap.size w w'
theorem MagR.of {w w' : World} {n : Nat} {v : Value} (hm : Mag w' v n) (hb : Below w.heap.size w w') : MagR w n v w' := by
  obtain ⟨p, c, rfl⟩ := hm.len
  exact ⟨p, c, rfl, hm, hb⟩
theorem BigR.of {w w' : World} {s : Bool} {n : Nat} {v : Value} (hm : Mag w' v n) (hb : Below w.heap.size w w') : BigR w s n (.agg #[.bool s, v]) w' := by
  obtain ⟨p, c, rfl⟩ := hm.len
  exact ⟨p, c, rfl, hm, hb⟩
theorem plusR (a b : Nat) (va vb : Value) (w : World) (ha : Mag w va a) (hb : Mag w vb b) (ll : ql (a + b) < 100000) :
    Calls Tryz.prog 137 #[va, vb] w fun e w' => ∃ v, e = .returned v ∧ MagR w (a + b) v w' :=
  (rPlus_any a b va vb w ha hb ll).mono fun _ _ ⟨v, h1, h2, h3⟩ => ⟨v, h1, MagR.of h2 h3⟩
theorem minusR (a b : Nat) (va vb : Value) (w : World) (ha : Mag w va a) (hb : Mag w vb b) (hab : b ≤ a) (ll : ql a < 100000) :
    Calls Tryz.prog 139 #[va, vb] w fun e w' => ∃ v, e = .returned v ∧ MagR w (a - b) v w' :=
  (rMinus_any a b va vb w ha hb hab ll).mono fun _ _ ⟨v, h1, h2, h3⟩ => ⟨v, h1, MagR.of h2 h3⟩
theorem trimR (s : Bool) (n : Nat) (v : Value) (w : World) (hv : Mag w v n) (hk : ql n < 1000000) (r : Bool) (hr : (s && !decide (n = 0)) = r) :
    Calls Tryz.prog 133 #[.agg #[.bool s, v]] w fun e w' => ∃ v', e = .returned v' ∧ BigR w r n v' w' :=
  (rTrim_any s (dq n) (ql n) v 0 w hv hk (fun _ _ => dq_lt _ _) n (qv_self n) r hr).mono fun _ _ ⟨v, h1, h2, h3⟩ => ⟨_, h1, BigR.of h2 h3⟩
theorem wpBig_store1 {o : Oper} {a : Act} {w : World} {K : Act → World → Prop} {Q : Exit → Act → World → Prop} (x y : Operand) (ho : o.op = .store 74 x y) (B : Nat) {s : Bool} {p : Option Addr} {l c : Nat} {u v : Value}
    (hx : a.eval x = .pointer (some ⟨B, 0, none⟩)) (hy : a.eval y = .agg #[.bool s, .slice p l c]) (hB : BlockIs w B 74 #[u, v]) (h : K (a.put o.dst undef) (w.setRow B #[.bool s, .slice p l c])) : o.wp Tryz.prog a w K Q :=
  wp_store_row 74 x y ho B #[.bool s, .slice p l c] hx hy 74 _ hB (infoBig _ _) rfl (by simp [Value.oneCell']) h
theorem loadBig {w : World} {B : Nat} {a b : Value} (hB : BlockIs w B 74 #[a, b]) : (loadVar 74 ⟨B, 0, none⟩).run Tryz.prog w = .ok (.agg #[a, b]) w :=
  run_loadVar_row w B 74 74 #[a, b] (0, 0) _ hB Tryz.underlying74 rfl (infoBig a b)
theorem yB_load {ops : Array Oper} {S : World → Prop} {op : Oper} {a : Act} (hw : Region.wanted op (yielded ops a.tmps) = true) (x : Operand) (ho : op.op = .load 74 x) (B : Nat) (hx : a.eval x = .pointer (some ⟨B, 0, none⟩))
    {u v : Value} (hS : ∀ w, S w → BlockIs w B 74 #[u, v]) : YieldsIf Tryz.prog ops S op (.agg #[u, v]) a :=
  .inl ⟨hw, fun w hw' => by
    unfold execOp
    simp only [ho, hx, Instr.loadAt, Instr.sureAddr, Sem.run_bind, Sem.run_pure, Result.andThen_ok, loadBig (hS w hw')]⟩

theorem BlockIs.row2 {W : World} {B : Nat} {t : TypeId} {cs : Array Value} (h : BlockIs W B t cs) (cs' : Array Value) : BlockIs (W.setRow B cs') B t cs' := setRow_heap W B cs cs' t (0, 0) h
theorem BlockIs.rowElse {W : World} {B C : Nat} {t : TypeId} {cs : Array Value} (h : BlockIs W B t cs) (cs' : Array Value) (hn : B ≠ C) : BlockIs (W.setRow C cs') B t cs := by
  show (W.setRow C cs').heap[B]? = _
  rw [setRow_other W C B cs' hn]; exact h
theorem below_setRow2 {B C : Nat} {w0 w : World} (h : Below B w0 w) (cs : Array Value) (hc : B ≤ C) : Below B w0 (w.setRow C cs) :=
  h.trans ⟨rfl, rfl, rfl, by simp, fun k hk => setRow_other w C k cs (by omega)⟩
/-- A row of limbs is no block of an integer. -/
theorem Row.but {w w' : World} {b k C : Nat} {v : Value} {f : Nat → Nat} {cs : Array Value} (h : Row w b v f k) (hC : BlockIs w C 74 cs) (hk : ∀ g, g ≠ C → w'.heap[g]? = w.heap[g]?) : Row w' b v f k := by
  refine ⟨h.1, ?_⟩
  rcases h.2 with h1 | ⟨g, cap, cur, h1, h2, h3, h4⟩
  · exact .inl h1
  · refine .inr ⟨g, cap, cur, h1, h2, ?_, h4⟩
    rw [hk g ?_]
    · exact h3
    · rintro rfl
      rw [show w.heap[g]? = _ from hC] at h3
      simp at h3
theorem Mag.cell {w : World} {n C i : Nat} {v x : Value} {cs : Array Value} (h : Mag w v n) (hC : BlockIs w C 74 cs) : Mag (w.setCell ⟨C, i, none⟩ x) v n :=
  Row.but h hC fun g hg => heap_setCell_other w ⟨C, i, none⟩ g x hg
theorem Mag.row {w : World} {n C : Nat} {v : Value} {cs cs' : Array Value} (h : Mag w v n) (hC : BlockIs w C 74 cs) : Mag (w.setRow C cs') v n :=
  Row.but h hC fun g hg => setRow_other w C g cs' hg
theorem Mag.two {w : World} {n C : Nat} {v x y : Value} {a b : Value} (h : Mag w v n) (hC : BlockIs w C 74 #[a, b]) : Mag ((w.setCell ⟨C, 0, none⟩ x).setCell ⟨C, 1, none⟩ y) v n :=
  (h.cell hC).cell (hC.set 0 x)

/-- Two integers that came in, and one to come. -/
structure Bg (w0 : World) (B : Nat) (a b c d : Value) (w : World) : Prop where
  b0 : BlockIs w B 74 #[a, b]
  b1 : BlockIs w (B + 1) 74 #[c, d]
  b2 : ∃ x y, BlockIs w (B + 2) 74 #[x, y]
  bl : Below B w0 w
theorem Bg.below {w0 : World} {B : Nat} {a b c d : Value} {w w' : World} (h : Bg w0 B a b c d w) (hb : Below w.heap.size w w') : Bg w0 B a b c d w' := by
  obtain ⟨h0, h1, ⟨x, y, h2⟩, h3⟩ := h
  exact ⟨h0.below hb h0.lt, h1.below hb h1.lt, ⟨x, y, h2.below hb h2.lt⟩, h3.trans (hb.mono (by have := h0.lt; omega))⟩
theorem Bg.drew {w0 : World} {B : Nat} {a b c d : Value} {w : World} (h : Bg w0 B a b c d w) : Bg w0 B a b c d w.drew := by
  obtain ⟨h0, h1, ⟨x, y, h2⟩, h3⟩ := h
  exact ⟨h0.drew, h1.drew, ⟨x, y, h2.drew⟩, h3.drew⟩
theorem Bg.ret {w0 : World} {B : Nat} {a b c d : Value} {w : World} (h : Bg w0 B a b c d w) (x y : Value) : Bg w0 B a b c d (w.setRow (B + 2) #[x, y]) ∧ BlockIs (w.setRow (B + 2) #[x, y]) (B + 2) 74 #[x, y] := by
  obtain ⟨h0, h1, ⟨x', y', h2⟩, h3⟩ := h
  exact ⟨⟨h0.rowElse _ (by omega), h1.rowElse _ (by omega), ⟨_, _, h2.row2 _⟩, below_setRow2 h3 _ (by omega)⟩, h2.row2 _⟩
theorem Bg.start {w W : World} {B : Nat} {a b c d : Value} (hB : w.heap.size = B) (hW : ((w.alloc (.cells #[a, b] 74)).alloc (.cells #[c, d] 74)).alloc (.cells #[.bool false, .slice none 0 0] 74) = W) : Bg w B a b c d W := by
  have hs1 : (w.alloc (.cells #[a, b] 74)).heap.size = B + 1 := by rw [World.size_alloc, hB]
  have hs2 : ((w.alloc (.cells #[a, b] 74)).alloc (.cells #[c, d] 74)).heap.size = B + 2 := by rw [World.size_alloc, hs1]
  rw [← hW]
  refine ⟨by rw [← hB]; exact ((BlockIs.new _ _ _).alloc _).alloc _, ?_, ⟨.bool false, .slice none 0 0, ?_⟩, ((((Below.refl B w).alloc (by omega) _).alloc (by omega) _).alloc (by omega) _)⟩
  · have := BlockIs.new (w.alloc (.cells #[a, b] 74)) 74 #[c, d]
    rw [hs1] at this
    exact this.alloc _
  · have := BlockIs.new ((w.alloc (.cells #[a, b] 74)).alloc (.cells #[c, d] 74)) 74 #[.bool false, .slice none 0 0]
    rwa [hs2] at this
theorem Bg.mag {w0 : World} {B n : Nat} {a b c d v : Value} {w : World} (h : Bg w0 B a b c d w) (hB : w0.heap.size = B) (hm : Mag w0 v n) : Mag w v n := hm.below (by rw [hB]; exact h.bl)

/-- The sum of signed numbers: sign and magnitude. -/
def sumB (s t : Bool) (a b : Nat) : Bool × Nat := if s = t then (s, a + b) else if b ≤ a then (s, a - b) else (t, b - a)

set_option maxHeartbeats 2000000 in
theorem rNegative_any (s : Bool) (n : Nat) (v : Value) (w : World) (hv : Mag w v n) (hk : ql n < 100000) (r : Bool) (hr : ((!s) && !decide (n = 0)) = r) :
    Calls Tryz.prog 78 #[.agg #[.bool s, v]] w fun e w' => ∃ v', e = .returned v' ∧ BigR w r n v' w' := by
  obtain ⟨p, c, rfl⟩ := hv.len
  obtain ⟨B, hB⟩ : ∃ B, w.heap.size = B := ⟨_, rfl⟩
  obtain ⟨W, hW⟩ : ∃ W, (w.alloc (.cells #[.bool s, .slice p (ql n) c] 74)).alloc (.cells #[.bool false, .slice none 0 0] 74) = W := ⟨_, rfl⟩
  have HH := Lib.hid (Bg2.start hB hW)
  have HT := Lib.hid (trimR (!s) n _ W (hv.below (by rw [hB]; exact HH.out.bl)) (by omega) r hr)
  have c0 := HH.out.b0.at 0
  have c1 := HH.out.b0.at 1
  clear hv hr
  go_enter Tryz.func78, Tryz.ntmps78
  go_wp2_with (go_at_call 133; refine HT.out.mono ?_; rintro e w1 ⟨v1, rfl, p1, k1, rfl, hm1, hb1⟩; have HM1 := Lib.hid hm1; have HD1 := Lib.hid (HH.out.b1.below hb1 HH.out.b1.lt); have HL1 := Lib.hid (HH.out.bl.trans (hb1.mono (by have := HH.out.b1.lt; omega))); have d0 := HD1.out.at 0; have d1 := HD1.out.at 1; have e0 := HD1.out.thawed 0; have e1 := HD1.out.thawed 1; clear hm1 hb1)
  have hbl := (HL1.out.setCell (p := ⟨B + 1, 0, none⟩) (by simp) (.bool r)).setCell (p := ⟨B + 1, 1, none⟩) (by simp) (.slice p1 (ql n) k1)
  exact bodyPost_ret (retBig rfl _ _ (B + 1) rfl HD1.out.two) rfl ⟨_, rfl, p1, k1, rfl, HM1.out.two HD1.out, hB ▸ hbl⟩

theorem plus_len {a b : Nat} (la : ql a < 40000) (lb : ql b < 40000) : ql (a + b) < 100000 := by
  have := ql_add a b
  have h1 : max (ql a) (ql b) < 40000 := by rcases Nat.le_total (ql a) (ql b) with h | h; (rw [Nat.max_eq_right h]; exact lb); (rw [Nat.max_eq_left h]; exact la)
  omega

set_option maxHeartbeats 4000000 in
theorem rPlus_same (s t : Bool) (a b : Nat) (va vb : Value) (w : World) (ha : Mag w va a) (hb : Mag w vb b) (la : ql a < 40000) (lb : ql b < 40000) (hst : s = t) (n : Nat) (hn : a + b = n) (r : Bool) (hr : (s && !decide (n = 0)) = r) :
    Calls Tryz.prog 82 #[.agg #[.bool s, va], .agg #[.bool t, vb]] w fun e w' => ∃ v', e = .returned v' ∧ BigR w r n v' w' := by
  obtain ⟨p, c, rfl⟩ := ha.len
  obtain ⟨q, d, rfl⟩ := hb.len
  obtain ⟨B, hB⟩ : ∃ B, w.heap.size = B := ⟨_, rfl⟩
  obtain ⟨W, hW⟩ : ∃ W, ((w.alloc (.cells #[.bool s, .slice p (ql a) c] 74)).alloc (.cells #[.bool t, .slice q (ql b) d] 74)).alloc (.cells #[.bool false, .slice none 0 0] 74) = W := ⟨_, rfl⟩
  have HS := Lib.hid (Bg.start hB hW)
  have HA := Lib.hid ha
  have HBm := Lib.hid hb
  clear ha hb
  have c0 := HS.out.b0.at 0
  have c1 := HS.out.b0.at 1
  have c2 := HS.out.b1.at 0
  have c3 := HS.out.b1.at 1
  have hst2 : (s == t) = true := by rw [hst]; simp
  have ll : ql (a + b) < 100000 := plus_len la lb
  have HP := Lib.hid (fun W (h : Bg w B (.bool s) (.slice p (ql a) c) (.bool t) (.slice q (ql b) d) W) => plusR a b _ _ W (h.mag hB HA.out) (h.mag hB HBm.out) ll)
  have HTR := Lib.hid (fun (v : Value) W (h : Mag W v n) => trimR s n v W h (by rw [← hn]; omega) r hr)
  rw [hn] at HP
  clear ll la lb hn hr hst
  go_enter Tryz.func82, Tryz.ntmps82
  go_wp2
  have hT0 : Bg w B (.bool s) (.slice p (ql a) c) (.bool t) (.slice q (ql b) d) W.drew := HS.out.drew
  refine wp_region_held_drew (S := Bg w B (.bool s) (.slice p (ql a) c) (.bool t) (.slice q (ql b) d)) (by kernel_rfl) hT0 (fun hS => ?_)
  obtain ⟨wd, hwd⟩ : ∃ wd, W.drew = wd := ⟨_, rfl⟩
  rw [hwd] at hS hT0 ⊢
  clear hwd hT0 hW
  refine wpAnyH_take (i := 0) (v := .pointer (some ⟨B, 0, none⟩)) rfl (by kernel_rfl) (by kernel_rfl) (by kernel_rfl) (fun _ _ _ h => h) (Or.inl ⟨by rfl, fun w' h => by go_simp⟩) hS ?_
  try simp only [A1, A2, A3, Act.put, A4, A5, A6]
  refine wpAnyH_take (i := 1) (v := .bool s) rfl (by kernel_rfl) (by kernel_rfl) (by kernel_rfl) (fun _ _ _ h => h) (Or.inl ⟨by rfl, fun w' h => by have c : w'.cell? ⟨B, 0, none⟩ = some (.bool s) := h.b0.at 0; go_simp⟩) hS ?_
  try simp only [A1, A2, A3, Act.put, A4, A5, A6]
  refine wpAnyH_take (i := 2) (v := .pointer (some ⟨B, 1, none⟩)) rfl (by kernel_rfl) (by kernel_rfl) (by kernel_rfl) (fun _ _ _ h => h) (Or.inl ⟨by rfl, fun w' h => by go_simp⟩) hS ?_
  try simp only [A1, A2, A3, Act.put, A4, A5, A6]
  refine wpAnyH_take (i := 3) (v := .slice p (ql a) c) rfl (by kernel_rfl) (by kernel_rfl) (by kernel_rfl) (fun _ _ _ h => h) (Or.inl ⟨by rfl, fun w' h => by have c : w'.cell? ⟨B, 1, none⟩ = some (.slice p (ql a) c) := h.b0.at 1; go_simp⟩) hS ?_
  try simp only [A1, A2, A3, Act.put, A4, A5, A6]
  refine wpAnyH_take (i := 4) (v := .pointer (some ⟨B + 1, 1, none⟩)) rfl (by kernel_rfl) (by kernel_rfl) (by kernel_rfl) (fun _ _ _ h => h) (Or.inl ⟨by rfl, fun w' h => by go_simp⟩) hS ?_
  try simp only [A1, A2, A3, Act.put, A4, A5, A6]
  refine wpAnyH_take (i := 5) (v := .slice q (ql b) d) rfl (by kernel_rfl) (by kernel_rfl) (by kernel_rfl) (fun _ _ _ h => h) (Or.inl ⟨by rfl, fun w' h => by have c : w'.cell? ⟨B + 1, 1, none⟩ = some (.slice q (ql b) d) := h.b1.at 1; go_simp⟩) hS ?_
  try simp only [A1, A2, A3, Act.put, A4, A5, A6]
  refine wpAnyH_ready (rs := [6]) (by kernel_rfl) (by simp) (AllReadyH.cons rfl (fun K hK => ?_) AllReadyH.nil)
  rw [if_pos (by rfl)]
  refine wp_callE 137 _ _ rfl _ (by kernel_rfl) (by kernel_rfl) (R := MagR wd (n)) (HP.out _ hS) (fun v1 w1 hR1 => ?_)
  obtain ⟨p1, k1, rfl, hm1, hb1⟩ := hR1
  have hT := hS.below hb1
  clear hS
  refine hK.out _ _ hT (fun hS => ?_)
  clear hK K hT
  try simp only [A1, A2, A3, Act.put, A4, A5, A6]
  refine wpAnyH_take (i := 7) (v := .agg #[.bool s, .slice p1 (ql (n)) k1]) rfl (by kernel_rfl) (by kernel_rfl) (by kernel_rfl) (fun _ _ _ h => h) (Or.inl ⟨by rfl, fun w' h => by go_simp⟩) hS ?_
  try simp only [A1, A2, A3, Act.put, A4, A5, A6]
  refine wpAnyH_ready (rs := [8]) (by kernel_rfl) (by simp) (AllReadyH.cons rfl (fun K hK => ?_) AllReadyH.nil)
  rw [if_pos (by rfl)]
  refine wp_callE 133 _ _ rfl _ (by kernel_rfl) (by kernel_rfl) (R := BigR w1 r n) (HTR.out _ _ hm1) (fun v2 w2 hR2 => ?_)
  obtain ⟨p2, k2, rfl, hm2, hb2⟩ := hR2
  have hT := hS.below hb2
  clear hS
  refine hK.out _ _ hT (fun hS => ?_)
  clear hK K hT
  try simp only [A1, A2, A3, Act.put, A4, A5, A6]
  obtain ⟨_, _, hb⟩ := hS.b2
  have hres := hm2.row (cs' := #[.bool r, .slice p2 (ql n) k2]) hb
  have hret := hS.ret (.bool r) (.slice p2 (ql n) k2)
  refine wpAnyH_ready (rs := [9]) (by kernel_rfl) (by simp) (AllReadyH.cons rfl (fun K hK => ?_) AllReadyH.nil)
  rw [if_pos (by rfl)]
  refine wpBig_store1 (.tmp 4) (.tmp 18) rfl (B + 2) rfl rfl hb ?_
  have hT := hret.1
  clear hS
  refine hK.out _ _ hT (fun hS => ?_)
  clear hK K
  refine wpAnyH_done (by kernel_rfl) ?_ _
  go_wp2
  exact bodyPost_ret (retBig rfl _ _ (B + 2) rfl hret.2) rfl ⟨_, rfl, p2, k2, rfl, hres, hB ▸ hret.1.bl⟩

set_option maxHeartbeats 4000000 in
theorem rPlus_big (s t : Bool) (a b : Nat) (va vb : Value) (w : World) (ha : Mag w va a) (hb : Mag w vb b) (la : ql a < 40000) (lb : ql b < 40000) (hst : (s == t) = false) (hab : b ≤ a) (n : Nat) (hn : a - b = n) (r : Bool) (hr : (s && !decide (n = 0)) = r) :
    Calls Tryz.prog 82 #[.agg #[.bool s, va], .agg #[.bool t, vb]] w fun e w' => ∃ v', e = .returned v' ∧ BigR w r n v' w' := by
  obtain ⟨p, c, rfl⟩ := ha.len
  obtain ⟨q, d, rfl⟩ := hb.len
  obtain ⟨B, hB⟩ : ∃ B, w.heap.size = B := ⟨_, rfl⟩
  obtain ⟨W, hW⟩ : ∃ W, ((w.alloc (.cells #[.bool s, .slice p (ql a) c] 74)).alloc (.cells #[.bool t, .slice q (ql b) d] 74)).alloc (.cells #[.bool false, .slice none 0 0] 74) = W := ⟨_, rfl⟩
  have HS := Lib.hid (Bg.start hB hW)
  have HA := Lib.hid ha
  have HBm := Lib.hid hb
  clear ha hb
  have c0 := HS.out.b0.at 0
  have c1 := HS.out.b0.at 1
  have c2 := HS.out.b1.at 0
  have c3 := HS.out.b1.at 1
  have HM := Lib.hid (rMag_any a b _ _ W (HS.out.mag hB HA.out) (HS.out.mag hB HBm.out) (by omega) (by omega) _ rfl)
  have hc : ¬ cmpQ a b < 0 := by unfold cmpQ; split <;> (try split) <;> omega
  have hc2 : decide ((0 : Int) ≤ cmpQ a b) = true := by simp; omega
  obtain ⟨o, ho⟩ : ∃ o, cmpQ a b = o := ⟨_, rfl⟩
  rw [ho] at HM hc2
  have HP := Lib.hid (fun W (h : Bg w B (.bool s) (.slice p (ql a) c) (.bool t) (.slice q (ql b) d) W) => minusR a b _ _ W (h.mag hB HA.out) (h.mag hB HBm.out) hab (by omega))
  have HTR := Lib.hid (fun (v : Value) W (h : Mag W v n) => trimR s n v W h (by have := ql_mono (a := n) (b := a) (by omega); omega) r hr)
  rw [hn] at HP
  clear la lb hn hr hab hc ho
  go_enter Tryz.func82, Tryz.ntmps82
  go_wp2_with (go_at_call 138; refine HM.out.mono ?_; rintro e w1 ⟨rfl, hb1⟩; have HS1 := Lib.hid (HS.out.below hb1))
  have hT0 : Bg w B (.bool s) (.slice p (ql a) c) (.bool t) (.slice q (ql b) d) w1.drew := HS1.out.drew
  refine wp_region_held_drew (S := Bg w B (.bool s) (.slice p (ql a) c) (.bool t) (.slice q (ql b) d)) (by kernel_rfl) hT0 (fun hS => ?_)
  obtain ⟨wd, hwd⟩ : ∃ wd, w1.drew = wd := ⟨_, rfl⟩
  rw [hwd] at hS hT0 ⊢
  clear hwd hT0 hW
  refine wpAnyH_take (i := 0) (v := .pointer (some ⟨B, 0, none⟩)) rfl (by kernel_rfl) (by kernel_rfl) (by kernel_rfl) (fun _ _ _ h => h) (Or.inl ⟨by rfl, fun w' h => by go_simp⟩) hS ?_
  try simp only [A1, A2, A3, Act.put, A4, A5, A6]
  refine wpAnyH_take (i := 1) (v := .bool s) rfl (by kernel_rfl) (by kernel_rfl) (by kernel_rfl) (fun _ _ _ h => h) (Or.inl ⟨by rfl, fun w' h => by have c : w'.cell? ⟨B, 0, none⟩ = some (.bool s) := h.b0.at 0; go_simp⟩) hS ?_
  try simp only [A1, A2, A3, Act.put, A4, A5, A6]
  refine wpAnyH_take (i := 2) (v := .pointer (some ⟨B, 1, none⟩)) rfl (by kernel_rfl) (by kernel_rfl) (by kernel_rfl) (fun _ _ _ h => h) (Or.inl ⟨by rfl, fun w' h => by go_simp⟩) hS ?_
  try simp only [A1, A2, A3, Act.put, A4, A5, A6]
  refine wpAnyH_take (i := 3) (v := .slice p (ql a) c) rfl (by kernel_rfl) (by kernel_rfl) (by kernel_rfl) (fun _ _ _ h => h) (Or.inl ⟨by rfl, fun w' h => by have c : w'.cell? ⟨B, 1, none⟩ = some (.slice p (ql a) c) := h.b0.at 1; go_simp⟩) hS ?_
  try simp only [A1, A2, A3, Act.put, A4, A5, A6]
  refine wpAnyH_take (i := 4) (v := .pointer (some ⟨B + 1, 1, none⟩)) rfl (by kernel_rfl) (by kernel_rfl) (by kernel_rfl) (fun _ _ _ h => h) (Or.inl ⟨by rfl, fun w' h => by go_simp⟩) hS ?_
  try simp only [A1, A2, A3, Act.put, A4, A5, A6]
  refine wpAnyH_take (i := 5) (v := .slice q (ql b) d) rfl (by kernel_rfl) (by kernel_rfl) (by kernel_rfl) (fun _ _ _ h => h) (Or.inl ⟨by rfl, fun w' h => by have c : w'.cell? ⟨B + 1, 1, none⟩ = some (.slice q (ql b) d) := h.b1.at 1; go_simp⟩) hS ?_
  try simp only [A1, A2, A3, Act.put, A4, A5, A6]
  refine wpAnyH_ready (rs := [6]) (by kernel_rfl) (by simp) (AllReadyH.cons rfl (fun K hK => ?_) AllReadyH.nil)
  rw [if_pos (by rfl)]
  refine wp_callE 139 _ _ rfl _ (by kernel_rfl) (by kernel_rfl) (R := MagR wd (n)) (HP.out _ hS) (fun v1 w1 hR1 => ?_)
  obtain ⟨p1, k1, rfl, hm1, hb1⟩ := hR1
  have hT := hS.below hb1
  clear hS
  refine hK.out _ _ hT (fun hS => ?_)
  clear hK K hT
  try simp only [A1, A2, A3, Act.put, A4, A5, A6]
  refine wpAnyH_take (i := 7) (v := .agg #[.bool s, .slice p1 (ql (n)) k1]) rfl (by kernel_rfl) (by kernel_rfl) (by kernel_rfl) (fun _ _ _ h => h) (Or.inl ⟨by rfl, fun w' h => by go_simp⟩) hS ?_
  try simp only [A1, A2, A3, Act.put, A4, A5, A6]
  refine wpAnyH_ready (rs := [8]) (by kernel_rfl) (by simp) (AllReadyH.cons rfl (fun K hK => ?_) AllReadyH.nil)
  rw [if_pos (by rfl)]
  refine wp_callE 133 _ _ rfl _ (by kernel_rfl) (by kernel_rfl) (R := BigR w1 r n) (HTR.out _ _ hm1) (fun v2 w2 hR2 => ?_)
  obtain ⟨p2, k2, rfl, hm2, hb2⟩ := hR2
  have hT := hS.below hb2
  clear hS
  refine hK.out _ _ hT (fun hS => ?_)
  clear hK K hT
  try simp only [A1, A2, A3, Act.put, A4, A5, A6]
  obtain ⟨_, _, hb⟩ := hS.b2
  have hres := hm2.row (cs' := #[.bool r, .slice p2 (ql n) k2]) hb
  have hret := hS.ret (.bool r) (.slice p2 (ql n) k2)
  refine wpAnyH_ready (rs := [9]) (by kernel_rfl) (by simp) (AllReadyH.cons rfl (fun K hK => ?_) AllReadyH.nil)
  rw [if_pos (by rfl)]
  refine wpBig_store1 (.tmp 4) (.tmp 33) rfl (B + 2) rfl rfl hb ?_
  have hT := hret.1
  clear hS
  refine hK.out _ _ hT (fun hS => ?_)
  clear hK K
  refine wpAnyH_done (by kernel_rfl) ?_ _
  go_wp2
  exact bodyPost_ret (retBig rfl _ _ (B + 2) rfl hret.2) rfl ⟨_, rfl, p2, k2, rfl, hres, hB ▸ hret.1.bl⟩

set_option maxHeartbeats 4000000 in
theorem rPlus_small (s t : Bool) (a b : Nat) (va vb : Value) (w : World) (ha : Mag w va a) (hb : Mag w vb b) (la : ql a < 40000) (lb : ql b < 40000) (hst : (s == t) = false) (hab : a < b) (n : Nat) (hn : b - a = n) (r : Bool) (hr : (t && !decide (n = 0)) = r) :
    Calls Tryz.prog 82 #[.agg #[.bool s, va], .agg #[.bool t, vb]] w fun e w' => ∃ v', e = .returned v' ∧ BigR w r n v' w' := by
  obtain ⟨p, c, rfl⟩ := ha.len
  obtain ⟨q, d, rfl⟩ := hb.len
  obtain ⟨B, hB⟩ : ∃ B, w.heap.size = B := ⟨_, rfl⟩
  obtain ⟨W, hW⟩ : ∃ W, ((w.alloc (.cells #[.bool s, .slice p (ql a) c] 74)).alloc (.cells #[.bool t, .slice q (ql b) d] 74)).alloc (.cells #[.bool false, .slice none 0 0] 74) = W := ⟨_, rfl⟩
  have HS := Lib.hid (Bg.start hB hW)
  have HA := Lib.hid ha
  have HBm := Lib.hid hb
  clear ha hb
  have c0 := HS.out.b0.at 0
  have c1 := HS.out.b0.at 1
  have c2 := HS.out.b1.at 0
  have c3 := HS.out.b1.at 1
  have HM := Lib.hid (rMag_any a b _ _ W (HS.out.mag hB HA.out) (HS.out.mag hB HBm.out) (by omega) (by omega) (-1) (cmpQ_lt hab))
  have HP := Lib.hid (fun W (h : Bg w B (.bool s) (.slice p (ql a) c) (.bool t) (.slice q (ql b) d) W) => minusR b a _ _ W (h.mag hB HBm.out) (h.mag hB HA.out) (by omega) (by omega))
  have HTR := Lib.hid (fun (v : Value) W (h : Mag W v n) => trimR t n v W h (by have := ql_mono (a := n) (b := b) (by omega); omega) r hr)
  rw [hn] at HP
  clear la lb hn hr hab
  go_enter Tryz.func82, Tryz.ntmps82
  go_wp2_with (go_at_call 138; refine HM.out.mono ?_; rintro e w1 ⟨rfl, hb1⟩; have HS1 := Lib.hid (HS.out.below hb1))
  have hT0 : Bg w B (.bool s) (.slice p (ql a) c) (.bool t) (.slice q (ql b) d) w1.drew := HS1.out.drew
  refine wp_region_held_drew (S := Bg w B (.bool s) (.slice p (ql a) c) (.bool t) (.slice q (ql b) d)) (by kernel_rfl) hT0 (fun hS => ?_)
  obtain ⟨wd, hwd⟩ : ∃ wd, w1.drew = wd := ⟨_, rfl⟩
  rw [hwd] at hS hT0 ⊢
  clear hwd hT0 hW
  refine wpAnyH_take (i := 0) (v := .pointer (some ⟨B + 1, 0, none⟩)) rfl (by kernel_rfl) (by kernel_rfl) (by kernel_rfl) (fun _ _ _ h => h) (Or.inl ⟨by rfl, fun w' h => by go_simp⟩) hS ?_
  try simp only [A1, A2, A3, Act.put, A4, A5, A6]
  refine wpAnyH_take (i := 1) (v := .bool t) rfl (by kernel_rfl) (by kernel_rfl) (by kernel_rfl) (fun _ _ _ h => h) (Or.inl ⟨by rfl, fun w' h => by have c : w'.cell? ⟨B + 1, 0, none⟩ = some (.bool t) := h.b1.at 0; go_simp⟩) hS ?_
  try simp only [A1, A2, A3, Act.put, A4, A5, A6]
  refine wpAnyH_take (i := 2) (v := .pointer (some ⟨B + 1, 1, none⟩)) rfl (by kernel_rfl) (by kernel_rfl) (by kernel_rfl) (fun _ _ _ h => h) (Or.inl ⟨by rfl, fun w' h => by go_simp⟩) hS ?_
  try simp only [A1, A2, A3, Act.put, A4, A5, A6]
  refine wpAnyH_take (i := 3) (v := .slice q (ql b) d) rfl (by kernel_rfl) (by kernel_rfl) (by kernel_rfl) (fun _ _ _ h => h) (Or.inl ⟨by rfl, fun w' h => by have c : w'.cell? ⟨B + 1, 1, none⟩ = some (.slice q (ql b) d) := h.b1.at 1; go_simp⟩) hS ?_
  try simp only [A1, A2, A3, Act.put, A4, A5, A6]
  refine wpAnyH_take (i := 4) (v := .pointer (some ⟨B, 1, none⟩)) rfl (by kernel_rfl) (by kernel_rfl) (by kernel_rfl) (fun _ _ _ h => h) (Or.inl ⟨by rfl, fun w' h => by go_simp⟩) hS ?_
  try simp only [A1, A2, A3, Act.put, A4, A5, A6]
  refine wpAnyH_take (i := 5) (v := .slice p (ql a) c) rfl (by kernel_rfl) (by kernel_rfl) (by kernel_rfl) (fun _ _ _ h => h) (Or.inl ⟨by rfl, fun w' h => by have c : w'.cell? ⟨B, 1, none⟩ = some (.slice p (ql a) c) := h.b0.at 1; go_simp⟩) hS ?_
  try simp only [A1, A2, A3, Act.put, A4, A5, A6]
  refine wpAnyH_ready (rs := [6]) (by kernel_rfl) (by simp) (AllReadyH.cons rfl (fun K hK => ?_) AllReadyH.nil)
  rw [if_pos (by rfl)]
  refine wp_callE 139 _ _ rfl _ (by kernel_rfl) (by kernel_rfl) (R := MagR wd (n)) (HP.out _ hS) (fun v1 w1 hR1 => ?_)
  obtain ⟨p1, k1, rfl, hm1, hb1⟩ := hR1
  have hT := hS.below hb1
  clear hS
  refine hK.out _ _ hT (fun hS => ?_)
  clear hK K hT
  try simp only [A1, A2, A3, Act.put, A4, A5, A6]
  refine wpAnyH_take (i := 7) (v := .agg #[.bool t, .slice p1 (ql (n)) k1]) rfl (by kernel_rfl) (by kernel_rfl) (by kernel_rfl) (fun _ _ _ h => h) (Or.inl ⟨by rfl, fun w' h => by go_simp⟩) hS ?_
  try simp only [A1, A2, A3, Act.put, A4, A5, A6]
  refine wpAnyH_ready (rs := [8]) (by kernel_rfl) (by simp) (AllReadyH.cons rfl (fun K hK => ?_) AllReadyH.nil)
  rw [if_pos (by rfl)]
  refine wp_callE 133 _ _ rfl _ (by kernel_rfl) (by kernel_rfl) (R := BigR w1 r n) (HTR.out _ _ hm1) (fun v2 w2 hR2 => ?_)
  obtain ⟨p2, k2, rfl, hm2, hb2⟩ := hR2
  have hT := hS.below hb2
  clear hS
  refine hK.out _ _ hT (fun hS => ?_)
  clear hK K hT
  try simp only [A1, A2, A3, Act.put, A4, A5, A6]
  obtain ⟨_, _, hb⟩ := hS.b2
  have hres := hm2.row (cs' := #[.bool r, .slice p2 (ql n) k2]) hb
  have hret := hS.ret (.bool r) (.slice p2 (ql n) k2)
  refine wpAnyH_ready (rs := [9]) (by kernel_rfl) (by simp) (AllReadyH.cons rfl (fun K hK => ?_) AllReadyH.nil)
  rw [if_pos (by rfl)]
  refine wpBig_store1 (.tmp 4) (.tmp 42) rfl (B + 2) rfl rfl hb ?_
  have hT := hret.1
  clear hS
  refine hK.out _ _ hT (fun hS => ?_)
  clear hK K
  refine wpAnyH_done (by kernel_rfl) ?_ _
  go_wp2
  exact bodyPost_ret (retBig rfl _ _ (B + 2) rfl hret.2) rfl ⟨_, rfl, p2, k2, rfl, hres, hB ▸ hret.1.bl⟩

theorem rPlusB_any (s t : Bool) (a b : Nat) (va vb : Value) (w : World) (ha : Mag w va a) (hb : Mag w vb b) (la : ql a < 40000) (lb : ql b < 40000) (r' : Bool) (n : Nat) (hs : sumB s t a b = (r', n)) (r : Bool) (hr : (r' && !decide (n = 0)) = r) :
    Calls Tryz.prog 82 #[.agg #[.bool s, va], .agg #[.bool t, vb]] w fun e w' => ∃ v', e = .returned v' ∧ BigR w r n v' w' := by
  unfold sumB at hs
  by_cases hst : s = t
  · rw [if_pos hst, Prod.mk.injEq] at hs
    obtain ⟨rfl, hn⟩ := hs
    exact rPlus_same s t a b va vb w ha hb la lb hst n hn r hr
  · have h2 : (s == t) = false := by simpa using hst
    rw [if_neg hst] at hs
    by_cases hab : b ≤ a
    · rw [if_pos hab, Prod.mk.injEq] at hs
      obtain ⟨rfl, hn⟩ := hs
      exact rPlus_big s t a b va vb w ha hb la lb h2 hab n hn r hr
    · rw [if_neg hab, Prod.mk.injEq] at hs
      obtain ⟨rfl, hn⟩ := hs
      exact rPlus_small s t a b va vb w ha hb la lb h2 (by omega) n hn r hr
end Go.Proofs.YtjemolaobhlapaaGreatDoor

namespace Go.Proofs.YtjemolaobhlapaaGreatDoor
open Go.RowKit
set_option maxRecDepth 100000

set_option maxHeartbeats 4000000 in
theorem rMinusB_any (s t : Bool) (a b : Nat) (va vb : Value) (w : World) (ha : Mag w va a) (hb : Mag w vb b) (la : ql a < 40000) (lb : ql b < 40000) (t2 : Bool) (ht2 : ((!t) && !decide (b = 0)) = t2) (r' : Bool) (n : Nat) (hs : sumB s t2 a b = (r', n)) (r : Bool) (hr : (r' && !decide (n = 0)) = r) :
    Calls Tryz.prog 83 #[.agg #[.bool s, va], .agg #[.bool t, vb]] w fun e w' => ∃ v', e = .returned v' ∧ BigR w r n v' w' := by
  obtain ⟨p, c, rfl⟩ := ha.len
  obtain ⟨q, d, rfl⟩ := hb.len
  obtain ⟨B, hB⟩ : ∃ B, w.heap.size = B := ⟨_, rfl⟩
  obtain ⟨W, hW⟩ : ∃ W, ((w.alloc (.cells #[.bool s, .slice p (ql a) c] 74)).alloc (.cells #[.bool t, .slice q (ql b) d] 74)).alloc (.cells #[.bool false, .slice none 0 0] 74) = W := ⟨_, rfl⟩
  have HS := Lib.hid (Bg.start hB hW)
  have HNG := Lib.hid (fun W (h : Bg w B (.bool s) (.slice p (ql a) c) (.bool t) (.slice q (ql b) d) W) => rNegative_any t b _ W (h.mag hB hb) (by omega) t2 ht2)
  have HP := Lib.hid (fun (v : Value) W (h : Bg w B (.bool s) (.slice p (ql a) c) (.bool t) (.slice q (ql b) d) W) (hm : Mag W v b) => rPlusB_any s t2 a b _ v W (h.mag hB ha) hm la lb r' n hs r hr)
  clear ha hb la lb ht2 hs hr
  go_enter Tryz.func83, Tryz.ntmps83
  go_wp2
  have hT0 : Bg w B (.bool s) (.slice p (ql a) c) (.bool t) (.slice q (ql b) d) W.drew := HS.out.drew
  refine wp_region_held_drew (S := Bg w B (.bool s) (.slice p (ql a) c) (.bool t) (.slice q (ql b) d)) (by kernel_rfl) hT0 (fun hS => ?_)
  obtain ⟨wd, hwd⟩ : ∃ wd, W.drew = wd := ⟨_, rfl⟩
  rw [hwd] at hS hT0 ⊢
  clear hwd hT0 hW
  refine wpAnyH_take (i := 0) rfl (by kernel_rfl) (by kernel_rfl) (by kernel_rfl) (fun _ _ _ h => h) (yB_load rfl (.tmp 2) rfl B rfl (fun w' h => h.b0)) hS ?_
  try simp only [A1, A2, A3, Act.put, A4, A5, A6]
  refine wpAnyH_take (i := 1) rfl (by kernel_rfl) (by kernel_rfl) (by kernel_rfl) (fun _ _ _ h => h) (yB_load rfl (.tmp 3) rfl (B + 1) rfl (fun w' h => h.b1)) hS ?_
  try simp only [A1, A2, A3, Act.put, A4, A5, A6]
  refine wpAnyH_ready (rs := [2]) (by kernel_rfl) (by simp) (AllReadyH.cons rfl (fun K hK => ?_) AllReadyH.nil)
  rw [if_pos (by rfl)]
  refine wp_callE 78 _ _ rfl _ (by kernel_rfl) (by kernel_rfl) (R := BigR wd t2 b) (HNG.out _ hS) (fun v1 w1 hR1 => ?_)
  obtain ⟨p1, k1, rfl, hm1, hb1⟩ := hR1
  have hT := hS.below hb1
  clear hS
  refine hK.out _ _ hT (fun hS => ?_)
  clear hK K hT
  try simp only [A1, A2, A3, Act.put, A4, A5, A6]
  refine wpAnyH_ready (rs := [3]) (by kernel_rfl) (by simp) (AllReadyH.cons rfl (fun K hK => ?_) AllReadyH.nil)
  rw [if_pos (by rfl)]
  refine wp_callE 82 _ _ rfl _ (by kernel_rfl) (by kernel_rfl) (R := BigR w1 r n) (HP.out _ _ hS hm1) (fun v2 w2 hR2 => ?_)
  obtain ⟨p2, k2, rfl, hm2, hb2⟩ := hR2
  have hT := hS.below hb2
  clear hS
  refine hK.out _ _ hT (fun hS => ?_)
  clear hK K hT
  try simp only [A1, A2, A3, Act.put, A4, A5, A6]
  obtain ⟨_, _, hb⟩ := hS.b2
  have hres := hm2.row (cs' := #[.bool r, .slice p2 (ql n) k2]) hb
  have hret := hS.ret (.bool r) (.slice p2 (ql n) k2)
  refine wpAnyH_ready (rs := [4]) (by kernel_rfl) (by simp) (AllReadyH.cons rfl (fun K hK => ?_) AllReadyH.nil)
  rw [if_pos (by rfl)]
  refine wpBig_store1 (.tmp 4) (.tmp 8) rfl (B + 2) rfl rfl hb ?_
  have hT := hret.1
  clear hS
  refine hK.out _ _ hT (fun hS => ?_)
  clear hK K
  refine wpAnyH_done (by kernel_rfl) ?_ _
  go_wp2
  exact bodyPost_ret (retBig rfl _ _ (B + 2) rfl hret.2) rfl ⟨_, rfl, p2, k2, rfl, hres, hB ▸ hret.1.bl⟩

/-- The order that a difference tells. -/
def ordB (r : Bool) (n : Nat) : Int := if n = 0 then 0 else if r = true then -1 else 1
set_option maxHeartbeats 4000000 in
theorem rOrder_any (s t : Bool) (a b : Nat) (va vb : Value) (w : World) (ha : Mag w va a) (hb : Mag w vb b) (la : ql a < 40000) (lb : ql b < 40000) (t2 : Bool) (ht2 : ((!t) && !decide (b = 0)) = t2) (r' : Bool) (n : Nat) (hs : sumB s t2 a b = (r', n)) (r : Bool) (hr : (r' && !decide (n = 0)) = r) (o : Int) (ho : ordB r n = o) :
    Calls Tryz.prog 74 #[.agg #[.bool s, va], .agg #[.bool t, vb]] w fun e w' => e = .returned (.int .i64 o) ∧ Below w.heap.size w w' := by
  obtain ⟨p, c, rfl⟩ := ha.len
  obtain ⟨q, d, rfl⟩ := hb.len
  obtain ⟨B, hB⟩ : ∃ B, w.heap.size = B := ⟨_, rfl⟩
  obtain ⟨W, hW⟩ : ∃ W, (w.alloc (.cells #[.bool s, .slice p (ql a) c] 74)).alloc (.cells #[.bool t, .slice q (ql b) d] 74) = W := ⟨_, rfl⟩
  have HS := Lib.hid (Bg2.start hB hW)
  have HM := Lib.hid (rMinusB_any s t a b _ _ W (ha.below (by rw [hB]; exact HS.out.bl)) (hb.below (by rw [hB]; exact HS.out.bl)) la lb t2 ht2 r' n hs r hr)
  have c0 := HS.out.b0.at 0
  have c1 := HS.out.b0.at 1
  have c2 := HS.out.b1.at 0
  have c3 := HS.out.b1.at 1
  have hln : ql n < 100000 := by
    have h1 : n ≤ a + b := by
      unfold sumB at hs
      split at hs
      · rw [Prod.mk.injEq] at hs; omega
      · split at hs <;> (rw [Prod.mk.injEq] at hs; omega)
    exact Nat.lt_of_le_of_lt (ql_mono h1) (plus_len la lb)
  have HO := Lib.hid ho
  have hnz : ql n = 0 ↔ n = 0 := ql_eq_zero
  have hq : (r = true → n ≠ 0) := by rintro h rfl; rw [← hr] at h; simp at h
  have HQ := Lib.hid (And.intro hnz hq)
  obtain ⟨N, hN⟩ : ∃ N, ql n = N := ⟨_, rfl⟩
  have HE : Hid (∀ v' w', BigR W r n v' w' → ∃ p2 k2, v' = .agg #[.bool r, .slice p2 N k2] ∧ Below W.heap.size W w') := by
    rintro v' w' ⟨p2, k2, h1, h2, h3⟩
    exact ⟨p2, k2, by rw [← hN]; exact h1, h3⟩
  rw [hN] at hln HQ
  clear ha hb la lb ht2 hs hr ho hnz hq hN
  by_cases h0 : N = 0
  · have hn0 := HQ.out.1.1 h0
    subst h0
    have HO0 := Lib.hid (show o = 0 by rw [← HO.out]; unfold ordB; rw [if_pos hn0])
    clear hn0
    go_enter Tryz.func74, Tryz.ntmps74
    go_wp2_with (go_at_call 83; refine HM.out.mono ?_; rintro e w1 ⟨v1, rfl, hR⟩; obtain ⟨p2, k2, rfl, hb1⟩ := HE.out _ _ hR; have hbl := HS.out.bl.trans (hb1.mono (by have := HS.out.b1.lt; omega)); have hbs := hb1.size; have hlt := HS.out.b1.lt; clear hR hb1)
    go_ret
    exact ⟨rret_int HO0.out.symm, hB ▸ hbl.alloc (by omega) _⟩
  · have hn0 : n ≠ 0 := fun h => h0 (HQ.out.1.2 h)
    have hi0 : ((N : Int) == 0) = false := by simp; omega
    have HO0 := Lib.hid (show o = if r = true then -1 else 1 by rw [← HO.out]; unfold ordB; rw [if_neg hn0])
    clear hn0
    cases r
    all_goals
      go_enter Tryz.func74, Tryz.ntmps74
      go_wp2_with (go_at_call 83; refine HM.out.mono ?_; rintro e w1 ⟨v1, rfl, hR⟩; obtain ⟨p2, k2, rfl, hb1⟩ := HE.out _ _ hR; have hbl := HS.out.bl.trans (hb1.mono (by have := HS.out.b1.lt; omega)); have hbs := hb1.size; have hlt := HS.out.b1.lt; clear hR hb1)
      go_ret
      exact ⟨rret_int HO0.out.symm, hB ▸ hbl.alloc (by omega) _⟩
end Go.Proofs.YtjemolaobhlapaaGreatDoor
