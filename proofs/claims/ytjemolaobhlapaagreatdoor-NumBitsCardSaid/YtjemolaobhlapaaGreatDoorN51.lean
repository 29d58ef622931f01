/- calculate. -/
import Derived.Test.YtjemolaobhlapaaGreatDoorNZ
set_option linter.unusedSimpArgs false
set_option linter.unusedVariables false
namespace Go.Proofs.YtjemolaobhlapaaGreatDoor
open Go.RowKit
set_option maxRecDepth 100000

/-- A fraction as CheckReal lets it pass. -/
structure Rat2 (s : Bool) (a b : Nat) : Prop where
  top : Num s a
  bot : Num false b
  real : realE false a b = 0
theorem Rat2.pos {s : Bool} {a b : Nat} (h : Rat2 s a b) : 0 < b := by
  have := h.real
  unfold realE at this
  by_cases h0 : b = 0
  · rw [if_pos (Or.inl h0)] at this; cases this
  · omega
theorem Rat2.gcd {s : Bool} {a b : Nat} (h : Rat2 s a b) : Nat.gcd a b = 1 := by
  have := h.real
  unfold realE at this
  by_cases h0 : Nat.gcd a b = 1
  · exact h0
  · rw [if_pos (Or.inr (Or.inr h0))] at this; cases this
/-- The library's variable MaxLen. -/
structure MLen (w : World) : Prop where
  ml : ∃ m : Int, w.cell? ⟨0, 0, none⟩ = some (.int .i64 m)
  pos : 0 < w.heap.size
theorem MLen.below {w w' : World} {B : Nat} (h : MLen w) (hb : Below B w w') (hB : 0 < B) : MLen w' := by
  obtain ⟨⟨m, hm⟩, hp⟩ := h
  exact ⟨⟨m, (hb.cell (p := ⟨0, 0, none⟩) hB).trans hm⟩, by have := hb.size; omega⟩
theorem MLen.same {w w' : World} (h : MLen w) (hb : Below w.heap.size w w') : MLen w' := h.below hb h.pos

theorem CheckReal_ok {s : Bool} {a b : Nat} (h : Rat2 s a b) (w : World) (hm : MLen w) :
    Calls Tryz.prog 45 #[.string (bs (ratio s a false b))] w fun e w' => e = .returned (.int .i64 0) ∧ Below w.heap.size w w' := by
  obtain ⟨m, hm1⟩ := hm.ml
  exact CheckReal_nums s false a b h.top h.bot m w hm1 hm.pos 0 h.real
theorem readF_ok {s : Bool} {a b : Nat} (h : Rat2 s a b) (w : World) (hm : MLen w) :
    Calls Tryz.prog 101 #[.string (bs (ratio s a false b))] w fun e w' => e = .returned (.agg (frac s a false b)) ∧ Below w.heap.size w w' := by
  obtain ⟨m, hm1⟩ := hm.ml
  exact readFraction_any s false a b h.top h.bot m w hm1 hm.pos
theorem checkBothR {s t : Bool} {a b c d : Nat} (h1 : Rat2 s a b) (h2 : Rat2 t c d) {G : Nat} {w : World} (hm : MLen w) (hG : BlockIs w G 9 #[.string (bs (ratio s a false b)), .string (bs (ratio t c false d))]) :
    Calls Tryz.prog 79 #[.func (.func 45) #[] #[], .slice (some ⟨G, 0, none⟩) 2 2] w fun e w' => e = .returned (.int .i64 0) ∧ Below w.heap.size w w' :=
  checkAll_CheckReal _ _ G w hG 0 0 0 (fun W hW => CheckReal_ok h1 W (hm.same hW)) (fun _ W hW => CheckReal_ok h2 W (hm.same hW)) rfl

/-- Two fractions laid into new blocks. -/
structure Two (w0 : World) (B C : Nat) (s : Bool) (a b : Nat) (t : Bool) (c d : Nat) (w : World) : Prop where
  c0 : BlockIs w C 114 (frac s a false b)
  c1 : BlockIs w (C + 1) 114 (frac t c false d)
  bl : Below B w0 w
  hC : B ≤ C
theorem Two.below {w0 : World} {B C a b c d : Nat} {s t : Bool} {w w' : World} (h : Two w0 B C s a b t c d w) (hb : Below w.heap.size w w') : Two w0 B C s a b t c d w' :=
  ⟨h.c0.below hb h.c0.lt, h.c1.below hb h.c1.lt, h.bl.trans (hb.mono (by have := h.c0.lt; have := h.hC; omega)), h.hC⟩
theorem twoFracs {w0 w W : World} {B C a b c d : Nat} {s t : Bool} (hb : Below B w0 w) (hB : B ≤ w0.heap.size) (hC : w.heap.size = C) (hW : (w.alloc (.cells (fracF (fun _ => 0) 0 false (fun _ => 0) 0 false) 114)).alloc (.cells (fracF (fun _ => 0) 0 false (fun _ => 0) 0 false) 114) = W) :
    BlockIs W C 114 (fracF (fun _ => 0) 0 false (fun _ => 0) 0 false) ∧ BlockIs (W.setRow C (frac s a false b)) (C + 1) 114 (fracF (fun _ => 0) 0 false (fun _ => 0) 0 false) ∧ Two w0 B C s a b t c d ((W.setRow C (frac s a false b)).setRow (C + 1) (frac t c false d)) := by
  have hBC : B ≤ C := by have := hb.size; omega
  have c0 : BlockIs W C 114 (fracF (fun _ => 0) 0 false (fun _ => 0) 0 false) := by rw [← hW, ← hC]; exact (BlockIs.new _ _ _).alloc _
  have c1 : BlockIs W (C + 1) 114 (fracF (fun _ => 0) 0 false (fun _ => 0) 0 false) := by
    rw [← hW, ← hC]
    have := BlockIs.new (w.alloc (.cells (fracF (fun _ => 0) 0 false (fun _ => 0) 0 false) 114)) 114 (fracF (fun _ => 0) 0 false (fun _ => 0) 0 false)
    rwa [World.size_alloc] at this
  have bl : Below B w0 W := by rw [← hW]; exact (hb.alloc (by omega) _).alloc (by rw [World.size_alloc]; omega) _
  exact ⟨c0, c1.rowOther _ _ (by omega), ⟨(c0.row _).rowOther _ _ (by omega), (c1.rowOther _ _ (by omega)).row _, below_row (below_row bl _ _ (by omega)) _ _ (by omega), hBC⟩⟩

/-! ### The map of the operations -/
def MapIs (w : World) (r : Nat) (es : Array MapEntry) (k : Nat) : Prop := w.heap[r]? = some (.map es k)
def setM (w : World) (r : Nat) (es : Array MapEntry) (k : Nat) : World := { w with heap := w.heap.setIfInBounds r (.map es k) }
theorem MapIs.new (w : World) : MapIs (w.alloc (.map #[] 0)) w.heap.size #[] 0 := by
  show (w.heap.push _)[w.heap.size]? = _
  simp
theorem MapIs.lt {w : World} {r k : Nat} {es : Array MapEntry} (h : MapIs w r es k) : r < w.heap.size := (Array.getElem?_eq_some_iff.1 (show w.heap[r]? = _ from h)).1
theorem MapIs.set {w : World} {r k : Nat} {es : Array MapEntry} (h : MapIs w r es k) (es' : Array MapEntry) (k' : Nat) : MapIs (setM w r es' k') r es' k' := (MapKept.heap_set (o' := .map es' k') h).1
theorem MapIs.below {w w' : World} {r k : Nat} {es : Array MapEntry} (h : MapIs w r es k) (hb : Below w.heap.size w w') : MapIs w' r es k := by
  show w'.heap[r]? = _
  rw [hb.block r h.lt]; exact h
theorem below_setM {B r : Nat} {w0 w : World} (h : Below B w0 w) (es : Array MapEntry) (k : Nat) (hr : B ≤ r) : Below B w0 (setM w r es k) :=
  h.trans ⟨rfl, rfl, rfl, by simp [setM], fun j hj => by simp [setM, Array.getElem?_setIfInBounds]; omega⟩
theorem BlockIs.setM {w : World} {B r k : Nat} {t : TypeId} {cs : Array Value} {es0 : Array MapEntry} {k0 : Nat} (h : BlockIs w B t cs) (hm : MapIs w r es0 k0) (es : Array MapEntry) (hn : B ≠ r) : BlockIs (Proofs.YtjemolaobhlapaaGreatDoor.setM w r es k) B t cs :=
  ((MapKept.heap_set (o' := .map es k) (show w.heap[r]? = some (.map es0 k0) from hm)).2 B hn).trans h
theorem run_ins {w : World} {r k : Nat} {es : Array MapEntry} (hb : MapIs w r es k) (n : Int) (v : Value) (hf : Instr.findNow (.int .u8) (.int .u8 n) es.toList 0 = some none) :
    (Instr.mapUpdate 165 (.map (some r)) (.int .u8 n) v).run Tryz.prog w = .ok () (setM w r (es.push { key := .int .u8 n, val := v, born := k }) (k + 1)) := by
  have hm : Tryz.prog.underlying 165 = some (.map 5 163) := by kernel_rfl
  have hk : Tryz.prog.underlying 5 = some (.int .u8) := by kernel_rfl
  have hc : (Instr.checkKey false 10000 5 (.int .u8 n)).run Tryz.prog w = .ok () w := MapKept.run_checkKey (k := .int .u8 n) hk (by simp [MapKept.IsKey]) false 9999
  simp [Instr.mapUpdate, run_underlying hm, MapKept.run_getObj_map hb, hc, MapKept.run_findKey hk hf, MapKept.run_setObj_map _ hb, Result.andThen, setM]
theorem run_look {w : World} {r k : Nat} {es : Array MapEntry} (hb : MapIs w r es k) (n : Int) (i : Nat) (v : Value) (hf : Instr.findNow (.int .u8) (.int .u8 n) es.toList 0 = some (some (i, v))) :
    (Instr.lookup 165 (.map (some r)) (.int .u8 n) false).run Tryz.prog w = .ok v w := by
  have hm : Tryz.prog.underlying 165 = some (.map 5 163) := by kernel_rfl
  have hk : Tryz.prog.underlying 5 = some (.int .u8) := by kernel_rfl
  have hc : ∀ b, (Instr.checkKey b 10000 5 (.int .u8 n)).run Tryz.prog w = .ok () w := fun b => MapKept.run_checkKey (k := .int .u8 n) hk (by simp [MapKept.IsKey]) b 9999
  simp [Instr.lookup, run_underlying hm, MapKept.run_getObj_map hb, hc, MapKept.run_findKey hk hf, Result.andThen]
theorem wp_unitW {o : Oper} {a : Act} {w w' : World} {K : Act → World → Prop} {Q : Exit → Act → World → Prop} (h : (execOp a.eval o).run Tryz.prog w = .ok .skip w') (hk : K (a.put o.dst undef) w') : o.wp Tryz.prog a w K Q := by
  unfold Oper.wp
  rw [h]
  exact hk
theorem wpI_insert {ops : Array Oper} {rest : List Oper} {a : Act} {w : World} {Q : Exit → Act → World → Prop} {d : Option Tmp} {ty : TypeId} {pos : String} {after : Array _} (m y x : Operand) {r k : Nat} {es : Array MapEntry} {n : Int} {v : Value}
    (hm : a.eval m = .map (some r)) (hy : a.eval y = .int .u8 n) (hx : a.eval x = v) (hb : MapIs w r es k) (hf : Instr.findNow (.int .u8) (.int .u8 n) es.toList 0 = some none) (es' : Array MapEntry) (k' : Nat) (he : es.push { key := .int .u8 n, val := v, born := k } = es') (hk' : k + 1 = k')
    (h : wpList Tryz.prog ops Q rest (a.put d undef) (setM w r es' k')) :
    wpList Tryz.prog ops Q ({ dst := d, op := .insert 165 m y x, type := ty, pos := pos, after := after, guard := none } :: rest) a w :=
  BigFrame.wpList_want rfl fun _ hK => wp_unitW (by
    unfold execOp
    simp only [Sem.run_bind, hm, hy, hx, run_ins hb n v hf, he, hk', Result.andThen_ok]
    rfl) (hK _ _ h)
theorem wpI_look {ops : Array Oper} {rest : List Oper} {a : Act} {w : World} {Q : Exit → Act → World → Prop} {d : Option Tmp} {ty : TypeId} {pos : String} {after : Array _} (m y : Operand) {r k : Nat} {es : Array MapEntry} {n : Int} (i : Nat) {v : Value}
    (hm : a.eval m = .map (some r)) (hy : a.eval y = .int .u8 n) (hb : MapIs w r es k) (hf : Instr.findNow (.int .u8) (.int .u8 n) es.toList 0 = some (some (i, v)))
    (h : wpList Tryz.prog ops Q rest (a.put d v) w) :
    wpList Tryz.prog ops Q ({ dst := d, op := .lookup 165 m y false, type := ty, pos := pos, after := after, guard := none } :: rest) a w :=
  BigFrame.wpList_want rfl fun _ hK => wp_value (by
    unfold execOp
    simp only [Sem.run_bind, hm, hy, run_look hb n i v hf, Result.andThen_ok]
    rfl) (hK _ _ h)
abbrev fnV (f : Nat) : Value := .func (.func f) #[] #[]
abbrev opE1 : Array MapEntry := #[{ key := .int .u8 43, val := fnV 147, born := 0 }]
abbrev opE2 : Array MapEntry := #[{ key := .int .u8 43, val := fnV 147, born := 0 }, { key := .int .u8 45, val := fnV 148, born := 1 }]
abbrev opE3 : Array MapEntry := #[{ key := .int .u8 43, val := fnV 147, born := 0 }, { key := .int .u8 45, val := fnV 148, born := 1 }, { key := .int .u8 42, val := fnV 149, born := 2 }]
abbrev opE4 : Array MapEntry := #[{ key := .int .u8 43, val := fnV 147, born := 0 }, { key := .int .u8 45, val := fnV 148, born := 1 }, { key := .int .u8 42, val := fnV 149, born := 2 }, { key := .int .u8 47, val := fnV 150, born := 3 }]
theorem Two.map {w0 w : World} {B C a b c d M : Nat} {s t : Bool} (h : Two w0 B C s a b t c d w) (hM : w.heap.size = M) :
    MapIs (w.alloc (.map #[] 0)) M #[] 0 ∧ MapIs (setM (w.alloc (.map #[] 0)) M opE1 1) M opE1 1 ∧ MapIs (setM (setM (w.alloc (.map #[] 0)) M opE1 1) M opE2 2) M opE2 2 ∧ MapIs (setM (setM (setM (w.alloc (.map #[] 0)) M opE1 1) M opE2 2) M opE3 3) M opE3 3 ∧
    MapIs (setM (setM (setM (setM (w.alloc (.map #[] 0)) M opE1 1) M opE2 2) M opE3 3) M opE4 4) M opE4 4 ∧ Two w0 B C s a b t c d (setM (setM (setM (setM (w.alloc (.map #[] 0)) M opE1 1) M opE2 2) M opE3 3) M opE4 4) := by
  have h0 : MapIs (w.alloc (.map #[] 0)) M #[] 0 := by rw [← hM]; exact MapIs.new w
  have h1 := h0.set opE1 1
  have h2 := h1.set opE2 2
  have h3 := h2.set opE3 3
  have h4 := h3.set opE4 4
  have hA : Two w0 B C s a b t c d (w.alloc (.map #[] 0)) := h.below ((Below.refl _ _).alloc (Nat.le_refl _) _)
  have l0 : C ≠ M := by rw [← hM]; exact Nat.ne_of_lt h.c0.lt
  have l1 : C + 1 ≠ M := by rw [← hM]; exact Nat.ne_of_lt h.c1.lt
  have lB : B ≤ M := by rw [← hM]; have := h.c0.lt; have := h.hC; omega
  exact ⟨h0, h1, h2, h3, h4, ⟨(((hA.c0.setM h0 _ l0).setM h1 _ l0).setM h2 _ l0).setM h3 _ l0, (((hA.c1.setM h0 _ l1).setM h1 _ l1).setM h2 _ l1).setM h3 _ l1, below_setM (below_setM (below_setM (below_setM hA.bl _ _ lB) _ _ lB) _ _ lB) _ _ lB, h.hC⟩⟩

set_option maxHeartbeats 4000000 in
theorem calc_plus (s t : Bool) (a b c d : Nat) (hx : Rat2 s a b) (hy : Rat2 t c d) (r : Bool) (p q : Nat) (hp : p < pw 30) (hq : q < pw 30) (res : ByteArray) (er : Int)
    (HFR : ∀ W, Calls Tryz.prog 107 #[.agg (frac r p false q)] W fun e w' => e = .returned (.tuple #[.string res, .int .i64 er]) ∧ Below W.heap.size W w')
    (HOP : ∀ W, Calls Tryz.prog 147 #[.agg (frac s a false b), .agg (frac t c false d)] W fun e w' => e = .returned (.agg (frac r p false q)) ∧ Below W.heap.size W w') (w : World) (hm : MLen w) :
    Calls Tryz.prog 94 #[.int .u8 43, .string (bs (ratio s a false b)), .string (bs (ratio t c false d))] w fun e w' => e = .returned (.tuple #[.string res, .int .i64 er]) ∧ Below w.heap.size w w' := by
  obtain ⟨B, hB⟩ : ∃ B, w.heap.size = B := ⟨_, rfl⟩
  have HRX := Lib.hid (fun W h => readF_ok hx W h)
  have HRY := Lib.hid (fun W h => readF_ok hy W h)
  have HF := Lib.hid HFR
  have HO := Lib.hid HOP
  obtain ⟨W, hW⟩ : ∃ W, w.alloc (.cells #[.string (bs (ratio s a false b)), .string (bs (ratio t c false d))] 9) = W := ⟨_, rfl⟩
  have hP := pairBlock w (bs (ratio s a false b)) (bs (ratio t c false d)) hB hW
  have hMW : MLen W := hm.below hP.2 (by rw [← hB]; exact hm.pos)
  have HCK := Lib.hid (checkBothR hx hy hMW hP.1)
  have HBL := Lib.hid (And.intro hP.2 hMW)
  obtain ⟨x, hx2⟩ : ∃ x, bs (ratio s a false b) = x := ⟨_, rfl⟩
  obtain ⟨y, hy2⟩ : ∃ y, bs (ratio t c false d) = y := ⟨_, rfl⟩
  rw [hx2] at HRX hW ⊢
  rw [hy2] at HRY hW ⊢
  have hz0 := zeroFr
  have hmm := @run_makeMap Tryz.prog
  clear hx2 hy2 hx hy hm hP hMW HOP HFR hp hq
  go_enter Tryz.func94, Tryz.ntmps94
  go_wp2_with (first | (go_at_call 79; refine HCK.out.mono ?_; rintro e w1 ⟨rfl, hb1⟩; have HB1 := Lib.hid (show Below B w w1 ∧ MLen w1 from ⟨HBL.out.1.trans (hb1.mono (by have := HBL.out.1.size; omega)), HBL.out.2.same hb1⟩); clear hb1) | (go_at_call 101; (with_reducible refine (HRX.out _ HB1.out.2).mono ?_); rintro e w2 ⟨rfl, hb2⟩; have HB2 := Lib.hid (show Below B w w2 ∧ MLen w2 from ⟨HB1.out.1.trans (hb2.mono (by have := HB1.out.1.size; omega)), HB1.out.2.same hb2⟩); clear hb2) | (go_at_call 101; (with_reducible refine (HRY.out _ HB2.out.2).mono ?_); rintro e w3 ⟨rfl, hb3⟩; have HB3 := Lib.hid (show Below B w w3 ∧ MLen w3 from ⟨HB2.out.1.trans (hb3.mono (by have := HB2.out.1.size; omega)), HB2.out.2.same hb3⟩); clear hb3; obtain ⟨C, hC⟩ : ∃ C, w3.heap.size = C := ⟨_, rfl⟩; obtain ⟨U, hU⟩ : ∃ U, (w3.alloc (.cells (fracF (fun _ => 0) 0 false (fun _ => 0) 0 false) 114)).alloc (.cells (fracF (fun _ => 0) 0 false (fun _ => 0) 0 false) 114) = U := ⟨_, rfl⟩; have HU := Lib.hid (twoFracs (s := s) (a := a) (b := b) (t := t) (c := c) (d := d) HB3.out.1 (by rw [hB]; exact Nat.le_refl _) hC hU)) | ((with_reducible refine wpF_store (.tmp 9) (.tmp 20) C (f := limb a) (u := len a) (s := s) (g := limb b) (v := len b) (t := false) ?_ ?_ HU.out.1 ?_); rfl; rfl) | ((with_reducible refine wpF_store (.tmp 10) (.tmp 22) (C + 1) (f := limb c) (u := len c) (s := t) (g := limb d) (v := len d) (t := false) ?_ ?_ HU.out.2.1 ?_); rfl; rfl; have HV := Lib.hid HU.out.2.2; obtain ⟨V, hV⟩ : ∃ V, (U.setRow C (frac s a false b)).setRow (C + 1) (frac t c false d) = V := ⟨_, rfl⟩; rw [hV] at HV ⊢; clear hV HU hU hC; obtain ⟨M, hM⟩ : ∃ M, V.heap.size = M := ⟨_, rfl⟩; have HM := Lib.hid (HV.out.map hM)) | ((with_reducible refine wpI_insert (.tmp 31) (.const (.int .u8 43)) (.func 147) (n := 43) (v := fnV 147) ?_ ?_ ?_ HM.out.1 ?_ opE1 1 ?_ ?_ ?_); rfl; rfl; rfl; rfl; rfl; rfl) | ((with_reducible refine wpI_insert (.tmp 31) (.const (.int .u8 45)) (.func 148) (n := 45) (v := fnV 148) ?_ ?_ ?_ HM.out.2.1 ?_ opE2 2 ?_ ?_ ?_); rfl; rfl; rfl; rfl; rfl; rfl) | ((with_reducible refine wpI_insert (.tmp 31) (.const (.int .u8 42)) (.func 149) (n := 42) (v := fnV 149) ?_ ?_ ?_ HM.out.2.2.1 ?_ opE3 3 ?_ ?_ ?_); rfl; rfl; rfl; rfl; rfl; rfl) | ((with_reducible refine wpI_insert (.tmp 31) (.const (.int .u8 47)) (.func 150) (n := 47) (v := fnV 150) ?_ ?_ ?_ HM.out.2.2.2.1 ?_ opE4 4 ?_ ?_ ?_); rfl; rfl; rfl; rfl; rfl; rfl; have HX := Lib.hid HM.out.2.2.2.2; obtain ⟨X, hX⟩ : ∃ X, setM (setM (setM (setM (V.alloc (.map #[] 0)) M opE1 1) M opE2 2) M opE3 3) M opE4 4 = X := ⟨_, rfl⟩; rw [hX] at HX ⊢; clear hX HM) | ((with_reducible refine wpI_look (.tmp 33) (.tmp 34) (n := 43) 0 (v := fnV 147) ?_ ?_ HX.out.1 ?_ ?_); rfl; rfl; rfl) | ((with_reducible refine wpF_load (.tmp 9) C ?_ HX.out.2.c0 ?_); rfl) | ((with_reducible refine wpF_load (.tmp 10) (C + 1) ?_ HX.out.2.c1 ?_); rfl) | (go_at_call 147; refine (HO.out _).mono ?_; rintro e w5 ⟨rfl, hb5⟩; have HB5 := Lib.hid (HX.out.2.below hb5).bl; clear hb5) | (go_at_call 107; refine (HF.out _).mono ?_; rintro e w6 ⟨rfl, hb6⟩; have HB6 := Lib.hid (HB5.out.trans (hb6.mono (by have := HB5.out.size; omega))); clear hb6))
  go_ret2
  exact ⟨rfl, hB ▸ HB6.out⟩

set_option maxHeartbeats 4000000 in
theorem calc_minus (s t : Bool) (a b c d : Nat) (hx : Rat2 s a b) (hy : Rat2 t c d) (r : Bool) (p q : Nat) (hp : p < pw 30) (hq : q < pw 30) (res : ByteArray) (er : Int)
    (HFR : ∀ W, Calls Tryz.prog 107 #[.agg (frac r p false q)] W fun e w' => e = .returned (.tuple #[.string res, .int .i64 er]) ∧ Below W.heap.size W w')
    (HOP : ∀ W, Calls Tryz.prog 148 #[.agg (frac s a false b), .agg (frac t c false d)] W fun e w' => e = .returned (.agg (frac r p false q)) ∧ Below W.heap.size W w') (w : World) (hm : MLen w) :
    Calls Tryz.prog 94 #[.int .u8 45, .string (bs (ratio s a false b)), .string (bs (ratio t c false d))] w fun e w' => e = .returned (.tuple #[.string res, .int .i64 er]) ∧ Below w.heap.size w w' := by
  obtain ⟨B, hB⟩ : ∃ B, w.heap.size = B := ⟨_, rfl⟩
  have HRX := Lib.hid (fun W h => readF_ok hx W h)
  have HRY := Lib.hid (fun W h => readF_ok hy W h)
  have HF := Lib.hid HFR
  have HO := Lib.hid HOP
  obtain ⟨W, hW⟩ : ∃ W, w.alloc (.cells #[.string (bs (ratio s a false b)), .string (bs (ratio t c false d))] 9) = W := ⟨_, rfl⟩
  have hP := pairBlock w (bs (ratio s a false b)) (bs (ratio t c false d)) hB hW
  have hMW : MLen W := hm.below hP.2 (by rw [← hB]; exact hm.pos)
  have HCK := Lib.hid (checkBothR hx hy hMW hP.1)
  have HBL := Lib.hid (And.intro hP.2 hMW)
  obtain ⟨x, hx2⟩ : ∃ x, bs (ratio s a false b) = x := ⟨_, rfl⟩
  obtain ⟨y, hy2⟩ : ∃ y, bs (ratio t c false d) = y := ⟨_, rfl⟩
  rw [hx2] at HRX hW ⊢
  rw [hy2] at HRY hW ⊢
  have hz0 := zeroFr
  have hmm := @run_makeMap Tryz.prog
  clear hx2 hy2 hx hy hm hP hMW HOP HFR hp hq
  go_enter Tryz.func94, Tryz.ntmps94
  go_wp2_with (first | (go_at_call 79; refine HCK.out.mono ?_; rintro e w1 ⟨rfl, hb1⟩; have HB1 := Lib.hid (show Below B w w1 ∧ MLen w1 from ⟨HBL.out.1.trans (hb1.mono (by have := HBL.out.1.size; omega)), HBL.out.2.same hb1⟩); clear hb1) | (go_at_call 101; (with_reducible refine (HRX.out _ HB1.out.2).mono ?_); rintro e w2 ⟨rfl, hb2⟩; have HB2 := Lib.hid (show Below B w w2 ∧ MLen w2 from ⟨HB1.out.1.trans (hb2.mono (by have := HB1.out.1.size; omega)), HB1.out.2.same hb2⟩); clear hb2) | (go_at_call 101; (with_reducible refine (HRY.out _ HB2.out.2).mono ?_); rintro e w3 ⟨rfl, hb3⟩; have HB3 := Lib.hid (show Below B w w3 ∧ MLen w3 from ⟨HB2.out.1.trans (hb3.mono (by have := HB2.out.1.size; omega)), HB2.out.2.same hb3⟩); clear hb3; obtain ⟨C, hC⟩ : ∃ C, w3.heap.size = C := ⟨_, rfl⟩; obtain ⟨U, hU⟩ : ∃ U, (w3.alloc (.cells (fracF (fun _ => 0) 0 false (fun _ => 0) 0 false) 114)).alloc (.cells (fracF (fun _ => 0) 0 false (fun _ => 0) 0 false) 114) = U := ⟨_, rfl⟩; have HU := Lib.hid (twoFracs (s := s) (a := a) (b := b) (t := t) (c := c) (d := d) HB3.out.1 (by rw [hB]; exact Nat.le_refl _) hC hU)) | ((with_reducible refine wpF_store (.tmp 9) (.tmp 20) C (f := limb a) (u := len a) (s := s) (g := limb b) (v := len b) (t := false) ?_ ?_ HU.out.1 ?_); rfl; rfl) | ((with_reducible refine wpF_store (.tmp 10) (.tmp 22) (C + 1) (f := limb c) (u := len c) (s := t) (g := limb d) (v := len d) (t := false) ?_ ?_ HU.out.2.1 ?_); rfl; rfl; have HV := Lib.hid HU.out.2.2; obtain ⟨V, hV⟩ : ∃ V, (U.setRow C (frac s a false b)).setRow (C + 1) (frac t c false d) = V := ⟨_, rfl⟩; rw [hV] at HV ⊢; clear hV HU hU hC; obtain ⟨M, hM⟩ : ∃ M, V.heap.size = M := ⟨_, rfl⟩; have HM := Lib.hid (HV.out.map hM)) | ((with_reducible refine wpI_insert (.tmp 31) (.const (.int .u8 43)) (.func 147) (n := 43) (v := fnV 147) ?_ ?_ ?_ HM.out.1 ?_ opE1 1 ?_ ?_ ?_); rfl; rfl; rfl; rfl; rfl; rfl) | ((with_reducible refine wpI_insert (.tmp 31) (.const (.int .u8 45)) (.func 148) (n := 45) (v := fnV 148) ?_ ?_ ?_ HM.out.2.1 ?_ opE2 2 ?_ ?_ ?_); rfl; rfl; rfl; rfl; rfl; rfl) | ((with_reducible refine wpI_insert (.tmp 31) (.const (.int .u8 42)) (.func 149) (n := 42) (v := fnV 149) ?_ ?_ ?_ HM.out.2.2.1 ?_ opE3 3 ?_ ?_ ?_); rfl; rfl; rfl; rfl; rfl; rfl) | ((with_reducible refine wpI_insert (.tmp 31) (.const (.int .u8 47)) (.func 150) (n := 47) (v := fnV 150) ?_ ?_ ?_ HM.out.2.2.2.1 ?_ opE4 4 ?_ ?_ ?_); rfl; rfl; rfl; rfl; rfl; rfl; have HX := Lib.hid HM.out.2.2.2.2; obtain ⟨X, hX⟩ : ∃ X, setM (setM (setM (setM (V.alloc (.map #[] 0)) M opE1 1) M opE2 2) M opE3 3) M opE4 4 = X := ⟨_, rfl⟩; rw [hX] at HX ⊢; clear hX HM) | ((with_reducible refine wpI_look (.tmp 33) (.tmp 34) (n := 45) 1 (v := fnV 148) ?_ ?_ HX.out.1 ?_ ?_); rfl; rfl; rfl) | ((with_reducible refine wpF_load (.tmp 9) C ?_ HX.out.2.c0 ?_); rfl) | ((with_reducible refine wpF_load (.tmp 10) (C + 1) ?_ HX.out.2.c1 ?_); rfl) | (go_at_call 148; refine (HO.out _).mono ?_; rintro e w5 ⟨rfl, hb5⟩; have HB5 := Lib.hid (HX.out.2.below hb5).bl; clear hb5) | (go_at_call 107; refine (HF.out _).mono ?_; rintro e w6 ⟨rfl, hb6⟩; have HB6 := Lib.hid (HB5.out.trans (hb6.mono (by have := HB5.out.size; omega))); clear hb6))
  go_ret2
  exact ⟨rfl, hB ▸ HB6.out⟩

set_option maxHeartbeats 4000000 in
theorem calc_times (s t : Bool) (a b c d : Nat) (hx : Rat2 s a b) (hy : Rat2 t c d) (r : Bool) (p q : Nat) (hp : p < pw 30) (hq : q < pw 30) (res : ByteArray) (er : Int)
    (HFR : ∀ W, Calls Tryz.prog 107 #[.agg (frac r p false q)] W fun e w' => e = .returned (.tuple #[.string res, .int .i64 er]) ∧ Below W.heap.size W w')
    (HOP : ∀ W, Calls Tryz.prog 149 #[.agg (frac s a false b), .agg (frac t c false d)] W fun e w' => e = .returned (.agg (frac r p false q)) ∧ Below W.heap.size W w') (w : World) (hm : MLen w) :
    Calls Tryz.prog 94 #[.int .u8 42, .string (bs (ratio s a false b)), .string (bs (ratio t c false d))] w fun e w' => e = .returned (.tuple #[.string res, .int .i64 er]) ∧ Below w.heap.size w w' := by
  obtain ⟨B, hB⟩ : ∃ B, w.heap.size = B := ⟨_, rfl⟩
  have HRX := Lib.hid (fun W h => readF_ok hx W h)
  have HRY := Lib.hid (fun W h => readF_ok hy W h)
  have HF := Lib.hid HFR
  have HO := Lib.hid HOP
  obtain ⟨W, hW⟩ : ∃ W, w.alloc (.cells #[.string (bs (ratio s a false b)), .string (bs (ratio t c false d))] 9) = W := ⟨_, rfl⟩
  have hP := pairBlock w (bs (ratio s a false b)) (bs (ratio t c false d)) hB hW
  have hMW : MLen W := hm.below hP.2 (by rw [← hB]; exact hm.pos)
  have HCK := Lib.hid (checkBothR hx hy hMW hP.1)
  have HBL := Lib.hid (And.intro hP.2 hMW)
  obtain ⟨x, hx2⟩ : ∃ x, bs (ratio s a false b) = x := ⟨_, rfl⟩
  obtain ⟨y, hy2⟩ : ∃ y, bs (ratio t c false d) = y := ⟨_, rfl⟩
  rw [hx2] at HRX hW ⊢
  rw [hy2] at HRY hW ⊢
  have hz0 := zeroFr
  have hmm := @run_makeMap Tryz.prog
  clear hx2 hy2 hx hy hm hP hMW HOP HFR hp hq
  go_enter Tryz.func94, Tryz.ntmps94
  go_wp2_with (first | (go_at_call 79; refine HCK.out.mono ?_; rintro e w1 ⟨rfl, hb1⟩; have HB1 := Lib.hid (show Below B w w1 ∧ MLen w1 from ⟨HBL.out.1.trans (hb1.mono (by have := HBL.out.1.size; omega)), HBL.out.2.same hb1⟩); clear hb1) | (go_at_call 101; (with_reducible refine (HRX.out _ HB1.out.2).mono ?_); rintro e w2 ⟨rfl, hb2⟩; have HB2 := Lib.hid (show Below B w w2 ∧ MLen w2 from ⟨HB1.out.1.trans (hb2.mono (by have := HB1.out.1.size; omega)), HB1.out.2.same hb2⟩); clear hb2) | (go_at_call 101; (with_reducible refine (HRY.out _ HB2.out.2).mono ?_); rintro e w3 ⟨rfl, hb3⟩; have HB3 := Lib.hid (show Below B w w3 ∧ MLen w3 from ⟨HB2.out.1.trans (hb3.mono (by have := HB2.out.1.size; omega)), HB2.out.2.same hb3⟩); clear hb3; obtain ⟨C, hC⟩ : ∃ C, w3.heap.size = C := ⟨_, rfl⟩; obtain ⟨U, hU⟩ : ∃ U, (w3.alloc (.cells (fracF (fun _ => 0) 0 false (fun _ => 0) 0 false) 114)).alloc (.cells (fracF (fun _ => 0) 0 false (fun _ => 0) 0 false) 114) = U := ⟨_, rfl⟩; have HU := Lib.hid (twoFracs (s := s) (a := a) (b := b) (t := t) (c := c) (d := d) HB3.out.1 (by rw [hB]; exact Nat.le_refl _) hC hU)) | ((with_reducible refine wpF_store (.tmp 9) (.tmp 20) C (f := limb a) (u := len a) (s := s) (g := limb b) (v := len b) (t := false) ?_ ?_ HU.out.1 ?_); rfl; rfl) | ((with_reducible refine wpF_store (.tmp 10) (.tmp 22) (C + 1) (f := limb c) (u := len c) (s := t) (g := limb d) (v := len d) (t := false) ?_ ?_ HU.out.2.1 ?_); rfl; rfl; have HV := Lib.hid HU.out.2.2; obtain ⟨V, hV⟩ : ∃ V, (U.setRow C (frac s a false b)).setRow (C + 1) (frac t c false d) = V := ⟨_, rfl⟩; rw [hV] at HV ⊢; clear hV HU hU hC; obtain ⟨M, hM⟩ : ∃ M, V.heap.size = M := ⟨_, rfl⟩; have HM := Lib.hid (HV.out.map hM)) | ((with_reducible refine wpI_insert (.tmp 31) (.const (.int .u8 43)) (.func 147) (n := 43) (v := fnV 147) ?_ ?_ ?_ HM.out.1 ?_ opE1 1 ?_ ?_ ?_); rfl; rfl; rfl; rfl; rfl; rfl) | ((with_reducible refine wpI_insert (.tmp 31) (.const (.int .u8 45)) (.func 148) (n := 45) (v := fnV 148) ?_ ?_ ?_ HM.out.2.1 ?_ opE2 2 ?_ ?_ ?_); rfl; rfl; rfl; rfl; rfl; rfl) | ((with_reducible refine wpI_insert (.tmp 31) (.const (.int .u8 42)) (.func 149) (n := 42) (v := fnV 149) ?_ ?_ ?_ HM.out.2.2.1 ?_ opE3 3 ?_ ?_ ?_); rfl; rfl; rfl; rfl; rfl; rfl) | ((with_reducible refine wpI_insert (.tmp 31) (.const (.int .u8 47)) (.func 150) (n := 47) (v := fnV 150) ?_ ?_ ?_ HM.out.2.2.2.1 ?_ opE4 4 ?_ ?_ ?_); rfl; rfl; rfl; rfl; rfl; rfl; have HX := Lib.hid HM.out.2.2.2.2; obtain ⟨X, hX⟩ : ∃ X, setM (setM (setM (setM (V.alloc (.map #[] 0)) M opE1 1) M opE2 2) M opE3 3) M opE4 4 = X := ⟨_, rfl⟩; rw [hX] at HX ⊢; clear hX HM) | ((with_reducible refine wpI_look (.tmp 33) (.tmp 34) (n := 42) 2 (v := fnV 149) ?_ ?_ HX.out.1 ?_ ?_); rfl; rfl; rfl) | ((with_reducible refine wpF_load (.tmp 9) C ?_ HX.out.2.c0 ?_); rfl) | ((with_reducible refine wpF_load (.tmp 10) (C + 1) ?_ HX.out.2.c1 ?_); rfl) | (go_at_call 149; refine (HO.out _).mono ?_; rintro e w5 ⟨rfl, hb5⟩; have HB5 := Lib.hid (HX.out.2.below hb5).bl; clear hb5) | (go_at_call 107; refine (HF.out _).mono ?_; rintro e w6 ⟨rfl, hb6⟩; have HB6 := Lib.hid (HB5.out.trans (hb6.mono (by have := HB5.out.size; omega))); clear hb6))
  go_ret2
  exact ⟨rfl, hB ▸ HB6.out⟩

set_option maxHeartbeats 4000000 in
theorem calc_over (s t : Bool) (a b c d : Nat) (hx : Rat2 s a b) (hy : Rat2 t c d) (hc0 : 0 < c) (r : Bool) (p q : Nat) (hp : p < pw 30) (hq : q < pw 30) (res : ByteArray) (er : Int)
    (HFR : ∀ W, Calls Tryz.prog 107 #[.agg (frac r p false q)] W fun e w' => e = .returned (.tuple #[.string res, .int .i64 er]) ∧ Below W.heap.size W w')
    (HOP : ∀ W, Calls Tryz.prog 150 #[.agg (frac s a false b), .agg (frac t c false d)] W fun e w' => e = .returned (.agg (frac r p false q)) ∧ Below W.heap.size W w') (w : World) (hm : MLen w) :
    Calls Tryz.prog 94 #[.int .u8 47, .string (bs (ratio s a false b)), .string (bs (ratio t c false d))] w fun e w' => e = .returned (.tuple #[.string res, .int .i64 er]) ∧ Below w.heap.size w w' := by
  obtain ⟨B, hB⟩ : ∃ B, w.heap.size = B := ⟨_, rfl⟩
  have HRX := Lib.hid (fun W h => readF_ok hx W h)
  have HRY := Lib.hid (fun W h => readF_ok hy W h)
  have HF := Lib.hid HFR
  have HO := Lib.hid HOP
  have HZ := Lib.hid (fun W => isZero_any c hy.top.lt30 W false (by simp; omega))
  obtain ⟨W, hW⟩ : ∃ W, w.alloc (.cells #[.string (bs (ratio s a false b)), .string (bs (ratio t c false d))] 9) = W := ⟨_, rfl⟩
  have hP := pairBlock w (bs (ratio s a false b)) (bs (ratio t c false d)) hB hW
  have hMW : MLen W := hm.below hP.2 (by rw [← hB]; exact hm.pos)
  have HCK := Lib.hid (checkBothR hx hy hMW hP.1)
  have HBL := Lib.hid (And.intro hP.2 hMW)
  obtain ⟨x, hx2⟩ : ∃ x, bs (ratio s a false b) = x := ⟨_, rfl⟩
  obtain ⟨y, hy2⟩ : ∃ y, bs (ratio t c false d) = y := ⟨_, rfl⟩
  rw [hx2] at HRX hW ⊢
  rw [hy2] at HRY hW ⊢
  have hz0 := zeroFr
  have hmm := @run_makeMap Tryz.prog
  clear hx2 hy2 hx hy hm hP hMW HOP HFR hp hq
  go_enter Tryz.func94, Tryz.ntmps94
  go_wp2_with (first | (go_at_call 79; refine HCK.out.mono ?_; rintro e w1 ⟨rfl, hb1⟩; have HB1 := Lib.hid (show Below B w w1 ∧ MLen w1 from ⟨HBL.out.1.trans (hb1.mono (by have := HBL.out.1.size; omega)), HBL.out.2.same hb1⟩); clear hb1) | (go_at_call 101; (with_reducible refine (HRX.out _ HB1.out.2).mono ?_); rintro e w2 ⟨rfl, hb2⟩; have HB2 := Lib.hid (show Below B w w2 ∧ MLen w2 from ⟨HB1.out.1.trans (hb2.mono (by have := HB1.out.1.size; omega)), HB1.out.2.same hb2⟩); clear hb2) | (go_at_call 101; (with_reducible refine (HRY.out _ HB2.out.2).mono ?_); rintro e w3 ⟨rfl, hb3⟩; have HB3 := Lib.hid (show Below B w w3 ∧ MLen w3 from ⟨HB2.out.1.trans (hb3.mono (by have := HB2.out.1.size; omega)), HB2.out.2.same hb3⟩); clear hb3; obtain ⟨C, hC⟩ : ∃ C, w3.heap.size = C := ⟨_, rfl⟩; obtain ⟨U, hU⟩ : ∃ U, (w3.alloc (.cells (fracF (fun _ => 0) 0 false (fun _ => 0) 0 false) 114)).alloc (.cells (fracF (fun _ => 0) 0 false (fun _ => 0) 0 false) 114) = U := ⟨_, rfl⟩; have HU := Lib.hid (twoFracs (s := s) (a := a) (b := b) (t := t) (c := c) (d := d) HB3.out.1 (by rw [hB]; exact Nat.le_refl _) hC hU)) | ((with_reducible refine wpF_store (.tmp 9) (.tmp 20) C (f := limb a) (u := len a) (s := s) (g := limb b) (v := len b) (t := false) ?_ ?_ HU.out.1 ?_); rfl; rfl) | ((with_reducible refine wpF_store (.tmp 10) (.tmp 22) (C + 1) (f := limb c) (u := len c) (s := t) (g := limb d) (v := len d) (t := false) ?_ ?_ HU.out.2.1 ?_); rfl; rfl; have HV := Lib.hid HU.out.2.2; obtain ⟨V, hV⟩ : ∃ V, (U.setRow C (frac s a false b)).setRow (C + 1) (frac t c false d) = V := ⟨_, rfl⟩; rw [hV] at HV ⊢; clear hV HU hU hC) | ((with_reducible refine wpM_loadAtG (.tmp 27) (C + 1) 0 ?_ ?_ (range_mag (frac_range0 HV.out.c1)) ?_); rfl; rfl) | (go_at_call 86; refine (HZ.out _).mono ?_; rintro e w4 ⟨rfl, hb4⟩; have HV4 := Lib.hid (HV.out.below hb4); clear hb4; obtain ⟨M, hM⟩ : ∃ M, w4.heap.size = M := ⟨_, rfl⟩; have HM := Lib.hid (HV4.out.map hM)) | ((with_reducible refine wpI_insert (.tmp 31) (.const (.int .u8 43)) (.func 147) (n := 43) (v := fnV 147) ?_ ?_ ?_ HM.out.1 ?_ opE1 1 ?_ ?_ ?_); rfl; rfl; rfl; rfl; rfl; rfl) | ((with_reducible refine wpI_insert (.tmp 31) (.const (.int .u8 45)) (.func 148) (n := 45) (v := fnV 148) ?_ ?_ ?_ HM.out.2.1 ?_ opE2 2 ?_ ?_ ?_); rfl; rfl; rfl; rfl; rfl; rfl) | ((with_reducible refine wpI_insert (.tmp 31) (.const (.int .u8 42)) (.func 149) (n := 42) (v := fnV 149) ?_ ?_ ?_ HM.out.2.2.1 ?_ opE3 3 ?_ ?_ ?_); rfl; rfl; rfl; rfl; rfl; rfl) | ((with_reducible refine wpI_insert (.tmp 31) (.const (.int .u8 47)) (.func 150) (n := 47) (v := fnV 150) ?_ ?_ ?_ HM.out.2.2.2.1 ?_ opE4 4 ?_ ?_ ?_); rfl; rfl; rfl; rfl; rfl; rfl; have HX := Lib.hid HM.out.2.2.2.2; obtain ⟨X, hX⟩ : ∃ X, setM (setM (setM (setM (w4.alloc (.map #[] 0)) M opE1 1) M opE2 2) M opE3 3) M opE4 4 = X := ⟨_, rfl⟩; rw [hX] at HX ⊢; clear hX HM) | ((with_reducible refine wpI_look (.tmp 33) (.tmp 34) (n := 47) 3 (v := fnV 150) ?_ ?_ HX.out.1 ?_ ?_); rfl; rfl; rfl) | ((with_reducible refine wpF_load (.tmp 9) C ?_ HX.out.2.c0 ?_); rfl) | ((with_reducible refine wpF_load (.tmp 10) (C + 1) ?_ HX.out.2.c1 ?_); rfl) | (go_at_call 150; refine (HO.out _).mono ?_; rintro e w5 ⟨rfl, hb5⟩; have HB5 := Lib.hid (HX.out.2.below hb5).bl; clear hb5) | (go_at_call 107; refine (HF.out _).mono ?_; rintro e w6 ⟨rfl, hb6⟩; have HB6 := Lib.hid (HB5.out.trans (hb6.mono (by have := HB5.out.size; omega))); clear hb6))
  go_ret2
  exact ⟨rfl, hB ▸ HB6.out⟩

end Go.Proofs.YtjemolaobhlapaaGreatDoor

namespace Go.Proofs.YtjemolaobhlapaaGreatDoor
open Go.RowKit
set_option maxRecDepth 100000

theorem eql_limbs_at (d a b : Nat) (ha : a < pw 30) (hb : b < pw 30) (w : World) : (Op.equalIn (d + 2) 78 (.agg (limbsA (limb a))) (.agg (limbsA (limb b)))).run Tryz.prog w = .ok (decide (a = b)) w := by
  obtain ⟨i0, hi⟩ : ∃ i0, Tryz.prog.info? 76 = some i0 := info_of_underlying Tryz.underlying76
  have hc : Tryz.prog.cellsOf 76 = 1 := by kernel_rfl
  rw [run_equalIn_array w (d + 1) (n := 30) (e := 76) _ _ Tryz.underlying78 hi, hc, eq_items d _ _ w (List.range 30) (fun i hi => by simpa using hi)]
  congr 1
  rw [Bool.eq_iff_iff, List.all_eq_true, decide_eq_true_iff]
  constructor
  · intro h
    exact eq_of_limbs ha hb fun i hi => by have := h i (by simpa using hi); simpa using this
  · rintro rfl i _
    simp
theorem eq_two (d : Nat) (t : TypeId) (xs ys : Array Value) (f g : Field) (x1 y1 x2 y2 : Value) (b1 b2 : Bool) (w : World) (ht : Tryz.prog.underlying t = some (.struct (Tryz.prog.fieldsOf t))) (hp : Tryz.prog.stoodInHeld t = false)
    (hf : (Tryz.prog.fieldsOf t).toList = [f, g]) (n1 : f.name ≠ "_") (n2 : g.name ≠ "_") (p1 : (part f.type xs f.offset).run Tryz.prog w = .ok x1 w) (p2 : (part f.type ys f.offset).run Tryz.prog w = .ok y1 w)
    (p3 : (part g.type xs g.offset).run Tryz.prog w = .ok x2 w) (p4 : (part g.type ys g.offset).run Tryz.prog w = .ok y2 w) (e1 : (Op.equalIn d f.type x1 y1).run Tryz.prog w = .ok b1 w) (e2 : (Op.equalIn d g.type x2 y2).run Tryz.prog w = .ok b2 w) :
    (Op.equalIn (d + 1) t (.agg xs) (.agg ys)).run Tryz.prog w = .ok (b1 && b2) w := by
  rw [run_equalIn_struct w d t xs ys ht hp, hf]
  simp only [Op.eqFields, if_pos n1, if_pos n2, Sem.run_bind, p1, p2, p3, p4, e1, e2, Result.andThen_ok]
  cases b1
  · simp
  · simp only [Bool.not_true, Bool.false_eq_true, if_false, Sem.run_bind, p3, p4, e2, Result.andThen_ok]
    cases b2 <;> simp
abbrev fieldAt (P : Program) (t : TypeId) (i : Nat) : Field := (P.fieldsOf t).toList.getD i default
theorem eql_mag (d a b : Nat) (ha : a < pw 30) (hb : b < pw 30) (w : World) : (Op.equalIn (d + 3) 80 (.agg (mag a)) (.agg (mag b))).run Tryz.prog w = .ok (decide (a = b)) w := by
  have h := eq_two (d + 2) 80 (mag a) (mag b) (fieldAt Tryz.prog 80 0) (fieldAt Tryz.prog 80 1) (.agg (limbsA (limb a))) (.agg (limbsA (limb b))) (.int .i64 (len a)) (.int .i64 (len b)) (decide (a = b)) ((len a : Int) == (len b : Int)) w
    (by kernel_rfl) (by kernel_rfl) (by kernel_rfl) (by decide +kernel) (by decide +kernel) (by kernel_rfl) (by kernel_rfl) (by kernel_rfl) (by kernel_rfl) (eql_limbs_at d a b ha hb w) (by
      have : (fieldAt Tryz.prog 80 1).type = 3 := by kernel_rfl
      rw [this]
      exact run_equalIn_int w (d + 1) 3 .i64 .i64 _ _ (by kernel_rfl))
  rw [h]
  congr 1
  by_cases e : a = b
  · subst e; simp
  · simp [e]

theorem eql_sig (d : Nat) (s t : Bool) (a b : Nat) (ha : a < pw 30) (hb : b < pw 30) (w : World) : (Op.equalIn (d + 4) 82 (.agg (sig s a)) (.agg (sig t b))).run Tryz.prog w = .ok (decide (a = b) && (s == t)) w :=
  eq_two (d + 3) 82 (sig s a) (sig t b) (fieldAt Tryz.prog 82 0) (fieldAt Tryz.prog 82 1) (.agg (mag a)) (.agg (mag b)) (.bool s) (.bool t) (decide (a = b)) (s == t) w
    (by kernel_rfl) (by kernel_rfl) (by kernel_rfl) (by decide +kernel) (by decide +kernel) (by kernel_rfl) (by kernel_rfl) (by kernel_rfl) (by kernel_rfl) (by
      have : (fieldAt Tryz.prog 82 0).type = 80 := by kernel_rfl
      rw [this]; exact eql_mag d a b ha hb w) (by
      have : (fieldAt Tryz.prog 82 1).type = 4 := by kernel_rfl
      rw [this]
      exact run_equalIn_bool w (d + 2) 4 s t (by kernel_rfl))
theorem eql_frac (d : Nat) (s t : Bool) (a b c e : Nat) (ha : a < pw 30) (hb : b < pw 30) (hc : c < pw 30) (he : e < pw 30) (w : World) : (Op.equalIn (d + 5) 114 (.agg (frac s a false b)) (.agg (frac t c false e))).run Tryz.prog w = .ok ((decide (a = c) && (s == t)) && decide (b = e)) w := by
  have h := eq_two (d + 4) 114 (frac s a false b) (frac t c false e) (fieldAt Tryz.prog 114 0) (fieldAt Tryz.prog 114 1) (.agg (sig s a)) (.agg (sig t c)) (.agg (sig false b)) (.agg (sig false e)) (decide (a = c) && (s == t)) (decide (b = e) && (false == false)) w
    (by kernel_rfl) (by kernel_rfl) (by kernel_rfl) (by decide +kernel) (by decide +kernel) (by kernel_rfl) (by kernel_rfl) (by kernel_rfl) (by kernel_rfl) (by
      have : (fieldAt Tryz.prog 114 0).type = 82 := by kernel_rfl
      rw [this]; exact eql_sig d s t a c ha hc w) (by
      have : (fieldAt Tryz.prog 114 1).type = 82 := by kernel_rfl
      rw [this]
      exact eql_sig d false false b e hb he w)
  rw [h]
  congr 1
  simp

theorem guardF : Tryz.prog.eqGuardType Tryz.prog.depth 114 = false := by kernel_rfl
theorem run_eqlF (x y : Operand) (F G : Array Value) (q : Bool) (w : World) (h : (Op.equalIn 10000 114 (.agg F) (.agg G)).run Tryz.prog w = .ok q w) :
    (do eqGuard .eql 114 x y (.agg F) (.agg G); binOp .eql 114 (.agg F) (.agg G) : Sem Value).run Tryz.prog w = .ok (.bool q) w := by
  have h1 : (eqGuard .eql 114 x y (.agg F) (.agg G)).run Tryz.prog w = .ok () w := by
    simp [eqGuard, run_program, guardF, Result.andThen]
  have h2 : (binOp .eql 114 (.agg F) (.agg G)).run Tryz.prog w = .ok (.bool q) w := by
    have h3 : (Op.equal 114 (.agg F) (.agg G)).run Tryz.prog w = .ok q w := h
    simp only [binOp, Sem.run_bind, h3, Result.andThen_ok]
    rfl
  simp only [Sem.run_bind, h1, Result.andThen_ok, h2]
theorem wpF_eql {ops : Array Oper} {rest : List Oper} {a : Act} {w : World} {Q : Exit → Act → World → Prop} {d : Option Tmp} {ty rt : TypeId} {pos : String} {after : Array _} (x y : Operand) {F G : Array Value} (q : Bool)
    (hx : a.eval x = .agg F) (hy : a.eval y = .agg G) (hq : (Op.equalIn 10000 114 (.agg F) (.agg G)).run Tryz.prog w = .ok q w) (h : wpList Tryz.prog ops Q rest (a.put d (.bool q)) w) :
    wpList Tryz.prog ops Q ({ dst := d, op := .binOp .eql 114 x y rt, type := ty, pos := pos, after := after, guard := none } :: rest) a w :=
  BigFrame.wpList_want rfl fun _ hK => wp_value (by
    unfold execOp
    have h1 := run_eqlF x y F G q w hq
    simp only [Sem.run_bind] at h1
    simp only [Sem.run_bind, hx, hy, h1, Result.andThen_ok]
    rfl) (hK _ _ h)
end Go.Proofs.YtjemolaobhlapaaGreatDoor
