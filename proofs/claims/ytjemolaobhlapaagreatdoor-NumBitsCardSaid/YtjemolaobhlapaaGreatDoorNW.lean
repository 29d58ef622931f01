/- lowest. -/
import Derived.Test.YtjemolaobhlapaaGreatDoorNV
set_option linter.unusedSimpArgs false
set_option linter.unusedVariables false
namespace Go.Proofs.YtjemolaobhlapaaGreatDoor
open Go.RowKit
set_option maxRecDepth 100000

theorem zeroFr : (#[.int .u32 0, .int .u32 0, .int .u32 0, .int .u32 0, .int .u32 0, .int .u32 0, .int .u32 0, .int .u32 0, .int .u32 0, .int .u32 0, .int .u32 0, .int .u32 0, .int .u32 0, .int .u32 0, .int .u32 0, .int .u32 0, .int .u32 0, .int .u32 0, .int .u32 0, .int .u32 0, .int .u32 0, .int .u32 0, .int .u32 0, .int .u32 0, .int .u32 0, .int .u32 0, .int .u32 0, .int .u32 0, .int .u32 0, .int .u32 0, .int .i64 0, .bool false, .int .u32 0, .int .u32 0, .int .u32 0, .int .u32 0, .int .u32 0, .int .u32 0, .int .u32 0, .int .u32 0, .int .u32 0, .int .u32 0, .int .u32 0, .int .u32 0, .int .u32 0, .int .u32 0, .int .u32 0, .int .u32 0, .int .u32 0, .int .u32 0, .int .u32 0, .int .u32 0, .int .u32 0, .int .u32 0, .int .u32 0, .int .u32 0, .int .u32 0, .int .u32 0, .int .u32 0, .int .u32 0, .int .u32 0, .int .u32 0, .int .i64 0, .bool false] : Array Value) = fracF (fun _ => 0) 0 false (fun _ => 0) 0 false := rfl
theorem infoF2 (f : Nat → Nat) (u : Nat) (s : Bool) (g : Nat → Nat) (v : Nat) (t : Bool) : (Tryz.prog.info? 114).map (·.size) = some (fracF f u s g v t).size := by
  rw [fracF_size]; kernel_rfl
theorem fracL_one (f : Nat → Nat) (u : Nat) (s : Bool) (g : Nat → Nat) (v : Nat) (t : Bool) : ∀ x ∈ fracL f u s g v t, x.oneCell' = true := by
  intro x hx
  unfold fracL at hx
  rw [List.mem_append] at hx
  rcases hx with hx | hx
  · exact sigL_one f u s x hx
  · exact sigL_one g v t x hx
theorem builtF (f : Nat → Nat) (u : Nat) (s : Bool) (g : Nat → Nat) (v : Nat) (t : Bool) : Tryz.prog.built 114 [(0, .agg (sigF f u s)), (1, .agg (sigF g v t))] = some (fracF f u s g v t) := by
  kernel_rfl
theorem run_loadF {w : World} {B : Nat} {f g : Nat → Nat} {u v : Nat} {s t : Bool} (hB : BlockIs w B 114 (fracF f u s g v t)) : (loadVar 114 ⟨B, 0, none⟩).run Tryz.prog w = .ok (.agg (fracF f u s g v t)) w :=
  run_loadVar_row w B 114 114 (fracF f u s g v t) (0, 0) _ hB Tryz.underlying114 rfl (infoF2 _ _ _ _ _ _)
theorem wpF_load {ops : Array Oper} {rest : List Oper} {a : Act} {w : World} {Q : Exit → Act → World → Prop} {d : Option Tmp} {ty : TypeId} {pos : String} {after : Array _} (x : Operand) (B : Nat) {f g : Nat → Nat} {u v : Nat} {s t : Bool}
    (hx : a.eval x = .pointer (some ⟨B, 0, none⟩)) (hB : BlockIs w B 114 (fracF f u s g v t)) (h : wpList Tryz.prog ops Q rest (a.put d (.agg (fracF f u s g v t))) w) :
    wpList Tryz.prog ops Q ({ dst := d, op := .load 114 x, type := ty, pos := pos, after := after, guard := none } :: rest) a w :=
  wpList_load_row rfl 114 x rfl B hx 114 (fracF f u s g v t) (0, 0) _ hB Tryz.underlying114 rfl (infoF2 _ _ _ _ _ _) h
theorem wpF_store {ops : Array Oper} {rest : List Oper} {a : Act} {w : World} {Q : Exit → Act → World → Prop} {d : Option Tmp} {ty : TypeId} {pos : String} {after : Array _} (x y : Operand) (B : Nat) {f g f2 g2 : Nat → Nat} {u v u2 v2 : Nat} {s t s2 t2 : Bool}
    (hx : a.eval x = .pointer (some ⟨B, 0, none⟩)) (hy : a.eval y = .agg (fracF f u s g v t)) (hB : BlockIs w B 114 (fracF f2 u2 s2 g2 v2 t2)) (h : wpList Tryz.prog ops Q rest (a.put d undef) (w.setRow B (fracF f u s g v t))) :
    wpList Tryz.prog ops Q ({ dst := d, op := .store 114 x y, type := ty, pos := pos, after := after, guard := none } :: rest) a w :=
  wpList_store_row rfl 114 x y rfl B (fracF f u s g v t) hx hy 114 _ hB (infoF2 _ _ _ _ _ _) (by rw [fracF_size, fracF_size]) (all_oneCell_toArray (fracL_one _ _ _ _ _ _)) h
theorem wpF_store1 {o : Oper} {a : Act} {w : World} {K : Act → World → Prop} {Q : Exit → Act → World → Prop} (x y : Operand) (ho : o.op = .store 114 x y) (B : Nat) {f g f2 g2 : Nat → Nat} {u v u2 v2 : Nat} {s t s2 t2 : Bool}
    (hx : a.eval x = .pointer (some ⟨B, 0, none⟩)) (hy : a.eval y = .agg (fracF f u s g v t)) (hB : BlockIs w B 114 (fracF f2 u2 s2 g2 v2 t2)) (h : K (a.put o.dst undef) (w.setRow B (fracF f u s g v t))) : o.wp Tryz.prog a w K Q :=
  wp_store_row 114 x y ho B (fracF f u s g v t) hx hy 114 _ hB (infoF2 _ _ _ _ _ _) (by rw [fracF_size, fracF_size]) (all_oneCell_toArray (fracL_one _ _ _ _ _ _)) h
theorem retF {fn : Func} {p : Tmp} (h : fn.results = #[.cell p 114]) (tmps : Array Value) (w : World) (B : Nat) (hp : tmps.getD p undef = .pointer (some ⟨B, 0, none⟩)) {f g : Nat → Nat} {u v : Nat} {s t : Bool} (hB : BlockIs w B 114 (fracF f u s g v t)) :
    (results fn tmps).run Tryz.prog w = .ok (.agg (fracF f u s g v t)) w :=
  results_cell_row h tmps w B 114 (fracF f u s g v t) (0, 0) _ hp hB Tryz.underlying114 rfl (infoF2 _ _ _ _ _ _)
/-- In a region that draws its order: the loads of a fraction and its parts, its making. -/
theorem yF_load {ops : Array Oper} {S : World → Prop} {op : Oper} {a : Act} (hw : Region.wanted op (yielded ops a.tmps) = true) (x : Operand) (ho : op.op = .load 114 x) (B : Nat) (hx : a.eval x = .pointer (some ⟨B, 0, none⟩))
    {f g : Nat → Nat} {u v : Nat} {s t : Bool} (hS : ∀ w, S w → BlockIs w B 114 (fracF f u s g v t)) : YieldsIf Tryz.prog ops S op (.agg (fracF f u s g v t)) a :=
  .inl ⟨hw, fun w hw' => by
    unfold execOp
    simp only [ho, hx, Instr.loadAt, Instr.sureAddr, Sem.run_bind, Sem.run_pure, Result.andThen_ok, run_loadF (hS w hw')]⟩
theorem run_loadR {w : World} {L o : Nat} {f : Nat → Nat} {u : Nat} {s : Bool} (h : w.rangeAt L o (sigL f u s)) : (loadVar 82 ⟨L, o, none⟩).run Tryz.prog w = .ok (.agg (sigF f u s)) w :=
  run_loadVar_mid w L o 82 (sigL f u s) _ h Tryz.underlying82 rfl (infoLS f u s)
theorem yS_range {ops : Array Oper} {S : World → Prop} {op : Oper} {a : Act} (hw : Region.wanted op (yielded ops a.tmps) = true) (x : Operand) (ho : op.op = .load 82 x) (L o : Nat) (hx : a.eval x = .pointer (some ⟨L, o, none⟩))
    {f : Nat → Nat} {u : Nat} {s : Bool} (hS : ∀ w, S w → w.rangeAt L o (sigL f u s)) : YieldsIf Tryz.prog ops S op (.agg (sigF f u s)) a :=
  .inl ⟨hw, fun w hw' => by
    unfold execOp
    simp only [ho, hx, Instr.loadAt, Instr.sureAddr, Sem.run_bind, Sem.run_pure, Result.andThen_ok, run_loadR (hS w hw')]⟩
theorem run_loadRM {w : World} {L o : Nat} {f : Nat → Nat} {u : Nat} (h : w.rangeAt L o (magL f u)) : (loadVar 80 ⟨L, o, none⟩).run Tryz.prog w = .ok (.agg (magF f u)) w :=
  run_loadVar_mid w L o 80 (magL f u) _ h Tryz.underlying80 rfl (infoLM f u)
theorem yM_range {ops : Array Oper} {S : World → Prop} {op : Oper} {a : Act} (hw : Region.wanted op (yielded ops a.tmps) = true) (x : Operand) (ho : op.op = .load 80 x) (L o : Nat) (hx : a.eval x = .pointer (some ⟨L, o, none⟩))
    {f : Nat → Nat} {u : Nat} (hS : ∀ w, S w → w.rangeAt L o (magL f u)) : YieldsIf Tryz.prog ops S op (.agg (magF f u)) a :=
  .inl ⟨hw, fun w hw' => by
    unfold execOp
    simp only [ho, hx, Instr.loadAt, Instr.sureAddr, Sem.run_bind, Sem.run_pure, Result.andThen_ok, run_loadRM (hS w hw')]⟩
theorem yF_build {ops : Array Oper} {S : World → Prop} {op : Oper} {a : Act} (hw : Region.wanted op (yielded ops a.tmps) = true) (x y : Operand) (ho : op.op = .build 114 #[(0, x), (1, y)])
    {f g : Nat → Nat} {u v : Nat} {s t : Bool} (hx : a.eval x = .agg (sigF f u s)) (hy : a.eval y = .agg (sigF g v t)) : YieldsIf Tryz.prog ops S op (.agg (fracF f u s g v t)) a :=
  .inl ⟨hw, fun w _ => by
    unfold execOp
    simp only [ho, Sem.run_bind, List.map_toArray, List.map_cons, List.map_nil, hx, hy, run_build w 114 #[(0, .agg (sigF f u s)), (1, .agg (sigF g v t))] _ (builtF f u s g v t), Result.andThen_ok]
    rfl⟩
theorem wpM_buildSlice2 {ops : Array Oper} {rest : List Oper} {a : Act} {w : World} {Q : Exit → Act → World → Prop} {d : Option Tmp} {ty : TypeId} {pos : String} {after : Array _} (x y : Operand) {f g : Nat → Nat} {u v : Nat}
    (hx : a.eval x = .agg (magF f u)) (hy : a.eval y = .agg (magF g v)) (h : wpList Tryz.prog ops Q rest (a.put d (.slice (some ⟨w.heap.size, 0, none⟩) 2 2)) (w.alloc (.cells (magsL f u g v).toArray 80))) :
    wpList Tryz.prog ops Q ({ dst := d, op := .buildSlice 170 2 #[(0, x), (1, y)], type := ty, pos := pos, after := after, guard := none } :: rest) a w :=
  BigFrame.wpList_want rfl fun _ hK => wp_valueW (by
    unfold execOp
    simp only [Sem.run_bind, List.map_toArray, List.map_cons, List.map_nil, hx, hy, run_buildM2, Result.andThen_ok]
    rfl) (hK _ _ h)
theorem mags_range0 {w : World} {L : Nat} {f g : Nat → Nat} {u v : Nat} (h : BlockIs w L 80 (magsL f u g v).toArray) : w.rangeAt L 0 (magL f u) := by
  intro j x hx
  have hj : j < 31 := by have := (List.getElem?_eq_some_iff.1 hx).1; rwa [magL_len] at this
  rw [Nat.zero_add, h.at, List.getElem?_toArray]
  unfold magsL
  rw [List.getElem?_append_left (by rw [magL_len]; exact hj)]
  exact hx
theorem mags_range1 {w : World} {L : Nat} {f g : Nat → Nat} {u v : Nat} (h : BlockIs w L 80 (magsL f u g v).toArray) : w.rangeAt L 31 (magL g v) := by
  intro j x hx
  rw [h.at, List.getElem?_toArray]
  unfold magsL
  rw [List.getElem?_append_right (by rw [magL_len]; omega), magL_len, show 31 + j - 31 = j by omega]
  exact hx
/-- Two elements of a row that is owned. -/
theorem row_two {w : World} {base size : Nat} {e : TypeId} {v : Value} {x y : List Value} (h : w.ownsRow base e size v 2 (x ++ y)) (hx : x.length = size) (hy : y.length = size) : ∃ g cap, v = .slice (some ⟨g, 0, none⟩) 2 cap ∧ g < w.heap.size ∧ base ≤ g ∧ w.rangeAt g 0 x ∧ w.rangeAt g size y := by
  rcases h.2 with ⟨_, h0⟩ | ⟨g, cap, cur, hv, hb, hg, _, _, _, ht⟩
  · omega
  · have hc : ∀ j u, (x ++ y)[j]? = some u → w.cell? ⟨g, j, none⟩ = some u := by
      intro j u hj
      have hl : j < size + size := by have := (List.getElem?_eq_some_iff.1 hj).1; rw [List.length_append, hx, hy] at this; exact this
      have hB : BlockIs w g e cur := hg
      rw [hB.at, ← hj, ← ht, List.getElem?_take_of_lt (by omega), Array.getElem?_toList]
    refine ⟨g, cap, hv, (Array.getElem?_eq_some_iff.1 hg).1, hb, fun j u hj => ?_, fun j u hj => ?_⟩
    · rw [Nat.zero_add]
      refine hc j u ?_
      rw [List.getElem?_append_left (by have := (List.getElem?_eq_some_iff.1 hj).1; omega)]
      exact hj
    · refine hc (size + j) u ?_
      rw [List.getElem?_append_right (by omega), hx, show size + j - size = j by omega]
      exact hj

theorem range_row {w : World} {L o g : Nat} {cs : List Value} {row : Array Value} (h : w.rangeAt L o cs) (hn : L ≠ g) : (w.setRow g row).rangeAt L o cs := by
  intro j v hv
  have := h j v hv
  unfold World.cell? at this ⊢
  rw [show (w.setRow g row).heap[L]? = w.heap[L]? from setRow_other w g L row hn]
  exact this
/-- Two signed numbers and a fraction. -/
structure Fs (w0 : World) (B : Nat) (s : Bool) (a : Nat) (t : Bool) (b : Nat) (w : World) : Prop where
  g : Sg w0 B s a t b w
  b2 : ∃ f u z h v y, BlockIs w (B + 2) 114 (fracF f u z h v y)
theorem Fs.below {w0 : World} {B a b : Nat} {s t : Bool} {w w' : World} (h : Fs w0 B s a t b w) (hb : Below w.heap.size w w') : Fs w0 B s a t b w' := by
  obtain ⟨h0, f, u, z, k, v, y, h1⟩ := h
  exact ⟨h0.below hb, f, u, z, k, v, y, h1.below hb h1.lt⟩
theorem Fs.alloc {w0 : World} {B a b : Nat} {s t : Bool} {w : World} (h : Fs w0 B s a t b w) (o : Obj) : Fs w0 B s a t b (w.alloc o) := h.below ((Below.refl _ _).alloc (Nat.le_refl _) _)
theorem Fs.drew {w0 : World} {B a b : Nat} {s t : Bool} {w : World} (h : Fs w0 B s a t b w) : Fs w0 B s a t b w.drew := by
  obtain ⟨h0, f, u, z, k, v, y, h1⟩ := h
  exact ⟨⟨h0.b0.drew, h0.b1.drew, h0.bl.drew⟩, f, u, z, k, v, y, h1.drew⟩
theorem Fs.far {w0 : World} {B a b : Nat} {s t : Bool} {w : World} (h : Fs w0 B s a t b w) (C : Nat) (cs : Array Value) (hC : B + 2 < C) : Fs w0 B s a t b (w.setRow C cs) := by
  obtain ⟨h0, f, u, z, k, v, y, h1⟩ := h
  exact ⟨⟨h0.b0.rowOther _ _ (by omega), h0.b1.rowOther _ _ (by omega), below_row h0.bl _ _ (by omega)⟩, f, u, z, k, v, y, h1.rowOther _ _ (by omega)⟩
theorem Fs.ret {w0 : World} {B a b : Nat} {s t : Bool} {w : World} (h : Fs w0 B s a t b w) (f : Nat → Nat) (u : Nat) (z : Bool) (k : Nat → Nat) (v : Nat) (y : Bool) : Fs w0 B s a t b (w.setRow (B + 2) (fracF f u z k v y)) ∧ BlockIs (w.setRow (B + 2) (fracF f u z k v y)) (B + 2) 114 (fracF f u z k v y) := by
  obtain ⟨h0, f', u', z', k', v', y', h1⟩ := h
  exact ⟨⟨⟨h0.b0.rowOther _ _ (by omega), h0.b1.rowOther _ _ (by omega), below_row h0.bl _ _ (by omega)⟩, f, u, z, k, v, y, h1.row _⟩, h1.row _⟩
theorem Fs.start {w W : World} {B a b : Nat} {s t : Bool} (hB : w.heap.size = B) (hW : ((w.alloc (.cells (sig s a) 82)).alloc (.cells (sig t b) 82)).alloc (.cells (fracF (fun _ => 0) 0 false (fun _ => 0) 0 false) 114) = W) : Fs w B s a t b W := by
  have h := Sg.start (w := w) (s := s) (t := t) (a := a) (b := b) hB rfl
  have hs : ((w.alloc (.cells (sig s a) 82)).alloc (.cells (sig t b) 82)).heap.size = B + 2 := by rw [World.size_alloc, World.size_alloc, hB]
  rw [← hW]
  refine ⟨h.below ((Below.refl _ _).alloc (Nat.le_refl _) _), (fun _ => 0), 0, false, (fun _ => 0), 0, false, ?_⟩
  have := BlockIs.new ((w.alloc (.cells (sig s a) 82)).alloc (.cells (sig t b) 82)) 114 (fracF (fun _ => 0) 0 false (fun _ => 0) 0 false)
  rwa [hs] at this

set_option maxHeartbeats 4000000 in
theorem lowest_any (s t : Bool) (a b : Nat) (ha : a < pw 29) (hb0 : 0 < b) (hb : b < pw 29) (w : World) (r : Bool) (p q : Nat) (hp : a / Nat.gcd a b = p) (hq : b / Nat.gcd a b = q) (hr : ((s != t) && !decide (p = 0)) = r) :
    Calls Tryz.prog 108 #[.agg (sig s a), .agg (sig t b)] w fun e w' => e = .returned (.agg (frac r p false q)) ∧ Below w.heap.size w w' := by
  obtain ⟨B, hB⟩ : ∃ B, w.heap.size = B := ⟨_, rfl⟩
  obtain ⟨W, hW⟩ : ∃ W, ((w.alloc (.cells (sig s a) 82)).alloc (.cells (sig t b) 82)).alloc (.cells (fracF (fun _ => 0) 0 false (fun _ => 0) 0 false) 114) = W := ⟨_, rfl⟩
  have HH := Lib.hid (Fs.start (s := s) (t := t) (a := a) (b := b) hB hW)
  have hz0 := zeroFr
  have hz1 := zeroM
  have hg0 : 0 < Nat.gcd a b := Nat.gcd_pos_of_pos_right _ hb0
  have hgb : Nat.gcd a b < pw 29 := Nat.lt_of_le_of_lt (Nat.gcd_le_right a hb0) hb
  have HG := Lib.hid (fun W => gcd_any a b ha hb W)
  obtain ⟨c, hc⟩ : ∃ c, Nat.gcd a b = c := ⟨_, rfl⟩
  rw [hc] at HG hp hq hg0 hgb
  have hpl : p < pw 30 := by rw [← hp]; exact Nat.lt_of_le_of_lt (Nat.div_le_self _ _) (pw_big ha)
  have hql : q < pw 30 := by rw [← hq]; exact Nat.lt_of_le_of_lt (Nat.div_le_self _ _) (pw_big hb)
  have hq0 : ¬ q = 0 := by
    rw [← hq, ← hc]
    have := Nat.div_pos (Nat.gcd_le_right a hb0) (Nat.gcd_pos_of_pos_right a hb0)
    omega
  have HD := Lib.hid (fun (m : Nat) (hm : m < pw 29) (G : Nat) W (hG : BlockIs W G 80 (magF (limb c) (len c))) => lowest1_any m c (pw_big hm) (pw_big hgb) (fun _ W => divide_any m c hm hg0 (pw_big hgb) W) G W hG)
  have HS1 := Lib.hid (fun W => withSign_any (s != t) p hpl W r hr)
  have HS2 := Lib.hid (fun W => withSign_any false q hql W false rfl)
  have HAB := Lib.hid (And.intro ha hb)
  have HT := Lib.hid (fun (L G : Nat) W (hL : BlockIs W L 80 (magsL (limb a) (len a) (limb b) (len b)).toArray) (hG : BlockIs W G 80 (magF (limb c) (len c))) =>
    transformM_any 2 (by omega) (fun k => if k = 0 then a else b) (fun k => if k = 0 then p else q) L G c W
      (by
        intro k hk
        have : k = 0 ∨ k = 1 := by omega
        rcases this with rfl | rfl
        · exact mags_range0 hL
        · exact mags_range1 hL) hL.lt hG
      (by
        intro k hk W hG
        have : k = 0 ∨ k = 1 := by omega
        rcases this with rfl | rfl
        · have := HD.out a HAB.out.1 G W hG; rw [hp] at this; exact this
        · have := HD.out b HAB.out.2 G W hG; rw [hq] at this; exact this))
  clear hp hq hr hg0 hgb hpl hql hq0 hc HD ha hb hb0
  go_enter Tryz.func108, Tryz.ntmps108
  go_wp2_with (first | ((with_reducible refine wpSM_load (.tmp 7) B ?_ HH.out.g.b0 ?_); rfl) | ((with_reducible refine wpSM_load (.tmp 9) (B + 1) ?_ HH.out.g.b1 ?_); rfl) | (go_at_call 92; refine (HG.out _).mono ?_; rintro e w1 ⟨rfl, hb1⟩; have HH1 := Lib.hid (HH.out.below hb1); clear hb1; obtain ⟨G, hG⟩ : ∃ G, w1.heap.size = G := ⟨_, rfl⟩; have HGl := Lib.hid (show B + 2 < G by rw [← hG]; obtain ⟨_, _, _, _, _, _, h⟩ := HH1.out.b2; exact h.lt); obtain ⟨W2, hW2⟩ : ∃ W2, w1.alloc (.cells (magF (fun _ => 0) 0) 80) = W2 := ⟨_, rfl⟩; have HA := Lib.hid (show BlockIs W2 G 80 (magF (fun _ => 0) 0) ∧ Fs w B s a t b W2 by rw [← hW2, ← hG]; exact ⟨BlockIs.new _ _ _, HH1.out.alloc _⟩)) | ((with_reducible refine wpM_store (.tmp 5) (.tmp 11) G (f := limb c) (u := len c) ?_ ?_ HA.out.1 ?_); rfl; rfl; have HV := Lib.hid (show BlockIs (W2.setRow G (magF (limb c) (len c))) G 80 (magF (limb c) (len c)) ∧ Fs w B s a t b (W2.setRow G (magF (limb c) (len c))) from ⟨HA.out.1.row _, HA.out.2.far _ _ HGl.out⟩); obtain ⟨V, hV⟩ : ∃ V, W2.setRow G (magF (limb c) (len c)) = V := ⟨_, rfl⟩; rw [hV] at HV ⊢; clear hV HA hW2 hG) | ((with_reducible refine wpSM_load (.tmp 12) B ?_ HV.out.2.g.b0 ?_); rfl) | ((with_reducible refine wpSM_load (.tmp 14) (B + 1) ?_ HV.out.2.g.b1 ?_); rfl) | ((with_reducible refine wpM_buildSlice2 (.tmp 13) (.tmp 15) (f := limb a) (u := len a) (g := limb b) (v := len b) ?_ ?_ ?_); rfl; rfl; obtain ⟨L, hL⟩ : ∃ L, V.heap.size = L := ⟨_, rfl⟩; obtain ⟨U, hU⟩ : ∃ U, V.alloc (.cells (magsL (limb a) (len a) (limb b) (len b)).toArray 80) = U := ⟨_, rfl⟩; have HU := Lib.hid (show BlockIs U L 80 (magsL (limb a) (len a) (limb b) (len b)).toArray ∧ BlockIs U G 80 (magF (limb c) (len c)) ∧ Fs w B s a t b U by rw [← hU, ← hL]; exact ⟨BlockIs.new _ _ _, HV.out.1.alloc _, HV.out.2.alloc _⟩); rw [hL, hU]; clear hL hU))
  refine (HT.out L G U HU.out.1 HU.out.2.1).mono ?_
  rintro e w3 ⟨v, rfl, hown, hb3⟩
  have HH3 := Lib.hid (HU.out.2.2.below hb3)
  obtain ⟨g, cap, rfl, hgl, hgb, hr0, hr1⟩ := row_two (x := magL (limb p) (len p)) (y := magL (limb q) (len q)) hown (magL_len _ _) (magL_len _ _)
  have HB2 := Lib.hid (show B + 2 < g by obtain ⟨_, _, _, _, _, _, h⟩ := HU.out.2.2.b2; have := h.lt; omega)
  have HR := Lib.hid (And.intro hgl (And.intro hr0 hr1))
  clear hown hb3 hgl hgb hr0 hr1 HU HV
  go_wp2
  have hT0 : Fs w B s a t b w3.drew ∧ w3.drew.rangeAt g 0 (magL (limb p) (len p)) ∧ w3.drew.rangeAt g 31 (magL (limb q) (len q)) := ⟨HH3.out.drew, HR.out.2.1, HR.out.2.2⟩
  have hgl : g < w3.drew.heap.size := HR.out.1
  refine wp_region_held_drew (S := fun w' => Fs w B s a t b w' ∧ w'.rangeAt g 0 (magL (limb p) (len p)) ∧ w'.rangeAt g 31 (magL (limb q) (len q))) (by kernel_rfl) hT0 (fun hS => ?_)
  obtain ⟨wd, hwd⟩ : ∃ wd, w3.drew = wd := ⟨_, rfl⟩
  rw [hwd] at hS hT0 hgl ⊢
  clear hwd
  refine wpAnyH_take (i := 0) (v := .pointer (some ⟨B, 31, none⟩)) rfl (by kernel_rfl) (by kernel_rfl) (by kernel_rfl) (fun _ _ _ h => h) (Or.inl ⟨by rfl, fun w' h => by go_simp⟩) hS ?_
  try simp only [A1, A2, A3, Act.put, A4, A5, A6]
  refine wpAnyH_take (i := 1) rfl (by kernel_rfl) (by kernel_rfl) (by kernel_rfl) (fun _ _ _ h => h) (ySN_load rfl (.tmp 19) rfl B rfl (fun w' h => h.1.g.b0)) hS ?_
  try simp only [A1, A2, A3, Act.put, A4, A5, A6]
  refine wpAnyH_take (i := 2) (v := .pointer (some ⟨B + 1, 31, none⟩)) rfl (by kernel_rfl) (by kernel_rfl) (by kernel_rfl) (fun _ _ _ h => h) (Or.inl ⟨by rfl, fun w' h => by go_simp⟩) hS ?_
  try simp only [A1, A2, A3, Act.put, A4, A5, A6]
  refine wpAnyH_take (i := 3) rfl (by kernel_rfl) (by kernel_rfl) (by kernel_rfl) (fun _ _ _ h => h) (ySN_load rfl (.tmp 21) rfl (B + 1) rfl (fun w' h => h.1.g.b1)) hS ?_
  try simp only [A1, A2, A3, Act.put, A4, A5, A6]
  refine wpAnyH_take (i := 4) (v := .bool (s != t)) rfl (by kernel_rfl) (by kernel_rfl) (by kernel_rfl) (fun _ _ _ h => h) (Or.inl ⟨by rfl, fun w' h => by go_simp; cases s <;> cases t <;> rfl⟩) hS ?_
  try simp only [A1, A2, A3, Act.put, A4, A5, A6]
  refine wpAnyH_take (i := 5) (v := .slice (some ⟨g, 0, none⟩) 2 cap) rfl (by kernel_rfl) (by kernel_rfl) (by kernel_rfl) (fun _ _ _ h => h) (Or.inl ⟨by rfl, fun w' _ => by rfl⟩) hS ?_
  try simp only [A1, A2, A3, Act.put, A4, A5, A6]
  refine wpAnyH_take (i := 6) (v := .pointer (some ⟨g, 0, none⟩)) rfl (by kernel_rfl) (by kernel_rfl) (by kernel_rfl) (fun _ _ _ h => h) (Or.inl ⟨by rfl, fun w' h => by go_simp⟩) hS ?_
  try simp only [A1, A2, A3, Act.put, A4, A5, A6]
  refine wpAnyH_take (i := 7) rfl (by kernel_rfl) (by kernel_rfl) (by kernel_rfl) (fun _ _ _ h => h) (yM_range rfl (.tmp 25) rfl g 0 rfl (fun w' h => h.2.1)) hS ?_
  try simp only [A1, A2, A3, Act.put, A4, A5, A6]
  refine wpAnyH_take (i := 9) (v := .slice (some ⟨g, 0, none⟩) 2 cap) rfl (by kernel_rfl) (by kernel_rfl) (by kernel_rfl) (fun _ _ _ h => h) (Or.inl ⟨by rfl, fun w' _ => by rfl⟩) hS ?_
  try simp only [A1, A2, A3, Act.put, A4, A5, A6]
  refine wpAnyH_take (i := 10) (v := .pointer (some ⟨g, 31, none⟩)) rfl (by kernel_rfl) (by kernel_rfl) (by kernel_rfl) (fun _ _ _ h => h) (Or.inl ⟨by rfl, fun w' h => by go_simp⟩) hS ?_
  try simp only [A1, A2, A3, Act.put, A4, A5, A6]
  refine wpAnyH_take (i := 11) rfl (by kernel_rfl) (by kernel_rfl) (by kernel_rfl) (fun _ _ _ h => h) (yM_range rfl (.tmp 29) rfl g 31 rfl (fun w' h => h.2.2)) hS ?_
  try simp only [A1, A2, A3, Act.put, A4, A5, A6]
  clear hT0
  refine wpAnyH_ready (rs := [8]) (by kernel_rfl) (by simp) (AllReadyH.cons rfl (fun K hK => ?_) AllReadyH.nil)
  rw [if_pos (by rfl)]
  refine wp_callF 130 _ _ rfl _ (by kernel_rfl) (by kernel_rfl) (R := Below (World.heap wd).size wd) (HS1.out _) (fun w4 hbn => ?_)
  have hT1 : Fs w B s a t b w4 ∧ World.rangeAt w4 g 0 (magL (limb p) (len p)) ∧ World.rangeAt w4 g 31 (magL (limb q) (len q)) := ⟨hS.1.below hbn, range_below hS.2.1 hbn hgl, range_below hS.2.2 hbn hgl⟩
  replace hgl : g < (World.heap w4).size := Nat.lt_of_lt_of_le hgl hbn.size
  clear hS hbn
  refine hK.out _ _ hT1 (fun hS => ?_)
  clear hK K hT1
  try simp only [A1, A2, A3, Act.put, A4, A5, A6]
  refine wpAnyH_ready (rs := [12]) (by kernel_rfl) (by simp) (AllReadyH.cons rfl (fun K hK => ?_) AllReadyH.nil)
  rw [if_pos (by rfl)]
  refine wp_callF 130 _ _ rfl _ (by kernel_rfl) (by kernel_rfl) (R := Below (World.heap w4).size w4) (HS2.out _) (fun w5 hbn => ?_)
  have hT1 : Fs w B s a t b w5 ∧ World.rangeAt w5 g 0 (magL (limb p) (len p)) ∧ World.rangeAt w5 g 31 (magL (limb q) (len q)) := ⟨hS.1.below hbn, range_below hS.2.1 hbn hgl, range_below hS.2.2 hbn hgl⟩
  replace hgl : g < (World.heap w5).size := Nat.lt_of_lt_of_le hgl hbn.size
  clear hS hbn
  refine hK.out _ _ hT1 (fun hS => ?_)
  clear hK K hT1
  try simp only [A1, A2, A3, Act.put, A4, A5, A6]
  refine wpAnyH_take (i := 13) rfl (by kernel_rfl) (by kernel_rfl) (by kernel_rfl) (fun _ _ _ h => h) (yF_build rfl (.tmp 27) (.tmp 31) rfl (f := limb p) (u := len p) (s := r) (g := limb q) (v := len q) (t := false) rfl rfl) hS ?_
  try simp only [A1, A2, A3, Act.put, A4, A5, A6]
  refine wpAnyH_ready (rs := [14]) (by kernel_rfl) (by simp) (AllReadyH.cons rfl (fun K hK => ?_) AllReadyH.nil)
  rw [if_pos (by rfl)]
  obtain ⟨_, _, _, _, _, _, hb2⟩ := hS.1.b2
  refine wpF_store1 (.tmp 4) (.tmp 32) rfl (B + 2) (f := limb p) (u := len p) (s := r) (g := limb q) (v := len q) (t := false) rfl rfl hb2 ?_
  have hT2 := hS.1.ret (limb p) (len p) r (limb q) (len q) false
  have hBg := HB2.out
  have hS2 : Fs w B s a t b (w5.setRow (B + 2) (fracF (limb p) (len p) r (limb q) (len q) false)) ∧ (w5.setRow (B + 2) (fracF (limb p) (len p) r (limb q) (len q) false)).rangeAt g 0 (magL (limb p) (len p)) ∧ (w5.setRow (B + 2) (fracF (limb p) (len p) r (limb q) (len q) false)).rangeAt g 31 (magL (limb q) (len q)) := ⟨hT2.1, range_row hS.2.1 (by omega), range_row hS.2.2 (by omega)⟩
  clear hS
  refine hK.out _ _ hS2 (fun hS => ?_)
  clear hK K hS hS2
  refine wpAnyH_done (by kernel_rfl) ?_ _
  go_wp2
  exact bodyPost_ret (retF rfl _ _ (B + 2) rfl hT2.2) rfl ⟨rfl, hB ▸ hT2.1.g.bl⟩
end Go.Proofs.YtjemolaobhlapaaGreatDoor
