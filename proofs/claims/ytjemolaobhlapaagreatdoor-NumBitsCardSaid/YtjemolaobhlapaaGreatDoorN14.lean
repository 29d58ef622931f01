/- Signed numbers as cells; withSign. -/
import Derived.Test.YtjemolaobhlapaaGreatDoorN12
set_option linter.unusedSimpArgs false
set_option linter.unusedVariables false
namespace Go.Proofs.YtjemolaobhlapaaGreatDoor
open Go.RowKit
set_option maxRecDepth 100000

def sigL (f : Nat → Nat) (u : Nat) (s : Bool) : List Value := magL f u ++ [.bool s]
abbrev sigF (f : Nat → Nat) (u : Nat) (s : Bool) : Array Value := (sigL f u s).toArray
/-- The cells of an integer: its sign, its magnitude. -/
abbrev sig (s : Bool) (n : Nat) : Array Value := sigF (limb n) (len n) s
theorem sigL_len (f : Nat → Nat) (u : Nat) (s : Bool) : (sigL f u s).length = 32 := by simp [sigL, magL_len]
theorem sigF_size (f : Nat → Nat) (u : Nat) (s : Bool) : (sigF f u s).size = 32 := by simp [sigF, sigL_len]
theorem sigF_mag (f : Nat → Nat) (u : Nat) (s : Bool) {i : Nat} (h : i < 31) : (sigF f u s)[i]? = (magL f u)[i]? := by
  unfold sigF sigL
  rw [List.getElem?_toArray, List.getElem?_append_left (by rw [magL_len]; exact h)]
theorem sigF_neg (f : Nat → Nat) (u : Nat) (s : Bool) : (sigF f u s)[31]? = some (.bool s) := by
  unfold sigF sigL
  rw [List.getElem?_toArray, List.getElem?_append_right (by rw [magL_len]; omega), magL_len]
  rfl
theorem sigL_one (f : Nat → Nat) (u : Nat) (s : Bool) : ∀ v ∈ sigL f u s, v.oneCell' = true := by
  intro v hv
  unfold sigL at hv
  rw [List.mem_append, List.mem_singleton] at hv
  rcases hv with hv | rfl
  · exact magL_one f u v hv
  · rfl
theorem infoS : (Tryz.prog.info? 82).map (·.size) = some 32 := by kernel_rfl
theorem infoSF (f : Nat → Nat) (u : Nat) (s : Bool) : (Tryz.prog.info? 82).map (·.size) = some (sigF f u s).size := by rw [sigF_size]; exact infoS
theorem sig_range {W : World} {B : Nat} {f : Nat → Nat} {u : Nat} {s : Bool} (h : BlockIs W B 82 (sigF f u s)) : W.rangeAt B 0 (magL f u) := by
  intro j v hv
  have hj : j < 31 := by have := (List.getElem?_eq_some_iff.1 hv).1; rwa [magL_len] at this
  rw [Nat.zero_add, h.at, sigF_mag f u s hj]; exact hv
theorem sig_neg {W : World} {B : Nat} {f : Nat → Nat} {u : Nat} {s : Bool} (h : BlockIs W B 82 (sigF f u s)) : W.cell? ⟨B, 31, none⟩ = some (.bool s) := (h.at 31).trans (sigF_neg f u s)

theorem run_loadS {w : World} {B : Nat} {f : Nat → Nat} {u : Nat} {s : Bool} (hB : BlockIs w B 82 (sigF f u s)) : (loadVar 82 ⟨B, 0, none⟩).run Tryz.prog w = .ok (.agg (sigF f u s)) w :=
  run_loadVar_row w B 82 82 (sigF f u s) (0, 0) _ hB Tryz.underlying82 rfl (infoSF _ _ _)
theorem run_loadSM {w : World} {B : Nat} {f : Nat → Nat} {u : Nat} {s : Bool} (hB : BlockIs w B 82 (sigF f u s)) : (loadVar 80 ⟨B, 0, none⟩).run Tryz.prog w = .ok (.agg (magF f u)) w :=
  run_loadVar_mid w B 0 80 (magL f u) _ (sig_range hB) Tryz.underlying80 rfl (infoLM f u)
/-- A whole integer, its magnitude are loaded; an integer is stored, returned. -/
theorem wpS_load {ops : Array Oper} {rest : List Oper} {a : Act} {w : World} {Q : Exit → Act → World → Prop} {d : Option Tmp} {ty : TypeId} {pos : String} {after : Array _} (x : Operand) (B : Nat) {f : Nat → Nat} {u : Nat} {s : Bool}
    (hx : a.eval x = .pointer (some ⟨B, 0, none⟩)) (hB : BlockIs w B 82 (sigF f u s)) (h : wpList Tryz.prog ops Q rest (a.put d (.agg (sigF f u s))) w) :
    wpList Tryz.prog ops Q ({ dst := d, op := .load 82 x, type := ty, pos := pos, after := after, guard := none } :: rest) a w :=
  wpList_load_row rfl 82 x rfl B hx 82 (sigF f u s) (0, 0) _ hB Tryz.underlying82 rfl (infoSF _ _ _) h
theorem wpSM_load {ops : Array Oper} {rest : List Oper} {a : Act} {w : World} {Q : Exit → Act → World → Prop} {d : Option Tmp} {ty : TypeId} {pos : String} {after : Array _} (x : Operand) (B : Nat) {f : Nat → Nat} {u : Nat} {s : Bool}
    (hx : a.eval x = .pointer (some ⟨B, 0, none⟩)) (hB : BlockIs w B 82 (sigF f u s)) (h : wpList Tryz.prog ops Q rest (a.put d (.agg (magF f u))) w) :
    wpList Tryz.prog ops Q ({ dst := d, op := .load 80 x, type := ty, pos := pos, after := after, guard := none } :: rest) a w :=
  wpList_load_mid rfl 80 x rfl B 0 hx (magL f u) _ (sig_range hB) Tryz.underlying80 rfl (infoLM f u) h
theorem wpS_store {ops : Array Oper} {rest : List Oper} {a : Act} {w : World} {Q : Exit → Act → World → Prop} {d : Option Tmp} {ty : TypeId} {pos : String} {after : Array _} (x y : Operand) (B : Nat) {f g : Nat → Nat} {u v : Nat} {s t : Bool}
    (hx : a.eval x = .pointer (some ⟨B, 0, none⟩)) (hy : a.eval y = .agg (sigF f u s)) (hB : BlockIs w B 82 (sigF g v t)) (h : wpList Tryz.prog ops Q rest (a.put d undef) (w.setRow B (sigF f u s))) :
    wpList Tryz.prog ops Q ({ dst := d, op := .store 82 x y, type := ty, pos := pos, after := after, guard := none } :: rest) a w :=
  wpList_store_row rfl 82 x y rfl B (sigF f u s) hx hy 82 _ hB (infoSF _ _ _) (by rw [sigF_size, sigF_size]) (all_oneCell_toArray (sigL_one f u s)) h
theorem wpS_store1 {o : Oper} {a : Act} {w : World} {K : Act → World → Prop} {Q : Exit → Act → World → Prop} (x y : Operand) (ho : o.op = .store 82 x y) (B : Nat) {f g : Nat → Nat} {u v : Nat} {s t : Bool}
    (hx : a.eval x = .pointer (some ⟨B, 0, none⟩)) (hy : a.eval y = .agg (sigF f u s)) (hB : BlockIs w B 82 (sigF g v t)) (h : K (a.put o.dst undef) (w.setRow B (sigF f u s))) : o.wp Tryz.prog a w K Q :=
  wp_store_row 82 x y ho B (sigF f u s) hx hy 82 _ hB (infoSF _ _ _) (by rw [sigF_size, sigF_size]) (all_oneCell_toArray (sigL_one f u s)) h
theorem retS {fn : Func} {p : Tmp} (h : fn.results = #[.cell p 82]) (tmps : Array Value) (w : World) (B : Nat) (hp : tmps.getD p undef = .pointer (some ⟨B, 0, none⟩)) {f : Nat → Nat} {u : Nat} {s : Bool} (hB : BlockIs w B 82 (sigF f u s)) :
    (results fn tmps).run Tryz.prog w = .ok (.agg (sigF f u s)) w :=
  results_cell_row h tmps w B 82 (sigF f u s) (0, 0) _ hp hB Tryz.underlying82 rfl (infoSF _ _ _)
theorem retSS {fn : Func} {p q : Tmp} (h : fn.results = #[.cell p 82, .cell q 82]) (tmps : Array Value) (w : World) (B C : Nat) (hp : tmps.getD p undef = .pointer (some ⟨B, 0, none⟩)) (hq : tmps.getD q undef = .pointer (some ⟨C, 0, none⟩)) {f g : Nat → Nat} {u v : Nat} {s t : Bool} (hB : BlockIs w B 82 (sigF f u s)) (hC : BlockIs w C 82 (sigF g v t)) :
    (results fn tmps).run Tryz.prog w = .ok (.tuple #[.agg (sigF f u s), .agg (sigF g v t)]) w := by
  have hp' : tmps[p]?.getD undef = .pointer (some ⟨B, 0, none⟩) := by simpa using hp
  have hq' : tmps[q]?.getD undef = .pointer (some ⟨C, 0, none⟩) := by simpa using hq
  simp [results, h, hp', hq', asAddr, run_loadS hB, run_loadS hC]
/-- In a region that draws its order. -/
theorem yS_load {ops : Array Oper} {S : World → Prop} {op : Oper} {a : Act} (hw : Region.wanted op (yielded ops a.tmps) = true) (x : Operand) (ho : op.op = .load 82 x) (B : Nat) (hx : a.eval x = .pointer (some ⟨B, 0, none⟩))
    {f : Nat → Nat} {u : Nat} {s : Bool} (hS : ∀ w, S w → BlockIs w B 82 (sigF f u s)) : YieldsIf Tryz.prog ops S op (.agg (sigF f u s)) a :=
  .inl ⟨hw, fun w hw' => by
    unfold execOp
    simp only [ho, hx, Instr.loadAt, Instr.sureAddr, Sem.run_bind, Sem.run_pure, Result.andThen_ok, run_loadS (hS w hw')]⟩
theorem ySM_load {ops : Array Oper} {S : World → Prop} {op : Oper} {a : Act} (hw : Region.wanted op (yielded ops a.tmps) = true) (x : Operand) (ho : op.op = .load 80 x) (B : Nat) (hx : a.eval x = .pointer (some ⟨B, 0, none⟩))
    {f : Nat → Nat} {u : Nat} {s : Bool} (hS : ∀ w, S w → BlockIs w B 82 (sigF f u s)) : YieldsIf Tryz.prog ops S op (.agg (magF f u)) a :=
  .inl ⟨hw, fun w hw' => by
    unfold execOp
    simp only [ho, hx, Instr.loadAt, Instr.sureAddr, Sem.run_bind, Sem.run_pure, Result.andThen_ok, run_loadSM (hS w hw')]⟩
theorem ySN_load {ops : Array Oper} {S : World → Prop} {op : Oper} {a : Act} (hw : Region.wanted op (yielded ops a.tmps) = true) (x : Operand) (ho : op.op = .load 4 x) (B : Nat) (hx : a.eval x = .pointer (some ⟨B, 31, none⟩))
    {f : Nat → Nat} {u : Nat} {s : Bool} (hS : ∀ w, S w → BlockIs w B 82 (sigF f u s)) : YieldsIf Tryz.prog ops S op (.bool s) a :=
  .inl ⟨hw, fun w hw' => by
    have hc := sig_neg (hS w hw')
    unfold execOp
    simp only [ho, hx]
    go_simp⟩
theorem zeroS : (#[.int .u32 0, .int .u32 0, .int .u32 0, .int .u32 0, .int .u32 0, .int .u32 0, .int .u32 0, .int .u32 0, .int .u32 0, .int .u32 0, .int .u32 0, .int .u32 0, .int .u32 0, .int .u32 0, .int .u32 0, .int .u32 0, .int .u32 0, .int .u32 0, .int .u32 0, .int .u32 0, .int .u32 0, .int .u32 0, .int .u32 0, .int .u32 0, .int .u32 0, .int .u32 0, .int .u32 0, .int .u32 0, .int .u32 0, .int .u32 0, .int .i64 0, .bool false] : Array Value) = sigF (fun _ => 0) 0 false := rfl
theorem builtS (f : Nat → Nat) (u : Nat) (s : Bool) : Tryz.prog.built 82 [(0, .agg (magF f u)), (1, .bool s)] = some (sigF f u s) := by
  kernel_rfl
end Go.Proofs.YtjemolaobhlapaaGreatDoor

namespace Go.Proofs.YtjemolaobhlapaaGreatDoor
open Go.RowKit
set_option maxRecDepth 100000

theorem yS_build {ops : Array Oper} {S : World → Prop} {op : Oper} {a : Act} {f : Nat → Nat} {u : Nat} {s : Bool} (hw : Region.wanted op (yielded ops a.tmps) = true) (x y : Operand) (ho : op.op = .build 82 #[(0, x), (1, y)])
    (hx : a.eval x = .agg (magF f u)) (hy : a.eval y = .bool s) : YieldsIf Tryz.prog ops S op (.agg (sigF f u s)) a :=
  .inl ⟨hw, fun w _ => by
    unfold execOp
    simp only [ho, Sem.run_bind, List.map_toArray, List.map_cons, List.map_nil, hx, hy, run_build w 82 #[(0, .agg (magF f u)), (1, .bool s)] _ (builtS f u s), Result.andThen_ok]
    rfl⟩
structure Sw (w0 : World) (B n : Nat) (w : World) : Prop where
  b0 : BlockIs w B 80 (magF (limb n) (len n))
  b1 : ∃ g v t, BlockIs w (B + 1) 82 (sigF g v t)
  bl : Below B w0 w
theorem Sw.below {w0 : World} {B n : Nat} {w w' : World} (s : Sw w0 B n w) (hb : Below w.heap.size w w') : Sw w0 B n w' := by
  obtain ⟨h0, ⟨g, v, t, h1⟩, h2⟩ := s
  exact ⟨h0.below hb h0.lt, ⟨_, _, _, h1.below hb h1.lt⟩, h2.trans (hb.mono (by have := h0.lt; omega))⟩

set_option maxHeartbeats 4000000 in
theorem withSign_any (s : Bool) (n : Nat) (hn : n < pw 30) (w : World) (r : Bool) (hr : (s && !decide (n = 0)) = r) :
    Calls Tryz.prog 130 #[.bool s, .agg (mag n)] w fun e w' => e = .returned (.agg (sig r n)) ∧ Below w.heap.size w w' := by
  obtain ⟨B, hB⟩ : ∃ B, w.heap.size = B := ⟨_, rfl⟩
  obtain ⟨W, hW⟩ : ∃ W, (w.alloc (.cells (mag n) 80)).alloc (.cells (sigF (fun _ => 0) 0 false) 82) = W := ⟨_, rfl⟩
  have hH0 : BlockIs W B 80 (magF (limb n) (len n)) ∧ BlockIs W (B + 1) 82 (sigF (fun _ => 0) 0 false) := by
    rw [← hW, ← hB]
    refine ⟨(BlockIs.new w _ _).alloc _, ?_⟩
    have := BlockIs.new (w.alloc (.cells (mag n) 80)) 82 (sigF (fun _ => 0) 0 false)
    rwa [World.size_alloc] at this
  have hbl : Below B w W := by rw [← hW, ← hB]; exact ((Below.refl _ _).alloc (Nat.le_refl _) _).alloc (by simp) _
  have hz0 := zeroS
  obtain ⟨z, hz⟩ : ∃ z, decide (n = 0) = z := ⟨_, rfl⟩
  have HZ := Lib.hid (fun W => isZero_any n hn W z hz)
  rw [hz] at hr
  clear hz hn
  cases s
  · have HR := Lib.hid (show r = false by rw [← hr]; rfl)
    clear hr
    go_enter Tryz.func130, Tryz.ntmps130
    go_wp2
    clear hz0 hW
    refine wp_region_held_drew (S := fun w' => Sw w B n w') (by kernel_rfl) ⟨hH0.1.drew, ⟨_, _, _, hH0.2.drew⟩, hbl.drew⟩ (fun hS => ?_)
    have hC0 := hH0.2.drew
    refine wpAnyH_take (i := 0) rfl (by kernel_rfl) (by kernel_rfl) (by kernel_rfl) (fun _ _ _ h => h) (yM_load rfl (.tmp 3) rfl B rfl (fun w' h => h.b0)) hS ?_
    try simp only [A1, A2, A3, Act.put, A4, A5, A6]
    refine wpAnyH_take (i := 1) (v := .bool false) rfl (by kernel_rfl) (by kernel_rfl) (by kernel_rfl) (fun _ _ _ h => h) (Or.inl ⟨by rfl, fun w' _ => by rfl⟩) hS ?_
    try simp only [A1, A2, A3, Act.put, A4, A5, A6]
    refine wpAnyH_take (i := 2) (v := .bool false) rfl (by kernel_rfl) (by kernel_rfl) (by kernel_rfl) (fun _ _ _ h => h) (Or.inl ⟨by rfl, fun w' _ => by rfl⟩) hS ?_
    try simp only [A1, A2, A3, Act.put, A4, A5, A6]
    refine wpAnyH_take (i := 3) rfl (by kernel_rfl) (by kernel_rfl) (by kernel_rfl) (fun _ _ _ h => h) (Or.inr ⟨by rfl, rfl⟩) hS ?_
    try simp only [A1, A2, A3, Act.put, A4, A5, A6]
    refine wpAnyH_take (i := 4) rfl (by kernel_rfl) (by kernel_rfl) (by kernel_rfl) (fun _ _ _ h => h) (Or.inr ⟨by rfl, rfl⟩) hS ?_
    try simp only [A1, A2, A3, Act.put, A4, A5, A6]
    refine wpAnyH_take (i := 5) rfl (by kernel_rfl) (by kernel_rfl) (by kernel_rfl) (fun _ _ _ h => h) (Or.inr ⟨by rfl, rfl⟩) hS ?_
    try simp only [A1, A2, A3, Act.put, A4, A5, A6]
    refine wpAnyH_take (i := 6) (v := .bool false) rfl (by kernel_rfl) (by kernel_rfl) (by kernel_rfl) (fun _ _ _ h => h) (Or.inl ⟨by rfl, fun w' _ => by rfl⟩) hS ?_
    try simp only [A1, A2, A3, Act.put, A4, A5, A6]
    refine wpAnyH_take (i := 7) rfl (by kernel_rfl) (by kernel_rfl) (by kernel_rfl) (fun _ _ _ h => h) (yS_build (f := limb n) (u := len n) (s := false) rfl (.tmp 5) (.tmp 11) rfl rfl rfl) hS ?_
    try simp only [A1, A2, A3, Act.put, A4, A5, A6]
    refine wpAnyH_ready (rs := [8]) (by kernel_rfl) (by simp) (AllReadyH.cons rfl (fun K hK => ?_) AllReadyH.nil)
    rw [if_pos (by rfl)]
    refine wpS_store1 (.tmp 4) (.tmp 12) rfl (B + 1) (f := limb n) (u := len n) (s := false) rfl rfl hC0 ?_
    have hS' := hS
    have hb := hS.bl
    clear hS
    refine hK.out _ _ ⟨hS'.b0.rowOther _ _ (by omega), ⟨_, _, _, hC0.row _⟩, below_row hb _ _ (by omega)⟩ (fun hS => ?_)
    clear hK K
    refine wpAnyH_done (by kernel_rfl) ?_ _
    go_wp2
    exact bodyPost_ret (retS rfl _ _ (B + 1) rfl (hC0.row _)) rfl ⟨ret_agg (by rw [HR.out]), hB ▸ below_row hb _ _ (by omega)⟩
  · have HR := Lib.hid (show r = (!z) by rw [← hr]; rfl)
    clear hr
    go_enter Tryz.func130, Tryz.ntmps130
    go_wp2
    clear hz0 hW
    refine wp_region_held_drew (S := fun w' => Sw w B n w') (by kernel_rfl) ⟨hH0.1.drew, ⟨_, _, _, hH0.2.drew⟩, hbl.drew⟩ (fun hS => ?_)
    have hC0 := hH0.2.drew
    refine wpAnyH_take (i := 0) rfl (by kernel_rfl) (by kernel_rfl) (by kernel_rfl) (fun _ _ _ h => h) (yM_load rfl (.tmp 3) rfl B rfl (fun w' h => h.b0)) hS ?_
    try simp only [A1, A2, A3, Act.put, A4, A5, A6]
    refine wpAnyH_take (i := 1) (v := .bool true) rfl (by kernel_rfl) (by kernel_rfl) (by kernel_rfl) (fun _ _ _ h => h) (Or.inl ⟨by rfl, fun w' _ => by rfl⟩) hS ?_
    try simp only [A1, A2, A3, Act.put, A4, A5, A6]
    refine wpAnyH_take (i := 2) (v := .bool true) rfl (by kernel_rfl) (by kernel_rfl) (by kernel_rfl) (fun _ _ _ h => h) (Or.inl ⟨by rfl, fun w' _ => by rfl⟩) hS ?_
    try simp only [A1, A2, A3, Act.put, A4, A5, A6]
    refine wpAnyH_take (i := 3) rfl (by kernel_rfl) (by kernel_rfl) (by kernel_rfl) (fun _ _ _ h => h) (yM_load rfl (.tmp 3) rfl B rfl (fun w' h => h.b0)) hS ?_
    try simp only [A1, A2, A3, Act.put, A4, A5, A6]
    refine wpAnyH_ready (rs := [4]) (by kernel_rfl) (by simp) (AllReadyH.cons rfl (fun K hK => ?_) AllReadyH.nil)
    go_simp
    go_at_call 86
    refine (HZ.out _).mono ?_
    rintro e w2 ⟨rfl, hb2⟩
    have hS2 := hS.below hb2
    have hC1 := hC0.below hb2 hC0.lt
    clear hS
    refine hK.out _ _ hS2 (fun hS => ?_)
    clear hK K
    try simp only [A1, A2, A3, Act.put, A4, A5, A6]
    refine wpAnyH_take (i := 5) (v := .bool (!z)) rfl (by kernel_rfl) (by kernel_rfl) (by kernel_rfl) (fun _ _ _ h => h) (Or.inl ⟨by rfl, fun w' _ => by rfl⟩) hS ?_
    try simp only [A1, A2, A3, Act.put, A4, A5, A6]
    refine wpAnyH_take (i := 6) (v := .bool (!z)) rfl (by kernel_rfl) (by kernel_rfl) (by kernel_rfl) (fun _ _ _ h => h) (Or.inl ⟨by rfl, fun w' _ => by rfl⟩) hS ?_
    try simp only [A1, A2, A3, Act.put, A4, A5, A6]
    refine wpAnyH_take (i := 7) rfl (by kernel_rfl) (by kernel_rfl) (by kernel_rfl) (fun _ _ _ h => h) (yS_build (f := limb n) (u := len n) (s := (!z)) rfl (.tmp 5) (.tmp 11) rfl rfl rfl) hS ?_
    try simp only [A1, A2, A3, Act.put, A4, A5, A6]
    refine wpAnyH_ready (rs := [8]) (by kernel_rfl) (by simp) (AllReadyH.cons rfl (fun K hK => ?_) AllReadyH.nil)
    rw [if_pos (by rfl)]
    refine wpS_store1 (.tmp 4) (.tmp 12) rfl (B + 1) (f := limb n) (u := len n) (s := (!z)) rfl rfl hC1 ?_
    have hS' := hS
    have hb := hS.bl
    clear hS
    refine hK.out _ _ ⟨hS'.b0.rowOther _ _ (by omega), ⟨_, _, _, hC1.row _⟩, below_row hb _ _ (by omega)⟩ (fun hS => ?_)
    clear hK K
    refine wpAnyH_done (by kernel_rfl) ?_ _
    go_wp2
    exact bodyPost_ret (retS rfl _ _ (B + 1) rfl (hC1.row _)) rfl ⟨ret_agg (by rw [HR.out]), hB ▸ below_row hb _ _ (by omega)⟩
end Go.Proofs.YtjemolaobhlapaaGreatDoor
