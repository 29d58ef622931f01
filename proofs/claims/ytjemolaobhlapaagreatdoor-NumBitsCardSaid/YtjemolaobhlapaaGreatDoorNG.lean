/- Bits: what all operations have in common. -/
import Derived.Test.YtjemolaobhlapaaGreatDoorN29
set_option linter.unusedSimpArgs false
set_option linter.unusedVariables false
namespace Go.Proofs.YtjemolaobhlapaaGreatDoor
open Go.RowKit
set_option maxRecDepth 100000
theorem num_word {a : Nat} (h : a < 18446744073709551616) : Num false a :=
  ⟨fun h => (by cases h), by
    rcases Nat.eq_zero_or_pos a with rfl | h0
    · rw [Lib.nDigits_small (by omega)]; omega
    · have := Lib.numDigits_eq a h0 h; split at this <;> omega⟩
theorem vec_ok {a k : Nat} (h : a ≤ ones k) : vecS false a k = 0 := by unfold vecS; rw [if_neg (by simp; omega)]
structure Sb (w0 : World) (B k : Nat) (w : World) : Prop where
  bl : Below B w0 w
  b : BlockIs w B 3 #[.int .i64 k]
theorem Sb.below {w0 w w' : World} {B k : Nat} (h : Sb w0 B k w) (hb : Below w.heap.size w w') : Sb w0 B k w' := ⟨h.bl.trans (hb.mono (by have := h.b.lt; omega)), h.b.below hb h.b.lt⟩
theorem Sb.alloc {w0 w : World} {B k : Nat} (h : Sb w0 B k w) (o : Obj) : Sb w0 B k (w.alloc o) := ⟨h.bl.alloc (by have := h.b.lt; omega) _, h.b.alloc _⟩
theorem Sb.row {w0 w : World} {B k : Nat} (h : Sb w0 B k w) {E : Nat} (hE : B < E) (cs : Array Value) : Sb w0 B k (w.setRow E cs) := ⟨below_row h.bl _ _ (by omega), h.b.rowOther _ _ (by omega)⟩
theorem Sb.drew {w0 w : World} {B k : Nat} (h : Sb w0 B k w) : Sb w0 B k w.drew := ⟨h.bl.drew, h.b.drew⟩
theorem bitsStart {w W : World} {B : Nat} {k : Nat} {x y : ByteArray} (hB : w.heap.size = B) (hW : (w.alloc (.cells #[.int .i64 k] 3)).alloc (.cells #[.string x, .string y] 9) = W) :
    Sb w B k W ∧ BlockIs W (B + 1) 9 #[.string x, .string y] := by
  have h0 : BlockIs W B 3 #[.int .i64 k] := by rw [← hW, ← hB]; exact (BlockIs.new _ _ _).alloc _
  refine ⟨⟨?_, h0⟩, ?_⟩
  · rw [← hW, ← hB]
    exact ((Below.refl _ _).alloc (Nat.le_refl _) _).alloc (by simp) _
  · rw [← hW, ← hB]
    have := BlockIs.new (w.alloc (.cells #[.int .i64 k] 3)) 9 #[.string x, .string y]
    rwa [World.size_alloc] at this
theorem checkVectors (a b k : Nat) (ha : a < 18446744073709551616) (hb : b < 18446744073709551616) (hk : k ≤ 64) (hak : a ≤ ones k) (hbk : b ≤ ones k) {W : World} {B : Nat} (hP : W.cell? ⟨B, 0, none⟩ = some (.int .i64 k)) (hG : BlockIs W (B + 1) 9 #[.string (bs (numeral false a)), .string (bs (numeral false b))]) :
    Calls Tryz.prog 79 #[.func (.func 115) #[] #[.pointer (some ⟨B, 0, none⟩)], .slice (some ⟨B + 1, 0, none⟩) 2 2] W fun e w' => e = .returned (.int .i64 0) ∧ Below W.heap.size W w' :=
  checkAll_Bits1 B _ _ (B + 1) W hG 0 0 0 (fun W' h => Bits1_any false a k (num_word ha) hk B W' ((h.cell (World.block_lt_of_cell? W _ hP)).trans hP) 0 (vec_ok hak)) (fun _ W' h => Bits1_any false b k (num_word hb) hk B W' ((h.cell (World.block_lt_of_cell? W _ hP)).trans hP) 0 (vec_ok hbk)) rfl
theorem yS_field {ops : Array Oper} {S : World → Prop} {op : Oper} {a : Act} {f : Nat → Nat} {u : Nat} {s : Bool} (hw : Region.wanted op (yielded ops a.tmps) = true) (x : Operand) (ho : op.op = .field 82 x 0) (hx : a.eval x = .agg (sigF f u s)) : YieldsIf Tryz.prog ops S op (.agg (magF f u)) a :=
  .inl ⟨hw, fun w _ => by
    unfold execOp
    simp only [ho, hx, Sem.run_bind, run_fieldS, Result.andThen_ok]
    rfl⟩
abbrev zeroO : Array Value := #[.bool false, .nilFunc]
theorem infoB : (Tryz.prog.info? 132).map (·.size) = some 2 := by kernel_rfl
theorem wpB_store1 {o : Oper} {a : Act} {w : World} {K : Act → World → Prop} {Q : Exit → Act → World → Prop} {cs : Array Value} (x y : Operand) (ho : o.op = .store 132 x y) (E : Nat)
    (hx : a.eval x = .pointer (some ⟨E, 0, none⟩)) (hy : a.eval y = .agg cs) (hs : cs.size = 2) (hE : BlockIs w E 132 zeroO) (h1 : (cs.all fun v => v.oneCell') = true) (h : K (a.put o.dst undef) (w.setRow E cs)) : o.wp Tryz.prog a w K Q :=
  wp_store_row 132 x y ho E cs hx hy 132 _ hE (by rw [hs]; exact infoB) (by rw [hs]; rfl) h1 h
theorem wp_callT {o : Oper} {a : Act} {w : World} {K : Act → World → Prop} {Q : Exit → Act → World → Prop} (f : Nat) (t : Nat) (xs : Array Operand) (ts : Array TypeId) (ho : o.op = .call { callee := .value (.tmp t), args := xs, argTypes := ts }) (vs : Array Value) (hf : (Tryz.prog.funcs[f]?).map (fun fn => (fn.name == "runtime.NumGoroutine", fn.body.isNone)) = some (false, false)) (ht : a.eval (.tmp t) = .func (.func f) #[] #[]) (hv : xs.map a.eval = vs) {v : Value} {R : World → Prop}
    (h : Calls Tryz.prog f vs w fun e w' => e = .returned v ∧ R w') (hk : ∀ w', R w' → K (a.put o.dst v) w') : o.wp Tryz.prog a w K Q := by
  unfold Oper.wp
  have hr : (execOp a.eval o).run Tryz.prog w = .ok (.enter f vs) w := by
    subst hv
    have ht2 : a.tmps[t]?.getD undef = .func (.func f) #[] #[] := by simpa [Act.eval] using ht
    simp [execOp, ho, resolve, invoke, Act.eval, ht2, go_sem, callFunc, Deferred.ofValue]
    obtain ⟨fn, hfn, hx⟩ := Option.map_eq_some_iff.1 hf
    rw [Prod.mk.injEq] at hx
    have h1 : ¬ fn.name = "runtime.NumGoroutine" := by simpa using hx.1
    have h2 : ¬ fn.body = none := by
      have h3 := hx.2
      cases hb : fn.body with
      | none => rw [hb] at h3; cases h3
      | some _ => simp
    rw [hfn]
    simp [h1, h2]
  rw [hr]
  show Calls Tryz.prog f vs w _
  refine h.mono ?_
  rintro e w' ⟨rfl, hR⟩
  exact hk w' hR
theorem opW_lt (i a b : Nat) (ha : a < 18446744073709551616) (hb : b < 18446744073709551616) : opW i a b < 18446744073709551616 := by
  have h64 : (2 : Nat) ^ 64 = 18446744073709551616 := rfl
  unfold opW
  split
  · exact Nat.mod_lt _ (by decide)
  · exact Nat.mod_lt _ (by decide)
  · exact Nat.mod_lt _ (by decide)
  · exact Nat.lt_of_le_of_lt (Nat.div_le_self _ _) ha
  · exact Nat.lt_of_le_of_lt (Nat.mod_le _ _) ha
  · exact Nat.lt_of_le_of_lt Nat.and_le_left ha
  · rw [← h64] at ha hb ⊢; exact Nat.or_lt_two_pow ha hb
  · rw [← h64] at ha hb ⊢; exact Nat.xor_lt_two_pow ha hb
  · exact Nat.mod_lt _ (by decide)
  · exact Nat.lt_of_le_of_lt (Nat.div_le_self _ _) ha
end Go.Proofs.YtjemolaobhlapaaGreatDoor
