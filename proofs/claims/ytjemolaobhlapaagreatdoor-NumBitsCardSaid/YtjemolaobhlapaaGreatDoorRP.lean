/- The reference: Small at numbers that are not negative. -/
import Derived.Test.YtjemolaobhlapaaGreatDoorRM
import Derived.Deep.LoopGhost
import Derived.Test.YtjemolaobhlapaaGreatDoorNO
set_option linter.unusedSimpArgs false
set_option linter.unusedVariables false
namespace Go.Proofs.YtjemolaobhlapaaGreatDoor
open Go.RowKit
set_option maxRecDepth 100000

/-- The integer that is made. -/
structure Sm (w0 : World) (B : Nat) (s : Bool) (p : Option Addr) (c : Nat) (f : Nat → Nat) (k : Nat) (w : World) : Prop where
  b0 : BlockIs w B 74 #[.bool false, .slice none 0 0]
  b1 : BlockIs w (B + 1) 74 #[.bool s, .slice p k c]
  row : Row w (B + 2) (.slice p k c) f k
  bl : Below B w0 w
/-- Behind the append of a limb and its store. -/
theorem Sm.put {w0 w w4 : World} {B k c x : Nat} {s : Bool} {p : Option Addr} {f : Nat → Nat} {z : Int} {v' : Value} {o : Obj} (h : Sm w0 B s p c f k w) (hz : z = x) (hx : x = f k)
    (hown : w4.ownsRow (B + 2) 3 1 v' (k + 1) (rowL f k ++ [.int .i64 z])) (hg : (w.alloc o).grownBy w4 (Value.slice p k c).ownBlock) :
    ∃ p' c', v' = .slice p' (k + 1) c' ∧ BlockIs w4 (B + 1) 74 #[.bool s, .slice p k c] ∧ Sm w0 B s p' c' f (k + 1) (w4.setCell ⟨B + 1, 1, none⟩ (.slice p' (k + 1) c')) := by
  subst hz hx
  have hsz : B + 2 ≤ w.heap.size := h.b1.lt
  have hr : Row w4 (B + 2) v' f (k + 1) := by unfold Row; rw [rowL_succ]; exact hown
  obtain ⟨p', c', rfl⟩ := hr.len
  have hw : Below (B + 2) w w4 := ((Below.refl (B + 2) w).alloc hsz _).grown hg (by rw [World.size_alloc]; omega) (fun j e => (h.row.lt j e).1)
  have h0 : BlockIs w4 B 74 #[.bool false, .slice none 0 0] := h.b0.below hw (by omega)
  have h1 : BlockIs w4 (B + 1) 74 #[.bool s, .slice p k c] := h.b1.below hw (by omega)
  exact ⟨p', c', rfl, h1, ⟨h0.other _ _ (by simp), h1.set 1 _, hr.past (by omega), (h.bl.trans (hw.mono (by omega))).setCell (by simp) _⟩⟩
theorem Sm.start {w W : World} {B n : Nat} (hB : w.heap.size = B) (hW : (w.alloc (.cells #[.bool false, .slice none 0 0] 74)).alloc (.cells #[.bool false, .slice none 0 0] 74) = W) (s : Bool) :
    BlockIs W (B + 1) 74 #[.bool false, .slice none 0 0] ∧ Sm w B s none 0 (dq n) 0 ((W.setCell ⟨B + 1, 0, none⟩ (.bool s)).setCell ⟨B + 1, 1, none⟩ (.slice none 0 0)) :=
  ⟨(Bg2.start hB hW).b1, ((Bg2.start hB hW).b0.other _ _ (by simp)).other _ _ (by simp), (Bg2.start hB hW).b1.two, World.ownsRow_nil _ _ _ _, ((Bg2.start hB hW).bl.setCell (by simp) _).setCell (by simp) _⟩
theorem small_go {n i : Nat} (h : 0 < n / qw i) : i < ql n := by
  rcases Nat.lt_or_ge i (ql n) with h1 | h1
  · exact h1
  · rw [qtop h1] at h; omega
theorem small_end {n i : Nat} (h : n / qw i = 0) : ql n ≤ i := by
  apply ql_le
  rcases Nat.lt_or_ge n (qw i) with h1 | h1
  · exact h1
  · have := Nat.div_pos h1 (qw_pos i); omega

set_option maxHeartbeats 2000000 in
theorem rSmall_nat (n : Nat) (hn : n < 9223372036854775808) (w : World) :
    Calls Tryz.prog 68 #[.int .i64 n] w fun e w' => ∃ v', e = .returned v' ∧ BigR w false n v' w' := by
  obtain ⟨i0, hi0, hz0, hz1, hz2⟩ := info_parts infoI
  obtain ⟨B, hB⟩ : ∃ B, w.heap.size = B := ⟨_, rfl⟩
  obtain ⟨W, hW⟩ : ∃ W, (w.alloc (.cells #[.bool false, .slice none 0 0] 74)).alloc (.cells #[.bool false, .slice none 0 0] 74) = W := ⟨_, rfl⟩
  have HS := Lib.hid (Sm.start (n := n) hB hW false)
  have c2 := HS.out.1.at 0
  have c3 := HS.out.1.at 1
  have z2 := HS.out.1.thawed 0
  have z3 := HS.out.1.thawed 1
  have hd : decide ((n : Int) < 0) = false := by simp
  have hql : ql n < 10 := by
    have h := ql_le (n := n) (k := 5) (by have : qw 5 = 100000000000000000000 := rfl; omega)
    omega
  go_enter Tryz.func68, Tryz.ntmps68
  go_wp2
  clear c2 c3 z2 z3
  go_loopw [0] (fun x wr => ∃ i : Nat, i ≤ ql n ∧ x = .int .i64 ((n / qw i : Nat) : Int) ∧ Hid (∃ p c, Sm w B false p c (dq n) i wr)) (fun x _ => (intOf x).toNat)
  case atStart => exact ⟨0, Nat.zero_le _, by rw [qdiv_first], none, 0, HS.out.2⟩
  case round =>
    clear HS hd
    obtain ⟨i, hi, rfl, HT⟩ := hrel
    obtain ⟨p, c, HT⟩ := HT.out
    have HT := Lib.hid HT
    have c0 := HT.out.b1.at 0
    have c1 := HT.out.b1.at 1
    have hle : n / qw i ≤ n := Nat.div_le_self _ _
    have HG := Lib.hid (@small_go n i)
    have HE := Lib.hid (@small_end n i)
    have HX := Lib.hid (show n / qw i % 10000 = dq n i from rfl)
    have HN := Lib.hid (show n / qw i / 10000 = n / qw (i + 1) by rw [qw_succ, Nat.div_div_eq_div_mul])
    obtain ⟨y, hy⟩ : ∃ y, n / qw i = y := ⟨_, rfl⟩
    rw [hy] at hle HG HE HX HN ⊢
    clear hy
    by_cases h0 : y = 0
    · subst h0
      have hend : ql n = i := Nat.le_antisymm (HE.out rfl) hi
      obtain ⟨hb0, hb1⟩ : BlockIs wr B 74 #[.bool false, .slice none 0 0] ∧ BlockIs wr (B + 1) 74 #[.bool false, .slice p i c] := ⟨HT.out.b0, HT.out.b1⟩
      have d0 := hb0.at 0
      have d1 := hb0.at 1
      have e0 := hb0.thawed 0
      have e1 := hb0.thawed 1
      have HB0 := Lib.hid hb0
      clear hb0 hb1
      go_wp2
      have hbl := (HT.out.bl.setCell (p := ⟨B, 0, none⟩) (by simp) (.bool false)).setCell (p := ⟨B, 1, none⟩) (by simp) (.slice p i c)
      have hm : Mag wr (.slice p i c) n := by unfold Mag; rw [hend]; exact HT.out.row.base (Nat.zero_le _)
      exact bodyPost_ret (retBig rfl _ _ B rfl HB0.out.two) rfl ⟨_, rfl, p, c, by rw [hend], by rw [hend]; exact hm.two HB0.out, hB ▸ hbl⟩
    · have hlt : i < ql n := HG.out (by omega)
      have h1 : ((y : Int) != 0) = true := by simp; omega
      have hx4 : y % 10000 < 10000 := Nat.mod_lt _ (by decide)
      have hm1 : ((y : Int) % 10000) = ((y % 10000 : Nat) : Int) := by omega
      have HD := Lib.hid (show ((y : Int) / 10000) = ((y / 10000 : Nat) : Int) by omega)
      obtain ⟨x, hx⟩ : ∃ x, y % 10000 = x := ⟨_, rfl⟩
      rw [hx] at hm1 hx4 HX
      have hsz := HT.out.b1.lt
      have hdd : decide ((x : Int) < 0) = false := by simp
      have HY := Lib.hid (show 0 < y by omega)
      clear hx HG HE h0
      go_wp2_with (at_builtin; refine wpList_append_own _ rfl _ _ 72 rfl (B + 2) 3 i0 _ 1 8 Tryz.underlying72 hi0 hz0 hz1 hz2 rfl (by decide) _ _ _ rfl (World.ownsRow.alloc HT.out.row _) ⟨wr.heap.size, 0, none⟩ 1 1 [.int .i64 x] rfl rfl (new_cell _ _ _) (one_int _) (by simp [maxLen]; omega) (by omega) (by simp; omega) ?_; intro v' w4 hown' hg4 _; obtain ⟨p', c', rfl, hb4, hs4⟩ := HT.out.put rfl HX.out hown' hg4; have HR4 := Lib.hid hs4; have d1 := hb4.at 1; have e1 := hb4.thawed 1; clear hown' hg4 hs4 hb4)
      go_roundw
      case rel => exact ⟨i + 1, hlt, by rw [← HN.out]; exact congrArg _ HD.out, p', c', HR4.out⟩
      case measure => have := HY.out; simp [intOf]; omega
end Go.Proofs.YtjemolaobhlapaaGreatDoor

namespace Go.Proofs.YtjemolaobhlapaaGreatDoor
open Go.RowKit
set_option maxRecDepth 100000

/-- What Over leaves: the quotient and the remainder. -/
def OvR (w : World) (z : Bool) (q r : Nat) (v : Value) (w' : World) : Prop := ∃ p1 c1 p2 c2, v = .tuple #[.agg #[.bool z, .slice p1 (ql q) c1], .agg #[.bool false, .slice p2 (ql r) c2]] ∧ Mag w' (.slice p1 (ql q) c1) q ∧ Mag w' (.slice p2 (ql r) c2) r ∧ Below w.heap.size w w'
/-- The blocks of Over. -/
structure Ow (w0 : World) (B D : Nat) (a b c d : Value) (w : World) : Prop where
  b0 : BlockIs w B 74 #[a, b]
  b1 : BlockIs w (B + 1) 74 #[c, d]
  r2 : ∃ x y, BlockIs w (B + 2) 74 #[x, y]
  r3 : ∃ x y, BlockIs w (B + 3) 74 #[x, y]
  bl : Below B w0 w
  hD : B + 4 ≤ D
theorem Ow.start {w W : World} {B : Nat} {a b c d : Value} (hB : w.heap.size = B) (hW : (((w.alloc (.cells #[a, b] 74)).alloc (.cells #[c, d] 74)).alloc (.cells #[.bool false, .slice none 0 0] 74)).alloc (.cells #[.bool false, .slice none 0 0] 74) = W) : Ow w B (B + 4) a b c d W ∧ W.heap.size = B + 4 := by
  obtain ⟨V, hV⟩ : ∃ V, ((w.alloc (.cells #[a, b] 74)).alloc (.cells #[c, d] 74)).alloc (.cells #[.bool false, .slice none 0 0] 74) = V := ⟨_, rfl⟩
  have hs : V.heap.size = B + 3 := by rw [← hV, World.size_alloc, World.size_alloc, World.size_alloc, hB]
  have h := Bg.start hB hV
  rw [hV] at hW
  rw [← hW]
  obtain ⟨h0, h1, ⟨x, y, h2⟩, h3⟩ := h
  refine ⟨⟨h0.alloc _, h1.alloc _, ⟨x, y, h2.alloc _⟩, ⟨.bool false, .slice none 0 0, ?_⟩, h3.alloc (by omega) _, Nat.le_refl _⟩, by rw [World.size_alloc, hs]⟩
  have := BlockIs.new V 74 #[.bool false, .slice none 0 0]
  rwa [hs] at this
theorem Ow.below {w0 : World} {B D E : Nat} {a b c d : Value} {w w' : World} (h : Ow w0 B D a b c d w) (hb : Below w.heap.size w w') (hE : B + 4 ≤ E) : Ow w0 B E a b c d w' := by
  obtain ⟨h0, h1, ⟨x, y, h2⟩, ⟨u, v, h4⟩, h3, h5⟩ := h
  exact ⟨h0.below hb h0.lt, h1.below hb h1.lt, ⟨x, y, h2.below hb h2.lt⟩, ⟨u, v, h4.below hb h4.lt⟩, h3.trans (hb.mono (by have := h0.lt; omega)), hE⟩
theorem Ow.mag {w0 : World} {B D n : Nat} {a b c d v : Value} {w : World} (h : Ow w0 B D a b c d w) (hB : w0.heap.size = B) (hm : Mag w0 v n) : Mag w v n := hm.below (by rw [hB]; exact h.bl)
/-- The quotient and the rest, laid into blocks of their own. -/
structure Oq (w0 : World) (B D : Nat) (a b c d : Value) (x y u v : Value) (w : World) : Prop where
  o : Ow w0 B D a b c d w
  q : BlockIs w D 74 #[x, y]
  r : BlockIs w (D + 1) 74 #[u, v]
theorem Oq.start {w0 w W : World} {B D : Nat} {a b c d x y u v : Value} (h : Ow w0 B D a b c d w) (hD : w.heap.size = D) (hW : (w.alloc (.cells #[x, y] 74)).alloc (.cells #[u, v] 74) = W) : Oq w0 B D a b c d x y u v W := by
  have h2 := Bg2.start hD hW
  have hb : Below w.heap.size w W := by rw [hD]; exact h2.bl
  exact ⟨h.below hb h.hD, h2.b0, h2.b1⟩
theorem Oq.below {w0 : World} {B D : Nat} {a b c d x y u v : Value} {w w' : World} (h : Oq w0 B D a b c d x y u v w) (hb : Below w.heap.size w w') : Oq w0 B D a b c d x y u v w' :=
  ⟨h.o.below hb h.o.hD, h.q.below hb h.q.lt, h.r.below hb h.r.lt⟩
theorem Oq.drew {w0 : World} {B D : Nat} {a b c d x y u v : Value} {w : World} (h : Oq w0 B D a b c d x y u v w) : Oq w0 B D a b c d x y u v w.drew := by
  obtain ⟨⟨h0, h1, ⟨x, y, h2⟩, ⟨u, v, h4⟩, h3, h5⟩, h6, h7⟩ := h
  exact ⟨⟨h0.drew, h1.drew, ⟨x, y, h2.drew⟩, ⟨u, v, h4.drew⟩, h3.drew, h5⟩, h6.drew, h7.drew⟩
theorem Oq.ret {w0 : World} {B D : Nat} {a b c d x y u v : Value} {w : World} (h : Oq w0 B D a b c d x y u v w) (m n : Value) : Oq w0 B D a b c d x y u v (w.setRow (B + 2) #[m, n]) ∧ BlockIs (w.setRow (B + 2) #[m, n]) (B + 2) 74 #[m, n] := by
  obtain ⟨⟨h0, h1, ⟨_, _, h2⟩, ⟨_, _, h4⟩, h3, h5⟩, h6, h7⟩ := h
  exact ⟨⟨⟨h0.rowElse _ (by omega), h1.rowElse _ (by omega), ⟨_, _, h2.row2 _⟩, ⟨_, _, h4.rowElse _ (by omega)⟩, below_setRow2 h3 _ (by omega), h5⟩, h6.rowElse _ (by omega), h7.rowElse _ (by omega)⟩, h2.row2 _⟩
theorem Oq.ret3 {w0 : World} {B D : Nat} {a b c d x y u v : Value} {w : World} (h : Oq w0 B D a b c d x y u v w) (m n : Value) : Oq w0 B D a b c d x y u v (w.setRow (B + 3) #[m, n]) ∧ BlockIs (w.setRow (B + 3) #[m, n]) (B + 3) 74 #[m, n] := by
  obtain ⟨⟨h0, h1, ⟨_, _, h2⟩, ⟨_, _, h4⟩, h3, h5⟩, h6, h7⟩ := h
  exact ⟨⟨⟨h0.rowElse _ (by omega), h1.rowElse _ (by omega), ⟨_, _, h2.rowElse _ (by omega)⟩, ⟨_, _, h4.row2 _⟩, below_setRow2 h3 _ (by omega), h5⟩, h6.rowElse _ (by omega), h7.rowElse _ (by omega)⟩, h4.row2 _⟩
theorem Oq.setq {w0 : World} {B D : Nat} {a b c d x y u v : Value} {w : World} (h : Oq w0 B D a b c d x y u v w) (m n : Value) : Oq w0 B D a b c d m n u v (w.setRow D #[m, n]) := by
  obtain ⟨⟨h0, h1, ⟨_, _, h2⟩, ⟨_, _, h4⟩, h3, h5⟩, h6, h7⟩ := h
  exact ⟨⟨h0.rowElse _ (by omega), h1.rowElse _ (by omega), ⟨_, _, h2.rowElse _ (by omega)⟩, ⟨_, _, h4.rowElse _ (by omega)⟩, below_setRow2 h3 _ (by omega), h5⟩, h6.row2 _, h7.rowElse _ (by omega)⟩
theorem Oq.setr {w0 : World} {B D : Nat} {a b c d x y u v : Value} {w : World} (h : Oq w0 B D a b c d x y u v w) (m n : Value) : Oq w0 B D a b c d x y m n ((w.setCell ⟨D + 1, 0, none⟩ m).setCell ⟨D + 1, 1, none⟩ n) := by
  obtain ⟨⟨h0, h1, ⟨_, _, h2⟩, ⟨_, _, h4⟩, h3, h5⟩, h6, h7⟩ := h
  exact ⟨⟨(h0.other _ _ (by simp <;> omega)).other _ _ (by simp <;> omega), (h1.other _ _ (by simp <;> omega)).other _ _ (by simp <;> omega), ⟨_, _, (h2.other _ _ (by simp <;> omega)).other _ _ (by simp <;> omega)⟩, ⟨_, _, (h4.other _ _ (by simp <;> omega)).other _ _ (by simp <;> omega)⟩, (h3.setCell (by simp <;> omega) _).setCell (by simp <;> omega) _, h5⟩, (h6.other _ _ (by simp <;> omega)).other _ _ (by simp <;> omega), h7.two⟩
theorem wpB_load1 {o : Oper} {a : Act} {w : World} {K : Act → World → Prop} {Q : Exit → Act → World → Prop} (x : Operand) (ho : o.op = .load 74 x) (B : Nat) {u v : Value} (hx : a.eval x = .pointer (some ⟨B, 0, none⟩)) (hB : BlockIs w B 74 #[u, v]) (h : K (a.put o.dst (.agg #[u, v])) w) : o.wp Tryz.prog a w K Q := by
  unfold Oper.wp
  rw [show (execOp a.eval o).run Tryz.prog w = .ok (.value (.agg #[u, v])) w from by
    unfold execOp
    simp only [ho, hx, Instr.loadAt, Instr.sureAddr, Sem.run_bind, Sem.run_pure, Result.andThen_ok, loadBig hB]]
  exact h
theorem retBB {fn : Func} {p q : Tmp} (h : fn.results = #[.cell p 74, .cell q 74]) (tmps : Array Value) (w : World) (B C : Nat) (hp : tmps.getD p undef = .pointer (some ⟨B, 0, none⟩)) (hq : tmps.getD q undef = .pointer (some ⟨C, 0, none⟩)) {a b c d : Value} (hB : BlockIs w B 74 #[a, b]) (hC : BlockIs w C 74 #[c, d]) :
    (results fn tmps).run Tryz.prog w = .ok (.tuple #[.agg #[a, b], .agg #[c, d]]) w := by
  have hp' : tmps[p]?.getD undef = .pointer (some ⟨B, 0, none⟩) := by simpa using hp
  have hq' : tmps[q]?.getD undef = .pointer (some ⟨C, 0, none⟩) := by simpa using hq
  simp [results, h, hp', hq', asAddr, loadBig hB, loadBig hC]

set_option maxHeartbeats 8000000 in
theorem rOver_f (t : Bool) (a b : Nat) (va vb : Value) (w : World) (ha : Mag w va a) (hb : Mag w vb b) (la : ql a < 20000) (lb : ql b < 20000) (hb0 : 0 < b) (z0 : Bool) (hz : (t && !decide (a / b = 0)) = z0) :
    Calls Tryz.prog 89 #[.agg #[.bool false, va], .agg #[.bool t, vb]] w fun e w' => ∃ v', e = .returned v' ∧ OvR w z0 (a / b) (a % b) v' w' := by
  obtain ⟨p, c, rfl⟩ := ha.len
  obtain ⟨q, d, rfl⟩ := hb.len
  obtain ⟨B, hB⟩ : ∃ B, w.heap.size = B := ⟨_, rfl⟩
  obtain ⟨W, hW⟩ : ∃ W, (((w.alloc (.cells #[.bool false, .slice p (ql a) c] 74)).alloc (.cells #[.bool t, .slice q (ql b) d] 74)).alloc (.cells #[.bool false, .slice none 0 0] 74)).alloc (.cells #[.bool false, .slice none 0 0] 74) = W := ⟨_, rfl⟩
  have HS := Lib.hid (Ow.start hB hW).1
  have HOV := Lib.hid (rOver_any a b _ _ W (HS.out.mag hB ha) (HS.out.mag hB hb) la lb hb0)
  have lq : ql (a / b) < 20000 := Nat.lt_of_le_of_lt (ql_mono (Nat.div_le_self a b)) la
  have lr : ql (a % b) < 20000 := Nat.lt_of_le_of_lt (ql_mono (Nat.le_of_lt (Nat.mod_lt a hb0))) lb
  have HBm := Lib.hid hb
  have HB0 := Lib.hid hb0
  have c0 := HS.out.b0.at 0
  have c1 := HS.out.b0.at 1
  have c2 := HS.out.b1.at 0
  have c3 := HS.out.b1.at 1
  clear ha hb hb0
  have HTQ := Lib.hid (fun (v : Value) W (h : Mag W v (a / b)) => trimR (t) (a / b) v W h (by omega) z0 hz)
  have HTF := Lib.hid (fun (v : Value) W (h : Mag W v (a % b)) => trimR false (a % b) v W h (by omega) false rfl)
  clear hz
  go_enter Tryz.func89, Tryz.ntmps89
  go_wp2_with (first | (go_at_call 144; refine HOV.out.mono ?_; rintro e w1 ⟨v1, v2, rfl, hm1, hm2, hb1⟩; obtain ⟨p1, k1, rfl⟩ := hm1.len; obtain ⟨p2, k2, rfl⟩ := hm2.len; have HO1 := Lib.hid (HS.out.below hb1 (Nat.le_refl _)); have HV1 := Lib.hid hm1; have HV2 := Lib.hid hm2; clear hm1 hm2 hb1 c0 c1 c2 c3; have c0 := HO1.out.b0.at 0; have c1 := HO1.out.b0.at 1; have c2 := HO1.out.b1.at 0; have c3 := HO1.out.b1.at 1) | (go_at_call 133; refine (HTQ.out _ _ HV1.out).mono ?_; rintro e w2 ⟨v3, rfl, p3, k3, rfl, hm3, hb3⟩; obtain ⟨D, hD⟩ : ∃ D, w2.heap.size = D := ⟨_, rfl⟩; have HO2 := Lib.hid (HO1.out.below hb3 (E := D) (by have h1 := hb3.size; obtain ⟨_, _, h2⟩ := HO1.out.r3; have := h2.lt; omega)); have HQ2 := Lib.hid hm3; have HR2 := Lib.hid (HV2.out.below hb3); obtain ⟨W3, hW3⟩ : ∃ W3, (w2.alloc (.cells #[.bool z0, .slice p3 (ql (a / b)) k3] 74)).alloc (.cells #[.bool false, .slice p2 (ql (a % b)) k2] 74) = W3 := ⟨_, rfl⟩; have HO3 := Lib.hid (Oq.start HO2.out hD hW3); have hb4 : Below w2.heap.size w2 W3 := (by rw [← hW3]; exact ((Below.refl _ _).alloc (Nat.le_refl _) _).alloc (by simp) _); have HMQ := Lib.hid (HQ2.out.below hb4); have HMR := Lib.hid (HR2.out.below hb4); clear hm3 hb3 hb4 c0 c1 c2 c3; have c0 := HO3.out.o.b0.at 0; have c1 := HO3.out.o.b0.at 1; have c2 := HO3.out.o.b1.at 0; have c3 := HO3.out.o.b1.at 1))
  clear hW3
  have hT0 : Oq w B D (.bool false) (.slice p (ql a) c) (.bool t) (.slice q (ql b) d) (.bool z0) (.slice p3 (ql (a / b)) k3) (.bool false) (.slice p2 (ql (a % b)) k2) W3.drew := HO3.out.drew
  refine wp_region_held_drew (S := Oq w B D (.bool false) (.slice p (ql a) c) (.bool t) (.slice q (ql b) d) (.bool z0) (.slice p3 (ql (a / b)) k3) (.bool false) (.slice p2 (ql (a % b)) k2)) (by kernel_rfl) hT0 (fun hS => ?_)
  obtain ⟨wd, hwd⟩ : ∃ wd, W3.drew = wd := ⟨_, rfl⟩
  have HMD := Lib.hid (HMQ.out.drew)
  have HRD := Lib.hid (HMR.out.drew)
  rw [hwd] at hS hT0 HMD HRD ⊢
  clear hwd hT0
  refine wpAnyH_take (i := 0) rfl (by kernel_rfl) (by kernel_rfl) (by kernel_rfl) (fun _ _ _ h => h) (yB_load rfl (.tmp 8) rfl D rfl (fun w' h => h.q)) hS ?_
  try simp only [A1, A2, A3, Act.put, A4, A5, A6]
  refine wpAnyH_take (i := 1) rfl (by kernel_rfl) (by kernel_rfl) (by kernel_rfl) (fun _ _ _ h => h) (yB_load rfl (.tmp 9) rfl (D + 1) rfl (fun w' h => h.r)) hS ?_
  try simp only [A1, A2, A3, Act.put, A4, A5, A6]
  refine wpAnyH_ready (rs := [2]) (by kernel_rfl) (by simp) (AllReadyH.cons rfl (fun K hK => ?_) AllReadyH.nil)
  rw [if_pos (by rfl)]
  refine wp_callE 133 _ _ rfl _ (by kernel_rfl) (by kernel_rfl) (R := BigR wd false (a % b)) (HTF.out _ _ HRD.out) (fun v9 w9 hR9 => ?_)
  obtain ⟨p9, k9, rfl, hm9, hb9⟩ := hR9
  have HM9 := Lib.hid (HMD.out.below hb9)
  have hT := hS.below hb9
  clear hS
  refine hK.out _ _ hT (fun hS => ?_)
  clear hK K hT
  try simp only [A1, A2, A3, Act.put, A4, A5, A6]
  obtain ⟨_, _, hb⟩ := hS.o.r2
  have hq1 := HM9.out.row (cs' := #[.bool z0, .slice p3 (ql (a / b)) k3]) hb
  have hr1 := hm9.row (cs' := #[.bool z0, .slice p3 (ql (a / b)) k3]) hb
  have hret := hS.ret (.bool z0) (.slice p3 (ql (a / b)) k3)
  refine wpAnyH_ready (rs := [3]) (by kernel_rfl) (by simp) (AllReadyH.cons rfl (fun K hK => ?_) AllReadyH.nil)
  rw [if_pos (by rfl)]
  refine wpBig_store1 (.tmp 4) (.tmp 48) rfl (B + 2) rfl rfl hb ?_
  have hT := hret.1
  clear hS
  refine hK.out _ _ hT (fun hS => ?_)
  clear hK K
  obtain ⟨_, _, hb3⟩ := hS.o.r3
  have hq2 := hq1.row (cs' := #[.bool false, .slice p9 (ql (a % b)) k9]) hb3
  have hr2 := hr1.row (cs' := #[.bool false, .slice p9 (ql (a % b)) k9]) hb3
  have hret3 := hS.ret3 (.bool false) (.slice p9 (ql (a % b)) k9)
  have hret2 := hret.2.rowElse (C := B + 3) #[.bool false, .slice p9 (ql (a % b)) k9] (by omega)
  refine wpAnyH_ready (rs := [4]) (by kernel_rfl) (by simp) (AllReadyH.cons rfl (fun K hK => ?_) AllReadyH.nil)
  rw [if_pos (by rfl)]
  refine wpBig_store1 (.tmp 5) (.tmp 50) rfl (B + 3) rfl rfl hb3 ?_
  have hT := hret3.1
  clear hS
  refine hK.out _ _ hT (fun hS => ?_)
  clear hK K
  refine wpAnyH_done (by kernel_rfl) ?_ _
  go_wp2
  exact bodyPost_ret (retBB rfl _ _ (B + 2) (B + 3) rfl rfl hret2 hret3.2) rfl ⟨_, rfl, _, _, _, _, rfl, hq2, hr2, hB ▸ hret3.1.o.bl⟩

set_option maxHeartbeats 8000000 in
theorem rOver_t0 (t : Bool) (a b : Nat) (va vb : Value) (w : World) (ha : Mag w va a) (hb : Mag w vb b) (la : ql a < 20000) (lb : ql b < 20000) (hb0 : 0 < b) (hr0 : a % b = 0) (z0 : Bool) (hz : ((!t) && !decide (a / b = 0)) = z0) :
    Calls Tryz.prog 89 #[.agg #[.bool true, va], .agg #[.bool t, vb]] w fun e w' => ∃ v', e = .returned v' ∧ OvR w z0 (a / b) (a % b) v' w' := by
  obtain ⟨p, c, rfl⟩ := ha.len
  obtain ⟨q, d, rfl⟩ := hb.len
  obtain ⟨B, hB⟩ : ∃ B, w.heap.size = B := ⟨_, rfl⟩
  obtain ⟨W, hW⟩ : ∃ W, (((w.alloc (.cells #[.bool true, .slice p (ql a) c] 74)).alloc (.cells #[.bool t, .slice q (ql b) d] 74)).alloc (.cells #[.bool false, .slice none 0 0] 74)).alloc (.cells #[.bool false, .slice none 0 0] 74) = W := ⟨_, rfl⟩
  have HS := Lib.hid (Ow.start hB hW).1
  have HOV := Lib.hid (rOver_any a b _ _ W (HS.out.mag hB ha) (HS.out.mag hB hb) la lb hb0)
  have lq : ql (a / b) < 20000 := Nat.lt_of_le_of_lt (ql_mono (Nat.div_le_self a b)) la
  have lr : ql (a % b) < 20000 := Nat.lt_of_le_of_lt (ql_mono (Nat.le_of_lt (Nat.mod_lt a hb0))) lb
  have HBm := Lib.hid hb
  have HB0 := Lib.hid hb0
  have c0 := HS.out.b0.at 0
  have c1 := HS.out.b0.at 1
  have c2 := HS.out.b1.at 0
  have c3 := HS.out.b1.at 1
  clear ha hb hb0
  have HTQ := Lib.hid (fun (v : Value) W (h : Mag W v (a / b)) => trimR (!t) (a / b) v W h (by omega) z0 hz)
  have HTF := Lib.hid (fun (v : Value) W (h : Mag W v (a % b)) => trimR false (a % b) v W h (by omega) false rfl)
  clear hz
  have hl0 : decide (0 < ql (a % b)) = false := by rw [ql_eq_zero.2 hr0]; rfl
  clear hr0
  go_enter Tryz.func89, Tryz.ntmps89
  go_wp2_with (first | (go_at_call 144; refine HOV.out.mono ?_; rintro e w1 ⟨v1, v2, rfl, hm1, hm2, hb1⟩; obtain ⟨p1, k1, rfl⟩ := hm1.len; obtain ⟨p2, k2, rfl⟩ := hm2.len; have HO1 := Lib.hid (HS.out.below hb1 (Nat.le_refl _)); have HV1 := Lib.hid hm1; have HV2 := Lib.hid hm2; clear hm1 hm2 hb1 c0 c1 c2 c3; have c0 := HO1.out.b0.at 0; have c1 := HO1.out.b0.at 1; have c2 := HO1.out.b1.at 0; have c3 := HO1.out.b1.at 1) | (go_at_call 133; refine (HTQ.out _ _ HV1.out).mono ?_; rintro e w2 ⟨v3, rfl, p3, k3, rfl, hm3, hb3⟩; obtain ⟨D, hD⟩ : ∃ D, w2.heap.size = D := ⟨_, rfl⟩; have HO2 := Lib.hid (HO1.out.below hb3 (E := D) (by have h1 := hb3.size; obtain ⟨_, _, h2⟩ := HO1.out.r3; have := h2.lt; omega)); have HQ2 := Lib.hid hm3; have HR2 := Lib.hid (HV2.out.below hb3); obtain ⟨W3, hW3⟩ : ∃ W3, (w2.alloc (.cells #[.bool z0, .slice p3 (ql (a / b)) k3] 74)).alloc (.cells #[.bool false, .slice p2 (ql (a % b)) k2] 74) = W3 := ⟨_, rfl⟩; have HO3 := Lib.hid (Oq.start HO2.out hD hW3); have hb4 : Below w2.heap.size w2 W3 := (by rw [← hW3]; exact ((Below.refl _ _).alloc (Nat.le_refl _) _).alloc (by simp) _); have HMQ := Lib.hid (HQ2.out.below hb4); have HMR := Lib.hid (HR2.out.below hb4); clear hm3 hb3 hb4 c0 c1 c2 c3; have c0 := HO3.out.o.b0.at 0; have c1 := HO3.out.o.b0.at 1; have c2 := HO3.out.o.b1.at 0; have c3 := HO3.out.o.b1.at 1))
  clear hW3
  have hT0 : Oq w B D (.bool true) (.slice p (ql a) c) (.bool t) (.slice q (ql b) d) (.bool z0) (.slice p3 (ql (a / b)) k3) (.bool false) (.slice p2 (ql (a % b)) k2) W3.drew := HO3.out.drew
  refine wp_region_held_drew (S := Oq w B D (.bool true) (.slice p (ql a) c) (.bool t) (.slice q (ql b) d) (.bool z0) (.slice p3 (ql (a / b)) k3) (.bool false) (.slice p2 (ql (a % b)) k2)) (by kernel_rfl) hT0 (fun hS => ?_)
  obtain ⟨wd, hwd⟩ : ∃ wd, W3.drew = wd := ⟨_, rfl⟩
  have HMD := Lib.hid (HMQ.out.drew)
  have HRD := Lib.hid (HMR.out.drew)
  rw [hwd] at hS hT0 HMD HRD ⊢
  clear hwd hT0
  refine wpAnyH_take (i := 0) rfl (by kernel_rfl) (by kernel_rfl) (by kernel_rfl) (fun _ _ _ h => h) (yB_load rfl (.tmp 8) rfl D rfl (fun w' h => h.q)) hS ?_
  try simp only [A1, A2, A3, Act.put, A4, A5, A6]
  refine wpAnyH_take (i := 1) rfl (by kernel_rfl) (by kernel_rfl) (by kernel_rfl) (fun _ _ _ h => h) (yB_load rfl (.tmp 9) rfl (D + 1) rfl (fun w' h => h.r)) hS ?_
  try simp only [A1, A2, A3, Act.put, A4, A5, A6]
  refine wpAnyH_ready (rs := [2]) (by kernel_rfl) (by simp) (AllReadyH.cons rfl (fun K hK => ?_) AllReadyH.nil)
  rw [if_pos (by rfl)]
  refine wp_callE 133 _ _ rfl _ (by kernel_rfl) (by kernel_rfl) (R := BigR wd false (a % b)) (HTF.out _ _ HRD.out) (fun v9 w9 hR9 => ?_)
  obtain ⟨p9, k9, rfl, hm9, hb9⟩ := hR9
  have HM9 := Lib.hid (HMD.out.below hb9)
  have hT := hS.below hb9
  clear hS
  refine hK.out _ _ hT (fun hS => ?_)
  clear hK K hT
  try simp only [A1, A2, A3, Act.put, A4, A5, A6]
  obtain ⟨_, _, hb⟩ := hS.o.r2
  have hq1 := HM9.out.row (cs' := #[.bool z0, .slice p3 (ql (a / b)) k3]) hb
  have hr1 := hm9.row (cs' := #[.bool z0, .slice p3 (ql (a / b)) k3]) hb
  have hret := hS.ret (.bool z0) (.slice p3 (ql (a / b)) k3)
  refine wpAnyH_ready (rs := [3]) (by kernel_rfl) (by simp) (AllReadyH.cons rfl (fun K hK => ?_) AllReadyH.nil)
  rw [if_pos (by rfl)]
  refine wpBig_store1 (.tmp 4) (.tmp 48) rfl (B + 2) rfl rfl hb ?_
  have hT := hret.1
  clear hS
  refine hK.out _ _ hT (fun hS => ?_)
  clear hK K
  obtain ⟨_, _, hb3⟩ := hS.o.r3
  have hq2 := hq1.row (cs' := #[.bool false, .slice p9 (ql (a % b)) k9]) hb3
  have hr2 := hr1.row (cs' := #[.bool false, .slice p9 (ql (a % b)) k9]) hb3
  have hret3 := hS.ret3 (.bool false) (.slice p9 (ql (a % b)) k9)
  have hret2 := hret.2.rowElse (C := B + 3) #[.bool false, .slice p9 (ql (a % b)) k9] (by omega)
  refine wpAnyH_ready (rs := [4]) (by kernel_rfl) (by simp) (AllReadyH.cons rfl (fun K hK => ?_) AllReadyH.nil)
  rw [if_pos (by rfl)]
  refine wpBig_store1 (.tmp 5) (.tmp 50) rfl (B + 3) rfl rfl hb3 ?_
  have hT := hret3.1
  clear hS
  refine hK.out _ _ hT (fun hS => ?_)
  clear hK K
  refine wpAnyH_done (by kernel_rfl) ?_ _
  go_wp2
  exact bodyPost_ret (retBB rfl _ _ (B + 2) (B + 3) rfl rfl hret2 hret3.2) rfl ⟨_, rfl, _, _, _, _, rfl, hq2, hr2, hB ▸ hret3.1.o.bl⟩

set_option maxHeartbeats 8000000 in
theorem rOver_tt (a b : Nat) (va vb : Value) (w : World) (ha : Mag w va a) (hb : Mag w vb b) (la : ql a < 20000) (lb : ql b < 20000) (hb0 : 0 < b) (hr0 : a % b ≠ 0) :
    Calls Tryz.prog 89 #[.agg #[.bool true, va], .agg #[.bool true, vb]] w fun e w' => ∃ v', e = .returned v' ∧ OvR w false (a / b + 1) (b - a % b) v' w' := by
  obtain ⟨p, c, rfl⟩ := ha.len
  obtain ⟨q, d, rfl⟩ := hb.len
  obtain ⟨B, hB⟩ : ∃ B, w.heap.size = B := ⟨_, rfl⟩
  obtain ⟨W, hW⟩ : ∃ W, (((w.alloc (.cells #[.bool true, .slice p (ql a) c] 74)).alloc (.cells #[.bool true, .slice q (ql b) d] 74)).alloc (.cells #[.bool false, .slice none 0 0] 74)).alloc (.cells #[.bool false, .slice none 0 0] 74) = W := ⟨_, rfl⟩
  have HS := Lib.hid (Ow.start hB hW).1
  have HOV := Lib.hid (rOver_any a b _ _ W (HS.out.mag hB ha) (HS.out.mag hB hb) la lb hb0)
  have lq : ql (a / b) < 20000 := Nat.lt_of_le_of_lt (ql_mono (Nat.div_le_self a b)) la
  have lr : ql (a % b) < 20000 := Nat.lt_of_le_of_lt (ql_mono (Nat.le_of_lt (Nat.mod_lt a hb0))) lb
  have HBm := Lib.hid hb
  have HB0 := Lib.hid hb0
  have c0 := HS.out.b0.at 0
  have c1 := HS.out.b0.at 1
  have c2 := HS.out.b1.at 0
  have c3 := HS.out.b1.at 1
  clear ha hb hb0
  have hrb : b - a % b ≤ b := Nat.sub_le _ _
  have l1 : ql (b - a % b) < 20000 := Nat.lt_of_le_of_lt (ql_mono hrb) lb
  have HTF := Lib.hid (fun (v : Value) W (h : Mag W v (b - a % b)) => trimR false (b - a % b) v W h (by omega) false rfl)
  have HMN := Lib.hid (fun (v u : Value) W (h1 : Mag W v b) (h2 : Mag W u (a % b)) => minusR b (a % b) v u W h1 h2 (Nat.le_of_lt (Nat.mod_lt a HB0.out)) (by omega))
  have h11 : ql 1 = 1 := ql_small (by decide) (by decide)
  obtain ⟨z0, hz00⟩ : ∃ z, z = false := ⟨false, rfl⟩
  have hz : (false && !decide (a / b = 0)) = z0 := by rw [hz00]; rfl
  have HPL := Lib.hid (fun (v u : Value) W (h1 : Mag W v (a / b)) (h2 : Mag W u 1) => rPlusB_any z0 false (a / b) 1 v u W h1 h2 (by omega) (by omega) false (a / b + 1) (by rw [hz00]; rfl) false rfl)
  have HTQ := Lib.hid (fun (v : Value) W (h : Mag W v (a / b)) => trimR false (a / b) v W h (by omega) z0 hz)
  have hl0 : decide (0 < ql (a % b)) = true := by
    have : ql (a % b) ≠ 0 := fun h => hr0 (ql_eq_zero.1 h)
    simp; omega
  try clear hz00
  clear hr0 hz hrb h11
  go_enter Tryz.func89, Tryz.ntmps89
  go_wp2_with (first | (go_at_call 144; refine HOV.out.mono ?_; rintro e w1 ⟨v1, v2, rfl, hm1, hm2, hb1⟩; obtain ⟨p1, k1, rfl⟩ := hm1.len; obtain ⟨p2, k2, rfl⟩ := hm2.len; have HO1 := Lib.hid (HS.out.below hb1 (Nat.le_refl _)); have HV1 := Lib.hid hm1; have HV2 := Lib.hid hm2; clear hm1 hm2 hb1 c0 c1 c2 c3; have c0 := HO1.out.b0.at 0; have c1 := HO1.out.b0.at 1; have c2 := HO1.out.b1.at 0; have c3 := HO1.out.b1.at 1) | (go_at_call 133; refine (HTQ.out _ _ HV1.out).mono ?_; rintro e w2 ⟨v3, rfl, p3, k3, rfl, hm3, hb3⟩; obtain ⟨D, hD⟩ : ∃ D, w2.heap.size = D := ⟨_, rfl⟩; have HO2 := Lib.hid (HO1.out.below hb3 (E := D) (by have h1 := hb3.size; obtain ⟨_, _, h2⟩ := HO1.out.r3; have := h2.lt; omega)); have HQ2 := Lib.hid hm3; have HR2 := Lib.hid (HV2.out.below hb3); obtain ⟨W3, hW3⟩ : ∃ W3, (w2.alloc (.cells #[.bool z0, .slice p3 (ql (a / b)) k3] 74)).alloc (.cells #[.bool false, .slice p2 (ql (a % b)) k2] 74) = W3 := ⟨_, rfl⟩; have HO3 := Lib.hid (Oq.start HO2.out hD hW3); have hb4 : Below w2.heap.size w2 W3 := (by rw [← hW3]; exact ((Below.refl _ _).alloc (Nat.le_refl _) _).alloc (by simp) _); have HMQ := Lib.hid (HQ2.out.below hb4); have HMR := Lib.hid (HR2.out.below hb4); clear hm3 hb3 hb4 c0 c1 c2 c3; have c0 := HO3.out.o.b0.at 0; have c1 := HO3.out.o.b0.at 1; have c2 := HO3.out.o.b1.at 0; have c3 := HO3.out.o.b1.at 1) | (go_at_call 139; refine (HMN.out _ _ _ (HO3.out.o.mag hB HBm.out) HMR.out).mono ?_; rintro e w5 ⟨v5, rfl, p5, k5, rfl, hm5, hb5⟩; have HO5 := Lib.hid (HO3.out.below hb5); have HMQ5 := Lib.hid (HMQ.out.below hb5); have HMR5 := Lib.hid hm5; clear hm5 hb5 c0 c1 c2 c3; have c0 := HO5.out.o.b0.at 0; have c1 := HO5.out.o.b0.at 1; have c2 := HO5.out.o.b1.at 0; have c3 := HO5.out.o.b1.at 1; have e0 := HO5.out.r.at 0; have e1 := HO5.out.r.at 1; have f0 := HO5.out.r.thawed 0; have f1 := HO5.out.r.thawed 1; have HO6 := Lib.hid (HO5.out.setr (.bool false) (.slice p5 (ql (b - a % b)) k5)); have HMQ6 := Lib.hid (HMQ5.out.two (x := .bool false) (y := .slice p5 (ql (b - a % b)) k5) HO5.out.r); have HMR6 := Lib.hid (HMR5.out.two (x := .bool false) (y := .slice p5 (ql (b - a % b)) k5) HO5.out.r); obtain ⟨W6, hW6⟩ : ∃ W6, ((w5.setCell ⟨D + 1, 0, none⟩ (.bool false)).setCell ⟨D + 1, 1, none⟩ (.slice p5 (ql (b - a % b)) k5)) = W6 := ⟨_, rfl⟩; rw [hW6] at HO6 HMQ6 HMR6; have g2 := HO6.out.o.b1.at 0))
  try clear hW3
  clear hW6
  have hT0 : (fun w' => ∃ x y, Oq w B D (.bool true) (.slice p (ql a) c) (.bool true) (.slice q (ql b) d) x y (.bool false) (.slice p5 (ql (b - a % b)) k5) w') W6.drew := ⟨_, _, HO6.out.drew⟩
  refine wp_region_held_drew (S := fun w' => ∃ x y, Oq w B D (.bool true) (.slice p (ql a) c) (.bool true) (.slice q (ql b) d) x y (.bool false) (.slice p5 (ql (b - a % b)) k5) w') (by kernel_rfl) hT0 (fun hS => ?_)
  obtain ⟨we, hwe⟩ : ∃ we, W6.drew = we := ⟨_, rfl⟩
  have HQe := Lib.hid HMQ6.out.drew
  have HRe := Lib.hid HMR6.out.drew
  have HOe := Lib.hid HO6.out.drew
  rw [hwe] at hS hT0 HQe HRe HOe ⊢
  clear hwe hT0 hS
  refine wpAnyH_ready (rs := [0, 1]) (by kernel_rfl) (by simp) (AllReadyH.cons rfl (fun K hK => ?_) (AllReadyH.cons rfl (fun K hK => ?_) AllReadyH.nil))
  · rw [if_pos (by rfl)]
    refine wpB_load1 (.tmp 8) rfl D rfl HOe.out.q ?_
    refine hK.out _ _ ⟨_, _, HOe.out⟩ (fun _ => ?_)
    clear hK K
    try simp only [A1, A2, A3, Act.put, A4, A5, A6]
    refine wpAnyH_ready (rs := [1]) (by kernel_rfl) (by simp) (AllReadyH.cons rfl (fun K hK => ?_) AllReadyH.nil)
    rw [if_pos (by rfl)]
    refine wp_callE 68 _ _ rfl _ (by kernel_rfl) (by kernel_rfl) (R := BigR we false 1) (rSmall_nat 1 (by decide) we) (fun v6 w6 hR6 => ?_)
    obtain ⟨p6, k6, rfl, hm6, hb6⟩ := hR6
    have HQ6 := Lib.hid (HQe.out.below hb6)
    have HR6 := Lib.hid (HRe.out.below hb6)
    have HO6b := Lib.hid (HOe.out.below hb6)
    refine hK.out _ _ ⟨_, _, HO6b.out⟩ (fun _ => ?_)
    clear hK K
    try simp only [A1, A2, A3, Act.put, A4, A5, A6]
    refine wpAnyH_ready (rs := [2]) (by kernel_rfl) (by simp) (AllReadyH.cons rfl (fun K hK => ?_) AllReadyH.nil)
    rw [if_pos (by rfl)]
    refine wp_callE 82 _ _ rfl _ (by kernel_rfl) (by kernel_rfl) (R := BigR w6 false (a / b + 1)) (HPL.out _ _ _ HQ6.out hm6) (fun v7 w7 hR7 => ?_)
    obtain ⟨p7, k7, rfl, hm7, hb7⟩ := hR7
    have HR7 := Lib.hid (HR6.out.below hb7)
    have HO7 := Lib.hid (HO6b.out.below hb7)
    refine hK.out _ _ ⟨_, _, HO7.out⟩ (fun _ => ?_)
    clear hK K
    try simp only [A1, A2, A3, Act.put, A4, A5, A6]
    have HMQ8 := Lib.hid (hm7.row (cs' := #[.bool false, .slice p7 (ql (a / b + 1)) k7]) HO7.out.q)
    have HMR8 := Lib.hid (HR7.out.row (cs' := #[.bool false, .slice p7 (ql (a / b + 1)) k7]) HO7.out.q)
    have HO8 := Lib.hid (HO7.out.setq (.bool false) (.slice p7 (ql (a / b + 1)) k7))
    refine wpAnyH_ready (rs := [3]) (by kernel_rfl) (by simp) (AllReadyH.cons rfl (fun K hK => ?_) AllReadyH.nil)
    rw [if_pos (by rfl)]
    refine wpBig_store1 (.tmp 8) (.tmp 44) rfl (D) rfl rfl HO7.out.q ?_
    refine hK.out _ _ ⟨_, _, HO8.out⟩ (fun _ => ?_)
    clear hK K
    refine wpAnyH_done (by kernel_rfl) ?_ _
    obtain ⟨W8, hW8⟩ : ∃ W8, w7.setRow D #[.bool false, .slice p7 (ql (a / b + 1)) k7] = W8 := ⟨_, rfl⟩
    rw [hW8] at HO8 HMQ8 HMR8 ⊢
    clear hW8 HQ6 HR6 HR7 hm6 hm7 HQe HRe HOe HO6b HO7
    have HMQ := HMQ8
    have HMR := HMR8
    go_wp2
    have hT0 : Oq w B D (.bool true) (.slice p (ql a) c) (.bool true) (.slice q (ql b) d) (.bool false) (.slice p7 (ql (a / b + 1)) k7) (.bool false) (.slice p5 (ql (b - a % b)) k5) W8.drew := HO8.out.drew
    refine wp_region_held_drew (S := Oq w B D (.bool true) (.slice p (ql a) c) (.bool true) (.slice q (ql b) d) (.bool false) (.slice p7 (ql (a / b + 1)) k7) (.bool false) (.slice p5 (ql (b - a % b)) k5)) (by kernel_rfl) hT0 (fun hS => ?_)
    obtain ⟨wd, hwd⟩ : ∃ wd, W8.drew = wd := ⟨_, rfl⟩
    have HMD := Lib.hid (HMQ.out.drew)
    have HRD := Lib.hid (HMR.out.drew)
    rw [hwd] at hS hT0 HMD HRD ⊢
    clear hwd hT0
    refine wpAnyH_take (i := 0) rfl (by kernel_rfl) (by kernel_rfl) (by kernel_rfl) (fun _ _ _ h => h) (yB_load rfl (.tmp 8) rfl D rfl (fun w' h => h.q)) hS ?_
    try simp only [A1, A2, A3, Act.put, A4, A5, A6]
    refine wpAnyH_take (i := 1) rfl (by kernel_rfl) (by kernel_rfl) (by kernel_rfl) (fun _ _ _ h => h) (yB_load rfl (.tmp 9) rfl (D + 1) rfl (fun w' h => h.r)) hS ?_
    try simp only [A1, A2, A3, Act.put, A4, A5, A6]
    refine wpAnyH_ready (rs := [2]) (by kernel_rfl) (by simp) (AllReadyH.cons rfl (fun K hK => ?_) AllReadyH.nil)
    rw [if_pos (by rfl)]
    refine wp_callE 133 _ _ rfl _ (by kernel_rfl) (by kernel_rfl) (R := BigR wd false (b - a % b)) (HTF.out _ _ HRD.out) (fun v9 w9 hR9 => ?_)
    obtain ⟨p9, k9, rfl, hm9, hb9⟩ := hR9
    have HM9 := Lib.hid (HMD.out.below hb9)
    have hT := hS.below hb9
    clear hS
    refine hK.out _ _ hT (fun hS => ?_)
    clear hK K hT
    try simp only [A1, A2, A3, Act.put, A4, A5, A6]
    obtain ⟨_, _, hb⟩ := hS.o.r2
    have hq1 := HM9.out.row (cs' := #[.bool false, .slice p7 (ql (a / b + 1)) k7]) hb
    have hr1 := hm9.row (cs' := #[.bool false, .slice p7 (ql (a / b + 1)) k7]) hb
    have hret := hS.ret (.bool false) (.slice p7 (ql (a / b + 1)) k7)
    refine wpAnyH_ready (rs := [3]) (by kernel_rfl) (by simp) (AllReadyH.cons rfl (fun K hK => ?_) AllReadyH.nil)
    rw [if_pos (by rfl)]
    refine wpBig_store1 (.tmp 4) (.tmp 48) rfl (B + 2) rfl rfl hb ?_
    have hT := hret.1
    clear hS
    refine hK.out _ _ hT (fun hS => ?_)
    clear hK K
    obtain ⟨_, _, hb3⟩ := hS.o.r3
    have hq2 := hq1.row (cs' := #[.bool false, .slice p9 (ql (b - a % b)) k9]) hb3
    have hr2 := hr1.row (cs' := #[.bool false, .slice p9 (ql (b - a % b)) k9]) hb3
    have hret3 := hS.ret3 (.bool false) (.slice p9 (ql (b - a % b)) k9)
    have hret2 := hret.2.rowElse (C := B + 3) #[.bool false, .slice p9 (ql (b - a % b)) k9] (by omega)
    refine wpAnyH_ready (rs := [4]) (by kernel_rfl) (by simp) (AllReadyH.cons rfl (fun K hK => ?_) AllReadyH.nil)
    rw [if_pos (by rfl)]
    refine wpBig_store1 (.tmp 5) (.tmp 50) rfl (B + 3) rfl rfl hb3 ?_
    have hT := hret3.1
    clear hS
    refine hK.out _ _ hT (fun hS => ?_)
    clear hK K
    refine wpAnyH_done (by kernel_rfl) ?_ _
    go_wp2
    exact bodyPost_ret (retBB rfl _ _ (B + 2) (B + 3) rfl rfl hret2 hret3.2) rfl ⟨_, rfl, _, _, _, _, rfl, hq2, hr2, hB ▸ hret3.1.o.bl⟩
  · rw [if_pos (by rfl)]
    refine wp_callE 68 _ _ rfl _ (by kernel_rfl) (by kernel_rfl) (R := BigR we false 1) (rSmall_nat 1 (by decide) we) (fun v6 w6 hR6 => ?_)
    obtain ⟨p6, k6, rfl, hm6, hb6⟩ := hR6
    have HQ6 := Lib.hid (HQe.out.below hb6)
    have HR6 := Lib.hid (HRe.out.below hb6)
    have HO6b := Lib.hid (HOe.out.below hb6)
    refine hK.out _ _ ⟨_, _, HO6b.out⟩ (fun _ => ?_)
    clear hK K
    try simp only [A1, A2, A3, Act.put, A4, A5, A6]
    refine wpAnyH_ready (rs := [0]) (by kernel_rfl) (by simp) (AllReadyH.cons rfl (fun K hK => ?_) AllReadyH.nil)
    rw [if_pos (by rfl)]
    refine wpB_load1 (.tmp 8) rfl D rfl HO6b.out.q ?_
    refine hK.out _ _ ⟨_, _, HO6b.out⟩ (fun _ => ?_)
    clear hK K
    try simp only [A1, A2, A3, Act.put, A4, A5, A6]
    refine wpAnyH_ready (rs := [2]) (by kernel_rfl) (by simp) (AllReadyH.cons rfl (fun K hK => ?_) AllReadyH.nil)
    rw [if_pos (by rfl)]
    refine wp_callE 82 _ _ rfl _ (by kernel_rfl) (by kernel_rfl) (R := BigR w6 false (a / b + 1)) (HPL.out _ _ _ HQ6.out hm6) (fun v7 w7 hR7 => ?_)
    obtain ⟨p7, k7, rfl, hm7, hb7⟩ := hR7
    have HR7 := Lib.hid (HR6.out.below hb7)
    have HO7 := Lib.hid (HO6b.out.below hb7)
    refine hK.out _ _ ⟨_, _, HO7.out⟩ (fun _ => ?_)
    clear hK K
    try simp only [A1, A2, A3, Act.put, A4, A5, A6]
    have HMQ8 := Lib.hid (hm7.row (cs' := #[.bool false, .slice p7 (ql (a / b + 1)) k7]) HO7.out.q)
    have HMR8 := Lib.hid (HR7.out.row (cs' := #[.bool false, .slice p7 (ql (a / b + 1)) k7]) HO7.out.q)
    have HO8 := Lib.hid (HO7.out.setq (.bool false) (.slice p7 (ql (a / b + 1)) k7))
    refine wpAnyH_ready (rs := [3]) (by kernel_rfl) (by simp) (AllReadyH.cons rfl (fun K hK => ?_) AllReadyH.nil)
    rw [if_pos (by rfl)]
    refine wpBig_store1 (.tmp 8) (.tmp 44) rfl (D) rfl rfl HO7.out.q ?_
    refine hK.out _ _ ⟨_, _, HO8.out⟩ (fun _ => ?_)
    clear hK K
    refine wpAnyH_done (by kernel_rfl) ?_ _
    obtain ⟨W8, hW8⟩ : ∃ W8, w7.setRow D #[.bool false, .slice p7 (ql (a / b + 1)) k7] = W8 := ⟨_, rfl⟩
    rw [hW8] at HO8 HMQ8 HMR8 ⊢
    clear hW8 HQ6 HR6 HR7 hm6 hm7 HQe HRe HOe HO6b HO7
    have HMQ := HMQ8
    have HMR := HMR8
    go_wp2
    have hT0 : Oq w B D (.bool true) (.slice p (ql a) c) (.bool true) (.slice q (ql b) d) (.bool false) (.slice p7 (ql (a / b + 1)) k7) (.bool false) (.slice p5 (ql (b - a % b)) k5) W8.drew := HO8.out.drew
    refine wp_region_held_drew (S := Oq w B D (.bool true) (.slice p (ql a) c) (.bool true) (.slice q (ql b) d) (.bool false) (.slice p7 (ql (a / b + 1)) k7) (.bool false) (.slice p5 (ql (b - a % b)) k5)) (by kernel_rfl) hT0 (fun hS => ?_)
    obtain ⟨wd, hwd⟩ : ∃ wd, W8.drew = wd := ⟨_, rfl⟩
    have HMD := Lib.hid (HMQ.out.drew)
    have HRD := Lib.hid (HMR.out.drew)
    rw [hwd] at hS hT0 HMD HRD ⊢
    clear hwd hT0
    refine wpAnyH_take (i := 0) rfl (by kernel_rfl) (by kernel_rfl) (by kernel_rfl) (fun _ _ _ h => h) (yB_load rfl (.tmp 8) rfl D rfl (fun w' h => h.q)) hS ?_
    try simp only [A1, A2, A3, Act.put, A4, A5, A6]
    refine wpAnyH_take (i := 1) rfl (by kernel_rfl) (by kernel_rfl) (by kernel_rfl) (fun _ _ _ h => h) (yB_load rfl (.tmp 9) rfl (D + 1) rfl (fun w' h => h.r)) hS ?_
    try simp only [A1, A2, A3, Act.put, A4, A5, A6]
    refine wpAnyH_ready (rs := [2]) (by kernel_rfl) (by simp) (AllReadyH.cons rfl (fun K hK => ?_) AllReadyH.nil)
    rw [if_pos (by rfl)]
    refine wp_callE 133 _ _ rfl _ (by kernel_rfl) (by kernel_rfl) (R := BigR wd false (b - a % b)) (HTF.out _ _ HRD.out) (fun v9 w9 hR9 => ?_)
    obtain ⟨p9, k9, rfl, hm9, hb9⟩ := hR9
    have HM9 := Lib.hid (HMD.out.below hb9)
    have hT := hS.below hb9
    clear hS
    refine hK.out _ _ hT (fun hS => ?_)
    clear hK K hT
    try simp only [A1, A2, A3, Act.put, A4, A5, A6]
    obtain ⟨_, _, hb⟩ := hS.o.r2
    have hq1 := HM9.out.row (cs' := #[.bool false, .slice p7 (ql (a / b + 1)) k7]) hb
    have hr1 := hm9.row (cs' := #[.bool false, .slice p7 (ql (a / b + 1)) k7]) hb
    have hret := hS.ret (.bool false) (.slice p7 (ql (a / b + 1)) k7)
    refine wpAnyH_ready (rs := [3]) (by kernel_rfl) (by simp) (AllReadyH.cons rfl (fun K hK => ?_) AllReadyH.nil)
    rw [if_pos (by rfl)]
    refine wpBig_store1 (.tmp 4) (.tmp 48) rfl (B + 2) rfl rfl hb ?_
    have hT := hret.1
    clear hS
    refine hK.out _ _ hT (fun hS => ?_)
    clear hK K
    obtain ⟨_, _, hb3⟩ := hS.o.r3
    have hq2 := hq1.row (cs' := #[.bool false, .slice p9 (ql (b - a % b)) k9]) hb3
    have hr2 := hr1.row (cs' := #[.bool false, .slice p9 (ql (b - a % b)) k9]) hb3
    have hret3 := hS.ret3 (.bool false) (.slice p9 (ql (b - a % b)) k9)
    have hret2 := hret.2.rowElse (C := B + 3) #[.bool false, .slice p9 (ql (b - a % b)) k9] (by omega)
    refine wpAnyH_ready (rs := [4]) (by kernel_rfl) (by simp) (AllReadyH.cons rfl (fun K hK => ?_) AllReadyH.nil)
    rw [if_pos (by rfl)]
    refine wpBig_store1 (.tmp 5) (.tmp 50) rfl (B + 3) rfl rfl hb3 ?_
    have hT := hret3.1
    clear hS
    refine hK.out _ _ hT (fun hS => ?_)
    clear hK K
    refine wpAnyH_done (by kernel_rfl) ?_ _
    go_wp2
    exact bodyPost_ret (retBB rfl _ _ (B + 2) (B + 3) rfl rfl hret2 hret3.2) rfl ⟨_, rfl, _, _, _, _, rfl, hq2, hr2, hB ▸ hret3.1.o.bl⟩

set_option maxHeartbeats 8000000 in
theorem rOver_tf (a b : Nat) (va vb : Value) (w : World) (ha : Mag w va a) (hb : Mag w vb b) (la : ql a < 20000) (lb : ql b < 20000) (hb0 : 0 < b) (hr0 : a % b ≠ 0) :
    Calls Tryz.prog 89 #[.agg #[.bool true, va], .agg #[.bool false, vb]] w fun e w' => ∃ v', e = .returned v' ∧ OvR w true (a / b + 1) (b - a % b) v' w' := by
  obtain ⟨p, c, rfl⟩ := ha.len
  obtain ⟨q, d, rfl⟩ := hb.len
  obtain ⟨B, hB⟩ : ∃ B, w.heap.size = B := ⟨_, rfl⟩
  obtain ⟨W, hW⟩ : ∃ W, (((w.alloc (.cells #[.bool true, .slice p (ql a) c] 74)).alloc (.cells #[.bool false, .slice q (ql b) d] 74)).alloc (.cells #[.bool false, .slice none 0 0] 74)).alloc (.cells #[.bool false, .slice none 0 0] 74) = W := ⟨_, rfl⟩
  have HS := Lib.hid (Ow.start hB hW).1
  have HOV := Lib.hid (rOver_any a b _ _ W (HS.out.mag hB ha) (HS.out.mag hB hb) la lb hb0)
  have lq : ql (a / b) < 20000 := Nat.lt_of_le_of_lt (ql_mono (Nat.div_le_self a b)) la
  have lr : ql (a % b) < 20000 := Nat.lt_of_le_of_lt (ql_mono (Nat.le_of_lt (Nat.mod_lt a hb0))) lb
  have HBm := Lib.hid hb
  have HB0 := Lib.hid hb0
  have c0 := HS.out.b0.at 0
  have c1 := HS.out.b0.at 1
  have c2 := HS.out.b1.at 0
  have c3 := HS.out.b1.at 1
  clear ha hb hb0
  have hrb : b - a % b ≤ b := Nat.sub_le _ _
  have l1 : ql (b - a % b) < 20000 := Nat.lt_of_le_of_lt (ql_mono hrb) lb
  have HTF := Lib.hid (fun (v : Value) W (h : Mag W v (b - a % b)) => trimR false (b - a % b) v W h (by omega) false rfl)
  have HMN := Lib.hid (fun (v u : Value) W (h1 : Mag W v b) (h2 : Mag W u (a % b)) => minusR b (a % b) v u W h1 h2 (Nat.le_of_lt (Nat.mod_lt a HB0.out)) (by omega))
  have h11 : ql 1 = 1 := ql_small (by decide) (by decide)
  obtain ⟨z0, hz⟩ : ∃ z, (true && !decide (a / b = 0)) = z := ⟨_, rfl⟩
  have HPL := Lib.hid (fun (v u : Value) W (h1 : Mag W v (a / b)) (h2 : Mag W u 1) => rMinusB_any z0 false (a / b) 1 v u W h1 h2 (by omega) (by omega) true rfl true (a / b + 1) (by
    rw [← hz]
    by_cases h : a / b = 0
    · rw [h]; rfl
    · rw [decide_eq_false h]; rfl) true (by simp))
  have HTQ := Lib.hid (fun (v : Value) W (h : Mag W v (a / b)) => trimR (true) (a / b) v W h (by omega) z0 hz)
  have hl0 : decide (0 < ql (a % b)) = true := by
    have : ql (a % b) ≠ 0 := fun h => hr0 (ql_eq_zero.1 h)
    simp; omega
  try clear hz00
  clear hr0 hz hrb h11
  go_enter Tryz.func89, Tryz.ntmps89
  go_wp2_with (first | (go_at_call 144; refine HOV.out.mono ?_; rintro e w1 ⟨v1, v2, rfl, hm1, hm2, hb1⟩; obtain ⟨p1, k1, rfl⟩ := hm1.len; obtain ⟨p2, k2, rfl⟩ := hm2.len; have HO1 := Lib.hid (HS.out.below hb1 (Nat.le_refl _)); have HV1 := Lib.hid hm1; have HV2 := Lib.hid hm2; clear hm1 hm2 hb1 c0 c1 c2 c3; have c0 := HO1.out.b0.at 0; have c1 := HO1.out.b0.at 1; have c2 := HO1.out.b1.at 0; have c3 := HO1.out.b1.at 1) | (go_at_call 133; refine (HTQ.out _ _ HV1.out).mono ?_; rintro e w2 ⟨v3, rfl, p3, k3, rfl, hm3, hb3⟩; obtain ⟨D, hD⟩ : ∃ D, w2.heap.size = D := ⟨_, rfl⟩; have HO2 := Lib.hid (HO1.out.below hb3 (E := D) (by have h1 := hb3.size; obtain ⟨_, _, h2⟩ := HO1.out.r3; have := h2.lt; omega)); have HQ2 := Lib.hid hm3; have HR2 := Lib.hid (HV2.out.below hb3); obtain ⟨W3, hW3⟩ : ∃ W3, (w2.alloc (.cells #[.bool z0, .slice p3 (ql (a / b)) k3] 74)).alloc (.cells #[.bool false, .slice p2 (ql (a % b)) k2] 74) = W3 := ⟨_, rfl⟩; have HO3 := Lib.hid (Oq.start HO2.out hD hW3); have hb4 : Below w2.heap.size w2 W3 := (by rw [← hW3]; exact ((Below.refl _ _).alloc (Nat.le_refl _) _).alloc (by simp) _); have HMQ := Lib.hid (HQ2.out.below hb4); have HMR := Lib.hid (HR2.out.below hb4); clear hm3 hb3 hb4 c0 c1 c2 c3; have c0 := HO3.out.o.b0.at 0; have c1 := HO3.out.o.b0.at 1; have c2 := HO3.out.o.b1.at 0; have c3 := HO3.out.o.b1.at 1) | (go_at_call 139; refine (HMN.out _ _ _ (HO3.out.o.mag hB HBm.out) HMR.out).mono ?_; rintro e w5 ⟨v5, rfl, p5, k5, rfl, hm5, hb5⟩; have HO5 := Lib.hid (HO3.out.below hb5); have HMQ5 := Lib.hid (HMQ.out.below hb5); have HMR5 := Lib.hid hm5; clear hm5 hb5 c0 c1 c2 c3; have c0 := HO5.out.o.b0.at 0; have c1 := HO5.out.o.b0.at 1; have c2 := HO5.out.o.b1.at 0; have c3 := HO5.out.o.b1.at 1; have e0 := HO5.out.r.at 0; have e1 := HO5.out.r.at 1; have f0 := HO5.out.r.thawed 0; have f1 := HO5.out.r.thawed 1; have HO6 := Lib.hid (HO5.out.setr (.bool false) (.slice p5 (ql (b - a % b)) k5)); have HMQ6 := Lib.hid (HMQ5.out.two (x := .bool false) (y := .slice p5 (ql (b - a % b)) k5) HO5.out.r); have HMR6 := Lib.hid (HMR5.out.two (x := .bool false) (y := .slice p5 (ql (b - a % b)) k5) HO5.out.r); obtain ⟨W6, hW6⟩ : ∃ W6, ((w5.setCell ⟨D + 1, 0, none⟩ (.bool false)).setCell ⟨D + 1, 1, none⟩ (.slice p5 (ql (b - a % b)) k5)) = W6 := ⟨_, rfl⟩; rw [hW6] at HO6 HMQ6 HMR6; have g2 := HO6.out.o.b1.at 0))
  try clear hW3
  clear hW6
  have hT0 : (fun w' => ∃ x y, Oq w B D (.bool true) (.slice p (ql a) c) (.bool false) (.slice q (ql b) d) x y (.bool false) (.slice p5 (ql (b - a % b)) k5) w') W6.drew := ⟨_, _, HO6.out.drew⟩
  refine wp_region_held_drew (S := fun w' => ∃ x y, Oq w B D (.bool true) (.slice p (ql a) c) (.bool false) (.slice q (ql b) d) x y (.bool false) (.slice p5 (ql (b - a % b)) k5) w') (by kernel_rfl) hT0 (fun hS => ?_)
  obtain ⟨we, hwe⟩ : ∃ we, W6.drew = we := ⟨_, rfl⟩
  have HQe := Lib.hid HMQ6.out.drew
  have HRe := Lib.hid HMR6.out.drew
  have HOe := Lib.hid HO6.out.drew
  rw [hwe] at hS hT0 HQe HRe HOe ⊢
  clear hwe hT0 hS
  refine wpAnyH_ready (rs := [0, 1]) (by kernel_rfl) (by simp) (AllReadyH.cons rfl (fun K hK => ?_) (AllReadyH.cons rfl (fun K hK => ?_) AllReadyH.nil))
  · rw [if_pos (by rfl)]
    refine wpB_load1 (.tmp 8) rfl D rfl HOe.out.q ?_
    refine hK.out _ _ ⟨_, _, HOe.out⟩ (fun _ => ?_)
    clear hK K
    try simp only [A1, A2, A3, Act.put, A4, A5, A6]
    refine wpAnyH_ready (rs := [1]) (by kernel_rfl) (by simp) (AllReadyH.cons rfl (fun K hK => ?_) AllReadyH.nil)
    rw [if_pos (by rfl)]
    refine wp_callE 68 _ _ rfl _ (by kernel_rfl) (by kernel_rfl) (R := BigR we false 1) (rSmall_nat 1 (by decide) we) (fun v6 w6 hR6 => ?_)
    obtain ⟨p6, k6, rfl, hm6, hb6⟩ := hR6
    have HQ6 := Lib.hid (HQe.out.below hb6)
    have HR6 := Lib.hid (HRe.out.below hb6)
    have HO6b := Lib.hid (HOe.out.below hb6)
    refine hK.out _ _ ⟨_, _, HO6b.out⟩ (fun _ => ?_)
    clear hK K
    try simp only [A1, A2, A3, Act.put, A4, A5, A6]
    refine wpAnyH_ready (rs := [2]) (by kernel_rfl) (by simp) (AllReadyH.cons rfl (fun K hK => ?_) AllReadyH.nil)
    rw [if_pos (by rfl)]
    refine wp_callE 83 _ _ rfl _ (by kernel_rfl) (by kernel_rfl) (R := BigR w6 true (a / b + 1)) (HPL.out _ _ _ HQ6.out hm6) (fun v7 w7 hR7 => ?_)
    obtain ⟨p7, k7, rfl, hm7, hb7⟩ := hR7
    have HR7 := Lib.hid (HR6.out.below hb7)
    have HO7 := Lib.hid (HO6b.out.below hb7)
    refine hK.out _ _ ⟨_, _, HO7.out⟩ (fun _ => ?_)
    clear hK K
    try simp only [A1, A2, A3, Act.put, A4, A5, A6]
    have HMQ8 := Lib.hid (hm7.row (cs' := #[.bool true, .slice p7 (ql (a / b + 1)) k7]) HO7.out.q)
    have HMR8 := Lib.hid (HR7.out.row (cs' := #[.bool true, .slice p7 (ql (a / b + 1)) k7]) HO7.out.q)
    have HO8 := Lib.hid (HO7.out.setq (.bool true) (.slice p7 (ql (a / b + 1)) k7))
    refine wpAnyH_ready (rs := [3]) (by kernel_rfl) (by simp) (AllReadyH.cons rfl (fun K hK => ?_) AllReadyH.nil)
    rw [if_pos (by rfl)]
    refine wpBig_store1 (.tmp 8) (.tmp 47) rfl (D) rfl rfl HO7.out.q ?_
    refine hK.out _ _ ⟨_, _, HO8.out⟩ (fun _ => ?_)
    clear hK K
    refine wpAnyH_done (by kernel_rfl) ?_ _
    obtain ⟨W8, hW8⟩ : ∃ W8, w7.setRow D #[.bool true, .slice p7 (ql (a / b + 1)) k7] = W8 := ⟨_, rfl⟩
    rw [hW8] at HO8 HMQ8 HMR8 ⊢
    clear hW8 HQ6 HR6 HR7 hm6 hm7 HQe HRe HOe HO6b HO7
    have HMQ := HMQ8
    have HMR := HMR8
    go_wp2
    have hT0 : Oq w B D (.bool true) (.slice p (ql a) c) (.bool false) (.slice q (ql b) d) (.bool true) (.slice p7 (ql (a / b + 1)) k7) (.bool false) (.slice p5 (ql (b - a % b)) k5) W8.drew := HO8.out.drew
    refine wp_region_held_drew (S := Oq w B D (.bool true) (.slice p (ql a) c) (.bool false) (.slice q (ql b) d) (.bool true) (.slice p7 (ql (a / b + 1)) k7) (.bool false) (.slice p5 (ql (b - a % b)) k5)) (by kernel_rfl) hT0 (fun hS => ?_)
    obtain ⟨wd, hwd⟩ : ∃ wd, W8.drew = wd := ⟨_, rfl⟩
    have HMD := Lib.hid (HMQ.out.drew)
    have HRD := Lib.hid (HMR.out.drew)
    rw [hwd] at hS hT0 HMD HRD ⊢
    clear hwd hT0
    refine wpAnyH_take (i := 0) rfl (by kernel_rfl) (by kernel_rfl) (by kernel_rfl) (fun _ _ _ h => h) (yB_load rfl (.tmp 8) rfl D rfl (fun w' h => h.q)) hS ?_
    try simp only [A1, A2, A3, Act.put, A4, A5, A6]
    refine wpAnyH_take (i := 1) rfl (by kernel_rfl) (by kernel_rfl) (by kernel_rfl) (fun _ _ _ h => h) (yB_load rfl (.tmp 9) rfl (D + 1) rfl (fun w' h => h.r)) hS ?_
    try simp only [A1, A2, A3, Act.put, A4, A5, A6]
    refine wpAnyH_ready (rs := [2]) (by kernel_rfl) (by simp) (AllReadyH.cons rfl (fun K hK => ?_) AllReadyH.nil)
    rw [if_pos (by rfl)]
    refine wp_callE 133 _ _ rfl _ (by kernel_rfl) (by kernel_rfl) (R := BigR wd false (b - a % b)) (HTF.out _ _ HRD.out) (fun v9 w9 hR9 => ?_)
    obtain ⟨p9, k9, rfl, hm9, hb9⟩ := hR9
    have HM9 := Lib.hid (HMD.out.below hb9)
    have hT := hS.below hb9
    clear hS
    refine hK.out _ _ hT (fun hS => ?_)
    clear hK K hT
    try simp only [A1, A2, A3, Act.put, A4, A5, A6]
    obtain ⟨_, _, hb⟩ := hS.o.r2
    have hq1 := HM9.out.row (cs' := #[.bool true, .slice p7 (ql (a / b + 1)) k7]) hb
    have hr1 := hm9.row (cs' := #[.bool true, .slice p7 (ql (a / b + 1)) k7]) hb
    have hret := hS.ret (.bool true) (.slice p7 (ql (a / b + 1)) k7)
    refine wpAnyH_ready (rs := [3]) (by kernel_rfl) (by simp) (AllReadyH.cons rfl (fun K hK => ?_) AllReadyH.nil)
    rw [if_pos (by rfl)]
    refine wpBig_store1 (.tmp 4) (.tmp 48) rfl (B + 2) rfl rfl hb ?_
    have hT := hret.1
    clear hS
    refine hK.out _ _ hT (fun hS => ?_)
    clear hK K
    obtain ⟨_, _, hb3⟩ := hS.o.r3
    have hq2 := hq1.row (cs' := #[.bool false, .slice p9 (ql (b - a % b)) k9]) hb3
    have hr2 := hr1.row (cs' := #[.bool false, .slice p9 (ql (b - a % b)) k9]) hb3
    have hret3 := hS.ret3 (.bool false) (.slice p9 (ql (b - a % b)) k9)
    have hret2 := hret.2.rowElse (C := B + 3) #[.bool false, .slice p9 (ql (b - a % b)) k9] (by omega)
    refine wpAnyH_ready (rs := [4]) (by kernel_rfl) (by simp) (AllReadyH.cons rfl (fun K hK => ?_) AllReadyH.nil)
    rw [if_pos (by rfl)]
    refine wpBig_store1 (.tmp 5) (.tmp 50) rfl (B + 3) rfl rfl hb3 ?_
    have hT := hret3.1
    clear hS
    refine hK.out _ _ hT (fun hS => ?_)
    clear hK K
    refine wpAnyH_done (by kernel_rfl) ?_ _
    go_wp2
    exact bodyPost_ret (retBB rfl _ _ (B + 2) (B + 3) rfl rfl hret2 hret3.2) rfl ⟨_, rfl, _, _, _, _, rfl, hq2, hr2, hB ▸ hret3.1.o.bl⟩
  · rw [if_pos (by rfl)]
    refine wp_callE 68 _ _ rfl _ (by kernel_rfl) (by kernel_rfl) (R := BigR we false 1) (rSmall_nat 1 (by decide) we) (fun v6 w6 hR6 => ?_)
    obtain ⟨p6, k6, rfl, hm6, hb6⟩ := hR6
    have HQ6 := Lib.hid (HQe.out.below hb6)
    have HR6 := Lib.hid (HRe.out.below hb6)
    have HO6b := Lib.hid (HOe.out.below hb6)
    refine hK.out _ _ ⟨_, _, HO6b.out⟩ (fun _ => ?_)
    clear hK K
    try simp only [A1, A2, A3, Act.put, A4, A5, A6]
    refine wpAnyH_ready (rs := [0]) (by kernel_rfl) (by simp) (AllReadyH.cons rfl (fun K hK => ?_) AllReadyH.nil)
    rw [if_pos (by rfl)]
    refine wpB_load1 (.tmp 8) rfl D rfl HO6b.out.q ?_
    refine hK.out _ _ ⟨_, _, HO6b.out⟩ (fun _ => ?_)
    clear hK K
    try simp only [A1, A2, A3, Act.put, A4, A5, A6]
    refine wpAnyH_ready (rs := [2]) (by kernel_rfl) (by simp) (AllReadyH.cons rfl (fun K hK => ?_) AllReadyH.nil)
    rw [if_pos (by rfl)]
    refine wp_callE 83 _ _ rfl _ (by kernel_rfl) (by kernel_rfl) (R := BigR w6 true (a / b + 1)) (HPL.out _ _ _ HQ6.out hm6) (fun v7 w7 hR7 => ?_)
    obtain ⟨p7, k7, rfl, hm7, hb7⟩ := hR7
    have HR7 := Lib.hid (HR6.out.below hb7)
    have HO7 := Lib.hid (HO6b.out.below hb7)
    refine hK.out _ _ ⟨_, _, HO7.out⟩ (fun _ => ?_)
    clear hK K
    try simp only [A1, A2, A3, Act.put, A4, A5, A6]
    have HMQ8 := Lib.hid (hm7.row (cs' := #[.bool true, .slice p7 (ql (a / b + 1)) k7]) HO7.out.q)
    have HMR8 := Lib.hid (HR7.out.row (cs' := #[.bool true, .slice p7 (ql (a / b + 1)) k7]) HO7.out.q)
    have HO8 := Lib.hid (HO7.out.setq (.bool true) (.slice p7 (ql (a / b + 1)) k7))
    refine wpAnyH_ready (rs := [3]) (by kernel_rfl) (by simp) (AllReadyH.cons rfl (fun K hK => ?_) AllReadyH.nil)
    rw [if_pos (by rfl)]
    refine wpBig_store1 (.tmp 8) (.tmp 47) rfl (D) rfl rfl HO7.out.q ?_
    refine hK.out _ _ ⟨_, _, HO8.out⟩ (fun _ => ?_)
    clear hK K
    refine wpAnyH_done (by kernel_rfl) ?_ _
    obtain ⟨W8, hW8⟩ : ∃ W8, w7.setRow D #[.bool true, .slice p7 (ql (a / b + 1)) k7] = W8 := ⟨_, rfl⟩
    rw [hW8] at HO8 HMQ8 HMR8 ⊢
    clear hW8 HQ6 HR6 HR7 hm6 hm7 HQe HRe HOe HO6b HO7
    have HMQ := HMQ8
    have HMR := HMR8
    go_wp2
    have hT0 : Oq w B D (.bool true) (.slice p (ql a) c) (.bool false) (.slice q (ql b) d) (.bool true) (.slice p7 (ql (a / b + 1)) k7) (.bool false) (.slice p5 (ql (b - a % b)) k5) W8.drew := HO8.out.drew
    refine wp_region_held_drew (S := Oq w B D (.bool true) (.slice p (ql a) c) (.bool false) (.slice q (ql b) d) (.bool true) (.slice p7 (ql (a / b + 1)) k7) (.bool false) (.slice p5 (ql (b - a % b)) k5)) (by kernel_rfl) hT0 (fun hS => ?_)
    obtain ⟨wd, hwd⟩ : ∃ wd, W8.drew = wd := ⟨_, rfl⟩
    have HMD := Lib.hid (HMQ.out.drew)
    have HRD := Lib.hid (HMR.out.drew)
    rw [hwd] at hS hT0 HMD HRD ⊢
    clear hwd hT0
    refine wpAnyH_take (i := 0) rfl (by kernel_rfl) (by kernel_rfl) (by kernel_rfl) (fun _ _ _ h => h) (yB_load rfl (.tmp 8) rfl D rfl (fun w' h => h.q)) hS ?_
    try simp only [A1, A2, A3, Act.put, A4, A5, A6]
    refine wpAnyH_take (i := 1) rfl (by kernel_rfl) (by kernel_rfl) (by kernel_rfl) (fun _ _ _ h => h) (yB_load rfl (.tmp 9) rfl (D + 1) rfl (fun w' h => h.r)) hS ?_
    try simp only [A1, A2, A3, Act.put, A4, A5, A6]
    refine wpAnyH_ready (rs := [2]) (by kernel_rfl) (by simp) (AllReadyH.cons rfl (fun K hK => ?_) AllReadyH.nil)
    rw [if_pos (by rfl)]
    refine wp_callE 133 _ _ rfl _ (by kernel_rfl) (by kernel_rfl) (R := BigR wd false (b - a % b)) (HTF.out _ _ HRD.out) (fun v9 w9 hR9 => ?_)
    obtain ⟨p9, k9, rfl, hm9, hb9⟩ := hR9
    have HM9 := Lib.hid (HMD.out.below hb9)
    have hT := hS.below hb9
    clear hS
    refine hK.out _ _ hT (fun hS => ?_)
    clear hK K hT
    try simp only [A1, A2, A3, Act.put, A4, A5, A6]
    obtain ⟨_, _, hb⟩ := hS.o.r2
    have hq1 := HM9.out.row (cs' := #[.bool true, .slice p7 (ql (a / b + 1)) k7]) hb
    have hr1 := hm9.row (cs' := #[.bool true, .slice p7 (ql (a / b + 1)) k7]) hb
    have hret := hS.ret (.bool true) (.slice p7 (ql (a / b + 1)) k7)
    refine wpAnyH_ready (rs := [3]) (by kernel_rfl) (by simp) (AllReadyH.cons rfl (fun K hK => ?_) AllReadyH.nil)
    rw [if_pos (by rfl)]
    refine wpBig_store1 (.tmp 4) (.tmp 48) rfl (B + 2) rfl rfl hb ?_
    have hT := hret.1
    clear hS
    refine hK.out _ _ hT (fun hS => ?_)
    clear hK K
    obtain ⟨_, _, hb3⟩ := hS.o.r3
    have hq2 := hq1.row (cs' := #[.bool false, .slice p9 (ql (b - a % b)) k9]) hb3
    have hr2 := hr1.row (cs' := #[.bool false, .slice p9 (ql (b - a % b)) k9]) hb3
    have hret3 := hS.ret3 (.bool false) (.slice p9 (ql (b - a % b)) k9)
    have hret2 := hret.2.rowElse (C := B + 3) #[.bool false, .slice p9 (ql (b - a % b)) k9] (by omega)
    refine wpAnyH_ready (rs := [4]) (by kernel_rfl) (by simp) (AllReadyH.cons rfl (fun K hK => ?_) AllReadyH.nil)
    rw [if_pos (by rfl)]
    refine wpBig_store1 (.tmp 5) (.tmp 50) rfl (B + 3) rfl rfl hb3 ?_
    have hT := hret3.1
    clear hS
    refine hK.out _ _ hT (fun hS => ?_)
    clear hK K
    refine wpAnyH_done (by kernel_rfl) ?_ _
    go_wp2
    exact bodyPost_ret (retBB rfl _ _ (B + 2) (B + 3) rfl rfl hret2 hret3.2) rfl ⟨_, rfl, _, _, _, _, rfl, hq2, hr2, hB ▸ hret3.1.o.bl⟩
end Go.Proofs.YtjemolaobhlapaaGreatDoor

namespace Go.Proofs.YtjemolaobhlapaaGreatDoor
open Go.RowKit
set_option maxRecDepth 100000

theorem rOverB_any (s t : Bool) (a b : Nat) (va vb : Value) (w : World) (ha : Mag w va a) (hb : Mag w vb b) (la : ql a < 20000) (lb : ql b < 20000) (hb0 : 0 < b) (q r : Nat) (hq : (if (s && !decide (a % b = 0)) = true then (a / b + 1, b - a % b) else (a / b, a % b)) = (q, r)) (z : Bool) (hz : ((s != t) && !decide (q = 0)) = z) :
    Calls Tryz.prog 89 #[.agg #[.bool s, va], .agg #[.bool t, vb]] w fun e w' => ∃ v', e = .returned v' ∧ OvR w z q r v' w' := by
  cases s
  · simp only [Bool.false_and, Bool.false_eq_true, if_false, Prod.mk.injEq] at hq
    obtain ⟨rfl, rfl⟩ := hq
    exact rOver_f t a b va vb w ha hb la lb hb0 z (by rw [← hz]; simp)
  · by_cases h0 : a % b = 0
    · rw [decide_eq_true h0] at hq
      simp only [Bool.not_true, Bool.and_false, Bool.false_eq_true, if_false, Prod.mk.injEq] at hq
      obtain ⟨rfl, rfl⟩ := hq
      exact rOver_t0 t a b va vb w ha hb la lb hb0 h0 z (by rw [← hz]; simp)
    · rw [decide_eq_false h0] at hq
      simp only [Bool.not_false, Bool.and_true, if_true, Prod.mk.injEq] at hq
      obtain ⟨rfl, rfl⟩ := hq
      cases t
      · have : z = true := by rw [← hz]; simp
        subst this
        exact rOver_tf a b va vb w ha hb la lb hb0 h0
      · have : z = false := by rw [← hz]; simp
        subst this
        exact rOver_tt a b va vb w ha hb la lb hb0 h0

/-- The two numbers of a step of Euclid's algorithm. -/
structure Cg (w0 : World) (B : Nat) (p : Option Addr) (x c : Nat) (q : Option Addr) (y d : Nat) (w : World) : Prop where
  bg : Bg w0 B (.bool false) (.slice p (ql x) c) (.bool false) (.slice q (ql y) d) w
  mx : Mag w (.slice p (ql x) c) x
  my : Mag w (.slice q (ql y) d) y
theorem Bg.neg {w0 : World} {B : Nat} {a b c d : Value} {w : World} (h : Bg w0 B a b c d w) (x y : Value) : Bg w0 B x b y d ((w.setCell ⟨B, 0, none⟩ x).setCell ⟨B + 1, 0, none⟩ y) := by
  obtain ⟨h0, h1, ⟨u, v, h2⟩, h3⟩ := h
  exact ⟨(h0.set 0 _).other _ _ (by simp), (h1.other _ _ (by simp)).set 0 _, ⟨u, v, (h2.other _ _ (by simp)).other _ _ (by simp)⟩, (h3.setCell (by simp) _).setCell (by simp) _⟩
theorem Bg.rows {w0 : World} {B : Nat} {a b c d : Value} {w : World} (h : Bg w0 B a b c d w) (x y u v : Value) : Bg w0 B x y u v ((w.setRow B #[x, y]).setRow (B + 1) #[u, v]) := by
  obtain ⟨h0, h1, ⟨m, n, h2⟩, h3⟩ := h
  exact ⟨(h0.row2 _).rowElse _ (by omega), (h1.rowElse _ (by omega)).row2 _, ⟨m, n, (h2.rowElse _ (by omega)).rowElse _ (by omega)⟩, below_setRow2 (below_setRow2 h3 _ (by omega)) _ (by omega)⟩

set_option maxHeartbeats 4000000 in
theorem rCommon_any (s t : Bool) (a b : Nat) (va vb : Value) (w : World) (ha : Mag w va a) (hb : Mag w vb b) (la : ql a < 20000) (lb : ql b < 20000) (g0 : Nat) (hg : Nat.gcd a b = g0) :
    Calls Tryz.prog 93 #[.agg #[.bool s, va], .agg #[.bool t, vb]] w fun e w' => ∃ v', e = .returned v' ∧ BigR w false g0 v' w' := by
  obtain ⟨p, c, rfl⟩ := ha.len
  obtain ⟨q, d, rfl⟩ := hb.len
  obtain ⟨B, hB⟩ : ∃ B, w.heap.size = B := ⟨_, rfl⟩
  obtain ⟨W, hW⟩ : ∃ W, ((w.alloc (.cells #[.bool s, .slice p (ql a) c] 74)).alloc (.cells #[.bool t, .slice q (ql b) d] 74)).alloc (.cells #[.bool false, .slice none 0 0] 74) = W := ⟨_, rfl⟩
  have HS := Lib.hid (Bg.start hB hW)
  have c0 := HS.out.b0.at 0
  have c2 := HS.out.b1.at 0
  have z0 := HS.out.b0.thawed 0
  have z2 := HS.out.b1.thawed 0
  have HW := Lib.hid (show Cg w B p a c q b d ((W.setCell ⟨B, 0, none⟩ (.bool false)).setCell ⟨B + 1, 0, none⟩ (.bool false)) from ⟨HS.out.neg _ _, ((HS.out.mag hB ha).cell HS.out.b0).cell (HS.out.b1.other _ _ (by simp)), ((HS.out.mag hB hb).cell HS.out.b0).cell (HS.out.b1.other _ _ (by simp))⟩)
  have HG0 := Lib.hid hg
  have HL := Lib.hid (And.intro la lb)
  clear ha hb hg
  go_enter Tryz.func93, Tryz.ntmps93
  go_wp2
  clear c0 c2 z0 z2
  go_loopg [] b (fun g wr => ∃ x y : Nat, y ≤ g ∧ Hid (ql x < 20000 ∧ ql y < 20000) ∧ Hid (Nat.gcd x y = g0) ∧ Hid (∃ p c q d, Cg w B p x c q y d wr))
  case atStart => exact ⟨a, b, Nat.le_refl _, HL, HG0, p, c, q, d, HW.out⟩
  case round =>
    clear HW HG0 HL
    obtain ⟨x, y, hyg, HL, HG0, HW⟩ := hrel
    obtain ⟨p, c, q, d, HW⟩ := HW.out
    have HW := Lib.hid HW
    have c0 := HW.out.bg.b0.at 0
    have c1 := HW.out.bg.b0.at 1
    have c2 := HW.out.bg.b1.at 0
    have c3 := HW.out.bg.b1.at 1
    by_cases hy0 : y = 0
    · subst hy0
      have HE := Lib.hid (show x = g0 by have := HG0.out; rw [Nat.gcd_zero_right] at this; exact this)
      rw [ql_zero] at c3
      obtain ⟨_, _, hd⟩ := HW.out.bg.b2
      have HD := Lib.hid hd
      have d0 := HD.out.at 0
      have d1 := HD.out.at 1
      have e0 := HD.out.thawed 0
      have e1 := HD.out.thawed 1
      clear hd
      go_wp2
      have hbl := (HW.out.bg.bl.setCell (p := ⟨B + 2, 0, none⟩) (by simp) (.bool false)).setCell (p := ⟨B + 2, 1, none⟩) (by simp) (.slice p (ql x) c)
      exact bodyPost_ret (retBig rfl _ _ (B + 2) rfl HD.out.two) rfl ⟨_, rfl, p, c, by rw [HE.out], by rw [← HE.out]; exact HW.out.mx.two HD.out, hB ▸ hbl⟩
    · have HOV := Lib.hid (rOverB_any false false x y _ _ wr HW.out.mx HW.out.my HL.out.1 HL.out.2 (by omega) (x / y) (x % y) rfl false rfl)
      have HN := Lib.hid (show Nat.gcd y (x % y) = g0 by rw [← HG0.out, Nat.gcd_comm x y, Nat.gcd_rec y x, Nat.gcd_comm])
      have HLT := Lib.hid (show x % y < y from Nat.mod_lt _ (by omega))
      have HLR := Lib.hid (show ql (x % y) < 20000 from Nat.lt_of_le_of_lt (ql_mono (Nat.le_of_lt HLT.out)) HL.out.2)
      have hy1 : decide (0 < ql y) = true := by have : ql y ≠ 0 := fun h => hy0 (ql_eq_zero.1 h); simp; omega
      obtain ⟨r, hr⟩ : ∃ r, x % y = r := ⟨_, rfl⟩
      rw [hr] at HOV HN HLT HLR
      clear hr hy0
      go_wp2_with (go_at_call 89; refine HOV.out.mono ?_; rintro e w1 ⟨v1, rfl, p1, k1, p2, k2, rfl, hm1, hm2, hb1⟩; obtain ⟨C, hC⟩ : ∃ C, w1.heap.size = C := ⟨_, rfl⟩; obtain ⟨U, hU⟩ : ∃ U, (w1.alloc (.cells #[.bool false, .slice p1 (ql (x / y)) k1] 74)).alloc (.cells #[.bool false, .slice p2 (ql r) k2] 74) = U := ⟨_, rfl⟩; have HB2 := Lib.hid (Bg2.start hC hU); have hbU : Below w1.heap.size w1 U := (by rw [hC]; exact HB2.out.bl); have HU := Lib.hid (show Cg w B p x c q y d U ∧ Mag U (.slice p2 (ql r) k2) r ∧ B + 2 < C from ⟨⟨(HW.out.bg.below hb1).below hbU, (HW.out.mx.below hb1).below hbU, (HW.out.my.below hb1).below hbU⟩, hm2.below hbU, (by obtain ⟨_, _, h2⟩ := (HW.out.bg.below hb1).b2; have := h2.lt; omega)⟩); clear hm1 hm2 hb1 hbU)
      have hS0 : Cg w B p x c q y d U.drew ∧ BlockIs U.drew (C + 1) 74 #[.bool false, .slice p2 (ql r) k2] ∧ Mag U.drew (.slice p2 (ql r) k2) r := ⟨⟨HU.out.1.bg.drew, HU.out.1.mx.drew, HU.out.1.my.drew⟩, HB2.out.b1.drew, HU.out.2.1.drew⟩
      have hBC := HU.out.2.2
      refine AnyTill.region (T := Till 2 3 (fun w' => BlockIs w' (B + 1) 74 #[.bool false, .slice q (ql y) d]) (fun w' => BlockIs w' (C + 1) 74 #[.bool false, .slice p2 (ql r) k2])) (by kernel_rfl) ?_
      refine AnyTill.take1 (i := 0) rfl rfl (by kernel_rfl) (by omega) (by omega) (by kernel_rfl) (by kernel_rfl) (by kernel_rfl) (by kernel_rfl) (fun _ _ _ h => h) (yB_load rfl (.tmp 3) rfl (B + 1) rfl (fun w' h => h)) hS0.1.bg.b1 hS0.2.1 ?_
      try simp only [A1, A2, A3, Act.put, A4, A5, A6]
      refine AnyTill.take2 (i := 1) rfl rfl (by kernel_rfl) (by omega) (by omega) (by kernel_rfl) (by kernel_rfl) (by kernel_rfl) (by kernel_rfl) (fun _ _ _ h => h) (yB_load rfl (.tmp 6) rfl (C + 1) rfl (fun w' h => h)) hS0.1.bg.b1 hS0.2.1 ?_
      try simp only [A1, A2, A3, Act.put, A4, A5, A6]
      refine AnyTill.ready (i := 2) (by kernel_rfl) rfl (fun K hK => ?_)
      rw [if_pos (by rfl)]
      refine wpBig_store1 (.tmp 2) (.tmp 19) rfl B rfl rfl hS0.1.bg.b0 ?_
      have hS1 : BlockIs (U.drew.setRow B #[.bool false, .slice q (ql y) d]) (C + 1) 74 #[.bool false, .slice p2 (ql r) k2] := hS0.2.1.rowElse _ (by omega)
      refine hK.out _ _ ⟨fun h => absurd h (by decide), fun _ => hS1⟩ ?_
      clear hK K
      refine AnyTill.ready (i := 3) (by kernel_rfl) rfl (fun K hK => ?_)
      rw [if_pos (by rfl)]
      refine wpBig_store1 (.tmp 3) (.tmp 20) rfl (B + 1) rfl rfl (hS0.1.bg.b1.rowElse _ (by omega)) ?_
      have hS2 : Cg w B q y d p2 r k2 ((U.drew.setRow B #[.bool false, .slice q (ql y) d]).setRow (B + 1) #[.bool false, .slice p2 (ql r) k2]) := ⟨hS0.1.bg.rows _ _ _ _, (hS0.1.my.row hS0.1.bg.b0).row (hS0.1.bg.b1.rowElse _ (by omega)), (hS0.2.2.row hS0.1.bg.b0).row (hS0.1.bg.b1.rowElse _ (by omega))⟩
      refine hK.out _ _ ⟨fun h => absurd h (by decide), fun h => absurd h (by decide)⟩ ?_
      clear hK K
      refine AnyTill.done (by kernel_rfl) ?_ _
      have HS2' := Lib.hid hS2
      clear hS0 hS1 hS2
      go_wp2
      obtain ⟨g, rfl⟩ : ∃ g, gk = g + 1 := ⟨gk - 1, by have := HLT.out; omega⟩
      go_roundg g
      case rel => exact ⟨y, r, by have := HLT.out; omega, ⟨HL.out.2, HLR.out⟩, HN, _, _, _, _, HS2'.out⟩
      case measure => omega
end Go.Proofs.YtjemolaobhlapaaGreatDoor
