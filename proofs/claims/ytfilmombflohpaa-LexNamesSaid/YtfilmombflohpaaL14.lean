/- Tokens: the tokens of a text of ASCII. -/
import Derived.Test.YtfilmombflohpaaL12B
import Derived.Maps.AppendAt
import Derived.RangeFuncBox
set_option linter.unusedSimpArgs false
set_option linter.unusedVariables false
namespace Go.Proofs.Ytfilmombflohpaa
open Go.RowKit Go.ChangeMaps Go.WideMaps Go.Shelf
set_option maxRecDepth 100000

attribute [local go_sem] Oper.semAt_some

theorem boxed_below {W W' : World} {n B : Nat} {t : TypeId} {v : Value} (h : Boxed W B t v) (hb : Below n W W') (hB : B < n) : Boxed W' B t v := (hb.block B hB).trans h

theorem seqK (hS : Spans1) (s : ByteArray) (hs : s.size ≤ 65536) (Bt Bs kb sb n₁ n₀ : Nat) (Fb : List Nat) (w0 : World) (hE : Env s Bt Bs kb sb w0) (h01 : 0 < n₁) (hkb : kb < n₀) (hsb : sb < n₀) (hBt : Bt ∉ Fb) (hBs : Bs ∉ Fb)
    (hFb : ∀ k ∈ Fb, k < w0.heap.size) (h1W : n₁ ≤ w0.heap.size) (n : Nat) (hn : 1 ≤ n) :
    SeqStopsK Fence.wide n Try.prog 55 #[.pointer (some ⟨Bt, 0, none⟩), .pointer (some ⟨Bs, 0, none⟩)] encS (Kept n₁ n₀ Fb) (fun ys => ys = spansT s s.data.toList 0) (fun pre => pre <+: spansT s s.data.toList 0) (spansT s s.data.toList 0).length w0 :=
  fun l J Jx W hW hJ _ hY h0 => hS n hn l s Bt Bs kb sb n₁ n₀ Fb J Jx W hs (hE.below hW) h01 hkb hsb hBt hBs (fun k hk => Nat.lt_of_lt_of_le (hFb k hk) hW.size) (Nat.le_trans h1W hW.size) hJ hY h0

theorem cell_three_new (w : World) (x y z : Value) (t : TypeId) : ∀ j u, [x, y, z][j]? = some u → (w.alloc (.cells #[x, y, z] t)).cell? ((⟨w.heap.size, 0, none⟩ : Addr).add j) = some u := by
  intro j u hj
  match j, hj with
  | 0, hj => simp at hj; subst hj; simp [Addr.add]
  | 1, hj => simp at hj; subst hj; simp [Addr.add]
  | 2, hj => simp at hj; subst hj; simp [Addr.add]

theorem kept_append {n₁ n₀ : Nat} {F : List Nat} {W w2 : World} {N : Nat} {B : Nat} {v u : Value} {n : Nat} {xs : List Value} {tmp : Obj} (hr : W.ownsRow N 47 3 v n xs) (hg : (W.alloc tmp).grownBy w2 v.ownBlock) (hk : KeepsOthers W (w2.setCell ⟨B, 0, none⟩ u)) (hb : Below n₁ W (w2.setCell ⟨B, 0, none⟩ u)) (hB : B ∈ F) :
    Kept n₁ n₀ F W (w2.setCell ⟨B, 0, none⟩ u) := by
  refine ⟨hk.size, fun k h => hb.block k h, fun k es cl _ he => hk.same k _ he rfl, fun k c t fr he hF ht => ?_⟩
  have hkB : k ≠ B := by rintro rfl; exact hF hB
  have h1 : (W.alloc tmp).heap[k]? = W.heap[k]? := Below.heap_alloc _ _ _ (Array.getElem?_eq_some_iff.1 he).1
  have h2 : w2.heap[k]? = (W.alloc tmp).heap[k]? := by
    refine hg.block k ?_ ?_
    · simp; have := (Array.getElem?_eq_some_iff.1 he).1; omega
    · rcases hr.2 with ⟨rfl, _⟩ | ⟨g, cap, cur, rfl, _, hgb, _⟩
      · simp [Value.ownBlock]
      · intro e
        obtain rfl : k = g := by simpa [Value.ownBlock] using e
        rw [hgb] at he
        cases he
        exact ht rfl
  have h3 : (w2.setCell ⟨B, 0, none⟩ u).heap[k]? = w2.heap[k]? := by
    have h4 : k < w2.heap.size := by
      by_cases h : k < w2.heap.size
      · exact h
      · rw [Array.getElem?_eq_none (by omega)] at h2
        rw [h1, he] at h2
        cases h2
    exact (grownBy_setCell' w2 B u).block k h4 (fun e => hkB (by cases e; rfl))
  rw [h3, h2, h1, he]

/-- The box of a round's span. -/
def SpanBox (W : World) (B : Nat) (x : Span) : Prop := W.heap[B]? = some (.cells #[.int .i64 x.kind, .string (mk x.text), .int .i64 x.at_, .int .i64 x.end_] 62 (0, 0))

theorem spanBox_own (B : Nat) (x : Span) : Own (fun (_ : Unit) W => SpanBox W B x) := fun _ _ _ _ hs hg hrow => (grownBy_keeps_cells hg hrow hs rfl).trans hs

/-- What Tokens answers: the tokens, or the first error. -/
def TokPost (s : ByteArray) (w : World) (e : Ending) (W' : World) : Prop :=
  Below w.heap.size w W' ∧
    (((∀ x ∈ spansT s s.data.toList 0, x.err = 0) ∧ ∃ v, e = .returned (.tuple #[v, .int .i64 0, .int .i64 0]) ∧ W'.ownsRow w.heap.size 47 3 v (spansT s s.data.toList 0).length (tokCells (spansT s s.data.toList 0))) ∨
     (∃ p x, p ++ [x] <+: spansT s s.data.toList 0 ∧ (∀ y ∈ p, y.err = 0) ∧ x.err ≠ 0 ∧ e = .returned (.tuple #[.slice none 0 0, .int .i64 x.at_, .int .i64 x.err])))

theorem ownFrom_stop {c : Code} {B N : Nat} {w : World} (hn : N ≤ w.heap.size) (hB : N ≤ B) : OwnFrom B (fun (pre : List Span) W => c = .ret ∧ (∃ p x, pre = p ++ [x] ∧ (∀ y ∈ p, y.err = 0) ∧ x.err ≠ 0 ∧ Boxed W N 26 (.slice none 0 0) ∧ Boxed W (N + 1) 3 (.int .i64 x.at_) ∧ Boxed W (N + 2) 27 (.int .i64 x.err)) ∧ Below N w W) := by
  rintro s W W' row ⟨hc, ⟨p, x, h1, h2, h3, h4, h5, h6⟩, h7⟩ hg hr
  refine ⟨hc, ⟨p, x, h1, h2, h3, ?_, ?_, ?_⟩, ownFrom_below (β := Unit) hn hB () W W' row h7 hg hr⟩
  · exact (boxed_own N 26 (fun (_ : Unit) => .slice none 0 0)).from B () W W' row h4 hg hr
  · exact (boxed_own (N + 1) 3 (fun (_ : Unit) => .int .i64 x.at_)).from B () W W' row h5 hg hr
  · exact (boxed_own (N + 2) 27 (fun (_ : Unit) => .int .i64 x.err)).from B () W W' row h6 hg hr

set_option maxHeartbeats 4000000 in
theorem tokens_all (hS : Spans1) (s : ByteArray) (w : World) (hs : s.size ≤ 65536) (hm : ML w) (hlen : (spansT s s.data.toList 0).length ≤ 20000) :
    Calls Try.prog 8 #[.string s] w (TokPost s w) := by
  obtain ⟨i0, hi, hz0, hz1, hz2⟩ := info_parts info49
  have HM := Lib.hid hm
  have HLEN := Lib.hid hlen
  clear hm hlen
  refine (callsIn_wide (n := 5)).1 ?_
  refine callsIn_of_wp_marks Try.func8 rfl trivial ?_ rfl
  simp only [Try.ntmps8, List.size_toArray, List.length_cons, List.length_nil, Nat.reduceAdd, Nat.reduceSub, Array.replicate_succ, Array.replicate_zero, List.push_toArray, List.append_toArray, List.nil_append, List.cons_append]
  gi_wp2_with (first | (refine ⟨trivial, ?_⟩; gi_at_call 29; refine (callsIn_wide.2 (newScanner_any _)).mono ?_; rintro e w1 ⟨kb, sb, rfl, hkb, hsb, hb1⟩) | (refine ⟨trivial, ?_⟩; gi_at_call 30; refine (callsIn_wide.2 (spans_any _ _ _ _)).mono ?_; rintro e w2 ⟨rfl, rfl⟩))
  obtain ⟨N, hN⟩ : ∃ N, w.heap.size = N := ⟨_, rfl⟩
  obtain ⟨W0, hW0⟩ : ∃ W0, (w1.alloc (.cells #[.map (some kb), .map (some sb)] 58)).alloc (.cells #[.string s] 9) = W0 := ⟨_, rfl⟩
  simp only [World.size_alloc] at hb1
  have b0 : Boxed W0 N 26 (.slice none 0 0) := by
    rw [← hW0, ← hN]
    exact ((boxed_below ((((Boxed.new w 26 (.slice none 0 0)).alloc _).alloc _).alloc _) hb1 (by omega)).alloc _).alloc _
  have b1 : Boxed W0 (N + 1) 3 (.int .i64 0) := by
    rw [← hW0, ← hN]
    have := ((Boxed.new (w.alloc (.cells #[.slice none 0 0] 26)) 3 (.int .i64 0)).alloc (.cells #[.int .i64 0] 27)).alloc (.cells #[.slice none 0 0] 26)
    rw [World.size_alloc] at this
    exact ((boxed_below this hb1 (by omega)).alloc _).alloc _
  have b2 : Boxed W0 (N + 2) 27 (.int .i64 0) := by
    rw [← hW0, ← hN]
    have := (Boxed.new ((w.alloc (.cells #[.slice none 0 0] 26)).alloc (.cells #[.int .i64 0] 3)) 27 (.int .i64 0)).alloc (.cells #[.slice none 0 0] 26)
    simp only [World.size_alloc] at this
    exact ((boxed_below this hb1 (by omega)).alloc _).alloc _
  have b3 : Boxed W0 (N + 3) 26 (.slice none 0 0) := by
    rw [← hW0, ← hN]
    have := Boxed.new (((w.alloc (.cells #[.slice none 0 0] 26)).alloc (.cells #[.int .i64 0] 3)).alloc (.cells #[.int .i64 0] 27)) 26 (.slice none 0 0)
    simp only [World.size_alloc] at this
    exact ((boxed_below this hb1 (by omega)).alloc _).alloc _
  have hs1 := hb1.size
  simp only [World.size_alloc] at hs1
  have hz : W0.heap.size = w1.heap.size + 2 := by rw [← hW0]; simp
  have hB0 : Below N w W0 := by
    rw [← hW0, ← hN]
    have h4 : Below w.heap.size w ((((w.alloc (.cells #[.slice none 0 0] 26)).alloc (.cells #[.int .i64 0] 3)).alloc (.cells #[.int .i64 0] 27)).alloc (.cells #[.slice none 0 0] 26)) := ((((Below.refl _ w).alloc (Nat.le_refl _) _).alloc (by simp) _).alloc (by simp; omega) _).alloc (by simp; omega) _
    exact ((h4.trans (hb1.mono (by omega))).alloc (by omega) _).alloc (by simp; omega) _
  have hE0 : Env s (w1.heap.size + 1) w1.heap.size kb sb W0 := by
    have hq : Below w1.heap.size w1 W0 := by rw [← hW0]; exact ((Below.refl _ w1).alloc (Nat.le_refl _) _).alloc (by simp) _
    refine ⟨?_, ?_, hkb.below hq hkb.lt, hsb.below hq hsb.lt, ?_⟩
    · rw [← hW0]
      have := World.alloc_heap_new (w1.alloc (.cells #[.map (some kb), .map (some sb)] 58)) (.cells #[.string s] 9)
      rwa [World.size_alloc] at this
    · rw [← hW0]
      exact (Below.heap_alloc _ _ _ (by simp)).trans (World.alloc_heap_new w1 _)
    · exact (HM.out.below hB0 (by rw [← hN]; exact HM.out.lt))
  have h0N : 0 < N := by rw [← hN]; exact HM.out.lt
  have hNW : N + 4 ≤ W0.heap.size := by omega
  have hk0 : kb < W0.heap.size := by have := hkb.lt; omega
  have hk1 : sb < W0.heap.size := by have := hsb.lt; omega
  have HS := Lib.hid (seqK hS s hs (w1.heap.size + 1) w1.heap.size kb sb N W0.heap.size [N, N + 1, N + 2, N + 3] W0 hE0 h0N hk0 hk1 (by simp; omega) (by simp; omega) (by simp; omega) (by omega) 4 (by omega))
  obtain ⟨Bt, hBt⟩ : ∃ Bt, w1.heap.size + 1 = Bt := ⟨_, rfl⟩
  obtain ⟨Bs, hBs⟩ : ∃ Bs, w1.heap.size = Bs := ⟨_, rfl⟩
  rw [hBt] at HS
  rw [hBs] at HS
  rw [hW0, hN, hBt, hBs]
  clear hW0
  refine wpIn_rangeFunc_ownH rfl (by omega) (gf := 55) (lb := #[.pointer (some ⟨Bt, 0, none⟩), .pointer (some ⟨Bs, 0, none⟩)]) rfl trivial (enters_of Try.func55 (by kernel_rfl) rfl)
    HS.out Kept.trans (Kept.putObj (by omega) (Nat.le_refl _)) (Below.refl _ _) (fun _ => rfl)
    (fun pre W => ((((∃ v, Boxed W (N + 3) 26 v ∧ W.ownsRow N 47 3 v pre.length (tokCells pre) ∧ ∀ y ∈ pre, y.err = 0) ∧ Boxed W N 26 (.slice none 0 0)) ∧ Boxed W (N + 1) 3 (.int .i64 0)) ∧ Boxed W (N + 2) 27 (.int .i64 0)) ∧ Below N w W)
    (fun c pre W => c = .ret ∧ (∃ p x, pre = p ++ [x] ∧ (∀ y ∈ p, y.err = 0) ∧ x.err ≠ 0 ∧ Boxed W N 26 (.slice none 0 0) ∧ Boxed W (N + 1) 3 (.int .i64 x.at_) ∧ Boxed W (N + 2) 27 (.int .i64 x.err)) ∧ Below N w W)
    (OwnFrom.and (OwnFrom.and (OwnFrom.and (OwnFrom.and (Own.from (holdsRow_own N (N + 3) 26 47 3 (fun pre : List Span => pre.length) tokCells (fun pre _ => ∀ y ∈ pre, y.err = 0)) _) (Own.from (boxed_own N 26 (fun _ => .slice none 0 0)) _)) (Own.from (boxed_own (N + 1) 3 (fun _ => .int .i64 0)) _)) (Own.from (boxed_own (N + 2) 27 (fun _ => .int .i64 0)) _)) (ownFrom_below (by omega) (by omega)))
    (fun c => ownFrom_stop (by omega) (by omega))
    ⟨⟨⟨⟨⟨_, b3, World.ownsRow_nil _ _ _ _, by simp⟩, b0⟩, b1⟩, b2⟩, hB0⟩
    (fun x a' W => ∃ Bx, N + 3 < Bx ∧ SpanBox W Bx x ∧ a' = { tmps := #[.string s, undef, .pointer (some ⟨N, 0, none⟩), .pointer (some ⟨N + 1, 0, none⟩), .pointer (some ⟨N + 1 + 1, 0, none⟩), .pointer (some ⟨N + 1 + 1 + 1, 0, none⟩), .pointer (some ⟨Bx, 0, none⟩), .int .i64 x.err, .string s, .int .i64 s.size, .bool (decide ((65536 : Int) < s.size)), scan kb sb, .string s, .func (.func 55) #[] #[.pointer (some ⟨Bt, 0, none⟩), .pointer (some ⟨Bs, 0, none⟩)], spanV x, .int .i64 x.err, undef, undef, undef, undef, undef, undef, undef, undef, undef, undef, undef, undef, undef, undef, undef, undef, undef, undef, undef], defers := [] })
    (fun x a' _ X Y row hs hg hr => by obtain ⟨Bx, h1, h2, h3⟩ := hs; exact ⟨Bx, h1, spanBox_own Bx x () X Y row h2 hg (fun r e => (hr r e).2), h3⟩)
    ?assign ?body ?done ?stop
  case assign =>
    rintro l pre x W K ⟨⟨⟨⟨⟨v, h3, hr, hpe⟩, h0⟩, h1⟩, h2⟩, hB⟩ hK
    dsimp only [encS, spanV]
    gi_wp2
    exact hK _ _ ((KeepsOthers.alloc _ _).from _) (Kept.of_below ((Below.refl _ W).alloc (Nat.le_refl _) _) (by have := h0.lt; omega)) ⟨⟨⟨⟨⟨v, h3.alloc _, hr.alloc _, hpe⟩, h0.alloc _⟩, h1.alloc _⟩, h2.alloc _⟩, hB.alloc (by have := h0.lt; omega) _⟩ ⟨W.heap.size, h3.lt, World.alloc_heap_new W _, rfl⟩
  case body =>
    rintro l pre x a' W hl _ ⟨⟨⟨⟨⟨v, h3, hr, hpe'⟩, h0⟩, h1⟩, h2⟩, hB⟩ ⟨Bx, hBx, hx, rfl⟩ hlt
    have HPE := Lib.hid hpe'
    clear hpe'
    have c0 := h0.cell
    have c1 := h1.cell
    have c2 := h2.cell
    have c3 := h3.cell
    have f0 := h0.frozen
    have f1 := h1.frozen
    have f2 := h2.frozen
    have f3 := h3.frozen
    have x0 : W.cell? ⟨Bx, 0, none⟩ = some (.int .i64 x.kind) := by unfold World.cell?; rw [show W.heap[Bx]? = _ from hx]; rfl
    have x1 : W.cell? ⟨Bx, 1, none⟩ = some (.string (mk x.text)) := by unfold World.cell?; rw [show W.heap[Bx]? = _ from hx]; rfl
    have x2 : W.cell? ⟨Bx, 2, none⟩ = some (.int .i64 x.at_) := by unfold World.cell?; rw [show W.heap[Bx]? = _ from hx]; rfl
    have hlen := HLEN.out
    dsimp only [spanV]
    gi_wp2_with (gi_at_builtin; refine wpListIn_append_own _ rfl _ _ 26 rfl N 47 i0 (.agg #[.int .i64 0, .string ⟨#[]⟩, .int .i64 0]) 3 32 Try.underlying26 hi hz0 hz1 hz2 rfl (by decide) _ _ _ rfl (hr.alloc _) ⟨W.heap.size, 0, none⟩ 1 1 [.int .i64 x.kind, .string (mk x.text), .int .i64 x.at_] rfl rfl (cell_three_new _ _ _ _ _) (by simp [Value.oneCell']) (by simp [maxLen]; omega) (by omega) (by have := h0.lt; simp; omega) ?_; intro v' w2 hown' hgrow _; obtain ⟨g', cap', rfl⟩ := ownsRow_succ hown'; obtain ⟨hv1, hv2, hr2, hk2, hb2⟩ := h3.appended (by decide) hr (by have := h0.lt; omega) (by omega) hown' hgrow; have hc1 := hv1.cell; have hf1 := hv1.frozen)
    · have hxe : (x.err != 0) = true := by assumption
      have hxe' : x.err ≠ 0 := by simpa using hxe
      gi_region
      all_goals gi_wp2
      all_goals
        have k1 := h0.set (.slice none 0 0)
        have k2 := (h1.other (by omega : N + 1 ≠ N) (.slice none 0 0)).set (.int .i64 x.at_)
        have k3 := ((h2.other (by omega : N + 2 ≠ N) (.slice none 0 0)).other (by omega : N + 2 ≠ N + 1) (.int .i64 x.at_)).set (.int .i64 x.err)
        have k1' := (k1.other (by omega : N ≠ N + 1) (.int .i64 x.at_)).other (by omega : N ≠ N + 2) (.int .i64 x.err)
        have k2' := k2.other (by omega : N + 1 ≠ N + 2) (.int .i64 x.err)
        exact ⟨((((KeepsOthers.setCell _ _ _).trans (KeepsOthers.setCell _ _ _)).trans (KeepsOthers.setCell _ _ _)).trans (KeepsOthers.drew _)).from _, rfl, ⟨pre, x, rfl, HPE.out, hxe', k1', k2', k3⟩, (((hB.setCell (by simp) _).setCell (by simp) _).setCell (by simp; omega) _).drew⟩
    · have hgr : (W.alloc (.cells #[.int .i64 x.kind, .string (mk x.text), .int .i64 x.at_] 47)).grownBy w2 v.ownBlock := hgrow
      have hx0 : x.err = 0 := by
        have : (x.err != 0) = false := by assumption
        simpa using this
      refine ⟨hk2.from _, kept_append hr hgr hk2 hb2 (by simp), ⟨⟨⟨⟨_, hv2, ?_, by
        intro y hy
        rcases List.mem_append.1 hy with hy | hy
        · exact HPE.out y hy
        · simp only [List.mem_singleton] at hy; rw [hy]; exact hx0⟩, ?_⟩, ?_⟩, ?_⟩, hB.trans hb2⟩
      · rw [tokCells_snoc]
        simpa using hr2
      · exact ((h0.alloc _).kept hgr (h0.not_row (by decide) hr)).other (by omega) _
      · exact ((h1.alloc _).kept hgr (h1.not_row (by decide) hr)).other (by omega) _
      · exact ((h2.alloc _).kept hgr (h2.not_row (by decide) hr)).other (by omega) _
  case done =>
    rintro D ys W hD rfl ⟨⟨⟨⟨⟨v, h3, hr, hpe'⟩, h0⟩, h1⟩, h2⟩, hB⟩ hK
    have HPE := Lib.hid hpe'
    clear hpe'
    obtain ⟨o, cap, rfl⟩ : ∃ o cap, v = .slice o (spansT s s.data.toList 0).length cap := by
      rcases hr.2 with ⟨rfl, hz⟩ | ⟨g, cap, cur, rfl, _⟩
      · exact ⟨_, _, by rw [hz]⟩
      · exact ⟨_, _, rfl⟩
    have c0 := h0.cell
    have c1 := h1.cell
    have c2 := h2.cell
    have c3 := h3.cell
    have f0 := h0.frozen
    have f1 := h1.frozen
    have f2 := h2.frozen
    have hlen := HLEN.out
    gi_wp2
    have k1 := h0.set (.slice o (spansT s s.data.toList 0).length cap)
    have k2 := (h1.other (by omega : N + 1 ≠ N) (.slice o (spansT s s.data.toList 0).length cap)).set (.int .i64 0)
    have k3 := ((h2.other (by omega : N + 2 ≠ N) (.slice o (spansT s s.data.toList 0).length cap)).other (by omega : N + 2 ≠ N + 1) (.int .i64 0)).set (.int .i64 0)
    have k1' := (k1.other (by omega : N ≠ N + 1) (.int .i64 0)).other (by omega : N ≠ N + 2) (.int .i64 0)
    have k2' := k2.other (by omega : N + 1 ≠ N + 2) (.int .i64 0)
    have r1 := hr.kept (grownBy_setCell' W N (.slice o (spansT s s.data.toList 0).length cap)) (.inr (h0.not_row (by decide) hr).symm)
    have r2 := r1.kept (grownBy_setCell' _ (N + 1) (.int .i64 0)) (.inr ((h1.other (by omega : N + 1 ≠ N) (.slice o (spansT s s.data.toList 0).length cap)).not_row (by decide) r1).symm)
    have r3 := r2.kept (grownBy_setCell' _ (N + 2) (.int .i64 0)) (.inr (((h2.other (by omega : N + 2 ≠ N) (.slice o (spansT s s.data.toList 0).length cap)).other (by omega : N + 2 ≠ N + 1) (.int .i64 0)).not_row (by decide) r2).symm)
    have hKf := (((KeepsOthers.setCell W ⟨N, 0, none⟩ (.slice o (spansT s s.data.toList 0).length cap)).trans (KeepsOthers.setCell _ ⟨N + 1, 0, none⟩ (.int .i64 0))).trans (KeepsOthers.setCell _ ⟨N + 2, 0, none⟩ (.int .i64 0))).same D _ hK rfl
    have hBf := (((Below.refl N W).setCell (p := ⟨N, 0, none⟩) (Nat.le_refl _) (.slice o (spansT s s.data.toList 0).length cap)).setCell (p := ⟨N + 1, 0, none⟩) (by simp) (.int .i64 0)).setCell (p := ⟨N + 2, 0, none⟩) (by simp) (.int .i64 0)
    obtain ⟨Wf, hWf⟩ : ∃ Wf, ((W.setCell ⟨N, 0, none⟩ (.slice o (spansT s s.data.toList 0).length cap)).setCell ⟨N + 1, 0, none⟩ (.int .i64 0)).setCell ⟨N + 2, 0, none⟩ (.int .i64 0) = Wf := ⟨_, rfl⟩
    simp only [Nat.add_assoc, Nat.reduceAdd]
    rw [hWf] at k1' k2' k3 r3 hKf hBf ⊢
    have hDN : N + 3 < D := by have := b3.lt; omega
    have q1 : (Wf.putObj D (.deferred none)).cell? ⟨N, 0, none⟩ = some (.slice o (spansT s s.data.toList 0).length cap) := (World.cell?_of_block (a := ⟨N, 0, none⟩) (World.putObj_heap_other (by simp; omega))).trans k1'.cell
    have q2 : (Wf.putObj D (.deferred none)).cell? ⟨N + 1, 0, none⟩ = some (.int .i64 0) := (World.cell?_of_block (a := ⟨N + 1, 0, none⟩) (World.putObj_heap_other (by simp; omega))).trans k2'.cell
    have q3 : (Wf.putObj D (.deferred none)).cell? ⟨N + 2, 0, none⟩ = some (.int .i64 0) := (World.cell?_of_block (a := ⟨N + 2, 0, none⟩) (World.putObj_heap_other (by simp; omega))).trans k3.cell
    refine ⟨by simp, .inl ⟨_, _, rfl, run_takeDeferred hKf, ?_⟩⟩
    refine ⟨.tuple #[.slice o (spansT s s.data.toList 0).length cap, .int .i64 0, .int .i64 0], ?_, ?_, .inl ⟨HPE.out, .slice o (spansT s s.data.toList 0).length cap, rfl, ?_⟩⟩
    · simp [results, Try.results8, go_sem, q1, q2, q3]
    · rw [hN]
      exact (hB.trans hBf).trans (belowK_b (w := W0) (by omega) Wf D _ _ (by omega) hKf rfl rfl)
    · rw [hN]
      exact ownsRow_putObj r3 _ hKf rfl
  case stop =>
    rintro D c pre W hD hp ⟨rfl, ⟨p, x, rfl, hp0, hxe, k1, k2, k3⟩, hB⟩ hK
    have HP0 := Lib.hid hp0
    clear hp0
    have hDN : N + 3 < D := by have := b3.lt; omega
    have q1 : (W.putObj D (.deferred none)).cell? ⟨N, 0, none⟩ = some (.slice none 0 0) := (World.cell?_of_block (a := ⟨N, 0, none⟩) (World.putObj_heap_other (by simp; omega))).trans k1.cell
    have q2 : (W.putObj D (.deferred none)).cell? ⟨N + 1, 0, none⟩ = some (.int .i64 x.at_) := (World.cell?_of_block (a := ⟨N + 1, 0, none⟩) (World.putObj_heap_other (by simp; omega))).trans k2.cell
    have q3 : (W.putObj D (.deferred none)).cell? ⟨N + 2, 0, none⟩ = some (.int .i64 x.err) := (World.cell?_of_block (a := ⟨N + 2, 0, none⟩) (World.putObj_heap_other (by simp; omega))).trans k3.cell
    gi_wp2
    refine ⟨by simp, .inl ⟨_, _, rfl, run_takeDeferred hK, ?_⟩⟩
    refine ⟨.tuple #[.slice none 0 0, .int .i64 x.at_, .int .i64 x.err], ?_, ?_, .inr ⟨p, x, hp, HP0.out, hxe, rfl⟩⟩
    · simp [results, Try.results8, go_sem, q1, q2, q3]
    · rw [hN]
      exact hB.trans (belowK_b (w := W0) (by omega) W D _ _ (by omega) hK rfl rfl)

theorem tokens_of (hS : Spans1) (s : ByteArray) (w : World) (hs : s.size ≤ 65536) (hm : ML w) (hlen : (spansT s s.data.toList 0).length ≤ 20000) (herr : ∀ x ∈ spansT s s.data.toList 0, x.err = 0) :
    Calls Try.prog 8 #[.string s] w fun e W' => ∃ v, e = .returned (.tuple #[v, .int .i64 0, .int .i64 0]) ∧ W'.ownsRow w.heap.size 47 3 v (spansT s s.data.toList 0).length (tokCells (spansT s s.data.toList 0)) ∧ Below w.heap.size w W' :=
  (tokens_all hS s w hs hm hlen).mono fun e W' ⟨hB, h⟩ => by
    rcases h with ⟨_, v, he, hr⟩ | ⟨p, x, hp, _, hx, _⟩
    · exact ⟨v, he, hr, hB⟩
    · exact absurd (herr x (hp.subset (by simp))) hx
end Go.Proofs.Ytfilmombflohpaa
