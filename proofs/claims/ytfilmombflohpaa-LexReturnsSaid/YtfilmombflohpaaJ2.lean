/- checkToken: is a text one token of its kind? -/
import Derived.Test.YtfilmombflohpaaL14
import Derived.Test.YtfilmombflohpaaJ1
set_option linter.unusedSimpArgs false
set_option linter.unusedVariables false
namespace Go.Proofs.Ytfilmombflohpaa
open Go.RowKit Go.ChangeMaps Go.WideMaps Go.Shelf
set_option maxRecDepth 100000

attribute [local go_sem] Oper.semAt_some

/-- The first that is read of its text is the token itself. -/
def headOk (y x : Span) : Bool := decide (y.err = 0) && (decide (y.kind = x.kind) && (y.text == x.text) && decide (y.at_ = 0)) && decide (y.end_ = x.text.length)
def okHead (x : Span) : Bool := match spansL x.text with
  | y :: _ => headOk y x
  | [] => false
def okE (x : Span) : Int := if okHead x = true then 0 else 1
def checkE (x : Span) : Int := if x.kind < 0 ∨ 4 < x.kind then 11 else okE x

/-- A token in a box. -/
def TokBox (W : World) (B : Nat) (x : Span) (a : Int) : Prop := W.heap[B]? = some (.cells #[.int .i64 x.kind, .string (mk x.text), .int .i64 a] 47 (0, 0))
theorem tokBox_own {β : Type} (B : Nat) (x : Span) (a : Int) : Own (fun (_ : β) W => TokBox W B x a) := fun _ _ _ _ hs hg hrow => (grownBy_keeps_cells hg hrow hs rfl).trans hs

set_option maxHeartbeats 8000000 in
theorem checkToken_in (hS : Spans1) (x : Span) (kb sb : Nat) (w : World) (hx : x.text.length ≤ 65536) (hk : SetAt w kb kwL) (hs : SetAt w sb sgL) (hm : ML w) (h0 : 0 ≤ x.kind) (h4 : x.kind ≤ 4) :
    Calls Try.prog 43 #[scan kb sb, tokV x 0] w fun e w' => e = .returned (.int .i64 (okE x)) ∧ Below w.heap.size w w' := by
  have HM := Lib.hid hm
  have HK := Lib.hid hk
  have HS := Lib.hid hs
  obtain ⟨k, hkk⟩ : ∃ k, x.kind = k := ⟨_, rfl⟩
  obtain ⟨y, hy⟩ : ∃ y, mk x.text = y := ⟨_, rfl⟩
  have hyl : y.size = x.text.length := by rw [← hy, size_of_list]
  have hyd : y.data.toList = x.text := by rw [← hy]
  have hys : y.size ≤ 65536 := by omega
  have hsp : spansL x.text = spansT y y.data.toList 0 := by rw [hyd]; exact spansL_T y x.text (by omega)
  dsimp only [tokV]
  rw [hkk, hy]
  rw [hkk] at h0 h4
  have HKK := Lib.hid hkk
  have HY := Lib.hid hy
  have HYL := Lib.hid hyl
  have HYD := Lib.hid hyd
  have HSP := Lib.hid hsp
  have hO : ∀ z : Span, headOk z x = true ↔ z.err = 0 ∧ z.kind = k ∧ z.text = y.toList ∧ z.at_ = 0 ∧ z.end_ = y.size := by
    intro z
    unfold headOk
    rw [Lib.toList_data, hyd, hyl, ← hkk]
    simp only [Bool.and_eq_true, decide_eq_true_eq, beq_iff_eq]
    constructor
    · rintro ⟨⟨h1, ⟨h2, h3⟩, h4⟩, h5⟩
      exact ⟨h1, h2, h3, h4, h5⟩
    · rintro ⟨h1, h2, h3, h4, h5⟩
      exact ⟨⟨h1, ⟨h2, h3⟩, h4⟩, h5⟩
  have HO := Lib.hid hO
  clear hm hk hs hkk hy hyl hyd hsp hO hx
  have d0 : decide (k < 0) = false := by simp; omega
  have d4 : decide (4 < k) = false := by simp; omega
  have d6 : decide ((65536 : Int) < (y.size : Int)) = false := by simp; omega
  refine (callsIn_wide (n := 5)).1 ?_
  refine callsIn_of_wp_marks Try.func43 rfl trivial ?_ rfl
  simp only [Try.ntmps43, List.size_toArray, List.length_cons, List.length_nil, Nat.reduceAdd, Nat.reduceSub, Array.replicate_succ, Array.replicate_zero, List.push_toArray, List.append_toArray, List.nil_append, List.cons_append]
  gi_wp2_with (refine ⟨trivial, ?_⟩; gi_at_call 30; refine (callsIn_wide.2 (spans_any _ _ _ _)).mono ?_; rintro e w2 ⟨rfl, rfl⟩)
  obtain ⟨N, hN⟩ : ∃ N, w.heap.size = N := ⟨_, rfl⟩
  obtain ⟨W0, hW0⟩ : ∃ W0, (((((w.alloc (.cells #[.map (some kb), .map (some sb)] 58)).alloc (.cells #[.int .i64 k, .string y, .int .i64 0] 47)).alloc (.cells #[.int .i64 0] 27)).alloc (.cells #[.map (some kb), .map (some sb)] 58)).alloc (.cells #[.string y] 9)) = W0 := ⟨_, rfl⟩
  have hz : W0.heap.size = N + 5 := by rw [← hW0, ← hN]; simp
  have hB0 : Below N w W0 := by
    rw [← hW0, ← hN]
    exact (((((Below.refl _ w).alloc (Nat.le_refl _) _).alloc (by simp <;> omega) _).alloc (by simp <;> omega) _).alloc (by simp <;> omega) _).alloc (by simp <;> omega) _
  have b2 : Boxed W0 (N + 2) 27 (.int .i64 0) := by
    rw [← hW0, ← hN]
    have := (Boxed.new ((w.alloc (.cells #[.map (some kb), .map (some sb)] 58)).alloc (.cells #[.int .i64 k, .string y, .int .i64 0] 47)) 27 (.int .i64 0)).alloc (.cells #[.map (some kb), .map (some sb)] 58)
    have := this.alloc (.cells #[.string y] 9)
    simpa using this
  have b1 : W0.heap[N + 1]? = some (.cells #[.int .i64 k, .string y, .int .i64 0] 47 (0, 0)) := by
    have h1 : Below (N + 2) ((w.alloc (.cells #[.map (some kb), .map (some sb)] 58)).alloc (.cells #[.int .i64 k, .string y, .int .i64 0] 47)) W0 := by
      rw [← hW0, ← hN]
      exact (((Below.refl _ _).alloc (by simp <;> omega) _).alloc (by simp <;> omega) _).alloc (by simp <;> omega) _
    rw [h1.block _ (by omega), ← hN]
    have := World.alloc_heap_new (w.alloc (.cells #[.map (some kb), .map (some sb)] 58)) (.cells #[.int .i64 k, .string y, .int .i64 0] 47)
    rwa [World.size_alloc] at this
  have hE0 : Env y (N + 4) (N + 3) kb sb W0 := by
    refine ⟨?_, ?_, HK.out.below hB0 (by rw [← hN]; exact HK.out.lt), HS.out.below hB0 (by rw [← hN]; exact HS.out.lt), HM.out.below hB0 (by rw [← hN]; exact HM.out.lt)⟩
    · rw [← hW0, ← hN]
      have := World.alloc_heap_new ((((w.alloc (.cells #[.map (some kb), .map (some sb)] 58)).alloc (.cells #[.int .i64 k, .string y, .int .i64 0] 47)).alloc (.cells #[.int .i64 0] 27)).alloc (.cells #[.map (some kb), .map (some sb)] 58)) (.cells #[.string y] 9)
      simpa using this
    · have h1 : Below (N + 4) ((((w.alloc (.cells #[.map (some kb), .map (some sb)] 58)).alloc (.cells #[.int .i64 k, .string y, .int .i64 0] 47)).alloc (.cells #[.int .i64 0] 27)).alloc (.cells #[.map (some kb), .map (some sb)] 58)) W0 := by
        rw [← hW0, ← hN]
        exact (Below.refl _ _).alloc (by simp <;> omega) _
      rw [h1.block _ (by omega), ← hN]
      have := World.alloc_heap_new (((w.alloc (.cells #[.map (some kb), .map (some sb)] 58)).alloc (.cells #[.int .i64 k, .string y, .int .i64 0] 47)).alloc (.cells #[.int .i64 0] 27)) (.cells #[.map (some kb), .map (some sb)] 58)
      simpa using this
  have h0N : 0 < N := by rw [← hN]; exact HM.out.lt
  have hk0 : kb < W0.heap.size := by have := HK.out.lt; omega
  have hk1 : sb < W0.heap.size := by have := HS.out.lt; omega
  have HSQ := Lib.hid (seqK hS y hys (N + 4) (N + 3) kb sb N W0.heap.size [N, N + 1, N + 2] W0 hE0 h0N hk0 hk1 (by simp) (by simp) (by simp; omega) (by omega) 4 (by omega))
  rw [hW0, hN]
  simp only [Nat.add_assoc, Nat.reduceAdd]
  clear hW0 d0 d4 d6
  have hownT : ∀ {β : Type}, Own (fun (_ : β) W => W.heap[N + 1]? = some (.cells #[.int .i64 k, .string y, .int .i64 0] 47 (0, 0))) := fun _ _ _ _ hs hg hrow => (grownBy_keeps_cells hg hrow hs rfl).trans hs
  refine wpIn_rangeFunc_ownH rfl (by omega) (gf := 55) (lb := #[.pointer (some ⟨N + 4, 0, none⟩), .pointer (some ⟨N + 3, 0, none⟩)]) rfl trivial (enters_of Try.func55 (by kernel_rfl) rfl)
    HSQ.out Kept.trans (Kept.putObj (by omega) (Nat.le_refl _)) (Below.refl _ _) (fun _ => rfl)
    (fun pre W => ((pre = [] ∧ Boxed W (N + 2) 27 (.int .i64 0)) ∧ W.heap[N + 1]? = some (.cells #[.int .i64 k, .string y, .int .i64 0] 47 (0, 0))) ∧ Below N w W)
    (fun c pre W => ((∃ z, pre = [z] ∧ ((c = .ret ∧ headOk z x = true) ∨ (c = .exit 1 ∧ headOk z x = false))) ∧ Boxed W (N + 2) 27 (.int .i64 0)) ∧ Below N w W)
    (OwnFrom.and (OwnFrom.and (OwnFrom.and (fun _ _ _ _ h _ _ => h) (Own.from (boxed_own (N + 2) 27 (fun _ => .int .i64 0)) _)) (Own.from hownT _)) (ownFrom_below (by omega) (by omega)))
    (fun c => OwnFrom.and (OwnFrom.and (fun _ _ _ _ h _ _ => h) (Own.from (boxed_own (N + 2) 27 (fun _ => .int .i64 0)) _)) (ownFrom_below (by omega) (by omega)))
    ⟨⟨⟨rfl, b2⟩, b1⟩, hB0⟩
    (fun z a' W => ∃ Bx, N + 2 < Bx ∧ SpanBox W Bx z ∧ a' = { tmps := #[scan kb sb, .agg #[.int .i64 k, .string y, .int .i64 0], .pointer (some ⟨N, 0, none⟩), .pointer (some ⟨N + 1, 0, none⟩), .pointer (some ⟨N + 2, 0, none⟩), .pointer (some ⟨Bx, 0, none⟩), .int .i64 z.err, .bool false, .pointer (some ⟨N + 1, 0, none⟩), .int .i64 k, .bool false, .bool false, .pointer (some ⟨N + 1, 0, none⟩), .int .i64 k, .bool false, .bool false, .bool false, .pointer (some ⟨N + 1, 1, none⟩), .string y, .int .i64 y.size, .bool false, scan kb sb, .pointer (some ⟨N + 1, 1, none⟩), .string y, .func (.func 55) #[] #[.pointer (some ⟨N + 4, 0, none⟩), .pointer (some ⟨N + 3, 0, none⟩)], spanV z, .int .i64 z.err, undef, undef, undef, undef, undef, undef, undef, undef, undef, undef, undef, undef, undef, undef, undef, undef], defers := [] })
    (fun z a' _ X Y row hs hg hr => by obtain ⟨Bx, h1, h2, h3⟩ := hs; exact ⟨Bx, h1, spanBox_own Bx z () X Y row h2 hg (fun r e => (hr r e).2), h3⟩)
    ?assign ?body ?done ?stop
  case assign =>
    rintro l pre z W K ⟨⟨⟨hp, h2⟩, h1⟩, hB⟩ hK
    dsimp only [encS, spanV]
    gi_wp2
    exact hK _ _ ((KeepsOthers.alloc _ _).from _) (Kept.of_below ((Below.refl _ W).alloc (Nat.le_refl _) _) (by have := h2.lt; omega)) ⟨⟨⟨hp, h2.alloc _⟩, (hownT (β := Unit)).alloc (s := ()) _ h1⟩, hB.alloc (by have := h2.lt; omega) _⟩ ⟨W.heap.size, h2.lt, World.alloc_heap_new W _, rfl⟩
  case body =>
    rintro l pre z a' W hl _ ⟨⟨⟨rfl, h2⟩, h1⟩, hB⟩ ⟨Bx, hBx, hz, rfl⟩ hlt
    have c2 := h2.cell
    have f2 := h2.frozen
    have t0 : W.cell? ⟨N + 1, 0, none⟩ = some (.int .i64 k) := by unfold World.cell?; rw [h1]; rfl
    have t1 : W.cell? ⟨N + 1, 1, none⟩ = some (.string y) := by unfold World.cell?; rw [h1]; rfl
    have t2 : W.cell? ⟨N + 1, 2, none⟩ = some (.int .i64 0) := by unfold World.cell?; rw [h1]; rfl
    have x0 : W.cell? ⟨Bx, 0, none⟩ = some (.int .i64 z.kind) := by unfold World.cell?; rw [show W.heap[Bx]? = _ from hz]; rfl
    have x1 : W.cell? ⟨Bx, 1, none⟩ = some (.string (mk z.text)) := by unfold World.cell?; rw [show W.heap[Bx]? = _ from hz]; rfl
    have x2 : W.cell? ⟨Bx, 2, none⟩ = some (.int .i64 z.at_) := by unfold World.cell?; rw [show W.heap[Bx]? = _ from hz]; rfl
    have x3 : W.cell? ⟨Bx, 3, none⟩ = some (.int .i64 z.end_) := by unfold World.cell?; rw [show W.heap[Bx]? = _ from hz]; rfl
    dsimp only [spanV]
    gi_wp2
    · exact ⟨(KeepsOthers.setCell _ _ _).from _, ⟨⟨z, rfl, .inl ⟨rfl, (HO.out z).2 ⟨by assumption, by assumption, by assumption, by assumption, by simpa using (show (z.end_ == (y.size : Int)) = true by assumption)⟩⟩⟩, h2.set (.int .i64 0)⟩, hB.setCell (by simp) _⟩
    all_goals refine ⟨(KeepsOthers.refl _).from _, ⟨⟨z, rfl, .inr ⟨rfl, ?_⟩⟩, h2⟩, hB⟩
    all_goals
      have ho := HO.out z
      cases hh : headOk z x
      · rfl
      · have h5 := ho.1 hh
        exfalso
        simp_all
  case done =>
    rintro D ys W hD hys ⟨⟨⟨rfl, h2⟩, h1⟩, hB⟩ hK
    have hNo : okHead x = false := by
      unfold okHead
      rw [HSP.out, ← hys]
    have HNo := Lib.hid hNo
    clear hNo
    have c2 := h2.cell
    have f2 := h2.frozen
    gi_wp2
    have k2 := h2.set (.int .i64 1)
    have hKf := (KeepsOthers.setCell W ⟨N + 2, 0, none⟩ (.int .i64 1)).same D _ hK rfl
    have hBf := (Below.refl N W).setCell (p := ⟨N + 2, 0, none⟩) (by simp) (.int .i64 1)
    obtain ⟨Wf, hWf⟩ : ∃ Wf, W.setCell ⟨N + 2, 0, none⟩ (.int .i64 1) = Wf := ⟨_, rfl⟩
    rw [hWf] at k2 hKf hBf ⊢
    have hDN : N + 2 < D := by omega
    have q1 : (Wf.putObj D (.deferred none)).cell? ⟨N + 2, 0, none⟩ = some (.int .i64 1) := (World.cell?_of_block (a := ⟨N + 2, 0, none⟩) (World.putObj_heap_other (by simp; omega))).trans k2.cell
    refine ⟨by simp, .inl ⟨_, _, rfl, run_takeDeferred hKf, ?_⟩⟩
    refine ⟨.int .i64 1, ?_, ret_int (by unfold okE; rw [HNo.out]; rfl), ?_⟩
    · simp [results, Try.results43, go_sem, q1]
    · rw [hN]
      exact (hB.trans hBf).trans (belowK_b (w := W0) (by omega) Wf D _ _ (by omega) hKf rfl rfl)
  case stop =>
    rintro D c pre W hD hp ⟨⟨⟨z, rfl, hc⟩, h2⟩, hB⟩ hK
    have hOk : okHead x = headOk z x := by
      obtain ⟨t, ht⟩ := hp
      unfold okHead
      rw [HSP.out, ← ht]
      rfl
    have HOk := Lib.hid hOk
    clear hOk
    have hDN : N + 2 < D := by omega
    rcases hc with ⟨rfl, hz1⟩ | ⟨rfl, hz1⟩
    · have HZ1 := Lib.hid hz1
      clear hz1
      have q1 : (W.putObj D (.deferred none)).cell? ⟨N + 2, 0, none⟩ = some (.int .i64 0) := (World.cell?_of_block (a := ⟨N + 2, 0, none⟩) (World.putObj_heap_other (by simp; omega))).trans h2.cell
      gi_wp2
      refine ⟨by simp, .inl ⟨_, _, rfl, run_takeDeferred hK, ?_⟩⟩
      refine ⟨.int .i64 0, ?_, ret_int (by unfold okE; rw [HOk.out, HZ1.out]; rfl), ?_⟩
      · simp [results, Try.results43, go_sem, q1]
      · rw [hN]
        exact hB.trans (belowK_b (w := W0) (by omega) W D _ _ (by omega) hK rfl rfl)
    · have HZ1 := Lib.hid hz1
      clear hz1
      have c2 := h2.cell
      have f2 := h2.frozen
      gi_wp2
      have k2 := h2.set (.int .i64 1)
      have hKf := (KeepsOthers.setCell W ⟨N + 2, 0, none⟩ (.int .i64 1)).same D _ hK rfl
      have hBf := (Below.refl N W).setCell (p := ⟨N + 2, 0, none⟩) (by simp) (.int .i64 1)
      obtain ⟨Wf, hWf⟩ : ∃ Wf, W.setCell ⟨N + 2, 0, none⟩ (.int .i64 1) = Wf := ⟨_, rfl⟩
      rw [hWf] at k2 hKf hBf ⊢
      have q1 : (Wf.putObj D (.deferred none)).cell? ⟨N + 2, 0, none⟩ = some (.int .i64 1) := (World.cell?_of_block (a := ⟨N + 2, 0, none⟩) (World.putObj_heap_other (by simp; omega))).trans k2.cell
      refine ⟨by simp, .inl ⟨_, _, rfl, run_takeDeferred hKf, ?_⟩⟩
      refine ⟨.int .i64 1, ?_, ret_int (by unfold okE; rw [HOk.out, HZ1.out]; rfl), ?_⟩
      · simp [results, Try.results43, go_sem, q1]
      · rw [hN]
        exact (hB.trans hBf).trans (belowK_b (w := W0) (by omega) Wf D _ _ (by omega) hKf rfl rfl)

set_option maxHeartbeats 1000000 in
theorem checkToken_any (hS : Spans1) (x : Span) (kb sb : Nat) (w : World) (hx : x.text.length ≤ 65536) (hk : SetAt w kb kwL) (hs : SetAt w sb sgL) (hm : ML w) :
    Calls Try.prog 43 #[scan kb sb, tokV x 0] w fun e w' => e = .returned (.int .i64 (checkE x)) ∧ Below w.heap.size w w' := by
  unfold checkE
  by_cases hr : x.kind < 0 ∨ 4 < x.kind
  · rw [if_pos hr]
    obtain ⟨k, hkk⟩ : ∃ k, x.kind = k := ⟨_, rfl⟩
    obtain ⟨y, hy⟩ : ∃ y, mk x.text = y := ⟨_, rfl⟩
    dsimp only [tokV]
    rw [hkk, hy]
    rw [hkk] at hr
    clear hkk hy hk hs hm
    have hb : ∀ o o' o'', Below w.heap.size w (((w.alloc o).alloc o').alloc o'') := fun o o' o'' => (((Below.refl _ w).alloc (Nat.le_refl _) _).alloc (by simp) _).alloc (by simp <;> omega) _
    rcases hr with h | h
    all_goals
      go_enter Try.func43, Try.ntmps43
      go_wp2
    all_goals refine bodyPost_ret (v := .int .i64 11) (by simp [results, Try.results43, go_sem]) rfl ⟨rfl, ?_⟩
    all_goals exact hb _ _ _
  · rw [if_neg hr]
    exact checkToken_in hS x kb sb w hx hk hs hm (by omega) (by omega)
end Go.Proofs.Ytfilmombflohpaa
