/- merge: are two tokens, without anything between them, read as others? -/
import Derived.Test.YtfilmombflohpaaJ2B
set_option linter.unusedSimpArgs false
set_option linter.unusedVariables false
namespace Go.Proofs.Ytfilmombflohpaa
open Go.RowKit Go.ChangeMaps Go.WideMaps Go.Shelf
set_option maxRecDepth 100000

attribute [local go_sem] Oper.semAt_some

/-- The pair's cells behind some tokens. -/
def pairC : List Span → Array Value
  | [] => #[.int .i64 0, .string ⟨#[]⟩, .int .i64 0, .int .i64 0, .string ⟨#[]⟩, .int .i64 0]
  | [p] => #[.int .i64 p.kind, .string (mk p.text), .int .i64 p.at_, .int .i64 0, .string ⟨#[]⟩, .int .i64 0]
  | p :: q :: _ => #[.int .i64 p.kind, .string (mk p.text), .int .i64 p.at_, .int .i64 q.kind, .string (mk q.text), .int .i64 q.at_]

/-- A block of cells. -/
def BlockIs (W : World) (B : Nat) (t : TypeId) (cs : Array Value) : Prop := W.heap[B]? = some (.cells cs t (0, 0))
theorem blockIs_own {β : Type} (B : Nat) (t : TypeId) (f : β → Array Value) : Own (fun (s : β) W => BlockIs W B t (f s)) := fun _ _ _ _ hs hg hrow => (grownBy_keeps_cells hg hrow hs rfl).trans hs

theorem mk_beq (l : List UInt8) (y : ByteArray) : (mk l == y) = (l == y.data.toList) := by
  rw [beq_toListBytes, Lib.toList_data, Lib.toList_data]

theorem BlockIs.lt {W : World} {B : Nat} {t : TypeId} {cs : Array Value} (h : BlockIs W B t cs) : B < W.heap.size := (Array.getElem?_eq_some_iff.1 h).1
theorem BlockIs.set {W : World} {B : Nat} {t : TypeId} {cs : Array Value} (h : BlockIs W B t cs) (i : Nat) (v : Value) : BlockIs (W.setCell ⟨B, i, none⟩ v) B t (cs.setIfInBounds i v) := heap_setCell_same W B i cs t v h
theorem BlockIs.other {W : World} {B : Nat} {t : TypeId} {cs : Array Value} (h : BlockIs W B t cs) {B' : Nat} (hne : B ≠ B') (i : Nat) (v : Value) : BlockIs (W.setCell ⟨B', i, none⟩ v) B t cs := (heap_setCell_other W ⟨B', i, none⟩ B v hne).trans h
theorem BlockIs.at {W : World} {B : Nat} {t : TypeId} {cs : Array Value} (h : BlockIs W B t cs) (i : Nat) : W.cell? ⟨B, i, none⟩ = cs[i]? := by unfold World.cell?; rw [show W.heap[B]? = _ from h]; rfl
theorem BlockIs.thawed {W : World} {B : Nat} {t : TypeId} {cs : Array Value} (h : BlockIs W B t cs) (i : Nat) : W.frozen? ⟨B, i, none⟩ = false := by simp [World.frozen?, show W.heap[B]? = _ from h]
theorem kept_set {n₁ n₀ : Nat} {F : List Nat} {W : World} {B : Nat} {t : TypeId} {cs : Array Value} (h : BlockIs W B t cs) (hF : B ∈ F) (hn : n₁ ≤ B) (i : Nat) (v : Value) : Kept n₁ n₀ F W (W.setCell ⟨B, i, none⟩ v) := by
  refine ⟨by simp, fun k hk => heap_setCell_other W ⟨B, i, none⟩ k v (by simp; omega), fun k es cl _ he => ?_, fun k c t' fr he hk _ => ?_⟩
  · have hne : k ≠ B := by
      rintro rfl
      rw [show W.heap[k]? = _ from h] at he
      cases he
    exact (heap_setCell_other W ⟨B, i, none⟩ k v hne).trans he
  · have hne : k ≠ B := by rintro rfl; exact hk hF
    exact (heap_setCell_other W ⟨B, i, none⟩ k v hne).trans he

theorem pair_put {N n₀ : Nat} {F : List Nat} {w W : World} {c3 c4 c5 c6 : Array Value} {t3 t4 t5 t6 : TypeId} {i j k : Nat} {v0 v1 v2 v3 : Value} (h3 : BlockIs W (N + 3) t3 c3) (h4 : BlockIs W (N + 4) t4 c4) (h5 : BlockIs W (N + 5) t5 c5) (h6 : BlockIs W (N + 6) t6 c6) (hB : Below N w W) (F5 : N + 5 ∈ F) (F6 : N + 6 ∈ F)
    {W' : World} (hW : (((W.setCell ⟨N + 5, i, none⟩ v0).setCell ⟨N + 5, j, none⟩ v1).setCell ⟨N + 5, k, none⟩ v2).setCell ⟨N + 6, 0, none⟩ v3 = W') :
    KeepsOthers W W' ∧ Kept N n₀ F W W' ∧ BlockIs W' (N + 3) t3 c3 ∧ BlockIs W' (N + 4) t4 c4 ∧ BlockIs W' (N + 5) t5 (((c5.setIfInBounds i v0).setIfInBounds j v1).setIfInBounds k v2) ∧ BlockIs W' (N + 6) t6 (c6.setIfInBounds 0 v3) ∧ Below N w W' := by
  subst hW
  have e1 := h5.set i v0
  have e2 := e1.set j v1
  have e3 := e2.set k v2
  have s6 := ((h6.other (by omega : N + 6 ≠ N + 5) i v0).other (by omega : N + 6 ≠ N + 5) j v1).other (by omega : N + 6 ≠ N + 5) k v2
  refine ⟨(((KeepsOthers.setCell _ _ _).trans (KeepsOthers.setCell _ _ _)).trans (KeepsOthers.setCell _ _ _)).trans (KeepsOthers.setCell _ _ _), (((kept_set h5 F5 (by omega) _ _).trans (kept_set e1 F5 (by omega) _ _)).trans (kept_set e2 F5 (by omega) _ _)).trans (kept_set s6 F6 (by omega) _ _), ?_, ?_, e3.other (by omega) _ _, s6.set _ _, (((hB.setCell (by simp) _).setCell (by simp) _).setCell (by simp) _).setCell (by simp) _⟩
  · exact (((h3.other (by omega) _ _).other (by omega) _ _).other (by omega) _ _).other (by omega) _ _
  · exact (((h4.other (by omega) _ _).other (by omega) _ _).other (by omega) _ _).other (by omega) _ _

def StopP (pre : List Span) : Prop := ∃ p z, pre = p ++ [z] ∧ (∀ y ∈ p, y.err = 0) ∧ (z.err ≠ 0 ∨ p.length = 2)
def FineP (pre : List Span) : Prop := pre.length ≤ 2 ∧ ∀ z ∈ pre, z.err = 0
theorem merge_stop {a b : Span} {xs pre : List Span} (hs : spansL (a.text ++ b.text) = xs) (hp : pre <+: xs) (h : StopP pre) : mergeS a b = true := by
  obtain ⟨p, z, rfl, hp0, hz⟩ := h
  obtain ⟨t, rfl⟩ := hp
  unfold mergeS
  rw [hs]
  rcases p with _ | ⟨x, _ | ⟨y, p⟩⟩
  · rcases hz with hz | hz
    · rcases t with _ | ⟨u, _ | ⟨v, t⟩⟩
      · rfl
      · simp [hz]
      · rfl
    · simp at hz
  · rcases hz with hz | hz
    · rcases t with _ | ⟨u, t⟩
      · simp [hz]
      · rfl
    · simp at hz
  · rcases p with _ | ⟨u, p⟩
    · rfl
    · rfl

theorem own_pre {B : Nat} (P : List Span → Prop) : OwnFrom B (fun pre _ => P pre) := fun _ _ _ _ h _ _ => h
theorem alloc_size {W W' : World} {o : Obj} {n : Nat} (h : W.alloc o = W') (hn : W.heap.size = n) : W'.heap.size = n + 1 := by rw [← h, World.size_alloc, hn]
theorem alloc_below {W W' : World} {o : Obj} {m : Nat} (h : W.alloc o = W') (hm : m ≤ W.heap.size) : Below m W W' := by rw [← h]; exact (Below.refl _ _).alloc hm _
theorem alloc_block {W W' W'' : World} {o : Obj} {n : Nat} (h : W.alloc o = W') (hn : W.heap.size = n) (hb : Below (n + 1) W' W'') : W''.heap[n]? = some o :=
  (hb.block n (by omega)).trans (by rw [← h, ← hn]; exact World.alloc_heap_new W o)

set_option maxHeartbeats 8000000 in
theorem merge_any (hS : Spans1) (a b : Span) (kb sb : Nat) (w : World) (ha : a.text ≠ []) (hal : a.text.length ≤ 20000) (hbl : b.text.length ≤ 20000) (hk : SetAt w kb kwL) (hs : SetAt w sb sgL) (hm : ML w) :
    Calls Try.prog 72 #[scan kb sb, tokV a 0, tokV b 0] w fun e w' => e = .returned (.bool (mergeS a b)) ∧ Below w.heap.size w w' := by
  have HM := Lib.hid hm
  have HK := Lib.hid hk
  have HS := Lib.hid hs
  obtain ⟨ya, hya⟩ : ∃ y, mk a.text = y := ⟨_, rfl⟩
  obtain ⟨yb, hyb⟩ : ∃ y, mk b.text = y := ⟨_, rfl⟩
  have hyal : ya.size = a.text.length := by rw [← hya, size_of_list]
  have hybl : yb.size = b.text.length := by rw [← hyb, size_of_list]
  have hyad : ya.data.toList = a.text := by rw [← hya]
  have hybd : yb.data.toList = b.text := by rw [← hyb]
  have hyd : (ya ++ yb).data.toList = a.text ++ b.text := by rw [ByteArray.data_append]; simp [hyad, hybd]
  have hys : (ya ++ yb).size ≤ 65536 := by rw [ByteArray.size_append]; omega
  have hya1 : ya.size ≤ 20000 := by omega
  have hyb1 : yb.size ≤ 20000 := by omega
  have hya0 : 0 < ya.size := by rw [hyal]; exact List.length_pos_iff.2 ha
  have hsp : spansL (a.text ++ b.text) = spansT (ya ++ yb) (ya ++ yb).data.toList 0 := by rw [hyd]; exact spansL_T _ _ (by rw [List.length_append, ByteArray.size_append]; omega)
  have HM1 := Lib.hid hyad
  have HM2 := Lib.hid hybd
  have HYAL := Lib.hid hyal
  have HSP := Lib.hid hsp
  obtain ⟨ka, hka⟩ : ∃ k, a.kind = k := ⟨_, rfl⟩
  obtain ⟨kc, hkc⟩ : ∃ k, b.kind = k := ⟨_, rfl⟩
  have HKA := Lib.hid hka
  have HKC := Lib.hid hkc
  dsimp only [tokV]
  rw [hya, hyb, hka, hkc]
  clear hm hk hs hya hyb hyal hybl hyad hybd hyd hsp ha hal hbl hka hkc
  refine (callsIn_wide (n := 5)).1 ?_
  refine callsIn_of_wp_marks Try.func72 rfl trivial ?_ rfl
  simp only [Try.ntmps72, List.size_toArray, List.length_cons, List.length_nil, Nat.reduceAdd, Nat.reduceSub, Array.replicate_succ, Array.replicate_zero, List.push_toArray, List.append_toArray, List.nil_append, List.cons_append]
  gi_wp2_with (refine ⟨trivial, ?_⟩; gi_at_call 30; refine (callsIn_wide.2 (spans_any _ _ _ _)).mono ?_; rintro e w2 ⟨rfl, rfl⟩)
  obtain ⟨N, hN⟩ : ∃ N, w.heap.size = N := ⟨_, rfl⟩
  obtain ⟨W1, hW1⟩ : ∃ W', w.alloc (.cells #[.map (some kb), .map (some sb)] 58) = W' := ⟨_, rfl⟩
  obtain ⟨W2, hW2⟩ : ∃ W', W1.alloc (.cells #[.int .i64 ka, .string ya, .int .i64 0] 47) = W' := ⟨_, rfl⟩
  obtain ⟨W3, hW3⟩ : ∃ W', W2.alloc (.cells #[.int .i64 kc, .string yb, .int .i64 ya.size] 47) = W' := ⟨_, rfl⟩
  obtain ⟨W4, hW4⟩ : ∃ W', W3.alloc (.cells #[.bool false] 4) = W' := ⟨_, rfl⟩
  obtain ⟨W5, hW5⟩ : ∃ W', W4.alloc (.cells #[.int .i64 ka, .string ya, .int .i64 0, .int .i64 kc, .string yb, .int .i64 ya.size] 105) = W' := ⟨_, rfl⟩
  obtain ⟨W6, hW6⟩ : ∃ W', W5.alloc (.cells #[.int .i64 0, .string ⟨#[]⟩, .int .i64 0, .int .i64 0, .string ⟨#[]⟩, .int .i64 0] 105) = W' := ⟨_, rfl⟩
  obtain ⟨W7, hW7⟩ : ∃ W', W6.alloc (.cells #[.int .i64 0] 3) = W' := ⟨_, rfl⟩
  obtain ⟨W8, hW8⟩ : ∃ W', W7.alloc (.cells #[.map (some kb), .map (some sb)] 58) = W' := ⟨_, rfl⟩
  obtain ⟨W9, hW9⟩ : ∃ W', W8.alloc (.cells #[.string (ya ++ yb)] 9) = W' := ⟨_, rfl⟩
  rw [hW1, hW2, hW3, hW4, hW5, hW6, hW7, hW8, hW9]
  have z0 := hN
  have z1 := alloc_size hW1 z0
  have z2 := alloc_size hW2 z1
  have z3 := alloc_size hW3 z2
  have z4 := alloc_size hW4 z3
  have z5 := alloc_size hW5 z4
  have z6 := alloc_size hW6 z5
  have z7 := alloc_size hW7 z6
  have z8 := alloc_size hW8 z7
  have z9 := alloc_size hW9 z8
  have hB0 : Below N w W9 := (((((((((alloc_below hW1 (by omega))).trans (alloc_below hW2 (by omega))).trans (alloc_below hW3 (by omega))).trans (alloc_below hW4 (by omega))).trans (alloc_below hW5 (by omega))).trans (alloc_below hW6 (by omega))).trans (alloc_below hW7 (by omega))).trans (alloc_below hW8 (by omega))).trans (alloc_below hW9 (by omega))
  have k2 := alloc_block hW2 z1 ((((((((alloc_below hW3 (by omega))).trans (alloc_below hW4 (by omega))).trans (alloc_below hW5 (by omega))).trans (alloc_below hW6 (by omega))).trans (alloc_below hW7 (by omega))).trans (alloc_below hW8 (by omega))).trans (alloc_below hW9 (by omega)))
  have k3 := alloc_block hW3 z2 (((((((alloc_below hW4 (by omega))).trans (alloc_below hW5 (by omega))).trans (alloc_below hW6 (by omega))).trans (alloc_below hW7 (by omega))).trans (alloc_below hW8 (by omega))).trans (alloc_below hW9 (by omega)))
  have k4 := alloc_block hW4 z3 ((((((alloc_below hW5 (by omega))).trans (alloc_below hW6 (by omega))).trans (alloc_below hW7 (by omega))).trans (alloc_below hW8 (by omega))).trans (alloc_below hW9 (by omega)))
  have k5 := alloc_block hW5 z4 (((((alloc_below hW6 (by omega))).trans (alloc_below hW7 (by omega))).trans (alloc_below hW8 (by omega))).trans (alloc_below hW9 (by omega)))
  have k6 := alloc_block hW6 z5 ((((alloc_below hW7 (by omega))).trans (alloc_below hW8 (by omega))).trans (alloc_below hW9 (by omega)))
  have k7 := alloc_block hW7 z6 (((alloc_below hW8 (by omega))).trans (alloc_below hW9 (by omega)))
  have k8 := alloc_block hW8 z7 ((alloc_below hW9 (by omega)))
  have k9 := alloc_block hW9 z8 (Below.refl _ _)
  have hE0 : Env (ya ++ yb) (N + 8) (N + 7) kb sb W9 := ⟨k9, k8, HK.out.below hB0 (by rw [← hN]; exact HK.out.lt), HS.out.below hB0 (by rw [← hN]; exact HS.out.lt), HM.out.below hB0 (by rw [← hN]; exact HM.out.lt)⟩
  have h0N : 0 < N := by rw [← hN]; exact HM.out.lt
  have hk0 : kb < W9.heap.size := by have := HK.out.lt; omega
  have hk1 : sb < W9.heap.size := by have := HS.out.lt; omega
  have HSQ := Lib.hid (seqK hS (ya ++ yb) hys (N + 8) (N + 7) kb sb N W9.heap.size [N, N + 1, N + 2, N + 3, N + 4, N + 5, N + 6] W9 hE0 h0N hk0 hk1 (by simp) (by simp) (by simp; omega) (by omega) 4 (by omega))
  rw [hN]
  simp only [Nat.add_assoc, Nat.reduceAdd]
  have hN9 : N ≤ W9.heap.size := by omega
  have hz9 : N + 9 = W9.heap.size := z9.symm
  clear hW1 hW2 hW3 hW4 hW5 hW6 hW7 hW8 hW9 z0 z1 z2 z3 z4 z5 z6 z7 z8 z9 hys k8 k9
  refine wpIn_rangeFunc_ownH rfl (by omega) (gf := 55) (lb := #[.pointer (some ⟨N + 8, 0, none⟩), .pointer (some ⟨N + 7, 0, none⟩)]) rfl trivial (enters_of Try.func55 (by kernel_rfl) rfl)
    HSQ.out Kept.trans (Kept.putObj hN9 (Nat.le_refl _)) (Below.refl _ _) (fun _ => rfl)
    (fun pre W => ((((FineP pre ∧ BlockIs W (N + 3) 4 #[.bool false]) ∧ BlockIs W (N + 4) 105 #[.int .i64 ka, .string ya, .int .i64 0, .int .i64 kc, .string yb, .int .i64 ya.size]) ∧ BlockIs W (N + 5) 105 (pairC pre)) ∧ BlockIs W (N + 6) 3 #[.int .i64 pre.length]) ∧ Below N w W)
    (fun c pre W => ((c = .ret ∧ StopP pre) ∧ BlockIs W (N + 3) 4 #[.bool true]) ∧ Below N w W)
    (OwnFrom.and (OwnFrom.and (OwnFrom.and (OwnFrom.and (OwnFrom.and (own_pre FineP) (Own.from (blockIs_own (N + 3) 4 (fun _ => #[.bool false])) _)) (Own.from (blockIs_own (N + 4) 105 (fun _ => #[.int .i64 ka, .string ya, .int .i64 0, .int .i64 kc, .string yb, .int .i64 ya.size])) _)) (Own.from (blockIs_own (N + 5) 105 pairC) _)) (Own.from (blockIs_own (N + 6) 3 (fun pre : List Span => #[.int .i64 pre.length])) _)) (ownFrom_below (Nat.le_of_eq hN.symm) hN9))
    (fun c => OwnFrom.and (OwnFrom.and (own_pre (fun pre => c = .ret ∧ StopP pre)) (Own.from (blockIs_own (N + 3) 4 (fun _ => #[.bool true])) _)) (ownFrom_below (Nat.le_of_eq hN.symm) hN9))
    ⟨⟨⟨⟨⟨(show FineP [] from ⟨by simp, by simp⟩), k4⟩, k5⟩, k6⟩, k7⟩, hB0⟩
    (fun z a' W => ∃ Bx, N + 6 < Bx ∧ SpanBox W Bx z ∧ a' = { tmps := #[scan kb sb, .agg #[.int .i64 ka, .string ya, .int .i64 0], .agg #[.int .i64 kc, .string yb, .int .i64 0], .pointer (some ⟨N, 0, none⟩), .pointer (some ⟨N + 1, 0, none⟩), .pointer (some ⟨N + 2, 0, none⟩), .pointer (some ⟨N + 3, 0, none⟩), .pointer (some ⟨N + 4, 0, none⟩), .pointer (some ⟨N + 5, 0, none⟩), .pointer (some ⟨N + 6, 0, none⟩), .pointer (some ⟨Bx, 0, none⟩), .int .i64 z.err, .pointer (some ⟨N + 1, 1, none⟩), .string ya, .int .i64 ya.size, .pointer (some ⟨N + 2, 2, none⟩), .agg #[.int .i64 ka, .string ya, .int .i64 0], .agg #[.int .i64 kc, .string yb, .int .i64 ya.size], .agg #[.int .i64 ka, .string ya, .int .i64 0, .int .i64 kc, .string yb, .int .i64 ya.size], .agg #[.int .i64 0, .string ⟨#[]⟩, .int .i64 0, .int .i64 0, .string ⟨#[]⟩, .int .i64 0], scan kb sb, .pointer (some ⟨N + 1, 1, none⟩), .string ya, .pointer (some ⟨N + 2, 1, none⟩), .string yb, .string (ya ++ yb), .func (.func 55) #[] #[.pointer (some ⟨N + 8, 0, none⟩), .pointer (some ⟨N + 7, 0, none⟩)], spanV z, .int .i64 z.err, undef, undef, undef, undef, undef, undef, undef, undef, undef, undef, undef, undef, undef, undef, undef], defers := [] })
    (fun z a' _ X Y row hs hg hr => by obtain ⟨Bx, h1, h2, h3⟩ := hs; exact ⟨Bx, h1, spanBox_own Bx z () X Y row h2 hg (fun r e => (hr r e).2), h3⟩)
    ?assign ?body ?done ?stop
  case assign =>
    rintro l pre z W K ⟨⟨⟨⟨⟨hp, h3⟩, h4⟩, h5⟩, h6⟩, hB⟩ hK
    dsimp only [encS, spanV]
    have hl6 : N + 6 < W.heap.size := (Array.getElem?_eq_some_iff.1 h6).1
    gi_wp2
    exact hK _ _ ((KeepsOthers.alloc _ _).from _) (Kept.of_below ((Below.refl _ W).alloc (Nat.le_refl _) _) (by omega)) ⟨⟨⟨⟨⟨hp, (blockIs_own (N + 3) 4 (fun _ : Unit => #[.bool false])).alloc (s := ()) _ h3⟩, (blockIs_own (N + 4) 105 (fun _ : Unit => #[.int .i64 ka, .string ya, .int .i64 0, .int .i64 kc, .string yb, .int .i64 ya.size])).alloc (s := ()) _ h4⟩, (blockIs_own (N + 5) 105 pairC).alloc (s := pre) _ h5⟩, (blockIs_own (N + 6) 3 (fun pre : List Span => #[.int .i64 pre.length])).alloc (s := pre) _ h6⟩, hB.alloc (by omega) _⟩ ⟨W.heap.size, hl6, World.alloc_heap_new W _, rfl⟩
  case body =>
    rintro l pre z a' W hl _ ⟨⟨⟨⟨⟨hp, h3⟩, h4⟩, h5⟩, h6⟩, hB⟩ ⟨Bx, hBx, hz, rfl⟩ hlt
    have HP := Lib.hid hp
    clear hp
    have c3 : W.cell? ⟨N + 3, 0, none⟩ = some (.bool false) := by unfold World.cell?; rw [show W.heap[N + 3]? = _ from h3]; rfl
    have f3 : W.frozen? ⟨N + 3, 0, none⟩ = false := by simp [World.frozen?, show W.heap[N + 3]? = _ from h3]
    have f6 : W.frozen? ⟨N + 6, 0, none⟩ = false := by simp [World.frozen?, show W.heap[N + 6]? = _ from h6]
    have x0 : W.cell? ⟨Bx, 0, none⟩ = some (.int .i64 z.kind) := by unfold World.cell?; rw [show W.heap[Bx]? = _ from hz]; rfl
    have x1 : W.cell? ⟨Bx, 1, none⟩ = some (.string (mk z.text)) := by unfold World.cell?; rw [show W.heap[Bx]? = _ from hz]; rfl
    have x2 : W.cell? ⟨Bx, 2, none⟩ = some (.int .i64 z.at_) := by unfold World.cell?; rw [show W.heap[Bx]? = _ from hz]; rfl
    have g5 : ∀ i, W.frozen? ⟨N + 5, i, none⟩ = false := by intro i; simp [World.frozen?, show W.heap[N + 5]? = _ from h5]
    dsimp only [spanV]
    by_cases he : z.err = 0
    · have hb : (z.err != 0) = false := by simpa using he
      rcases pre with _ | ⟨p, _ | ⟨q, _ | ⟨r, t⟩⟩⟩
      · have c6 : W.cell? ⟨N + 6, 0, none⟩ = some (.int .i64 0) := by unfold World.cell?; rw [show W.heap[N + 6]? = _ from h6]; rfl
        have d0 : W.cell? ⟨N + 5, 0, none⟩ = some (.int .i64 0) := by unfold World.cell?; rw [show W.heap[N + 5]? = _ from h5]; rfl
        have d1 : W.cell? ⟨N + 5, 1, none⟩ = some (.string ⟨#[]⟩) := by unfold World.cell?; rw [show W.heap[N + 5]? = _ from h5]; rfl
        have d2 : W.cell? ⟨N + 5, 2, none⟩ = some (.int .i64 0) := by unfold World.cell?; rw [show W.heap[N + 5]? = _ from h5]; rfl
        have HE := Lib.hid he
        clear he
        gi_wp2
        obtain ⟨p1, p2, p3, p4, p5, p6, p7⟩ := pair_put (n₀ := W9.heap.size) (F := [N, N + 1, N + 2, N + 3, N + 4, N + 5, N + 6]) h3 h4 h5 h6 hB (by simp) (by simp) rfl
        exact ⟨p1.from _, p2, ⟨⟨⟨⟨(show FineP [z] from ⟨by simp, by intro y hy; simp only [List.mem_singleton] at hy; rw [hy]; exact HE.out⟩), p3⟩, p4⟩, p5⟩, p6⟩, p7⟩
      · have c6 : W.cell? ⟨N + 6, 0, none⟩ = some (.int .i64 1) := by unfold World.cell?; rw [show W.heap[N + 6]? = _ from h6]; rfl
        have d0 : W.cell? ⟨N + 5, 3, none⟩ = some (.int .i64 0) := by unfold World.cell?; rw [show W.heap[N + 5]? = _ from h5]; rfl
        have d1 : W.cell? ⟨N + 5, 4, none⟩ = some (.string ⟨#[]⟩) := by unfold World.cell?; rw [show W.heap[N + 5]? = _ from h5]; rfl
        have d2 : W.cell? ⟨N + 5, 5, none⟩ = some (.int .i64 0) := by unfold World.cell?; rw [show W.heap[N + 5]? = _ from h5]; rfl
        have HE := Lib.hid he
        clear he
        gi_wp2
        obtain ⟨p1, p2, p3, p4, p5, p6, p7⟩ := pair_put (n₀ := W9.heap.size) (F := [N, N + 1, N + 2, N + 3, N + 4, N + 5, N + 6]) h3 h4 h5 h6 hB (by simp) (by simp) rfl
        exact ⟨p1.from _, p2, ⟨⟨⟨⟨(show FineP [p, z] from ⟨by simp, by
          intro y hy
          rcases List.mem_cons.1 hy with rfl | hy
          · exact HP.out.2 _ (by simp)
          · simp only [List.mem_singleton] at hy; rw [hy]; exact HE.out⟩), p3⟩, p4⟩, p5⟩, p6⟩, p7⟩
      · have c6 : W.cell? ⟨N + 6, 0, none⟩ = some (.int .i64 2) := by unfold World.cell?; rw [show W.heap[N + 6]? = _ from h6]; rfl
        have HE := Lib.hid he
        clear he
        gi_wp2
        exact ⟨(KeepsOthers.setCell _ _ _).from _, ⟨⟨rfl, ⟨[p, q], z, rfl, HP.out.2, .inr rfl⟩⟩, h3.set 0 (.bool true)⟩, hB.setCell (by simp) _⟩
      · have := HP.out.1
        simp at this
    · have hb : (z.err != 0) = true := by simpa using he
      have HE := Lib.hid he
      clear he
      gi_wp2
      exact ⟨(KeepsOthers.setCell _ _ _).from _, ⟨⟨rfl, ⟨pre, z, rfl, HP.out.2, .inl HE.out⟩⟩, h3.set 0 (.bool true)⟩, hB.setCell (by simp) _⟩
  case done =>
    rintro D ys W hD hys ⟨⟨⟨⟨⟨hp, h3⟩, h4⟩, h5⟩, h6⟩, hB⟩ hK
    have HYS := Lib.hid hys
    have HP := Lib.hid hp
    clear hys hp
    have c3 := h3.at 0
    have f3 := h3.thawed 0
    have w0 := h4.at 0
    have w1 := h4.at 1
    have w2 := h4.at 2
    have w3 := h4.at 3
    have w4 := h4.at 4
    have w5 := h4.at 5
    rcases ys with _ | ⟨p, _ | ⟨q, _ | ⟨r, t⟩⟩⟩
    · have hbool : (!(((0 : Int) == ka && ((⟨#[]⟩ : ByteArray) == ya && (0 : Int) == 0)) && ((0 : Int) == kc && ((⟨#[]⟩ : ByteArray) == yb && (0 : Int) == (ya.size : Int))))) = true := by
        have : ((0 : Int) == (ya.size : Int)) = false := by simp; omega
        rw [this]; simp
      have hq := fun W => neq_pair 0 0 0 0 ka 0 kc ya.size ⟨#[]⟩ ⟨#[]⟩ ya yb W
      simp only [hbool] at hq
      clear hbool
      have HR : Hid (mergeS a b = true) := by show _ = _; unfold mergeS; rw [HSP.out, ← HYS.out]
      have d0 := h5.at 0
      have d1 := h5.at 1
      have d2 := h5.at 2
      have d3 := h5.at 3
      have d4 := h5.at 4
      have d5 := h5.at 5
      simp only [pairC, List.getElem?_toArray, List.getElem?_cons_zero, List.getElem?_cons_succ] at c3 w0 w1 w2 w3 w4 w5 d0 d1 d2 d3 d4 d5
      gi_wp2
      have k3 := h3.set 0 (.bool true)
      have hKf := (KeepsOthers.setCell W ⟨N + 3, 0, none⟩ (.bool true)).same D _ hK rfl
      have hBf := (Below.refl N W).setCell (p := ⟨N + 3, 0, none⟩) (by simp) (.bool true)
      obtain ⟨Wf, hWf⟩ : ∃ Wf, W.setCell ⟨N + 3, 0, none⟩ (.bool true) = Wf := ⟨_, rfl⟩
      rw [hWf] at k3 hKf hBf ⊢
      have q1 : (Wf.putObj D (.deferred none)).cell? ⟨N + 3, 0, none⟩ = some (.bool true) := (World.cell?_of_block (a := ⟨N + 3, 0, none⟩) (World.putObj_heap_other (by simp; omega))).trans (k3.at 0)
      refine ⟨by simp, .inl ⟨_, _, rfl, run_takeDeferred hKf, ?_⟩⟩
      refine ⟨.bool true, ?_, ret_bool (HR.out.symm), ?_⟩
      · simp [results, Try.results72, go_sem, q1]
      · rw [hN]
        exact (hB.trans hBf).trans (belowK_b (w := W9) (by omega) Wf D _ _ (by omega) hKf rfl rfl)
    · have hbool : (!((p.kind == ka && (mk p.text == ya && p.at_ == 0)) && ((0 : Int) == kc && ((⟨#[]⟩ : ByteArray) == yb && (0 : Int) == (ya.size : Int))))) = true := by
        have : ((0 : Int) == (ya.size : Int)) = false := by simp; omega
        rw [this]; simp
      have hq := fun W => neq_pair p.kind p.at_ 0 0 ka 0 kc ya.size (mk p.text) ⟨#[]⟩ ya yb W
      simp only [hbool] at hq
      clear hbool
      have HR : Hid (mergeS a b = true) := by show _ = _; unfold mergeS; rw [HSP.out, ← HYS.out]
      have d0 := h5.at 0
      have d1 := h5.at 1
      have d2 := h5.at 2
      have d3 := h5.at 3
      have d4 := h5.at 4
      have d5 := h5.at 5
      simp only [pairC, List.getElem?_toArray, List.getElem?_cons_zero, List.getElem?_cons_succ] at c3 w0 w1 w2 w3 w4 w5 d0 d1 d2 d3 d4 d5
      gi_wp2
      have k3 := h3.set 0 (.bool true)
      have hKf := (KeepsOthers.setCell W ⟨N + 3, 0, none⟩ (.bool true)).same D _ hK rfl
      have hBf := (Below.refl N W).setCell (p := ⟨N + 3, 0, none⟩) (by simp) (.bool true)
      obtain ⟨Wf, hWf⟩ : ∃ Wf, W.setCell ⟨N + 3, 0, none⟩ (.bool true) = Wf := ⟨_, rfl⟩
      rw [hWf] at k3 hKf hBf ⊢
      have q1 : (Wf.putObj D (.deferred none)).cell? ⟨N + 3, 0, none⟩ = some (.bool true) := (World.cell?_of_block (a := ⟨N + 3, 0, none⟩) (World.putObj_heap_other (by simp; omega))).trans (k3.at 0)
      refine ⟨by simp, .inl ⟨_, _, rfl, run_takeDeferred hKf, ?_⟩⟩
      refine ⟨.bool true, ?_, ret_bool (HR.out.symm), ?_⟩
      · simp [results, Try.results72, go_sem, q1]
      · rw [hN]
        exact (hB.trans hBf).trans (belowK_b (w := W9) (by omega) Wf D _ _ (by omega) hKf rfl rfl)
    · obtain ⟨m, hm⟩ : ∃ m, (!((p.kind == ka && (mk p.text == ya && p.at_ == 0)) && (q.kind == kc && (mk q.text == yb && q.at_ == (ya.size : Int))))) = m := ⟨_, rfl⟩
      have hq := fun W => neq_pair p.kind p.at_ q.kind q.at_ ka 0 kc ya.size (mk p.text) (mk q.text) ya yb W
      simp only [hm] at hq
      have HR : Hid (mergeS a b = m) := by
        show _ = _
        rw [← hm]
        unfold mergeS
        rw [HSP.out, ← HYS.out]
        have e1 := HP.out.2 p (by simp)
        have e2 := HP.out.2 q (by simp)
        have b1 : (mk p.text == ya) = (p.text == a.text) := by rw [mk_beq, HM1.out]
        have b2 : (mk q.text == yb) = (q.text == b.text) := by rw [mk_beq, HM2.out]
        dsimp only
        rw [b1, b2, HYAL.out, e1, e2, HKA.out, HKC.out]
        rw [Bool.eq_iff_iff]
        simp [or_assoc]
      have HMM := Lib.hid hm
      clear hm
      have d0 := h5.at 0
      have d1 := h5.at 1
      have d2 := h5.at 2
      have d3 := h5.at 3
      have d4 := h5.at 4
      have d5 := h5.at 5
      simp only [pairC, List.getElem?_toArray, List.getElem?_cons_zero, List.getElem?_cons_succ] at c3 w0 w1 w2 w3 w4 w5 d0 d1 d2 d3 d4 d5
      gi_wp2
      have k3 := h3.set 0 (.bool m)
      have hKf := (KeepsOthers.setCell W ⟨N + 3, 0, none⟩ (.bool m)).same D _ hK rfl
      have hBf := (Below.refl N W).setCell (p := ⟨N + 3, 0, none⟩) (by simp) (.bool m)
      obtain ⟨Wf, hWf⟩ : ∃ Wf, W.setCell ⟨N + 3, 0, none⟩ (.bool m) = Wf := ⟨_, rfl⟩
      rw [hWf] at k3 hKf hBf ⊢
      have q1 : (Wf.putObj D (.deferred none)).cell? ⟨N + 3, 0, none⟩ = some (.bool m) := (World.cell?_of_block (a := ⟨N + 3, 0, none⟩) (World.putObj_heap_other (by simp; omega))).trans (k3.at 0)
      refine ⟨by simp, .inl ⟨_, _, rfl, run_takeDeferred hKf, ?_⟩⟩
      refine ⟨.bool m, ?_, ret_bool (HR.out.symm), ?_⟩
      · simp [results, Try.results72, go_sem, q1]
      · rw [hN]
        exact (hB.trans hBf).trans (belowK_b (w := W9) (by omega) Wf D _ _ (by omega) hKf rfl rfl)
    · have := HP.out.1
      simp at this
  case stop =>
    rintro D c pre W hD hp ⟨⟨⟨rfl, hst⟩, h3⟩, hB⟩ hK
    have HR : Hid (mergeS a b = true) := merge_stop HSP.out hp hst
    clear hp hst
    have q1 : (W.putObj D (.deferred none)).cell? ⟨N + 3, 0, none⟩ = some (.bool true) := (World.cell?_of_block (a := ⟨N + 3, 0, none⟩) (World.putObj_heap_other (by simp; omega))).trans (h3.at 0)
    gi_wp2
    refine ⟨by simp, .inl ⟨_, _, rfl, run_takeDeferred hK, ?_⟩⟩
    refine ⟨.bool true, ?_, ret_bool HR.out.symm, ?_⟩
    · simp [results, Try.results72, go_sem, q1]
    · rw [hN]
      exact hB.trans (belowK_b (w := W9) (by omega) W D _ _ (by omega) hK rfl rfl)
end Go.Proofs.Ytfilmombflohpaa
