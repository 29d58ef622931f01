/- Join: plain facts on joined texts. -/
import Derived.Test.YtfilmombflohpaaJ7
import Derived.Test.YtfilmombflohpaaB1
set_option linter.unusedSimpArgs false
set_option linter.unusedVariables false
namespace Go.Proofs.Ytfilmombflohpaa
open Go.RowKit Go.ChangeMaps Go.WideMaps Go.Shelf
set_option maxRecDepth 100000

theorem checkE_good {x : Span} (h : checkE x = 0) : Good x := by
  unfold checkE at h
  split at h
  · cases h
  · unfold okE at h
    split at h
    · rename_i h1
      rw [good_iff]
      unfold okHead at h1
      split at h1
      · rename_i y t hs
        unfold headOk at h1
        simp only [Bool.and_eq_true, decide_eq_true_eq, beq_iff_eq] at h1
        exact ⟨y, t, hs, h1.1.1, h1.1.2.1.1, h1.1.2.1.2, h1.1.2.2⟩
      · cases h1
    · cases h

/-- What a further token adds to a joined text. -/
def sepS (a b : Span) : List UInt8 := if gapB a b = true then 32 :: b.text else b.text

theorem restL_snoc (b : Span) : ∀ (p : List Span) (x a : Span), (x :: p).getLast? = some a → restL x (p ++ [b]) = restL x p ++ sepS a b
  | [], x, a, h => by
    have : x = a := by simpa using h
    subst this
    simp [restL, sepS]
  | u :: us, x, a, h => by
    have h' : (u :: us).getLast? = some a := by simpa using h
    have ih := restL_snoc b us u a h'
    show (if gapB x u = true then 32 :: u.text else u.text) ++ restL u (us ++ [b]) = (if gapB x u = true then 32 :: u.text else u.text) ++ restL u us ++ sepS a b
    rw [ih, List.append_assoc]

theorem joinL_snoc {l : List Span} {a b : Span} (h : l.getLast? = some a) : joinL (l ++ [b]) = joinL l ++ sepS a b := by
  cases l with
  | nil => simp at h
  | cons x p =>
    show x.text ++ restL x (p ++ [b]) = x.text ++ restL x p ++ sepS a b
    rw [restL_snoc b p x a h, List.append_assoc]

theorem joinL_step {ys : List Span} {j : Nat} {a b : Span} (ha : ys[j]? = some a) (hb : ys[j + 1]? = some b) : joinL (ys.take (j + 2)) = joinL (ys.take (j + 1)) ++ sepS a b := by
  have e1 : ys.take (j + 2) = ys.take (j + 1) ++ [b] := by rw [List.take_add_one, hb]; rfl
  have e2 : ys.take (j + 1) = ys.take j ++ [a] := by rw [List.take_add_one, ha]; rfl
  rw [e1, joinL_snoc (a := a) (by rw [e2]; simp)]
theorem joinL_first {ys : List Span} {b : Span} (hb : ys[0]? = some b) : joinL (ys.take 1) = b.text := by
  cases ys with
  | nil => cases hb
  | cons y ys =>
    have : y = b := by simpa using hb
    subst this
    simp [joinL, restL]

theorem restL_len : ∀ (p : List Span) (x : Span), (∀ y ∈ p, y.text.length ≤ 200) → (restL x p).length ≤ 201 * p.length
  | [], _, _ => by simp [restL]
  | u :: us, x, h => by
    have ih := restL_len us u (fun y hy => h y (by simp [hy]))
    have hu := h u (by simp)
    show ((if gapB x u = true then 32 :: u.text else u.text) ++ restL u us).length ≤ _
    rw [List.length_append]
    have : (if gapB x u = true then 32 :: u.text else u.text).length ≤ 201 := by
      split
      · simp only [List.length_cons]; omega
      · omega
    simp only [List.length_cons]
    omega
theorem joinL_len {l : List Span} (h : ∀ y ∈ l, y.text.length ≤ 200) : (joinL l).length ≤ 201 * l.length := by
  cases l with
  | nil => simp [joinL]
  | cons x p =>
    have h1 := restL_len p x (fun y hy => h y (by simp [hy]))
    have h2 := h x (by simp)
    show (x.text ++ restL x p).length ≤ _
    rw [List.length_append]
    simp only [List.length_cons]
    omega

theorem firstE_zero {es : List Int} (h : firstE es = 0) : ∀ e ∈ es, e = 0 := by
  induction es with
  | nil => intro e he; cases he
  | cons a r ih =>
    intro e he
    unfold firstE at h
    by_cases ha : a = 0
    · rw [if_pos ha] at h
      rcases List.mem_cons.1 he with rfl | he
      · exact ha
      · exact ih h e he
    · rw [if_neg ha] at h
      exact absurd h ha

/-- What Join answers. -/
def joinV (xs : List Span) : Value := if firstE (xs.map checkE) = 0 then .tuple #[.string (mk (joinL xs)), .int .i64 0] else .tuple #[.string (mk []), .int .i64 (firstE (xs.map checkE))]

theorem check_z0 (xs : List Span) : (xs.map z0).map checkE = xs.map checkE := by rw [List.map_map]; rfl
theorem restL_z0 : ∀ (p : List Span) (x : Span), restL (z0 x) (p.map z0) = restL x p
  | [], _ => rfl
  | u :: us, x => by
    show (if gapB x u = true then 32 :: u.text else u.text) ++ restL (z0 u) (us.map z0) = (if gapB x u = true then 32 :: u.text else u.text) ++ restL u us
    rw [restL_z0 us u]
theorem joinL_z0 (xs : List Span) : joinL (xs.map z0) = joinL xs := by
  cases xs with
  | nil => rfl
  | cons x p =>
    show x.text ++ restL (z0 x) (p.map z0) = x.text ++ restL x p
    rw [restL_z0]
end Go.Proofs.Ytfilmombflohpaa

namespace Go.Proofs.Ytfilmombflohpaa
open Go.RowKit Go.ChangeMaps Go.WideMaps Go.Shelf
set_option maxRecDepth 100000

theorem bytes_mk (l : List UInt8) : Lib.strCells (mk l) = Lib.byteCells l := by rw [Lib.strCells_eq]
theorem kept_cell {e : TypeId} {b : Nat} {w w' : World} (h : Lib.OthersKept e (some b) w w') {k : Nat} {cs : Array Value} {t : TypeId} (hk : w.heap[k]? = some (.cells cs t (0, 0))) (hb : k ≠ b) (ht : t ≠ e) : w'.heap[k]? = some (.cells cs t (0, 0)) :=
  h k _ hk (fun e => hb (Option.some.inj e)) (fun c fz h => ht (by cases h; rfl))

theorem bldF_below {T e : TypeId} {B b : Nat} {bs : List Value} {W W' : World} (h : Lib.IsBuilderF T e B b bs W) (hb : Below W.heap.size W W') : Lib.IsBuilderF T e B b bs W' := by
  have hk : W.grownBy W' none := ⟨hb.os, hb.tape, hb.output, hb.size, fun k hk _ => hb.block k hk⟩
  rcases h with h | h
  · have hlt := h.lt
    obtain ⟨h1, u, h2, h3, h4⟩ := h
    exact .inl ⟨h1, u, (hb.block b hlt).trans h2, h3.kept hk (Classical.em _), h4⟩
  · have hlt := h.lt
    obtain ⟨h1, u, h2, h3, h4⟩ := h
    exact .inr ⟨h1, u, (hb.block b hlt).trans h2, h3.kept hk (Classical.em _), h4⟩

theorem below_dN {B : Nat} {w w' : World} (h : Below B w w') (n : Nat) : Below B w (w'.drewN n) := ⟨h.os, h.tape, h.output, h.size, h.block⟩
theorem write_any (b : Nat) (acc t : List UInt8) (W : World) (h : Lib.IsBuilderF 77 5 b b (Lib.byteCells acc) W) (hl : acc.length + t.length ≤ 140737488355328) (hb : b ≤ W.heap.size) :
    Calls Try.prog 46 #[.pointer (some ⟨b, 0, none⟩), .string (mk t)] W fun e w' => e = .returned (.tuple #[.int .i64 (mk t).size, .nilIface]) ∧ Lib.IsBuilderF 77 5 b b (Lib.byteCells (acc ++ t)) w' ∧ Below b W w' ∧ Lib.OthersKept 5 (some b) W w' := by
  refine (writeString_any b b _ (mk t) W h (by unfold Lib.byteCells; rw [List.length_map]; exact hl) hb).mono ?_
  rintro e w' ⟨rfl, h1, h2, h3⟩
  refine ⟨rfl, .inr ?_, h2, h3⟩
  rw [bytes_mk] at h1
  rw [Lib.byteCells_append]
  exact h1
theorem write32_any (b : Nat) (acc : List UInt8) (W : World) (h : Lib.IsBuilderF 77 5 b b (Lib.byteCells acc) W) (hl : acc.length + 1 ≤ 140737488355328) (hb : b ≤ W.heap.size) :
    Calls Try.prog 45 #[.pointer (some ⟨b, 0, none⟩), .int .u8 32] W fun e w' => e = .returned .nilIface ∧ Lib.IsBuilderF 77 5 b b (Lib.byteCells (acc ++ [32])) w' ∧ Below b W w' ∧ Lib.OthersKept 5 (some b) W w' := by
  refine (writeByte_any b b _ 32 W h (by unfold Lib.byteCells; rw [List.length_map]; exact hl) hb).mono ?_
  rintro e w' ⟨rfl, h1, h2, h3⟩
  refine ⟨rfl, .inr ?_, h2, h3⟩
  rw [Lib.byteCells_append]
  exact h1
theorem len_any (b : Nat) (acc : List UInt8) (m : Nat) (W : World) (h : Lib.IsBuilderF 77 5 b b (Lib.byteCells acc) W) (hl : acc.length = m) :
    Calls Try.prog 47 #[.pointer (some ⟨b, 0, none⟩)] W fun e w' => e = .returned (.int .i64 m) ∧ W = w' := by
  refine (Try.Builder_Len_f b b _ W h).mono ?_
  rintro e w' ⟨rfl, rfl⟩
  unfold Lib.byteCells
  rw [List.length_map, hl]
  exact ⟨rfl, rfl⟩

/-- What the loop of Join keeps. -/
def JoinAt (ys : List Span) (b : Nat) (w0 : World) (k : Nat) (wr : World) : Prop :=
  Lib.IsBuilderF 77 5 b b (Lib.byteCells (joinL (ys.take k))) wr ∧ Below b w0 wr ∧ b < wr.heap.size

set_option maxHeartbeats 8000000 in
theorem join_any (hS : Spans1) (xs : List Span) (v : Value) (N0 : Nat) (w : World) (hx : xs.length ≤ 80) (ht : ∀ x ∈ xs, x.text.length ≤ 200) (hr : w.ownsRow N0 47 3 v xs.length (tokCells xs)) (hm : ML w) :
    Calls Try.prog 23 #[v] w fun e w' => e = .returned (joinV xs) ∧ Below w.heap.size w w' := by
  obtain ⟨n, hn⟩ : ∃ n, xs.length = n := ⟨_, rfl⟩
  have hvl : ∃ o cap, v = .slice o n cap := by
    rcases row_shape hr with ⟨rfl, h0⟩ | ⟨g, cap, rfl, _⟩
    · exact ⟨none, 0, by rw [← hn, h0]⟩
    · exact ⟨_, _, by rw [hn]⟩
  obtain ⟨o, cap, rfl⟩ := hvl
  have HR := Lib.hid hr
  have HM := Lib.hid hm
  have HT := Lib.hid ht
  have HN := Lib.hid hn
  rw [hn] at hx
  clear hr hm ht hn
  go_enter Try.func23, Try.ntmps23
  go_wp2_with (go_at_call 29; refine (newScanner_any _).mono ?_; rintro e w1 ⟨kb, sb, rfl, hk1, hs1, hb1⟩)
  have hm1 := HM.out.below hb1 HM.out.lt
  have hr1 := ownsRow_below HR.out hb1
  have HW := withoutPlaces_any xs _ _ w1 (by have := HN.out; omega) hr1
  rw [HN.out] at HW
  go_wp2_with (go_at_call 40; refine HW.mono ?_; rintro e w2 ⟨rfl, hy2, hb2⟩)
  obtain ⟨B0, hB0⟩ : ∃ B, w1.heap.size = B := ⟨_, rfl⟩
  rw [hB0] at hy2
  have hb02 : Below w.heap.size w w2 := hb1.trans (hb2.mono (by have := hb1.size; omega))
  obtain ⟨W3, hW3⟩ : ∃ W', w2.alloc (.cells #[.map (some kb), .map (some sb)] 58) = W' := ⟨_, rfl⟩
  have hb3 : Below w2.heap.size w2 W3 := by rw [← hW3]; exact (Below.refl _ w2).alloc (Nat.le_refl _) _
  have hz3 : W3.heap.size = w2.heap.size + 1 := by rw [← hW3]; simp
  have hs3 : W3.heap[w2.heap.size]? = some (.cells #[.map (some kb), .map (some sb)] 58 (0, 0)) := by rw [← hW3]; show (w2.heap.push _)[w2.heap.size]? = _; simp
  have hy3 : BlockIs W3 B0 47 (tokCells (xs.map z0)).toArray := (hb3.block B0 hy2.lt).trans hy2
  have hkw : SetAt W3 kb kwL ∧ SetAt W3 sb sgL ∧ ML W3 := ⟨(hk1.below hb2 hk1.lt).below hb3 (by have := hk1.lt; have := hb2.size; omega), (hs1.below hb2 hs1.lt).below hb3 (by have := hs1.lt; have := hb2.size; omega), (hm1.below hb2 hm1.lt).below hb3 (by have := hm1.lt; have := hb2.size; omega)⟩
  have HTR := transform_any hS (xs.map z0) kb sb B0 W3 (by rw [List.length_map, HN.out]; omega) (fun y hy => by obtain ⟨x, hx1, rfl⟩ := List.mem_map.1 hy; exact ⟨by have := HT.out x hx1; show x.text.length ≤ _; omega, rfl⟩) hy3 hkw.1 hkw.2.1 hkw.2.2
  rw [List.length_map, HN.out] at HTR
  have c0 : W3.cell? ⟨w2.heap.size, 0, none⟩ = some (.map (some kb)) := by rw [Lib.cell_of_heap hs3]; rfl
  have c1 : W3.cell? ⟨w2.heap.size, 1, none⟩ = some (.map (some sb)) := by rw [Lib.cell_of_heap hs3]; rfl
  have hes : (xs.map z0).map checkE = xs.map checkE := check_z0 xs
  have hec : errCells (xs.map z0) = (xs.map checkE).map fun e => .int .i64 e := by rw [← hes, List.map_map]; rfl
  rw [hec] at HTR
  obtain ⟨q, hq⟩ : ∃ q, firstE (xs.map checkE) = q := ⟨_, rfl⟩
  have HQ := Lib.hid hq
  have HF := Lib.hid (show ∀ u W, W.ownsRow W3.heap.size 27 1 u n ((xs.map checkE).map fun e => .int .i64 e) → Calls Try.prog 41 #[u] W fun e w' => e = .returned (.int .i64 q) ∧ W = w' from fun u W h => by
    have := first_any (xs.map checkE) u W3.heap.size W (by rw [List.length_map, HN.out]; omega) (by rw [List.length_map, HN.out]; exact h)
    rw [hq] at this
    exact this)
  have HTR' := Lib.hid HTR
  have HY3 := Lib.hid (And.intro hs3 (And.intro hy3 hkw))
  have HB3 := Lib.hid (And.intro hb02 (And.intro hb3 hz3))
  have hB0l : B0 < w2.heap.size := hy2.lt
  rw [hB0, hW3]
  clear HTR hs3 hy3 hkw hb02 hb3 hz3 hes hec hq HW hy2 hm1 hr1 hk1 hs1 HR
  go_wp2_with (first | (go_at_call 42; refine HTR'.out.mono ?_; rintro e w4 ⟨u, rfl, hr4, hb4⟩) | (go_at_call 41; refine (HF.out _ _ hr4).mono ?_; rintro e w' ⟨rfl, rfl⟩))
  · go_ret2
    refine ⟨?_, HB3.out.1.trans ((HB3.out.2.1.mono (by have := HB3.out.1.size; omega)).trans (hb4.mono (by have := HB3.out.1.size; have := HB3.out.2.2; omega)))⟩
    unfold joinV
    rw [HQ.out, if_neg (by simpa using ‹(q != 0) = true›)]
    rfl
  · rename_i hqn K0 a0
    have hq0 : q = 0 := by simpa using hqn
    clear hqn
    have HV := Lib.hid (show joinV xs = .tuple #[.string (mk (joinL xs)), .int .i64 0] by unfold joinV; rw [HQ.out, if_pos hq0])
    have HG := Lib.hid (show ∀ x ∈ xs, Good x from fun x hx => checkE_good (firstE_zero (HQ.out.trans hq0) _ (List.mem_map_of_mem hx)))
    have hbw : Below w.heap.size w w4 := HB3.out.1.trans ((HB3.out.2.1.mono (by have := HB3.out.1.size; omega)).trans (hb4.mono (by have := HB3.out.1.size; have := HB3.out.2.2; omega)))
    have HBW := Lib.hid hbw
    obtain ⟨b, hb⟩ : ∃ b, w4.heap.size = b := ⟨_, rfl⟩
    have hwb : w.heap.size ≤ b := by rw [← hb]; exact hbw.size
    have hsb4 : w2.heap.size < b := by rw [← hb]; have := hb4.size; have := HB3.out.2.2; omega
    have HF4 := Lib.hid (show ∀ W, Below b w4 W → (W.cell? ⟨w2.heap.size, 0, none⟩ = some (.map (some kb)) ∧ W.cell? ⟨w2.heap.size, 1, none⟩ = some (.map (some sb)) ∧ BlockIs W B0 47 (tokCells (xs.map z0)).toArray) ∧ SetAt W kb kwL ∧ SetAt W sb sgL ∧ ML W from by
      intro W hW
      have hW3b : Below W3.heap.size W3 W := hb4.trans (hW.mono (by rw [← hb]; exact hb4.size))
      refine ⟨⟨(hW3b.cell (p := ⟨w2.heap.size, 0, none⟩) (by show w2.heap.size < _; have := HB3.out.2.2; omega)).trans c0, (hW3b.cell (p := ⟨w2.heap.size, 1, none⟩) (by show w2.heap.size < _; have := HB3.out.2.2; omega)).trans c1, (hW3b.block B0 (by have := HB3.out.2.2; omega)).trans HY3.out.2.1⟩, HY3.out.2.2.1.below hW3b HY3.out.2.2.1.lt, HY3.out.2.2.2.1.below hW3b HY3.out.2.2.2.1.lt, HY3.out.2.2.2.2.below hW3b HY3.out.2.2.2.2.lt⟩)
    have HJ0 := Lib.hid (show JoinAt (xs.map z0) b w4 0 (w4.alloc (.cells #[.pointer none, .slice none 0 0] 77)) from ⟨by have := Lib.IsBuilderF.of (Lib.fresh_isBuilder 77 5 w4); rw [hb] at this; exact this, (Below.refl b w4).alloc (by omega) _, by simp; omega⟩)
    obtain ⟨sc, hsc⟩ : ∃ sc, w2.heap.size = sc := ⟨_, rfl⟩
    rw [hsc] at HF4 hsb4 hB0l ⊢
    rw [hb]
    have HC := Lib.hid (tokCells_take (xs.map z0))
    rw [List.length_map, HN.out] at HC
    have HB := Lib.hid hb
    clear HY3 HB3 HTR' HF c0 c1 hr4 hb4 hbw HQ hq0 hb1 hb2 hB0 hW3 hsc hb
    go_loopw [26] (fun i wr => ∃ k : Nat, k ≤ n ∧ i = .int .i64 k ∧ Hid (JoinAt (xs.map z0) b w4 k wr)) (fun i _ => n - (intOf i).toNat)
    case atStart => exact ⟨0, Nat.zero_le _, rfl, HJ0⟩
    case round =>
      clear HJ0
      obtain ⟨k, hk, rfl, HJ⟩ := hrel
      have HF5 := Lib.hid (HF4.out wr HJ.out.2.1)
      by_cases hlt : k < n
      · obtain ⟨y, ht, e0, e1, e2⟩ := HC.out k hlt
        have hyy : y ∈ xs.map z0 := by
          have : y ∈ (xs.map z0).take (k + 1) := by rw [ht]; simp
          exact List.mem_of_mem_take this
        obtain ⟨y0, hy0, hyz⟩ := List.mem_map.1 hyy
        have hya : y.at_ = 0 := by rw [← hyz]; rfl
        have hyl : y.text.length ≤ 200 := by rw [← hyz]; exact HT.out y0 hy0
        rw [hya] at e2
        have c0 := (HF5.out.1.2.2.at (k * 3)).trans (by simpa using e0)
        have c1 := (HF5.out.1.2.2.at (k * 3 + 1)).trans (by simpa using e1)
        have c2 := (HF5.out.1.2.2.at (k * 3 + 2)).trans (by simpa using e2)
        have hjl : (joinL ((xs.map z0).take (k + 1))).length ≤ 20000 := by
          have := joinL_len (l := (xs.map z0).take (k + 1)) (fun u hu => by obtain ⟨u0, h0, rfl⟩ := List.mem_map.1 (List.mem_of_mem_take hu); exact HT.out u0 h0)
          have h2 : ((xs.map z0).take (k + 1)).length ≤ 80 := by rw [List.length_take]; omega
          omega
        rcases k with _ | j
        · have HE := Lib.hid (joinL_first (ys := xs.map z0) (b := y) (by
            have : ((xs.map z0).take 1)[0]? = some y := by rw [ht]; rfl
            rwa [List.getElem?_take, if_pos (by omega)] at this))
          obtain ⟨m, hm⟩ : ∃ m, y.text.length = m := ⟨_, rfl⟩
          have HI := Lib.hid HJ.out.1
          rw [show (xs.map z0).take 0 = [] from rfl, show joinL [] = [] from rfl] at HI
          have hm2 : m ≤ 200 := by omega
          have HM2 := Lib.hid hm
          have hzr := HJ.out.2.2
          clear e0 e1 e2 ht hyy hya hyl hm hyz hjl
          have hd0 : decide ((0 : Int) < (((0 : Nat) : Int))) = false := by decide
          go_wp2_with fail
          obtain ⟨W1, hW1⟩ : ∃ W', wr.alloc (.cells #[.int .i64 y.kind, .string (mk y.text), .int .i64 0] 47) = W' := ⟨_, rfl⟩
          rw [hW1]
          have hN1 : W1.heap[wr.heap.size]? = some (.cells #[.int .i64 y.kind, .string (mk y.text), .int .i64 0] 47 (0, 0)) := by rw [← hW1]; show (wr.heap.push _)[wr.heap.size]? = _; simp
          have HI1 := Lib.hid (show Lib.IsBuilderF 77 5 b b (Lib.byteCells []) W1 by rw [← hW1]; exact HI.out.alloc _)
          have HB1 := Lib.hid (show Below b w4 W1 by rw [← hW1]; exact HJ.out.2.1.alloc (by omega) _)
          have hz1 : b < W1.heap.size := by rw [← hW1]; simp; omega
          have d1 : W1.cell? ⟨wr.heap.size, 1, none⟩ = some (.string (mk y.text)) := by rw [Lib.cell_of_heap hN1]; rfl
          clear hW1 hN1 c0 c1 c2
          go_quiet (fail)
          have HWR := Lib.hid (write_any b [] y.text (W1.drewN nq) HI1.out (by rw [HM2.out]; simp; omega) (by show b ≤ W1.heap.size; omega))
          obtain ⟨W2, hW2⟩ : ∃ W', W1.drewN nq = W' := ⟨_, rfl⟩
          have d2 : W2.cell? ⟨wr.heap.size, 1, none⟩ = some (.string (mk y.text)) := by rw [← hW2]; exact d1
          rw [hW2] at HWR ⊢
          have HB2 := Lib.hid (show Below b w4 W2 from by rw [← hW2]; exact below_dN HB1.out nq)
          have hz2 : b < W2.heap.size := by rw [← hW2]; exact hz1
          clear hW2 d1
          go_wp2_with (first | (go_at_call 46; refine HWR.out.mono ?_; rintro e w5 ⟨rfl, hi5, hb5, hk5⟩; have hl5 := len_any b y.text m w5 (by simpa using hi5) HM2.out) | (go_at_call 47; refine hl5.mono ?_; rintro e w' ⟨rfl, rfl⟩))
          go_roundw
          case rel => exact ⟨1, by omega, by go_num, by rw [HE.out]; simpa using hi5, HB2.out.trans hb5, by have h1 := hb5.size; omega⟩
          case measure => simp [intOf]; omega
        · obtain ⟨a, ha, f0, f1, f2⟩ := HC.out j (by omega)
          have hba : (xs.map z0)[j]? = some a := by
            have : ((xs.map z0).take (j + 1))[j]? = some a := by
              have hl : ((xs.map z0).take j).length = j := by rw [List.length_take, List.length_map, HN.out]; omega
              rw [ha, List.getElem?_append_right (by omega), hl]
              simp
            rwa [List.getElem?_take, if_pos (by omega)] at this
          have hby : (xs.map z0)[j + 1]? = some y := by
            have : ((xs.map z0).take (j + 1 + 1))[j + 1]? = some y := by
              have hl : ((xs.map z0).take (j + 1)).length = j + 1 := by rw [List.length_take, List.length_map, HN.out]; omega
              rw [ht, List.getElem?_append_right (by omega), hl]
              simp
            rwa [List.getElem?_take, if_pos (by omega)] at this
          obtain ⟨a0, ha0, haz⟩ := List.mem_map.1 (List.mem_of_getElem? hba)
          have haa : a.at_ = 0 := by rw [← haz]; rfl
          have hal : a.text.length ≤ 200 := by rw [← haz]; exact HT.out a0 ha0
          have hag : a.text ≠ [] := by rw [← haz]; exact (HG.out a0 ha0).1
          have HST := Lib.hid (joinL_step hba hby)
          have HSP := Lib.hid (fun W hW => spaced_any hS a y kb sb W hag (by omega) (by omega) (HF4.out W hW).2.1 (HF4.out W hW).2.2.1 (HF4.out W hW).2.2.2)
          obtain ⟨g, hg⟩ : ∃ g, gapB a y = g := ⟨_, rfl⟩
          have HGP := Lib.hid hg
          rw [hg] at HSP
          rw [haa] at f2
          have g0 := (HF5.out.1.2.2.at (j * 3)).trans (by simpa using f0)
          have g1 := (HF5.out.1.2.2.at (j * 3 + 1)).trans (by simpa using f1)
          have g2 := (HF5.out.1.2.2.at (j * 3 + 2)).trans (by simpa using f2)
          have s0 := HF5.out.1.1
          have s1 := HF5.out.1.2.1
          obtain ⟨k, hkj⟩ : ∃ k, j + 1 = k := ⟨_, rfl⟩
          have HKJ := Lib.hid hkj
          have hwj : IntKind.i64.wrap ((k : Int) - 1) = (j : Int) := by rw [show (k : Int) - 1 = (j : Int) by omega]; exact IntWalk.i64_in _ (by omega)
          have hd0 : decide (0 < k) = true := by simp; omega
          have hjn : j < n := by omega
          obtain ⟨m, hm⟩ : ∃ m, (joinL ((xs.map z0).take (k + 1))).length = m := ⟨_, rfl⟩
          rw [hkj] at hjl HJ hk hlt c0 c1 c2 ⊢
          rw [hm] at hjl
          have HM2 := Lib.hid hm
          obtain ⟨acc, hacc⟩ : ∃ acc, joinL ((xs.map z0).take k) = acc := ⟨_, rfl⟩
          have HI := Lib.hid HJ.out.1
          rw [hacc] at HI
          rw [show j + 2 = k + 1 by omega, hkj, hacc] at HST
          have hzr := HJ.out.2.2
          clear e0 e1 e2 ht hyy hya hyz hm ha f0 f1 f2 hba hby haz haa hag hg hacc hkj
          go_wp2_with fail
          obtain ⟨N, hN⟩ : ∃ N, wr.heap.size = N := ⟨_, rfl⟩
          obtain ⟨W1, hW1⟩ : ∃ W', wr.alloc (.cells #[.int .i64 y.kind, .string (mk y.text), .int .i64 0] 47) = W' := ⟨_, rfl⟩
          rw [hW1, hN]
          have hN1 : W1.heap[N]? = some (.cells #[.int .i64 y.kind, .string (mk y.text), .int .i64 0] 47 (0, 0)) := by rw [← hW1, ← hN]; show (wr.heap.push _)[wr.heap.size]? = _; simp
          have HI1 := Lib.hid (show Lib.IsBuilderF 77 5 b b (Lib.byteCells acc) W1 by rw [← hW1]; exact HI.out.alloc _)
          have HB1 := Lib.hid (show Below b w4 W1 by rw [← hW1]; exact HJ.out.2.1.alloc (by omega) _)
          have hz1 : b < W1.heap.size := by rw [← hW1]; simp; omega
          have hbN : b < N := by rw [← hN]; exact hzr
          have HF6 := Lib.hid (HF4.out W1 HB1.out)
          have d0 : W1.cell? ⟨N, 0, none⟩ = some (.int .i64 y.kind) := by rw [Lib.cell_of_heap hN1]; rfl
          have d1 : W1.cell? ⟨N, 1, none⟩ = some (.string (mk y.text)) := by rw [Lib.cell_of_heap hN1]; rfl
          have d2 : W1.cell? ⟨N, 2, none⟩ = some (.int .i64 0) := by rw [Lib.cell_of_heap hN1]; rfl
          have hw1 : Below wr.heap.size wr W1 := by rw [← hW1]; exact (Below.refl _ wr).alloc (Nat.le_refl _) _
          have hB0r : B0 < wr.heap.size := by omega
          have hscr : sc < wr.heap.size := by omega
          have t0 := (hw1.cell (p := ⟨B0, j * 3, none⟩) hB0r).trans g0
          have t1 := (hw1.cell (p := ⟨B0, j * 3 + 1, none⟩) hB0r).trans g1
          have t2 := (hw1.cell (p := ⟨B0, j * 3 + 2, none⟩) hB0r).trans g2
          have r0 := (hw1.cell (p := ⟨sc, 0, none⟩) hscr).trans s0
          have r1 := (hw1.cell (p := ⟨sc, 1, none⟩) hscr).trans s1
          have HSQ := Lib.hid (HSP.out W1.drew (below_dN HB1.out 1))
          have HN1 := Lib.hid hN1
          clear hW1 hN1 c0 c1 c2 g0 g1 g2 s0 s1 hw1 HSP
          dsimp only [tokV] at HSQ
          go_region_held3 (fun w' => w'.cell? ⟨N, 0, none⟩ = some (.int .i64 y.kind) ∧ w'.cell? ⟨N, 1, none⟩ = some (.string (mk y.text)) ∧ w'.cell? ⟨N, 2, none⟩ = some (.int .i64 0) ∧ w'.cell? ⟨B0, j * 3, none⟩ = some (.int .i64 a.kind) ∧ w'.cell? ⟨B0, j * 3 + 1, none⟩ = some (.string (mk a.text)) ∧ w'.cell? ⟨B0, j * 3 + 2, none⟩ = some (.int .i64 0) ∧ w'.cell? ⟨sc, 0, none⟩ = some (.map (some kb)) ∧ w'.cell? ⟨sc, 1, none⟩ = some (.map (some sb))) (first | exact ⟨d0, d1, d2, t0, t1, t2, r0, r1⟩ | exact hS4)
            (first | (go_at_call 44; (with_reducible refine HSQ.out.mono ?_); rintro e2 wq ⟨rfl, hbq⟩; have hS4 := (And.intro ((hbq.cell (p := ⟨N, 0, none⟩) (lt_of_cell d0)).trans d0) (And.intro ((hbq.cell (p := ⟨N, 1, none⟩) (lt_of_cell d0)).trans d1) (And.intro ((hbq.cell (p := ⟨N, 2, none⟩) (lt_of_cell d0)).trans d2) (And.intro ((hbq.cell (p := ⟨B0, j * 3, none⟩) (lt_of_cell t0)).trans t0) (And.intro ((hbq.cell (p := ⟨B0, j * 3 + 1, none⟩) (lt_of_cell t0)).trans t1) (And.intro ((hbq.cell (p := ⟨B0, j * 3 + 2, none⟩) (lt_of_cell t0)).trans t2) (And.intro ((hbq.cell (p := ⟨sc, 0, none⟩) (lt_of_cell r0)).trans r0) ((hbq.cell (p := ⟨sc, 1, none⟩) (lt_of_cell r0)).trans r1))))))))))
          have hqN : wq.heap[N]? = some (.cells #[.int .i64 y.kind, .string (mk y.text), .int .i64 0] 47 (0, 0)) := (hbq.block N (lt_of_cell d0)).trans HN1.out
          have HIq := Lib.hid (bldF_below (show Lib.IsBuilderF 77 5 b b (Lib.byteCells acc) W1.drew from HI1.out) hbq)
          have HBq := Lib.hid ((below_dN HB1.out 1).trans (hbq.mono (show b ≤ W1.heap.size by omega)))
          have hzq : b < wq.heap.size := by have := hbq.size; exact Nat.lt_of_lt_of_le hz1 this
          have e1 : wq.cell? ⟨N, 1, none⟩ = some (.string (mk y.text)) := hS4.2.1
          have HQN := Lib.hid hqN
          have hjl2 : acc.length + (sepS a y).length = m := by rw [← List.length_append, ← HST.out]; exact HM2.out
          clear hS4 hbq d0 d1 d2 t0 t1 t2 r0 r1 hqN hN hd0 hwj
          rename_i hHeld
          clear hHeld
          cases g
          · have HSE := Lib.hid (show sepS a y = y.text by unfold sepS; rw [HGP.out]; rfl)
            rw [HSE.out] at hjl2 HST
            have HWR := Lib.hid (write_any b acc y.text wq HIq.out (by omega) (by omega))
            go_wp2_with (first | (go_at_call 46; refine HWR.out.mono ?_; rintro e w5 ⟨rfl, hi5, hb5, hk5⟩; have hl5 := len_any b (acc ++ y.text) m w5 hi5 (by rw [List.length_append]; exact hjl2)) | (go_at_call 47; refine hl5.mono ?_; rintro e w' ⟨rfl, rfl⟩))
            go_roundw
            case rel => exact ⟨k + 1, by omega, by go_num, by rw [HST.out]; exact hi5, HBq.out.trans hb5, by have h1 := hb5.size; omega⟩
            case measure => simp [intOf]; omega
          · have HSE := Lib.hid (show sepS a y = [32] ++ y.text by unfold sepS; rw [HGP.out]; rfl)
            rw [HSE.out] at hjl2 HST
            have HWB := Lib.hid (write32_any b acc wq HIq.out (by simp at hjl2; omega) (by omega))
            go_wp2_with (first | (go_at_call 45; refine HWB.out.mono ?_; rintro e w6 ⟨rfl, hi6, hb6, hk6⟩; have hz6 : b < w6.heap.size := (by have h1 := hb6.size; omega); have h6N := kept_cell hk6 HQN.out (by omega) (by decide); have e6 : w6.cell? ⟨N, 1, none⟩ = some (.string (mk y.text)) := (by rw [Lib.cell_of_heap h6N]; rfl); have HWR := Lib.hid (write_any b (acc ++ [32]) y.text w6 hi6 (by simp at hjl2 ⊢; omega) (by omega)); clear h6N) | (go_at_call 46; refine HWR.out.mono ?_; rintro e w5 ⟨rfl, hi5, hb5, hk5⟩; have hl5 := len_any b (acc ++ [32] ++ y.text) m w5 hi5 (by rw [List.append_assoc, List.length_append]; exact hjl2)) | (go_at_call 47; refine hl5.mono ?_; rintro e w' ⟨rfl, rfl⟩))
            go_roundw
            case rel => exact ⟨k + 1, by omega, by go_num, by rw [HST.out, ← List.append_assoc]; exact hi5, (HBq.out.trans hb6).trans hb5, by have h1 := hb5.size; omega⟩
            case measure => simp [intOf]; omega
      · obtain rfl : k = n := by omega
        have HI := Lib.hid HJ.out.1
        rw [show (xs.map z0).take k = xs.map z0 from List.take_of_length_le (by rw [List.length_map]; exact Nat.le_of_eq HN.out), joinL_z0] at HI
        have hzr := HJ.out.2.2
        go_wp2_with (go_at_call 48; refine (Try.Builder_String_any_f b b _ wr HI.out (by omega)).mono ?_; rintro e w5 ⟨rfl, _, hb5⟩)
        go_ret2
        exact ⟨by rw [HV.out]; rfl, HBW.out.trans ((HJ.out.2.1.trans hb5).mono hwb)⟩
end Go.Proofs.Ytfilmombflohpaa
