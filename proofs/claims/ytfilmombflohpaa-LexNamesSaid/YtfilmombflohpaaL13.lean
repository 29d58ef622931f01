/- The iterator over the tokens of a text. -/
import Derived.Test.YtfilmombflohpaaL12B
set_option linter.unusedSimpArgs false
set_option linter.unusedVariables false
namespace Go.Proofs.Ytfilmombflohpaa
open Go.RowKit Go.ChangeMaps Go.WideMaps Go.Shelf
set_option maxRecDepth 100000

attribute [local go_sem] Oper.semAt_some

theorem AbidesFrom.below {J : List Span → World → Prop} {B : Nat} (h : AbidesFrom B J) {pre : List Span} {W W' : World} (hJ : J pre W) (hb : Below W.heap.size W W') : J pre W' :=
  h pre W W' none hJ ⟨hb.os, hb.tape, hb.output, hb.size, fun k hk _ => hb.block k hk⟩ (fun r e => by cases e)

theorem extract_mk (s : ByteArray) (p m : Nat) : s.extract p (p + m) = mk ((s.data.toList.drop p).take m) := by
  have : (s.extract p (p + m)).data.toList = (mk ((s.data.toList.drop p).take m)).data.toList := by rw [Lib.extract_data]; simp
  exact Go.WideShapes.bytes_inj this

theorem noGoto_normal {Q : Exit → Act → World → Prop} {a : Act} {w : World} : Exit.noGoto Q .normal a w = Q .normal a w := rfl

theorem ruleCell {w : World} {b : Nat} (h : w.heap[b]? = some (.cells ruleCells 95 (0, 0))) (j : Nat) : w.cell? ⟨b, j, none⟩ = ruleCells[j]? := by
  unfold World.cell?; rw [h]; rfl

theorem wpIn_scope_wide {n : Nat} {P : Program} {c : Code} {Q : Exit → Act → World → Prop} {a : Act} {w : World} (h : c.wpIn Fence.wide n P (Exit.noGoto Q) a w) : (Code.scope c).wpIn Fence.wide n P Q a w :=
  wpIn_wide.2 (wp_scope_straight (wpIn_wide.1 h))

set_option maxHeartbeats 40000000 in
theorem spans1_in (n : Nat) (hn : 1 ≤ n) (l : Nat) (s : ByteArray) (Bt Bs kb sb n₁ n₀ : Nat) (Fb : List Nat) (J Jx : List Span → World → Prop) (W : World)
    (hs : s.size ≤ 65536) (hE : Env s Bt Bs kb sb W) (h01 : 0 < n₁) (hkb : kb < n₀) (hsb : sb < n₀) (hBt : Bt ∉ Fb) (hBs : Bs ∉ Fb) (hFb : ∀ k ∈ Fb, k < W.heap.size) (_ : n₁ ≤ W.heap.size)
    (hJ : AbidesFrom W.heap.size J)
    (hY : ∀ pre x W1, J pre W1 → pre.length < (spansT s s.data.toList 0).length → YieldAt Fence.wide (n - 1) Try.prog l (encS x) W1 fun e W' => (e = .returned (.bool true) ∧ J (pre ++ [x]) W' ∧ Kept n₁ n₀ Fb W1 W') ∨ (e = .returned (.bool false) ∧ Jx (pre ++ [x]) W'))
    (h0 : J [] W) :
    CallsIn Fence.wide n Try.prog 55 #[.func (.yield l) #[] #[], .pointer (some ⟨Bt, 0, none⟩), .pointer (some ⟨Bs, 0, none⟩)] W fun e W' => (∃ v, e = .returned v) ∧ ((∃ ys, ys = spansT s s.data.toList 0 ∧ J ys W') ∨ (∃ pre, pre <+: spansT s s.data.toList 0 ∧ Jx pre W')) := by
  obtain ⟨xs, hxs⟩ : ∃ xs, spansT s s.data.toList 0 = xs := ⟨_, rfl⟩
  rw [hxs] at hY ⊢
  have HX := Lib.hid hxs
  have HY := Lib.hid hY
  have HJ := Lib.hid hJ
  clear hxs hY hJ
  refine callsIn_of_wp Try.func55 rfl trivial ?_ rfl
  simp only [Try.ntmps55, List.size_toArray, List.length_cons, List.length_nil, Nat.reduceAdd, Nat.reduceSub, Array.replicate_succ, Array.replicate_zero, List.push_toArray, List.append_toArray, List.nil_append, List.cons_append]
  refine wpIn_scope_wide ?_
  gi_wp2_with (refine ⟨trivial, ?_⟩; gi_at_call 56; refine (callsIn_wide.2 (rules_any _)).mono ?_; rintro e w' ⟨rfl, rfl⟩)
  apply wpIn_label
  have hEt := hE.below ((Below.refl _ W).alloc (Nat.le_refl _) (.cells ruleCells 95))
  have hJt := AbidesFrom.below HJ.out h0 ((Below.refl _ W).alloc (Nat.le_refl _) (.cells ruleCells 95))
  have HE := Lib.hid hEt
  have HJ0 := Lib.hid hJt
  clear hEt hJt h0 hE
  gi_wp2
  gi_loopw [4] (fun v wr => ∃ (pre : List Span) (k : Nat), k ≤ s.size ∧ v = .int .i64 k ∧ Hid (xs = pre ++ spansT s (s.data.toList.drop k) k) ∧ Hid (Env s Bt Bs kb sb wr) ∧ Hid (wr.heap[W.heap.size]? = some (.cells ruleCells 95 (0, 0))) ∧ Hid (J pre wr) ∧ W.heap.size < wr.heap.size) (fun v _ => s.size - (intOf v).toNat)
  case atStart => exact ⟨[], 0, Nat.zero_le _, rfl, (show _ = _ by rw [List.nil_append, List.drop_zero]; exact HX.out.symm), HE, (show (W.heap.push _)[W.heap.size]? = _ by simp), HJ0, by simp⟩
  case round =>
    obtain ⟨pre, k, hk, rfl, HP, HEr, HT, HJr, hz⟩ := hrel
    have c1 := HEr.out.t
    obtain ⟨r, hr⟩ : ∃ r, s.extract k s.size = r := ⟨_, rfl⟩
    have hrz : r.size ≤ s.size := by rw [← hr]; simp
    have hrl : r.data.toList = s.data.toList.drop k := by rw [← hr, Lib.extract_to_end]
    have hrk : r.size = s.size - k := by rw [← hr]; simp
    have hg := gap_any r wr (by omega) HEr.out.ml
    have hgb := gapI_bd r.size r.data.toList
    have hst := spansT_step (s := s) (l := r.data.toList) (k := k) (by rw [← Lib.size_eq]; exact hrz)
    rw [← Lib.size_eq] at hst hgb
    obtain ⟨g, hgg⟩ : ∃ g, gapI r.size r.data.toList = g := ⟨_, rfl⟩
    rw [hgg] at hg hgb hst
    obtain ⟨g, e⟩ := g
    dsimp only at hg hgb hst
    obtain ⟨g, rfl⟩ := Int.eq_ofNat_of_zero_le hgb.1
    have hgl : k + g ≤ s.size := by omega
    rw [Int.toNat_natCast] at hst
    have HRL := Lib.hid hrl
    have HG := Lib.hid hg
    have HST := Lib.hid hst
    have HRK := Lib.hid hrk
    clear hg hrl hgg hst hrk hgb
    by_cases he : e = 0
    · subst he
      rw [if_neg (by simp)] at HST
      by_cases hend : k + g = s.size
      · have hbe : ((k : Int) + g == s.size) = true := by simp; omega
        have hx : Hid (pre = xs) := by
          show _ = _
          rw [HP.out, ← HRL.out, HST.out, if_pos (by rw [List.drop_eq_nil_iff, ← Lib.size_eq]; have := HRK.out; omega), List.append_nil]
        clear hend
        gi_wp2_with (refine ⟨trivial, ?_⟩; gi_at_call 57; refine (callsIn_wide.2 HG.out).mono ?_; rintro e1 w1 ⟨rfl, hb1⟩; have c1' := (HEr.out.below hb1).t; clear c1)
        rw [Exit.noGoto_ret]
        refine bodyPost_ret (results_none rfl _ _ _) rfl ?_
        exact ⟨⟨_, rfl⟩, .inl ⟨pre, hx.out, AbidesFrom.below HJ.out HJr.out hb1⟩⟩
      · have hbe : ((k : Int) + g == s.size) = false := by simp; omega
        have hlt : k + g < s.size := by omega
        gi_wp2_with (refine ⟨trivial, ?_⟩; gi_at_call 57; refine (callsIn_wide.2 HG.out).mono ?_; rintro e1 w1 ⟨rfl, hb1⟩; have HE1 := Lib.hid (HEr.out.below hb1); have c1' := HE1.out.t; have HJ1 := Lib.hid (AbidesFrom.below HJ.out HJr.out hb1); have HT1 := Lib.hid ((hb1.block _ hz).trans HT.out); have hz1 := hb1.size; clear c1)
        obtain ⟨wo, rfl⟩ : ∃ wo, wo = w1 := ⟨_, rfl⟩
        obtain ⟨p, hp⟩ : ∃ p, k + g = p := ⟨_, rfl⟩
        have hpl : p < s.size := by omega
        have hple : p ≤ s.size := by omega
        obtain ⟨r2, hr2⟩ : ∃ r2, s.extract p s.size = r2 := ⟨_, rfl⟩
        have hr2z : 0 < r2.size := by rw [← hr2]; simp; omega
        have hr2m : r2.size ≤ maxLen := by unfold maxLen; rw [← hr2]; simp; omega
        have HR2 : Hid (r2.data.toList = (s.data.toList.drop k).drop g) := by show _ = _; rw [← hr2, Lib.extract_to_end, List.drop_drop, hp]
        have HS2 : Hid (spansT s (s.data.toList.drop k) k = match firstRule kwL sgL r2.data.toList 7 0 with
            | none => [⟨0, [], (p : Int), 0, 22⟩]
            | some (q, m, e) => if e ≠ 0 then [⟨0, [], (p : Int), 0, e⟩] else ⟨q, r2.data.toList.take m.toNat, (p : Int), (p : Int) + m, 0⟩ :: spansT s (r2.data.toList.drop m.toNat) (p + m.toNat)) := by
          show _ = _
          rw [← HRL.out, HST.out, HRL.out, ← HR2.out, if_neg (by intro e; have := Lib.size_eq r2; rw [e, List.length_nil] at this; omega), show (k : Int) + g = (p : Int) by omega, hp]
          rfl
        have HR2S : Hid (r2.size = s.size - p) := by show _ = _; rw [← hr2]; simp
        have HRD : Hid (r2.data.toList = s.data.toList.drop p) := by show _ = _; rw [← hr2, Lib.extract_to_end]
        have HPP := Lib.hid hp
        clear hp
        gi_loopw [4, 38] (fun v4 v38 wr => ∃ i : Nat, i ≤ 7 ∧ v4 = .int .i64 ((p : Int)) ∧ v38 = .int .i64 i ∧ Hid (firstRule kwL sgL r2.data.toList (7 - i) i = firstRule kwL sgL r2.data.toList 7 0) ∧ Hid (Env s Bt Bs kb sb wr) ∧ Hid (wr.heap[W.heap.size]? = some (.cells ruleCells 95 (0, 0))) ∧ Hid (J pre wr) ∧ W.heap.size < wr.heap.size) (fun _ v _ => 7 - (intOf v).toNat)
        case atStart => exact ⟨0, by omega, by congr 1; have := HPP.out; omega, rfl, rfl, HE1, HT1, HJ1, by omega⟩
        case round =>
          obtain ⟨i, hi, rfl, rfl, HF, HE2, HT2, HJ2, hz2⟩ := hrel
          by_cases hi7 : i = 7
          · subst hi7
            have hx : Hid (xs = pre ++ [⟨0, [], (p : Int), 0, 22⟩]) := by
              show _ = _
              have hf := HF.out
              rw [show (7 - 7 : Nat) = 0 from rfl] at hf
              rw [HP.out, HS2.out, ← hf]
              rfl
            have hln : pre.length < xs.length := by rw [hx.out]; simp
            obtain ⟨fn, tmps, assign, body, hy, hR⟩ := HY.out pre ⟨0, [], (p : Int), 0, 22⟩ wr HJ2.out hln
            dsimp only [encS, spanV] at hy
            gi_wp2
            refine hR.mono ?_
            rintro e2 W3 (⟨rfl, hJ3, _⟩ | ⟨rfl, hJx3⟩)
            · gi_wp2
              rw [noGoto_normal]
              go_end0
              exact ⟨⟨_, rfl⟩, .inl ⟨_, hx.out.symm, hJ3⟩⟩
            · gi_wp2
              rw [noGoto_normal]
              go_end0
              exact ⟨⟨_, rfl⟩, .inr ⟨_, ⟨[], by rw [List.append_nil]; exact hx.out.symm⟩, hJx3⟩⟩
          · have hi6 : i = 0 ∨ i = 1 ∨ i = 2 ∨ i = 3 ∨ i = 4 ∨ i = 5 ∨ i = 6 := by omega
            rcases hi6 with rfl | rfl | rfl | rfl | rfl | rfl | rfl
            · have d0 : wr.cell? ⟨W.heap.size, 0, none⟩ = some (.int .i64 0) := ruleCell HT2.out 0
              have d1 : wr.cell? ⟨W.heap.size, 1, none⟩ = some (.func (.func 75) #[] #[]) := ruleCell HT2.out 1
              have c2 := HE2.out.t
              have s0 := HE2.out.s0
              have s1 := HE2.out.s1
              gi_wp2
              refine wpIn_wide.2 ?_
              obtain ⟨w2, hw2⟩ : ∃ w2, wr.alloc (.cells #[.int .i64 0, .func (.func 75) #[] #[]] 95) = w2 := ⟨_, rfl⟩
              rw [hw2]
              have hb2 : Below wr.heap.size wr w2 := by rw [← hw2]; exact (Below.refl _ wr).alloc (Nat.le_refl _) _
              have e0 : w2.cell? ⟨wr.heap.size, 0, none⟩ = some (.int .i64 0) := by rw [← hw2]; simp
              have e1 : w2.cell? ⟨wr.heap.size, 1, none⟩ = some (.func (.func 75) #[] #[]) := by rw [← hw2]; simp
              have HE3 := Lib.hid (HE2.out.below hb2)
              have c3 := HE3.out.t
              have s3 := HE3.out.s0
              have s4 := HE3.out.s1
              clear c2 s0 s1 d0 d1 hw2
              have HB2 : Hid (Below wr.heap.size wr w2.drew) := hb2.drew
              have hz3 : wr.heap.size < w2.drew.heap.size := by show wr.heap.size < w2.heap.size; exact lt_of_cell e1
              have hBt2 : Bt < w2.drew.heap.size := by show Bt < w2.heap.size; exact lt_of_cell c3
              have hBs2 : Bs < w2.drew.heap.size := by show Bs < w2.heap.size; exact lt_of_cell s3
              obtain ⟨⟨sz, er⟩, hru⟩ : ∃ q, ruleI kwL sgL 0 r2.data.toList = q := ⟨_, rfl⟩
              have hq := qualified_any r2 kb sb kwL w2.drew hr2m (HE2.out.below hb2.drew).kw
              rw [show qualifiedI kwL r2.data.toList = (sz, er) from hru] at hq
              have HQ := Lib.hid hq
              have HRU := Lib.hid hru
              clear hq hru
              go_region_held3 (fun w' => w'.cell? ⟨wr.heap.size, 1, none⟩ = some (.func (.func 75) #[] #[]) ∧ w'.cell? ⟨Bs, 0, none⟩ = some (.map (some kb)) ∧ w'.cell? ⟨Bs, 1, none⟩ = some (.map (some sb)) ∧ w'.cell? ⟨Bt, 0, none⟩ = some (.string s) ∧ Hid (Below wr.heap.size wr w')) (first | exact ⟨e1, s3, s4, c3, HB2⟩ | exact hS4)
                (first | (go_at_call 75; (with_reducible refine HQ.out.mono ?_); rintro e2 w4 ⟨rfl, hb4⟩; have hS4 := And.intro ((hb4.cell (p := ⟨wr.heap.size, 1, none⟩) hz3).trans e1) (And.intro ((hb4.cell (p := ⟨Bs, 0, none⟩) hBs2).trans s3) (And.intro ((hb4.cell (p := ⟨Bs, 1, none⟩) hBs2).trans s4) (And.intro ((hb4.cell (p := ⟨Bt, 0, none⟩) hBt2).trans c3) (Lib.hid (hb2.drew.trans (hb4.mono (Nat.le_of_lt hz3)))))))))
              have r0 : w4.cell? ⟨wr.heap.size, 0, none⟩ = some (.int .i64 0) := (hb4.cell (p := ⟨wr.heap.size, 0, none⟩) hz3).trans e0
              have HB4 := Lib.hid (hb2.drew.trans (hb4.mono (Nat.le_of_lt hz3)))
              have ct4 := hS4.2.2.2.1
              have hz4 : wr.heap.size < w4.heap.size := Nat.lt_of_lt_of_le hz3 hb4.size
              have HE5 := Lib.hid (HE2.out.below HB4.out)
              have HT5 := Lib.hid ((HB4.out.block _ hz2).trans HT2.out)
              have HJ5 := Lib.hid (AbidesFrom.below HJ.out HJ2.out HB4.out)
              clear e0 e1 c3 s3 s4 HB2 HE3 hz3 hBt2 hBs2 hb2 hb4 HQ hS4
              rename_i hHeld
              clear hHeld
              by_cases her : er = 0
              · have hszb := ruleI_bd kwL sgL 0 r2.data.toList (by rw [HRU.out]; exact her)
                rw [HRU.out] at hszb
                dsimp only at hszb
                rw [← Lib.size_eq] at hszb
                subst her
                by_cases hsz : 0 < sz
                · obtain ⟨m, rfl⟩ := Int.eq_ofNat_of_zero_le hszb.1
                  have hm0 : 0 < m := by omega
                  have hpm : p + m ≤ s.size := by have := HR2S.out; omega
                  obtain ⟨q, hq⟩ : ∃ q, p + m = q := ⟨_, rfl⟩
                  have hx : Hid (xs = pre ++ (⟨0, r2.data.toList.take m, (p : Int), (q : Int), 0⟩ : Span) :: spansT s (s.data.toList.drop q) q) := by
                    show _ = _
                    rw [HP.out, HS2.out, show firstRule kwL sgL r2.data.toList 7 0 = some (0, (m : Int), 0) from (rfl : firstRule kwL sgL r2.data.toList (7 - 0) 0 = firstRule kwL sgL r2.data.toList 7 0).symm.trans (fr_hit (by omega) HRU.out rfl hsz)]
                    simp only [ne_eq, not_true_eq_false, if_false, Int.toNat_natCast, HRD.out, List.drop_drop, hq, show (p : Int) + (m : Int) = (q : Int) by omega]
                  have hln : pre.length < xs.length := by rw [hx.out]; simp
                  have htx : s.extract p q = mk (r2.data.toList.take m) := by
                    rw [HRD.out, ← hq]; exact extract_mk s p m
                  have hpq : p < q := by omega
                  have hpq' : p ≤ q := by omega
                  have hqs : q ≤ s.size := by omega
                  have hwr : IntKind.i64.wrap ((p : Int) + (m : Int)) = (q : Int) := by rw [show (p : Int) + (m : Int) = (q : Int) by omega]; exact IntWalk.i64_in _ (by omega)
                  have k0 : ∀ o1, (w4.alloc o1).cell? ⟨wr.heap.size, 0, none⟩ = some (.int .i64 0) := fun o1 => (((Below.refl _ w4).alloc (Nat.le_refl _) o1).cell (p := ⟨wr.heap.size, 0, none⟩) hz4).trans r0
                  have k1 : ∀ o1, (w4.alloc o1).cell? ⟨Bt, 0, none⟩ = some (.string s) := fun o1 => (((Below.refl _ w4).alloc (Nat.le_refl _) o1).cell (p := ⟨Bt, 0, none⟩) (lt_of_cell ct4)).trans ct4
                  have HQM := Lib.hid hq
                  clear hq hpm
                  clear hszb hsz
                  gi_wp2
                  refine wpIn_wide.2 ?_
                  go_region
                  have hb5 : Below w4.heap.size w4 (w4.alloc (.cells #[.int .i64 0, .string (mk (List.take m r2.data.toList)), .int .i64 (p : Int), .int .i64 (q : Int)] 62)).drew := ((Below.refl _ w4).alloc (Nat.le_refl _) _).drew
                  have hh5 : (w4.alloc (.cells #[.int .i64 0, .string (mk (List.take m r2.data.toList)), .int .i64 (p : Int), .int .i64 (q : Int)] 62)).drew.heap[w4.heap.size]? = some (.cells #[.int .i64 0, .string (mk (List.take m r2.data.toList)), .int .i64 (p : Int), .int .i64 (q : Int)] 62 (0, 0)) := by
                    show (w4.heap.push _)[w4.heap.size]? = _
                    simp
                  obtain ⟨w5, hw5⟩ : ∃ w5, (w4.alloc (.cells #[.int .i64 0, .string (mk (List.take m r2.data.toList)), .int .i64 (p : Int), .int .i64 (q : Int)] 62)).drew = w5 := ⟨_, rfl⟩
                  rw [hw5] at hb5 hh5 ⊢
                  have v0 : w5.cell? ⟨w4.heap.size, 0, none⟩ = some (.int .i64 0) := by unfold World.cell?; rw [hh5]; rfl
                  have v1 : w5.cell? ⟨w4.heap.size, 1, none⟩ = some (.string (mk (List.take m r2.data.toList))) := by unfold World.cell?; rw [hh5]; rfl
                  have v2 : w5.cell? ⟨w4.heap.size, 2, none⟩ = some (.int .i64 (p : Int)) := by unfold World.cell?; rw [hh5]; rfl
                  have v3 : w5.cell? ⟨w4.heap.size, 3, none⟩ = some (.int .i64 (q : Int)) := by unfold World.cell?; rw [hh5]; rfl
                  have HH5 := Lib.hid hh5
                  have hz5 := hb5.size
                  clear hw5 hh5 k0 k1 hwr htx r0 ct4
                  obtain ⟨fn, tmps, assign, body, hy, hR⟩ := HY.out pre ⟨0, r2.data.toList.take m, (p : Int), (q : Int), 0⟩ w5 (AbidesFrom.below HJ.out HJ5.out hb5) hln
                  dsimp only [encS, spanV] at hy
                  gi_wp2
                  refine hR.mono ?_
                  rintro e2 W3 (⟨rfl, hJ3, hk3⟩ | ⟨rfl, hJx3⟩)
                  · have hh3 := hk3.cells _ _ _ _ HH5.out (fun h => by have := hFb _ h; omega) (by decide)
                    have v3' : W3.cell? ⟨w4.heap.size, 3, none⟩ = some (.int .i64 (q : Int)) := by unfold World.cell?; rw [hh3]; rfl
                    have HE6 := Lib.hid ((HE5.out.below hb5).kept hk3 h01 hkb hsb hBt hBs)
                    have HT6 := Lib.hid (hk3.cells _ _ _ _ ((hb5.block _ (by omega)).trans HT5.out) (fun h => by have := hFb _ h; omega) (by decide))
                    have hz6 := hk3.size
                    have HJ6 := Lib.hid hJ3
                    clear hh3 hk3 v0 v1 v2 v3 hy
                    gi_wp2
                    go_roundw
                    case rel => exact ⟨_, q, hqs, rfl, (show _ = _ by rw [List.append_assoc]; exact hx.out), HE6, HT6, HJ6, by omega⟩
                    case measure => simp [intOf]; have := HPP.out; omega
                  · gi_wp2
                    rw [noGoto_normal]
                    go_end0
                    exact ⟨⟨_, rfl⟩, .inr ⟨_, ⟨_, by rw [List.append_assoc]; exact hx.out.symm⟩, hJx3⟩⟩
                · have hs0 : sz ≤ 0 := by omega
                  gi_wp2
                  go_roundw
                  case rel => exact ⟨1, by omega, rfl, rfl, (fr_next (by omega) HRU.out rfl hsz).symm.trans (rfl : firstRule kwL sgL r2.data.toList (7 - 0) 0 = firstRule kwL sgL r2.data.toList 7 0), HE5, HT5, HJ5, by omega⟩
                  case measure => simp [intOf]
              · have hne : (er != 0) = true := by simpa using her
                have hx : Hid (xs = pre ++ [⟨0, [], (p : Int), 0, er⟩]) := by
                  show _ = _
                  rw [HP.out, HS2.out, show firstRule kwL sgL r2.data.toList 7 0 = some (0, 0, er) from (rfl : firstRule kwL sgL r2.data.toList (7 - 0) 0 = firstRule kwL sgL r2.data.toList 7 0).symm.trans (fr_err (by omega) HRU.out her)]
                  simp [her]
                have hln : pre.length < xs.length := by rw [hx.out]; simp
                obtain ⟨fn, tmps, assign, body, hy, hR⟩ := HY.out pre ⟨0, [], (p : Int), 0, er⟩ w4 HJ5.out hln
                dsimp only [encS, spanV] at hy
                gi_wp2
                refine hR.mono ?_
                rintro e2 W3 (⟨rfl, hJ3, _⟩ | ⟨rfl, hJx3⟩)
                · gi_wp2
                  rw [noGoto_normal]
                  go_end0
                  exact ⟨⟨_, rfl⟩, .inl ⟨_, hx.out.symm, hJ3⟩⟩
                · gi_wp2
                  rw [noGoto_normal]
                  go_end0
                  exact ⟨⟨_, rfl⟩, .inr ⟨_, ⟨[], by rw [List.append_nil]; exact hx.out.symm⟩, hJx3⟩⟩
            · have d0 : wr.cell? ⟨W.heap.size, 2, none⟩ = some (.int .i64 1) := ruleCell HT2.out 2
              have d1 : wr.cell? ⟨W.heap.size, 3, none⟩ = some (.func (.func 76) #[] #[]) := ruleCell HT2.out 3
              have c2 := HE2.out.t
              have s0 := HE2.out.s0
              have s1 := HE2.out.s1
              gi_wp2
              refine wpIn_wide.2 ?_
              obtain ⟨w2, hw2⟩ : ∃ w2, wr.alloc (.cells #[.int .i64 1, .func (.func 76) #[] #[]] 95) = w2 := ⟨_, rfl⟩
              rw [hw2]
              have hb2 : Below wr.heap.size wr w2 := by rw [← hw2]; exact (Below.refl _ wr).alloc (Nat.le_refl _) _
              have e0 : w2.cell? ⟨wr.heap.size, 0, none⟩ = some (.int .i64 1) := by rw [← hw2]; simp
              have e1 : w2.cell? ⟨wr.heap.size, 1, none⟩ = some (.func (.func 76) #[] #[]) := by rw [← hw2]; simp
              have HE3 := Lib.hid (HE2.out.below hb2)
              have c3 := HE3.out.t
              have s3 := HE3.out.s0
              have s4 := HE3.out.s1
              clear c2 s0 s1 d0 d1 hw2
              have HB2 : Hid (Below wr.heap.size wr w2.drew) := hb2.drew
              have hz3 : wr.heap.size < w2.drew.heap.size := by show wr.heap.size < w2.heap.size; exact lt_of_cell e1
              have hBt2 : Bt < w2.drew.heap.size := by show Bt < w2.heap.size; exact lt_of_cell c3
              have hBs2 : Bs < w2.drew.heap.size := by show Bs < w2.heap.size; exact lt_of_cell s3
              obtain ⟨⟨sz, er⟩, hru⟩ : ∃ q, ruleI kwL sgL 1 r2.data.toList = q := ⟨_, rfl⟩
              have hq := keyword_any r2 kb sb kwL w2.drew hr2m (HE2.out.below hb2.drew).kw
              rw [show keywordI kwL r2.data.toList = (sz, er) from hru] at hq
              have HQ := Lib.hid hq
              have HRU := Lib.hid hru
              clear hq hru
              go_region_held3 (fun w' => w'.cell? ⟨wr.heap.size, 1, none⟩ = some (.func (.func 76) #[] #[]) ∧ w'.cell? ⟨Bs, 0, none⟩ = some (.map (some kb)) ∧ w'.cell? ⟨Bs, 1, none⟩ = some (.map (some sb)) ∧ w'.cell? ⟨Bt, 0, none⟩ = some (.string s) ∧ Hid (Below wr.heap.size wr w')) (first | exact ⟨e1, s3, s4, c3, HB2⟩ | exact hS4)
                (first | (go_at_call 76; (with_reducible refine HQ.out.mono ?_); rintro e2 w4 ⟨rfl, hb4⟩; have hS4 := And.intro ((hb4.cell (p := ⟨wr.heap.size, 1, none⟩) hz3).trans e1) (And.intro ((hb4.cell (p := ⟨Bs, 0, none⟩) hBs2).trans s3) (And.intro ((hb4.cell (p := ⟨Bs, 1, none⟩) hBs2).trans s4) (And.intro ((hb4.cell (p := ⟨Bt, 0, none⟩) hBt2).trans c3) (Lib.hid (hb2.drew.trans (hb4.mono (Nat.le_of_lt hz3)))))))))
              have r0 : w4.cell? ⟨wr.heap.size, 0, none⟩ = some (.int .i64 1) := (hb4.cell (p := ⟨wr.heap.size, 0, none⟩) hz3).trans e0
              have HB4 := Lib.hid (hb2.drew.trans (hb4.mono (Nat.le_of_lt hz3)))
              have ct4 := hS4.2.2.2.1
              have hz4 : wr.heap.size < w4.heap.size := Nat.lt_of_lt_of_le hz3 hb4.size
              have HE5 := Lib.hid (HE2.out.below HB4.out)
              have HT5 := Lib.hid ((HB4.out.block _ hz2).trans HT2.out)
              have HJ5 := Lib.hid (AbidesFrom.below HJ.out HJ2.out HB4.out)
              clear e0 e1 c3 s3 s4 HB2 HE3 hz3 hBt2 hBs2 hb2 hb4 HQ hS4
              rename_i hHeld
              clear hHeld
              by_cases her : er = 0
              · have hszb := ruleI_bd kwL sgL 1 r2.data.toList (by rw [HRU.out]; exact her)
                rw [HRU.out] at hszb
                dsimp only at hszb
                rw [← Lib.size_eq] at hszb
                subst her
                by_cases hsz : 0 < sz
                · obtain ⟨m, rfl⟩ := Int.eq_ofNat_of_zero_le hszb.1
                  have hm0 : 0 < m := by omega
                  have hpm : p + m ≤ s.size := by have := HR2S.out; omega
                  obtain ⟨q, hq⟩ : ∃ q, p + m = q := ⟨_, rfl⟩
                  have hx : Hid (xs = pre ++ (⟨1, r2.data.toList.take m, (p : Int), (q : Int), 0⟩ : Span) :: spansT s (s.data.toList.drop q) q) := by
                    show _ = _
                    rw [HP.out, HS2.out, show firstRule kwL sgL r2.data.toList 7 0 = some (1, (m : Int), 0) from HF.out.symm.trans (fr_hit (by omega) HRU.out rfl hsz)]
                    simp only [ne_eq, not_true_eq_false, if_false, Int.toNat_natCast, HRD.out, List.drop_drop, hq, show (p : Int) + (m : Int) = (q : Int) by omega]
                  have hln : pre.length < xs.length := by rw [hx.out]; simp
                  have htx : s.extract p q = mk (r2.data.toList.take m) := by
                    rw [HRD.out, ← hq]; exact extract_mk s p m
                  have hpq : p < q := by omega
                  have hpq' : p ≤ q := by omega
                  have hqs : q ≤ s.size := by omega
                  have hwr : IntKind.i64.wrap ((p : Int) + (m : Int)) = (q : Int) := by rw [show (p : Int) + (m : Int) = (q : Int) by omega]; exact IntWalk.i64_in _ (by omega)
                  have k0 : ∀ o1, (w4.alloc o1).cell? ⟨wr.heap.size, 0, none⟩ = some (.int .i64 1) := fun o1 => (((Below.refl _ w4).alloc (Nat.le_refl _) o1).cell (p := ⟨wr.heap.size, 0, none⟩) hz4).trans r0
                  have k1 : ∀ o1, (w4.alloc o1).cell? ⟨Bt, 0, none⟩ = some (.string s) := fun o1 => (((Below.refl _ w4).alloc (Nat.le_refl _) o1).cell (p := ⟨Bt, 0, none⟩) (lt_of_cell ct4)).trans ct4
                  have HQM := Lib.hid hq
                  clear hq hpm
                  clear hszb hsz
                  gi_wp2
                  refine wpIn_wide.2 ?_
                  go_region
                  have hb5 : Below w4.heap.size w4 (w4.alloc (.cells #[.int .i64 1, .string (mk (List.take m r2.data.toList)), .int .i64 (p : Int), .int .i64 (q : Int)] 62)).drew := ((Below.refl _ w4).alloc (Nat.le_refl _) _).drew
                  have hh5 : (w4.alloc (.cells #[.int .i64 1, .string (mk (List.take m r2.data.toList)), .int .i64 (p : Int), .int .i64 (q : Int)] 62)).drew.heap[w4.heap.size]? = some (.cells #[.int .i64 1, .string (mk (List.take m r2.data.toList)), .int .i64 (p : Int), .int .i64 (q : Int)] 62 (0, 0)) := by
                    show (w4.heap.push _)[w4.heap.size]? = _
                    simp
                  obtain ⟨w5, hw5⟩ : ∃ w5, (w4.alloc (.cells #[.int .i64 1, .string (mk (List.take m r2.data.toList)), .int .i64 (p : Int), .int .i64 (q : Int)] 62)).drew = w5 := ⟨_, rfl⟩
                  rw [hw5] at hb5 hh5 ⊢
                  have v0 : w5.cell? ⟨w4.heap.size, 0, none⟩ = some (.int .i64 1) := by unfold World.cell?; rw [hh5]; rfl
                  have v1 : w5.cell? ⟨w4.heap.size, 1, none⟩ = some (.string (mk (List.take m r2.data.toList))) := by unfold World.cell?; rw [hh5]; rfl
                  have v2 : w5.cell? ⟨w4.heap.size, 2, none⟩ = some (.int .i64 (p : Int)) := by unfold World.cell?; rw [hh5]; rfl
                  have v3 : w5.cell? ⟨w4.heap.size, 3, none⟩ = some (.int .i64 (q : Int)) := by unfold World.cell?; rw [hh5]; rfl
                  have HH5 := Lib.hid hh5
                  have hz5 := hb5.size
                  clear hw5 hh5 k0 k1 hwr htx r0 ct4
                  obtain ⟨fn, tmps, assign, body, hy, hR⟩ := HY.out pre ⟨1, r2.data.toList.take m, (p : Int), (q : Int), 0⟩ w5 (AbidesFrom.below HJ.out HJ5.out hb5) hln
                  dsimp only [encS, spanV] at hy
                  gi_wp2
                  refine hR.mono ?_
                  rintro e2 W3 (⟨rfl, hJ3, hk3⟩ | ⟨rfl, hJx3⟩)
                  · have hh3 := hk3.cells _ _ _ _ HH5.out (fun h => by have := hFb _ h; omega) (by decide)
                    have v3' : W3.cell? ⟨w4.heap.size, 3, none⟩ = some (.int .i64 (q : Int)) := by unfold World.cell?; rw [hh3]; rfl
                    have HE6 := Lib.hid ((HE5.out.below hb5).kept hk3 h01 hkb hsb hBt hBs)
                    have HT6 := Lib.hid (hk3.cells _ _ _ _ ((hb5.block _ (by omega)).trans HT5.out) (fun h => by have := hFb _ h; omega) (by decide))
                    have hz6 := hk3.size
                    have HJ6 := Lib.hid hJ3
                    clear hh3 hk3 v0 v1 v2 v3 hy
                    gi_wp2
                    go_roundw
                    case rel => exact ⟨_, q, hqs, rfl, (show _ = _ by rw [List.append_assoc]; exact hx.out), HE6, HT6, HJ6, by omega⟩
                    case measure => simp [intOf]; have := HPP.out; omega
                  · gi_wp2
                    rw [noGoto_normal]
                    go_end0
                    exact ⟨⟨_, rfl⟩, .inr ⟨_, ⟨_, by rw [List.append_assoc]; exact hx.out.symm⟩, hJx3⟩⟩
                · have hs0 : sz ≤ 0 := by omega
                  gi_wp2
                  go_roundw
                  case rel => exact ⟨2, by omega, rfl, rfl, (fr_next (by omega) HRU.out rfl hsz).symm.trans HF.out, HE5, HT5, HJ5, by omega⟩
                  case measure => simp [intOf]
              · have hne : (er != 0) = true := by simpa using her
                have hx : Hid (xs = pre ++ [⟨0, [], (p : Int), 0, er⟩]) := by
                  show _ = _
                  rw [HP.out, HS2.out, show firstRule kwL sgL r2.data.toList 7 0 = some (0, 0, er) from HF.out.symm.trans (fr_err (by omega) HRU.out her)]
                  simp [her]
                have hln : pre.length < xs.length := by rw [hx.out]; simp
                obtain ⟨fn, tmps, assign, body, hy, hR⟩ := HY.out pre ⟨0, [], (p : Int), 0, er⟩ w4 HJ5.out hln
                dsimp only [encS, spanV] at hy
                gi_wp2
                refine hR.mono ?_
                rintro e2 W3 (⟨rfl, hJ3, _⟩ | ⟨rfl, hJx3⟩)
                · gi_wp2
                  rw [noGoto_normal]
                  go_end0
                  exact ⟨⟨_, rfl⟩, .inl ⟨_, hx.out.symm, hJ3⟩⟩
                · gi_wp2
                  rw [noGoto_normal]
                  go_end0
                  exact ⟨⟨_, rfl⟩, .inr ⟨_, ⟨[], by rw [List.append_nil]; exact hx.out.symm⟩, hJx3⟩⟩
            · have d0 : wr.cell? ⟨W.heap.size, 4, none⟩ = some (.int .i64 0) := ruleCell HT2.out 4
              have d1 : wr.cell? ⟨W.heap.size, 5, none⟩ = some (.func (.func 77) #[] #[]) := ruleCell HT2.out 5
              have c2 := HE2.out.t
              have s0 := HE2.out.s0
              have s1 := HE2.out.s1
              gi_wp2
              refine wpIn_wide.2 ?_
              obtain ⟨w2, hw2⟩ : ∃ w2, wr.alloc (.cells #[.int .i64 0, .func (.func 77) #[] #[]] 95) = w2 := ⟨_, rfl⟩
              rw [hw2]
              have hb2 : Below wr.heap.size wr w2 := by rw [← hw2]; exact (Below.refl _ wr).alloc (Nat.le_refl _) _
              have e0 : w2.cell? ⟨wr.heap.size, 0, none⟩ = some (.int .i64 0) := by rw [← hw2]; simp
              have e1 : w2.cell? ⟨wr.heap.size, 1, none⟩ = some (.func (.func 77) #[] #[]) := by rw [← hw2]; simp
              have HE3 := Lib.hid (HE2.out.below hb2)
              have c3 := HE3.out.t
              have s3 := HE3.out.s0
              have s4 := HE3.out.s1
              clear c2 s0 s1 d0 d1 hw2
              have HB2 : Hid (Below wr.heap.size wr w2.drew) := hb2.drew
              have hz3 : wr.heap.size < w2.drew.heap.size := by show wr.heap.size < w2.heap.size; exact lt_of_cell e1
              have hBt2 : Bt < w2.drew.heap.size := by show Bt < w2.heap.size; exact lt_of_cell c3
              have hBs2 : Bs < w2.drew.heap.size := by show Bs < w2.heap.size; exact lt_of_cell s3
              obtain ⟨⟨sz, er⟩, hru⟩ : ∃ q, ruleI kwL sgL 2 r2.data.toList = q := ⟨_, rfl⟩
              have hq := name_any r2 kb sb w2.drew hr2m
              rw [show nameI r2.data.toList = (sz, er) from hru] at hq
              have HQ := Lib.hid hq
              have HRU := Lib.hid hru
              clear hq hru
              go_region_held3 (fun w' => w'.cell? ⟨wr.heap.size, 1, none⟩ = some (.func (.func 77) #[] #[]) ∧ w'.cell? ⟨Bs, 0, none⟩ = some (.map (some kb)) ∧ w'.cell? ⟨Bs, 1, none⟩ = some (.map (some sb)) ∧ w'.cell? ⟨Bt, 0, none⟩ = some (.string s) ∧ Hid (Below wr.heap.size wr w')) (first | exact ⟨e1, s3, s4, c3, HB2⟩ | exact hS4)
                (first | (go_at_call 77; (with_reducible refine HQ.out.mono ?_); rintro e2 w4 ⟨rfl, hb4⟩; have hS4 := And.intro ((hb4.cell (p := ⟨wr.heap.size, 1, none⟩) hz3).trans e1) (And.intro ((hb4.cell (p := ⟨Bs, 0, none⟩) hBs2).trans s3) (And.intro ((hb4.cell (p := ⟨Bs, 1, none⟩) hBs2).trans s4) (And.intro ((hb4.cell (p := ⟨Bt, 0, none⟩) hBt2).trans c3) (Lib.hid (hb2.drew.trans (hb4.mono (Nat.le_of_lt hz3)))))))))
              have r0 : w4.cell? ⟨wr.heap.size, 0, none⟩ = some (.int .i64 0) := (hb4.cell (p := ⟨wr.heap.size, 0, none⟩) hz3).trans e0
              have HB4 := Lib.hid (hb2.drew.trans (hb4.mono (Nat.le_of_lt hz3)))
              have ct4 := hS4.2.2.2.1
              have hz4 : wr.heap.size < w4.heap.size := Nat.lt_of_lt_of_le hz3 hb4.size
              have HE5 := Lib.hid (HE2.out.below HB4.out)
              have HT5 := Lib.hid ((HB4.out.block _ hz2).trans HT2.out)
              have HJ5 := Lib.hid (AbidesFrom.below HJ.out HJ2.out HB4.out)
              clear e0 e1 c3 s3 s4 HB2 HE3 hz3 hBt2 hBs2 hb2 hb4 HQ hS4
              rename_i hHeld
              clear hHeld
              by_cases her : er = 0
              · have hszb := ruleI_bd kwL sgL 2 r2.data.toList (by rw [HRU.out]; exact her)
                rw [HRU.out] at hszb
                dsimp only at hszb
                rw [← Lib.size_eq] at hszb
                subst her
                by_cases hsz : 0 < sz
                · obtain ⟨m, rfl⟩ := Int.eq_ofNat_of_zero_le hszb.1
                  have hm0 : 0 < m := by omega
                  have hpm : p + m ≤ s.size := by have := HR2S.out; omega
                  obtain ⟨q, hq⟩ : ∃ q, p + m = q := ⟨_, rfl⟩
                  have hx : Hid (xs = pre ++ (⟨0, r2.data.toList.take m, (p : Int), (q : Int), 0⟩ : Span) :: spansT s (s.data.toList.drop q) q) := by
                    show _ = _
                    rw [HP.out, HS2.out, show firstRule kwL sgL r2.data.toList 7 0 = some (0, (m : Int), 0) from HF.out.symm.trans (fr_hit (by omega) HRU.out rfl hsz)]
                    simp only [ne_eq, not_true_eq_false, if_false, Int.toNat_natCast, HRD.out, List.drop_drop, hq, show (p : Int) + (m : Int) = (q : Int) by omega]
                  have hln : pre.length < xs.length := by rw [hx.out]; simp
                  have htx : s.extract p q = mk (r2.data.toList.take m) := by
                    rw [HRD.out, ← hq]; exact extract_mk s p m
                  have hpq : p < q := by omega
                  have hpq' : p ≤ q := by omega
                  have hqs : q ≤ s.size := by omega
                  have hwr : IntKind.i64.wrap ((p : Int) + (m : Int)) = (q : Int) := by rw [show (p : Int) + (m : Int) = (q : Int) by omega]; exact IntWalk.i64_in _ (by omega)
                  have k0 : ∀ o1, (w4.alloc o1).cell? ⟨wr.heap.size, 0, none⟩ = some (.int .i64 0) := fun o1 => (((Below.refl _ w4).alloc (Nat.le_refl _) o1).cell (p := ⟨wr.heap.size, 0, none⟩) hz4).trans r0
                  have k1 : ∀ o1, (w4.alloc o1).cell? ⟨Bt, 0, none⟩ = some (.string s) := fun o1 => (((Below.refl _ w4).alloc (Nat.le_refl _) o1).cell (p := ⟨Bt, 0, none⟩) (lt_of_cell ct4)).trans ct4
                  have HQM := Lib.hid hq
                  clear hq hpm
                  clear hszb hsz
                  gi_wp2
                  refine wpIn_wide.2 ?_
                  go_region
                  have hb5 : Below w4.heap.size w4 (w4.alloc (.cells #[.int .i64 0, .string (mk (List.take m r2.data.toList)), .int .i64 (p : Int), .int .i64 (q : Int)] 62)).drew := ((Below.refl _ w4).alloc (Nat.le_refl _) _).drew
                  have hh5 : (w4.alloc (.cells #[.int .i64 0, .string (mk (List.take m r2.data.toList)), .int .i64 (p : Int), .int .i64 (q : Int)] 62)).drew.heap[w4.heap.size]? = some (.cells #[.int .i64 0, .string (mk (List.take m r2.data.toList)), .int .i64 (p : Int), .int .i64 (q : Int)] 62 (0, 0)) := by
                    show (w4.heap.push _)[w4.heap.size]? = _
                    simp
                  obtain ⟨w5, hw5⟩ : ∃ w5, (w4.alloc (.cells #[.int .i64 0, .string (mk (List.take m r2.data.toList)), .int .i64 (p : Int), .int .i64 (q : Int)] 62)).drew = w5 := ⟨_, rfl⟩
                  rw [hw5] at hb5 hh5 ⊢
                  have v0 : w5.cell? ⟨w4.heap.size, 0, none⟩ = some (.int .i64 0) := by unfold World.cell?; rw [hh5]; rfl
                  have v1 : w5.cell? ⟨w4.heap.size, 1, none⟩ = some (.string (mk (List.take m r2.data.toList))) := by unfold World.cell?; rw [hh5]; rfl
                  have v2 : w5.cell? ⟨w4.heap.size, 2, none⟩ = some (.int .i64 (p : Int)) := by unfold World.cell?; rw [hh5]; rfl
                  have v3 : w5.cell? ⟨w4.heap.size, 3, none⟩ = some (.int .i64 (q : Int)) := by unfold World.cell?; rw [hh5]; rfl
                  have HH5 := Lib.hid hh5
                  have hz5 := hb5.size
                  clear hw5 hh5 k0 k1 hwr htx r0 ct4
                  obtain ⟨fn, tmps, assign, body, hy, hR⟩ := HY.out pre ⟨0, r2.data.toList.take m, (p : Int), (q : Int), 0⟩ w5 (AbidesFrom.below HJ.out HJ5.out hb5) hln
                  dsimp only [encS, spanV] at hy
                  gi_wp2
                  refine hR.mono ?_
                  rintro e2 W3 (⟨rfl, hJ3, hk3⟩ | ⟨rfl, hJx3⟩)
                  · have hh3 := hk3.cells _ _ _ _ HH5.out (fun h => by have := hFb _ h; omega) (by decide)
                    have v3' : W3.cell? ⟨w4.heap.size, 3, none⟩ = some (.int .i64 (q : Int)) := by unfold World.cell?; rw [hh3]; rfl
                    have HE6 := Lib.hid ((HE5.out.below hb5).kept hk3 h01 hkb hsb hBt hBs)
                    have HT6 := Lib.hid (hk3.cells _ _ _ _ ((hb5.block _ (by omega)).trans HT5.out) (fun h => by have := hFb _ h; omega) (by decide))
                    have hz6 := hk3.size
                    have HJ6 := Lib.hid hJ3
                    clear hh3 hk3 v0 v1 v2 v3 hy
                    gi_wp2
                    go_roundw
                    case rel => exact ⟨_, q, hqs, rfl, (show _ = _ by rw [List.append_assoc]; exact hx.out), HE6, HT6, HJ6, by omega⟩
                    case measure => simp [intOf]; have := HPP.out; omega
                  · gi_wp2
                    rw [noGoto_normal]
                    go_end0
                    exact ⟨⟨_, rfl⟩, .inr ⟨_, ⟨_, by rw [List.append_assoc]; exact hx.out.symm⟩, hJx3⟩⟩
                · have hs0 : sz ≤ 0 := by omega
                  gi_wp2
                  go_roundw
                  case rel => exact ⟨3, by omega, rfl, rfl, (fr_next (by omega) HRU.out rfl hsz).symm.trans HF.out, HE5, HT5, HJ5, by omega⟩
                  case measure => simp [intOf]
              · have hne : (er != 0) = true := by simpa using her
                have hx : Hid (xs = pre ++ [⟨0, [], (p : Int), 0, er⟩]) := by
                  show _ = _
                  rw [HP.out, HS2.out, show firstRule kwL sgL r2.data.toList 7 0 = some (0, 0, er) from HF.out.symm.trans (fr_err (by omega) HRU.out her)]
                  simp [her]
                have hln : pre.length < xs.length := by rw [hx.out]; simp
                obtain ⟨fn, tmps, assign, body, hy, hR⟩ := HY.out pre ⟨0, [], (p : Int), 0, er⟩ w4 HJ5.out hln
                dsimp only [encS, spanV] at hy
                gi_wp2
                refine hR.mono ?_
                rintro e2 W3 (⟨rfl, hJ3, _⟩ | ⟨rfl, hJx3⟩)
                · gi_wp2
                  rw [noGoto_normal]
                  go_end0
                  exact ⟨⟨_, rfl⟩, .inl ⟨_, hx.out.symm, hJ3⟩⟩
                · gi_wp2
                  rw [noGoto_normal]
                  go_end0
                  exact ⟨⟨_, rfl⟩, .inr ⟨_, ⟨[], by rw [List.append_nil]; exact hx.out.symm⟩, hJx3⟩⟩
            · have d0 : wr.cell? ⟨W.heap.size, 6, none⟩ = some (.int .i64 4) := ruleCell HT2.out 6
              have d1 : wr.cell? ⟨W.heap.size, 7, none⟩ = some (.func (.func 78) #[] #[]) := ruleCell HT2.out 7
              have c2 := HE2.out.t
              have s0 := HE2.out.s0
              have s1 := HE2.out.s1
              gi_wp2
              refine wpIn_wide.2 ?_
              obtain ⟨w2, hw2⟩ : ∃ w2, wr.alloc (.cells #[.int .i64 4, .func (.func 78) #[] #[]] 95) = w2 := ⟨_, rfl⟩
              rw [hw2]
              have hb2 : Below wr.heap.size wr w2 := by rw [← hw2]; exact (Below.refl _ wr).alloc (Nat.le_refl _) _
              have e0 : w2.cell? ⟨wr.heap.size, 0, none⟩ = some (.int .i64 4) := by rw [← hw2]; simp
              have e1 : w2.cell? ⟨wr.heap.size, 1, none⟩ = some (.func (.func 78) #[] #[]) := by rw [← hw2]; simp
              have HE3 := Lib.hid (HE2.out.below hb2)
              have c3 := HE3.out.t
              have s3 := HE3.out.s0
              have s4 := HE3.out.s1
              clear c2 s0 s1 d0 d1 hw2
              have HB2 : Hid (Below wr.heap.size wr w2.drew) := hb2.drew
              have hz3 : wr.heap.size < w2.drew.heap.size := by show wr.heap.size < w2.heap.size; exact lt_of_cell e1
              have hBt2 : Bt < w2.drew.heap.size := by show Bt < w2.heap.size; exact lt_of_cell c3
              have hBs2 : Bs < w2.drew.heap.size := by show Bs < w2.heap.size; exact lt_of_cell s3
              obtain ⟨⟨sz, er⟩, hru⟩ : ∃ q, ruleI kwL sgL 3 r2.data.toList = q := ⟨_, rfl⟩
              have hq := underscore_any r2 kb sb w2.drew hr2m hr2z
              rw [show underscoreI r2.data.toList = (sz, er) from hru] at hq
              have HQ := Lib.hid hq
              have HRU := Lib.hid hru
              clear hq hru
              go_region_held3 (fun w' => w'.cell? ⟨wr.heap.size, 1, none⟩ = some (.func (.func 78) #[] #[]) ∧ w'.cell? ⟨Bs, 0, none⟩ = some (.map (some kb)) ∧ w'.cell? ⟨Bs, 1, none⟩ = some (.map (some sb)) ∧ w'.cell? ⟨Bt, 0, none⟩ = some (.string s) ∧ Hid (Below wr.heap.size wr w')) (first | exact ⟨e1, s3, s4, c3, HB2⟩ | exact hS4)
                (first | (go_at_call 78; (with_reducible refine HQ.out.mono ?_); rintro e2 w4 ⟨rfl, hb4⟩; have hS4 := And.intro ((hb4.cell (p := ⟨wr.heap.size, 1, none⟩) hz3).trans e1) (And.intro ((hb4.cell (p := ⟨Bs, 0, none⟩) hBs2).trans s3) (And.intro ((hb4.cell (p := ⟨Bs, 1, none⟩) hBs2).trans s4) (And.intro ((hb4.cell (p := ⟨Bt, 0, none⟩) hBt2).trans c3) (Lib.hid (hb2.drew.trans (hb4.mono (Nat.le_of_lt hz3)))))))))
              have r0 : w4.cell? ⟨wr.heap.size, 0, none⟩ = some (.int .i64 4) := (hb4.cell (p := ⟨wr.heap.size, 0, none⟩) hz3).trans e0
              have HB4 := Lib.hid (hb2.drew.trans (hb4.mono (Nat.le_of_lt hz3)))
              have ct4 := hS4.2.2.2.1
              have hz4 : wr.heap.size < w4.heap.size := Nat.lt_of_lt_of_le hz3 hb4.size
              have HE5 := Lib.hid (HE2.out.below HB4.out)
              have HT5 := Lib.hid ((HB4.out.block _ hz2).trans HT2.out)
              have HJ5 := Lib.hid (AbidesFrom.below HJ.out HJ2.out HB4.out)
              clear e0 e1 c3 s3 s4 HB2 HE3 hz3 hBt2 hBs2 hb2 hb4 HQ hS4
              rename_i hHeld
              clear hHeld
              by_cases her : er = 0
              · have hszb := ruleI_bd kwL sgL 3 r2.data.toList (by rw [HRU.out]; exact her)
                rw [HRU.out] at hszb
                dsimp only at hszb
                rw [← Lib.size_eq] at hszb
                subst her
                by_cases hsz : 0 < sz
                · obtain ⟨m, rfl⟩ := Int.eq_ofNat_of_zero_le hszb.1
                  have hm0 : 0 < m := by omega
                  have hpm : p + m ≤ s.size := by have := HR2S.out; omega
                  obtain ⟨q, hq⟩ : ∃ q, p + m = q := ⟨_, rfl⟩
                  have hx : Hid (xs = pre ++ (⟨4, r2.data.toList.take m, (p : Int), (q : Int), 0⟩ : Span) :: spansT s (s.data.toList.drop q) q) := by
                    show _ = _
                    rw [HP.out, HS2.out, show firstRule kwL sgL r2.data.toList 7 0 = some (4, (m : Int), 0) from HF.out.symm.trans (fr_hit (by omega) HRU.out rfl hsz)]
                    simp only [ne_eq, not_true_eq_false, if_false, Int.toNat_natCast, HRD.out, List.drop_drop, hq, show (p : Int) + (m : Int) = (q : Int) by omega]
                  have hln : pre.length < xs.length := by rw [hx.out]; simp
                  have htx : s.extract p q = mk (r2.data.toList.take m) := by
                    rw [HRD.out, ← hq]; exact extract_mk s p m
                  have hpq : p < q := by omega
                  have hpq' : p ≤ q := by omega
                  have hqs : q ≤ s.size := by omega
                  have hwr : IntKind.i64.wrap ((p : Int) + (m : Int)) = (q : Int) := by rw [show (p : Int) + (m : Int) = (q : Int) by omega]; exact IntWalk.i64_in _ (by omega)
                  have k0 : ∀ o1, (w4.alloc o1).cell? ⟨wr.heap.size, 0, none⟩ = some (.int .i64 4) := fun o1 => (((Below.refl _ w4).alloc (Nat.le_refl _) o1).cell (p := ⟨wr.heap.size, 0, none⟩) hz4).trans r0
                  have k1 : ∀ o1, (w4.alloc o1).cell? ⟨Bt, 0, none⟩ = some (.string s) := fun o1 => (((Below.refl _ w4).alloc (Nat.le_refl _) o1).cell (p := ⟨Bt, 0, none⟩) (lt_of_cell ct4)).trans ct4
                  have HQM := Lib.hid hq
                  clear hq hpm
                  clear hszb hsz
                  gi_wp2
                  refine wpIn_wide.2 ?_
                  go_region
                  have hb5 : Below w4.heap.size w4 (w4.alloc (.cells #[.int .i64 4, .string (mk (List.take m r2.data.toList)), .int .i64 (p : Int), .int .i64 (q : Int)] 62)).drew := ((Below.refl _ w4).alloc (Nat.le_refl _) _).drew
                  have hh5 : (w4.alloc (.cells #[.int .i64 4, .string (mk (List.take m r2.data.toList)), .int .i64 (p : Int), .int .i64 (q : Int)] 62)).drew.heap[w4.heap.size]? = some (.cells #[.int .i64 4, .string (mk (List.take m r2.data.toList)), .int .i64 (p : Int), .int .i64 (q : Int)] 62 (0, 0)) := by
                    show (w4.heap.push _)[w4.heap.size]? = _
                    simp
                  obtain ⟨w5, hw5⟩ : ∃ w5, (w4.alloc (.cells #[.int .i64 4, .string (mk (List.take m r2.data.toList)), .int .i64 (p : Int), .int .i64 (q : Int)] 62)).drew = w5 := ⟨_, rfl⟩
                  rw [hw5] at hb5 hh5 ⊢
                  have v0 : w5.cell? ⟨w4.heap.size, 0, none⟩ = some (.int .i64 4) := by unfold World.cell?; rw [hh5]; rfl
                  have v1 : w5.cell? ⟨w4.heap.size, 1, none⟩ = some (.string (mk (List.take m r2.data.toList))) := by unfold World.cell?; rw [hh5]; rfl
                  have v2 : w5.cell? ⟨w4.heap.size, 2, none⟩ = some (.int .i64 (p : Int)) := by unfold World.cell?; rw [hh5]; rfl
                  have v3 : w5.cell? ⟨w4.heap.size, 3, none⟩ = some (.int .i64 (q : Int)) := by unfold World.cell?; rw [hh5]; rfl
                  have HH5 := Lib.hid hh5
                  have hz5 := hb5.size
                  clear hw5 hh5 k0 k1 hwr htx r0 ct4
                  obtain ⟨fn, tmps, assign, body, hy, hR⟩ := HY.out pre ⟨4, r2.data.toList.take m, (p : Int), (q : Int), 0⟩ w5 (AbidesFrom.below HJ.out HJ5.out hb5) hln
                  dsimp only [encS, spanV] at hy
                  gi_wp2
                  refine hR.mono ?_
                  rintro e2 W3 (⟨rfl, hJ3, hk3⟩ | ⟨rfl, hJx3⟩)
                  · have hh3 := hk3.cells _ _ _ _ HH5.out (fun h => by have := hFb _ h; omega) (by decide)
                    have v3' : W3.cell? ⟨w4.heap.size, 3, none⟩ = some (.int .i64 (q : Int)) := by unfold World.cell?; rw [hh3]; rfl
                    have HE6 := Lib.hid ((HE5.out.below hb5).kept hk3 h01 hkb hsb hBt hBs)
                    have HT6 := Lib.hid (hk3.cells _ _ _ _ ((hb5.block _ (by omega)).trans HT5.out) (fun h => by have := hFb _ h; omega) (by decide))
                    have hz6 := hk3.size
                    have HJ6 := Lib.hid hJ3
                    clear hh3 hk3 v0 v1 v2 v3 hy
                    gi_wp2
                    go_roundw
                    case rel => exact ⟨_, q, hqs, rfl, (show _ = _ by rw [List.append_assoc]; exact hx.out), HE6, HT6, HJ6, by omega⟩
                    case measure => simp [intOf]; have := HPP.out; omega
                  · gi_wp2
                    rw [noGoto_normal]
                    go_end0
                    exact ⟨⟨_, rfl⟩, .inr ⟨_, ⟨_, by rw [List.append_assoc]; exact hx.out.symm⟩, hJx3⟩⟩
                · have hs0 : sz ≤ 0 := by omega
                  gi_wp2
                  go_roundw
                  case rel => exact ⟨4, by omega, rfl, rfl, (fr_next (by omega) HRU.out rfl hsz).symm.trans HF.out, HE5, HT5, HJ5, by omega⟩
                  case measure => simp [intOf]
              · have hne : (er != 0) = true := by simpa using her
                have hx : Hid (xs = pre ++ [⟨0, [], (p : Int), 0, er⟩]) := by
                  show _ = _
                  rw [HP.out, HS2.out, show firstRule kwL sgL r2.data.toList 7 0 = some (0, 0, er) from HF.out.symm.trans (fr_err (by omega) HRU.out her)]
                  simp [her]
                have hln : pre.length < xs.length := by rw [hx.out]; simp
                obtain ⟨fn, tmps, assign, body, hy, hR⟩ := HY.out pre ⟨0, [], (p : Int), 0, er⟩ w4 HJ5.out hln
                dsimp only [encS, spanV] at hy
                gi_wp2
                refine hR.mono ?_
                rintro e2 W3 (⟨rfl, hJ3, _⟩ | ⟨rfl, hJx3⟩)
                · gi_wp2
                  rw [noGoto_normal]
                  go_end0
                  exact ⟨⟨_, rfl⟩, .inl ⟨_, hx.out.symm, hJ3⟩⟩
                · gi_wp2
                  rw [noGoto_normal]
                  go_end0
                  exact ⟨⟨_, rfl⟩, .inr ⟨_, ⟨[], by rw [List.append_nil]; exact hx.out.symm⟩, hJx3⟩⟩
            · have d0 : wr.cell? ⟨W.heap.size, 8, none⟩ = some (.int .i64 3) := ruleCell HT2.out 8
              have d1 : wr.cell? ⟨W.heap.size, 9, none⟩ = some (.func (.func 79) #[] #[]) := ruleCell HT2.out 9
              have c2 := HE2.out.t
              have s0 := HE2.out.s0
              have s1 := HE2.out.s1
              gi_wp2
              refine wpIn_wide.2 ?_
              obtain ⟨w2, hw2⟩ : ∃ w2, wr.alloc (.cells #[.int .i64 3, .func (.func 79) #[] #[]] 95) = w2 := ⟨_, rfl⟩
              rw [hw2]
              have hb2 : Below wr.heap.size wr w2 := by rw [← hw2]; exact (Below.refl _ wr).alloc (Nat.le_refl _) _
              have e0 : w2.cell? ⟨wr.heap.size, 0, none⟩ = some (.int .i64 3) := by rw [← hw2]; simp
              have e1 : w2.cell? ⟨wr.heap.size, 1, none⟩ = some (.func (.func 79) #[] #[]) := by rw [← hw2]; simp
              have HE3 := Lib.hid (HE2.out.below hb2)
              have c3 := HE3.out.t
              have s3 := HE3.out.s0
              have s4 := HE3.out.s1
              clear c2 s0 s1 d0 d1 hw2
              have HB2 : Hid (Below wr.heap.size wr w2.drew) := hb2.drew
              have hz3 : wr.heap.size < w2.drew.heap.size := by show wr.heap.size < w2.heap.size; exact lt_of_cell e1
              have hBt2 : Bt < w2.drew.heap.size := by show Bt < w2.heap.size; exact lt_of_cell c3
              have hBs2 : Bs < w2.drew.heap.size := by show Bs < w2.heap.size; exact lt_of_cell s3
              obtain ⟨⟨sz, er⟩, hru⟩ : ∃ q, ruleI kwL sgL 4 r2.data.toList = q := ⟨_, rfl⟩
              have hq := decimal_any r2 kb sb w2.drew hr2m hr2z
              rw [show decimalI r2.data.toList = (sz, er) from hru] at hq
              have HQ := Lib.hid hq
              have HRU := Lib.hid hru
              clear hq hru
              go_region_held3 (fun w' => w'.cell? ⟨wr.heap.size, 1, none⟩ = some (.func (.func 79) #[] #[]) ∧ w'.cell? ⟨Bs, 0, none⟩ = some (.map (some kb)) ∧ w'.cell? ⟨Bs, 1, none⟩ = some (.map (some sb)) ∧ w'.cell? ⟨Bt, 0, none⟩ = some (.string s) ∧ Hid (Below wr.heap.size wr w')) (first | exact ⟨e1, s3, s4, c3, HB2⟩ | exact hS4)
                (first | (go_at_call 79; (with_reducible refine HQ.out.mono ?_); rintro e2 w4 ⟨rfl, hb4⟩; have hS4 := And.intro ((hb4.cell (p := ⟨wr.heap.size, 1, none⟩) hz3).trans e1) (And.intro ((hb4.cell (p := ⟨Bs, 0, none⟩) hBs2).trans s3) (And.intro ((hb4.cell (p := ⟨Bs, 1, none⟩) hBs2).trans s4) (And.intro ((hb4.cell (p := ⟨Bt, 0, none⟩) hBt2).trans c3) (Lib.hid (hb2.drew.trans (hb4.mono (Nat.le_of_lt hz3)))))))))
              have r0 : w4.cell? ⟨wr.heap.size, 0, none⟩ = some (.int .i64 3) := (hb4.cell (p := ⟨wr.heap.size, 0, none⟩) hz3).trans e0
              have HB4 := Lib.hid (hb2.drew.trans (hb4.mono (Nat.le_of_lt hz3)))
              have ct4 := hS4.2.2.2.1
              have hz4 : wr.heap.size < w4.heap.size := Nat.lt_of_lt_of_le hz3 hb4.size
              have HE5 := Lib.hid (HE2.out.below HB4.out)
              have HT5 := Lib.hid ((HB4.out.block _ hz2).trans HT2.out)
              have HJ5 := Lib.hid (AbidesFrom.below HJ.out HJ2.out HB4.out)
              clear e0 e1 c3 s3 s4 HB2 HE3 hz3 hBt2 hBs2 hb2 hb4 HQ hS4
              rename_i hHeld
              clear hHeld
              by_cases her : er = 0
              · have hszb := ruleI_bd kwL sgL 4 r2.data.toList (by rw [HRU.out]; exact her)
                rw [HRU.out] at hszb
                dsimp only at hszb
                rw [← Lib.size_eq] at hszb
                subst her
                by_cases hsz : 0 < sz
                · obtain ⟨m, rfl⟩ := Int.eq_ofNat_of_zero_le hszb.1
                  have hm0 : 0 < m := by omega
                  have hpm : p + m ≤ s.size := by have := HR2S.out; omega
                  obtain ⟨q, hq⟩ : ∃ q, p + m = q := ⟨_, rfl⟩
                  have hx : Hid (xs = pre ++ (⟨3, r2.data.toList.take m, (p : Int), (q : Int), 0⟩ : Span) :: spansT s (s.data.toList.drop q) q) := by
                    show _ = _
                    rw [HP.out, HS2.out, show firstRule kwL sgL r2.data.toList 7 0 = some (3, (m : Int), 0) from HF.out.symm.trans (fr_hit (by omega) HRU.out rfl hsz)]
                    simp only [ne_eq, not_true_eq_false, if_false, Int.toNat_natCast, HRD.out, List.drop_drop, hq, show (p : Int) + (m : Int) = (q : Int) by omega]
                  have hln : pre.length < xs.length := by rw [hx.out]; simp
                  have htx : s.extract p q = mk (r2.data.toList.take m) := by
                    rw [HRD.out, ← hq]; exact extract_mk s p m
                  have hpq : p < q := by omega
                  have hpq' : p ≤ q := by omega
                  have hqs : q ≤ s.size := by omega
                  have hwr : IntKind.i64.wrap ((p : Int) + (m : Int)) = (q : Int) := by rw [show (p : Int) + (m : Int) = (q : Int) by omega]; exact IntWalk.i64_in _ (by omega)
                  have k0 : ∀ o1, (w4.alloc o1).cell? ⟨wr.heap.size, 0, none⟩ = some (.int .i64 3) := fun o1 => (((Below.refl _ w4).alloc (Nat.le_refl _) o1).cell (p := ⟨wr.heap.size, 0, none⟩) hz4).trans r0
                  have k1 : ∀ o1, (w4.alloc o1).cell? ⟨Bt, 0, none⟩ = some (.string s) := fun o1 => (((Below.refl _ w4).alloc (Nat.le_refl _) o1).cell (p := ⟨Bt, 0, none⟩) (lt_of_cell ct4)).trans ct4
                  have HQM := Lib.hid hq
                  clear hq hpm
                  clear hszb hsz
                  gi_wp2
                  refine wpIn_wide.2 ?_
                  go_region
                  have hb5 : Below w4.heap.size w4 (w4.alloc (.cells #[.int .i64 3, .string (mk (List.take m r2.data.toList)), .int .i64 (p : Int), .int .i64 (q : Int)] 62)).drew := ((Below.refl _ w4).alloc (Nat.le_refl _) _).drew
                  have hh5 : (w4.alloc (.cells #[.int .i64 3, .string (mk (List.take m r2.data.toList)), .int .i64 (p : Int), .int .i64 (q : Int)] 62)).drew.heap[w4.heap.size]? = some (.cells #[.int .i64 3, .string (mk (List.take m r2.data.toList)), .int .i64 (p : Int), .int .i64 (q : Int)] 62 (0, 0)) := by
                    show (w4.heap.push _)[w4.heap.size]? = _
                    simp
                  obtain ⟨w5, hw5⟩ : ∃ w5, (w4.alloc (.cells #[.int .i64 3, .string (mk (List.take m r2.data.toList)), .int .i64 (p : Int), .int .i64 (q : Int)] 62)).drew = w5 := ⟨_, rfl⟩
                  rw [hw5] at hb5 hh5 ⊢
                  have v0 : w5.cell? ⟨w4.heap.size, 0, none⟩ = some (.int .i64 3) := by unfold World.cell?; rw [hh5]; rfl
                  have v1 : w5.cell? ⟨w4.heap.size, 1, none⟩ = some (.string (mk (List.take m r2.data.toList))) := by unfold World.cell?; rw [hh5]; rfl
                  have v2 : w5.cell? ⟨w4.heap.size, 2, none⟩ = some (.int .i64 (p : Int)) := by unfold World.cell?; rw [hh5]; rfl
                  have v3 : w5.cell? ⟨w4.heap.size, 3, none⟩ = some (.int .i64 (q : Int)) := by unfold World.cell?; rw [hh5]; rfl
                  have HH5 := Lib.hid hh5
                  have hz5 := hb5.size
                  clear hw5 hh5 k0 k1 hwr htx r0 ct4
                  obtain ⟨fn, tmps, assign, body, hy, hR⟩ := HY.out pre ⟨3, r2.data.toList.take m, (p : Int), (q : Int), 0⟩ w5 (AbidesFrom.below HJ.out HJ5.out hb5) hln
                  dsimp only [encS, spanV] at hy
                  gi_wp2
                  refine hR.mono ?_
                  rintro e2 W3 (⟨rfl, hJ3, hk3⟩ | ⟨rfl, hJx3⟩)
                  · have hh3 := hk3.cells _ _ _ _ HH5.out (fun h => by have := hFb _ h; omega) (by decide)
                    have v3' : W3.cell? ⟨w4.heap.size, 3, none⟩ = some (.int .i64 (q : Int)) := by unfold World.cell?; rw [hh3]; rfl
                    have HE6 := Lib.hid ((HE5.out.below hb5).kept hk3 h01 hkb hsb hBt hBs)
                    have HT6 := Lib.hid (hk3.cells _ _ _ _ ((hb5.block _ (by omega)).trans HT5.out) (fun h => by have := hFb _ h; omega) (by decide))
                    have hz6 := hk3.size
                    have HJ6 := Lib.hid hJ3
                    clear hh3 hk3 v0 v1 v2 v3 hy
                    gi_wp2
                    go_roundw
                    case rel => exact ⟨_, q, hqs, rfl, (show _ = _ by rw [List.append_assoc]; exact hx.out), HE6, HT6, HJ6, by omega⟩
                    case measure => simp [intOf]; have := HPP.out; omega
                  · gi_wp2
                    rw [noGoto_normal]
                    go_end0
                    exact ⟨⟨_, rfl⟩, .inr ⟨_, ⟨_, by rw [List.append_assoc]; exact hx.out.symm⟩, hJx3⟩⟩
                · have hs0 : sz ≤ 0 := by omega
                  gi_wp2
                  go_roundw
                  case rel => exact ⟨5, by omega, rfl, rfl, (fr_next (by omega) HRU.out rfl hsz).symm.trans HF.out, HE5, HT5, HJ5, by omega⟩
                  case measure => simp [intOf]
              · have hne : (er != 0) = true := by simpa using her
                have hx : Hid (xs = pre ++ [⟨0, [], (p : Int), 0, er⟩]) := by
                  show _ = _
                  rw [HP.out, HS2.out, show firstRule kwL sgL r2.data.toList 7 0 = some (0, 0, er) from HF.out.symm.trans (fr_err (by omega) HRU.out her)]
                  simp [her]
                have hln : pre.length < xs.length := by rw [hx.out]; simp
                obtain ⟨fn, tmps, assign, body, hy, hR⟩ := HY.out pre ⟨0, [], (p : Int), 0, er⟩ w4 HJ5.out hln
                dsimp only [encS, spanV] at hy
                gi_wp2
                refine hR.mono ?_
                rintro e2 W3 (⟨rfl, hJ3, _⟩ | ⟨rfl, hJx3⟩)
                · gi_wp2
                  rw [noGoto_normal]
                  go_end0
                  exact ⟨⟨_, rfl⟩, .inl ⟨_, hx.out.symm, hJ3⟩⟩
                · gi_wp2
                  rw [noGoto_normal]
                  go_end0
                  exact ⟨⟨_, rfl⟩, .inr ⟨_, ⟨[], by rw [List.append_nil]; exact hx.out.symm⟩, hJx3⟩⟩
            · have d0 : wr.cell? ⟨W.heap.size, 10, none⟩ = some (.int .i64 2) := ruleCell HT2.out 10
              have d1 : wr.cell? ⟨W.heap.size, 11, none⟩ = some (.func (.func 80) #[] #[]) := ruleCell HT2.out 11
              have c2 := HE2.out.t
              have s0 := HE2.out.s0
              have s1 := HE2.out.s1
              gi_wp2
              refine wpIn_wide.2 ?_
              obtain ⟨w2, hw2⟩ : ∃ w2, wr.alloc (.cells #[.int .i64 2, .func (.func 80) #[] #[]] 95) = w2 := ⟨_, rfl⟩
              rw [hw2]
              have hb2 : Below wr.heap.size wr w2 := by rw [← hw2]; exact (Below.refl _ wr).alloc (Nat.le_refl _) _
              have e0 : w2.cell? ⟨wr.heap.size, 0, none⟩ = some (.int .i64 2) := by rw [← hw2]; simp
              have e1 : w2.cell? ⟨wr.heap.size, 1, none⟩ = some (.func (.func 80) #[] #[]) := by rw [← hw2]; simp
              have HE3 := Lib.hid (HE2.out.below hb2)
              have c3 := HE3.out.t
              have s3 := HE3.out.s0
              have s4 := HE3.out.s1
              clear c2 s0 s1 d0 d1 hw2
              have HB2 : Hid (Below wr.heap.size wr w2.drew) := hb2.drew
              have hz3 : wr.heap.size < w2.drew.heap.size := by show wr.heap.size < w2.heap.size; exact lt_of_cell e1
              have hBt2 : Bt < w2.drew.heap.size := by show Bt < w2.heap.size; exact lt_of_cell c3
              have hBs2 : Bs < w2.drew.heap.size := by show Bs < w2.heap.size; exact lt_of_cell s3
              obtain ⟨⟨sz, er⟩, hru⟩ : ∃ q, ruleI kwL sgL 5 r2.data.toList = q := ⟨_, rfl⟩
              have hq := number_any r2 kb sb w2.drew hr2m hr2z
              rw [show numberI r2.data.toList = (sz, er) from hru] at hq
              have HQ := Lib.hid hq
              have HRU := Lib.hid hru
              clear hq hru
              go_region_held3 (fun w' => w'.cell? ⟨wr.heap.size, 1, none⟩ = some (.func (.func 80) #[] #[]) ∧ w'.cell? ⟨Bs, 0, none⟩ = some (.map (some kb)) ∧ w'.cell? ⟨Bs, 1, none⟩ = some (.map (some sb)) ∧ w'.cell? ⟨Bt, 0, none⟩ = some (.string s) ∧ Hid (Below wr.heap.size wr w')) (first | exact ⟨e1, s3, s4, c3, HB2⟩ | exact hS4)
                (first | (go_at_call 80; (with_reducible refine HQ.out.mono ?_); rintro e2 w4 ⟨rfl, hb4⟩; have hS4 := And.intro ((hb4.cell (p := ⟨wr.heap.size, 1, none⟩) hz3).trans e1) (And.intro ((hb4.cell (p := ⟨Bs, 0, none⟩) hBs2).trans s3) (And.intro ((hb4.cell (p := ⟨Bs, 1, none⟩) hBs2).trans s4) (And.intro ((hb4.cell (p := ⟨Bt, 0, none⟩) hBt2).trans c3) (Lib.hid (hb2.drew.trans (hb4.mono (Nat.le_of_lt hz3)))))))))
              have r0 : w4.cell? ⟨wr.heap.size, 0, none⟩ = some (.int .i64 2) := (hb4.cell (p := ⟨wr.heap.size, 0, none⟩) hz3).trans e0
              have HB4 := Lib.hid (hb2.drew.trans (hb4.mono (Nat.le_of_lt hz3)))
              have ct4 := hS4.2.2.2.1
              have hz4 : wr.heap.size < w4.heap.size := Nat.lt_of_lt_of_le hz3 hb4.size
              have HE5 := Lib.hid (HE2.out.below HB4.out)
              have HT5 := Lib.hid ((HB4.out.block _ hz2).trans HT2.out)
              have HJ5 := Lib.hid (AbidesFrom.below HJ.out HJ2.out HB4.out)
              clear e0 e1 c3 s3 s4 HB2 HE3 hz3 hBt2 hBs2 hb2 hb4 HQ hS4
              rename_i hHeld
              clear hHeld
              by_cases her : er = 0
              · have hszb := ruleI_bd kwL sgL 5 r2.data.toList (by rw [HRU.out]; exact her)
                rw [HRU.out] at hszb
                dsimp only at hszb
                rw [← Lib.size_eq] at hszb
                subst her
                by_cases hsz : 0 < sz
                · obtain ⟨m, rfl⟩ := Int.eq_ofNat_of_zero_le hszb.1
                  have hm0 : 0 < m := by omega
                  have hpm : p + m ≤ s.size := by have := HR2S.out; omega
                  obtain ⟨q, hq⟩ : ∃ q, p + m = q := ⟨_, rfl⟩
                  have hx : Hid (xs = pre ++ (⟨2, r2.data.toList.take m, (p : Int), (q : Int), 0⟩ : Span) :: spansT s (s.data.toList.drop q) q) := by
                    show _ = _
                    rw [HP.out, HS2.out, show firstRule kwL sgL r2.data.toList 7 0 = some (2, (m : Int), 0) from HF.out.symm.trans (fr_hit (by omega) HRU.out rfl hsz)]
                    simp only [ne_eq, not_true_eq_false, if_false, Int.toNat_natCast, HRD.out, List.drop_drop, hq, show (p : Int) + (m : Int) = (q : Int) by omega]
                  have hln : pre.length < xs.length := by rw [hx.out]; simp
                  have htx : s.extract p q = mk (r2.data.toList.take m) := by
                    rw [HRD.out, ← hq]; exact extract_mk s p m
                  have hpq : p < q := by omega
                  have hpq' : p ≤ q := by omega
                  have hqs : q ≤ s.size := by omega
                  have hwr : IntKind.i64.wrap ((p : Int) + (m : Int)) = (q : Int) := by rw [show (p : Int) + (m : Int) = (q : Int) by omega]; exact IntWalk.i64_in _ (by omega)
                  have k0 : ∀ o1, (w4.alloc o1).cell? ⟨wr.heap.size, 0, none⟩ = some (.int .i64 2) := fun o1 => (((Below.refl _ w4).alloc (Nat.le_refl _) o1).cell (p := ⟨wr.heap.size, 0, none⟩) hz4).trans r0
                  have k1 : ∀ o1, (w4.alloc o1).cell? ⟨Bt, 0, none⟩ = some (.string s) := fun o1 => (((Below.refl _ w4).alloc (Nat.le_refl _) o1).cell (p := ⟨Bt, 0, none⟩) (lt_of_cell ct4)).trans ct4
                  have HQM := Lib.hid hq
                  clear hq hpm
                  clear hszb hsz
                  gi_wp2
                  refine wpIn_wide.2 ?_
                  go_region
                  have hb5 : Below w4.heap.size w4 (w4.alloc (.cells #[.int .i64 2, .string (mk (List.take m r2.data.toList)), .int .i64 (p : Int), .int .i64 (q : Int)] 62)).drew := ((Below.refl _ w4).alloc (Nat.le_refl _) _).drew
                  have hh5 : (w4.alloc (.cells #[.int .i64 2, .string (mk (List.take m r2.data.toList)), .int .i64 (p : Int), .int .i64 (q : Int)] 62)).drew.heap[w4.heap.size]? = some (.cells #[.int .i64 2, .string (mk (List.take m r2.data.toList)), .int .i64 (p : Int), .int .i64 (q : Int)] 62 (0, 0)) := by
                    show (w4.heap.push _)[w4.heap.size]? = _
                    simp
                  obtain ⟨w5, hw5⟩ : ∃ w5, (w4.alloc (.cells #[.int .i64 2, .string (mk (List.take m r2.data.toList)), .int .i64 (p : Int), .int .i64 (q : Int)] 62)).drew = w5 := ⟨_, rfl⟩
                  rw [hw5] at hb5 hh5 ⊢
                  have v0 : w5.cell? ⟨w4.heap.size, 0, none⟩ = some (.int .i64 2) := by unfold World.cell?; rw [hh5]; rfl
                  have v1 : w5.cell? ⟨w4.heap.size, 1, none⟩ = some (.string (mk (List.take m r2.data.toList))) := by unfold World.cell?; rw [hh5]; rfl
                  have v2 : w5.cell? ⟨w4.heap.size, 2, none⟩ = some (.int .i64 (p : Int)) := by unfold World.cell?; rw [hh5]; rfl
                  have v3 : w5.cell? ⟨w4.heap.size, 3, none⟩ = some (.int .i64 (q : Int)) := by unfold World.cell?; rw [hh5]; rfl
                  have HH5 := Lib.hid hh5
                  have hz5 := hb5.size
                  clear hw5 hh5 k0 k1 hwr htx r0 ct4
                  obtain ⟨fn, tmps, assign, body, hy, hR⟩ := HY.out pre ⟨2, r2.data.toList.take m, (p : Int), (q : Int), 0⟩ w5 (AbidesFrom.below HJ.out HJ5.out hb5) hln
                  dsimp only [encS, spanV] at hy
                  gi_wp2
                  refine hR.mono ?_
                  rintro e2 W3 (⟨rfl, hJ3, hk3⟩ | ⟨rfl, hJx3⟩)
                  · have hh3 := hk3.cells _ _ _ _ HH5.out (fun h => by have := hFb _ h; omega) (by decide)
                    have v3' : W3.cell? ⟨w4.heap.size, 3, none⟩ = some (.int .i64 (q : Int)) := by unfold World.cell?; rw [hh3]; rfl
                    have HE6 := Lib.hid ((HE5.out.below hb5).kept hk3 h01 hkb hsb hBt hBs)
                    have HT6 := Lib.hid (hk3.cells _ _ _ _ ((hb5.block _ (by omega)).trans HT5.out) (fun h => by have := hFb _ h; omega) (by decide))
                    have hz6 := hk3.size
                    have HJ6 := Lib.hid hJ3
                    clear hh3 hk3 v0 v1 v2 v3 hy
                    gi_wp2
                    go_roundw
                    case rel => exact ⟨_, q, hqs, rfl, (show _ = _ by rw [List.append_assoc]; exact hx.out), HE6, HT6, HJ6, by omega⟩
                    case measure => simp [intOf]; have := HPP.out; omega
                  · gi_wp2
                    rw [noGoto_normal]
                    go_end0
                    exact ⟨⟨_, rfl⟩, .inr ⟨_, ⟨_, by rw [List.append_assoc]; exact hx.out.symm⟩, hJx3⟩⟩
                · have hs0 : sz ≤ 0 := by omega
                  gi_wp2
                  go_roundw
                  case rel => exact ⟨6, by omega, rfl, rfl, (fr_next (by omega) HRU.out rfl hsz).symm.trans HF.out, HE5, HT5, HJ5, by omega⟩
                  case measure => simp [intOf]
              · have hne : (er != 0) = true := by simpa using her
                have hx : Hid (xs = pre ++ [⟨0, [], (p : Int), 0, er⟩]) := by
                  show _ = _
                  rw [HP.out, HS2.out, show firstRule kwL sgL r2.data.toList 7 0 = some (0, 0, er) from HF.out.symm.trans (fr_err (by omega) HRU.out her)]
                  simp [her]
                have hln : pre.length < xs.length := by rw [hx.out]; simp
                obtain ⟨fn, tmps, assign, body, hy, hR⟩ := HY.out pre ⟨0, [], (p : Int), 0, er⟩ w4 HJ5.out hln
                dsimp only [encS, spanV] at hy
                gi_wp2
                refine hR.mono ?_
                rintro e2 W3 (⟨rfl, hJ3, _⟩ | ⟨rfl, hJx3⟩)
                · gi_wp2
                  rw [noGoto_normal]
                  go_end0
                  exact ⟨⟨_, rfl⟩, .inl ⟨_, hx.out.symm, hJ3⟩⟩
                · gi_wp2
                  rw [noGoto_normal]
                  go_end0
                  exact ⟨⟨_, rfl⟩, .inr ⟨_, ⟨[], by rw [List.append_nil]; exact hx.out.symm⟩, hJx3⟩⟩
            · have d0 : wr.cell? ⟨W.heap.size, 12, none⟩ = some (.int .i64 4) := ruleCell HT2.out 12
              have d1 : wr.cell? ⟨W.heap.size, 13, none⟩ = some (.func (.func 81) #[] #[]) := ruleCell HT2.out 13
              have c2 := HE2.out.t
              have s0 := HE2.out.s0
              have s1 := HE2.out.s1
              gi_wp2
              refine wpIn_wide.2 ?_
              obtain ⟨w2, hw2⟩ : ∃ w2, wr.alloc (.cells #[.int .i64 4, .func (.func 81) #[] #[]] 95) = w2 := ⟨_, rfl⟩
              rw [hw2]
              have hb2 : Below wr.heap.size wr w2 := by rw [← hw2]; exact (Below.refl _ wr).alloc (Nat.le_refl _) _
              have e0 : w2.cell? ⟨wr.heap.size, 0, none⟩ = some (.int .i64 4) := by rw [← hw2]; simp
              have e1 : w2.cell? ⟨wr.heap.size, 1, none⟩ = some (.func (.func 81) #[] #[]) := by rw [← hw2]; simp
              have HE3 := Lib.hid (HE2.out.below hb2)
              have c3 := HE3.out.t
              have s3 := HE3.out.s0
              have s4 := HE3.out.s1
              clear c2 s0 s1 d0 d1 hw2
              have HB2 : Hid (Below wr.heap.size wr w2.drew) := hb2.drew
              have hz3 : wr.heap.size < w2.drew.heap.size := by show wr.heap.size < w2.heap.size; exact lt_of_cell e1
              have hBt2 : Bt < w2.drew.heap.size := by show Bt < w2.heap.size; exact lt_of_cell c3
              have hBs2 : Bs < w2.drew.heap.size := by show Bs < w2.heap.size; exact lt_of_cell s3
              obtain ⟨⟨sz, er⟩, hru⟩ : ∃ q, ruleI kwL sgL 6 r2.data.toList = q := ⟨_, rfl⟩
              have hq := sign_any r2 kb sb sgL w2.drew hr2m (HE2.out.below hb2.drew).sg
              rw [show signI sgL r2.data.toList = (sz, er) from hru] at hq
              have HQ := Lib.hid hq
              have HRU := Lib.hid hru
              clear hq hru
              go_region_held3 (fun w' => w'.cell? ⟨wr.heap.size, 1, none⟩ = some (.func (.func 81) #[] #[]) ∧ w'.cell? ⟨Bs, 0, none⟩ = some (.map (some kb)) ∧ w'.cell? ⟨Bs, 1, none⟩ = some (.map (some sb)) ∧ w'.cell? ⟨Bt, 0, none⟩ = some (.string s) ∧ Hid (Below wr.heap.size wr w')) (first | exact ⟨e1, s3, s4, c3, HB2⟩ | exact hS4)
                (first | (go_at_call 81; (with_reducible refine HQ.out.mono ?_); rintro e2 w4 ⟨rfl, hb4⟩; have hS4 := And.intro ((hb4.cell (p := ⟨wr.heap.size, 1, none⟩) hz3).trans e1) (And.intro ((hb4.cell (p := ⟨Bs, 0, none⟩) hBs2).trans s3) (And.intro ((hb4.cell (p := ⟨Bs, 1, none⟩) hBs2).trans s4) (And.intro ((hb4.cell (p := ⟨Bt, 0, none⟩) hBt2).trans c3) (Lib.hid (hb2.drew.trans (hb4.mono (Nat.le_of_lt hz3)))))))))
              have r0 : w4.cell? ⟨wr.heap.size, 0, none⟩ = some (.int .i64 4) := (hb4.cell (p := ⟨wr.heap.size, 0, none⟩) hz3).trans e0
              have HB4 := Lib.hid (hb2.drew.trans (hb4.mono (Nat.le_of_lt hz3)))
              have ct4 := hS4.2.2.2.1
              have hz4 : wr.heap.size < w4.heap.size := Nat.lt_of_lt_of_le hz3 hb4.size
              have HE5 := Lib.hid (HE2.out.below HB4.out)
              have HT5 := Lib.hid ((HB4.out.block _ hz2).trans HT2.out)
              have HJ5 := Lib.hid (AbidesFrom.below HJ.out HJ2.out HB4.out)
              clear e0 e1 c3 s3 s4 HB2 HE3 hz3 hBt2 hBs2 hb2 hb4 HQ hS4
              rename_i hHeld
              clear hHeld
              by_cases her : er = 0
              · have hszb := ruleI_bd kwL sgL 6 r2.data.toList (by rw [HRU.out]; exact her)
                rw [HRU.out] at hszb
                dsimp only at hszb
                rw [← Lib.size_eq] at hszb
                subst her
                by_cases hsz : 0 < sz
                · obtain ⟨m, rfl⟩ := Int.eq_ofNat_of_zero_le hszb.1
                  have hm0 : 0 < m := by omega
                  have hpm : p + m ≤ s.size := by have := HR2S.out; omega
                  obtain ⟨q, hq⟩ : ∃ q, p + m = q := ⟨_, rfl⟩
                  have hx : Hid (xs = pre ++ (⟨4, r2.data.toList.take m, (p : Int), (q : Int), 0⟩ : Span) :: spansT s (s.data.toList.drop q) q) := by
                    show _ = _
                    rw [HP.out, HS2.out, show firstRule kwL sgL r2.data.toList 7 0 = some (4, (m : Int), 0) from HF.out.symm.trans (fr_hit (by omega) HRU.out rfl hsz)]
                    simp only [ne_eq, not_true_eq_false, if_false, Int.toNat_natCast, HRD.out, List.drop_drop, hq, show (p : Int) + (m : Int) = (q : Int) by omega]
                  have hln : pre.length < xs.length := by rw [hx.out]; simp
                  have htx : s.extract p q = mk (r2.data.toList.take m) := by
                    rw [HRD.out, ← hq]; exact extract_mk s p m
                  have hpq : p < q := by omega
                  have hpq' : p ≤ q := by omega
                  have hqs : q ≤ s.size := by omega
                  have hwr : IntKind.i64.wrap ((p : Int) + (m : Int)) = (q : Int) := by rw [show (p : Int) + (m : Int) = (q : Int) by omega]; exact IntWalk.i64_in _ (by omega)
                  have k0 : ∀ o1, (w4.alloc o1).cell? ⟨wr.heap.size, 0, none⟩ = some (.int .i64 4) := fun o1 => (((Below.refl _ w4).alloc (Nat.le_refl _) o1).cell (p := ⟨wr.heap.size, 0, none⟩) hz4).trans r0
                  have k1 : ∀ o1, (w4.alloc o1).cell? ⟨Bt, 0, none⟩ = some (.string s) := fun o1 => (((Below.refl _ w4).alloc (Nat.le_refl _) o1).cell (p := ⟨Bt, 0, none⟩) (lt_of_cell ct4)).trans ct4
                  have HQM := Lib.hid hq
                  clear hq hpm
                  clear hszb hsz
                  gi_wp2
                  refine wpIn_wide.2 ?_
                  go_region
                  have hb5 : Below w4.heap.size w4 (w4.alloc (.cells #[.int .i64 4, .string (mk (List.take m r2.data.toList)), .int .i64 (p : Int), .int .i64 (q : Int)] 62)).drew := ((Below.refl _ w4).alloc (Nat.le_refl _) _).drew
                  have hh5 : (w4.alloc (.cells #[.int .i64 4, .string (mk (List.take m r2.data.toList)), .int .i64 (p : Int), .int .i64 (q : Int)] 62)).drew.heap[w4.heap.size]? = some (.cells #[.int .i64 4, .string (mk (List.take m r2.data.toList)), .int .i64 (p : Int), .int .i64 (q : Int)] 62 (0, 0)) := by
                    show (w4.heap.push _)[w4.heap.size]? = _
                    simp
                  obtain ⟨w5, hw5⟩ : ∃ w5, (w4.alloc (.cells #[.int .i64 4, .string (mk (List.take m r2.data.toList)), .int .i64 (p : Int), .int .i64 (q : Int)] 62)).drew = w5 := ⟨_, rfl⟩
                  rw [hw5] at hb5 hh5 ⊢
                  have v0 : w5.cell? ⟨w4.heap.size, 0, none⟩ = some (.int .i64 4) := by unfold World.cell?; rw [hh5]; rfl
                  have v1 : w5.cell? ⟨w4.heap.size, 1, none⟩ = some (.string (mk (List.take m r2.data.toList))) := by unfold World.cell?; rw [hh5]; rfl
                  have v2 : w5.cell? ⟨w4.heap.size, 2, none⟩ = some (.int .i64 (p : Int)) := by unfold World.cell?; rw [hh5]; rfl
                  have v3 : w5.cell? ⟨w4.heap.size, 3, none⟩ = some (.int .i64 (q : Int)) := by unfold World.cell?; rw [hh5]; rfl
                  have HH5 := Lib.hid hh5
                  have hz5 := hb5.size
                  clear hw5 hh5 k0 k1 hwr htx r0 ct4
                  obtain ⟨fn, tmps, assign, body, hy, hR⟩ := HY.out pre ⟨4, r2.data.toList.take m, (p : Int), (q : Int), 0⟩ w5 (AbidesFrom.below HJ.out HJ5.out hb5) hln
                  dsimp only [encS, spanV] at hy
                  gi_wp2
                  refine hR.mono ?_
                  rintro e2 W3 (⟨rfl, hJ3, hk3⟩ | ⟨rfl, hJx3⟩)
                  · have hh3 := hk3.cells _ _ _ _ HH5.out (fun h => by have := hFb _ h; omega) (by decide)
                    have v3' : W3.cell? ⟨w4.heap.size, 3, none⟩ = some (.int .i64 (q : Int)) := by unfold World.cell?; rw [hh3]; rfl
                    have HE6 := Lib.hid ((HE5.out.below hb5).kept hk3 h01 hkb hsb hBt hBs)
                    have HT6 := Lib.hid (hk3.cells _ _ _ _ ((hb5.block _ (by omega)).trans HT5.out) (fun h => by have := hFb _ h; omega) (by decide))
                    have hz6 := hk3.size
                    have HJ6 := Lib.hid hJ3
                    clear hh3 hk3 v0 v1 v2 v3 hy
                    gi_wp2
                    go_roundw
                    case rel => exact ⟨_, q, hqs, rfl, (show _ = _ by rw [List.append_assoc]; exact hx.out), HE6, HT6, HJ6, by omega⟩
                    case measure => simp [intOf]; have := HPP.out; omega
                  · gi_wp2
                    rw [noGoto_normal]
                    go_end0
                    exact ⟨⟨_, rfl⟩, .inr ⟨_, ⟨_, by rw [List.append_assoc]; exact hx.out.symm⟩, hJx3⟩⟩
                · have hs0 : sz ≤ 0 := by omega
                  gi_wp2
                  go_roundw
                  case rel => exact ⟨7, by omega, rfl, rfl, (fr_next (by omega) HRU.out rfl hsz).symm.trans HF.out, HE5, HT5, HJ5, by omega⟩
                  case measure => simp [intOf]
              · have hne : (er != 0) = true := by simpa using her
                have hx : Hid (xs = pre ++ [⟨0, [], (p : Int), 0, er⟩]) := by
                  show _ = _
                  rw [HP.out, HS2.out, show firstRule kwL sgL r2.data.toList 7 0 = some (0, 0, er) from HF.out.symm.trans (fr_err (by omega) HRU.out her)]
                  simp [her]
                have hln : pre.length < xs.length := by rw [hx.out]; simp
                obtain ⟨fn, tmps, assign, body, hy, hR⟩ := HY.out pre ⟨0, [], (p : Int), 0, er⟩ w4 HJ5.out hln
                dsimp only [encS, spanV] at hy
                gi_wp2
                refine hR.mono ?_
                rintro e2 W3 (⟨rfl, hJ3, _⟩ | ⟨rfl, hJx3⟩)
                · gi_wp2
                  rw [noGoto_normal]
                  go_end0
                  exact ⟨⟨_, rfl⟩, .inl ⟨_, hx.out.symm, hJ3⟩⟩
                · gi_wp2
                  rw [noGoto_normal]
                  go_end0
                  exact ⟨⟨_, rfl⟩, .inr ⟨_, ⟨[], by rw [List.append_nil]; exact hx.out.symm⟩, hJx3⟩⟩
    · have hne : (e != 0) = true := by simpa using he
      have hx : Hid (xs = pre ++ [⟨0, [], (k : Int) + g, 0, e⟩]) := by
        show _ = _
        rw [HP.out, ← HRL.out, HST.out, if_pos he]
      have hln : pre.length < xs.length := by rw [hx.out]; simp
      gi_wp2_with (refine ⟨trivial, ?_⟩; gi_at_call 57; refine (callsIn_wide.2 HG.out).mono ?_; rintro e1 w1 ⟨rfl, hb1⟩; obtain ⟨fn, tmps, assign, body, hy, hR⟩ := HY.out pre ⟨0, [], (k : Int) + g, 0, e⟩ w1 (AbidesFrom.below HJ.out HJr.out hb1) hln; dsimp only [encS, spanV] at hy)
      refine hR.mono ?_
      rintro e2 W3 (⟨rfl, hJ3, _⟩ | ⟨rfl, hJx3⟩)
      · gi_wp2
        rw [Exit.noGoto_ret]
        refine bodyPost_ret (results_none rfl _ _ _) rfl ?_
        exact ⟨⟨_, rfl⟩, .inl ⟨_, hx.out.symm, hJ3⟩⟩
      · gi_wp2
        rw [Exit.noGoto_ret]
        refine bodyPost_ret (results_none rfl _ _ _) rfl ?_
        exact ⟨⟨_, rfl⟩, .inr ⟨_, ⟨[], by rw [List.append_nil]; exact hx.out.symm⟩, hJx3⟩⟩

theorem spans1 : Spans1 := fun n hn l s Bt Bs kb sb n₁ n₀ Fb J Jx W hs hE h01 hkb hsb hBt hBs hFb h1W hJ hY h0 => spans1_in n hn l s Bt Bs kb sb n₁ n₀ Fb J Jx W hs hE h01 hkb hsb hBt hBs hFb h1W hJ hY h0
end Go.Proofs.Ytfilmombflohpaa
