/- The reference: ReadReal, WriteReal. -/
import Derived.Test.YtojgafkkgacpkaaGreatDoorQA
set_option linter.unusedSimpArgs false
set_option linter.unusedVariables false
namespace Go.Proofs.YtojgafkkgacpkaaGreatDoor
open Go.RowKit
set_option maxRecDepth 100000

theorem loadFr {w : World} {B : Nat} {s t : Bool} {x y : Value} (hB : BlockIs w B 107 (frA s x t y)) : (loadVar 107 ⟨B, 0, none⟩).run Tryz.prog w = .ok (.agg (frA s x t y)) w :=
  run_loadVar_row w B 107 107 (frA s x t y) (0, 0) _ hB Tryz.underlying107 rfl (infoFr s x t y)
theorem retFFV {fn : Func} {p q r : Tmp} (h : fn.results = #[.cell p 107, .cell q 107, .tmp r]) (tmps : Array Value) (w : World) (B C : Nat) (hp : tmps.getD p undef = .pointer (some ⟨B, 0, none⟩)) (hq : tmps.getD q undef = .pointer (some ⟨C, 0, none⟩)) {v : Value} (hr : tmps.getD r undef = v) {s t s' t' : Bool} {x y x' y' : Value} (hB : BlockIs w B 107 (frA s x t y)) (hC : BlockIs w C 107 (frA s' x' t' y')) :
    (results fn tmps).run Tryz.prog w = .ok (.tuple #[.agg (frA s x t y), .agg (frA s' x' t' y'), v]) w := by
  have hp' : tmps[p]?.getD undef = .pointer (some ⟨B, 0, none⟩) := by simpa using hp
  have hq' : tmps[q]?.getD undef = .pointer (some ⟨C, 0, none⟩) := by simpa using hq
  have hr' : tmps[r]?.getD undef = v := by simpa using hr
  simp [results, h, hp', hq', hr', asAddr, loadFr hB, loadFr hC]

set_option maxHeartbeats 2000000 in
theorem rReadReal_nums (s : Bool) (a b : Nat) (ha : Num s a) (hb : Num false b) (w : World) :
    Calls Tryz.prog 112 #[.string (bs (ratio s a false b))] w fun e w' => ∃ v', e = .returned v' ∧ FrR w s a false b v' w' := by
  have hla := num_len ha
  have hlb := num_len hb
  have HS := Lib.hid (fun W => rsplit_app (numeral s a) (numeral false b) (numeral_no_slash s a) (numeral_no_slash false b) (by rw [List.length_append, List.length_cons]; omega) W)
  have HRA := Lib.hid (fun W => rRead_num s a ha.sign (num_dig ha) W)
  have HRB := Lib.hid (fun W => rRead_num false b hb.sign (num_dig hb) W)
  obtain ⟨u, hu⟩ : ∃ u, bs (ratio s a false b) = u := ⟨_, rfl⟩
  obtain ⟨x, hx⟩ : ∃ u, bs (numeral s a) = u := ⟨_, rfl⟩
  obtain ⟨y, hy⟩ : ∃ u, bs (numeral false b) = u := ⟨_, rfl⟩
  rw [show bs (numeral s a ++ 47 :: numeral false b) = u from hu, hx, hy] at HS
  rw [hx] at HRA
  rw [hy] at HRB
  rw [hu]
  obtain ⟨B, hB⟩ : ∃ B, w.heap.size = B := ⟨_, rfl⟩
  obtain ⟨W, hW⟩ : ∃ W, w.alloc (.cells #[.bool false, .slice none 0 0, .bool false, .slice none 0 0] 107) = W := ⟨_, rfl⟩
  have HH := Lib.hid (show BlockIs W B 107 #[.bool false, .slice none 0 0, .bool false, .slice none 0 0] ∧ Below B w W by
    rw [← hW, ← hB]
    exact ⟨BlockIs.new _ _ _, (Below.refl _ _).alloc (Nat.le_refl _) _⟩)
  clear hu hx hy hla hlb ha hb
  go_enter Tryz.func112, Tryz.ntmps112
  go_wp2_with (first | (go_at_call 106; refine (HS.out _).mono ?_; rintro e w1 ⟨rfl, hb1⟩; have HB1 := Lib.hid (show BlockIs w1 B 107 #[.bool false, .slice none 0 0, .bool false, .slice none 0 0] ∧ Below B w w1 from ⟨HH.out.1.below hb1 HH.out.1.lt, HH.out.2.trans (hb1.mono (by have := HH.out.1.lt; omega))⟩); clear hb1) | (go_at_call 73; (with_reducible refine (HRA.out _).mono ?_); rintro e w4 ⟨v4, rfl, p4, k4, rfl, hm4, hb4⟩; have HM4 := Lib.hid hm4; have HB4 := Lib.hid (show BlockIs w4 B 107 #[.bool false, .slice none 0 0, .bool false, .slice none 0 0] ∧ Below B w w4 from ⟨HB1.out.1.below hb4 HB1.out.1.lt, HB1.out.2.trans (hb4.mono (by have := HB1.out.1.lt; omega))⟩); clear hm4 hb4) | (go_at_call 73; (with_reducible refine (HRB.out _).mono ?_); rintro e w5 ⟨v5, rfl, p5, k5, rfl, hm5, hb5⟩; have HM5 := Lib.hid hm5; have HM45 := Lib.hid (HM4.out.below hb5); have HB5 := Lib.hid (show BlockIs w5 B 107 #[.bool false, .slice none 0 0, .bool false, .slice none 0 0] ∧ Below B w w5 from ⟨HB4.out.1.below hb5 HB4.out.1.lt, HB4.out.2.trans (hb5.mono (by have := HB4.out.1.lt; omega))⟩); clear hm5 hb5; have f0 := HB5.out.1.at 0; have f1 := HB5.out.1.at 1; have f2 := HB5.out.1.at 2; have f3 := HB5.out.1.at 3; have e0 := HB5.out.1.thawed 0; have e1 := HB5.out.1.thawed 1; have e2 := HB5.out.1.thawed 2; have e3 := HB5.out.1.thawed 3))
  exact bodyPost_ret (retFr rfl _ _ B rfl HB5.out.1.four) rfl ⟨_, rfl, _, _, _, _, rfl, HM45.out.four HB5.out.1, HM5.out.four HB5.out.1, (by rw [hB]; exact below_four HB5.out.2 (by omega))⟩

set_option maxHeartbeats 2000000 in
theorem rWriteReal_any (r : Bool) (p q : Nat) (vp vq : Value) (w : World) (hp : Mag w vp p) (hq : Mag w vq q) (lp : ql p < 20000) (lq : ql q < 20000) (hs : r = true → p ≠ 0) (res : ByteArray) (er : Int) (h : finR r p q = (res, er)) :
    Calls Tryz.prog 96 #[.agg (frA r vp false vq)] w fun e w' => e = .returned (.tuple #[.string res, .int .i64 er]) ∧ Below w.heap.size w w' := by
  obtain ⟨p1, c1, rfl⟩ := hp.len
  obtain ⟨q1, d1, rfl⟩ := hq.len
  obtain ⟨B, hB⟩ : ∃ B, w.heap.size = B := ⟨_, rfl⟩
  obtain ⟨W, hW⟩ : ∃ W, w.alloc (.cells #[.bool r, .slice p1 (ql p) c1, .bool false, .slice q1 (ql q) d1] 107) = W := ⟨_, rfl⟩
  have HH := Lib.hid (show BlockIs W B 107 #[.bool r, .slice p1 (ql p) c1, .bool false, .slice q1 (ql q) d1] ∧ Mag W (.slice p1 (ql p) c1) p ∧ Mag W (.slice q1 (ql q) d1) q ∧ Below B w W by
    have hb : Below w.heap.size w W := by rw [← hW]; exact (Below.refl _ _).alloc (Nat.le_refl _) _
    refine ⟨?_, hp.below hb, hq.below hb, by rw [← hB]; exact hb⟩
    rw [← hW, ← hB]
    exact BlockIs.new _ _ _)
  have c0 := HH.out.1.at 0
  have c2 := HH.out.1.at 1
  have c3 := HH.out.1.at 2
  have c4 := HH.out.1.at 3
  have HX1 : resP r p = if 120 < Lib.nDigits p then (⟨#[]⟩, 4) else (bs (numeral r p), 0) := rfl
  have HX2 : resP false q = if 120 < Lib.nDigits q then (⟨#[]⟩, 4) else (bs (numeral false q), 0) := rfl
  unfold finR at h
  obtain ⟨y1, hy1⟩ : ∃ y, bs (numeral r p) = y := ⟨_, rfl⟩
  obtain ⟨y2, hy2⟩ : ∃ y, bs (numeral false q) = y := ⟨_, rfl⟩
  have hcat := ratio_append r p false q
  have hz1 : y1.size < 1000000000 := by rw [← hy1]; exact numeral_size lp
  have hz2 : y2.size < 1000000000 := by rw [← hy2]; exact numeral_size lq
  rw [hy1, hy2] at hcat
  rw [hy1] at HX1
  rw [hy2] at HX2
  obtain ⟨y3, hy3⟩ : ∃ y, bs (ratio r p false q) = y := ⟨_, rfl⟩
  rw [hy3] at hcat h
  by_cases h1 : 120 < Lib.nDigits p
  · rw [if_pos (Or.inl h1), Prod.mk.injEq] at h
    rw [if_pos h1] at HX1
    obtain ⟨x2, e2, hx2⟩ : ∃ x e, resP false q = (x, e) := ⟨_, _, rfl⟩
    have HR1 := Lib.hid (fun W (hm : Mag W (.slice p1 (ql p) c1) p) => rResult_any r p _ W hm lp hs _ _ HX1)
    have HR2 := Lib.hid (fun W (hm : Mag W (.slice q1 (ql q) d1) q) => rResult_any false q _ W hm lq (by simp) _ _ hx2)
    have HF := Lib.hid (fun W => rFirst_two 4 e2 4 (by simp) W)
    obtain ⟨rfl, rfl⟩ := h
    clear HX1 HX2 hx2 h1 hcat hy1 hy2 hy3 hp hq lp lq hs
    go_enter Tryz.func96, Tryz.ntmps96
    go_wp2_with (first | (go_at_call 77; (with_reducible refine (HR1.out _ HH.out.2.1).mono ?_); rintro e w1 ⟨rfl, hb1⟩; have HH1 := Lib.hid (show BlockIs w1 B 107 #[.bool r, .slice p1 (ql p) c1, .bool false, .slice q1 (ql q) d1] ∧ Mag w1 (.slice q1 (ql q) d1) q ∧ Below B w w1 from ⟨HH.out.1.below hb1 HH.out.1.lt, HH.out.2.2.1.below hb1, HH.out.2.2.2.trans (hb1.mono (by have := HH.out.1.lt; omega))⟩); clear hb1 c0 c2 c3 c4; have c0 := HH1.out.1.at 0; have c2 := HH1.out.1.at 1; have c3 := HH1.out.1.at 2; have c4 := HH1.out.1.at 3) | (go_at_call 77; (with_reducible refine (HR2.out _ HH1.out.2.1).mono ?_); rintro e w2 ⟨rfl, hb2⟩; have HH2 := Lib.hid (HH1.out.2.2.trans (hb2.mono (by have := HH1.out.1.lt; omega))); clear hb2) | (go_at_call 81; refine (HF.out _).mono ?_; rintro e w3 ⟨rfl, rfl⟩))
    go_ret2
    exact ⟨rfl, (by rw [hB]; exact HH2.out.alloc (by have := HH2.out.size; omega) _)⟩
  · rw [if_neg h1] at HX1
    have HR1 := Lib.hid (fun W (hm : Mag W (.slice p1 (ql p) c1) p) => rResult_any r p _ W hm lp hs _ _ HX1)
    by_cases h2 : 120 < Lib.nDigits q
    · rw [if_pos (Or.inr h2), Prod.mk.injEq] at h
      rw [if_pos h2] at HX2
      have HR2 := Lib.hid (fun W (hm : Mag W (.slice q1 (ql q) d1) q) => rResult_any false q _ W hm lq (by simp) _ _ HX2)
      have HF := Lib.hid (fun W => rFirst_two 0 4 4 (by simp) W)
      obtain ⟨rfl, rfl⟩ := h
      clear HX1 HX2 h1 h2 hcat hy1 hy2 hy3 hp hq lp lq hs
      go_enter Tryz.func96, Tryz.ntmps96
      go_wp2_with (first | (go_at_call 77; (with_reducible refine (HR1.out _ HH.out.2.1).mono ?_); rintro e w1 ⟨rfl, hb1⟩; have HH1 := Lib.hid (show BlockIs w1 B 107 #[.bool r, .slice p1 (ql p) c1, .bool false, .slice q1 (ql q) d1] ∧ Mag w1 (.slice q1 (ql q) d1) q ∧ Below B w w1 from ⟨HH.out.1.below hb1 HH.out.1.lt, HH.out.2.2.1.below hb1, HH.out.2.2.2.trans (hb1.mono (by have := HH.out.1.lt; omega))⟩); clear hb1 c0 c2 c3 c4; have c0 := HH1.out.1.at 0; have c2 := HH1.out.1.at 1; have c3 := HH1.out.1.at 2; have c4 := HH1.out.1.at 3) | (go_at_call 77; (with_reducible refine (HR2.out _ HH1.out.2.1).mono ?_); rintro e w2 ⟨rfl, hb2⟩; have HH2 := Lib.hid (HH1.out.2.2.trans (hb2.mono (by have := HH1.out.1.lt; omega))); clear hb2) | (go_at_call 81; refine (HF.out _).mono ?_; rintro e w3 ⟨rfl, rfl⟩))
      go_ret2
      exact ⟨rfl, (by rw [hB]; exact HH2.out.alloc (by have := HH2.out.size; omega) _)⟩
    · rw [if_neg (by rintro (h | h) <;> contradiction), Prod.mk.injEq] at h
      rw [if_neg h2] at HX2
      have HR2 := Lib.hid (fun W (hm : Mag W (.slice q1 (ql q) d1) q) => rResult_any false q _ W hm lq (by simp) _ _ HX2)
      have HF := Lib.hid (fun W => rFirst_two 0 0 0 (by simp) W)
      obtain ⟨rfl, rfl⟩ := h
      have HC := Lib.hid hcat
      clear HX1 HX2 h1 h2 hcat hy1 hy2 hy3 hp hq lp lq hs
      go_enter Tryz.func96, Tryz.ntmps96
      go_wp2_with (first | (go_at_call 77; (with_reducible refine (HR1.out _ HH.out.2.1).mono ?_); rintro e w1 ⟨rfl, hb1⟩; have HH1 := Lib.hid (show BlockIs w1 B 107 #[.bool r, .slice p1 (ql p) c1, .bool false, .slice q1 (ql q) d1] ∧ Mag w1 (.slice q1 (ql q) d1) q ∧ Below B w w1 from ⟨HH.out.1.below hb1 HH.out.1.lt, HH.out.2.2.1.below hb1, HH.out.2.2.2.trans (hb1.mono (by have := HH.out.1.lt; omega))⟩); clear hb1 c0 c2 c3 c4; have c0 := HH1.out.1.at 0; have c2 := HH1.out.1.at 1; have c3 := HH1.out.1.at 2; have c4 := HH1.out.1.at 3) | (go_at_call 77; (with_reducible refine (HR2.out _ HH1.out.2.1).mono ?_); rintro e w2 ⟨rfl, hb2⟩; have HH2 := Lib.hid (HH1.out.2.2.trans (hb2.mono (by have := HH1.out.1.lt; omega))); clear hb2) | (go_at_call 81; refine (HF.out _).mono ?_; rintro e w3 ⟨rfl, rfl⟩))
      go_ret2
      exact ⟨by rw [← HC.out]; rfl, (by rw [hB]; exact HH2.out.alloc (by have := HH2.out.size; omega) _)⟩
end Go.Proofs.YtojgafkkgacpkaaGreatDoor

namespace Go.Proofs.YtojgafkkgacpkaaGreatDoor
open Go.RowKit
set_option maxRecDepth 100000

/-- A check's contract. -/
abbrev CheckIs (f : Nat) (u : ByteArray) (r : Int) : Prop := ∀ W : World, Calls Tryz.prog f #[.string u] W fun e w' => e = .returned (.int .i64 r) ∧ Below W.heap.size W w'
abbrev ReadIs (u : ByteArray) (s : Bool) (a b : Nat) : Prop := ∀ W : World, Calls Tryz.prog 112 #[.string u] W fun e w' => ∃ v', e = .returned v' ∧ FrR W s a false b v' w'
/-- What `two` leaves. -/
def TwoR (w : World) (s : Bool) (a b : Nat) (t : Bool) (c d : Nat) (v : Value) (w' : World) : Prop := ∃ p1 c1 q1 d1 p2 c2 q2 d2, v = .tuple #[.agg (frA s (.slice p1 (ql a) c1) false (.slice q1 (ql b) d1)), .agg (frA t (.slice p2 (ql c) c2) false (.slice q2 (ql d) d2)), .int .i64 0] ∧ Mag w' (.slice p1 (ql a) c1) a ∧ Mag w' (.slice q1 (ql b) d1) b ∧ Mag w' (.slice p2 (ql c) c2) c ∧ Mag w' (.slice q2 (ql d) d2) d ∧ Below w.heap.size w w'
theorem BlockIs.elseFour {w : World} {B C : Nat} {t : TypeId} {cs : Array Value} {x y z u : Value} (h : BlockIs w B t cs) (hn : B ≠ C) : BlockIs (put4 w C x y z u) B t cs :=
  (((h.other _ _ (by simpa using hn)).other _ _ (by simpa using hn)).other _ _ (by simpa using hn)).other _ _ (by simpa using hn)

set_option maxHeartbeats 2000000 in
theorem rTwo_err (u v : ByteArray) (ra rb r : Int) (hA : CheckIs 46 u ra) (hB' : CheckIs 46 v rb) (hr : (if ra = 0 then rb else ra) = r) (h0 : r ≠ 0) (w : World) :
    Calls Tryz.prog 95 #[.string u, .string v] w fun e w' => e = .returned (.tuple #[.agg (frA false (.slice none 0 0) false (.slice none 0 0)), .agg (frA false (.slice none 0 0) false (.slice none 0 0)), .int .i64 r]) ∧ Below w.heap.size w w' := by
  obtain ⟨B, hB⟩ : ∃ B, w.heap.size = B := ⟨_, rfl⟩
  obtain ⟨W, hW⟩ : ∃ W, (w.alloc (.cells #[.bool false, .slice none 0 0, .bool false, .slice none 0 0] 107)).alloc (.cells #[.bool false, .slice none 0 0, .bool false, .slice none 0 0] 107) = W := ⟨_, rfl⟩
  have HS := Lib.hid (Fq.start hB hW)
  have HA := Lib.hid hA
  have HB := Lib.hid hB'
  have HF := Lib.hid (fun W => rFirst_two ra rb r hr W)
  have hr0 : (r != 0) = true := by simpa using h0
  clear hA hB' hr h0
  go_enter Tryz.func95, Tryz.ntmps95
  go_wp2_with (first | (go_at_call 46; (with_reducible refine (HA.out _).mono ?_); rintro e w1 ⟨rfl, hb1⟩; have HB1 := Lib.hid (HS.out.below hb1); clear hb1) | (go_at_call 46; (with_reducible refine (HB.out _).mono ?_); rintro e w2 ⟨rfl, hb2⟩; have HB2 := Lib.hid (HB1.out.below hb2); clear hb2; obtain ⟨w3, hw3⟩ : ∃ w3, w2.alloc (.cells #[.int .i64 ra, .int .i64 rb] 3) = w3 := ⟨_, rfl⟩; have HB3 := Lib.hid (HB2.out.below (w' := w3) (by rw [← hw3]; exact (Below.refl _ _).alloc (Nat.le_refl _) _)); have HF2 := Lib.hid (HF.out w2); rw [hw3] at HF2; have f0 := HB3.out.b0.at 0; have f1 := HB3.out.b0.at 1; have f2 := HB3.out.b0.at 2; have f3 := HB3.out.b0.at 3; have f4 := HB3.out.b1.at 0; have f5 := HB3.out.b1.at 1; have f6 := HB3.out.b1.at 2; have f7 := HB3.out.b1.at 3; have f8 := HB3.out.b0.thawed 0; have f9 := HB3.out.b0.thawed 1; have f10 := HB3.out.b0.thawed 2; have f11 := HB3.out.b0.thawed 3; have f12 := HB3.out.b1.thawed 0; have f13 := HB3.out.b1.thawed 1; have f14 := HB3.out.b1.thawed 2; have f15 := HB3.out.b1.thawed 3) | (go_at_call 81; refine HF2.out.mono ?_; rintro e w4 ⟨rfl, hw4⟩; rw [← hw4]; clear hw4 w4))
  exact bodyPost_ret (retFFV rfl _ _ B (B + 1) rfl rfl rfl ((HB3.out.b0.four).elseFour (by omega)) (HB3.out.b1.elseFour (by omega)).four) rfl ⟨rfl, (by rw [hB]; exact below_four (below_four HB3.out.bl (by omega)) (by omega))⟩

set_option maxHeartbeats 2000000 in
theorem rTwo_ok (u v : ByteArray) (s t : Bool) (a b c d : Nat) (hA : CheckIs 46 u 0) (hB' : CheckIs 46 v 0) (hRA : ReadIs u s a b) (hRB : ReadIs v t c d) (w : World) :
    Calls Tryz.prog 95 #[.string u, .string v] w fun e w' => ∃ v', e = .returned v' ∧ TwoR w s a b t c d v' w' := by
  obtain ⟨B, hB⟩ : ∃ B, w.heap.size = B := ⟨_, rfl⟩
  obtain ⟨W, hW⟩ : ∃ W, (w.alloc (.cells #[.bool false, .slice none 0 0, .bool false, .slice none 0 0] 107)).alloc (.cells #[.bool false, .slice none 0 0, .bool false, .slice none 0 0] 107) = W := ⟨_, rfl⟩
  have HS := Lib.hid (Fq.start hB hW)
  have HA := Lib.hid hA
  have HB := Lib.hid hB'
  have HF := Lib.hid (fun W => rFirst_two 0 0 0 rfl W)
  have HRA := Lib.hid hRA
  have HRB := Lib.hid hRB
  clear hA hB' hRA hRB
  go_enter Tryz.func95, Tryz.ntmps95
  go_wp2_with (first | (go_at_call 46; (with_reducible refine (HA.out _).mono ?_); rintro e w1 ⟨rfl, hb1⟩; have HB1 := Lib.hid (HS.out.below hb1); clear hb1) | (go_at_call 46; (with_reducible refine (HB.out _).mono ?_); rintro e w2 ⟨rfl, hb2⟩; have HB2 := Lib.hid (HB1.out.below hb2); clear hb2; obtain ⟨w3, hw3⟩ : ∃ w3, w2.alloc (.cells #[.int .i64 0, .int .i64 0] 3) = w3 := ⟨_, rfl⟩; have HB3 := Lib.hid (HB2.out.below (w' := w3) (by rw [← hw3]; exact (Below.refl _ _).alloc (Nat.le_refl _) _)); have HF2 := Lib.hid (HF.out w2); rw [hw3] at HF2) | (go_at_call 81; refine HF2.out.mono ?_; rintro e w4 ⟨rfl, hw4⟩; rw [← hw4]; clear hw4 w4) | (go_at_call 112; (with_reducible refine (HRA.out _).mono ?_); rintro e w5 ⟨v5, rfl, p1, c1, q1, d1, rfl, hm5, hn5, hb5⟩; have HB5 := Lib.hid (HB3.out.below hb5); have HM5 := Lib.hid (And.intro hm5 hn5); clear hm5 hn5 hb5) | (go_at_call 112; (with_reducible refine (HRB.out _).mono ?_); rintro e w6 ⟨v6, rfl, p2, c2, q2, d2, rfl, hm6, hn6, hb6⟩; have HB6 := Lib.hid (HB5.out.below hb6); have HM6 := Lib.hid (And.intro hm6 hn6); have HM56 := Lib.hid (And.intro (HM5.out.1.below hb6) (HM5.out.2.below hb6)); clear hm6 hn6 hb6; have f0 := HB6.out.b0.at 0; have f1 := HB6.out.b0.at 1; have f2 := HB6.out.b0.at 2; have f3 := HB6.out.b0.at 3; have f4 := HB6.out.b1.at 0; have f5 := HB6.out.b1.at 1; have f6 := HB6.out.b1.at 2; have f7 := HB6.out.b1.at 3; have f8 := HB6.out.b0.thawed 0; have f9 := HB6.out.b0.thawed 1; have f10 := HB6.out.b0.thawed 2; have f11 := HB6.out.b0.thawed 3; have f12 := HB6.out.b1.thawed 0; have f13 := HB6.out.b1.thawed 1; have f14 := HB6.out.b1.thawed 2; have f15 := HB6.out.b1.thawed 3))
  refine bodyPost_ret (retFFV rfl _ _ B (B + 1) rfl rfl rfl ((HB6.out.b0.four).elseFour (by omega)) (HB6.out.b1.elseFour (by omega)).four) rfl ⟨_, rfl, p1, c1, q1, d1, p2, c2, q2, d2, rfl, ?_, ?_, ?_, ?_, ?_⟩
  · exact (HM56.out.1.four HB6.out.b0).four (HB6.out.b1.elseFour (by omega))
  · exact (HM56.out.2.four HB6.out.b0).four (HB6.out.b1.elseFour (by omega))
  · exact (HM6.out.1.four HB6.out.b0).four (HB6.out.b1.elseFour (by omega))
  · exact (HM6.out.2.four HB6.out.b0).four (HB6.out.b1.elseFour (by omega))
  · rw [hB]; exact below_four (below_four HB6.out.bl (by omega)) (by omega)
end Go.Proofs.YtojgafkkgacpkaaGreatDoor

namespace Go.Proofs.YtojgafkkgacpkaaGreatDoor
open Go.RowKit
set_option maxRecDepth 100000

theorem Fq.put {w0 : World} {B : Nat} {a b c d a' b' c' d' x y z u x' y' z' u' : Value} {w : World} (h : Fq w0 B #[a, b, c, d] #[a', b', c', d'] w) : Fq w0 B #[x, y, z, u] #[x', y', z', u'] (put4 (put4 w B x y z u) (B + 1) x' y' z' u') :=
  ⟨h.b0.four.elseFour (by omega), (h.b1.elseFour (by omega)).four, below_four (below_four h.bl (by omega)) (by omega)⟩
theorem Fq.keep {w0 : World} {B n : Nat} {a b c d a' b' c' d' x y z u x' y' z' u' v : Value} {w : World} (h : Fq w0 B #[a, b, c, d] #[a', b', c', d'] w) (hm : Mag w v n) : Mag (put4 (put4 w B x y z u) (B + 1) x' y' z' u') v n :=
  (hm.four h.b0).four (h.b1.elseFour (by omega))
theorem yFr_load {ops : Array Oper} {S : World → Prop} {op : Oper} {a : Act} (hw : Region.wanted op (yielded ops a.tmps) = true) (x : Operand) (ho : op.op = .load 107 x) (B : Nat) (hx : a.eval x = .pointer (some ⟨B, 0, none⟩))
    {s t : Bool} {u v : Value} (hS : ∀ w, S w → BlockIs w B 107 (frA s u t v)) : YieldsIf Tryz.prog ops S op (.agg (frA s u t v)) a :=
  .inl ⟨hw, fun w hw' => by
    unfold execOp
    simp only [ho, hx, Instr.loadAt, Instr.sureAddr, Sem.run_bind, Sem.run_pure, Result.andThen_ok, loadFr (hS w hw')]⟩

set_option maxHeartbeats 2000000 in
theorem rAddReal_err (u v : ByteArray) (ra rb r : Int) (hA : CheckIs 46 u ra) (hB' : CheckIs 46 v rb) (hr : (if ra = 0 then rb else ra) = r) (h0 : r ≠ 0) (w : World) :
    Calls Tryz.prog 36 #[.string u, .string v] w fun e w' => e = .returned (.tuple #[.string ⟨#[]⟩, .int .i64 r]) ∧ Below w.heap.size w w' := by
  have HT := Lib.hid (rTwo_err u v ra rb r hA hB' hr h0 w)
  have hr0 : (r != 0) = true := by simpa using h0
  clear hA hB' hr h0
  go_enter Tryz.func36, Tryz.ntmps36
  go_wp2_with (go_at_call 95; refine HT.out.mono ?_; rintro e w1 ⟨rfl, hb1⟩; obtain ⟨C, hC⟩ : ∃ C, w1.heap.size = C := ⟨_, rfl⟩; obtain ⟨W2, hW2⟩ : ∃ W2, (w1.alloc (.cells #[.bool false, .slice none 0 0, .bool false, .slice none 0 0] 107)).alloc (.cells #[.bool false, .slice none 0 0, .bool false, .slice none 0 0] 107) = W2 := ⟨_, rfl⟩; have HS := Lib.hid (Fq.start hC hW2); have HB := Lib.hid (show Below w.heap.size w w1 ∧ w.heap.size ≤ C from ⟨hb1, by rw [← hC]; exact hb1.size⟩); clear hb1; have f0 := HS.out.b0.at 0; have f1 := HS.out.b0.at 1; have f2 := HS.out.b0.at 2; have f3 := HS.out.b0.at 3; have f4 := HS.out.b1.at 0; have f5 := HS.out.b1.at 1; have f6 := HS.out.b1.at 2; have f7 := HS.out.b1.at 3; have f8 := HS.out.b0.thawed 0; have f9 := HS.out.b0.thawed 1; have f10 := HS.out.b0.thawed 2; have f11 := HS.out.b0.thawed 3; have f12 := HS.out.b1.thawed 0; have f13 := HS.out.b1.thawed 1; have f14 := HS.out.b1.thawed 2; have f15 := HS.out.b1.thawed 3)
  go_ret2
  exact ⟨rfl, HB.out.1.trans ((HS.out.put).bl.mono HB.out.2)⟩

set_option maxHeartbeats 2000000 in
theorem rSubReal_err (u v : ByteArray) (ra rb r : Int) (hA : CheckIs 46 u ra) (hB' : CheckIs 46 v rb) (hr : (if ra = 0 then rb else ra) = r) (h0 : r ≠ 0) (w : World) :
    Calls Tryz.prog 38 #[.string u, .string v] w fun e w' => e = .returned (.tuple #[.string ⟨#[]⟩, .int .i64 r]) ∧ Below w.heap.size w w' := by
  have HT := Lib.hid (rTwo_err u v ra rb r hA hB' hr h0 w)
  have hr0 : (r != 0) = true := by simpa using h0
  clear hA hB' hr h0
  go_enter Tryz.func38, Tryz.ntmps38
  go_wp2_with (go_at_call 95; refine HT.out.mono ?_; rintro e w1 ⟨rfl, hb1⟩; obtain ⟨C, hC⟩ : ∃ C, w1.heap.size = C := ⟨_, rfl⟩; obtain ⟨W2, hW2⟩ : ∃ W2, (w1.alloc (.cells #[.bool false, .slice none 0 0, .bool false, .slice none 0 0] 107)).alloc (.cells #[.bool false, .slice none 0 0, .bool false, .slice none 0 0] 107) = W2 := ⟨_, rfl⟩; have HS := Lib.hid (Fq.start hC hW2); have HB := Lib.hid (show Below w.heap.size w w1 ∧ w.heap.size ≤ C from ⟨hb1, by rw [← hC]; exact hb1.size⟩); clear hb1; have f0 := HS.out.b0.at 0; have f1 := HS.out.b0.at 1; have f2 := HS.out.b0.at 2; have f3 := HS.out.b0.at 3; have f4 := HS.out.b1.at 0; have f5 := HS.out.b1.at 1; have f6 := HS.out.b1.at 2; have f7 := HS.out.b1.at 3; have f8 := HS.out.b0.thawed 0; have f9 := HS.out.b0.thawed 1; have f10 := HS.out.b0.thawed 2; have f11 := HS.out.b0.thawed 3; have f12 := HS.out.b1.thawed 0; have f13 := HS.out.b1.thawed 1; have f14 := HS.out.b1.thawed 2; have f15 := HS.out.b1.thawed 3)
  go_ret2
  exact ⟨rfl, HB.out.1.trans ((HS.out.put).bl.mono HB.out.2)⟩

set_option maxHeartbeats 2000000 in
theorem rMulReal_err (u v : ByteArray) (ra rb r : Int) (hA : CheckIs 46 u ra) (hB' : CheckIs 46 v rb) (hr : (if ra = 0 then rb else ra) = r) (h0 : r ≠ 0) (w : World) :
    Calls Tryz.prog 40 #[.string u, .string v] w fun e w' => e = .returned (.tuple #[.string ⟨#[]⟩, .int .i64 r]) ∧ Below w.heap.size w w' := by
  have HT := Lib.hid (rTwo_err u v ra rb r hA hB' hr h0 w)
  have hr0 : (r != 0) = true := by simpa using h0
  clear hA hB' hr h0
  go_enter Tryz.func40, Tryz.ntmps40
  go_wp2_with (go_at_call 95; refine HT.out.mono ?_; rintro e w1 ⟨rfl, hb1⟩; obtain ⟨C, hC⟩ : ∃ C, w1.heap.size = C := ⟨_, rfl⟩; obtain ⟨W2, hW2⟩ : ∃ W2, (w1.alloc (.cells #[.bool false, .slice none 0 0, .bool false, .slice none 0 0] 107)).alloc (.cells #[.bool false, .slice none 0 0, .bool false, .slice none 0 0] 107) = W2 := ⟨_, rfl⟩; have HS := Lib.hid (Fq.start hC hW2); have HB := Lib.hid (show Below w.heap.size w w1 ∧ w.heap.size ≤ C from ⟨hb1, by rw [← hC]; exact hb1.size⟩); clear hb1; have f0 := HS.out.b0.at 0; have f1 := HS.out.b0.at 1; have f2 := HS.out.b0.at 2; have f3 := HS.out.b0.at 3; have f4 := HS.out.b1.at 0; have f5 := HS.out.b1.at 1; have f6 := HS.out.b1.at 2; have f7 := HS.out.b1.at 3; have f8 := HS.out.b0.thawed 0; have f9 := HS.out.b0.thawed 1; have f10 := HS.out.b0.thawed 2; have f11 := HS.out.b0.thawed 3; have f12 := HS.out.b1.thawed 0; have f13 := HS.out.b1.thawed 1; have f14 := HS.out.b1.thawed 2; have f15 := HS.out.b1.thawed 3)
  go_ret2
  exact ⟨rfl, HB.out.1.trans ((HS.out.put).bl.mono HB.out.2)⟩

set_option maxHeartbeats 2000000 in
theorem rDivReal_err (u v : ByteArray) (ra rb r : Int) (hA : CheckIs 46 u ra) (hB' : CheckIs 46 v rb) (hr : (if ra = 0 then rb else ra) = r) (h0 : r ≠ 0) (w : World) :
    Calls Tryz.prog 42 #[.string u, .string v] w fun e w' => e = .returned (.tuple #[.string ⟨#[]⟩, .int .i64 r]) ∧ Below w.heap.size w w' := by
  have HT := Lib.hid (rTwo_err u v ra rb r hA hB' hr h0 w)
  have hr0 : (r != 0) = true := by simpa using h0
  clear hA hB' hr h0
  go_enter Tryz.func42, Tryz.ntmps42
  go_wp2_with (go_at_call 95; refine HT.out.mono ?_; rintro e w1 ⟨rfl, hb1⟩; obtain ⟨C, hC⟩ : ∃ C, w1.heap.size = C := ⟨_, rfl⟩; obtain ⟨W2, hW2⟩ : ∃ W2, (w1.alloc (.cells #[.bool false, .slice none 0 0, .bool false, .slice none 0 0] 107)).alloc (.cells #[.bool false, .slice none 0 0, .bool false, .slice none 0 0] 107) = W2 := ⟨_, rfl⟩; have HS := Lib.hid (Fq.start hC hW2); have HB := Lib.hid (show Below w.heap.size w w1 ∧ w.heap.size ≤ C from ⟨hb1, by rw [← hC]; exact hb1.size⟩); clear hb1; have f0 := HS.out.b0.at 0; have f1 := HS.out.b0.at 1; have f2 := HS.out.b0.at 2; have f3 := HS.out.b0.at 3; have f4 := HS.out.b1.at 0; have f5 := HS.out.b1.at 1; have f6 := HS.out.b1.at 2; have f7 := HS.out.b1.at 3; have f8 := HS.out.b0.thawed 0; have f9 := HS.out.b0.thawed 1; have f10 := HS.out.b0.thawed 2; have f11 := HS.out.b0.thawed 3; have f12 := HS.out.b1.thawed 0; have f13 := HS.out.b1.thawed 1; have f14 := HS.out.b1.thawed 2; have f15 := HS.out.b1.thawed 3)
  go_ret2
  exact ⟨rfl, HB.out.1.trans ((HS.out.put).bl.mono HB.out.2)⟩

set_option maxHeartbeats 2000000 in
theorem rCompareReal_err (u v : ByteArray) (ra rb r : Int) (hA : CheckIs 46 u ra) (hB' : CheckIs 46 v rb) (hr : (if ra = 0 then rb else ra) = r) (h0 : r ≠ 0) (w : World) :
    Calls Tryz.prog 44 #[.string u, .string v] w fun e w' => e = .returned (.tuple #[.int .i64 0, .int .i64 r]) ∧ Below w.heap.size w w' := by
  have HT := Lib.hid (rTwo_err u v ra rb r hA hB' hr h0 w)
  have hr0 : (r != 0) = true := by simpa using h0
  clear hA hB' hr h0
  go_enter Tryz.func44, Tryz.ntmps44
  go_wp2_with (go_at_call 95; refine HT.out.mono ?_; rintro e w1 ⟨rfl, hb1⟩; obtain ⟨C, hC⟩ : ∃ C, w1.heap.size = C := ⟨_, rfl⟩; obtain ⟨W2, hW2⟩ : ∃ W2, (w1.alloc (.cells #[.bool false, .slice none 0 0, .bool false, .slice none 0 0] 107)).alloc (.cells #[.bool false, .slice none 0 0, .bool false, .slice none 0 0] 107) = W2 := ⟨_, rfl⟩; have HS := Lib.hid (Fq.start hC hW2); have HB := Lib.hid (show Below w.heap.size w w1 ∧ w.heap.size ≤ C from ⟨hb1, by rw [← hC]; exact hb1.size⟩); clear hb1; have f0 := HS.out.b0.at 0; have f1 := HS.out.b0.at 1; have f2 := HS.out.b0.at 2; have f3 := HS.out.b0.at 3; have f4 := HS.out.b1.at 0; have f5 := HS.out.b1.at 1; have f6 := HS.out.b1.at 2; have f7 := HS.out.b1.at 3; have f8 := HS.out.b0.thawed 0; have f9 := HS.out.b0.thawed 1; have f10 := HS.out.b0.thawed 2; have f11 := HS.out.b0.thawed 3; have f12 := HS.out.b1.thawed 0; have f13 := HS.out.b1.thawed 1; have f14 := HS.out.b1.thawed 2; have f15 := HS.out.b1.thawed 3)
  go_ret2
  exact ⟨rfl, HB.out.1.trans ((HS.out.put).bl.mono HB.out.2)⟩

set_option maxHeartbeats 4000000 in
theorem rAddReal_ok (u v : ByteArray) (s t : Bool) (a b c d : Nat) (hA : CheckIs 46 u 0) (hB' : CheckIs 46 v 0) (hRA : ReadIs u s a b) (hRB : ReadIs v t c d) (r : Bool) (p q : Nat) (hop : ∀ (va vb vc vd : Value) (W : World), Mag W va a → Mag W vb b → Mag W vc c → Mag W vd d → Calls Tryz.prog 97 #[.agg (frA s va false vb), .agg (frA t vc false vd)] W fun e w' => ∃ v', e = .returned v' ∧ FrR W r p false q v' w') (lp : ql p < 20000) (lq : ql q < 20000) (hs : r = true → p ≠ 0) (res : ByteArray) (er : Int) (hres : finR r p q = (res, er)) (w : World) :
    Calls Tryz.prog 36 #[.string u, .string v] w fun e w' => e = .returned (.tuple #[.string res, .int .i64 er]) ∧ Below w.heap.size w w' := by
  have HT := Lib.hid (rTwo_ok u v s t a b c d hA hB' hRA hRB w)
  have HOP := Lib.hid hop
  have HWR := Lib.hid (fun (vp vq : Value) W (h1 : Mag W vp p) (h2 : Mag W vq q) => rWriteReal_any r p q vp vq W h1 h2 lp lq hs res er hres)
  clear hA hB' hRA hRB hop lp lq hs hres
  go_enter Tryz.func36, Tryz.ntmps36
  go_wp2_with (first | (go_at_call 95; refine HT.out.mono ?_; rintro e w1 ⟨v1, rfl, p1, c1, q1, d1, p2, c2, q2, d2, rfl, ma, mb, mc, md, hb1⟩; obtain ⟨C, hC⟩ : ∃ C, w1.heap.size = C := ⟨_, rfl⟩; obtain ⟨W2, hW2⟩ : ∃ W2, (w1.alloc (.cells #[.bool false, .slice none 0 0, .bool false, .slice none 0 0] 107)).alloc (.cells #[.bool false, .slice none 0 0, .bool false, .slice none 0 0] 107) = W2 := ⟨_, rfl⟩; have HS := Lib.hid (Fq.start hC hW2); have HB := Lib.hid (show Below w.heap.size w w1 ∧ w.heap.size ≤ C from ⟨hb1, by rw [← hC]; exact hb1.size⟩); have HH := Lib.hid (HS.out.put (x := .bool s) (y := .slice p1 (ql a) c1) (z := .bool false) (u := .slice q1 (ql b) d1) (x' := .bool t) (y' := .slice p2 (ql c) c2) (z' := .bool false) (u' := .slice q2 (ql d) d2)); have HMM := Lib.hid (And.intro (HS.out.keep (x := .bool s) (y := .slice p1 (ql a) c1) (z := .bool false) (u := .slice q1 (ql b) d1) (x' := .bool t) (y' := .slice p2 (ql c) c2) (z' := .bool false) (u' := .slice q2 (ql d) d2) (HS.out.mag hC ma)) (And.intro (HS.out.keep (x := .bool s) (y := .slice p1 (ql a) c1) (z := .bool false) (u := .slice q1 (ql b) d1) (x' := .bool t) (y' := .slice p2 (ql c) c2) (z' := .bool false) (u' := .slice q2 (ql d) d2) (HS.out.mag hC mb)) (And.intro (HS.out.keep (x := .bool s) (y := .slice p1 (ql a) c1) (z := .bool false) (u := .slice q1 (ql b) d1) (x' := .bool t) (y' := .slice p2 (ql c) c2) (z' := .bool false) (u' := .slice q2 (ql d) d2) (HS.out.mag hC mc)) (HS.out.keep (x := .bool s) (y := .slice p1 (ql a) c1) (z := .bool false) (u := .slice q1 (ql b) d1) (x' := .bool t) (y' := .slice p2 (ql c) c2) (z' := .bool false) (u' := .slice q2 (ql d) d2) (HS.out.mag hC md))))); clear ma mb mc md hb1; have f0 := HS.out.b0.at 0; have f1 := HS.out.b0.at 1; have f2 := HS.out.b0.at 2; have f3 := HS.out.b0.at 3; have f4 := HS.out.b1.at 0; have f5 := HS.out.b1.at 1; have f6 := HS.out.b1.at 2; have f7 := HS.out.b1.at 3; have f8 := HS.out.b0.thawed 0; have f9 := HS.out.b0.thawed 1; have f10 := HS.out.b0.thawed 2; have f11 := HS.out.b0.thawed 3; have f12 := HS.out.b1.thawed 0; have f13 := HS.out.b1.thawed 1; have f14 := HS.out.b1.thawed 2; have f15 := HS.out.b1.thawed 3) | (go_at_call 97; (with_reducible refine (HOP.out _ _ _ _ _ HMM.out.1 HMM.out.2.1 HMM.out.2.2.1 HMM.out.2.2.2).mono ?_); rintro e w5 ⟨v5, rfl, p5, k5, p6, k6, rfl, hm5, hn5, hb5⟩; have HM5 := Lib.hid (And.intro hm5 hn5); have HB5 := Lib.hid (HH.out.below hb5); clear hm5 hn5 hb5) | (go_at_call 96; (with_reducible refine (HWR.out _ _ _ HM5.out.1 HM5.out.2).mono ?_); rintro e w6 ⟨rfl, hb6⟩; have HB6 := Lib.hid (HB5.out.below hb6); clear hb6))
  go_ret2
  exact ⟨rfl, HB.out.1.trans (HB6.out.bl.mono HB.out.2)⟩

set_option maxHeartbeats 4000000 in
theorem rMulReal_ok (u v : ByteArray) (s t : Bool) (a b c d : Nat) (hA : CheckIs 46 u 0) (hB' : CheckIs 46 v 0) (hRA : ReadIs u s a b) (hRB : ReadIs v t c d) (r : Bool) (p q : Nat) (hop : ∀ (va vb vc vd : Value) (W : World), Mag W va a → Mag W vb b → Mag W vc c → Mag W vd d → Calls Tryz.prog 99 #[.agg (frA s va false vb), .agg (frA t vc false vd)] W fun e w' => ∃ v', e = .returned v' ∧ FrR W r p false q v' w') (lp : ql p < 20000) (lq : ql q < 20000) (hs : r = true → p ≠ 0) (res : ByteArray) (er : Int) (hres : finR r p q = (res, er)) (w : World) :
    Calls Tryz.prog 40 #[.string u, .string v] w fun e w' => e = .returned (.tuple #[.string res, .int .i64 er]) ∧ Below w.heap.size w w' := by
  have HT := Lib.hid (rTwo_ok u v s t a b c d hA hB' hRA hRB w)
  have HOP := Lib.hid hop
  have HWR := Lib.hid (fun (vp vq : Value) W (h1 : Mag W vp p) (h2 : Mag W vq q) => rWriteReal_any r p q vp vq W h1 h2 lp lq hs res er hres)
  clear hA hB' hRA hRB hop lp lq hs hres
  go_enter Tryz.func40, Tryz.ntmps40
  go_wp2_with (first | (go_at_call 95; refine HT.out.mono ?_; rintro e w1 ⟨v1, rfl, p1, c1, q1, d1, p2, c2, q2, d2, rfl, ma, mb, mc, md, hb1⟩; obtain ⟨C, hC⟩ : ∃ C, w1.heap.size = C := ⟨_, rfl⟩; obtain ⟨W2, hW2⟩ : ∃ W2, (w1.alloc (.cells #[.bool false, .slice none 0 0, .bool false, .slice none 0 0] 107)).alloc (.cells #[.bool false, .slice none 0 0, .bool false, .slice none 0 0] 107) = W2 := ⟨_, rfl⟩; have HS := Lib.hid (Fq.start hC hW2); have HB := Lib.hid (show Below w.heap.size w w1 ∧ w.heap.size ≤ C from ⟨hb1, by rw [← hC]; exact hb1.size⟩); have HH := Lib.hid (HS.out.put (x := .bool s) (y := .slice p1 (ql a) c1) (z := .bool false) (u := .slice q1 (ql b) d1) (x' := .bool t) (y' := .slice p2 (ql c) c2) (z' := .bool false) (u' := .slice q2 (ql d) d2)); have HMM := Lib.hid (And.intro (HS.out.keep (x := .bool s) (y := .slice p1 (ql a) c1) (z := .bool false) (u := .slice q1 (ql b) d1) (x' := .bool t) (y' := .slice p2 (ql c) c2) (z' := .bool false) (u' := .slice q2 (ql d) d2) (HS.out.mag hC ma)) (And.intro (HS.out.keep (x := .bool s) (y := .slice p1 (ql a) c1) (z := .bool false) (u := .slice q1 (ql b) d1) (x' := .bool t) (y' := .slice p2 (ql c) c2) (z' := .bool false) (u' := .slice q2 (ql d) d2) (HS.out.mag hC mb)) (And.intro (HS.out.keep (x := .bool s) (y := .slice p1 (ql a) c1) (z := .bool false) (u := .slice q1 (ql b) d1) (x' := .bool t) (y' := .slice p2 (ql c) c2) (z' := .bool false) (u' := .slice q2 (ql d) d2) (HS.out.mag hC mc)) (HS.out.keep (x := .bool s) (y := .slice p1 (ql a) c1) (z := .bool false) (u := .slice q1 (ql b) d1) (x' := .bool t) (y' := .slice p2 (ql c) c2) (z' := .bool false) (u' := .slice q2 (ql d) d2) (HS.out.mag hC md))))); clear ma mb mc md hb1; have f0 := HS.out.b0.at 0; have f1 := HS.out.b0.at 1; have f2 := HS.out.b0.at 2; have f3 := HS.out.b0.at 3; have f4 := HS.out.b1.at 0; have f5 := HS.out.b1.at 1; have f6 := HS.out.b1.at 2; have f7 := HS.out.b1.at 3; have f8 := HS.out.b0.thawed 0; have f9 := HS.out.b0.thawed 1; have f10 := HS.out.b0.thawed 2; have f11 := HS.out.b0.thawed 3; have f12 := HS.out.b1.thawed 0; have f13 := HS.out.b1.thawed 1; have f14 := HS.out.b1.thawed 2; have f15 := HS.out.b1.thawed 3) | (go_at_call 99; (with_reducible refine (HOP.out _ _ _ _ _ HMM.out.1 HMM.out.2.1 HMM.out.2.2.1 HMM.out.2.2.2).mono ?_); rintro e w5 ⟨v5, rfl, p5, k5, p6, k6, rfl, hm5, hn5, hb5⟩; have HM5 := Lib.hid (And.intro hm5 hn5); have HB5 := Lib.hid (HH.out.below hb5); clear hm5 hn5 hb5) | (go_at_call 96; (with_reducible refine (HWR.out _ _ _ HM5.out.1 HM5.out.2).mono ?_); rintro e w6 ⟨rfl, hb6⟩; have HB6 := Lib.hid (HB5.out.below hb6); clear hb6))
  go_ret2
  exact ⟨rfl, HB.out.1.trans (HB6.out.bl.mono HB.out.2)⟩

set_option maxHeartbeats 4000000 in
theorem rDivReal_ok (u v : ByteArray) (s t : Bool) (a b c d : Nat) (hA : CheckIs 46 u 0) (hB' : CheckIs 46 v 0) (hRA : ReadIs u s a b) (hRB : ReadIs v t c d) (r : Bool) (p q : Nat) (hc0 : c ≠ 0) (hop : ∀ (va vb vc vd : Value) (W : World), Mag W va a → Mag W vb b → Mag W vc c → Mag W vd d → Calls Tryz.prog 100 #[.agg (frA s va false vb), .agg (frA t vc false vd)] W fun e w' => ∃ v', e = .returned v' ∧ FrR W r p false q v' w') (lp : ql p < 20000) (lq : ql q < 20000) (hs : r = true → p ≠ 0) (res : ByteArray) (er : Int) (hres : finR r p q = (res, er)) (w : World) :
    Calls Tryz.prog 42 #[.string u, .string v] w fun e w' => e = .returned (.tuple #[.string res, .int .i64 er]) ∧ Below w.heap.size w w' := by
  have HT := Lib.hid (rTwo_ok u v s t a b c d hA hB' hRA hRB w)
  have HOP := Lib.hid hop
  have HWR := Lib.hid (fun (vp vq : Value) W (h1 : Mag W vp p) (h2 : Mag W vq q) => rWriteReal_any r p q vp vq W h1 h2 lp lq hs res er hres)
  have hi0 : ((ql c : Int) == 0) = false := by have := mt ql_eq_zero.1 hc0; simp; omega
  clear hA hB' hRA hRB hop lp lq hs hres hc0
  go_enter Tryz.func42, Tryz.ntmps42
  go_wp2_with (first | (go_at_call 95; refine HT.out.mono ?_; rintro e w1 ⟨v1, rfl, p1, c1, q1, d1, p2, c2, q2, d2, rfl, ma, mb, mc, md, hb1⟩; obtain ⟨C, hC⟩ : ∃ C, w1.heap.size = C := ⟨_, rfl⟩; obtain ⟨W2, hW2⟩ : ∃ W2, (w1.alloc (.cells #[.bool false, .slice none 0 0, .bool false, .slice none 0 0] 107)).alloc (.cells #[.bool false, .slice none 0 0, .bool false, .slice none 0 0] 107) = W2 := ⟨_, rfl⟩; have HS := Lib.hid (Fq.start hC hW2); have HB := Lib.hid (show Below w.heap.size w w1 ∧ w.heap.size ≤ C from ⟨hb1, by rw [← hC]; exact hb1.size⟩); have HH := Lib.hid (HS.out.put (x := .bool s) (y := .slice p1 (ql a) c1) (z := .bool false) (u := .slice q1 (ql b) d1) (x' := .bool t) (y' := .slice p2 (ql c) c2) (z' := .bool false) (u' := .slice q2 (ql d) d2)); have HMM := Lib.hid (And.intro (HS.out.keep (x := .bool s) (y := .slice p1 (ql a) c1) (z := .bool false) (u := .slice q1 (ql b) d1) (x' := .bool t) (y' := .slice p2 (ql c) c2) (z' := .bool false) (u' := .slice q2 (ql d) d2) (HS.out.mag hC ma)) (And.intro (HS.out.keep (x := .bool s) (y := .slice p1 (ql a) c1) (z := .bool false) (u := .slice q1 (ql b) d1) (x' := .bool t) (y' := .slice p2 (ql c) c2) (z' := .bool false) (u' := .slice q2 (ql d) d2) (HS.out.mag hC mb)) (And.intro (HS.out.keep (x := .bool s) (y := .slice p1 (ql a) c1) (z := .bool false) (u := .slice q1 (ql b) d1) (x' := .bool t) (y' := .slice p2 (ql c) c2) (z' := .bool false) (u' := .slice q2 (ql d) d2) (HS.out.mag hC mc)) (HS.out.keep (x := .bool s) (y := .slice p1 (ql a) c1) (z := .bool false) (u := .slice q1 (ql b) d1) (x' := .bool t) (y' := .slice p2 (ql c) c2) (z' := .bool false) (u' := .slice q2 (ql d) d2) (HS.out.mag hC md))))); clear ma mb mc md hb1; have f0 := HS.out.b0.at 0; have f1 := HS.out.b0.at 1; have f2 := HS.out.b0.at 2; have f3 := HS.out.b0.at 3; have f4 := HS.out.b1.at 0; have f5 := HS.out.b1.at 1; have f6 := HS.out.b1.at 2; have f7 := HS.out.b1.at 3; have f8 := HS.out.b0.thawed 0; have f9 := HS.out.b0.thawed 1; have f10 := HS.out.b0.thawed 2; have f11 := HS.out.b0.thawed 3; have f12 := HS.out.b1.thawed 0; have f13 := HS.out.b1.thawed 1; have f14 := HS.out.b1.thawed 2; have f15 := HS.out.b1.thawed 3) | (go_at_call 100; (with_reducible refine (HOP.out _ _ _ _ _ HMM.out.1 HMM.out.2.1 HMM.out.2.2.1 HMM.out.2.2.2).mono ?_); rintro e w5 ⟨v5, rfl, p5, k5, p6, k6, rfl, hm5, hn5, hb5⟩; have HM5 := Lib.hid (And.intro hm5 hn5); have HB5 := Lib.hid (HH.out.below hb5); clear hm5 hn5 hb5) | (go_at_call 96; (with_reducible refine (HWR.out _ _ _ HM5.out.1 HM5.out.2).mono ?_); rintro e w6 ⟨rfl, hb6⟩; have HB6 := Lib.hid (HB5.out.below hb6); clear hb6))
  go_ret2
  exact ⟨rfl, HB.out.1.trans (HB6.out.bl.mono HB.out.2)⟩
end Go.Proofs.YtojgafkkgacpkaaGreatDoor

namespace Go.Proofs.YtojgafkkgacpkaaGreatDoor
open Go.RowKit
set_option maxRecDepth 100000

set_option maxHeartbeats 4000000 in
theorem rCompareReal_ok (u v : ByteArray) (s t : Bool) (a b c d : Nat) (hA : CheckIs 46 u 0) (hB' : CheckIs 46 v 0) (hRA : ReadIs u s a b) (hRB : ReadIs v t c d) (o : Int) (hop : ∀ (va vb vc vd : Value) (W : World), Mag W va a → Mag W vb b → Mag W vc c → Mag W vd d → Calls Tryz.prog 102 #[.agg (frA s va false vb), .agg (frA t vc false vd)] W fun e w' => e = .returned (.int .i64 o) ∧ Below W.heap.size W w') (w : World) :
    Calls Tryz.prog 44 #[.string u, .string v] w fun e w' => e = .returned (.tuple #[.int .i64 o, .int .i64 0]) ∧ Below w.heap.size w w' := by
  have HT := Lib.hid (rTwo_ok u v s t a b c d hA hB' hRA hRB w)
  have HOP := Lib.hid hop
  clear hA hB' hRA hRB hop
  go_enter Tryz.func44, Tryz.ntmps44
  go_wp2_with (first | (go_at_call 95; refine HT.out.mono ?_; rintro e w1 ⟨v1, rfl, p1, c1, q1, d1, p2, c2, q2, d2, rfl, ma, mb, mc, md, hb1⟩; obtain ⟨C, hC⟩ : ∃ C, w1.heap.size = C := ⟨_, rfl⟩; obtain ⟨W2, hW2⟩ : ∃ W2, (w1.alloc (.cells #[.bool false, .slice none 0 0, .bool false, .slice none 0 0] 107)).alloc (.cells #[.bool false, .slice none 0 0, .bool false, .slice none 0 0] 107) = W2 := ⟨_, rfl⟩; have HS := Lib.hid (Fq.start hC hW2); have HB := Lib.hid (show Below w.heap.size w w1 ∧ w.heap.size ≤ C from ⟨hb1, by rw [← hC]; exact hb1.size⟩); have HH := Lib.hid (HS.out.put (x := .bool s) (y := .slice p1 (ql a) c1) (z := .bool false) (u := .slice q1 (ql b) d1) (x' := .bool t) (y' := .slice p2 (ql c) c2) (z' := .bool false) (u' := .slice q2 (ql d) d2)); have HMM := Lib.hid (And.intro (HS.out.keep (x := .bool s) (y := .slice p1 (ql a) c1) (z := .bool false) (u := .slice q1 (ql b) d1) (x' := .bool t) (y' := .slice p2 (ql c) c2) (z' := .bool false) (u' := .slice q2 (ql d) d2) (HS.out.mag hC ma)) (And.intro (HS.out.keep (x := .bool s) (y := .slice p1 (ql a) c1) (z := .bool false) (u := .slice q1 (ql b) d1) (x' := .bool t) (y' := .slice p2 (ql c) c2) (z' := .bool false) (u' := .slice q2 (ql d) d2) (HS.out.mag hC mb)) (And.intro (HS.out.keep (x := .bool s) (y := .slice p1 (ql a) c1) (z := .bool false) (u := .slice q1 (ql b) d1) (x' := .bool t) (y' := .slice p2 (ql c) c2) (z' := .bool false) (u' := .slice q2 (ql d) d2) (HS.out.mag hC mc)) (HS.out.keep (x := .bool s) (y := .slice p1 (ql a) c1) (z := .bool false) (u := .slice q1 (ql b) d1) (x' := .bool t) (y' := .slice p2 (ql c) c2) (z' := .bool false) (u' := .slice q2 (ql d) d2) (HS.out.mag hC md))))); clear ma mb mc md hb1; have f0 := HS.out.b0.at 0; have f1 := HS.out.b0.at 1; have f2 := HS.out.b0.at 2; have f3 := HS.out.b0.at 3; have f4 := HS.out.b1.at 0; have f5 := HS.out.b1.at 1; have f6 := HS.out.b1.at 2; have f7 := HS.out.b1.at 3; have f8 := HS.out.b0.thawed 0; have f9 := HS.out.b0.thawed 1; have f10 := HS.out.b0.thawed 2; have f11 := HS.out.b0.thawed 3; have f12 := HS.out.b1.thawed 0; have f13 := HS.out.b1.thawed 1; have f14 := HS.out.b1.thawed 2; have f15 := HS.out.b1.thawed 3) | (go_at_call 102; (with_reducible refine (HOP.out _ _ _ _ _ HMM.out.1 HMM.out.2.1 HMM.out.2.2.1 HMM.out.2.2.2).mono ?_); rintro e w5 ⟨rfl, hb5⟩; have HB6 := Lib.hid (HH.out.below hb5); clear hb5))
  go_ret2
  exact ⟨rfl, HB.out.1.trans (HB6.out.bl.mono HB.out.2)⟩

set_option maxHeartbeats 4000000 in
theorem rDivReal_zero (u v : ByteArray) (s t : Bool) (a b c d : Nat) (hA : CheckIs 46 u 0) (hB' : CheckIs 46 v 0) (hRA : ReadIs u s a b) (hRB : ReadIs v t c d) (hc0 : c = 0) (w : World) :
    Calls Tryz.prog 42 #[.string u, .string v] w fun e w' => e = .returned (.tuple #[.string ⟨#[]⟩, .int .i64 30]) ∧ Below w.heap.size w w' := by
  subst hc0
  have HT := rTwo_ok u v s t a b 0 d hA hB' hRA hRB w
  unfold TwoR at HT
  rw [show ql 0 = 0 from ql_zero] at HT
  replace HT := Lib.hid HT
  clear hA hB' hRA hRB
  go_enter Tryz.func42, Tryz.ntmps42
  go_wp2_with (first | (go_at_call 95; refine HT.out.mono ?_; rintro e w1 ⟨v1, rfl, p1, c1, q1, d1, p2, c2, q2, d2, rfl, ma, mb, mc, md, hb1⟩; obtain ⟨C, hC⟩ : ∃ C, w1.heap.size = C := ⟨_, rfl⟩; obtain ⟨W2, hW2⟩ : ∃ W2, (w1.alloc (.cells #[.bool false, .slice none 0 0, .bool false, .slice none 0 0] 107)).alloc (.cells #[.bool false, .slice none 0 0, .bool false, .slice none 0 0] 107) = W2 := ⟨_, rfl⟩; have HS := Lib.hid (Fq.start hC hW2); have HB := Lib.hid (show Below w.heap.size w w1 ∧ w.heap.size ≤ C from ⟨hb1, by rw [← hC]; exact hb1.size⟩); have HH := Lib.hid (HS.out.put (x := .bool s) (y := .slice p1 (ql a) c1) (z := .bool false) (u := .slice q1 (ql b) d1) (x' := .bool t) (y' := .slice p2 0 c2) (z' := .bool false) (u' := .slice q2 (ql d) d2)); have HMM := Lib.hid (And.intro (HS.out.keep (x := .bool s) (y := .slice p1 (ql a) c1) (z := .bool false) (u := .slice q1 (ql b) d1) (x' := .bool t) (y' := .slice p2 0 c2) (z' := .bool false) (u' := .slice q2 (ql d) d2) (HS.out.mag hC ma)) (And.intro (HS.out.keep (x := .bool s) (y := .slice p1 (ql a) c1) (z := .bool false) (u := .slice q1 (ql b) d1) (x' := .bool t) (y' := .slice p2 0 c2) (z' := .bool false) (u' := .slice q2 (ql d) d2) (HS.out.mag hC mb)) (And.intro (HS.out.keep (x := .bool s) (y := .slice p1 (ql a) c1) (z := .bool false) (u := .slice q1 (ql b) d1) (x' := .bool t) (y' := .slice p2 0 c2) (z' := .bool false) (u' := .slice q2 (ql d) d2) (HS.out.mag hC mc)) (HS.out.keep (x := .bool s) (y := .slice p1 (ql a) c1) (z := .bool false) (u := .slice q1 (ql b) d1) (x' := .bool t) (y' := .slice p2 0 c2) (z' := .bool false) (u' := .slice q2 (ql d) d2) (HS.out.mag hC md))))); clear ma mb mc md hb1; have f0 := HS.out.b0.at 0; have f1 := HS.out.b0.at 1; have f2 := HS.out.b0.at 2; have f3 := HS.out.b0.at 3; have f4 := HS.out.b1.at 0; have f5 := HS.out.b1.at 1; have f6 := HS.out.b1.at 2; have f7 := HS.out.b1.at 3; have f8 := HS.out.b0.thawed 0; have f9 := HS.out.b0.thawed 1; have f10 := HS.out.b0.thawed 2; have f11 := HS.out.b0.thawed 3; have f12 := HS.out.b1.thawed 0; have f13 := HS.out.b1.thawed 1; have f14 := HS.out.b1.thawed 2; have f15 := HS.out.b1.thawed 3))
  go_ret2
  exact ⟨rfl, HB.out.1.trans (HH.out.bl.mono HB.out.2)⟩

set_option maxHeartbeats 4000000 in
theorem rSubReal_ok (u v : ByteArray) (s t : Bool) (a b c d : Nat) (hA : CheckIs 46 u 0) (hB' : CheckIs 46 v 0) (hRA : ReadIs u s a b) (hRB : ReadIs v t c d) (r : Bool) (p q : Nat) (t' : Bool) (hopp : ∀ (vc vd : Value) (W : World), Mag W vc c → Mag W vd d → Calls Tryz.prog 98 #[.agg (frA t vc false vd)] W fun e w' => ∃ v', e = .returned v' ∧ FrR W t' c false d v' w') (hop : ∀ (va vb vc vd : Value) (W : World), Mag W va a → Mag W vb b → Mag W vc c → Mag W vd d → Calls Tryz.prog 97 #[.agg (frA s va false vb), .agg (frA t' vc false vd)] W fun e w' => ∃ v', e = .returned v' ∧ FrR W r p false q v' w') (lp : ql p < 20000) (lq : ql q < 20000) (hs : r = true → p ≠ 0) (res : ByteArray) (er : Int) (hres : finR r p q = (res, er)) (w : World) :
    Calls Tryz.prog 38 #[.string u, .string v] w fun e w' => e = .returned (.tuple #[.string res, .int .i64 er]) ∧ Below w.heap.size w w' := by
  have HT := Lib.hid (rTwo_ok u v s t a b c d hA hB' hRA hRB w)
  have HOP := Lib.hid hop
  have HOO := Lib.hid hopp
  have HWR := Lib.hid (fun (vp vq : Value) W (h1 : Mag W vp p) (h2 : Mag W vq q) => (rWriteReal_any r p q vp vq W h1 h2 lp lq hs res er hres).mono (R' := fun e w' => ∃ v, e = .returned v ∧ (v = .tuple #[.string res, .int .i64 er] ∧ Below W.heap.size W w')) fun _ _ h => ⟨_, h.1, rfl, h.2⟩)
  clear hA hB' hRA hRB hop hopp lp lq hs hres
  go_enter Tryz.func38, Tryz.ntmps38
  go_wp2_with (first | (go_at_call 95; refine HT.out.mono ?_; rintro e w1 ⟨v1, rfl, p1, c1, q1, d1, p2, c2, q2, d2, rfl, ma, mb, mc, md, hb1⟩; obtain ⟨C, hC⟩ : ∃ C, w1.heap.size = C := ⟨_, rfl⟩; obtain ⟨W2, hW2⟩ : ∃ W2, (w1.alloc (.cells #[.bool false, .slice none 0 0, .bool false, .slice none 0 0] 107)).alloc (.cells #[.bool false, .slice none 0 0, .bool false, .slice none 0 0] 107) = W2 := ⟨_, rfl⟩; have HS := Lib.hid (Fq.start hC hW2); have HB := Lib.hid (show Below w.heap.size w w1 ∧ w.heap.size ≤ C from ⟨hb1, by rw [← hC]; exact hb1.size⟩); have HH := Lib.hid (HS.out.put (x := .bool s) (y := .slice p1 (ql a) c1) (z := .bool false) (u := .slice q1 (ql b) d1) (x' := .bool t) (y' := .slice p2 (ql c) c2) (z' := .bool false) (u' := .slice q2 (ql d) d2)); have HMM := Lib.hid (And.intro (HS.out.keep (x := .bool s) (y := .slice p1 (ql a) c1) (z := .bool false) (u := .slice q1 (ql b) d1) (x' := .bool t) (y' := .slice p2 (ql c) c2) (z' := .bool false) (u' := .slice q2 (ql d) d2) (HS.out.mag hC ma)) (And.intro (HS.out.keep (x := .bool s) (y := .slice p1 (ql a) c1) (z := .bool false) (u := .slice q1 (ql b) d1) (x' := .bool t) (y' := .slice p2 (ql c) c2) (z' := .bool false) (u' := .slice q2 (ql d) d2) (HS.out.mag hC mb)) (And.intro (HS.out.keep (x := .bool s) (y := .slice p1 (ql a) c1) (z := .bool false) (u := .slice q1 (ql b) d1) (x' := .bool t) (y' := .slice p2 (ql c) c2) (z' := .bool false) (u' := .slice q2 (ql d) d2) (HS.out.mag hC mc)) (HS.out.keep (x := .bool s) (y := .slice p1 (ql a) c1) (z := .bool false) (u := .slice q1 (ql b) d1) (x' := .bool t) (y' := .slice p2 (ql c) c2) (z' := .bool false) (u' := .slice q2 (ql d) d2) (HS.out.mag hC md))))); clear ma mb mc md hb1; have f0 := HS.out.b0.at 0; have f1 := HS.out.b0.at 1; have f2 := HS.out.b0.at 2; have f3 := HS.out.b0.at 3; have f4 := HS.out.b1.at 0; have f5 := HS.out.b1.at 1; have f6 := HS.out.b1.at 2; have f7 := HS.out.b1.at 3; have f8 := HS.out.b0.thawed 0; have f9 := HS.out.b0.thawed 1; have f10 := HS.out.b0.thawed 2; have f11 := HS.out.b0.thawed 3; have f12 := HS.out.b1.thawed 0; have f13 := HS.out.b1.thawed 1; have f14 := HS.out.b1.thawed 2; have f15 := HS.out.b1.thawed 3))
  obtain ⟨W3, hW3⟩ : ∃ W3, put4 (put4 W2 C (.bool s) (.slice p1 (ql a) c1) (.bool false) (.slice q1 (ql b) d1)) (C + 1) (.bool t) (.slice p2 (ql c) c2) (.bool false) (.slice q2 (ql d) d2) = W3 := ⟨_, rfl⟩
  rw [hW3] at HH HMM
  unfold put4 at hW3
  rw [hW3]
  clear hW3 hW2
  clear f0 f1 f2 f3 f4 f5 f6 f7 f8 f9 f10 f11 f12 f13 f14 f15
  have hT0 : Fq w1 C #[.bool s, .slice p1 (ql a) c1, .bool false, .slice q1 (ql b) d1] #[.bool t, .slice p2 (ql c) c2, .bool false, .slice q2 (ql d) d2] W3.drew := HH.out.drew
  refine wp_region_held_drew (S := Fq w1 C #[.bool s, .slice p1 (ql a) c1, .bool false, .slice q1 (ql b) d1] #[.bool t, .slice p2 (ql c) c2, .bool false, .slice q2 (ql d) d2]) (by kernel_rfl) hT0 (fun hS => ?_)
  obtain ⟨wd, hwd⟩ : ∃ wd, W3.drew = wd := ⟨_, rfl⟩
  have HMD := Lib.hid (show Mag wd (.slice p1 (ql a) c1) a ∧ Mag wd (.slice q1 (ql b) d1) b ∧ Mag wd (.slice p2 (ql c) c2) c ∧ Mag wd (.slice q2 (ql d) d2) d by rw [← hwd]; exact ⟨HMM.out.1.drew, HMM.out.2.1.drew, HMM.out.2.2.1.drew, HMM.out.2.2.2.drew⟩)
  rw [hwd] at hS hT0 ⊢
  clear hwd hT0
  refine wpAnyH_take (i := 0) rfl (by kernel_rfl) (by kernel_rfl) (by kernel_rfl) (fun _ _ _ h => h) (yFr_load rfl (.tmp 6) rfl C rfl (fun w' h => h.b0)) hS ?_
  try simp only [A1, A2, A3, Act.put, A4, A5, A6]
  refine wpAnyH_take (i := 1) rfl (by kernel_rfl) (by kernel_rfl) (by kernel_rfl) (fun _ _ _ h => h) (yFr_load rfl (.tmp 7) rfl (C + 1) rfl (fun w' h => h.b1)) hS ?_
  try simp only [A1, A2, A3, Act.put, A4, A5, A6]
  refine wpAnyH_ready (rs := [2]) (by kernel_rfl) (by simp) (AllReadyH.cons rfl (fun K hK => ?_) AllReadyH.nil)
  rw [if_pos (by rfl)]
  refine wp_callE 98 _ _ rfl _ (by kernel_rfl) (by kernel_rfl) (R := FrR wd t' c false d) (HOO.out _ _ _ HMD.out.2.2.1 HMD.out.2.2.2) (fun v4 w4 hR4 => ?_)
  obtain ⟨p4, k4, q4, l4, rfl, hm4, hn4, hb4⟩ := hR4
  have HM4 := Lib.hid (And.intro (HMD.out.1.below hb4) (HMD.out.2.1.below hb4))
  have hT := hS.below hb4
  clear hS
  refine hK.out _ _ hT (fun hS => ?_)
  clear hK K hT
  try simp only [A1, A2, A3, Act.put, A4, A5, A6]
  refine wpAnyH_ready (rs := [3]) (by kernel_rfl) (by simp) (AllReadyH.cons rfl (fun K hK => ?_) AllReadyH.nil)
  rw [if_pos (by rfl)]
  refine wp_callE 97 _ _ rfl _ (by kernel_rfl) (by kernel_rfl) (R := FrR w4 r p false q) (HOP.out _ _ _ _ _ HM4.out.1 HM4.out.2 hm4 hn4) (fun v5 w5 hR5 => ?_)
  obtain ⟨p5, k5, q5, l5, rfl, hm5, hn5, hb5⟩ := hR5
  have hT := hS.below hb5
  clear hS
  refine hK.out _ _ hT (fun hS => ?_)
  clear hK K hT
  try simp only [A1, A2, A3, Act.put, A4, A5, A6]
  refine wpAnyH_ready (rs := [4]) (by kernel_rfl) (by simp) (AllReadyH.cons rfl (fun K hK => ?_) AllReadyH.nil)
  rw [if_pos (by rfl)]
  refine wp_callE 96 _ _ rfl _ (by kernel_rfl) (by kernel_rfl) (R := fun v w' => v = .tuple #[.string res, .int .i64 er] ∧ Below w5.heap.size w5 w') (HWR.out _ _ _ hm5 hn5) (fun v6 w6 hR6 => ?_)
  obtain ⟨rfl, hb6⟩ := hR6
  have hT := hS.below hb6
  clear hS
  refine hK.out _ _ hT (fun hS => ?_)
  clear hK K hT
  try simp only [A1, A2, A3, Act.put, A4, A5, A6]
  refine wpAnyH_take (i := 5) rfl (by kernel_rfl) (by kernel_rfl) (by kernel_rfl) (fun _ _ _ h => h) (Or.inl ⟨by rfl, fun w' _ => by rfl⟩) hS ?_
  try simp only [A1, A2, A3, Act.put, A4, A5, A6]
  refine wpAnyH_take (i := 6) rfl (by kernel_rfl) (by kernel_rfl) (by kernel_rfl) (fun _ _ _ h => h) (Or.inl ⟨by rfl, fun w' _ => by rfl⟩) hS ?_
  try simp only [A1, A2, A3, Act.put, A4, A5, A6]
  refine wpAnyH_take (i := 7) rfl (by kernel_rfl) (by kernel_rfl) (by kernel_rfl) (fun _ _ _ h => h) (Or.inl ⟨by rfl, fun w' _ => by rfl⟩) hS ?_
  try simp only [A1, A2, A3, Act.put, A4, A5, A6]
  refine wpAnyH_take (i := 8) rfl (by kernel_rfl) (by kernel_rfl) (by kernel_rfl) (fun _ _ _ h => h) (Or.inl ⟨by rfl, fun w' _ => by rfl⟩) hS ?_
  try simp only [A1, A2, A3, Act.put, A4, A5, A6]
  refine wpAnyH_done (by kernel_rfl) ?_ _
  go_wp2
  go_ret2
  exact ⟨rfl, HB.out.1.trans (hS.bl.mono HB.out.2)⟩
end Go.Proofs.YtojgafkkgacpkaaGreatDoor
