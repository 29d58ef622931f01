/- The reference: Lowest. -/
import Derived.Test.YtojgafkkgacpkaaGreatDoorRX
set_option linter.unusedSimpArgs false
set_option linter.unusedVariables false
namespace Go.Proofs.YtojgafkkgacpkaaGreatDoor
open Go.RowKit
set_option maxRecDepth 100000

/-- The cells of a fraction of the reference. -/
abbrev frA (s : Bool) (x : Value) (t : Bool) (y : Value) : Array Value := #[.bool s, x, .bool t, y]
theorem infoFr (s : Bool) (x : Value) (t : Bool) (y : Value) : (Tryz.prog.info? 107).map (·.size) = some (frA s x t y).size := by
  show (Tryz.prog.info? 107).map (·.size) = some 4
  kernel_rfl
theorem retFr {fn : Func} {p : Tmp} (h : fn.results = #[.cell p 107]) (tmps : Array Value) (w : World) (B : Nat) (hp : tmps.getD p undef = .pointer (some ⟨B, 0, none⟩)) {s t : Bool} {x y : Value} (hB : BlockIs w B 107 (frA s x t y)) :
    (results fn tmps).run Tryz.prog w = .ok (.agg (frA s x t y)) w :=
  results_cell_row h tmps w B 107 (frA s x t y) (0, 0) _ hp hB Tryz.underlying107 rfl (infoFr s x t y)
/-- What a function that makes a fraction leaves. -/
def FrR (w : World) (s : Bool) (a : Nat) (t : Bool) (b : Nat) (v : Value) (w' : World) : Prop := ∃ p c q d, v = .agg (frA s (.slice p (ql a) c) t (.slice q (ql b) d)) ∧ Mag w' (.slice p (ql a) c) a ∧ Mag w' (.slice q (ql b) d) b ∧ Below w.heap.size w w'
theorem Row.butF {w w' : World} {b k C : Nat} {v : Value} {f : Nat → Nat} {cs : Array Value} (h : Row w b v f k) (hC : BlockIs w C 107 cs) (hk : ∀ g, g ≠ C → w'.heap[g]? = w.heap[g]?) : Row w' b v f k := by
  refine ⟨h.1, ?_⟩
  rcases h.2 with h1 | ⟨g, cap, cur, h1, h2, h3, h4⟩
  · exact .inl h1
  · refine .inr ⟨g, cap, cur, h1, h2, ?_, h4⟩
    rw [hk g ?_]
    · exact h3
    · rintro rfl
      rw [show w.heap[g]? = _ from hC] at h3
      simp at h3
theorem Mag.cellF {w : World} {n C i : Nat} {v x : Value} {cs : Array Value} (h : Mag w v n) (hC : BlockIs w C 107 cs) : Mag (w.setCell ⟨C, i, none⟩ x) v n :=
  Row.butF h hC fun g hg => heap_setCell_other w ⟨C, i, none⟩ g x hg
theorem Mag.rowF {w : World} {n C : Nat} {v : Value} {cs cs' : Array Value} (h : Mag w v n) (hC : BlockIs w C 107 cs) : Mag (w.setRow C cs') v n :=
  Row.butF h hC fun g hg => setRow_other w C g cs' hg
/-- Four stores into a fraction. -/
abbrev put4 (w : World) (C : Nat) (a b c d : Value) : World := (((w.setCell ⟨C, 0, none⟩ a).setCell ⟨C, 1, none⟩ b).setCell ⟨C, 2, none⟩ c).setCell ⟨C, 3, none⟩ d
theorem BlockIs.four {w : World} {C : Nat} {a b c d x y z u : Value} (h : BlockIs w C 107 #[a, b, c, d]) : BlockIs (put4 w C x y z u) C 107 #[x, y, z, u] := (((h.set 0 x).set 1 y).set 2 z).set 3 u
theorem Mag.four {w : World} {n C : Nat} {v : Value} {a b c d x y z u : Value} (h : Mag w v n) (hC : BlockIs w C 107 #[a, b, c, d]) : Mag (put4 w C x y z u) v n :=
  (((h.cellF hC).cellF (hC.set 0 x)).cellF ((hC.set 0 x).set 1 y)).cellF (((hC.set 0 x).set 1 y).set 2 z)
theorem below_four {B C : Nat} {w0 w : World} {x y z u : Value} (h : Below B w0 w) (hC : B ≤ C) : Below B w0 (put4 w C x y z u) :=
  (((h.setCell (by simp <;> omega) _).setCell (by simp <;> omega) _).setCell (by simp <;> omega) _).setCell (by simp <;> omega) _

/-- The blocks of Lowest: the two numbers, and the fraction to come. -/
structure Lw (w0 : World) (B : Nat) (s : Bool) (p : Option Addr) (a c : Nat) (t : Bool) (q : Option Addr) (b d : Nat) (w : World) : Prop where
  b0 : BlockIs w B 74 #[.bool s, .slice p (ql a) c]
  b1 : BlockIs w (B + 1) 74 #[.bool t, .slice q (ql b) d]
  b2 : ∃ x y z u, BlockIs w (B + 2) 107 #[x, y, z, u]
  ma : Mag w (.slice p (ql a) c) a
  mb : Mag w (.slice q (ql b) d) b
  bl : Below B w0 w
theorem Lw.below {w0 : World} {B a b c d : Nat} {s t : Bool} {p q : Option Addr} {w w' : World} (h : Lw w0 B s p a c t q b d w) (hb : Below w.heap.size w w') : Lw w0 B s p a c t q b d w' := by
  obtain ⟨h0, h1, ⟨x, y, z, u, h2⟩, h3, h4, h5⟩ := h
  exact ⟨h0.below hb h0.lt, h1.below hb h1.lt, ⟨x, y, z, u, h2.below hb h2.lt⟩, h3.below hb, h4.below hb, h5.trans (hb.mono (by have := h0.lt; omega))⟩
theorem Lw.seta {w0 : World} {B a b c d : Nat} {s t : Bool} {p q : Option Addr} {w : World} (h : Lw w0 B s p a c t q b d w) {r : Bool} {e k : Nat} {o : Option Addr} (hm : Mag w (.slice o (ql e) k) e) : Lw w0 B r o e k t q b d ((w.setCell ⟨B, 0, none⟩ (.bool r)).setCell ⟨B, 1, none⟩ (.slice o (ql e) k)) := by
  obtain ⟨h0, h1, ⟨x, y, z, u, h2⟩, h3, h4, h5⟩ := h
  exact ⟨h0.two, (h1.other _ _ (by simp)).other _ _ (by simp), ⟨x, y, z, u, (h2.other _ _ (by simp)).other _ _ (by simp)⟩, hm.two h0, h4.two h0, (h5.setCell (by simp) _).setCell (by simp) _⟩
theorem Lw.setb {w0 : World} {B a b c d : Nat} {s t : Bool} {p q : Option Addr} {w : World} (h : Lw w0 B s p a c t q b d w) {r : Bool} {e k : Nat} {o : Option Addr} (hm : Mag w (.slice o (ql e) k) e) : Lw w0 B s p a c r o e k ((w.setCell ⟨B + 1, 0, none⟩ (.bool r)).setCell ⟨B + 1, 1, none⟩ (.slice o (ql e) k)) := by
  obtain ⟨h0, h1, ⟨x, y, z, u, h2⟩, h3, h4, h5⟩ := h
  exact ⟨(h0.other _ _ (by simp)).other _ _ (by simp), h1.two, ⟨x, y, z, u, (h2.other _ _ (by simp)).other _ _ (by simp)⟩, h3.two h1, hm.two h1, (h5.setCell (by simp) _).setCell (by simp) _⟩
theorem Lw.start {w W : World} {B a b c d : Nat} {s t : Bool} {p q : Option Addr} (hB : w.heap.size = B) (ha : Mag w (.slice p (ql a) c) a) (hb : Mag w (.slice q (ql b) d) b) (hW : ((w.alloc (.cells #[.bool s, .slice p (ql a) c] 74)).alloc (.cells #[.bool t, .slice q (ql b) d] 74)).alloc (.cells #[.bool false, .slice none 0 0, .bool false, .slice none 0 0] 107) = W) : Lw w B s p a c t q b d W := by
  have hs1 : (w.alloc (.cells #[.bool s, .slice p (ql a) c] 74)).heap.size = B + 1 := by rw [World.size_alloc, hB]
  have hs2 : ((w.alloc (.cells #[.bool s, .slice p (ql a) c] 74)).alloc (.cells #[.bool t, .slice q (ql b) d] 74)).heap.size = B + 2 := by rw [World.size_alloc, hs1]
  have hbl : Below B w W := by rw [← hW]; exact ((((Below.refl B w).alloc (by omega) _).alloc (by omega) _).alloc (by omega) _)
  refine ⟨?_, ?_, ⟨.bool false, .slice none 0 0, .bool false, .slice none 0 0, ?_⟩, ha.below (by rw [hB]; exact hbl), hb.below (by rw [hB]; exact hbl), hbl⟩
  · rw [← hW, ← hB]; exact ((BlockIs.new _ _ _).alloc _).alloc _
  · rw [← hW]
    have := BlockIs.new (w.alloc (.cells #[.bool s, .slice p (ql a) c] 74)) 74 #[.bool t, .slice q (ql b) d]
    rw [hs1] at this
    exact this.alloc _
  · rw [← hW]
    have := BlockIs.new ((w.alloc (.cells #[.bool s, .slice p (ql a) c] 74)).alloc (.cells #[.bool t, .slice q (ql b) d] 74)) 107 #[.bool false, .slice none 0 0, .bool false, .slice none 0 0]
    rwa [hs2] at this
theorem lowest_zero {a b : Nat} : a % Nat.gcd a b = 0 := Nat.mod_eq_zero_of_dvd (Nat.gcd_dvd_left a b)
theorem lowest_zero2 {a b : Nat} : b % Nat.gcd a b = 0 := Nat.mod_eq_zero_of_dvd (Nat.gcd_dvd_right a b)
theorem Lw.drew {w0 : World} {B a b c d : Nat} {s t : Bool} {p q : Option Addr} {w : World} (h : Lw w0 B s p a c t q b d w) : Lw w0 B s p a c t q b d w.drew := by
  obtain ⟨h0, h1, ⟨x, y, z, u, h2⟩, h3, h4, h5⟩ := h
  exact ⟨h0.drew, h1.drew, ⟨x, y, z, u, h2.drew⟩, h3.drew, h4.drew, h5.drew⟩
theorem Lw.rowa {w0 : World} {B a b c d : Nat} {s t : Bool} {p q : Option Addr} {w : World} (h : Lw w0 B s p a c t q b d w) {r : Bool} {e k : Nat} {o : Option Addr} (hm : Mag w (.slice o (ql e) k) e) : Lw w0 B r o e k t q b d (w.setRow B #[.bool r, .slice o (ql e) k]) := by
  obtain ⟨h0, h1, ⟨x, y, z, u, h2⟩, h3, h4, h5⟩ := h
  exact ⟨h0.row2 _, h1.rowElse _ (by omega), ⟨x, y, z, u, h2.rowElse _ (by omega)⟩, hm.row h0, h4.row h0, below_setRow2 h5 _ (by omega)⟩
theorem Lw.rowb {w0 : World} {B a b c d : Nat} {s t : Bool} {p q : Option Addr} {w : World} (h : Lw w0 B s p a c t q b d w) {r : Bool} {e k : Nat} {o : Option Addr} (hm : Mag w (.slice o (ql e) k) e) : Lw w0 B s p a c r o e k (w.setRow (B + 1) #[.bool r, .slice o (ql e) k]) := by
  obtain ⟨h0, h1, ⟨x, y, z, u, h2⟩, h3, h4, h5⟩ := h
  exact ⟨h0.rowElse _ (by omega), h1.row2 _, ⟨x, y, z, u, h2.rowElse _ (by omega)⟩, h3.row h1, hm.row h1, below_setRow2 h5 _ (by omega)⟩

set_option maxHeartbeats 8000000 in
theorem rLowest_f (s : Bool) (a b : Nat) (va vb : Value) (w : World) (ha : Mag w va a) (hb : Mag w vb b) (la : ql a < 15000) (lb : ql b < 15000) (hb0 : 0 < b) (g : Nat) (hg : Nat.gcd a b = g) (r : Bool) (hr : ((s != false) && !decide (a / g = 0)) = r) :
    Calls Tryz.prog 109 #[.agg #[.bool s, va], .agg #[.bool false, vb]] w fun e w' => ∃ v', e = .returned v' ∧ FrR w r (a / g) false (b / g) v' w' := by
  obtain ⟨p, c, rfl⟩ := ha.len
  obtain ⟨q, d, rfl⟩ := hb.len
  obtain ⟨B, hB⟩ : ∃ B, w.heap.size = B := ⟨_, rfl⟩
  obtain ⟨W, hW⟩ : ∃ W, ((w.alloc (.cells #[.bool s, .slice p (ql a) c] 74)).alloc (.cells #[.bool false, .slice q (ql b) d] 74)).alloc (.cells #[.bool false, .slice none 0 0, .bool false, .slice none 0 0] 107) = W := ⟨_, rfl⟩
  have HS := Lib.hid (Lw.start hB ha hb hW)
  have hg0 : 0 < g := by rw [← hg]; exact Nat.gcd_pos_of_pos_right a hb0
  have lg : ql g < 15000 := Nat.lt_of_le_of_lt (ql_mono (by rw [← hg]; exact Nat.gcd_le_right a hb0)) lb
  have hza : a % g = 0 := by rw [← hg]; exact lowest_zero
  have hzb : b % g = 0 := by rw [← hg]; exact lowest_zero2
  have HCM := Lib.hid (fun (v u : Value) W (h1 : Mag W v a) (h2 : Mag W u b) => rCommon_any s false a b v u W h1 h2 (by omega) (by omega) g hg)
  have HO1 := Lib.hid (fun (v u : Value) W (h1 : Mag W v a) (h2 : Mag W u g) => rOverB_any s false a g v u W h1 h2 (by omega) (by omega) hg0 (a / g) 0 (by rw [decide_eq_true hza, hza]; simp) r hr)
  have HO2 := Lib.hid (fun (v u : Value) W (h1 : Mag W v b) (h2 : Mag W u g) => rOverB_any false false b g v u W h1 h2 (by omega) (by omega) hg0 (b / g) 0 (by rw [decide_eq_true hzb, hzb]; simp) false rfl)
  clear ha hb la lb hb0 hg hg0 lg hza hzb hr
  have H0 := HS
  have c0 := HS.out.b0.at 0
  have c1 := HS.out.b0.at 1
  have c2 := HS.out.b1.at 0
  have c3 := HS.out.b1.at 1
  have c4 := HS.out.b0.thawed 0
  have c5 := HS.out.b0.thawed 1
  have c6 := HS.out.b1.thawed 0
  have c7 := HS.out.b1.thawed 1
  go_enter Tryz.func109, Tryz.ntmps109
  go_wp2_with (first | (go_at_call 93; refine (HCM.out _ _ _ H0.out.ma H0.out.mb).mono ?_; rintro e w1 ⟨v1, rfl, p1, k1, rfl, hm1, hb1⟩; obtain ⟨D, hD⟩ : ∃ D, w1.heap.size = D := ⟨_, rfl⟩; have H1 := Lib.hid (H0.out.below hb1); have HG1 := Lib.hid hm1; obtain ⟨W2, hW2⟩ : ∃ W2, w1.alloc (.cells #[.bool false, .slice p1 (ql g) k1] 74) = W2 := ⟨_, rfl⟩; have hbW : Below w1.heap.size w1 W2 := (by rw [← hW2]; exact (Below.refl _ _).alloc (Nat.le_refl _) _); have H2 := Lib.hid (H1.out.below hbW); have HG2 := Lib.hid (HG1.out.below hbW); have HD2 := Lib.hid (show BlockIs W2 D 74 #[.bool false, .slice p1 (ql g) k1] from (by rw [← hW2, ← hD]; exact BlockIs.new _ _ _)); clear hm1 hb1 hbW; clear c0 c1 c2 c3 c4 c5 c6 c7; have c0 := H2.out.b0.at 0; have c1 := H2.out.b0.at 1; have c2 := H2.out.b1.at 0; have c3 := H2.out.b1.at 1; have c4 := H2.out.b0.thawed 0; have c5 := H2.out.b0.thawed 1; have c6 := H2.out.b1.thawed 0; have c7 := H2.out.b1.thawed 1; have g0 := HD2.out.at 0; have g1 := HD2.out.at 1; have hBD : B + 2 < D := (by obtain ⟨_, _, _, _, h⟩ := H1.out.b2; have := h.lt; omega)) | (go_at_call 89; (with_reducible refine (HO1.out _ _ _ H2.out.ma HG2.out).mono ?_); rintro e w3 ⟨v3, rfl, p3, k3, p4, k4, rfl, hm3, hm4, hb3⟩; have H3 := Lib.hid ((H2.out.below hb3).seta (r := r) hm3); have HG3 := Lib.hid ((HG2.out.below hb3).two (x := .bool r) (y := .slice p3 (ql (a / g)) k3) (H2.out.below hb3).b0); have HD3 := Lib.hid (((HD2.out.below hb3 HD2.out.lt).other ⟨B, 0, none⟩ (.bool r) (by simp <;> omega)).other ⟨B, 1, none⟩ (.slice p3 (ql (a / g)) k3) (by simp <;> omega)); have H3b := Lib.hid (H2.out.below hb3); obtain ⟨W3, hW3⟩ : ∃ W3, (w3.setCell ⟨B, 0, none⟩ (.bool r)).setCell ⟨B, 1, none⟩ (.slice p3 (ql (a / g)) k3) = W3 := ⟨_, rfl⟩; rw [hW3] at H3 HG3 HD3; clear hm3 hm4 hb3 g0 g1; clear c0 c1 c2 c3 c4 c5 c6 c7; have d0 := H3b.out.b0.at 0; have d1 := H3b.out.b0.at 1; have d2 := H3b.out.b1.at 0; have d3 := H3b.out.b1.at 1; have d4 := H3b.out.b0.thawed 0; have d5 := H3b.out.b0.thawed 1; have d6 := H3b.out.b1.thawed 0; have d7 := H3b.out.b1.thawed 1; have c0 := H3.out.b0.at 0; have c1 := H3.out.b0.at 1; have c2 := H3.out.b1.at 0; have c3 := H3.out.b1.at 1; have c4 := H3.out.b0.thawed 0; have c5 := H3.out.b0.thawed 1; have c6 := H3.out.b1.thawed 0; have c7 := H3.out.b1.thawed 1; have g0 := HD3.out.at 0; have g1 := HD3.out.at 1) | (go_at_call 89; (with_reducible refine (HO2.out _ _ _ H3.out.mb HG3.out).mono ?_); rintro e w5 ⟨v5, rfl, p5, k5, p6, k6, rfl, hm5, hm6, hb5⟩; have H5 := Lib.hid ((H3.out.below hb5).setb (r := false) hm5); have H5b := Lib.hid (H3.out.below hb5); obtain ⟨W5, hW5⟩ : ∃ W5, (w5.setCell ⟨B + 1, 0, none⟩ (.bool false)).setCell ⟨B + 1, 1, none⟩ (.slice p5 (ql (b / g)) k5) = W5 := ⟨_, rfl⟩; rw [hW5] at H5; clear hm5 hm6 hb5 g0 g1; clear c0 c1 c2 c3 c4 c5 c6 c7; clear d0 d1 d2 d3 d4 d5 d6 d7; have d0 := H5b.out.b0.at 0; have d1 := H5b.out.b0.at 1; have d2 := H5b.out.b1.at 0; have d3 := H5b.out.b1.at 1; have d4 := H5b.out.b0.thawed 0; have d5 := H5b.out.b0.thawed 1; have d6 := H5b.out.b1.thawed 0; have d7 := H5b.out.b1.thawed 1; have c0 := H5.out.b0.at 0; have c1 := H5.out.b0.at 1; have c2 := H5.out.b1.at 0; have c3 := H5.out.b1.at 1; have c4 := H5.out.b0.thawed 0; have c5 := H5.out.b0.thawed 1; have c6 := H5.out.b1.thawed 0; have c7 := H5.out.b1.thawed 1; obtain ⟨x0, x1, x2, x3, hx⟩ := H5.out.b2; have HF5 := Lib.hid hx; have f0 := HF5.out.at 0; have f1 := HF5.out.at 1; have f2 := HF5.out.at 2; have f3 := HF5.out.at 3; have e0 := HF5.out.thawed 0; have e1 := HF5.out.thawed 1; have e2 := HF5.out.thawed 2; have e3 := HF5.out.thawed 3; clear hx))
  exact bodyPost_ret (retFr rfl _ _ (B + 2) rfl HF5.out.four) rfl ⟨_, rfl, _, _, _, _, rfl, H5.out.ma.four HF5.out, H5.out.mb.four HF5.out, (by rw [hB]; exact below_four H5.out.bl (by omega))⟩

set_option maxHeartbeats 8000000 in
theorem rLowest_t (s : Bool) (a b : Nat) (va vb : Value) (w : World) (ha : Mag w va a) (hb : Mag w vb b) (la : ql a < 15000) (lb : ql b < 15000) (hb0 : 0 < b) (g : Nat) (hg : Nat.gcd a b = g) (s2 : Bool) (hs2 : ((!s) && !decide (a = 0)) = s2) (r : Bool) (hr : ((s2 != false) && !decide (a / g = 0)) = r) :
    Calls Tryz.prog 109 #[.agg #[.bool s, va], .agg #[.bool true, vb]] w fun e w' => ∃ v', e = .returned v' ∧ FrR w r (a / g) false (b / g) v' w' := by
  obtain ⟨p, c, rfl⟩ := ha.len
  obtain ⟨q, d, rfl⟩ := hb.len
  obtain ⟨B, hB⟩ : ∃ B, w.heap.size = B := ⟨_, rfl⟩
  obtain ⟨W, hW⟩ : ∃ W, ((w.alloc (.cells #[.bool s, .slice p (ql a) c] 74)).alloc (.cells #[.bool true, .slice q (ql b) d] 74)).alloc (.cells #[.bool false, .slice none 0 0, .bool false, .slice none 0 0] 107) = W := ⟨_, rfl⟩
  have HS := Lib.hid (Lw.start hB ha hb hW)
  have hg0 : 0 < g := by rw [← hg]; exact Nat.gcd_pos_of_pos_right a hb0
  have lg : ql g < 15000 := Nat.lt_of_le_of_lt (ql_mono (by rw [← hg]; exact Nat.gcd_le_right a hb0)) lb
  have hza : a % g = 0 := by rw [← hg]; exact lowest_zero
  have hzb : b % g = 0 := by rw [← hg]; exact lowest_zero2
  have HN1 := Lib.hid (fun (v : Value) W (h1 : Mag W v a) => rNegative_any s a v W h1 (by omega) s2 hs2)
  have HN2 := Lib.hid (fun (v : Value) W (h1 : Mag W v b) => rNegative_any true b v W h1 (by omega) false rfl)
  clear hs2
  have HCM := Lib.hid (fun (v u : Value) W (h1 : Mag W v a) (h2 : Mag W u b) => rCommon_any s2 false a b v u W h1 h2 (by omega) (by omega) g hg)
  have HO1 := Lib.hid (fun (v u : Value) W (h1 : Mag W v a) (h2 : Mag W u g) => rOverB_any s2 false a g v u W h1 h2 (by omega) (by omega) hg0 (a / g) 0 (by rw [decide_eq_true hza, hza]; simp) r hr)
  have HO2 := Lib.hid (fun (v u : Value) W (h1 : Mag W v b) (h2 : Mag W u g) => rOverB_any false false b g v u W h1 h2 (by omega) (by omega) hg0 (b / g) 0 (by rw [decide_eq_true hzb, hzb]; simp) false rfl)
  clear ha hb la lb hb0 hg hg0 lg hza hzb hr
  have c0 := HS.out.b0.at 0
  have c1 := HS.out.b0.at 1
  have c2 := HS.out.b1.at 0
  have c3 := HS.out.b1.at 1
  have c4 := HS.out.b0.thawed 0
  have c5 := HS.out.b0.thawed 1
  have c6 := HS.out.b1.thawed 0
  have c7 := HS.out.b1.thawed 1
  go_enter Tryz.func109, Tryz.ntmps109
  go_wp2
  have hT := And.intro HS.out.b0.drew HS.out.b1.drew
  obtain ⟨wd, hwd⟩ : ∃ wd, W.drew = wd := ⟨_, rfl⟩
  have HE := Lib.hid (show Lw w B s p a c true q b d wd by rw [← hwd]; exact HS.out.drew)
  refine AnyTill.region (T := Till 4 5 (fun w' => BlockIs w' B 74 #[.bool s, .slice p (ql a) c]) (fun w' => BlockIs w' (B + 1) 74 #[.bool true, .slice q (ql b) d])) (by kernel_rfl) ?_
  rw [hwd]
  clear hT hwd hW
  refine AnyTill.take1 (i := 0) rfl rfl (by kernel_rfl) (by omega) (by omega) (by kernel_rfl) (by kernel_rfl) (by kernel_rfl) (by kernel_rfl) (fun _ _ _ h => h) (yB_load rfl (.tmp 2) rfl B rfl (fun w' h => h)) HE.out.b0 HE.out.b1 ?_
  try simp only [A1, A2, A3, Act.put, A4, A5, A6]
  refine AnyTill.take2 (i := 2) rfl rfl (by kernel_rfl) (by omega) (by omega) (by kernel_rfl) (by kernel_rfl) (by kernel_rfl) (by kernel_rfl) (fun _ _ _ h => h) (yB_load rfl (.tmp 3) rfl (B + 1) rfl (fun w' h => h)) HE.out.b0 HE.out.b1 ?_
  try simp only [A1, A2, A3, Act.put, A4, A5, A6]
  refine AnyTill.ready (i := 1) (by kernel_rfl) rfl (fun K hK => ?_)
  rw [if_pos (by rfl)]
  refine wp_callE 78 _ _ rfl _ (by kernel_rfl) (by kernel_rfl) (R := BigR wd s2 a) (HN1.out _ _ HE.out.ma) (fun v1 w1 hR1 => ?_)
  obtain ⟨p1, k1, rfl, hm1, hb1⟩ := hR1
  have HF := Lib.hid (HE.out.below hb1)
  refine hK.out _ _ ⟨fun _ => HF.out.b0, fun _ => HF.out.b1⟩ ?_
  clear hK K
  try simp only [A1, A2, A3, Act.put, A4, A5, A6]
  refine AnyTill.ready (i := 3) (by kernel_rfl) rfl (fun K hK => ?_)
  rw [if_pos (by rfl)]
  refine wp_callE 78 _ _ rfl _ (by kernel_rfl) (by kernel_rfl) (R := BigR w1 false b) (HN2.out _ _ HF.out.mb) (fun v2 w2 hR2 => ?_)
  obtain ⟨p2, k2, rfl, hm2, hb2⟩ := hR2
  have HJ := Lib.hid (HF.out.below hb2)
  have HM1 := Lib.hid (Mag.below hm1 hb2)
  refine hK.out _ _ ⟨fun _ => HJ.out.b0, fun _ => HJ.out.b1⟩ ?_
  clear hK K
  try simp only [A1, A2, A3, Act.put, A4, A5, A6]
  refine AnyTill.ready (i := 4) (by kernel_rfl) rfl (fun K hK => ?_)
  rw [if_pos (by rfl)]
  refine wpBig_store1 (.tmp 2) (.tmp 9) rfl B rfl rfl HJ.out.b0 ?_
  have HJ2 := Lib.hid (HJ.out.rowa (r := s2) HM1.out)
  have HM2 := Lib.hid (hm2.row (cs' := #[.bool s2, .slice p1 (ql a) k1]) HJ.out.b0)
  refine hK.out _ _ ⟨fun h => absurd h (by decide), fun _ => HJ2.out.b1⟩ ?_
  clear hK K
  refine AnyTill.ready (i := 5) (by kernel_rfl) rfl (fun K hK => ?_)
  rw [if_pos (by rfl)]
  refine wpBig_store1 (.tmp 3) (.tmp 11) rfl (B + 1) rfl rfl HJ2.out.b1 ?_
  have H0 := Lib.hid (HJ2.out.rowb (r := false) HM2.out)
  refine hK.out _ _ ⟨fun h => absurd h (by decide), fun h => absurd h (by decide)⟩ ?_
  clear hK K
  refine AnyTill.done (by kernel_rfl) ?_ _
  obtain ⟨W1, hW1⟩ : ∃ W1, (w2.setRow B #[.bool s2, .slice p1 (ql a) k1]).setRow (B + 1) #[.bool false, .slice p2 (ql b) k2] = W1 := ⟨_, rfl⟩
  rw [hW1] at H0 ⊢
  clear hW1 HJ HJ2 HM1 HM2 HE HF hm1 hm2 hb1 hb2
  clear c0 c1 c2 c3 c4 c5 c6 c7
  have c0 := H0.out.b0.at 0
  have c1 := H0.out.b0.at 1
  have c2 := H0.out.b1.at 0
  have c3 := H0.out.b1.at 1
  have c4 := H0.out.b0.thawed 0
  have c5 := H0.out.b0.thawed 1
  have c6 := H0.out.b1.thawed 0
  have c7 := H0.out.b1.thawed 1
  go_wp2_with (first | (go_at_call 93; refine (HCM.out _ _ _ H0.out.ma H0.out.mb).mono ?_; rintro e w1 ⟨v1, rfl, p1, k1, rfl, hm1, hb1⟩; obtain ⟨D, hD⟩ : ∃ D, w1.heap.size = D := ⟨_, rfl⟩; have H1 := Lib.hid (H0.out.below hb1); have HG1 := Lib.hid hm1; obtain ⟨W2, hW2⟩ : ∃ W2, w1.alloc (.cells #[.bool false, .slice p1 (ql g) k1] 74) = W2 := ⟨_, rfl⟩; have hbW : Below w1.heap.size w1 W2 := (by rw [← hW2]; exact (Below.refl _ _).alloc (Nat.le_refl _) _); have H2 := Lib.hid (H1.out.below hbW); have HG2 := Lib.hid (HG1.out.below hbW); have HD2 := Lib.hid (show BlockIs W2 D 74 #[.bool false, .slice p1 (ql g) k1] from (by rw [← hW2, ← hD]; exact BlockIs.new _ _ _)); clear hm1 hb1 hbW; clear c0 c1 c2 c3 c4 c5 c6 c7; have c0 := H2.out.b0.at 0; have c1 := H2.out.b0.at 1; have c2 := H2.out.b1.at 0; have c3 := H2.out.b1.at 1; have c4 := H2.out.b0.thawed 0; have c5 := H2.out.b0.thawed 1; have c6 := H2.out.b1.thawed 0; have c7 := H2.out.b1.thawed 1; have g0 := HD2.out.at 0; have g1 := HD2.out.at 1; have hBD : B + 2 < D := (by obtain ⟨_, _, _, _, h⟩ := H1.out.b2; have := h.lt; omega)) | (go_at_call 89; (with_reducible refine (HO1.out _ _ _ H2.out.ma HG2.out).mono ?_); rintro e w3 ⟨v3, rfl, p3, k3, p4, k4, rfl, hm3, hm4, hb3⟩; have H3 := Lib.hid ((H2.out.below hb3).seta (r := r) hm3); have HG3 := Lib.hid ((HG2.out.below hb3).two (x := .bool r) (y := .slice p3 (ql (a / g)) k3) (H2.out.below hb3).b0); have HD3 := Lib.hid (((HD2.out.below hb3 HD2.out.lt).other ⟨B, 0, none⟩ (.bool r) (by simp <;> omega)).other ⟨B, 1, none⟩ (.slice p3 (ql (a / g)) k3) (by simp <;> omega)); have H3b := Lib.hid (H2.out.below hb3); obtain ⟨W3, hW3⟩ : ∃ W3, (w3.setCell ⟨B, 0, none⟩ (.bool r)).setCell ⟨B, 1, none⟩ (.slice p3 (ql (a / g)) k3) = W3 := ⟨_, rfl⟩; rw [hW3] at H3 HG3 HD3; clear hm3 hm4 hb3 g0 g1; clear c0 c1 c2 c3 c4 c5 c6 c7; have d0 := H3b.out.b0.at 0; have d1 := H3b.out.b0.at 1; have d2 := H3b.out.b1.at 0; have d3 := H3b.out.b1.at 1; have d4 := H3b.out.b0.thawed 0; have d5 := H3b.out.b0.thawed 1; have d6 := H3b.out.b1.thawed 0; have d7 := H3b.out.b1.thawed 1; have c0 := H3.out.b0.at 0; have c1 := H3.out.b0.at 1; have c2 := H3.out.b1.at 0; have c3 := H3.out.b1.at 1; have c4 := H3.out.b0.thawed 0; have c5 := H3.out.b0.thawed 1; have c6 := H3.out.b1.thawed 0; have c7 := H3.out.b1.thawed 1; have g0 := HD3.out.at 0; have g1 := HD3.out.at 1) | (go_at_call 89; (with_reducible refine (HO2.out _ _ _ H3.out.mb HG3.out).mono ?_); rintro e w5 ⟨v5, rfl, p5, k5, p6, k6, rfl, hm5, hm6, hb5⟩; have H5 := Lib.hid ((H3.out.below hb5).setb (r := false) hm5); have H5b := Lib.hid (H3.out.below hb5); obtain ⟨W5, hW5⟩ : ∃ W5, (w5.setCell ⟨B + 1, 0, none⟩ (.bool false)).setCell ⟨B + 1, 1, none⟩ (.slice p5 (ql (b / g)) k5) = W5 := ⟨_, rfl⟩; rw [hW5] at H5; clear hm5 hm6 hb5 g0 g1; clear c0 c1 c2 c3 c4 c5 c6 c7; clear d0 d1 d2 d3 d4 d5 d6 d7; have d0 := H5b.out.b0.at 0; have d1 := H5b.out.b0.at 1; have d2 := H5b.out.b1.at 0; have d3 := H5b.out.b1.at 1; have d4 := H5b.out.b0.thawed 0; have d5 := H5b.out.b0.thawed 1; have d6 := H5b.out.b1.thawed 0; have d7 := H5b.out.b1.thawed 1; have c0 := H5.out.b0.at 0; have c1 := H5.out.b0.at 1; have c2 := H5.out.b1.at 0; have c3 := H5.out.b1.at 1; have c4 := H5.out.b0.thawed 0; have c5 := H5.out.b0.thawed 1; have c6 := H5.out.b1.thawed 0; have c7 := H5.out.b1.thawed 1; obtain ⟨x0, x1, x2, x3, hx⟩ := H5.out.b2; have HF5 := Lib.hid hx; have f0 := HF5.out.at 0; have f1 := HF5.out.at 1; have f2 := HF5.out.at 2; have f3 := HF5.out.at 3; have e0 := HF5.out.thawed 0; have e1 := HF5.out.thawed 1; have e2 := HF5.out.thawed 2; have e3 := HF5.out.thawed 3; clear hx))
  exact bodyPost_ret (retFr rfl _ _ (B + 2) rfl HF5.out.four) rfl ⟨_, rfl, _, _, _, _, rfl, H5.out.ma.four HF5.out, H5.out.mb.four HF5.out, (by rw [hB]; exact below_four H5.out.bl (by omega))⟩
end Go.Proofs.YtojgafkkgacpkaaGreatDoor

namespace Go.Proofs.YtojgafkkgacpkaaGreatDoor
open Go.RowKit
set_option maxRecDepth 100000

theorem rLowest_any (s t : Bool) (a b : Nat) (va vb : Value) (w : World) (ha : Mag w va a) (hb : Mag w vb b) (la : ql a < 15000) (lb : ql b < 15000) (hb0 : 0 < b) (g : Nat) (hg : Nat.gcd a b = g) (s2 : Bool) (hs2 : (if t = true then ((!s) && !decide (a = 0)) else s) = s2) (r : Bool) (hr : ((s2 != false) && !decide (a / g = 0)) = r) :
    Calls Tryz.prog 109 #[.agg #[.bool s, va], .agg #[.bool t, vb]] w fun e w' => ∃ v', e = .returned v' ∧ FrR w r (a / g) false (b / g) v' w' := by
  cases t with
  | false =>
    rw [if_neg (by decide)] at hs2
    subst hs2
    exact rLowest_f s a b va vb w ha hb la lb hb0 g hg r hr
  | true =>
    rw [if_pos rfl] at hs2
    exact rLowest_t s a b va vb w ha hb la lb hb0 g hg s2 hs2 r hr
theorem fr_range0 {w : World} {B : Nat} {a b c d : Value} (h : BlockIs w B 107 #[a, b, c, d]) : w.rangeAt B 0 [a, b] := by
  intro j v hv
  have hj : j < 2 := (List.getElem?_eq_some_iff.1 hv).1
  rw [Nat.zero_add, h.at]
  rcases j with _ | _ | j
  · exact hv
  · exact hv
  · omega
theorem fr_range2 {w : World} {B : Nat} {a b c d : Value} (h : BlockIs w B 107 #[a, b, c, d]) : w.rangeAt B 2 [c, d] := by
  intro j v hv
  have hj : j < 2 := (List.getElem?_eq_some_iff.1 hv).1
  rw [h.at]
  rcases j with _ | _ | j
  · exact hv
  · exact hv
  · omega
theorem run_loadRB {w : World} {L o : Nat} {a b : Value} (h : w.rangeAt L o [a, b]) : (loadVar 74 ⟨L, o, none⟩).run Tryz.prog w = .ok (.agg #[a, b]) w :=
  run_loadVar_mid w L o 74 [a, b] _ h Tryz.underlying74 rfl (infoBig a b)
theorem yB_range {ops : Array Oper} {S : World → Prop} {op : Oper} {a : Act} (hw : Region.wanted op (yielded ops a.tmps) = true) (x : Operand) (ho : op.op = .load 74 x) (L o : Nat) (hx : a.eval x = .pointer (some ⟨L, o, none⟩))
    {u v : Value} (hS : ∀ w, S w → w.rangeAt L o [u, v]) : YieldsIf Tryz.prog ops S op (.agg #[u, v]) a :=
  .inl ⟨hw, fun w hw' => by
    unfold execOp
    simp only [ho, hx, Instr.loadAt, Instr.sureAddr, Sem.run_bind, Sem.run_pure, Result.andThen_ok, run_loadRB (hS w hw')]⟩
/-- Two fractions that came in. -/
structure Fq (w0 : World) (B : Nat) (X Y : Array Value) (w : World) : Prop where
  b0 : BlockIs w B 107 X
  b1 : BlockIs w (B + 1) 107 Y
  bl : Below B w0 w
/-- .. and one to come. -/
structure Ft (w0 : World) (B : Nat) (X Y : Array Value) (w : World) : Prop where
  b0 : BlockIs w B 107 X
  b1 : BlockIs w (B + 1) 107 Y
  b2 : ∃ x y z u, BlockIs w (B + 2) 107 #[x, y, z, u]
  bl : Below B w0 w
/-- One fraction that came in, and one to come. -/
structure Fo (w0 : World) (B : Nat) (X : Array Value) (w : World) : Prop where
  b0 : BlockIs w B 107 X
  b1 : ∃ x y z u, BlockIs w (B + 1) 107 #[x, y, z, u]
  bl : Below B w0 w
theorem Fq.below {w0 : World} {B : Nat} {X Y : Array Value} {w w' : World} (h : Fq w0 B X Y w) (hb : Below w.heap.size w w') : Fq w0 B X Y w' := by
  obtain ⟨h0, h1, h3⟩ := h
  exact ⟨h0.below hb h0.lt, h1.below hb h1.lt, h3.trans (hb.mono (by have := h0.lt; omega))⟩
theorem Ft.below {w0 : World} {B : Nat} {X Y : Array Value} {w w' : World} (h : Ft w0 B X Y w) (hb : Below w.heap.size w w') : Ft w0 B X Y w' := by
  obtain ⟨h0, h1, ⟨x, y, z, u, h2⟩, h3⟩ := h
  exact ⟨h0.below hb h0.lt, h1.below hb h1.lt, ⟨x, y, z, u, h2.below hb h2.lt⟩, h3.trans (hb.mono (by have := h0.lt; omega))⟩
theorem Fo.below {w0 : World} {B : Nat} {X : Array Value} {w w' : World} (h : Fo w0 B X w) (hb : Below w.heap.size w w') : Fo w0 B X w' := by
  obtain ⟨h0, ⟨x, y, z, u, h2⟩, h3⟩ := h
  exact ⟨h0.below hb h0.lt, ⟨x, y, z, u, h2.below hb h2.lt⟩, h3.trans (hb.mono (by have := h0.lt; omega))⟩
theorem Fq.drew {w0 : World} {B : Nat} {X Y : Array Value} {w : World} (h : Fq w0 B X Y w) : Fq w0 B X Y w.drew := by
  obtain ⟨h0, h1, h3⟩ := h
  exact ⟨h0.drew, h1.drew, h3.drew⟩
theorem Ft.drew {w0 : World} {B : Nat} {X Y : Array Value} {w : World} (h : Ft w0 B X Y w) : Ft w0 B X Y w.drew := by
  obtain ⟨h0, h1, ⟨x, y, z, u, h2⟩, h3⟩ := h
  exact ⟨h0.drew, h1.drew, ⟨x, y, z, u, h2.drew⟩, h3.drew⟩
theorem Fo.drew {w0 : World} {B : Nat} {X : Array Value} {w : World} (h : Fo w0 B X w) : Fo w0 B X w.drew := by
  obtain ⟨h0, ⟨x, y, z, u, h2⟩, h3⟩ := h
  exact ⟨h0.drew, ⟨x, y, z, u, h2.drew⟩, h3.drew⟩
theorem Fq.mag {w0 : World} {B n : Nat} {X Y : Array Value} {v : Value} {w : World} (h : Fq w0 B X Y w) (hB : w0.heap.size = B) (hm : Mag w0 v n) : Mag w v n := hm.below (by rw [hB]; exact h.bl)
theorem Ft.mag {w0 : World} {B n : Nat} {X Y : Array Value} {v : Value} {w : World} (h : Ft w0 B X Y w) (hB : w0.heap.size = B) (hm : Mag w0 v n) : Mag w v n := hm.below (by rw [hB]; exact h.bl)
theorem Fo.mag {w0 : World} {B n : Nat} {X : Array Value} {v : Value} {w : World} (h : Fo w0 B X w) (hB : w0.heap.size = B) (hm : Mag w0 v n) : Mag w v n := hm.below (by rw [hB]; exact h.bl)
theorem Ft.ret {w0 : World} {B : Nat} {X Y : Array Value} {w : World} (h : Ft w0 B X Y w) (x y z u : Value) : Ft w0 B X Y (w.setRow (B + 2) #[x, y, z, u]) ∧ BlockIs (w.setRow (B + 2) #[x, y, z, u]) (B + 2) 107 #[x, y, z, u] := by
  obtain ⟨h0, h1, ⟨_, _, _, _, h2⟩, h3⟩ := h
  exact ⟨⟨h0.rowElse _ (by omega), h1.rowElse _ (by omega), ⟨_, _, _, _, h2.row2 _⟩, below_setRow2 h3 _ (by omega)⟩, h2.row2 _⟩
theorem Fo.ret {w0 : World} {B : Nat} {X : Array Value} {w : World} (h : Fo w0 B X w) (x y z u : Value) : Fo w0 B X (w.setRow (B + 1) #[x, y, z, u]) ∧ BlockIs (w.setRow (B + 1) #[x, y, z, u]) (B + 1) 107 #[x, y, z, u] := by
  obtain ⟨h0, ⟨_, _, _, _, h2⟩, h3⟩ := h
  exact ⟨⟨h0.rowElse _ (by omega), ⟨_, _, _, _, h2.row2 _⟩, below_setRow2 h3 _ (by omega)⟩, h2.row2 _⟩
theorem Fq.start {w W : World} {B : Nat} {X Y : Array Value} (hB : w.heap.size = B) (hW : (w.alloc (.cells X 107)).alloc (.cells Y 107) = W) : Fq w B X Y W := by
  have hs1 : (w.alloc (.cells X 107)).heap.size = B + 1 := by rw [World.size_alloc, hB]
  rw [← hW]
  refine ⟨by rw [← hB]; exact (BlockIs.new _ _ _).alloc _, ?_, (((Below.refl B w).alloc (by omega) _).alloc (by omega) _)⟩
  have := BlockIs.new (w.alloc (.cells X 107)) 107 Y
  rwa [hs1] at this
theorem Fo.start {w W : World} {B : Nat} {X : Array Value} {x y z u : Value} (hB : w.heap.size = B) (hW : (w.alloc (.cells X 107)).alloc (.cells #[x, y, z, u] 107) = W) : Fo w B X W := by
  obtain ⟨h0, h1, h2⟩ := Fq.start hB hW
  exact ⟨h0, ⟨_, _, _, _, h1⟩, h2⟩
theorem Ft.start {w W : World} {B : Nat} {X Y : Array Value} {x y z u : Value} (hB : w.heap.size = B) (hW : ((w.alloc (.cells X 107)).alloc (.cells Y 107)).alloc (.cells #[x, y, z, u] 107) = W) : Ft w B X Y W := by
  obtain ⟨h0, h1, h2⟩ := Fq.start (W := (w.alloc (.cells X 107)).alloc (.cells Y 107)) hB rfl
  have hs2 : ((w.alloc (.cells X 107)).alloc (.cells Y 107)).heap.size = B + 2 := by rw [World.size_alloc, World.size_alloc, hB]
  rw [← hW]
  refine ⟨h0.alloc _, h1.alloc _, ⟨x, y, z, u, ?_⟩, h2.alloc (by omega) _⟩
  have := BlockIs.new ((w.alloc (.cells X 107)).alloc (.cells Y 107)) 107 #[x, y, z, u]
  rwa [hs2] at this
theorem wpFr_store1 {o : Oper} {a : Act} {w : World} {K : Act → World → Prop} {Q : Exit → Act → World → Prop} (x y : Operand) (ho : o.op = .store 107 x y) (B : Nat) {s s' : Bool} {p p' : Option Addr} {l c l' c' : Nat} {u v u' v' : Value}
    (hx : a.eval x = .pointer (some ⟨B, 0, none⟩)) (hy : a.eval y = .agg #[.bool s, .slice p l c, .bool s', .slice p' l' c']) (hB : BlockIs w B 107 #[u, v, u', v']) (h : K (a.put o.dst undef) (w.setRow B #[.bool s, .slice p l c, .bool s', .slice p' l' c'])) : o.wp Tryz.prog a w K Q :=
  wp_store_row 107 x y ho B #[.bool s, .slice p l c, .bool s', .slice p' l' c'] hx hy 107 _ hB (infoFr _ _ _ _) rfl (by simp [Value.oneCell']) h
theorem builtFr (s t : Bool) (u v : Value) : Tryz.prog.built 107 [(0, .agg #[.bool s, u]), (1, .agg #[.bool t, v])] = some #[.bool s, u, .bool t, v] := by
  kernel_rfl
theorem yFr_build {ops : Array Oper} {S : World → Prop} {op : Oper} {a : Act} (hw : Region.wanted op (yielded ops a.tmps) = true) (x y : Operand) (ho : op.op = .build 107 #[(0, x), (1, y)])
    {s t : Bool} {u v : Value} (hx : a.eval x = .agg #[.bool s, u]) (hy : a.eval y = .agg #[.bool t, v]) : YieldsIf Tryz.prog ops S op (.agg #[.bool s, u, .bool t, v]) a :=
  .inl ⟨hw, fun w _ => by
    unfold execOp
    simp only [ho, Sem.run_bind, List.map_toArray, List.map_cons, List.map_nil, hx, hy, run_build w 107 #[(0, .agg #[.bool s, u]), (1, .agg #[.bool t, v])] _ (builtFr s t u v), Result.andThen_ok]
    rfl⟩

set_option maxHeartbeats 4000000 in
theorem rProduct_any (s t : Bool) (a b c d : Nat) (va vb vc vd : Value) (w : World) (ha : Mag w va a) (hb : Mag w vb b) (hc : Mag w vc c) (hd : Mag w vd d) (la : ql a < 1000) (lb : ql b < 1000) (lc : ql c < 1000) (ld : ql d < 1000) (h0 : 0 < b * d) (r1 : Bool) (hr1 : ((s != t) && !decide (a * c = 0)) = r1) (r2 : Bool) (hr2 : ((false != false) && !decide (b * d = 0)) = r2) (g : Nat) (hg : Nat.gcd (a * c) (b * d) = g) (s2 : Bool) (hs2 : (if r2 = true then ((!r1) && !decide (a * c = 0)) else r1) = s2) (r : Bool) (hr : ((s2 != false) && !decide (a * c / g = 0)) = r) :
    Calls Tryz.prog 99 #[.agg (frA s va false vb), .agg (frA t vc false vd)] w fun e w' => ∃ v', e = .returned v' ∧ FrR w r (a * c / g) false (b * d / g) v' w' := by
  obtain ⟨p1, c1, rfl⟩ := ha.len
  obtain ⟨q1, d1, rfl⟩ := hb.len
  obtain ⟨p2, c2, rfl⟩ := hc.len
  obtain ⟨q2, d2, rfl⟩ := hd.len
  obtain ⟨B, hB⟩ : ∃ B, w.heap.size = B := ⟨_, rfl⟩
  obtain ⟨W, hW⟩ : ∃ W, (((w.alloc (.cells #[.bool s, .slice p1 (ql a) c1, .bool false, .slice q1 (ql b) d1] 107)).alloc (.cells #[.bool t, .slice p2 (ql c) c2, .bool false, .slice q2 (ql d) d2] 107))).alloc (.cells #[.bool false, .slice none 0 0, .bool false, .slice none 0 0] 107) = W := ⟨_, rfl⟩
  have HS := Lib.hid (Ft.start hB hW)
  have hn : ql (a * c) < 2000 := by have := ql_mul a c; omega
  have hm : ql (b * d) < 2000 := by have := ql_mul b d; omega
  have HT1 := Lib.hid (fun W (h : Ft w B #[.bool s, .slice p1 (ql a) c1, .bool false, .slice q1 (ql b) d1] #[.bool t, .slice p2 (ql c) c2, .bool false, .slice q2 (ql d) d2] W) => rTimes_any s t a c _ _ W (h.mag hB ha) (h.mag hB hc) (by omega) (by omega) (a * c) rfl r1 hr1)
  have HT2 := Lib.hid (fun W (h : Ft w B #[.bool s, .slice p1 (ql a) c1, .bool false, .slice q1 (ql b) d1] #[.bool t, .slice p2 (ql c) c2, .bool false, .slice q2 (ql d) d2] W) => rTimes_any false false b d _ _ W (h.mag hB hb) (h.mag hB hd) (by omega) (by omega) (b * d) rfl r2 hr2)
  have HL := Lib.hid (fun (v u : Value) W (h1 : Mag W v (a * c)) (h2 : Mag W u (b * d)) => rLowest_any r1 r2 (a * c) (b * d) v u W h1 h2 (by omega) (by omega) h0 g hg s2 hs2 r hr)
  clear ha hb hc hd la lb lc ld h0 hr1 hr2 hg hs2 hr hn hm
  go_enter Tryz.func99, Tryz.ntmps99
  go_wp2
  have hT0 : Ft w B #[.bool s, .slice p1 (ql a) c1, .bool false, .slice q1 (ql b) d1] #[.bool t, .slice p2 (ql c) c2, .bool false, .slice q2 (ql d) d2] W.drew := HS.out.drew
  refine wp_region_held_drew (S := Ft w B #[.bool s, .slice p1 (ql a) c1, .bool false, .slice q1 (ql b) d1] #[.bool t, .slice p2 (ql c) c2, .bool false, .slice q2 (ql d) d2]) (by kernel_rfl) hT0 (fun hS => ?_)
  obtain ⟨wd, hwd⟩ : ∃ wd, W.drew = wd := ⟨_, rfl⟩
  rw [hwd] at hS hT0 ⊢
  clear hwd hT0 hW
  refine wpAnyH_take (i := 0) (v := .pointer (some ⟨B, 0, none⟩)) rfl (by kernel_rfl) (by kernel_rfl) (by kernel_rfl) (fun _ _ _ h => h) (Or.inl ⟨by rfl, fun w' h => by go_simp⟩) hS ?_
  try simp only [A1, A2, A3, Act.put, A4, A5, A6]
  refine wpAnyH_take (i := 1) rfl (by kernel_rfl) (by kernel_rfl) (by kernel_rfl) (fun _ _ _ h => h) (yB_range rfl (.tmp 5) rfl (B) 0 rfl (fun w' h => fr_range0 h.b0)) hS ?_
  try simp only [A1, A2, A3, Act.put, A4, A5, A6]
  refine wpAnyH_take (i := 2) (v := .pointer (some ⟨B + 1, 0, none⟩)) rfl (by kernel_rfl) (by kernel_rfl) (by kernel_rfl) (fun _ _ _ h => h) (Or.inl ⟨by rfl, fun w' h => by go_simp⟩) hS ?_
  try simp only [A1, A2, A3, Act.put, A4, A5, A6]
  refine wpAnyH_take (i := 3) rfl (by kernel_rfl) (by kernel_rfl) (by kernel_rfl) (fun _ _ _ h => h) (yB_range rfl (.tmp 7) rfl (B + 1) 0 rfl (fun w' h => fr_range0 h.b1)) hS ?_
  try simp only [A1, A2, A3, Act.put, A4, A5, A6]
  refine wpAnyH_take (i := 5) (v := .pointer (some ⟨B, 2, none⟩)) rfl (by kernel_rfl) (by kernel_rfl) (by kernel_rfl) (fun _ _ _ h => h) (Or.inl ⟨by rfl, fun w' h => by go_simp⟩) hS ?_
  try simp only [A1, A2, A3, Act.put, A4, A5, A6]
  refine wpAnyH_take (i := 6) rfl (by kernel_rfl) (by kernel_rfl) (by kernel_rfl) (fun _ _ _ h => h) (yB_range rfl (.tmp 10) rfl (B) 2 rfl (fun w' h => fr_range2 h.b0)) hS ?_
  try simp only [A1, A2, A3, Act.put, A4, A5, A6]
  refine wpAnyH_take (i := 7) (v := .pointer (some ⟨B + 1, 2, none⟩)) rfl (by kernel_rfl) (by kernel_rfl) (by kernel_rfl) (fun _ _ _ h => h) (Or.inl ⟨by rfl, fun w' h => by go_simp⟩) hS ?_
  try simp only [A1, A2, A3, Act.put, A4, A5, A6]
  refine wpAnyH_take (i := 8) rfl (by kernel_rfl) (by kernel_rfl) (by kernel_rfl) (fun _ _ _ h => h) (yB_range rfl (.tmp 12) rfl (B + 1) 2 rfl (fun w' h => fr_range2 h.b1)) hS ?_
  try simp only [A1, A2, A3, Act.put, A4, A5, A6]
  refine wpAnyH_ready (rs := [4]) (by kernel_rfl) (by simp) (AllReadyH.cons rfl (fun K hK => ?_) AllReadyH.nil)
  rw [if_pos (by rfl)]
  refine wp_callE 85 _ _ rfl _ (by kernel_rfl) (by kernel_rfl) (R := BigR wd r1 (a * c)) (HT1.out _ hS) (fun v1 w1 hR1 => ?_)
  obtain ⟨e1, k1, rfl, hm1, hb1⟩ := hR1
  have hT := hS.below hb1
  clear hS
  refine hK.out _ _ hT (fun hS => ?_)
  clear hK K hT
  try simp only [A1, A2, A3, Act.put, A4, A5, A6]
  refine wpAnyH_ready (rs := [9]) (by kernel_rfl) (by simp) (AllReadyH.cons rfl (fun K hK => ?_) AllReadyH.nil)
  rw [if_pos (by rfl)]
  refine wp_callE 85 _ _ rfl _ (by kernel_rfl) (by kernel_rfl) (R := BigR w1 r2 (b * d)) (HT2.out _ hS) (fun v2 w2 hR2 => ?_)
  obtain ⟨e2, k2, rfl, hm2, hb2⟩ := hR2
  have hm1 := Mag.below hm1 hb2
  have hT := hS.below hb2
  clear hS
  refine hK.out _ _ hT (fun hS => ?_)
  clear hK K hT
  try simp only [A1, A2, A3, Act.put, A4, A5, A6]
  refine wpAnyH_ready (rs := [10]) (by kernel_rfl) (by simp) (AllReadyH.cons rfl (fun K hK => ?_) AllReadyH.nil)
  rw [if_pos (by rfl)]
  refine wp_callE 109 _ _ rfl _ (by kernel_rfl) (by kernel_rfl) (R := FrR w2 r (a * c / g) false (b * d / g)) (HL.out _ _ _ hm1 hm2) (fun v3 w3 hR3 => ?_)
  obtain ⟨p9, k9, p8, k8, rfl, hm9, hm8, hb9⟩ := hR3
  have hT := hS.below hb9
  clear hS
  refine hK.out _ _ hT (fun hS => ?_)
  clear hK K hT
  try simp only [A1, A2, A3, Act.put, A4, A5, A6]
  obtain ⟨_, _, _, _, hb5⟩ := hS.b2
  have hres1 := Mag.rowF (cs' := #[.bool r, .slice p9 (ql (a * c / g)) k9, .bool false, .slice p8 (ql (b * d / g)) k8]) hm9 hb5
  have hres2 := Mag.rowF (cs' := #[.bool r, .slice p9 (ql (a * c / g)) k9, .bool false, .slice p8 (ql (b * d / g)) k8]) hm8 hb5
  have hret := hS.ret (.bool r) (.slice p9 (ql (a * c / g)) k9) (.bool false) (.slice p8 (ql (b * d / g)) k8)
  refine wpAnyH_ready (rs := [11]) (by kernel_rfl) (by simp) (AllReadyH.cons rfl (fun K hK => ?_) AllReadyH.nil)
  rw [if_pos (by rfl)]
  refine wpFr_store1 (.tmp 4) (.tmp 15) rfl (B + 2) rfl rfl hb5 ?_
  have hT := hret.1
  clear hS
  refine hK.out _ _ hT (fun hS => ?_)
  clear hK K
  refine wpAnyH_done (by kernel_rfl) ?_ _
  go_wp2
  exact bodyPost_ret (retFr rfl _ _ (B + 2) rfl hret.2) rfl ⟨_, rfl, _, _, _, _, rfl, hres1, hres2, hB ▸ hret.1.bl⟩

set_option maxHeartbeats 4000000 in
theorem rQuotient_any (s t : Bool) (a b c d : Nat) (va vb vc vd : Value) (w : World) (ha : Mag w va a) (hb : Mag w vb b) (hc : Mag w vc c) (hd : Mag w vd d) (la : ql a < 1000) (lb : ql b < 1000) (lc : ql c < 1000) (ld : ql d < 1000) (h0 : 0 < b * c) (r1 : Bool) (hr1 : ((s != false) && !decide (a * d = 0)) = r1) (r2 : Bool) (hr2 : ((false != t) && !decide (b * c = 0)) = r2) (g : Nat) (hg : Nat.gcd (a * d) (b * c) = g) (s2 : Bool) (hs2 : (if r2 = true then ((!r1) && !decide (a * d = 0)) else r1) = s2) (r : Bool) (hr : ((s2 != false) && !decide (a * d / g = 0)) = r) :
    Calls Tryz.prog 100 #[.agg (frA s va false vb), .agg (frA t vc false vd)] w fun e w' => ∃ v', e = .returned v' ∧ FrR w r (a * d / g) false (b * c / g) v' w' := by
  obtain ⟨p1, c1, rfl⟩ := ha.len
  obtain ⟨q1, d1, rfl⟩ := hb.len
  obtain ⟨p2, c2, rfl⟩ := hc.len
  obtain ⟨q2, d2, rfl⟩ := hd.len
  obtain ⟨B, hB⟩ : ∃ B, w.heap.size = B := ⟨_, rfl⟩
  obtain ⟨W, hW⟩ : ∃ W, (((w.alloc (.cells #[.bool s, .slice p1 (ql a) c1, .bool false, .slice q1 (ql b) d1] 107)).alloc (.cells #[.bool t, .slice p2 (ql c) c2, .bool false, .slice q2 (ql d) d2] 107))).alloc (.cells #[.bool false, .slice none 0 0, .bool false, .slice none 0 0] 107) = W := ⟨_, rfl⟩
  have HS := Lib.hid (Ft.start hB hW)
  have hn : ql (a * d) < 2000 := by have := ql_mul a d; omega
  have hm : ql (b * c) < 2000 := by have := ql_mul b c; omega
  have HT1 := Lib.hid (fun W (h : Ft w B #[.bool s, .slice p1 (ql a) c1, .bool false, .slice q1 (ql b) d1] #[.bool t, .slice p2 (ql c) c2, .bool false, .slice q2 (ql d) d2] W) => rTimes_any s false a d _ _ W (h.mag hB ha) (h.mag hB hd) (by omega) (by omega) (a * d) rfl r1 hr1)
  have HT2 := Lib.hid (fun W (h : Ft w B #[.bool s, .slice p1 (ql a) c1, .bool false, .slice q1 (ql b) d1] #[.bool t, .slice p2 (ql c) c2, .bool false, .slice q2 (ql d) d2] W) => rTimes_any false t b c _ _ W (h.mag hB hb) (h.mag hB hc) (by omega) (by omega) (b * c) rfl r2 hr2)
  have HL := Lib.hid (fun (v u : Value) W (h1 : Mag W v (a * d)) (h2 : Mag W u (b * c)) => rLowest_any r1 r2 (a * d) (b * c) v u W h1 h2 (by omega) (by omega) h0 g hg s2 hs2 r hr)
  clear ha hb hc hd la lb lc ld h0 hr1 hr2 hg hs2 hr hn hm
  go_enter Tryz.func100, Tryz.ntmps100
  go_wp2
  have hT0 : Ft w B #[.bool s, .slice p1 (ql a) c1, .bool false, .slice q1 (ql b) d1] #[.bool t, .slice p2 (ql c) c2, .bool false, .slice q2 (ql d) d2] W.drew := HS.out.drew
  refine wp_region_held_drew (S := Ft w B #[.bool s, .slice p1 (ql a) c1, .bool false, .slice q1 (ql b) d1] #[.bool t, .slice p2 (ql c) c2, .bool false, .slice q2 (ql d) d2]) (by kernel_rfl) hT0 (fun hS => ?_)
  obtain ⟨wd, hwd⟩ : ∃ wd, W.drew = wd := ⟨_, rfl⟩
  rw [hwd] at hS hT0 ⊢
  clear hwd hT0 hW
  refine wpAnyH_take (i := 0) (v := .pointer (some ⟨B, 0, none⟩)) rfl (by kernel_rfl) (by kernel_rfl) (by kernel_rfl) (fun _ _ _ h => h) (Or.inl ⟨by rfl, fun w' h => by go_simp⟩) hS ?_
  try simp only [A1, A2, A3, Act.put, A4, A5, A6]
  refine wpAnyH_take (i := 1) rfl (by kernel_rfl) (by kernel_rfl) (by kernel_rfl) (fun _ _ _ h => h) (yB_range rfl (.tmp 5) rfl (B) 0 rfl (fun w' h => fr_range0 h.b0)) hS ?_
  try simp only [A1, A2, A3, Act.put, A4, A5, A6]
  refine wpAnyH_take (i := 2) (v := .pointer (some ⟨B + 1, 2, none⟩)) rfl (by kernel_rfl) (by kernel_rfl) (by kernel_rfl) (fun _ _ _ h => h) (Or.inl ⟨by rfl, fun w' h => by go_simp⟩) hS ?_
  try simp only [A1, A2, A3, Act.put, A4, A5, A6]
  refine wpAnyH_take (i := 3) rfl (by kernel_rfl) (by kernel_rfl) (by kernel_rfl) (fun _ _ _ h => h) (yB_range rfl (.tmp 7) rfl (B + 1) 2 rfl (fun w' h => fr_range2 h.b1)) hS ?_
  try simp only [A1, A2, A3, Act.put, A4, A5, A6]
  refine wpAnyH_take (i := 5) (v := .pointer (some ⟨B, 2, none⟩)) rfl (by kernel_rfl) (by kernel_rfl) (by kernel_rfl) (fun _ _ _ h => h) (Or.inl ⟨by rfl, fun w' h => by go_simp⟩) hS ?_
  try simp only [A1, A2, A3, Act.put, A4, A5, A6]
  refine wpAnyH_take (i := 6) rfl (by kernel_rfl) (by kernel_rfl) (by kernel_rfl) (fun _ _ _ h => h) (yB_range rfl (.tmp 10) rfl (B) 2 rfl (fun w' h => fr_range2 h.b0)) hS ?_
  try simp only [A1, A2, A3, Act.put, A4, A5, A6]
  refine wpAnyH_take (i := 7) (v := .pointer (some ⟨B + 1, 0, none⟩)) rfl (by kernel_rfl) (by kernel_rfl) (by kernel_rfl) (fun _ _ _ h => h) (Or.inl ⟨by rfl, fun w' h => by go_simp⟩) hS ?_
  try simp only [A1, A2, A3, Act.put, A4, A5, A6]
  refine wpAnyH_take (i := 8) rfl (by kernel_rfl) (by kernel_rfl) (by kernel_rfl) (fun _ _ _ h => h) (yB_range rfl (.tmp 12) rfl (B + 1) 0 rfl (fun w' h => fr_range0 h.b1)) hS ?_
  try simp only [A1, A2, A3, Act.put, A4, A5, A6]
  refine wpAnyH_ready (rs := [4]) (by kernel_rfl) (by simp) (AllReadyH.cons rfl (fun K hK => ?_) AllReadyH.nil)
  rw [if_pos (by rfl)]
  refine wp_callE 85 _ _ rfl _ (by kernel_rfl) (by kernel_rfl) (R := BigR wd r1 (a * d)) (HT1.out _ hS) (fun v1 w1 hR1 => ?_)
  obtain ⟨e1, k1, rfl, hm1, hb1⟩ := hR1
  have hT := hS.below hb1
  clear hS
  refine hK.out _ _ hT (fun hS => ?_)
  clear hK K hT
  try simp only [A1, A2, A3, Act.put, A4, A5, A6]
  refine wpAnyH_ready (rs := [9]) (by kernel_rfl) (by simp) (AllReadyH.cons rfl (fun K hK => ?_) AllReadyH.nil)
  rw [if_pos (by rfl)]
  refine wp_callE 85 _ _ rfl _ (by kernel_rfl) (by kernel_rfl) (R := BigR w1 r2 (b * c)) (HT2.out _ hS) (fun v2 w2 hR2 => ?_)
  obtain ⟨e2, k2, rfl, hm2, hb2⟩ := hR2
  have hm1 := Mag.below hm1 hb2
  have hT := hS.below hb2
  clear hS
  refine hK.out _ _ hT (fun hS => ?_)
  clear hK K hT
  try simp only [A1, A2, A3, Act.put, A4, A5, A6]
  refine wpAnyH_ready (rs := [10]) (by kernel_rfl) (by simp) (AllReadyH.cons rfl (fun K hK => ?_) AllReadyH.nil)
  rw [if_pos (by rfl)]
  refine wp_callE 109 _ _ rfl _ (by kernel_rfl) (by kernel_rfl) (R := FrR w2 r (a * d / g) false (b * c / g)) (HL.out _ _ _ hm1 hm2) (fun v3 w3 hR3 => ?_)
  obtain ⟨p9, k9, p8, k8, rfl, hm9, hm8, hb9⟩ := hR3
  have hT := hS.below hb9
  clear hS
  refine hK.out _ _ hT (fun hS => ?_)
  clear hK K hT
  try simp only [A1, A2, A3, Act.put, A4, A5, A6]
  obtain ⟨_, _, _, _, hb5⟩ := hS.b2
  have hres1 := Mag.rowF (cs' := #[.bool r, .slice p9 (ql (a * d / g)) k9, .bool false, .slice p8 (ql (b * c / g)) k8]) hm9 hb5
  have hres2 := Mag.rowF (cs' := #[.bool r, .slice p9 (ql (a * d / g)) k9, .bool false, .slice p8 (ql (b * c / g)) k8]) hm8 hb5
  have hret := hS.ret (.bool r) (.slice p9 (ql (a * d / g)) k9) (.bool false) (.slice p8 (ql (b * c / g)) k8)
  refine wpAnyH_ready (rs := [11]) (by kernel_rfl) (by simp) (AllReadyH.cons rfl (fun K hK => ?_) AllReadyH.nil)
  rw [if_pos (by rfl)]
  refine wpFr_store1 (.tmp 4) (.tmp 15) rfl (B + 2) rfl rfl hb5 ?_
  have hT := hret.1
  clear hS
  refine hK.out _ _ hT (fun hS => ?_)
  clear hK K
  refine wpAnyH_done (by kernel_rfl) ?_ _
  go_wp2
  exact bodyPost_ret (retFr rfl _ _ (B + 2) rfl hret.2) rfl ⟨_, rfl, _, _, _, _, rfl, hres1, hres2, hB ▸ hret.1.bl⟩
end Go.Proofs.YtojgafkkgacpkaaGreatDoor

namespace Go.Proofs.YtojgafkkgacpkaaGreatDoor
open Go.RowKit
set_option maxRecDepth 100000

theorem rOrderV (s t : Bool) (a b : Nat) (va vb : Value) (w : World) (ha : Mag w va a) (hb : Mag w vb b) (la : ql a < 40000) (lb : ql b < 40000) (t2 : Bool) (ht2 : ((!t) && !decide (b = 0)) = t2) (r' : Bool) (n : Nat) (hs : sumB s t2 a b = (r', n)) (r : Bool) (hr : (r' && !decide (n = 0)) = r) (o : Int) (ho : ordB r n = o) :
    Calls Tryz.prog 74 #[.agg #[.bool s, va], .agg #[.bool t, vb]] w fun e w' => ∃ v, e = .returned v ∧ (v = .int .i64 o ∧ Below w.heap.size w w') :=
  (rOrder_any s t a b va vb w ha hb la lb t2 ht2 r' n hs r hr o ho).mono fun _ _ h => ⟨_, h.1, rfl, h.2⟩

set_option maxHeartbeats 4000000 in
theorem rSum_any (s t : Bool) (a b c d : Nat) (va vb vc vd : Value) (w : World) (ha : Mag w va a) (hb : Mag w vb b) (hc : Mag w vc c) (hd : Mag w vd d) (la : ql a < 1000) (lb : ql b < 1000) (lc : ql c < 1000) (ld : ql d < 1000) (h0 : 0 < b * d) (r1 : Bool) (hr1 : ((s != false) && !decide (a * d = 0)) = r1) (r2 : Bool) (hr2 : ((t != false) && !decide (c * b = 0)) = r2) (r3 : Bool) (n : Nat) (hsum : sumB r1 r2 (a * d) (c * b) = (r3, n)) (r4 : Bool) (hr4 : (r3 && !decide (n = 0)) = r4) (g : Nat) (hg : Nat.gcd n (b * d) = g) (r : Bool) (hr : ((r4 != false) && !decide (n / g = 0)) = r) :
    Calls Tryz.prog 97 #[.agg (frA s va false vb), .agg (frA t vc false vd)] w fun e w' => ∃ v', e = .returned v' ∧ FrR w r (n / g) false (b * d / g) v' w' := by
  obtain ⟨p1, c1, rfl⟩ := ha.len
  obtain ⟨q1, d1, rfl⟩ := hb.len
  obtain ⟨p2, c2, rfl⟩ := hc.len
  obtain ⟨q2, d2, rfl⟩ := hd.len
  obtain ⟨B, hB⟩ : ∃ B, w.heap.size = B := ⟨_, rfl⟩
  obtain ⟨W, hW⟩ : ∃ W, (((w.alloc (.cells #[.bool s, .slice p1 (ql a) c1, .bool false, .slice q1 (ql b) d1] 107)).alloc (.cells #[.bool t, .slice p2 (ql c) c2, .bool false, .slice q2 (ql d) d2] 107))).alloc (.cells #[.bool false, .slice none 0 0, .bool false, .slice none 0 0] 107) = W := ⟨_, rfl⟩
  have HS := Lib.hid (Ft.start hB hW)
  have hn1 : ql (a * d) < 2000 := by have := ql_mul a d; omega
  have hn2 : ql (c * b) < 2000 := by have := ql_mul c b; omega
  have hm : ql (b * d) < 2000 := by have := ql_mul b d; omega
  have hnn : ql n < 4000 := by
    have h1 : n ≤ a * d + c * b := by
      unfold sumB at hsum
      split at hsum
      · rw [Prod.mk.injEq] at hsum; omega
      · split at hsum <;> (rw [Prod.mk.injEq] at hsum; omega)
    have h2 := ql_mono h1
    have h3 := ql_add (a * d) (c * b)
    have h4 : max (ql (a * d)) (ql (c * b)) < 2000 := by rcases Nat.le_total (ql (a * d)) (ql (c * b)) with h | h; (rw [Nat.max_eq_right h]; exact hn2); (rw [Nat.max_eq_left h]; exact hn1)
    omega
  have HT1 := Lib.hid (fun W (h : Ft w B #[.bool s, .slice p1 (ql a) c1, .bool false, .slice q1 (ql b) d1] #[.bool t, .slice p2 (ql c) c2, .bool false, .slice q2 (ql d) d2] W) => rTimes_any s false a d _ _ W (h.mag hB ha) (h.mag hB hd) (by omega) (by omega) (a * d) rfl r1 hr1)
  have HT2 := Lib.hid (fun W (h : Ft w B #[.bool s, .slice p1 (ql a) c1, .bool false, .slice q1 (ql b) d1] #[.bool t, .slice p2 (ql c) c2, .bool false, .slice q2 (ql d) d2] W) => rTimes_any t false c b _ _ W (h.mag hB hc) (h.mag hB hb) (by omega) (by omega) (c * b) rfl r2 hr2)
  have HT3 := Lib.hid (fun W (h : Ft w B #[.bool s, .slice p1 (ql a) c1, .bool false, .slice q1 (ql b) d1] #[.bool t, .slice p2 (ql c) c2, .bool false, .slice q2 (ql d) d2] W) => rTimes_any false false b d _ _ W (h.mag hB hb) (h.mag hB hd) (by omega) (by omega) (b * d) rfl false rfl)
  have HP := Lib.hid (fun (v u : Value) W (h1 : Mag W v (a * d)) (h2 : Mag W u (c * b)) => rPlusB_any r1 r2 (a * d) (c * b) v u W h1 h2 (by omega) (by omega) r3 n hsum r4 hr4)
  have HL := Lib.hid (fun (v u : Value) W (h1 : Mag W v n) (h2 : Mag W u (b * d)) => rLowest_any r4 false n (b * d) v u W h1 h2 (by omega) (by omega) h0 g hg r4 rfl r hr)
  clear ha hb hc hd la lb lc ld h0 hr1 hr2 hr4 hg hsum hr hn1 hn2 hm hnn
  go_enter Tryz.func97, Tryz.ntmps97
  go_wp2
  have hT0 : Ft w B #[.bool s, .slice p1 (ql a) c1, .bool false, .slice q1 (ql b) d1] #[.bool t, .slice p2 (ql c) c2, .bool false, .slice q2 (ql d) d2] W.drew := HS.out.drew
  refine wp_region_held_drew (S := Ft w B #[.bool s, .slice p1 (ql a) c1, .bool false, .slice q1 (ql b) d1] #[.bool t, .slice p2 (ql c) c2, .bool false, .slice q2 (ql d) d2]) (by kernel_rfl) hT0 (fun hS => ?_)
  obtain ⟨wd, hwd⟩ : ∃ wd, W.drew = wd := ⟨_, rfl⟩
  rw [hwd] at hS hT0 ⊢
  clear hwd hT0 hW
  refine wpAnyH_take (i := 0) (v := .pointer (some ⟨B, 0, none⟩)) rfl (by kernel_rfl) (by kernel_rfl) (by kernel_rfl) (fun _ _ _ h => h) (Or.inl ⟨by rfl, fun w' h => by go_simp⟩) hS ?_
  try simp only [A1, A2, A3, Act.put, A4, A5, A6]
  refine wpAnyH_take (i := 1) rfl (by kernel_rfl) (by kernel_rfl) (by kernel_rfl) (fun _ _ _ h => h) (yB_range rfl (.tmp 5) rfl (B) 0 rfl (fun w' h => fr_range0 h.b0)) hS ?_
  try simp only [A1, A2, A3, Act.put, A4, A5, A6]
  refine wpAnyH_take (i := 2) (v := .pointer (some ⟨B + 1, 2, none⟩)) rfl (by kernel_rfl) (by kernel_rfl) (by kernel_rfl) (fun _ _ _ h => h) (Or.inl ⟨by rfl, fun w' h => by go_simp⟩) hS ?_
  try simp only [A1, A2, A3, Act.put, A4, A5, A6]
  refine wpAnyH_take (i := 3) rfl (by kernel_rfl) (by kernel_rfl) (by kernel_rfl) (fun _ _ _ h => h) (yB_range rfl (.tmp 7) rfl (B + 1) 2 rfl (fun w' h => fr_range2 h.b1)) hS ?_
  try simp only [A1, A2, A3, Act.put, A4, A5, A6]
  refine wpAnyH_take (i := 5) (v := .pointer (some ⟨B + 1, 0, none⟩)) rfl (by kernel_rfl) (by kernel_rfl) (by kernel_rfl) (fun _ _ _ h => h) (Or.inl ⟨by rfl, fun w' h => by go_simp⟩) hS ?_
  try simp only [A1, A2, A3, Act.put, A4, A5, A6]
  refine wpAnyH_take (i := 6) rfl (by kernel_rfl) (by kernel_rfl) (by kernel_rfl) (fun _ _ _ h => h) (yB_range rfl (.tmp 10) rfl (B + 1) 0 rfl (fun w' h => fr_range0 h.b1)) hS ?_
  try simp only [A1, A2, A3, Act.put, A4, A5, A6]
  refine wpAnyH_take (i := 7) (v := .pointer (some ⟨B, 2, none⟩)) rfl (by kernel_rfl) (by kernel_rfl) (by kernel_rfl) (fun _ _ _ h => h) (Or.inl ⟨by rfl, fun w' h => by go_simp⟩) hS ?_
  try simp only [A1, A2, A3, Act.put, A4, A5, A6]
  refine wpAnyH_take (i := 8) rfl (by kernel_rfl) (by kernel_rfl) (by kernel_rfl) (fun _ _ _ h => h) (yB_range rfl (.tmp 12) rfl (B) 2 rfl (fun w' h => fr_range2 h.b0)) hS ?_
  try simp only [A1, A2, A3, Act.put, A4, A5, A6]
  refine wpAnyH_take (i := 11) (v := .pointer (some ⟨B, 2, none⟩)) rfl (by kernel_rfl) (by kernel_rfl) (by kernel_rfl) (fun _ _ _ h => h) (Or.inl ⟨by rfl, fun w' h => by go_simp⟩) hS ?_
  try simp only [A1, A2, A3, Act.put, A4, A5, A6]
  refine wpAnyH_take (i := 12) rfl (by kernel_rfl) (by kernel_rfl) (by kernel_rfl) (fun _ _ _ h => h) (yB_range rfl (.tmp 16) rfl (B) 2 rfl (fun w' h => fr_range2 h.b0)) hS ?_
  try simp only [A1, A2, A3, Act.put, A4, A5, A6]
  refine wpAnyH_take (i := 13) (v := .pointer (some ⟨B + 1, 2, none⟩)) rfl (by kernel_rfl) (by kernel_rfl) (by kernel_rfl) (fun _ _ _ h => h) (Or.inl ⟨by rfl, fun w' h => by go_simp⟩) hS ?_
  try simp only [A1, A2, A3, Act.put, A4, A5, A6]
  refine wpAnyH_take (i := 14) rfl (by kernel_rfl) (by kernel_rfl) (by kernel_rfl) (fun _ _ _ h => h) (yB_range rfl (.tmp 18) rfl (B + 1) 2 rfl (fun w' h => fr_range2 h.b1)) hS ?_
  try simp only [A1, A2, A3, Act.put, A4, A5, A6]
  refine wpAnyH_ready (rs := [4]) (by kernel_rfl) (by simp) (AllReadyH.cons rfl (fun K hK => ?_) AllReadyH.nil)
  rw [if_pos (by rfl)]
  refine wp_callE 85 _ _ rfl _ (by kernel_rfl) (by kernel_rfl) (R := BigR wd r1 (a * d)) (HT1.out _ hS) (fun v1 w1 hR1 => ?_)
  obtain ⟨e1, k1, rfl, hm1, hb1⟩ := hR1
  have hT := hS.below hb1
  clear hS
  refine hK.out _ _ hT (fun hS => ?_)
  clear hK K hT
  try simp only [A1, A2, A3, Act.put, A4, A5, A6]
  refine wpAnyH_ready (rs := [9]) (by kernel_rfl) (by simp) (AllReadyH.cons rfl (fun K hK => ?_) AllReadyH.nil)
  rw [if_pos (by rfl)]
  refine wp_callE 85 _ _ rfl _ (by kernel_rfl) (by kernel_rfl) (R := BigR w1 r2 (c * b)) (HT2.out _ hS) (fun v2 w2 hR2 => ?_)
  obtain ⟨e2, k2, rfl, hm2, hb2⟩ := hR2
  have hm1 := Mag.below hm1 hb2
  have hT := hS.below hb2
  clear hS
  refine hK.out _ _ hT (fun hS => ?_)
  clear hK K hT
  try simp only [A1, A2, A3, Act.put, A4, A5, A6]
  refine wpAnyH_ready (rs := [10]) (by kernel_rfl) (by simp) (AllReadyH.cons rfl (fun K hK => ?_) AllReadyH.nil)
  rw [if_pos (by rfl)]
  refine wp_callE 82 _ _ rfl _ (by kernel_rfl) (by kernel_rfl) (R := BigR w2 r4 n) (HP.out _ _ _ hm1 hm2) (fun v3 w3 hR3 => ?_)
  obtain ⟨e3, k3, rfl, hm3, hb3⟩ := hR3
  have hT := hS.below hb3
  clear hS
  refine hK.out _ _ hT (fun hS => ?_)
  clear hK K hT
  try simp only [A1, A2, A3, Act.put, A4, A5, A6]
  refine wpAnyH_ready (rs := [15]) (by kernel_rfl) (by simp) (AllReadyH.cons rfl (fun K hK => ?_) AllReadyH.nil)
  rw [if_pos (by rfl)]
  refine wp_callE 85 _ _ rfl _ (by kernel_rfl) (by kernel_rfl) (R := BigR w3 false (b * d)) (HT3.out _ hS) (fun v4 w4 hR4 => ?_)
  obtain ⟨e4, k4, rfl, hm4, hb4⟩ := hR4
  have hm3 := Mag.below hm3 hb4
  have hT := hS.below hb4
  clear hS
  refine hK.out _ _ hT (fun hS => ?_)
  clear hK K hT
  try simp only [A1, A2, A3, Act.put, A4, A5, A6]
  refine wpAnyH_ready (rs := [16]) (by kernel_rfl) (by simp) (AllReadyH.cons rfl (fun K hK => ?_) AllReadyH.nil)
  rw [if_pos (by rfl)]
  refine wp_callE 109 _ _ rfl _ (by kernel_rfl) (by kernel_rfl) (R := FrR w4 r (n / g) false (b * d / g)) (HL.out _ _ _ hm3 hm4) (fun v5 w5 hR5 => ?_)
  obtain ⟨p9, k9, p8, k8, rfl, hm9, hm8, hb9⟩ := hR5
  have hT := hS.below hb9
  clear hS
  refine hK.out _ _ hT (fun hS => ?_)
  clear hK K hT
  try simp only [A1, A2, A3, Act.put, A4, A5, A6]
  obtain ⟨_, _, _, _, hb5⟩ := hS.b2
  have hres1 := Mag.rowF (cs' := #[.bool r, .slice p9 (ql (n / g)) k9, .bool false, .slice p8 (ql (b * d / g)) k8]) hm9 hb5
  have hres2 := Mag.rowF (cs' := #[.bool r, .slice p9 (ql (n / g)) k9, .bool false, .slice p8 (ql (b * d / g)) k8]) hm8 hb5
  have hret := hS.ret (.bool r) (.slice p9 (ql (n / g)) k9) (.bool false) (.slice p8 (ql (b * d / g)) k8)
  refine wpAnyH_ready (rs := [17]) (by kernel_rfl) (by simp) (AllReadyH.cons rfl (fun K hK => ?_) AllReadyH.nil)
  rw [if_pos (by rfl)]
  refine wpFr_store1 (.tmp 4) (.tmp 21) rfl (B + 2) rfl rfl hb5 ?_
  have hT := hret.1
  clear hS
  refine hK.out _ _ hT (fun hS => ?_)
  clear hK K
  refine wpAnyH_done (by kernel_rfl) ?_ _
  go_wp2
  exact bodyPost_ret (retFr rfl _ _ (B + 2) rfl hret.2) rfl ⟨_, rfl, _, _, _, _, rfl, hres1, hres2, hB ▸ hret.1.bl⟩

set_option maxHeartbeats 4000000 in
theorem rBefore_any (s t : Bool) (a b c d : Nat) (va vb vc vd : Value) (w : World) (ha : Mag w va a) (hb : Mag w vb b) (hc : Mag w vc c) (hd : Mag w vd d) (la : ql a < 1000) (lb : ql b < 1000) (lc : ql c < 1000) (ld : ql d < 1000) (r1 : Bool) (hr1 : ((s != false) && !decide (a * d = 0)) = r1) (r2 : Bool) (hr2 : ((t != false) && !decide (c * b = 0)) = r2) (t2 : Bool) (ht2 : ((!r2) && !decide (c * b = 0)) = t2) (r' : Bool) (n : Nat) (hsum : sumB r1 t2 (a * d) (c * b) = (r', n)) (r : Bool) (hr : (r' && !decide (n = 0)) = r) (o : Int) (ho : ordB r n = o) :
    Calls Tryz.prog 102 #[.agg (frA s va false vb), .agg (frA t vc false vd)] w fun e w' => e = .returned (.int .i64 o) ∧ Below w.heap.size w w' := by
  obtain ⟨p1, c1, rfl⟩ := ha.len
  obtain ⟨q1, d1, rfl⟩ := hb.len
  obtain ⟨p2, c2, rfl⟩ := hc.len
  obtain ⟨q2, d2, rfl⟩ := hd.len
  obtain ⟨B, hB⟩ : ∃ B, w.heap.size = B := ⟨_, rfl⟩
  obtain ⟨W, hW⟩ : ∃ W, ((w.alloc (.cells #[.bool s, .slice p1 (ql a) c1, .bool false, .slice q1 (ql b) d1] 107)).alloc (.cells #[.bool t, .slice p2 (ql c) c2, .bool false, .slice q2 (ql d) d2] 107)) = W := ⟨_, rfl⟩
  have HS := Lib.hid (Fq.start hB hW)
  have hn1 : ql (a * d) < 2000 := by have := ql_mul a d; omega
  have hn2 : ql (c * b) < 2000 := by have := ql_mul c b; omega
  have HT1 := Lib.hid (fun W (h : Fq w B #[.bool s, .slice p1 (ql a) c1, .bool false, .slice q1 (ql b) d1] #[.bool t, .slice p2 (ql c) c2, .bool false, .slice q2 (ql d) d2] W) => rTimes_any s false a d _ _ W (h.mag hB ha) (h.mag hB hd) (by omega) (by omega) (a * d) rfl r1 hr1)
  have HT2 := Lib.hid (fun W (h : Fq w B #[.bool s, .slice p1 (ql a) c1, .bool false, .slice q1 (ql b) d1] #[.bool t, .slice p2 (ql c) c2, .bool false, .slice q2 (ql d) d2] W) => rTimes_any t false c b _ _ W (h.mag hB hc) (h.mag hB hb) (by omega) (by omega) (c * b) rfl r2 hr2)
  have HO := Lib.hid (fun (v u : Value) W (h1 : Mag W v (a * d)) (h2 : Mag W u (c * b)) => rOrderV r1 r2 (a * d) (c * b) v u W h1 h2 (by omega) (by omega) t2 ht2 r' n hsum r hr o ho)
  clear ha hb hc hd la lb lc ld hr1 hr2 ht2 hsum hr ho hn1 hn2
  go_enter Tryz.func102, Tryz.ntmps102
  go_wp2
  have hT0 : Fq w B #[.bool s, .slice p1 (ql a) c1, .bool false, .slice q1 (ql b) d1] #[.bool t, .slice p2 (ql c) c2, .bool false, .slice q2 (ql d) d2] W.drew := HS.out.drew
  refine wp_region_held_drew (S := Fq w B #[.bool s, .slice p1 (ql a) c1, .bool false, .slice q1 (ql b) d1] #[.bool t, .slice p2 (ql c) c2, .bool false, .slice q2 (ql d) d2]) (by kernel_rfl) hT0 (fun hS => ?_)
  obtain ⟨wd, hwd⟩ : ∃ wd, W.drew = wd := ⟨_, rfl⟩
  rw [hwd] at hS hT0 ⊢
  clear hwd hT0 hW
  refine wpAnyH_take (i := 0) (v := .pointer (some ⟨B, 0, none⟩)) rfl (by kernel_rfl) (by kernel_rfl) (by kernel_rfl) (fun _ _ _ h => h) (Or.inl ⟨by rfl, fun w' h => by go_simp⟩) hS ?_
  try simp only [A1, A2, A3, Act.put, A4, A5, A6]
  refine wpAnyH_take (i := 1) rfl (by kernel_rfl) (by kernel_rfl) (by kernel_rfl) (fun _ _ _ h => h) (yB_range rfl (.tmp 5) rfl (B) 0 rfl (fun w' h => fr_range0 h.b0)) hS ?_
  try simp only [A1, A2, A3, Act.put, A4, A5, A6]
  refine wpAnyH_take (i := 2) (v := .pointer (some ⟨B + 1, 2, none⟩)) rfl (by kernel_rfl) (by kernel_rfl) (by kernel_rfl) (fun _ _ _ h => h) (Or.inl ⟨by rfl, fun w' h => by go_simp⟩) hS ?_
  try simp only [A1, A2, A3, Act.put, A4, A5, A6]
  refine wpAnyH_take (i := 3) rfl (by kernel_rfl) (by kernel_rfl) (by kernel_rfl) (fun _ _ _ h => h) (yB_range rfl (.tmp 7) rfl (B + 1) 2 rfl (fun w' h => fr_range2 h.b1)) hS ?_
  try simp only [A1, A2, A3, Act.put, A4, A5, A6]
  refine wpAnyH_take (i := 5) (v := .pointer (some ⟨B + 1, 0, none⟩)) rfl (by kernel_rfl) (by kernel_rfl) (by kernel_rfl) (fun _ _ _ h => h) (Or.inl ⟨by rfl, fun w' h => by go_simp⟩) hS ?_
  try simp only [A1, A2, A3, Act.put, A4, A5, A6]
  refine wpAnyH_take (i := 6) rfl (by kernel_rfl) (by kernel_rfl) (by kernel_rfl) (fun _ _ _ h => h) (yB_range rfl (.tmp 10) rfl (B + 1) 0 rfl (fun w' h => fr_range0 h.b1)) hS ?_
  try simp only [A1, A2, A3, Act.put, A4, A5, A6]
  refine wpAnyH_take (i := 7) (v := .pointer (some ⟨B, 2, none⟩)) rfl (by kernel_rfl) (by kernel_rfl) (by kernel_rfl) (fun _ _ _ h => h) (Or.inl ⟨by rfl, fun w' h => by go_simp⟩) hS ?_
  try simp only [A1, A2, A3, Act.put, A4, A5, A6]
  refine wpAnyH_take (i := 8) rfl (by kernel_rfl) (by kernel_rfl) (by kernel_rfl) (fun _ _ _ h => h) (yB_range rfl (.tmp 12) rfl (B) 2 rfl (fun w' h => fr_range2 h.b0)) hS ?_
  try simp only [A1, A2, A3, Act.put, A4, A5, A6]
  refine wpAnyH_ready (rs := [4]) (by kernel_rfl) (by simp) (AllReadyH.cons rfl (fun K hK => ?_) AllReadyH.nil)
  rw [if_pos (by rfl)]
  refine wp_callE 85 _ _ rfl _ (by kernel_rfl) (by kernel_rfl) (R := BigR wd r1 (a * d)) (HT1.out _ hS) (fun v1 w1 hR1 => ?_)
  obtain ⟨e1, k1, rfl, hm1, hb1⟩ := hR1
  have hT := hS.below hb1
  clear hS
  refine hK.out _ _ hT (fun hS => ?_)
  clear hK K hT
  try simp only [A1, A2, A3, Act.put, A4, A5, A6]
  refine wpAnyH_ready (rs := [9]) (by kernel_rfl) (by simp) (AllReadyH.cons rfl (fun K hK => ?_) AllReadyH.nil)
  rw [if_pos (by rfl)]
  refine wp_callE 85 _ _ rfl _ (by kernel_rfl) (by kernel_rfl) (R := BigR w1 r2 (c * b)) (HT2.out _ hS) (fun v2 w2 hR2 => ?_)
  obtain ⟨e2, k2, rfl, hm2, hb2⟩ := hR2
  have hm1 := Mag.below hm1 hb2
  have hT := hS.below hb2
  clear hS
  refine hK.out _ _ hT (fun hS => ?_)
  clear hK K hT
  try simp only [A1, A2, A3, Act.put, A4, A5, A6]
  refine wpAnyH_ready (rs := [10]) (by kernel_rfl) (by simp) (AllReadyH.cons rfl (fun K hK => ?_) AllReadyH.nil)
  rw [if_pos (by rfl)]
  refine wp_callE 74 _ _ rfl _ (by kernel_rfl) (by kernel_rfl) (R := fun v w' => v = .int .i64 o ∧ Below w2.heap.size w2 w') (HO.out _ _ _ hm1 hm2) (fun v3 w3 hR3 => ?_)
  obtain ⟨rfl, hb3⟩ := hR3
  have hT := hS.below hb3
  clear hS
  refine hK.out _ _ hT (fun hS => ?_)
  clear hK K hT
  try simp only [A1, A2, A3, Act.put, A4, A5, A6]
  refine wpAnyH_take (i := 11) rfl (by kernel_rfl) (by kernel_rfl) (by kernel_rfl) (fun _ _ _ h => h) (Or.inl ⟨by rfl, fun w' _ => by rfl⟩) hS ?_
  try simp only [A1, A2, A3, Act.put, A4, A5, A6]
  refine wpAnyH_done (by kernel_rfl) ?_ _
  go_wp2
  go_ret
  exact ⟨rfl, hB ▸ hS.bl⟩

set_option maxHeartbeats 4000000 in
theorem rOpposite_any (s : Bool) (a b : Nat) (va vb : Value) (w : World) (ha : Mag w va a) (hb : Mag w vb b) (la : ql a < 1000) (r : Bool) (hr : ((!s) && !decide (a = 0)) = r) :
    Calls Tryz.prog 98 #[.agg (frA s va false vb)] w fun e w' => ∃ v', e = .returned v' ∧ FrR w r a false b v' w' := by
  obtain ⟨p1, c1, rfl⟩ := ha.len
  obtain ⟨q1, d1, rfl⟩ := hb.len
  obtain ⟨B, hB⟩ : ∃ B, w.heap.size = B := ⟨_, rfl⟩
  obtain ⟨W, hW⟩ : ∃ W, (w.alloc (.cells #[.bool s, .slice p1 (ql a) c1, .bool false, .slice q1 (ql b) d1] 107)).alloc (.cells #[.bool false, .slice none 0 0, .bool false, .slice none 0 0] 107) = W := ⟨_, rfl⟩
  have HS := Lib.hid (Fo.start hB hW)
  have HN := Lib.hid (fun W (h : Fo w B #[.bool s, .slice p1 (ql a) c1, .bool false, .slice q1 (ql b) d1] W) => rNegative_any s a _ W (h.mag hB ha) (by omega) r hr)
  have HB := Lib.hid (fun W (h : Fo w B #[.bool s, .slice p1 (ql a) c1, .bool false, .slice q1 (ql b) d1] W) => h.mag hB hb)
  clear ha hb la hr
  go_enter Tryz.func98, Tryz.ntmps98
  go_wp2
  have hT0 : Fo w B #[.bool s, .slice p1 (ql a) c1, .bool false, .slice q1 (ql b) d1] W.drew := HS.out.drew
  refine wp_region_held_drew (S := Fo w B #[.bool s, .slice p1 (ql a) c1, .bool false, .slice q1 (ql b) d1]) (by kernel_rfl) hT0 (fun hS => ?_)
  obtain ⟨wd, hwd⟩ : ∃ wd, W.drew = wd := ⟨_, rfl⟩
  rw [hwd] at hS hT0 ⊢
  clear hwd hT0 hW
  refine wpAnyH_take (i := 0) (v := .pointer (some ⟨B, 0, none⟩)) rfl (by kernel_rfl) (by kernel_rfl) (by kernel_rfl) (fun _ _ _ h => h) (Or.inl ⟨by rfl, fun w' h => by go_simp⟩) hS ?_
  try simp only [A1, A2, A3, Act.put, A4, A5, A6]
  refine wpAnyH_take (i := 1) rfl (by kernel_rfl) (by kernel_rfl) (by kernel_rfl) (fun _ _ _ h => h) (yB_range rfl (.tmp 3) rfl (B) 0 rfl (fun w' h => fr_range0 h.b0)) hS ?_
  try simp only [A1, A2, A3, Act.put, A4, A5, A6]
  refine wpAnyH_take (i := 3) (v := .pointer (some ⟨B, 2, none⟩)) rfl (by kernel_rfl) (by kernel_rfl) (by kernel_rfl) (fun _ _ _ h => h) (Or.inl ⟨by rfl, fun w' h => by go_simp⟩) hS ?_
  try simp only [A1, A2, A3, Act.put, A4, A5, A6]
  refine wpAnyH_take (i := 4) rfl (by kernel_rfl) (by kernel_rfl) (by kernel_rfl) (fun _ _ _ h => h) (yB_range rfl (.tmp 6) rfl (B) 2 rfl (fun w' h => fr_range2 h.b0)) hS ?_
  try simp only [A1, A2, A3, Act.put, A4, A5, A6]
  refine wpAnyH_ready (rs := [2]) (by kernel_rfl) (by simp) (AllReadyH.cons rfl (fun K hK => ?_) AllReadyH.nil)
  rw [if_pos (by rfl)]
  refine wp_callE 78 _ _ rfl _ (by kernel_rfl) (by kernel_rfl) (R := BigR wd r a) (HN.out _ hS) (fun v1 w1 hR1 => ?_)
  obtain ⟨e1, k1, rfl, hm9, hb1⟩ := hR1
  have hT := hS.below hb1
  clear hS
  refine hK.out _ _ hT (fun hS => ?_)
  clear hK K hT
  try simp only [A1, A2, A3, Act.put, A4, A5, A6]
  refine wpAnyH_take (i := 5) rfl (by kernel_rfl) (by kernel_rfl) (by kernel_rfl) (fun _ _ _ h => h) (yFr_build rfl (.tmp 5) (.tmp 7) rfl rfl rfl) hS ?_
  try simp only [A1, A2, A3, Act.put, A4, A5, A6]
  obtain ⟨_, _, _, _, hb5⟩ := hS.b1
  have hres1 := Mag.rowF (cs' := #[.bool r, .slice e1 (ql a) k1, .bool false, .slice q1 (ql b) d1]) hm9 hb5
  have hres2 := Mag.rowF (cs' := #[.bool r, .slice e1 (ql a) k1, .bool false, .slice q1 (ql b) d1]) (HB.out _ hS) hb5
  have hret := hS.ret (.bool r) (.slice e1 (ql a) k1) (.bool false) (.slice q1 (ql b) d1)
  refine wpAnyH_ready (rs := [6]) (by kernel_rfl) (by simp) (AllReadyH.cons rfl (fun K hK => ?_) AllReadyH.nil)
  rw [if_pos (by rfl)]
  refine wpFr_store1 (.tmp 2) (.tmp 8) rfl (B + 1) rfl rfl hb5 ?_
  have hT := hret.1
  clear hS
  refine hK.out _ _ hT (fun hS => ?_)
  clear hK K
  refine wpAnyH_done (by kernel_rfl) ?_ _
  go_wp2
  exact bodyPost_ret (retFr rfl _ _ (B + 1) rfl hret.2) rfl ⟨_, rfl, _, _, _, _, rfl, hres1, hres2, hB ▸ hret.1.bl⟩
end Go.Proofs.YtojgafkkgacpkaaGreatDoor
