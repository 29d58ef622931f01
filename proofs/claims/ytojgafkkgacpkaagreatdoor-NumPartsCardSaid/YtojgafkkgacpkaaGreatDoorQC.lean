/- The reference: Lowest. -/
import Derived.Test.YtojgafkkgacpkaaGreatDoorRX
set_option linter.unusedSimpArgs false
set_option linter.unusedVariables false
namespace Go.Proofs.YtojgafkkgacpkaaGreatDoor
open Go.RowKit
set_option maxRecDepth 100000

/-- The cells of a fraction of the reference. -/
abbrev frA (s : Bool) (x : Value) (t : Bool) (y : Value) : Array Value := #[.bool s, x, .bool t, y]
theorem infoFr (s : Bool) (x : Value) (t : Bool) (y : Value) : (Tryz.prog.info? 107).map (·.size) = some (frA s x t y).size := by
  show (Tryz.prog.info? 107).map (·.size) = some 4
  kernel_rfl
theorem retFr {fn : Func} {p : Tmp} (h : fn.results = #[.cell p 107]) (tmps : Array Value) (w : World) (B : Nat) (hp : tmps.getD p undef = .pointer (some ⟨B, 0, none⟩)) {s t : Bool} {x y : Value} (hB : BlockIs w B 107 (frA s x t y)) :
    (results fn tmps).run Tryz.prog w = .ok (.agg (frA s x t y)) w :=
  results_cell_row h tmps w B 107 (frA s x t y) (0, 0) _ hp hB Tryz.underlying107 rfl (infoFr s x t y)
/-- What a function that makes a fraction leaves. -/
def FrR (w : World) (s : Bool) (a : Nat) (t : Bool) (b : Nat) (v : Value) (w' : World) : Prop := ∃ p c q d, v = .agg (frA s (.slice p (ql a) c) t (.slice q (ql b) d)) ∧ Mag w' (.slice p (ql a) c) a ∧ Mag w' (.slice q (ql b) d) b ∧ Below w.heap.size w w'
theorem Row.butF {w w' : World} {b k C : Nat} {v : Value} {f : Nat → Nat} {cs : Array Value} (h : Row w b v f k) (hC : BlockIs w C 107 cs) (hk : ∀ g, g ≠ C → w'.heap[g]? = w.heap[g]?) : Row w' b v f k := by
  refine ⟨h.1, ?_⟩
  rcases h.2 with h1 | ⟨g, cap, cur, h1, h2, h3, h4⟩
  · exact .inl h1
  · refine .inr ⟨g, cap, cur, h1, h2, ?_, h4⟩
    rw [hk g ?_]
    · exact h3
    · rintro rfl
      rw [show w.heap[g]? = _ from hC] at h3
      simp at h3
theorem Mag.cellF {w : World} {n C i : Nat} {v x : Value} {cs : Array Value} (h : Mag w v n) (hC : BlockIs w C 107 cs) : Mag (w.setCell ⟨C, i, none⟩ x) v n :=
  Row.butF h hC fun g hg => heap_setCell_other w ⟨C, i, none⟩ g x hg
theorem Mag.rowF {w : World} {n C : Nat} {v : Value} {cs cs' : Array Value} (h : Mag w v n) (hC : BlockIs w C 107 cs) : Mag (w.setRow C cs') v n :=
  Row.butF h hC fun g hg => setRow_other w C g cs' hg
/-- Four stores into a fraction. -/
abbrev put4 (w : World) (C : Nat) (a b c d : Value) : World := (((w.setCell ⟨C, 0, none⟩ a).setCell ⟨C, 1, none⟩ b).setCell ⟨C, 2, none⟩ c).setCell ⟨C, 3, none⟩ d
theorem BlockIs.four {w : World} {C : Nat} {a b c d x y z u : Value} (h : BlockIs w C 107 #[a, b, c, d]) : BlockIs (put4 w C x y z u) C 107 #[x, y, z, u] := (((h.set 0 x).set 1 y).set 2 z).set 3 u
theorem Mag.four {w : World} {n C : Nat} {v : Value} {a b c d x y z u : Value} (h : Mag w v n) (hC : BlockIs w C 107 #[a, b, c, d]) : Mag (put4 w C x y z u) v n :=
  (((h.cellF hC).cellF (hC.set 0 x)).cellF ((hC.set 0 x).set 1 y)).cellF (((hC.set 0 x).set 1 y).set 2 z)
theorem below_four {B C : Nat} {w0 w : World} {x y z u : Value} (h : Below B w0 w) (hC : B ≤ C) : Below B w0 (put4 w C x y z u) :=
  (((h.setCell (by simp <;> omega) _).setCell (by simp <;> omega) _).setCell (by simp <;> omega) _).setCell (by simp <;> omega) _

/-- The blocks of Lowest: the two numbers, and the fraction to come. -/
structure Lw (w0 : World) (B : Nat) (s : Bool) (p : Option Addr) (a c : Nat) (t : Bool) (q : Option Addr) (b d : Nat) (w : World) : Prop where
  b0 : BlockIs w B 74 #[.bool s, .slice p (ql a) c]
  b1 : BlockIs w (B + 1) 74 #[.bool t, .slice q (ql b) d]
  b2 : ∃ x y z u, BlockIs w (B + 2) 107 #[x, y, z, u]
  ma : Mag w (.slice p (ql a) c) a
  mb : Mag w (.slice q (ql b) d) b
  bl : Below B w0 w
theorem Lw.below {w0 : World} {B a b c d : Nat} {s t : Bool} {p q : Option Addr} {w w' : World} (h : Lw w0 B s p a c t q b d w) (hb : Below w.heap.size w w') : Lw w0 B s p a c t q b d w' := by
  obtain ⟨h0, h1, ⟨x, y, z, u, h2⟩, h3, h4, h5⟩ := h
  exact ⟨h0.below hb h0.lt, h1.below hb h1.lt, ⟨x, y, z, u, h2.below hb h2.lt⟩, h3.below hb, h4.below hb, h5.trans (hb.mono (by have := h0.lt; omega))⟩
theorem Lw.seta {w0 : World} {B a b c d : Nat} {s t : Bool} {p q : Option Addr} {w : World} (h : Lw w0 B s p a c t q b d w) {r : Bool} {e k : Nat} {o : Option Addr} (hm : Mag w (.slice o (ql e) k) e) : Lw w0 B r o e k t q b d ((w.setCell ⟨B, 0, none⟩ (.bool r)).setCell ⟨B, 1, none⟩ (.slice o (ql e) k)) := by
  obtain ⟨h0, h1, ⟨x, y, z, u, h2⟩, h3, h4, h5⟩ := h
  exact ⟨h0.two, (h1.other _ _ (by simp)).other _ _ (by simp), ⟨x, y, z, u, (h2.other _ _ (by simp)).other _ _ (by simp)⟩, hm.two h0, h4.two h0, (h5.setCell (by simp) _).setCell (by simp) _⟩
theorem Lw.setb {w0 : World} {B a b c d : Nat} {s t : Bool} {p q : Option Addr} {w : World} (h : Lw w0 B s p a c t q b d w) {r : Bool} {e k : Nat} {o : Option Addr} (hm : Mag w (.slice o (ql e) k) e) : Lw w0 B s p a c r o e k ((w.setCell ⟨B + 1, 0, none⟩ (.bool r)).setCell ⟨B + 1, 1, none⟩ (.slice o (ql e) k)) := by
  obtain ⟨h0, h1, ⟨x, y, z, u, h2⟩, h3, h4, h5⟩ := h
  exact ⟨(h0.other _ _ (by simp)).other _ _ (by simp), h1.two, ⟨x, y, z, u, (h2.other _ _ (by simp)).other _ _ (by simp)⟩, h3.two h1, hm.two h1, (h5.setCell (by simp) _).setCell (by simp) _⟩
theorem Lw.start {w W : World} {B a b c d : Nat} {s t : Bool} {p q : Option Addr} (hB : w.heap.size = B) (ha : Mag w (.slice p (ql a) c) a) (hb : Mag w (.slice q (ql b) d) b) (hW : ((w.alloc (.cells #[.bool s, .slice p (ql a) c] 74)).alloc (.cells #[.bool t, .slice q (ql b) d] 74)).alloc (.cells #[.bool false, .slice none 0 0, .bool false, .slice none 0 0] 107) = W) : Lw w B s p a c t q b d W := by
  have hs1 : (w.alloc (.cells #[.bool s, .slice p (ql a) c] 74)).heap.size = B + 1 := by rw [World.size_alloc, hB]
  have hs2 : ((w.alloc (.cells #[.bool s, .slice p (ql a) c] 74)).alloc (.cells #[.bool t, .slice q (ql b) d] 74)).heap.size = B + 2 := by rw [World.size_alloc, hs1]
  have hbl : Below B w W := by rw [← hW]; exact ((((Below.refl B w).alloc (by omega) _).alloc (by omega) _).alloc (by omega) _)
  refine ⟨?_, ?_, ⟨.bool false, .slice none 0 0, .bool false, .slice none 0 0, ?_⟩, ha.below (by rw [hB]; exact hbl), hb.below (by rw [hB]; exact hbl), hbl⟩
  · rw [← hW, ← hB]; exact ((BlockIs.new _ _ _).alloc _).alloc _
  · rw [← hW]
    have := BlockIs.new (w.alloc (.cells #[.bool s, .slice p (ql a) c] 74)) 74 #[.bool t, .slice q (ql b) d]
    rw [hs1] at this
    exact this.alloc _
  · rw [← hW]
    have := BlockIs.new ((w.alloc (.cells #[.bool s, .slice p (ql a) c] 74)).alloc (.cells #[.bool t, .slice q (ql b) d] 74)) 107 #[.bool false, .slice none 0 0, .bool false, .slice none 0 0]
    rwa [hs2] at this
theorem lowest_zero {a b : Nat} : a % Nat.gcd a b = 0 := Nat.mod_eq_zero_of_dvd (Nat.gcd_dvd_left a b)
theorem lowest_zero2 {a b : Nat} : b % Nat.gcd a b = 0 := Nat.mod_eq_zero_of_dvd (Nat.gcd_dvd_right a b)
theorem Lw.drew {w0 : World} {B a b c d : Nat} {s t : Bool} {p q : Option Addr} {w : World} (h : Lw w0 B s p a c t q b d w) : Lw w0 B s p a c t q b d w.drew := by
  obtain ⟨h0, h1, ⟨x, y, z, u, h2⟩, h3, h4, h5⟩ := h
  exact ⟨h0.drew, h1.drew, ⟨x, y, z, u, h2.drew⟩, h3.drew, h4.drew, h5.drew⟩
theorem Lw.rowa {w0 : World} {B a b c d : Nat} {s t : Bool} {p q : Option Addr} {w : World} (h : Lw w0 B s p a c t q b d w) {r : Bool} {e k : Nat} {o : Option Addr} (hm : Mag w (.slice o (ql e) k) e) : Lw w0 B r o e k t q b d (w.setRow B #[.bool r, .slice o (ql e) k]) := by
  obtain ⟨h0, h1, ⟨x, y, z, u, h2⟩, h3, h4, h5⟩ := h
  exact ⟨h0.row2 _, h1.rowElse _ (by omega), ⟨x, y, z, u, h2.rowElse _ (by omega)⟩, hm.row h0, h4.row h0, below_setRow2 h5 _ (by omega)⟩
theorem Lw.rowb {w0 : World} {B a b c d : Nat} {s t : Bool} {p q : Option Addr} {w : World} (h : Lw w0 B s p a c t q b d w) {r : Bool} {e k : Nat} {o : Option Addr} (hm : Mag w (.slice o (ql e) k) e) : Lw w0 B s p a c r o e k (w.setRow (B + 1) #[.bool r, .slice o (ql e) k]) := by
  obtain ⟨h0, h1, ⟨x, y, z, u, h2⟩, h3, h4, h5⟩ := h
  exact ⟨h0.rowElse _ (by omega), h1.row2 _, ⟨x, y, z, u, h2.rowElse _ (by omega)⟩, h3.row h1, hm.row h1, below_setRow2 h5 _ (by omega)⟩

set_option maxHeartbeats 8000000 in
theorem rLowest_f (s : Bool) (a b : Nat) (va vb : Value) (w : World) (ha : Mag w va a) (hb : Mag w vb b) (la : ql a < 15000) (lb : ql b < 15000) (hb0 : 0 < b) (g : Nat) (hg : Nat.gcd a b = g) (r : Bool) (hr : ((s != false) && !decide (a / g = 0)) = r) :
    Calls Tryz.prog 109 #[.agg #[.bool s, va], .agg #[.bool false, vb]] w fun e w' => ∃ v', e = .returned v' ∧ FrR w r (a / g) false (b / g) v' w' := by
  obtain ⟨p, c, rfl⟩ := ha.len
  obtain ⟨q, d, rfl⟩ := hb.len
  obtain ⟨B, hB⟩ : ∃ B, w.heap.size = B := ⟨_, rfl⟩
  obtain ⟨W, hW⟩ : ∃ W, ((w.alloc (.cells #[.bool s, .slice p (ql a) c] 74)).alloc (.cells #[.bool false, .slice q (ql b) d] 74)).alloc (.cells #[.bool false, .slice none 0 0, .bool false, .slice none 0 0] 107) = W := ⟨_, rfl⟩
  have HS := Lib.hid (Lw.start hB ha hb hW)
  have hg0 : 0 < g := by rw [← hg]; exact Nat.gcd_pos_of_pos_right a hb0
  have lg : ql g < 15000 := Nat.lt_of_le_of_lt (ql_mono (by rw [← hg]; exact Nat.gcd_le_right a hb0)) lb
  have hza : a % g = 0 := by rw [← hg]; exact lowest_zero
  have hzb : b % g = 0 := by rw [← hg]; exact lowest_zero2
  have HCM := Lib.hid (fun (v u : Value) W (h1 : Mag W v a) (h2 : Mag W u b) => rCommon_any s false a b v u W h1 h2 (by omega) (by omega) g hg)
  have HO1 := Lib.hid (fun (v u : Value) W (h1 : Mag W v a) (h2 : Mag W u g) => rOverB_any s false a g v u W h1 h2 (by omega) (by omega) hg0 (a / g) 0 (by rw [decide_eq_true hza, hza]; simp) r hr)
  have HO2 := Lib.hid (fun (v u : Value) W (h1 : Mag W v b) (h2 : Mag W u g) => rOverB_any false false b g v u W h1 h2 (by omega) (by omega) hg0 (b / g) 0 (by rw [decide_eq_true hzb, hzb]; simp) false rfl)
  clear ha hb la lb hb0 hg hg0 lg hza hzb hr
  have H0 := HS
  have c0 := HS.out.b0.at 0
  have c1 := HS.out.b0.at 1
  have c2 := HS.out.b1.at 0
  have c3 := HS.out.b1.at 1
  have c4 := HS.out.b0.thawed 0
  have c5 := HS.out.b0.thawed 1
  have c6 := HS.out.b1.thawed 0
  have c7 := HS.out.b1.thawed 1
  go_enter Tryz.func109, Tryz.ntmps109
  go_wp2_with (first | (go_at_call 93; refine (HCM.out _ _ _ H0.out.ma H0.out.mb).mono ?_; rintro e w1 ⟨v1, rfl, p1, k1, rfl, hm1, hb1⟩; obtain ⟨D, hD⟩ : ∃ D, w1.heap.size = D := ⟨_, rfl⟩; have H1 := Lib.hid (H0.out.below hb1); have HG1 := Lib.hid hm1; obtain ⟨W2, hW2⟩ : ∃ W2, w1.alloc (.cells #[.bool false, .slice p1 (ql g) k1] 74) = W2 := ⟨_, rfl⟩; have hbW : Below w1.heap.size w1 W2 := (by rw [← hW2]; exact (Below.refl _ _).alloc (Nat.le_refl _) _); have H2 := Lib.hid (H1.out.below hbW); have HG2 := Lib.hid (HG1.out.below hbW); have HD2 := Lib.hid (show BlockIs W2 D 74 #[.bool false, .slice p1 (ql g) k1] from (by rw [← hW2, ← hD]; exact BlockIs.new _ _ _)); clear hm1 hb1 hbW; clear c0 c1 c2 c3 c4 c5 c6 c7; have c0 := H2.out.b0.at 0; have c1 := H2.out.b0.at 1; have c2 := H2.out.b1.at 0; have c3 := H2.out.b1.at 1; have c4 := H2.out.b0.thawed 0; have c5 := H2.out.b0.thawed 1; have c6 := H2.out.b1.thawed 0; have c7 := H2.out.b1.thawed 1; have g0 := HD2.out.at 0; have g1 := HD2.out.at 1; have hBD : B + 2 < D := (by obtain ⟨_, _, _, _, h⟩ := H1.out.b2; have := h.lt; omega)) | (go_at_call 89; (with_reducible refine (HO1.out _ _ _ H2.out.ma HG2.out).mono ?_); rintro e w3 ⟨v3, rfl, p3, k3, p4, k4, rfl, hm3, hm4, hb3⟩; have H3 := Lib.hid ((H2.out.below hb3).seta (r := r) hm3); have HG3 := Lib.hid ((HG2.out.below hb3).two (x := .bool r) (y := .slice p3 (ql (a / g)) k3) (H2.out.below hb3).b0); have HD3 := Lib.hid (((HD2.out.below hb3 HD2.out.lt).other ⟨B, 0, none⟩ (.bool r) (by simp <;> omega)).other ⟨B, 1, none⟩ (.slice p3 (ql (a / g)) k3) (by simp <;> omega)); have H3b := Lib.hid (H2.out.below hb3); obtain ⟨W3, hW3⟩ : ∃ W3, (w3.setCell ⟨B, 0, none⟩ (.bool r)).setCell ⟨B, 1, none⟩ (.slice p3 (ql (a / g)) k3) = W3 := ⟨_, rfl⟩; rw [hW3] at H3 HG3 HD3; clear hm3 hm4 hb3 g0 g1; clear c0 c1 c2 c3 c4 c5 c6 c7; have d0 := H3b.out.b0.at 0; have d1 := H3b.out.b0.at 1; have d2 := H3b.out.b1.at 0; have d3 := H3b.out.b1.at 1; have d4 := H3b.out.b0.thawed 0; have d5 := H3b.out.b0.thawed 1; have d6 := H3b.out.b1.thawed 0; have d7 := H3b.out.b1.thawed 1; have c0 := H3.out.b0.at 0; have c1 := H3.out.b0.at 1; have c2 := H3.out.b1.at 0; have c3 := H3.out.b1.at 1; have c4 := H3.out.b0.thawed 0; have c5 := H3.out.b0.thawed 1; have c6 := H3.out.b1.thawed 0; have c7 := H3.out.b1.thawed 1; have g0 := HD3.out.at 0; have g1 := HD3.out.at 1) | (go_at_call 89; (with_reducible refine (HO2.out _ _ _ H3.out.mb HG3.out).mono ?_); rintro e w5 ⟨v5, rfl, p5, k5, p6, k6, rfl, hm5, hm6, hb5⟩; have H5 := Lib.hid ((H3.out.below hb5).setb (r := false) hm5); have H5b := Lib.hid (H3.out.below hb5); obtain ⟨W5, hW5⟩ : ∃ W5, (w5.setCell ⟨B + 1, 0, none⟩ (.bool false)).setCell ⟨B + 1, 1, none⟩ (.slice p5 (ql (b / g)) k5) = W5 := ⟨_, rfl⟩; rw [hW5] at H5; clear hm5 hm6 hb5 g0 g1; clear c0 c1 c2 c3 c4 c5 c6 c7; clear d0 d1 d2 d3 d4 d5 d6 d7; have d0 := H5b.out.b0.at 0; have d1 := H5b.out.b0.at 1; have d2 := H5b.out.b1.at 0; have d3 := H5b.out.b1.at 1; have d4 := H5b.out.b0.thawed 0; have d5 := H5b.out.b0.thawed 1; have d6 := H5b.out.b1.thawed 0; have d7 := H5b.out.b1.thawed 1; have c0 := H5.out.b0.at 0; have c1 := H5.out.b0.at 1; have c2 := H5.out.b1.at 0; have c3 := H5.out.b1.at 1; have c4 := H5.out.b0.thawed 0; have c5 := H5.out.b0.thawed 1; have c6 := H5.out.b1.thawed 0; have c7 := H5.out.b1.thawed 1; obtain ⟨x0, x1, x2, x3, hx⟩ := H5.out.b2; have HF5 := Lib.hid hx; have f0 := HF5.out.at 0; have f1 := HF5.out.at 1; have f2 := HF5.out.at 2; have f3 := HF5.out.at 3; have e0 := HF5.out.thawed 0; have e1 := HF5.out.thawed 1; have e2 := HF5.out.thawed 2; have e3 := HF5.out.thawed 3; clear hx))
  exact bodyPost_ret (retFr rfl _ _ (B + 2) rfl HF5.out.four) rfl ⟨_, rfl, _, _, _, _, rfl, H5.out.ma.four HF5.out, H5.out.mb.four HF5.out, (by rw [hB]; exact below_four H5.out.bl (by omega))⟩

set_option maxHeartbeats 8000000 in
theorem rLowest_t (s : Bool) (a b : Nat) (va vb : Value) (w : World) (ha : Mag w va a) (hb : Mag w vb b) (la : ql a < 15000) (lb : ql b < 15000) (hb0 : 0 < b) (g : Nat) (hg : Nat.gcd a b = g) (s2 : Bool) (hs2 : ((!s) && !decide (a = 0)) = s2) (r : Bool) (hr : ((s2 != false) && !decide (a / g = 0)) = r) :
    Calls Tryz.prog 109 #[.agg #[.bool s, va], .agg #[.bool true, vb]] w fun e w' => ∃ v', e = .returned v' ∧ FrR w r (a / g) false (b / g) v' w' := by
  obtain ⟨p, c, rfl⟩ := ha.len
  obtain ⟨q, d, rfl⟩ := hb.len
  obtain ⟨B, hB⟩ : ∃ B, w.heap.size = B := ⟨_, rfl⟩
  obtain ⟨W, hW⟩ : ∃ W, ((w.alloc (.cells #[.bool s, .slice p (ql a) c] 74)).alloc (.cells #[.bool true, .slice q (ql b) d] 74)).alloc (.cells #[.bool false, .slice none 0 0, .bool false, .slice none 0 0] 107) = W := ⟨_, rfl⟩
  have HS := Lib.hid (Lw.start hB ha hb hW)
  have hg0 : 0 < g := by rw [← hg]; exact Nat.gcd_pos_of_pos_right a hb0
  have lg : ql g < 15000 := Nat.lt_of_le_of_lt (ql_mono (by rw [← hg]; exact Nat.gcd_le_right a hb0)) lb
  have hza : a % g = 0 := by rw [← hg]; exact lowest_zero
  have hzb : b % g = 0 := by rw [← hg]; exact lowest_zero2
  have HN1 := Lib.hid (fun (v : Value) W (h1 : Mag W v a) => rNegative_any s a v W h1 (by omega) s2 hs2)
  have HN2 := Lib.hid (fun (v : Value) W (h1 : Mag W v b) => rNegative_any true b v W h1 (by omega) false rfl)
  clear hs2
  have HCM := Lib.hid (fun (v u : Value) W (h1 : Mag W v a) (h2 : Mag W u b) => rCommon_any s2 false a b v u W h1 h2 (by omega) (by omega) g hg)
  have HO1 := Lib.hid (fun (v u : Value) W (h1 : Mag W v a) (h2 : Mag W u g) => rOverB_any s2 false a g v u W h1 h2 (by omega) (by omega) hg0 (a / g) 0 (by rw [decide_eq_true hza, hza]; simp) r hr)
  have HO2 := Lib.hid (fun (v u : Value) W (h1 : Mag W v b) (h2 : Mag W u g) => rOverB_any false false b g v u W h1 h2 (by omega) (by omega) hg0 (b / g) 0 (by rw [decide_eq_true hzb, hzb]; simp) false rfl)
  clear ha hb la lb hb0 hg hg0 lg hza hzb hr
  have c0 := HS.out.b0.at 0
  have c1 := HS.out.b0.at 1
  have c2 := HS.out.b1.at 0
  have c3 := HS.out.b1.at 1
  have c4 := HS.out.b0.thawed 0
  have c5 := HS.out.b0.thawed 1
  have c6 := HS.out.b1.thawed 0
  have c7 := HS.out.b1.thawed 1
  go_enter Tryz.func109, Tryz.ntmps109
  go_wp2
  have hT := And.intro HS.out.b0.drew HS.out.b1.drew
  obtain ⟨wd, hwd⟩ : ∃ wd, W.drew = wd := ⟨_, rfl⟩
  have HE := Lib.hid (show Lw w B s p a c true q b d wd by rw [← hwd]; exact HS.out.drew)
  refine AnyTill.region (T := Till 4 5 (fun w' => BlockIs w' B 74 #[.bool s, .slice p (ql a) c]) (fun w' => BlockIs w' (B + 1) 74 #[.bool true, .slice q (ql b) d])) (by kernel_rfl) ?_
  rw [hwd]
  clear hT hwd hW
  refine AnyTill.take1 (i := 0) rfl rfl (by kernel_rfl) (by omega) (by omega) (by kernel_rfl) (by kernel_rfl) (by kernel_rfl) (by kernel_rfl) (fun _ _ _ h => h) (yB_load rfl (.tmp 2) rfl B rfl (fun w' h => h)) HE.out.b0 HE.out.b1 ?_
  try simp only [A1, A2, A3, Act.put, A4, A5, A6]
  refine AnyTill.take2 (i := 2) rfl rfl (by kernel_rfl) (by omega) (by omega) (by kernel_rfl) (by kernel_rfl) (by kernel_rfl) (by kernel_rfl) (fun _ _ _ h => h) (yB_load rfl (.tmp 3) rfl (B + 1) rfl (fun w' h => h)) HE.out.b0 HE.out.b1 ?_
  try simp only [A1, A2, A3, Act.put, A4, A5, A6]
  refine AnyTill.ready (i := 1) (by kernel_rfl) rfl (fun K hK => ?_)
  rw [if_pos (by rfl)]
  refine wp_callE 78 _ _ rfl _ (by kernel_rfl) (by kernel_rfl) (R := BigR wd s2 a) (HN1.out _ _ HE.out.ma) (fun v1 w1 hR1 => ?_)
  obtain ⟨p1, k1, rfl, hm1, hb1⟩ := hR1
  have HF := Lib.hid (HE.out.below hb1)
  refine hK.out _ _ ⟨fun _ => HF.out.b0, fun _ => HF.out.b1⟩ ?_
  clear hK K
  try simp only [A1, A2, A3, Act.put, A4, A5, A6]
  refine AnyTill.ready (i := 3) (by kernel_rfl) rfl (fun K hK => ?_)
  rw [if_pos (by rfl)]
  refine wp_callE 78 _ _ rfl _ (by kernel_rfl) (by kernel_rfl) (R := BigR w1 false b) (HN2.out _ _ HF.out.mb) (fun v2 w2 hR2 => ?_)
  obtain ⟨p2, k2, rfl, hm2, hb2⟩ := hR2
  have HJ := Lib.hid (HF.out.below hb2)
  have HM1 := Lib.hid (Mag.below hm1 hb2)
  refine hK.out _ _ ⟨fun _ => HJ.out.b0, fun _ => HJ.out.b1⟩ ?_
  clear hK K
  try simp only [A1, A2, A3, Act.put, A4, A5, A6]
  refine AnyTill.ready (i := 4) (by kernel_rfl) rfl (fun K hK => ?_)
  rw [if_pos (by rfl)]
  refine wpBig_store1 (.tmp 2) (.tmp 9) rfl B rfl rfl HJ.out.b0 ?_
  have HJ2 := Lib.hid (HJ.out.rowa (r := s2) HM1.out)
  have HM2 := Lib.hid (hm2.row (cs' := #[.bool s2, .slice p1 (ql a) k1]) HJ.out.b0)
  refine hK.out _ _ ⟨fun h => absurd h (by decide), fun _ => HJ2.out.b1⟩ ?_
  clear hK K
  refine AnyTill.ready (i := 5) (by kernel_rfl) rfl (fun K hK => ?_)
  rw [if_pos (by rfl)]
  refine wpBig_store1 (.tmp 3) (.tmp 11) rfl (B + 1) rfl rfl HJ2.out.b1 ?_
  have H0 := Lib.hid (HJ2.out.rowb (r := false) HM2.out)
  refine hK.out _ _ ⟨fun h => absurd h (by decide), fun h => absurd h (by decide)⟩ ?_
  clear hK K
  refine AnyTill.done (by kernel_rfl) ?_ _
  obtain ⟨W1, hW1⟩ : ∃ W1, (w2.setRow B #[.bool s2, .slice p1 (ql a) k1]).setRow (B + 1) #[.bool false, .slice p2 (ql b) k2] = W1 := ⟨_, rfl⟩
  rw [hW1] at H0 ⊢
  clear hW1 HJ HJ2 HM1 HM2 HE HF hm1 hm2 hb1 hb2
  clear c0 c1 c2 c3 c4 c5 c6 c7
  have c0 := H0.out.b0.at 0
  have c1 := H0.out.b0.at 1
  have c2 := H0.out.b1.at 0
  have c3 := H0.out.b1.at 1
  have c4 := H0.out.b0.thawed 0
  have c5 := H0.out.b0.thawed 1
  have c6 := H0.out.b1.thawed 0
  have c7 := H0.out.b1.thawed 1
  go_wp2_with (first | (go_at_call 93; refine (HCM.out _ _ _ H0.out.ma H0.out.mb).mono ?_; rintro e w1 ⟨v1, rfl, p1, k1, rfl, hm1, hb1⟩; obtain ⟨D, hD⟩ : ∃ D, w1.heap.size = D := ⟨_, rfl⟩; have H1 := Lib.hid (H0.out.below hb1); have HG1 := Lib.hid hm1; obtain ⟨W2, hW2⟩ : ∃ W2, w1.alloc (.cells #[.bool false, .slice p1 (ql g) k1] 74) = W2 := ⟨_, rfl⟩; have hbW : Below w1.heap.size w1 W2 := (by rw [← hW2]; exact (Below.refl _ _).alloc (Nat.le_refl _) _); have H2 := Lib.hid (H1.out.below hbW); have HG2 := Lib.hid (HG1.out.below hbW); have HD2 := Lib.hid (show BlockIs W2 D 74 #[.bool false, .slice p1 (ql g) k1] from (by rw [← hW2, ← hD]; exact BlockIs.new _ _ _)); clear hm1 hb1 hbW; clear c0 c1 c2 c3 c4 c5 c6 c7; have c0 := H2.out.b0.at 0; have c1 := H2.out.b0.at 1; have c2 := H2.out.b1.at 0; have c3 := H2.out.b1.at 1; have c4 := H2.out.b0.thawed 0; have c5 := H2.out.b0.thawed 1; have c6 := H2.out.b1.thawed 0; have c7 := H2.out.b1.thawed 1; have g0 := HD2.out.at 0; have g1 := HD2.out.at 1; have hBD : B + 2 < D := (by obtain ⟨_, _, _, _, h⟩ := H1.out.b2; have := h.lt; omega)) | (go_at_call 89; (with_reducible refine (HO1.out _ _ _ H2.out.ma HG2.out).mono ?_); rintro e w3 ⟨v3, rfl, p3, k3, p4, k4, rfl, hm3, hm4, hb3⟩; have H3 := Lib.hid ((H2.out.below hb3).seta (r := r) hm3); have HG3 := Lib.hid ((HG2.out.below hb3).two (x := .bool r) (y := .slice p3 (ql (a / g)) k3) (H2.out.below hb3).b0); have HD3 := Lib.hid (((HD2.out.below hb3 HD2.out.lt).other ⟨B, 0, none⟩ (.bool r) (by simp <;> omega)).other ⟨B, 1, none⟩ (.slice p3 (ql (a / g)) k3) (by simp <;> omega)); have H3b := Lib.hid (H2.out.below hb3); obtain ⟨W3, hW3⟩ : ∃ W3, (w3.setCell ⟨B, 0, none⟩ (.bool r)).setCell ⟨B, 1, none⟩ (.slice p3 (ql (a / g)) k3) = W3 := ⟨_, rfl⟩; rw [hW3] at H3 HG3 HD3; clear hm3 hm4 hb3 g0 g1; clear c0 c1 c2 c3 c4 c5 c6 c7; have d0 := H3b.out.b0.at 0; have d1 := H3b.out.b0.at 1; have d2 := H3b.out.b1.at 0; have d3 := H3b.out.b1.at 1; have d4 := H3b.out.b0.thawed 0; have d5 := H3b.out.b0.thawed 1; have d6 := H3b.out.b1.thawed 0; have d7 := H3b.out.b1.thawed 1; have c0 := H3.out.b0.at 0; have c1 := H3.out.b0.at 1; have c2 := H3.out.b1.at 0; have c3 := H3.out.b1.at 1; have c4 := H3.out.b0.thawed 0; have c5 := H3.out.b0.thawed 1; have c6 := H3.out.b1.thawed 0; have c7 := H3.out.b1.thawed 1; have g0 := HD3.out.at 0; have g1 := HD3.out.at 1) | (go_at_call 89; (with_reducible refine (HO2.out _ _ _ H3.out.mb HG3.out).mono ?_); rintro e w5 ⟨v5, rfl, p5, k5, p6, k6, rfl, hm5, hm6, hb5⟩; have H5 := Lib.hid ((H3.out.below hb5).setb (r := false) hm5); have H5b := Lib.hid (H3.out.below hb5); obtain ⟨W5, hW5⟩ : ∃ W5, (w5.setCell ⟨B + 1, 0, none⟩ (.bool false)).setCell ⟨B + 1, 1, none⟩ (.slice p5 (ql (b / g)) k5) = W5 := ⟨_, rfl⟩; rw [hW5] at H5; clear hm5 hm6 hb5 g0 g1; clear c0 c1 c2 c3 c4 c5 c6 c7; clear d0 d1 d2 d3 d4 d5 d6 d7; have d0 := H5b.out.b0.at 0; have d1 := H5b.out.b0.at 1; have d2 := H5b.out.b1.at 0; have d3 := H5b.out.b1.at 1; have d4 := H5b.out.b0.thawed 0; have d5 := H5b.out.b0.thawed 1; have d6 := H5b.out.b1.thawed 0; have d7 := H5b.out.b1.thawed 1; have c0 := H5.out.b0.at 0; have c1 := H5.out.b0.at 1; have c2 := H5.out.b1.at 0; have c3 := H5.out.b1.at 1; have c4 := H5.out.b0.thawed 0; have c5 := H5.out.b0.thawed 1; have c6 := H5.out.b1.thawed 0; have c7 := H5.out.b1.thawed 1; obtain ⟨x0, x1, x2, x3, hx⟩ := H5.out.b2; have HF5 := Lib.hid hx; have f0 := HF5.out.at 0; have f1 := HF5.out.at 1; have f2 := HF5.out.at 2; have f3 := HF5.out.at 3; have e0 := HF5.out.thawed 0; have e1 := HF5.out.thawed 1; have e2 := HF5.out.thawed 2; have e3 := HF5.out.thawed 3; clear hx))
  exact bodyPost_ret (retFr rfl _ _ (B + 2) rfl HF5.out.four) rfl ⟨_, rfl, _, _, _, _, rfl, H5.out.ma.four HF5.out, H5.out.mb.four HF5.out, (by rw [hB]; exact below_four H5.out.bl (by omega))⟩
end Go.Proofs.YtojgafkkgacpkaaGreatDoor

namespace Go.Proofs.YtojgafkkgacpkaaGreatDoor
open Go.RowKit
set_option maxRecDepth 100000

theorem rLowest_any (s t : Bool) (a b : Nat) (va vb : Value) (w : World) (ha : Mag w va a) (hb : Mag w vb b) (la : ql a < 15000) (lb : ql b < 15000) (hb0 : 0 < b) (g : Nat) (hg : Nat.gcd a b = g) (s2 : Bool) (hs2 : (if t = true then ((!s) && !decide (a = 0)) else s) = s2) (r : Bool) (hr : ((s2 != false) && !decide (a / g = 0)) = r) :
    Calls Tryz.prog 109 #[.agg #[.bool s, va], .agg #[.bool t, vb]] w fun e w' => ∃ v', e = .returned v' ∧ FrR w r (a / g) false (b / g) v' w' := by
  cases t with
  | false =>
    rw [if_neg (by decide)] at hs2
    subst hs2
    exact rLowest_f s a b va vb w ha hb la lb hb0 g hg r hr
  | true =>
    rw [if_pos rfl] at hs2
    exact rLowest_t s a b va vb w ha hb la lb hb0 g hg s2 hs2 r hr
theorem fr_range0 {w : World} {B : Nat} {a b c d : Value} (h : BlockIs w B 107 #[a, b, c, d]) : w.rangeAt B 0 [a, b] := by
  intro j v hv
  have hj : j < 2 := (List.getElem?_eq_some_iff.1 hv).1
  rw [Nat.zero_add, h.at]
  rcases j with _ | _ | j
  · exact hv
  · exact hv
  · omega
theorem fr_range2 {w : World} {B : Nat} {a b c d : Value} (h : BlockIs w B 107 #[a, b, c, d]) : w.rangeAt B 2 [c, d] := by
  intro j v hv
  have hj : j < 2 := (List.getElem?_eq_some_iff.1 hv).1
  rw [h.at]
  rcases j with _ | _ | j
  · exact hv
  · exact hv
  · omega
theorem run_loadRB {w : World} {L o : Nat} {a b : Value} (h : w.rangeAt L o [a, b]) : (loadVar 74 ⟨L, o, none⟩).run Tryz.prog w = .ok (.agg #[a, b]) w :=
  run_loadVar_mid w L o 74 [a, b] _ h Tryz.underlying74 rfl (infoBig a b)
theorem yB_range {ops : Array Oper} {S : World → Prop} {op : Oper} {a : Act} (hw : Region.wanted op (yielded ops a.tmps) = true) (x : Operand) (ho : op.op = .load 74 x) (L o : Nat) (hx : a.eval x = .pointer (some ⟨L, o, none⟩))
    {u v : Value} (hS : ∀ w, S w → w.rangeAt L o [u, v]) : YieldsIf Tryz.prog ops S op (.agg #[u, v]) a :=
  .inl ⟨hw, fun w hw' => by
    unfold execOp
    simp only [ho, hx, Instr.loadAt, Instr.sureAddr, Sem.run_bind, Sem.run_pure, Result.andThen_ok, run_loadRB (hS w hw')]⟩
/-- Two fractions that came in. -/
structure Fq (w0 : World) (B : Nat) (X Y : Array Value) (w : World) : Prop where
  b0 : BlockIs w B 107 X
  b1 : BlockIs w (B + 1) 107 Y
  bl : Below B w0 w
/-- .. and one to come. -/
structure Ft (w0 : World) (B : Nat) (X Y : Array Value) (w : World) : Prop where
  b0 : BlockIs w B 107 X
  b1 : BlockIs w (B + 1) 107 Y
  b2 : ∃ x y z u, BlockIs w (B + 2) 107 #[x, y, z, u]
  bl : Below B w0 w
/-- One fraction that came in, and one to come. -/
structure Fo (w0 : World) (B : Nat) (X : Array Value) (w : World) : Prop where
  b0 : BlockIs w B 107 X
  b1 : ∃ x y z u, BlockIs w (B + 1) 107 #[x, y, z, u]
  bl : Below B w0 w
theorem Fq.below {w0 : World} {B : Nat} {X Y : Array Value} {w w' : World} (h : Fq w0 B X Y w) (hb : Below w.heap.size w w') : Fq w0 B X Y w' := by
  obtain ⟨h0, h1, h3⟩ := h
  exact ⟨h0.below hb h0.lt, h1.below hb h1.lt, h3.trans (hb.mono (by have := h0.lt; omega))⟩
theorem Ft.below {w0 : World} {B : Nat} {X Y : Array Value} {w w' : World} (h : Ft w0 B X Y w) (hb : Below w.heap.size w w') : Ft w0 B X Y w' := by
  obtain ⟨h0, h1, ⟨x, y, z, u, h2⟩, h3⟩ := h
  exact ⟨h0.below hb h0.lt, h1.below hb h1.lt, ⟨x, y, z, u, h2.below hb h2.lt⟩, h3.trans (hb.mono (by have := h0.lt; omega))⟩
theorem Fo.below {w0 : World} {B : Nat} {X : Array Value} {w w' : World} (h : Fo w0 B X w) (hb : Below w.heap.size w w') : Fo w0 B X w' := by
  obtain ⟨h0, ⟨x, y, z, u, h2⟩, h3⟩ := h
  exact ⟨h0.below hb h0.lt, ⟨x, y, z, u, h2.below hb h2.lt⟩, h3.trans (hb.mono (by have := h0.lt; omega))⟩
theorem Fq.drew {w0 : World} {B : Nat} {X Y : Array Value} {w : World} (h : Fq w0 B X Y w) : Fq w0 B X Y w.drew := by
  obtain ⟨h0, h1, h3⟩ := h
  exact ⟨h0.drew, h1.drew, h3.drew⟩
theorem Ft.drew {w0 : World} {B : Nat} {X Y : Array Value} {w : World} (h : Ft w0 B X Y w) : Ft w0 B X Y w.drew := by
  obtain ⟨h0, h1, ⟨x, y, z, u, h2⟩, h3⟩ := h
  exact ⟨h0.drew, h1.drew, ⟨x, y, z, u, h2.drew⟩, h3.drew⟩
theorem Fo.drew {w0 : World} {B : Nat} {X : Array Value} {w : World} (h : Fo w0 B X w) : Fo w0 B X w.drew := by
  obtain ⟨h0, ⟨x, y, z, u, h2⟩, h3⟩ := h
  exact ⟨h0.drew, ⟨x, y, z, u, h2.drew⟩, h3.drew⟩
theorem Fq.mag {w0 : World} {B n : Nat} {X Y : Array Value} {v : Value} {w : World} (h : Fq w0 B X Y w) (hB : w0.heap.size = B) (hm : Mag w0 v n) : Mag w v n := hm.below (by rw [hB]; exact h.bl)
theorem Ft.mag {w0 : World} {B n : Nat} {X Y : Array Value} {v : Value} {w : World} (h : Ft w0 B X Y w) (hB : w0.heap.size = B) (hm : Mag w0 v n) : Mag w v n := hm.below (by rw [hB]; exact h.bl)
theorem Fo.mag {w0 : World} {B n : Nat} {X : Array Value} {v : Value} {w : World} (h : Fo w0 B X w) (hB : w0.heap.size = B) (hm : Mag w0 v n) : Mag w v n := hm.below (by rw [hB]; exact h.bl)
theorem Ft.ret {w0 : World} {B : Nat} {X Y : Array Value} {w : World} (h : Ft w0 B X Y w) (x y z u : Value) : Ft w0 B X Y (w.setRow (B + 2) #[x, y, z, u]) ∧ BlockIs (w.setRow (B + 2) #[x, y, z, u]) (B + 2) 107 #[x, y, z, u] := by
  obtain ⟨h0, h1, ⟨_, _, _, _, h2⟩, h3⟩ := h
  exact ⟨⟨h0.rowElse _ (by omega), h1.rowElse _ (by omega), ⟨_, _, _, _, h2.row2 _⟩, below_setRow2 h3 _ (by omega)⟩, h2.row2 _⟩
theorem Fo.ret {w0 : World} {B : Nat} {X : Array Value} {w : World} (h : Fo w0 B X w) (x y z u : Value) : Fo w0 B X (w.setRow (B + 1) #[x, y, z, u]) ∧ BlockIs (w.setRow (B + 1) #[x, y, z, u]) (B + 1) 107 #[x, y, z, u] := by
  obtain ⟨h0, ⟨_, _, _, _, h2⟩, h3⟩ := h
  exact ⟨⟨h0.rowElse _ (by omega), ⟨_, _, _, _, h2.row2 _⟩, below_setRow2 h3 _ (by omega)⟩, h2.row2 _⟩
theorem Fq.start {w W : World} {B : Nat} {X Y : Array Value} (hB : w.heap.size = B) (hW : (w.alloc (.cells X 107)).alloc (.cells Y 107) = W) : Fq w B X Y W := by
  have hs1 : (w.alloc (.cells X 107)).heap.size = B + 1 := by rw [World.size_alloc, hB]
  rw [← hW]
  refine ⟨by rw [← hB]; exact (BlockIs.new _ _ _).alloc _, ?_, (((Below.refl B w).alloc (by omega) _).alloc (by omega) _)⟩
  have := BlockIs.new (w.alloc (.cells X 107)) 107 Y
  rwa [hs1] at this
theorem Fo.start {w W : World} {B : Nat} {X : Array Value} {x y z u : Value} (hB : w.heap.size = B) (hW : (w.alloc (.cells X 107)).alloc (.cells #[x, y, z, u] 107) = W) : Fo w B X W := by
  obtain ⟨h0, h1, h2⟩ := Fq.start hB hW
  exact ⟨h0, ⟨_, _, _, _, h1⟩, h2⟩
theorem Ft.start {w W : World} {B : Nat} {X Y : Array Value} {x y z u : Value} (hB : w.heap.size = B) (hW : ((w.alloc (.cells X 107)).alloc (.cells Y 107)).alloc (.cells #[x, y, z, u] 107) = W) : Ft w B X Y W := by
  obtain ⟨h0, h1, h2⟩ := Fq.start (W := (w.alloc (.cells X 107)).alloc (.cells Y 107)) hB rfl
  have hs2 : ((w.alloc (.cells X 107)).alloc (.cells Y 107)).heap.size = B + 2 := by rw [World.size_alloc, World.size_alloc, hB]
  rw [← hW]
  refine ⟨h0.alloc _, h1.alloc _, ⟨x, y, z, u, ?_⟩, h2.alloc (by omega) _⟩
  have := BlockIs.new ((w.alloc (.cells X 107)).alloc (.cells Y 107)) 107 #[x, y, z, u]
  rwa [hs2] at this
theorem wpFr_store1 {o : Oper} {a : Act} {w : World} {K : Act → World → Prop} {Q : Exit → Act → World → Prop} (x y : Operand) (ho : o.op = .store 107 x y) (B : Nat) {s s' : Bool} {p p' : Option Addr} {l c l' c' : Nat} {u v u' v' : Value}
    (hx : a.eval x = .pointer (some ⟨B, 0, none⟩)) (hy : a.eval y = .agg #[.bool s, .slice p l c, .bool s', .slice p' l' c']) (hB : BlockIs w B 107 #[u, v, u', v']) (h : K (a.put o.dst undef) (w.setRow B #[.bool s, .slice p l c, .bool s', .slice p' l' c'])) : o.wp Tryz.prog a w K Q :=
  wp_store_row 107 x y ho B #[.bool s, .slice p l c, .bool s', .slice p' l' c'] hx hy 107 _ hB (infoFr _ _ _ _) rfl (by simp [Value.oneCell']) h
theorem builtFr (s t : Bool) (u v : Value) : Tryz.prog.built 107 [(0, .agg #[.bool s, u]), (1, .agg #[.bool t, v])] = some #[.bool s, u, .bool t, v] := by
  kernel_rfl
theorem yFr_build {ops : Array Oper} {S : World → Prop} {op : Oper} {a : Act} (hw : Region.wanted op (yielded ops a.tmps) = true) (x y : Operand) (ho : op.op = .build 107 #[(0, x), (1, y)])
    {s t : Bool} {u v : Value} (hx : a.eval x = .agg #[.bool s, u]) (hy : a.eval y = .agg #[.bool t, v]) : YieldsIf Tryz.prog ops S op (.agg #[.bool s, u, .bool t, v]) a :=
  .inl ⟨hw, fun w _ => by
    unfold execOp
    simp only [ho, Sem.run_bind, List.map_toArray, List.map_cons, List.map_nil, hx, hy, run_build w 107 #[(0, .agg #[.bool s, u]), (1, .agg #[.bool t, v])] _ (builtFr s t u v), Result.andThen_ok]
    rfl⟩
end Go.Proofs.YtojgafkkgacpkaaGreatDoor

namespace Go.Proofs.YtojgafkkgacpkaaGreatDoor
open Go.RowKit
set_option maxRecDepth 100000

theorem loadFr {w : World} {B : Nat} {s t : Bool} {x y : Value} (hB : BlockIs w B 107 (frA s x t y)) : (loadVar 107 ⟨B, 0, none⟩).run Tryz.prog w = .ok (.agg (frA s x t y)) w :=
  run_loadVar_row w B 107 107 (frA s x t y) (0, 0) _ hB Tryz.underlying107 rfl (infoFr s x t y)
theorem retFFV {fn : Func} {p q r : Tmp} (h : fn.results = #[.cell p 107, .cell q 107, .tmp r]) (tmps : Array Value) (w : World) (B C : Nat) (hp : tmps.getD p undef = .pointer (some ⟨B, 0, none⟩)) (hq : tmps.getD q undef = .pointer (some ⟨C, 0, none⟩)) {v : Value} (hr : tmps.getD r undef = v) {s t s' t' : Bool} {x y x' y' : Value} (hB : BlockIs w B 107 (frA s x t y)) (hC : BlockIs w C 107 (frA s' x' t' y')) :
    (results fn tmps).run Tryz.prog w = .ok (.tuple #[.agg (frA s x t y), .agg (frA s' x' t' y'), v]) w := by
  have hp' : tmps[p]?.getD undef = .pointer (some ⟨B, 0, none⟩) := by simpa using hp
  have hq' : tmps[q]?.getD undef = .pointer (some ⟨C, 0, none⟩) := by simpa using hq
  have hr' : tmps[r]?.getD undef = v := by simpa using hr
  simp [results, h, hp', hq', hr', asAddr, loadFr hB, loadFr hC]

set_option maxHeartbeats 2000000 in
theorem rReadReal_nums (s : Bool) (a b : Nat) (ha : Num s a) (hb : Num false b) (w : World) :
    Calls Tryz.prog 112 #[.string (bs (ratio s a false b))] w fun e w' => ∃ v', e = .returned v' ∧ FrR w s a false b v' w' := by
  have hla := num_len ha
  have hlb := num_len hb
  have HS := Lib.hid (fun W => rsplit_app (numeral s a) (numeral false b) (numeral_no_slash s a) (numeral_no_slash false b) (by rw [List.length_append, List.length_cons]; omega) W)
  have HRA := Lib.hid (fun W => rRead_num s a ha.sign (num_dig ha) W)
  have HRB := Lib.hid (fun W => rRead_num false b hb.sign (num_dig hb) W)
  obtain ⟨u, hu⟩ : ∃ u, bs (ratio s a false b) = u := ⟨_, rfl⟩
  obtain ⟨x, hx⟩ : ∃ u, bs (numeral s a) = u := ⟨_, rfl⟩
  obtain ⟨y, hy⟩ : ∃ u, bs (numeral false b) = u := ⟨_, rfl⟩
  rw [show bs (numeral s a ++ 47 :: numeral false b) = u from hu, hx, hy] at HS
  rw [hx] at HRA
  rw [hy] at HRB
  rw [hu]
  obtain ⟨B, hB⟩ : ∃ B, w.heap.size = B := ⟨_, rfl⟩
  obtain ⟨W, hW⟩ : ∃ W, w.alloc (.cells #[.bool false, .slice none 0 0, .bool false, .slice none 0 0] 107) = W := ⟨_, rfl⟩
  have HH := Lib.hid (show BlockIs W B 107 #[.bool false, .slice none 0 0, .bool false, .slice none 0 0] ∧ Below B w W by
    rw [← hW, ← hB]
    exact ⟨BlockIs.new _ _ _, (Below.refl _ _).alloc (Nat.le_refl _) _⟩)
  clear hu hx hy hla hlb ha hb
  go_enter Tryz.func112, Tryz.ntmps112
  go_wp2_with (first | (go_at_call 106; refine (HS.out _).mono ?_; rintro e w1 ⟨rfl, hb1⟩; have HB1 := Lib.hid (show BlockIs w1 B 107 #[.bool false, .slice none 0 0, .bool false, .slice none 0 0] ∧ Below B w w1 from ⟨HH.out.1.below hb1 HH.out.1.lt, HH.out.2.trans (hb1.mono (by have := HH.out.1.lt; omega))⟩); clear hb1) | (go_at_call 73; (with_reducible refine (HRA.out _).mono ?_); rintro e w4 ⟨v4, rfl, p4, k4, rfl, hm4, hb4⟩; have HM4 := Lib.hid hm4; have HB4 := Lib.hid (show BlockIs w4 B 107 #[.bool false, .slice none 0 0, .bool false, .slice none 0 0] ∧ Below B w w4 from ⟨HB1.out.1.below hb4 HB1.out.1.lt, HB1.out.2.trans (hb4.mono (by have := HB1.out.1.lt; omega))⟩); clear hm4 hb4) | (go_at_call 73; (with_reducible refine (HRB.out _).mono ?_); rintro e w5 ⟨v5, rfl, p5, k5, rfl, hm5, hb5⟩; have HM5 := Lib.hid hm5; have HM45 := Lib.hid (HM4.out.below hb5); have HB5 := Lib.hid (show BlockIs w5 B 107 #[.bool false, .slice none 0 0, .bool false, .slice none 0 0] ∧ Below B w w5 from ⟨HB4.out.1.below hb5 HB4.out.1.lt, HB4.out.2.trans (hb5.mono (by have := HB4.out.1.lt; omega))⟩); clear hm5 hb5; have f0 := HB5.out.1.at 0; have f1 := HB5.out.1.at 1; have f2 := HB5.out.1.at 2; have f3 := HB5.out.1.at 3; have e0 := HB5.out.1.thawed 0; have e1 := HB5.out.1.thawed 1; have e2 := HB5.out.1.thawed 2; have e3 := HB5.out.1.thawed 3))
  exact bodyPost_ret (retFr rfl _ _ B rfl HB5.out.1.four) rfl ⟨_, rfl, _, _, _, _, rfl, HM45.out.four HB5.out.1, HM5.out.four HB5.out.1, (by rw [hB]; exact below_four HB5.out.2 (by omega))⟩

set_option maxHeartbeats 2000000 in
theorem rWriteReal_any (r : Bool) (p q : Nat) (vp vq : Value) (w : World) (hp : Mag w vp p) (hq : Mag w vq q) (lp : ql p < 20000) (lq : ql q < 20000) (hs : r = true → p ≠ 0) (res : ByteArray) (er : Int) (h : finR r p q = (res, er)) :
    Calls Tryz.prog 96 #[.agg (frA r vp false vq)] w fun e w' => e = .returned (.tuple #[.string res, .int .i64 er]) ∧ Below w.heap.size w w' := by
  obtain ⟨p1, c1, rfl⟩ := hp.len
  obtain ⟨q1, d1, rfl⟩ := hq.len
  obtain ⟨B, hB⟩ : ∃ B, w.heap.size = B := ⟨_, rfl⟩
  obtain ⟨W, hW⟩ : ∃ W, w.alloc (.cells #[.bool r, .slice p1 (ql p) c1, .bool false, .slice q1 (ql q) d1] 107) = W := ⟨_, rfl⟩
  have HH := Lib.hid (show BlockIs W B 107 #[.bool r, .slice p1 (ql p) c1, .bool false, .slice q1 (ql q) d1] ∧ Mag W (.slice p1 (ql p) c1) p ∧ Mag W (.slice q1 (ql q) d1) q ∧ Below B w W by
    have hb : Below w.heap.size w W := by rw [← hW]; exact (Below.refl _ _).alloc (Nat.le_refl _) _
    refine ⟨?_, hp.below hb, hq.below hb, by rw [← hB]; exact hb⟩
    rw [← hW, ← hB]
    exact BlockIs.new _ _ _)
  have c0 := HH.out.1.at 0
  have c2 := HH.out.1.at 1
  have c3 := HH.out.1.at 2
  have c4 := HH.out.1.at 3
  have HX1 : resP r p = if 120 < Lib.nDigits p then (⟨#[]⟩, 4) else (bs (numeral r p), 0) := rfl
  have HX2 : resP false q = if 120 < Lib.nDigits q then (⟨#[]⟩, 4) else (bs (numeral false q), 0) := rfl
  unfold finR at h
  obtain ⟨y1, hy1⟩ : ∃ y, bs (numeral r p) = y := ⟨_, rfl⟩
  obtain ⟨y2, hy2⟩ : ∃ y, bs (numeral false q) = y := ⟨_, rfl⟩
  have hcat := ratio_append r p false q
  have hz1 : y1.size < 1000000000 := by rw [← hy1]; exact numeral_size lp
  have hz2 : y2.size < 1000000000 := by rw [← hy2]; exact numeral_size lq
  rw [hy1, hy2] at hcat
  rw [hy1] at HX1
  rw [hy2] at HX2
  obtain ⟨y3, hy3⟩ : ∃ y, bs (ratio r p false q) = y := ⟨_, rfl⟩
  rw [hy3] at hcat h
  by_cases h1 : 120 < Lib.nDigits p
  · rw [if_pos (Or.inl h1), Prod.mk.injEq] at h
    rw [if_pos h1] at HX1
    obtain ⟨x2, e2, hx2⟩ : ∃ x e, resP false q = (x, e) := ⟨_, _, rfl⟩
    have HR1 := Lib.hid (fun W (hm : Mag W (.slice p1 (ql p) c1) p) => rResult_any r p _ W hm lp hs _ _ HX1)
    have HR2 := Lib.hid (fun W (hm : Mag W (.slice q1 (ql q) d1) q) => rResult_any false q _ W hm lq (by simp) _ _ hx2)
    have HF := Lib.hid (fun W => rFirst_two 4 e2 4 (by simp) W)
    obtain ⟨rfl, rfl⟩ := h
    clear HX1 HX2 hx2 h1 hcat hy1 hy2 hy3 hp hq lp lq hs
    go_enter Tryz.func96, Tryz.ntmps96
    go_wp2_with (first | (go_at_call 77; (with_reducible refine (HR1.out _ HH.out.2.1).mono ?_); rintro e w1 ⟨rfl, hb1⟩; have HH1 := Lib.hid (show BlockIs w1 B 107 #[.bool r, .slice p1 (ql p) c1, .bool false, .slice q1 (ql q) d1] ∧ Mag w1 (.slice q1 (ql q) d1) q ∧ Below B w w1 from ⟨HH.out.1.below hb1 HH.out.1.lt, HH.out.2.2.1.below hb1, HH.out.2.2.2.trans (hb1.mono (by have := HH.out.1.lt; omega))⟩); clear hb1 c0 c2 c3 c4; have c0 := HH1.out.1.at 0; have c2 := HH1.out.1.at 1; have c3 := HH1.out.1.at 2; have c4 := HH1.out.1.at 3) | (go_at_call 77; (with_reducible refine (HR2.out _ HH1.out.2.1).mono ?_); rintro e w2 ⟨rfl, hb2⟩; have HH2 := Lib.hid (HH1.out.2.2.trans (hb2.mono (by have := HH1.out.1.lt; omega))); clear hb2) | (go_at_call 81; refine (HF.out _).mono ?_; rintro e w3 ⟨rfl, rfl⟩))
    go_ret2
    exact ⟨rfl, (by rw [hB]; exact HH2.out.alloc (by have := HH2.out.size; omega) _)⟩
  · rw [if_neg h1] at HX1
    have HR1 := Lib.hid (fun W (hm : Mag W (.slice p1 (ql p) c1) p) => rResult_any r p _ W hm lp hs _ _ HX1)
    by_cases h2 : 120 < Lib.nDigits q
    · rw [if_pos (Or.inr h2), Prod.mk.injEq] at h
      rw [if_pos h2] at HX2
      have HR2 := Lib.hid (fun W (hm : Mag W (.slice q1 (ql q) d1) q) => rResult_any false q _ W hm lq (by simp) _ _ HX2)
      have HF := Lib.hid (fun W => rFirst_two 0 4 4 (by simp) W)
      obtain ⟨rfl, rfl⟩ := h
      clear HX1 HX2 h1 h2 hcat hy1 hy2 hy3 hp hq lp lq hs
      go_enter Tryz.func96, Tryz.ntmps96
      go_wp2_with (first | (go_at_call 77; (with_reducible refine (HR1.out _ HH.out.2.1).mono ?_); rintro e w1 ⟨rfl, hb1⟩; have HH1 := Lib.hid (show BlockIs w1 B 107 #[.bool r, .slice p1 (ql p) c1, .bool false, .slice q1 (ql q) d1] ∧ Mag w1 (.slice q1 (ql q) d1) q ∧ Below B w w1 from ⟨HH.out.1.below hb1 HH.out.1.lt, HH.out.2.2.1.below hb1, HH.out.2.2.2.trans (hb1.mono (by have := HH.out.1.lt; omega))⟩); clear hb1 c0 c2 c3 c4; have c0 := HH1.out.1.at 0; have c2 := HH1.out.1.at 1; have c3 := HH1.out.1.at 2; have c4 := HH1.out.1.at 3) | (go_at_call 77; (with_reducible refine (HR2.out _ HH1.out.2.1).mono ?_); rintro e w2 ⟨rfl, hb2⟩; have HH2 := Lib.hid (HH1.out.2.2.trans (hb2.mono (by have := HH1.out.1.lt; omega))); clear hb2) | (go_at_call 81; refine (HF.out _).mono ?_; rintro e w3 ⟨rfl, rfl⟩))
      go_ret2
      exact ⟨rfl, (by rw [hB]; exact HH2.out.alloc (by have := HH2.out.size; omega) _)⟩
    · rw [if_neg (by rintro (h | h) <;> contradiction), Prod.mk.injEq] at h
      rw [if_neg h2] at HX2
      have HR2 := Lib.hid (fun W (hm : Mag W (.slice q1 (ql q) d1) q) => rResult_any false q _ W hm lq (by simp) _ _ HX2)
      have HF := Lib.hid (fun W => rFirst_two 0 0 0 (by simp) W)
      obtain ⟨rfl, rfl⟩ := h
      have HC := Lib.hid hcat
      clear HX1 HX2 h1 h2 hcat hy1 hy2 hy3 hp hq lp lq hs
      go_enter Tryz.func96, Tryz.ntmps96
      go_wp2_with (first | (go_at_call 77; (with_reducible refine (HR1.out _ HH.out.2.1).mono ?_); rintro e w1 ⟨rfl, hb1⟩; have HH1 := Lib.hid (show BlockIs w1 B 107 #[.bool r, .slice p1 (ql p) c1, .bool false, .slice q1 (ql q) d1] ∧ Mag w1 (.slice q1 (ql q) d1) q ∧ Below B w w1 from ⟨HH.out.1.below hb1 HH.out.1.lt, HH.out.2.2.1.below hb1, HH.out.2.2.2.trans (hb1.mono (by have := HH.out.1.lt; omega))⟩); clear hb1 c0 c2 c3 c4; have c0 := HH1.out.1.at 0; have c2 := HH1.out.1.at 1; have c3 := HH1.out.1.at 2; have c4 := HH1.out.1.at 3) | (go_at_call 77; (with_reducible refine (HR2.out _ HH1.out.2.1).mono ?_); rintro e w2 ⟨rfl, hb2⟩; have HH2 := Lib.hid (HH1.out.2.2.trans (hb2.mono (by have := HH1.out.1.lt; omega))); clear hb2) | (go_at_call 81; refine (HF.out _).mono ?_; rintro e w3 ⟨rfl, rfl⟩))
      go_ret2
      exact ⟨by rw [← HC.out]; rfl, (by rw [hB]; exact HH2.out.alloc (by have := HH2.out.size; omega) _)⟩
end Go.Proofs.YtojgafkkgacpkaaGreatDoor

namespace Go.Proofs.YtojgafkkgacpkaaGreatDoor
open Go.RowKit
set_option maxRecDepth 100000

/-- A check's contract. -/
abbrev CheckIs (f : Nat) (u : ByteArray) (r : Int) : Prop := ∀ W : World, Calls Tryz.prog f #[.string u] W fun e w' => e = .returned (.int .i64 r) ∧ Below W.heap.size W w'
abbrev ReadIs (u : ByteArray) (s : Bool) (a b : Nat) : Prop := ∀ W : World, Calls Tryz.prog 112 #[.string u] W fun e w' => ∃ v', e = .returned v' ∧ FrR W s a false b v' w'
/-- What `two` leaves. -/
def TwoR (w : World) (s : Bool) (a b : Nat) (t : Bool) (c d : Nat) (v : Value) (w' : World) : Prop := ∃ p1 c1 q1 d1 p2 c2 q2 d2, v = .tuple #[.agg (frA s (.slice p1 (ql a) c1) false (.slice q1 (ql b) d1)), .agg (frA t (.slice p2 (ql c) c2) false (.slice q2 (ql d) d2)), .int .i64 0] ∧ Mag w' (.slice p1 (ql a) c1) a ∧ Mag w' (.slice q1 (ql b) d1) b ∧ Mag w' (.slice p2 (ql c) c2) c ∧ Mag w' (.slice q2 (ql d) d2) d ∧ Below w.heap.size w w'
theorem BlockIs.elseFour {w : World} {B C : Nat} {t : TypeId} {cs : Array Value} {x y z u : Value} (h : BlockIs w B t cs) (hn : B ≠ C) : BlockIs (put4 w C x y z u) B t cs :=
  (((h.other _ _ (by simpa using hn)).other _ _ (by simpa using hn)).other _ _ (by simpa using hn)).other _ _ (by simpa using hn)

set_option maxHeartbeats 2000000 in
theorem rTwo_err (u v : ByteArray) (ra rb r : Int) (hA : CheckIs 46 u ra) (hB' : CheckIs 46 v rb) (hr : (if ra = 0 then rb else ra) = r) (h0 : r ≠ 0) (w : World) :
    Calls Tryz.prog 95 #[.string u, .string v] w fun e w' => e = .returned (.tuple #[.agg (frA false (.slice none 0 0) false (.slice none 0 0)), .agg (frA false (.slice none 0 0) false (.slice none 0 0)), .int .i64 r]) ∧ Below w.heap.size w w' := by
  obtain ⟨B, hB⟩ : ∃ B, w.heap.size = B := ⟨_, rfl⟩
  obtain ⟨W, hW⟩ : ∃ W, (w.alloc (.cells #[.bool false, .slice none 0 0, .bool false, .slice none 0 0] 107)).alloc (.cells #[.bool false, .slice none 0 0, .bool false, .slice none 0 0] 107) = W := ⟨_, rfl⟩
  have HS := Lib.hid (Fq.start hB hW)
  have HA := Lib.hid hA
  have HB := Lib.hid hB'
  have HF := Lib.hid (fun W => rFirst_two ra rb r hr W)
  have hr0 : (r != 0) = true := by simpa using h0
  clear hA hB' hr h0
  go_enter Tryz.func95, Tryz.ntmps95
  go_wp2_with (first | (go_at_call 46; (with_reducible refine (HA.out _).mono ?_); rintro e w1 ⟨rfl, hb1⟩; have HB1 := Lib.hid (HS.out.below hb1); clear hb1) | (go_at_call 46; (with_reducible refine (HB.out _).mono ?_); rintro e w2 ⟨rfl, hb2⟩; have HB2 := Lib.hid (HB1.out.below hb2); clear hb2; obtain ⟨w3, hw3⟩ : ∃ w3, w2.alloc (.cells #[.int .i64 ra, .int .i64 rb] 3) = w3 := ⟨_, rfl⟩; have HB3 := Lib.hid (HB2.out.below (w' := w3) (by rw [← hw3]; exact (Below.refl _ _).alloc (Nat.le_refl _) _)); have HF2 := Lib.hid (HF.out w2); rw [hw3] at HF2; have f0 := HB3.out.b0.at 0; have f1 := HB3.out.b0.at 1; have f2 := HB3.out.b0.at 2; have f3 := HB3.out.b0.at 3; have f4 := HB3.out.b1.at 0; have f5 := HB3.out.b1.at 1; have f6 := HB3.out.b1.at 2; have f7 := HB3.out.b1.at 3; have f8 := HB3.out.b0.thawed 0; have f9 := HB3.out.b0.thawed 1; have f10 := HB3.out.b0.thawed 2; have f11 := HB3.out.b0.thawed 3; have f12 := HB3.out.b1.thawed 0; have f13 := HB3.out.b1.thawed 1; have f14 := HB3.out.b1.thawed 2; have f15 := HB3.out.b1.thawed 3) | (go_at_call 81; refine HF2.out.mono ?_; rintro e w4 ⟨rfl, hw4⟩; rw [← hw4]; clear hw4 w4))
  exact bodyPost_ret (retFFV rfl _ _ B (B + 1) rfl rfl rfl ((HB3.out.b0.four).elseFour (by omega)) (HB3.out.b1.elseFour (by omega)).four) rfl ⟨rfl, (by rw [hB]; exact below_four (below_four HB3.out.bl (by omega)) (by omega))⟩

set_option maxHeartbeats 2000000 in
theorem rTwo_ok (u v : ByteArray) (s t : Bool) (a b c d : Nat) (hA : CheckIs 46 u 0) (hB' : CheckIs 46 v 0) (hRA : ReadIs u s a b) (hRB : ReadIs v t c d) (w : World) :
    Calls Tryz.prog 95 #[.string u, .string v] w fun e w' => ∃ v', e = .returned v' ∧ TwoR w s a b t c d v' w' := by
  obtain ⟨B, hB⟩ : ∃ B, w.heap.size = B := ⟨_, rfl⟩
  obtain ⟨W, hW⟩ : ∃ W, (w.alloc (.cells #[.bool false, .slice none 0 0, .bool false, .slice none 0 0] 107)).alloc (.cells #[.bool false, .slice none 0 0, .bool false, .slice none 0 0] 107) = W := ⟨_, rfl⟩
  have HS := Lib.hid (Fq.start hB hW)
  have HA := Lib.hid hA
  have HB := Lib.hid hB'
  have HF := Lib.hid (fun W => rFirst_two 0 0 0 rfl W)
  have HRA := Lib.hid hRA
  have HRB := Lib.hid hRB
  clear hA hB' hRA hRB
  go_enter Tryz.func95, Tryz.ntmps95
  go_wp2_with (first | (go_at_call 46; (with_reducible refine (HA.out _).mono ?_); rintro e w1 ⟨rfl, hb1⟩; have HB1 := Lib.hid (HS.out.below hb1); clear hb1) | (go_at_call 46; (with_reducible refine (HB.out _).mono ?_); rintro e w2 ⟨rfl, hb2⟩; have HB2 := Lib.hid (HB1.out.below hb2); clear hb2; obtain ⟨w3, hw3⟩ : ∃ w3, w2.alloc (.cells #[.int .i64 0, .int .i64 0] 3) = w3 := ⟨_, rfl⟩; have HB3 := Lib.hid (HB2.out.below (w' := w3) (by rw [← hw3]; exact (Below.refl _ _).alloc (Nat.le_refl _) _)); have HF2 := Lib.hid (HF.out w2); rw [hw3] at HF2) | (go_at_call 81; refine HF2.out.mono ?_; rintro e w4 ⟨rfl, hw4⟩; rw [← hw4]; clear hw4 w4) | (go_at_call 112; (with_reducible refine (HRA.out _).mono ?_); rintro e w5 ⟨v5, rfl, p1, c1, q1, d1, rfl, hm5, hn5, hb5⟩; have HB5 := Lib.hid (HB3.out.below hb5); have HM5 := Lib.hid (And.intro hm5 hn5); clear hm5 hn5 hb5) | (go_at_call 112; (with_reducible refine (HRB.out _).mono ?_); rintro e w6 ⟨v6, rfl, p2, c2, q2, d2, rfl, hm6, hn6, hb6⟩; have HB6 := Lib.hid (HB5.out.below hb6); have HM6 := Lib.hid (And.intro hm6 hn6); have HM56 := Lib.hid (And.intro (HM5.out.1.below hb6) (HM5.out.2.below hb6)); clear hm6 hn6 hb6; have f0 := HB6.out.b0.at 0; have f1 := HB6.out.b0.at 1; have f2 := HB6.out.b0.at 2; have f3 := HB6.out.b0.at 3; have f4 := HB6.out.b1.at 0; have f5 := HB6.out.b1.at 1; have f6 := HB6.out.b1.at 2; have f7 := HB6.out.b1.at 3; have f8 := HB6.out.b0.thawed 0; have f9 := HB6.out.b0.thawed 1; have f10 := HB6.out.b0.thawed 2; have f11 := HB6.out.b0.thawed 3; have f12 := HB6.out.b1.thawed 0; have f13 := HB6.out.b1.thawed 1; have f14 := HB6.out.b1.thawed 2; have f15 := HB6.out.b1.thawed 3))
  refine bodyPost_ret (retFFV rfl _ _ B (B + 1) rfl rfl rfl ((HB6.out.b0.four).elseFour (by omega)) (HB6.out.b1.elseFour (by omega)).four) rfl ⟨_, rfl, p1, c1, q1, d1, p2, c2, q2, d2, rfl, ?_, ?_, ?_, ?_, ?_⟩
  · exact (HM56.out.1.four HB6.out.b0).four (HB6.out.b1.elseFour (by omega))
  · exact (HM56.out.2.four HB6.out.b0).four (HB6.out.b1.elseFour (by omega))
  · exact (HM6.out.1.four HB6.out.b0).four (HB6.out.b1.elseFour (by omega))
  · exact (HM6.out.2.four HB6.out.b0).four (HB6.out.b1.elseFour (by omega))
  · rw [hB]; exact below_four (below_four HB6.out.bl (by omega)) (by omega)
end Go.Proofs.YtojgafkkgacpkaaGreatDoor
