/- The reference's bitwise. -/
import Derived.Test.YtjemolaobhlapaaGreatDoorTB
set_option linter.unusedSimpArgs false
set_option linter.unusedVariables false
namespace Go.Proofs.YtjemolaobhlapaaGreatDoor
open Go.RowKit
set_option maxRecDepth 100000

section
variable {P : Program} {ops : Array Oper} {Q : Exit → Act → World → Prop} {md : Region.Mode} {T : Array Bool → World → Prop}
theorem AnyTill.firstP {i : Nat} {oi : Oper} {v : Value} (hi : ops[i]? = some oi) (hTi : ∀ l w, T (l.setIfInBounds i true) w → T l w)
    (hsel : ∀ (j : Nat) (o : Oper) cs b, ops[j]? = some o → o.op ≠ .select cs b) (hQ : ∀ c a w, Q (.panic c) (a.put oi.dst v) w → Q (.panic c) a w) (n : Nat) :
    ∀ (l : Array Bool) (a : Act) (w : World), T (l.setIfInBounds i true) w →
      (∀ j oj, ops[j]? = some oj → j ≠ i → l.getD j true = false → (∀ e ∈ oj.after, Region.binds md e = true → e.on ≠ i) → oi.apart ops oj = true) →
      i ∈ Region.ready md ops l → YieldsIf P ops (fun _ => True) oi v a → AnyTill P md ops Q T n (l.setIfInBounds i true) (a.put oi.dst v) w → AnyTill P md ops Q T (n + 1) l a w := by
  induction n with
  | zero =>
    intro l a w hTw _ hr hy H
    refine ⟨fun h => by rw [h] at hr; exact absurd hr List.not_mem_nil, fun j hj => ?_⟩
    by_cases hji : j = i
    · subst hji
      exact hy.wpOp hi trivial ⟨hTw, H⟩
    · have h1 := ready_mono hj hji
      rw [H.1] at h1
      exact absurd h1 List.not_mem_nil
  | succ n ih =>
    intro l a w hTw hfree hr hy H
    refine ⟨fun h => by rw [h] at hr; exact absurd hr List.not_mem_nil, fun j hj => ?_⟩
    by_cases hji : j = i
    · subst hji
      exact hy.wpOp hi trivial ⟨hTw, H⟩
    · obtain ⟨hju, oj, hoj, hall⟩ := mem_ready.1 hj
      have hiu := (mem_ready.1 hr).1
      have hun : ∀ e ∈ oj.after, Region.binds md e = true → e.on ≠ i := by
        intro e he hb heq
        have h1 := hall e he hb
        rw [heq] at h1
        by_cases hs : i < l.size
        · simp [Array.getD, hs] at h1 hiu
          rw [hiu] at h1
          cases h1
        · simp [Array.getD, hs] at h1
      have h2 := wpOp_putIf hoj (hfree j oj hoj hji hju hun) (fun cs b => hsel i oi cs b hi) (fun cs b => hsel j oj cs b hoj) hQ hy (H.2 j (ready_mono hj hji))
      refine wpOp_mono (fun a' w' h3 => ?_) h2
      have hc : (l.setIfInBounds i true).setIfInBounds j true = (l.setIfInBounds j true).setIfInBounds i true := Array.setIfInBounds_comm _ _ (Ne.symm hji)
      have hT' : T ((l.setIfInBounds j true).setIfInBounds i true) w' := by rw [← hc]; exact h3.2.1
      refine ⟨hTi _ _ hT', ih (l.setIfInBounds j true) a' w' hT' ?_ (ready_mono hr (Ne.symm hji)) h3.1 ?_⟩
      · intro m om hm hmi hmu hmo
        refine hfree m om hm hmi ?_ hmo
        by_cases hjm : j = m
        · subst hjm; exact hju
        · rwa [till_getD hjm] at hmu
      · rw [← hc]
        exact h3.2.2

theorem AnyTill.pure {i k1 k2 : Nat} {S1 S2 : World → Prop} {oi : Oper} {v : Value} {n : Nat} {l : Array Bool} {a : Act} {w : World} (hi : ops[i]? = some oi) (hi1 : i ≠ k1) (hi2 : i ≠ k2)
    (hs : Region.noSelect ops = true) (hf : Region.free md ops l i = true) (hr : (Region.ready md ops l).contains i = true) (hQ : ∀ c a w, Q (.panic c) (a.put oi.dst v) w → Q (.panic c) a w)
    (hy : YieldsIf P ops (fun _ => True) oi v a) (h1 : l.getD k1 false = false → S1 w) (h2 : l.getD k2 false = false → S2 w) (h : AnyTill P md ops Q (Till k1 k2 S1 S2) n (l.setIfInBounds i true) (a.put oi.dst v) w) : AnyTill P md ops Q (Till k1 k2 S1 S2) (n + 1) l a w :=
  AnyTill.firstP hi (fun l w ht => ⟨fun hl => ht.1 (by rw [till_getD hi1]; exact hl), fun hl => ht.2 (by rw [till_getD hi2]; exact hl)⟩) (Region.noSelect_spec hs) hQ n l a w ⟨fun hl => h1 (by rw [till_getD hi1] at hl; exact hl), fun hl => h2 (by rw [till_getD hi2] at hl; exact hl)⟩ (Region.free_spec hi hf) (by simpa using hr) hy h
end
theorem bit5 {a b F : Nat} (hF : opW 5 a b = F) : ∀ j x y : Nat, a / 2 ^ j % 2 = x → b / 2 ^ j % 2 = y → ((x : Int) + (y : Int) == 2) = decide (F / 2 ^ j % 2 = 1) := by
  intro j x y hx hy
  have h := Nat.testBit_and a b j
  rw [show a &&& b = F from hF] at h
  rw [Nat.testBit_eq_decide_div_mod_eq, Nat.testBit_eq_decide_div_mod_eq, Nat.testBit_eq_decide_div_mod_eq, hx, hy] at h
  rw [h]
  have h1 : x = 0 ∨ x = 1 := by omega
  have h2 : y = 0 ∨ y = 1 := by omega
  rcases h1 with rfl | rfl <;> rcases h2 with rfl | rfl <;> decide
theorem bit6 {a b F : Nat} (hF : opW 6 a b = F) : ∀ j x y : Nat, a / 2 ^ j % 2 = x → b / 2 ^ j % 2 = y → decide (0 < (x : Int) + (y : Int)) = decide (F / 2 ^ j % 2 = 1) := by
  intro j x y hx hy
  have h := Nat.testBit_or a b j
  rw [show a ||| b = F from hF] at h
  rw [Nat.testBit_eq_decide_div_mod_eq, Nat.testBit_eq_decide_div_mod_eq, Nat.testBit_eq_decide_div_mod_eq, hx, hy] at h
  rw [h]
  have h1 : x = 0 ∨ x = 1 := by omega
  have h2 : y = 0 ∨ y = 1 := by omega
  rcases h1 with rfl | rfl <;> rcases h2 with rfl | rfl <;> decide
theorem bit7 {a b F : Nat} (hF : opW 7 a b = F) : ∀ j x y : Nat, a / 2 ^ j % 2 = x → b / 2 ^ j % 2 = y → ((x : Int) != (y : Int)) = decide (F / 2 ^ j % 2 = 1) := by
  intro j x y hx hy
  have h := Nat.testBit_xor a b j
  rw [show a ^^^ b = F from hF] at h
  rw [Nat.testBit_eq_decide_div_mod_eq, Nat.testBit_eq_decide_div_mod_eq, Nat.testBit_eq_decide_div_mod_eq, hx, hy] at h
  rw [h]
  have h1 : x = 0 ∨ x = 1 := by omega
  have h2 : y = 0 ∨ y = 1 := by omega
  rcases h1 with rfl | rfl <;> rcases h2 with rfl | rfl <;> decide
theorem fin_of {F j : Nat} (h : F < 2 ^ j) : F % 2 ^ j = F := Nat.mod_eq_of_lt h
theorem low_of {a j : Nat} (h : a / 2 ^ j = 0) : a < 2 ^ j := by
  rcases Nat.lt_or_ge a (2 ^ j) with h1 | h1
  · exact h1
  · have := Nat.div_pos h1 (Nat.pow_pos (by decide)); omega
theorem fin5 {a b F : Nat} (hF : opW 5 a b = F) : ∀ j : Nat, a / 2 ^ j = 0 → b / 2 ^ j = 0 → F % 2 ^ j = F := fun j h1 h2 => fin_of (by rw [← hF]; exact Nat.and_lt_two_pow a (low_of h2))
theorem fin6 {a b F : Nat} (hF : opW 6 a b = F) : ∀ j : Nat, a / 2 ^ j = 0 → b / 2 ^ j = 0 → F % 2 ^ j = F := fun j h1 h2 => fin_of (by rw [← hF]; exact Nat.or_lt_two_pow (low_of h1) (low_of h2))
theorem fin7 {a b F : Nat} (hF : opW 7 a b = F) : ∀ j : Nat, a / 2 ^ j = 0 → b / 2 ^ j = 0 → F % 2 ^ j = F := fun j h1 h2 => fin_of (by rw [← hF]; exact Nat.xor_lt_two_pow (low_of h1) (low_of h2))
def pickN (c : Bool) (x y : Nat) : Nat := match c with | true => x | false => y
theorem bit_next {F j : Nat} {c : Bool} (h : decide (F / 2 ^ j % 2 = 1) = c) : F % 2 ^ (j + 1) = pickN c (F % 2 ^ j + 2 ^ j) (F % 2 ^ j) := by
  rw [Nat.mod_pow_succ, ← h]
  by_cases h1 : F / 2 ^ j % 2 = 1
  · rw [decide_eq_true h1, h1, Nat.mul_one]; rfl
  · rw [decide_eq_false h1, show F / 2 ^ j % 2 = 0 by omega, Nat.mul_zero, Nat.add_zero]; rfl
theorem half {a j : Nat} : a / 2 ^ j / 2 = a / 2 ^ (j + 1) := by rw [Nat.div_div_eq_div_mul, Nat.pow_succ]
theorem half_lt {a j : Nat} (ha : a < 18446744073709551616) (h : a / 2 ^ j ≠ 0) : j < 64 := by
  rcases Nat.lt_or_ge j 64 with h1 | h1
  · exact h1
  · exfalso
    apply h
    apply Nat.div_eq_of_lt
    have h2 : (2 : Nat) ^ 64 ≤ 2 ^ j := Nat.pow_le_pow_right (by decide) h1
    have h3 : (2 : Nat) ^ 64 = 18446744073709551616 := by decide
    omega
structure Bw (w0 : World) (B D : Nat) (pa : Option Addr) (na ca : Nat) (pb : Option Addr) (nb cb : Nat) (po : Option Addr) (no co : Nat) (pp : Option Addr) (np cp : Nat) (w : World) : Prop where
  bg : Bg w0 B (.bool false) (.slice pa (ql na) ca) (.bool false) (.slice pb (ql nb) cb) w
  bo : BlockIs w D 74 #[.bool false, .slice po (ql no) co]
  bp : BlockIs w (D + 1) 74 #[.bool false, .slice pp (ql np) cp]
  ma : Mag w (.slice pa (ql na) ca) na
  mb : Mag w (.slice pb (ql nb) cb) nb
  mo : Mag w (.slice po (ql no) co) no
  mp : Mag w (.slice pp (ql np) cp) np
  hD : B + 3 ≤ D
theorem Bw.below {w0 : World} {B D : Nat} {pa : Option Addr} {na ca : Nat} {pb : Option Addr} {nb cb : Nat} {po : Option Addr} {no co : Nat} {pp : Option Addr} {np cp : Nat} {w w' : World} (h : Bw w0 B D pa na ca pb nb cb po no co pp np cp w) (hb : Below w.heap.size w w') : Bw w0 B D pa na ca pb nb cb po no co pp np cp w' :=
  ⟨h.bg.below hb, h.bo.below hb h.bo.lt, h.bp.below hb h.bp.lt, h.ma.below hb, h.mb.below hb, h.mo.below hb, h.mp.below hb, h.hD⟩
theorem Bw.drew {w0 : World} {B D : Nat} {pa : Option Addr} {na ca : Nat} {pb : Option Addr} {nb cb : Nat} {po : Option Addr} {no co : Nat} {pp : Option Addr} {np cp : Nat} {w : World} (h : Bw w0 B D pa na ca pb nb cb po no co pp np cp w) : Bw w0 B D pa na ca pb nb cb po no co pp np cp w.drew :=
  ⟨h.bg.drew, h.bo.drew, h.bp.drew, h.ma.drew, h.mb.drew, h.mo.drew, h.mp.drew, h.hD⟩
theorem Bw.seto {w0 : World} {B D : Nat} {pa : Option Addr} {na ca : Nat} {pb : Option Addr} {nb cb : Nat} {po : Option Addr} {no co : Nat} {pp : Option Addr} {np cp : Nat} {w w' : World} (h : Bw w0 B D pa na ca pb nb cb po no co pp np cp w) {o : Option Addr} {n k : Nat} (hm : Mag w (.slice o (ql n) k) n) (hw : (w.setCell ⟨D, 0, none⟩ (.bool false)).setCell ⟨D, 1, none⟩ (.slice o (ql n) k) = w') : Bw w0 B D pa na ca pb nb cb o n k pp np cp w' := by
  subst hw
  have hd := h.hD
  exact ⟨(h.bg.set _ hd).set _ hd, h.bo.two, (h.bp.other _ _ (by simp)).other _ _ (by simp), h.ma.two h.bo, h.mb.two h.bo, hm.two h.bo, h.mp.two h.bo, hd⟩
theorem Bw.setp {w0 : World} {B D : Nat} {pa : Option Addr} {na ca : Nat} {pb : Option Addr} {nb cb : Nat} {po : Option Addr} {no co : Nat} {pp : Option Addr} {np cp : Nat} {w w' : World} (h : Bw w0 B D pa na ca pb nb cb po no co pp np cp w) {o : Option Addr} {n k : Nat} (hm : Mag w (.slice o (ql n) k) n) (hw : (w.setCell ⟨D + 1, 0, none⟩ (.bool false)).setCell ⟨D + 1, 1, none⟩ (.slice o (ql n) k) = w') : Bw w0 B D pa na ca pb nb cb po no co o n k w' := by
  subst hw
  have hd := h.hD
  exact ⟨(h.bg.set _ (by omega)).set _ (by omega), (h.bo.other _ _ (by simp)).other _ _ (by simp), h.bp.two, h.ma.two h.bp, h.mb.two h.bp, h.mo.two h.bp, hm.two h.bp, hd⟩
theorem Bw.rowa {w0 : World} {B D : Nat} {pa : Option Addr} {na ca : Nat} {pb : Option Addr} {nb cb : Nat} {po : Option Addr} {no co : Nat} {pp : Option Addr} {np cp : Nat} {w : World} (h : Bw w0 B D pa na ca pb nb cb po no co pp np cp w) {o : Option Addr} {n k : Nat} (hm : Mag w (.slice o (ql n) k) n) : Bw w0 B D o n k pb nb cb po no co pp np cp (w.setRow B #[.bool false, .slice o (ql n) k]) := by
  obtain ⟨⟨h0, h1, ⟨x, y, h2⟩, h3⟩, h4, h5, h6, h7, h8, h9, hd⟩ := h
  exact ⟨⟨h0.row2 _, h1.rowElse _ (by omega), ⟨x, y, h2.rowElse _ (by omega)⟩, below_setRow2 h3 _ (Nat.le_refl _)⟩, h4.rowElse _ (by omega), h5.rowElse _ (by omega), hm.row h0, h7.row h0, h8.row h0, h9.row h0, hd⟩
theorem Bw.rowb {w0 : World} {B D : Nat} {pa : Option Addr} {na ca : Nat} {pb : Option Addr} {nb cb : Nat} {po : Option Addr} {no co : Nat} {pp : Option Addr} {np cp : Nat} {w : World} (h : Bw w0 B D pa na ca pb nb cb po no co pp np cp w) {o : Option Addr} {n k : Nat} (hm : Mag w (.slice o (ql n) k) n) : Bw w0 B D pa na ca o n k po no co pp np cp (w.setRow (B + 1) #[.bool false, .slice o (ql n) k]) := by
  obtain ⟨⟨h0, h1, ⟨x, y, h2⟩, h3⟩, h4, h5, h6, h7, h8, h9, hd⟩ := h
  exact ⟨⟨h0.rowElse _ (by omega), h1.row2 _, ⟨x, y, h2.rowElse _ (by omega)⟩, below_setRow2 h3 _ (by omega)⟩, h4.rowElse _ (by omega), h5.rowElse _ (by omega), h6.row h1, hm.row h1, h8.row h1, h9.row h1, hd⟩
theorem Bw.start {w W0 w5 W6 W7 : World} {B D na ca nb cb no co np cp : Nat} {pa pb po pp : Option Addr} (hB : w.heap.size = B) (ha : Mag w (.slice pa (ql na) ca) na) (hb : Mag w (.slice pb (ql nb) cb) nb)
    (hW0 : ((w.alloc (.cells #[.bool false, .slice pa (ql na) ca] 74)).alloc (.cells #[.bool false, .slice pb (ql nb) cb] 74)).alloc (.cells #[.bool false, .slice none 0 0] 74) = W0) (h5 : Below W0.heap.size W0 w5) (hD : w5.heap.size = D) (hmo : Mag w5 (.slice po (ql no) co) no) (hmp : Mag w5 (.slice pp (ql np) cp) np)
    (hW6 : (w5.alloc (.cells #[.bool false, .slice none 0 0] 74)).alloc (.cells #[.bool false, .slice none 0 0] 74) = W6) (hW7 : (((W6.setCell ⟨D, 0, none⟩ (.bool false)).setCell ⟨D, 1, none⟩ (.slice po (ql no) co)).setCell ⟨D + 1, 0, none⟩ (.bool false)).setCell ⟨D + 1, 1, none⟩ (.slice pp (ql np) cp) = W7) :
    Bg2 w5 D (.bool false) (.slice none 0 0) (.bool false) (.slice none 0 0) W6 ∧ Bw w B D pa na ca pb nb cb po no co pp np cp W7 := by
  have hg := Bg.start hB hW0
  have hma := hg.mag hB ha
  have hmb := hg.mag hB hb
  have h6 := Bg2.start hD hW6
  have hg5 := hg.below h5
  have hs := hg.b1.lt
  have hs2 : B + 3 ≤ W0.heap.size := by obtain ⟨x, y, h⟩ := hg.b2; exact h.lt
  have hs5 := h5.size
  have hd : B + 3 ≤ D := by omega
  have hb6 : Below w5.heap.size w5 W6 := by rw [hD]; exact h6.bl
  have hg6 := hg5.below hb6
  have e1 := (h6.b1.other ⟨D, 0, none⟩ (.bool false) (by simp)).other ⟨D, 1, none⟩ (.slice po (ql no) co) (by simp)
  subst hW7
  exact ⟨h6, (((hg6.set _ hd).set _ hd).set _ (by omega)).set _ (by omega), (h6.b0.two.other ⟨D + 1, 0, none⟩ _ (by simp)).other ⟨D + 1, 1, none⟩ _ (by simp), e1.two,
    (((hma.below h5).below hb6).two h6.b0).two e1, (((hmb.below h5).below hb6).two h6.b0).two e1, ((hmo.below hb6).two h6.b0).two e1, ((hmp.below hb6).two h6.b0).two e1, hd⟩
theorem rSmall_two (w : World) : Calls Tryz.prog 68 #[.int .i64 2] w fun e w' => ∃ v', e = .returned v' ∧ BigR w false 2 v' w' := rSmall_nat 2 (by omega) w
theorem rSmall_zero (w : World) : Calls Tryz.prog 68 #[.int .i64 0] w fun e w' => ∃ v', e = .returned v' ∧ BigR w false 0 v' w' := rSmall_nat 0 (by omega) w
theorem limb_low {n xv : Nat} (h : n % 2 = xv) : ∃ xa : Nat, (if 0 < ql n then dq n 0 else 0) = xa ∧ ((xa : Int).tmod 2 = (xv : Int)) := by
  refine ⟨_, rfl, ?_⟩
  rw [Int.tmod_eq_emod_of_nonneg (by omega)]
  by_cases h0 : 0 < ql n
  · rw [if_pos h0]; unfold dq; rw [show qw 0 = 1 from rfl, Nat.div_one]; omega
  · rw [if_neg h0]
    have := ql_eq_zero.1 (show ql n = 0 by omega)
    omega

set_option maxHeartbeats 8000000 in
theorem rBitwise_any (i a b F : Nat) (hi : i = 5 ∨ i = 6 ∨ i = 7) (ha : a < 18446744073709551616) (hb : b < 18446744073709551616) (hF : opW i a b = F) (hFl : F < 18446744073709551616) (va vb : Value) (w : World) (hma : Mag w va a) (hmb : Mag w vb b) :
    Calls Tryz.prog 120 #[.int .i64 i, .agg #[.bool false, va], .agg #[.bool false, vb]] w fun e w' => ∃ v', e = .returned v' ∧ BigR w false F v' w' := by
  obtain ⟨pa0, ca0, rfl⟩ := hma.len
  obtain ⟨pb0, cb0, rfl⟩ := hmb.len
  obtain ⟨B, hB⟩ : ∃ B, w.heap.size = B := ⟨_, rfl⟩
  obtain ⟨W0, hW0⟩ : ∃ W0, ((w.alloc (.cells #[.bool false, .slice pa0 (ql a) ca0] 74)).alloc (.cells #[.bool false, .slice pb0 (ql b) cb0] 74)).alloc (.cells #[.bool false, .slice none 0 0] 74) = W0 := ⟨_, rfl⟩
  have HI := Lib.hid (And.intro hB (And.intro hma (And.intro hmb hW0)))
  have HS0 := Lib.hid (fun W => rSmall_zero W)
  have HS1 := Lib.hid (fun W => rSmall_one W)
  have HAB := Lib.hid (And.intro ha (And.intro hb hFl))
  clear hma hmb ha hb hFl
  rcases hi with rfl | rfl | rfl
  all_goals
    first | (with_reducible have HE := Lib.hid (And.intro (bit5 hF) (fin5 hF))) | (with_reducible have HE := Lib.hid (And.intro (bit6 hF) (fin6 hF))) | (with_reducible have HE := Lib.hid (And.intro (bit7 hF) (fin7 hF)))
    simp only [show ((5 : Nat) : Int) = 5 from rfl, show ((6 : Nat) : Int) = 6 from rfl, show ((7 : Nat) : Int) = 7 from rfl]
    clear hF
    go_enter Tryz.func120, Tryz.ntmps120
    go_wp2_with (first | (go_at_call 68; (with_reducible refine (HS0.out _).mono ?_); rintro e w4 ⟨v4, rfl, p4, k4, rfl, hm4, hb4⟩; have HM4 := Lib.hid hm4; have HB4 := Lib.hid hb4; clear hm4 hb4) | (go_at_call 68; (with_reducible refine (HS1.out _).mono ?_); rintro e w5 ⟨v5, rfl, p5, k5, rfl, hm5, hb5⟩; have HM45 := Lib.hid (HM4.out.below hb5); have HB5 := Lib.hid (HB4.out.trans (hb5.mono HB4.out.size)); obtain ⟨D, hD⟩ : ∃ D, w5.heap.size = D := ⟨_, rfl⟩; obtain ⟨W6, hW6⟩ : ∃ W6, (w5.alloc (.cells #[.bool false, .slice none 0 0] 74)).alloc (.cells #[.bool false, .slice none 0 0] 74) = W6 := ⟨_, rfl⟩; obtain ⟨W7, hW7⟩ : ∃ W7, (((W6.setCell ⟨D, 0, none⟩ (.bool false)).setCell ⟨D, 1, none⟩ (.slice p4 (ql 0) k4)).setCell ⟨D + 1, 0, none⟩ (.bool false)).setCell ⟨D + 1, 1, none⟩ (.slice p5 (ql 1) k5) = W7 := ⟨_, rfl⟩; have HX := Lib.hid (Bw.start HI.out.1 HI.out.2.1 HI.out.2.2.1 HI.out.2.2.2 HB5.out hD HM45.out hm5 hW6 hW7); clear hm5 hb5; have g0 := HX.out.1.b0.at 0; have g1 := HX.out.1.b0.at 1; have g2 := HX.out.1.b1.at 0; have g3 := HX.out.1.b1.at 1; have g4 := HX.out.1.b0.thawed 0; have g5 := HX.out.1.b0.thawed 1; have g6 := HX.out.1.b1.thawed 0; have g7 := HX.out.1.b1.thawed 1))
    clear g0 g1 g2 g3 g4 g5 g6 g7 hW6 hW7 hW0
    have HX2 := Lib.hid (show Bw w B D pa0 (a / 2 ^ 0) ca0 pb0 (b / 2 ^ 0) cb0 p4 (F % 2 ^ 0) k4 p5 (2 ^ 0) k5 W7 by
      have h := HX.out.2
      rw [Nat.pow_zero, Nat.div_one, Nat.div_one, Nat.mod_one]
      exact h)
    clear HX HM4 HB4 HM45 HB5
    go_loopg [9, 10] (a + b) (fun g _ _ wr => ∃ j : Nat, j ≤ 64 ∧ a / 2 ^ j + b / 2 ^ j ≤ g ∧ Hid (∃ pa ca pb cb po co pp cp, Bw w B D pa (a / 2 ^ j) ca pb (b / 2 ^ j) cb po (F % 2 ^ j) co pp (2 ^ j) cp wr))
    case atStart => exact ⟨0, by omega, by rw [Nat.pow_zero, Nat.div_one, Nat.div_one]; exact Nat.le_refl _, _, _, _, _, _, _, _, _, HX2.out⟩
    case round =>
      clear HX2
      obtain ⟨j, hj, hg, HC⟩ := hrel
      obtain ⟨pa, ca, pb, cb, po, co, pp, cp, HC⟩ := HC.out
      have HJ := Lib.hid (And.intro hj hg)
      have HNX := Lib.hid (fun c h => @bit_next F j c h)
      have HHA := Lib.hid (@half a j)
      have HHB := Lib.hid (@half b j)
      have HLA0 := Lib.hid (@half_lt a j HAB.out.1)
      have HLB0 := Lib.hid (@half_lt b j HAB.out.2.1)
      have HP2 := Lib.hid (show 2 ^ j + 2 ^ j = 2 ^ (j + 1) by rw [Nat.pow_succ]; omega)
      have hqp := pow2_ql hj
      have hql : ql (a / 2 ^ j) ≤ 5 := word_ql (Nat.lt_of_le_of_lt (Nat.div_le_self _ _) HAB.out.1)
      have hqm : ql (b / 2 ^ j) ≤ 5 := word_ql (Nat.lt_of_le_of_lt (Nat.div_le_self _ _) HAB.out.2.1)
      have hqo : ql (F % 2 ^ j) ≤ 5 := word_ql (Nat.lt_of_le_of_lt (Nat.mod_le _ _) HAB.out.2.2)
      obtain ⟨xv, hxv⟩ : ∃ x, a / 2 ^ j % 2 = x := ⟨_, rfl⟩
      obtain ⟨yv, hyv⟩ : ∃ y, b / 2 ^ j % 2 = y := ⟨_, rfl⟩
      have hE := HE.out.1 j xv yv hxv hyv
      obtain ⟨cc, hcc⟩ : ∃ c, decide (F / 2 ^ j % 2 = 1) = c := ⟨_, rfl⟩
      rw [hcc] at hE
      have hN := HNX.out cc hcc
      obtain ⟨xa, hxa1, hxa⟩ := limb_low hxv
      obtain ⟨ya, hya1, hya⟩ := limb_low hyv
      have HLA := Lib.hid (fun (W : World) (h : Mag W (.slice pa (ql (a / 2 ^ j)) ca) (a / 2 ^ j)) => rLimb_zero _ _ W h xa hxa1)
      have HLB := Lib.hid (fun (W : World) (h : Mag W (.slice pb (ql (b / 2 ^ j)) cb) (b / 2 ^ j)) => rLimb_zero _ _ W h ya hya1)
      have hx2 : xv < 2 := by omega
      have hy2 : yv < 2 := by omega
      have HEX := Lib.hid (HE.out.2 j)
      have HPO := Lib.hid (fun (v u : Value) W (h1 : Mag W v (F % 2 ^ j)) (h2 : Mag W u (2 ^ j)) => rPlusB_any false false (F % 2 ^ j) (2 ^ j) v u W h1 h2 (by omega) (by omega) false (F % 2 ^ j + 2 ^ j) (by unfold sumB; rw [if_pos rfl]) false rfl)
      have HPP := Lib.hid (fun (v u : Value) W (h1 : Mag W v (2 ^ j)) (h2 : Mag W u (2 ^ j)) => rPlusB_any false false (2 ^ j) (2 ^ j) v u W h1 h2 (by omega) (by omega) false (2 ^ j + 2 ^ j) (by unfold sumB; rw [if_pos rfl]) false rfl)
      have q2 : ql 2 < 20000 := by have := word_ql (v := 2) (by omega); omega
      have HOA := Lib.hid (fun (v u : Value) W (h1 : Mag W v (a / 2 ^ j)) (h2 : Mag W u 2) => rOverB_any false false (a / 2 ^ j) 2 v u W h1 h2 (by omega) q2 (by omega) (a / 2 ^ j / 2) (a / 2 ^ j % 2) rfl false rfl)
      have HOB := Lib.hid (fun (v u : Value) W (h1 : Mag W v (b / 2 ^ j)) (h2 : Mag W u 2) => rOverB_any false false (b / 2 ^ j) 2 v u W h1 h2 (by omega) q2 (by omega) (b / 2 ^ j / 2) (b / 2 ^ j % 2) rfl false rfl)
      have HQ := Lib.hid (And.intro (@ql_eq_zero (a / 2 ^ j)) (@ql_eq_zero (b / 2 ^ j)))
      obtain ⟨na, hna⟩ : ∃ n, a / 2 ^ j = n := ⟨_, rfl⟩
      obtain ⟨nb, hnb⟩ : ∃ n, b / 2 ^ j = n := ⟨_, rfl⟩
      obtain ⟨no, hno⟩ : ∃ n, F % 2 ^ j = n := ⟨_, rfl⟩
      obtain ⟨np, hnp⟩ : ∃ n, 2 ^ j = n := ⟨_, rfl⟩
      rw [hna, hnb, hno, hnp] at HC
      rw [hna] at HLA HOA HHA HLA0 HEX
      rw [hnb] at HLB HOB HHB HLB0 HEX
      rw [hno, hnp] at HPO hN
      rw [hnp] at HPP HP2
      rw [hno] at HEX
      rw [hna, hnb] at HQ HJ
      have HC := Lib.hid HC
      have HN := Lib.hid hN
      clear hna hnb hno hnp hxv hyv hxa1 hya1 hcc hN HNX hqp hql hqm hqo q2 hg hj
      have c1 := HC.out.bg.b0.at 1
      have c3 := HC.out.bg.b1.at 1
      by_cases hz : na = 0 ∧ nb = 0
      · obtain ⟨h1, h2⟩ := hz
        have HZ := Lib.hid (HEX.out h1 h2)
        subst h1
        subst h2
        rw [ql_zero] at c1 c3
        obtain ⟨_, _, hd⟩ := HC.out.bg.b2
        have HD := Lib.hid hd
        have d0 := HD.out.at 0
        have d1 := HD.out.at 1
        have e0 := HD.out.thawed 0
        have e1 := HD.out.thawed 1
        have k0 := HC.out.bo.at 0
        have k1 := HC.out.bo.at 1
        clear hd hE
        go_wp2
        have hbl := (HC.out.bg.bl.setCell (p := ⟨B + 2, 0, none⟩) (by simp) (.bool false)).setCell (p := ⟨B + 2, 1, none⟩) (by simp) (.slice po (ql no) co)
        exact bodyPost_ret (retBig rfl _ _ (B + 2) rfl HD.out.two) rfl ⟨_, rfl, po, co, by rw [HZ.out], by rw [← HZ.out]; exact HC.out.mo.two HD.out, HI.out.1 ▸ hbl⟩
      · have HNZ := Lib.hid hz
        have hu : (decide (0 < ql na) = true) ∨ (decide (0 < ql na) = false ∧ decide (0 < ql nb) = true) := by
          by_cases h1 : 0 < ql na
          · exact Or.inl (by simpa using h1)
          · refine Or.inr ⟨by simpa using h1, ?_⟩
            have h2 : ql na = 0 := by omega
            have h3 := HQ.out.1.1 h2
            have h4 : ql nb ≠ 0 := fun h => hz ⟨h3, HQ.out.2.1 h⟩
            simp; omega
        clear hz
        rcases hu with hu | ⟨hu, hv⟩
        all_goals
          go_wp2
          clear c1 c3
          obtain ⟨wd, hwd⟩ : ∃ wd, wr.drew = wd := ⟨_, rfl⟩
          have hS0 := HC.out.drew
          refine wp_region_held_drew (S := fun w' => Bw w B D pa na ca pb nb cb po no co pp np cp w') (by kernel_rfl) hS0 (fun hS => ?_)
          rw [hwd] at hS hS0 ⊢
          clear hwd
          refine wpAnyH_take (i := 0) (v := .pointer (some ⟨B, 1, none⟩)) rfl (by kernel_rfl) (by kernel_rfl) (by kernel_rfl) (fun _ _ _ h => h) (Or.inl ⟨by rfl, fun w' h => by go_simp⟩) hS ?_
          try simp only [A1, A2, A3, Act.put, A4, A5, A6]
          refine wpAnyH_take (i := 1) (v := .slice pa (ql na) ca) rfl (by kernel_rfl) (by kernel_rfl) (by kernel_rfl) (fun _ _ _ h => h) (Or.inl ⟨by rfl, fun w' h => by have c : w'.cell? ⟨B, 1, none⟩ = some (.slice pa (ql na) ca) := h.bg.b0.at 1; go_simp⟩) hS ?_
          try simp only [A1, A2, A3, Act.put, A4, A5, A6]
          refine wpAnyH_take (i := 4) (v := .pointer (some ⟨B + 1, 1, none⟩)) rfl (by kernel_rfl) (by kernel_rfl) (by kernel_rfl) (fun _ _ _ h => h) (Or.inl ⟨by rfl, fun w' h => by go_simp⟩) hS ?_
          try simp only [A1, A2, A3, Act.put, A4, A5, A6]
          refine wpAnyH_take (i := 5) (v := .slice pb (ql nb) cb) rfl (by kernel_rfl) (by kernel_rfl) (by kernel_rfl) (fun _ _ _ h => h) (Or.inl ⟨by rfl, fun w' h => by have c : w'.cell? ⟨B + 1, 1, none⟩ = some (.slice pb (ql nb) cb) := h.bg.b1.at 1; go_simp⟩) hS ?_
          try simp only [A1, A2, A3, Act.put, A4, A5, A6]
          refine wpAnyH_ready (rs := [2]) (by kernel_rfl) (by simp) (AllReadyH.cons rfl (fun K hK => ?_) AllReadyH.nil)
          go_simp
          go_at_call 141
          refine (HLA.out _ hS0.ma).mono ?_
          rintro e w5 ⟨rfl, rfl⟩
          have hT := hS
          clear hS
          refine hK.out _ _ hT (fun hS => ?_)
          clear hK K
          try simp only [A1, A2, A3, Act.put, A4, A5, A6]
          clear hT
          refine wpAnyH_take (i := 3) (v := .int .i64 xv) rfl (by kernel_rfl) (by kernel_rfl) (by kernel_rfl) (fun _ _ _ h => h) (Or.inl ⟨by rfl, fun w' _ => by go_simp <;> simp only [hxa]⟩) hS ?_
          try simp only [A1, A2, A3, Act.put, A4, A5, A6]
          refine wpAnyH_ready (rs := [6]) (by kernel_rfl) (by simp) (AllReadyH.cons rfl (fun K hK => ?_) AllReadyH.nil)
          go_simp
          go_at_call 141
          refine (HLB.out _ hS0.mb).mono ?_
          rintro e w5 ⟨rfl, rfl⟩
          have hT := hS
          clear hS
          refine hK.out _ _ hT (fun hS => ?_)
          clear hK K
          try simp only [A1, A2, A3, Act.put, A4, A5, A6]
          clear hT
          refine wpAnyH_take (i := 7) (v := .int .i64 yv) rfl (by kernel_rfl) (by kernel_rfl) (by kernel_rfl) (fun _ _ _ h => h) (Or.inl ⟨by rfl, fun w' _ => by go_simp <;> simp only [hya]⟩) hS ?_
          try simp only [A1, A2, A3, Act.put, A4, A5, A6]
          refine wpAnyH_take (i := 8) (v := .int .i64 xv) rfl (by kernel_rfl) (by kernel_rfl) (by kernel_rfl) (fun _ _ _ h => h) (Or.inl ⟨by rfl, fun w' _ => by rfl⟩) hS ?_
          try simp only [A1, A2, A3, Act.put, A4, A5, A6]
          refine wpAnyH_take (i := 9) (v := .int .i64 yv) rfl (by kernel_rfl) (by kernel_rfl) (by kernel_rfl) (fun _ _ _ h => h) (Or.inl ⟨by rfl, fun w' _ => by rfl⟩) hS ?_
          try simp only [A1, A2, A3, Act.put, A4, A5, A6]
          refine wpAnyH_done (by kernel_rfl) ?_ _
          replace HC := Lib.hid hS0
          clear hS0
          have k0 := HC.out.bo.at 0
          have k1 := HC.out.bo.at 1
          have k2 := HC.out.bp.at 0
          have k3 := HC.out.bp.at 1
          cases cc
          all_goals
            go_wp2_with (first | (go_at_call 82; (with_reducible refine (HPO.out _ _ _ HC.out.mo HC.out.mp).mono ?_); rintro e w5 ⟨v5, rfl, p5, k5, rfl, hm5, hb5⟩; have H5 := Lib.hid (HC.out.below hb5); obtain ⟨W6, hW6⟩ : ∃ W6, (w5.setCell ⟨D, 0, none⟩ (.bool false)).setCell ⟨D, 1, none⟩ (.slice p5 (ql (no + np)) k5) = W6 := ⟨_, rfl⟩; replace HC := Lib.hid (H5.out.seto hm5 hW6); clear hm5 hb5 k0 k1 k2 k3; have d0 := H5.out.bo.at 0; have d1 := H5.out.bo.at 1; have d2 := H5.out.bo.thawed 0; have d3 := H5.out.bo.thawed 1; have k0 := HC.out.bo.at 0; have k1 := HC.out.bo.at 1; have k2 := HC.out.bp.at 0; have k3 := HC.out.bp.at 1) | (go_at_call 82; (with_reducible refine (HPP.out _ _ _ HC.out.mp HC.out.mp).mono ?_); rintro e w7 ⟨v7, rfl, p7, k7, rfl, hm7, hb7⟩; have H7 := Lib.hid (HC.out.below hb7); obtain ⟨W8, hW8⟩ : ∃ W8, (w7.setCell ⟨D + 1, 0, none⟩ (.bool false)).setCell ⟨D + 1, 1, none⟩ (.slice p7 (ql (np + np)) k7) = W8 := ⟨_, rfl⟩; replace HC := Lib.hid (H7.out.setp hm7 hW8); clear hm7 hb7 k0 k1 k2 k3; have l0 := H7.out.bp.at 0; have l1 := H7.out.bp.at 1; have l2 := H7.out.bp.thawed 0; have l3 := H7.out.bp.thawed 1))
            try clear d0 d1 d2 d3
            clear l0 l1 l2 l3 hW8
            obtain ⟨Wa, hWa⟩ : ∃ W, W8.drew = W := ⟨_, rfl⟩
            have hS0a := HC.out.drew
            refine AnyTill.region (T := Till 2 6 (fun w' => BlockIs w' (B) 74 #[.bool false, .slice pa (ql na) ca]) (fun _ => True)) (by kernel_rfl) ?_
            rw [hWa] at hS0a ⊢
            clear hWa
            refine AnyTill.take1 (i := 0) rfl rfl (by kernel_rfl) (by omega) (by omega) (by kernel_rfl) (by kernel_rfl) (by kernel_rfl) (by kernel_rfl) (fun _ _ _ h => h) (yB_load rfl (.tmp 4) rfl (B) rfl (fun w' h => h)) hS0a.bg.b0 trivial ?_
            try simp only [A1, A2, A3, Act.put, A4, A5, A6]
            refine AnyTill.ready (i := 1) (by kernel_rfl) rfl (fun K hK => ?_)
            rw [if_pos (by rfl)]
            refine wp_callE 68 _ _ rfl _ (by kernel_rfl) (by kernel_rfl) (R := BigR Wa false 2) (rSmall_two Wa) (fun v6 w6a hR6 => ?_)
            obtain ⟨p6, k6, rfl, hm6, hb6⟩ := hR6
            have hS6a := hS0a.below hb6
            refine hK.out _ _ ⟨fun _ => hS6a.bg.b0, fun _ => trivial⟩ ?_
            clear hK K
            try simp only [A1, A2, A3, Act.put, A4, A5, A6]
            refine AnyTill.ready (i := 2) (by kernel_rfl) rfl (fun K hK => ?_)
            rw [if_pos (by rfl)]
            refine wp_callE 89 _ _ rfl _ (by kernel_rfl) (by kernel_rfl) (R := OvR w6a false (na / 2) (na % 2)) (HOA.out _ _ _ hS6a.ma hm6) (fun v8 w8a hR8 => ?_)
            obtain ⟨p8a, k8a, p9, k9, rfl, hm8, hm9, hb8⟩ := hR8
            have hS8a := hS6a.below hb8
            refine hK.out _ _ ⟨fun h => absurd h (by decide), fun _ => trivial⟩ ?_
            clear hK K
            try simp only [A1, A2, A3, Act.put, A4, A5, A6]
            refine AnyTill.pure (i := 3) (v := .tuple #[.agg #[.bool false, .slice p8a (ql (na / 2)) k8a], .agg #[.bool false, .slice p9 (ql (na % 2)) k9]]) rfl (by omega) (by omega) (by kernel_rfl) (by kernel_rfl) (by kernel_rfl) (fun _ _ _ h => h) (Or.inl ⟨by rfl, fun w' _ => by rfl⟩) (fun h => absurd h (by decide)) (fun _ => trivial) ?_
            try simp only [A1, A2, A3, Act.put, A4, A5, A6]
            refine AnyTill.pure (i := 4) (v := .agg #[.bool false, .slice p8a (ql (na / 2)) k8a]) rfl (by omega) (by omega) (by kernel_rfl) (by kernel_rfl) (by kernel_rfl) (fun _ _ _ h => h) (Or.inl ⟨by rfl, fun w' _ => by rfl⟩) (fun h => absurd h (by decide)) (fun _ => trivial) ?_
            try simp only [A1, A2, A3, Act.put, A4, A5, A6]
            refine AnyTill.pure (i := 5) (v := .agg #[.bool false, .slice p9 (ql (na % 2)) k9]) rfl (by omega) (by omega) (by kernel_rfl) (by kernel_rfl) (by kernel_rfl) (fun _ _ _ h => h) (Or.inl ⟨by rfl, fun w' _ => by rfl⟩) (fun h => absurd h (by decide)) (fun _ => trivial) ?_
            try simp only [A1, A2, A3, Act.put, A4, A5, A6]
            refine AnyTill.ready (i := 6) (by kernel_rfl) rfl (fun K hK => ?_)
            rw [if_pos (by rfl)]
            refine wpBig_store1 (.tmp 4) (.tmp 68) rfl (B) rfl rfl hS8a.bg.b0 ?_
            replace HC := Lib.hid (hS8a.rowa hm8)
            refine hK.out _ _ ⟨fun h => absurd h (by decide), fun h => absurd h (by decide)⟩ ?_
            clear hK K
            refine AnyTill.done (by kernel_rfl) ?_ _
            obtain ⟨Xa, hXa⟩ : ∃ W, w8a.setRow (B) #[.bool false, .slice p8a (ql (na / 2)) k8a] = W := ⟨_, rfl⟩
            rw [hXa] at HC ⊢
            clear hXa hS8a hS6a hS0a hm6 hb6 hm8 hm9 hb8
            go_wp2
            obtain ⟨Wb, hWb⟩ : ∃ W, Xa.drew = W := ⟨_, rfl⟩
            have hS0b := HC.out.drew
            refine AnyTill.region (T := Till 2 6 (fun w' => BlockIs w' (B + 1) 74 #[.bool false, .slice pb (ql nb) cb]) (fun _ => True)) (by kernel_rfl) ?_
            rw [hWb] at hS0b ⊢
            clear hWb
            refine AnyTill.take1 (i := 0) rfl rfl (by kernel_rfl) (by omega) (by omega) (by kernel_rfl) (by kernel_rfl) (by kernel_rfl) (by kernel_rfl) (fun _ _ _ h => h) (yB_load rfl (.tmp 5) rfl (B + 1) rfl (fun w' h => h)) hS0b.bg.b1 trivial ?_
            try simp only [A1, A2, A3, Act.put, A4, A5, A6]
            refine AnyTill.ready (i := 1) (by kernel_rfl) rfl (fun K hK => ?_)
            rw [if_pos (by rfl)]
            refine wp_callE 68 _ _ rfl _ (by kernel_rfl) (by kernel_rfl) (R := BigR Wb false 2) (rSmall_two Wb) (fun v6 w6b hR6 => ?_)
            obtain ⟨p6, k6, rfl, hm6, hb6⟩ := hR6
            have hS6b := hS0b.below hb6
            refine hK.out _ _ ⟨fun _ => hS6b.bg.b1, fun _ => trivial⟩ ?_
            clear hK K
            try simp only [A1, A2, A3, Act.put, A4, A5, A6]
            refine AnyTill.ready (i := 2) (by kernel_rfl) rfl (fun K hK => ?_)
            rw [if_pos (by rfl)]
            refine wp_callE 89 _ _ rfl _ (by kernel_rfl) (by kernel_rfl) (R := OvR w6b false (nb / 2) (nb % 2)) (HOB.out _ _ _ hS6b.mb hm6) (fun v8 w8b hR8 => ?_)
            obtain ⟨p8b, k8b, p9, k9, rfl, hm8, hm9, hb8⟩ := hR8
            have hS8b := hS6b.below hb8
            refine hK.out _ _ ⟨fun h => absurd h (by decide), fun _ => trivial⟩ ?_
            clear hK K
            try simp only [A1, A2, A3, Act.put, A4, A5, A6]
            refine AnyTill.pure (i := 3) (v := .tuple #[.agg #[.bool false, .slice p8b (ql (nb / 2)) k8b], .agg #[.bool false, .slice p9 (ql (nb % 2)) k9]]) rfl (by omega) (by omega) (by kernel_rfl) (by kernel_rfl) (by kernel_rfl) (fun _ _ _ h => h) (Or.inl ⟨by rfl, fun w' _ => by rfl⟩) (fun h => absurd h (by decide)) (fun _ => trivial) ?_
            try simp only [A1, A2, A3, Act.put, A4, A5, A6]
            refine AnyTill.pure (i := 4) (v := .agg #[.bool false, .slice p8b (ql (nb / 2)) k8b]) rfl (by omega) (by omega) (by kernel_rfl) (by kernel_rfl) (by kernel_rfl) (fun _ _ _ h => h) (Or.inl ⟨by rfl, fun w' _ => by rfl⟩) (fun h => absurd h (by decide)) (fun _ => trivial) ?_
            try simp only [A1, A2, A3, Act.put, A4, A5, A6]
            refine AnyTill.pure (i := 5) (v := .agg #[.bool false, .slice p9 (ql (nb % 2)) k9]) rfl (by omega) (by omega) (by kernel_rfl) (by kernel_rfl) (by kernel_rfl) (fun _ _ _ h => h) (Or.inl ⟨by rfl, fun w' _ => by rfl⟩) (fun h => absurd h (by decide)) (fun _ => trivial) ?_
            try simp only [A1, A2, A3, Act.put, A4, A5, A6]
            refine AnyTill.ready (i := 6) (by kernel_rfl) rfl (fun K hK => ?_)
            rw [if_pos (by rfl)]
            refine wpBig_store1 (.tmp 5) (.tmp 74) rfl (B + 1) rfl rfl hS8b.bg.b1 ?_
            replace HC := Lib.hid (hS8b.rowb hm8)
            refine hK.out _ _ ⟨fun h => absurd h (by decide), fun h => absurd h (by decide)⟩ ?_
            clear hK K
            refine AnyTill.done (by kernel_rfl) ?_ _
            obtain ⟨Xb, hXb⟩ : ∃ W, w8b.setRow (B + 1) #[.bool false, .slice p8b (ql (nb / 2)) k8b] = W := ⟨_, rfl⟩
            rw [hXb] at HC ⊢
            clear hXb hS8b hS6b hS0b hm6 hb6 hm8 hm9 hb8
            go_wp2
            obtain ⟨g, rfl⟩ : ∃ g', gk = g' + 1 := ⟨gk - 1, by have := HNZ.out; have := HJ.out.2; omega⟩
            go_roundg g
            case rel =>
              have h1 := HNZ.out
              have h2 := HJ.out.2
              have h3 : j < 64 := by
                by_cases h : na = 0
                · exact HLB0.out (fun h4 => h1 ⟨h, h4⟩)
                · exact HLA0.out h
              exact ⟨j + 1, by omega, by rw [← HHA.out, ← HHB.out]; omega, _, _, _, _, _, _, _, _, by rw [← HHA.out, ← HHB.out, HN.out, ← HP2.out]; exact HC.out⟩
            case measure => omega
end Go.Proofs.YtjemolaobhlapaaGreatDoor

namespace Go.Proofs.YtjemolaobhlapaaGreatDoor
open Go.RowKit
set_option maxRecDepth 100000

/-- Two numbers and a third place in their cells. -/
structure Bt (w0 : World) (D : Nat) (px : Option Addr) (x cx : Nat) (py : Option Addr) (y cy : Nat) (u v : Value) (w : World) : Prop where
  b0 : BlockIs w D 74 #[.bool false, .slice px (ql x) cx]
  b1 : BlockIs w (D + 1) 74 #[.bool false, .slice py (ql y) cy]
  b2 : BlockIs w (D + 2) 74 #[u, v]
  mx : Mag w (.slice px (ql x) cx) x
  my : Mag w (.slice py (ql y) cy) y
  bl : Below w0.heap.size w0 w
  hd : w0.heap.size ≤ D
theorem Bt.below {w0 : World} {D x cx y cy : Nat} {px py : Option Addr} {u v : Value} {w w' : World} (h : Bt w0 D px x cx py y cy u v w) (hb : Below w.heap.size w w') : Bt w0 D px x cx py y cy u v w' :=
  ⟨h.b0.below hb h.b0.lt, h.b1.below hb h.b1.lt, h.b2.below hb h.b2.lt, h.mx.below hb, h.my.below hb, h.bl.trans (hb.mono h.bl.size), h.hd⟩
theorem Bt.drew {w0 : World} {D x cx y cy : Nat} {px py : Option Addr} {u v : Value} {w : World} (h : Bt w0 D px x cx py y cy u v w) : Bt w0 D px x cx py y cy u v w.drew :=
  ⟨h.b0.drew, h.b1.drew, h.b2.drew, h.mx.drew, h.my.drew, h.bl.drew, h.hd⟩
theorem Bt.start {w w5 W6 W7 W8 : World} {D x cx y cy : Nat} {px py : Option Addr} (hD : w5.heap.size = D) (hW6 : (w5.alloc (.cells #[.bool false, .slice none 0 0] 74)).alloc (.cells #[.bool false, .slice none 0 0] 74) = W6) (hm : Mag w5 (.slice px (ql x) cx) x) (hn : Mag w5 (.slice py (ql y) cy) y) (hb : Below w.heap.size w w5)
    (hW7 : (((W6.setCell ⟨D, 0, none⟩ (.bool false)).setCell ⟨D, 1, none⟩ (.slice px (ql x) cx)).setCell ⟨D + 1, 0, none⟩ (.bool false)).setCell ⟨D + 1, 1, none⟩ (.slice py (ql y) cy) = W7) (hW8 : W7.alloc (.cells #[.bool false, .slice none 0 0] 74) = W8) :
    Bg2 w5 D (.bool false) (.slice none 0 0) (.bool false) (.slice none 0 0) W6 ∧ Bt w D px x cx py y cy (.bool false) (.slice none 0 0) W8 := by
  have hG := Bg2.start hD hW6
  have hx := dm_set hG hD hm hn hb hW7
  have hsz : W7.heap.size = D + 2 := by
    rw [← hW7]
    simp only [World.size_setCell]
    rw [← hW6, World.size_alloc, World.size_alloc, hD]
  have h1 : Below W7.heap.size W7 W8 := by rw [← hW8]; exact (Below.refl _ _).alloc (Nat.le_refl _) _
  have hs := hb.size
  exact ⟨hG, by rw [← hW8]; exact hx.1.alloc _, by rw [← hW8]; exact hx.2.1.alloc _, by rw [← hW8, ← hsz]; exact BlockIs.new _ _ _, hx.2.2.1.below h1, hx.2.2.2.1.below h1, hx.2.2.2.2.trans (h1.mono (by omega)), by omega⟩

structure Ou (w0 : World) (E : Nat) (s : Bool) (p : Option Addr) (n c : Nat) (w : World) : Prop where
  b : BlockIs w E 74 #[.bool s, .slice p (ql n) c]
  m : Mag w (.slice p (ql n) c) n
  bl : Below w0.heap.size w0 w
  hE : w0.heap.size ≤ E
theorem Ou.below {w0 : World} {E n c : Nat} {s : Bool} {p : Option Addr} {w w' : World} (h : Ou w0 E s p n c w) (hb : Below w.heap.size w w') : Ou w0 E s p n c w' :=
  ⟨h.b.below hb h.b.lt, h.m.below hb, h.bl.trans (hb.mono h.bl.size), h.hE⟩
theorem Ou.drew {w0 : World} {E n c : Nat} {s : Bool} {p : Option Addr} {w : World} (h : Ou w0 E s p n c w) : Ou w0 E s p n c w.drew := ⟨h.b.drew, h.m.drew, h.bl.drew, h.hE⟩
theorem Ou.row {w0 : World} {E n c C : Nat} {s : Bool} {p : Option Addr} {w : World} {cs : Array Value} (h : Ou w0 E s p n c w) (hC : BlockIs w C 74 cs) (hEC : E < C) (cs' : Array Value) : Ou w0 E s p n c (w.setRow C cs') :=
  ⟨h.b.rowElse _ (by omega), h.m.row hC, below_setRow2 h.bl _ (by have := h.hE; omega), h.hE⟩
theorem Ou.of {w0 : World} {D x cx y cy n c : Nat} {s : Bool} {px py o : Option Addr} {u v : Value} {w : World} (h : Bt w0 D px x cx py y cy u v w) (hm : Mag w (.slice o (ql n) c) n) : Ou w0 (D + 2) s o n c ((w.setCell ⟨D + 2, 0, none⟩ (.bool s)).setCell ⟨D + 2, 1, none⟩ (.slice o (ql n) c)) :=
  ⟨h.b2.two, hm.two h.b2, (h.bl.setCell (p := ⟨D + 2, 0, none⟩) (by have := h.hd; simp; omega) _).setCell (p := ⟨D + 2, 1, none⟩) (by have := h.hd; simp; omega) _, by have := h.hd; omega⟩
theorem Ou.rowOf {w0 : World} {D x cx y cy n c : Nat} {s : Bool} {px py o : Option Addr} {u v : Value} {w : World} (h : Bt w0 D px x cx py y cy u v w) (hm : Mag w (.slice o (ql n) c) n) : Ou w0 (D + 2) s o n c (w.setRow (D + 2) #[.bool s, .slice o (ql n) c]) :=
  ⟨h.b2.row2 _, hm.row h.b2, below_setRow2 h.bl _ (by have := h.hd; omega), by have := h.hd; omega⟩
theorem Ou.apply {w0 : World} {E n c : Nat} {s : Bool} {p : Option Addr} {w : World} {X : World → Prop} (h : Ou w0 E s p n c w) (k : ∀ W, Ou w0 E s p n c W → X W) : X w := k w h
theorem wrap_pos {n k v : Nat} (h : n % 18446744073709551616 &&& ones k = v) : wrapW false n k = v := h
theorem rest0 {a b k v : Nat} (ha : a < 18446744073709551616) (hb : b < 18446744073709551616) (hv : opW 0 a b &&& ones k = v) : wrapW false (a + b) k = v ∧ ql (a + b) < 20000 :=
  ⟨wrap_pos hv, by have := ql_add a b; have := word_ql ha; have := word_ql hb; omega⟩
theorem rest2 {a b k v : Nat} (ha : a < 18446744073709551616) (hb : b < 18446744073709551616) (hv : opW 2 a b &&& ones k = v) : wrapW false (a * b) k = v ∧ ql (a * b) < 20000 :=
  ⟨wrap_pos hv, by have := ql_mul a b; have := word_ql ha; have := word_ql hb; omega⟩
theorem word_rest {n k v : Nat} (hn : n < 18446744073709551616) (h : n &&& ones k = v) : wrapW false n k = v ∧ ql n < 20000 :=
  ⟨wrap_pos (by rw [Nat.mod_eq_of_lt hn]; exact h), by have := word_ql hn; omega⟩
theorem rest3 {a b k v : Nat} (ha : a < 18446744073709551616) (hv : opW 3 a b &&& ones k = v) : wrapW false (a / b) k = v ∧ ql (a / b) < 20000 := word_rest (Nat.lt_of_le_of_lt (Nat.div_le_self _ _) ha) hv
theorem rest4 {a b k v : Nat} (ha : a < 18446744073709551616) (hv : opW 4 a b &&& ones k = v) : wrapW false (a % b) k = v ∧ ql (a % b) < 20000 := word_rest (Nat.lt_of_le_of_lt (Nat.mod_le _ _) ha) hv
theorem rest1 {a b k v : Nat} (ha : a < 18446744073709551616) (hb : b < 18446744073709551616) (hv : opW 1 a b &&& ones k = v) : wrapW (isNeg ((a : Int) - b)) ((a : Int) - b).natAbs k = v ∧ ql ((a : Int) - b).natAbs < 20000 := by
  refine ⟨?_, by have := word_ql (v := ((a : Int) - b).natAbs) (by omega); omega⟩
  rw [← hv]
  unfold wrapW isNeg
  congr 1
  show _ = (a + (18446744073709551616 - b)) % 18446744073709551616
  by_cases h : (a : Int) - b < 0
  · rw [decide_eq_true h, if_pos rfl]; omega
  · rw [decide_eq_false h, if_neg (by decide)]; omega
theorem shl_low {a b k m : Nat} (hk : k ≤ m) : a * 2 ^ min b m % 2 ^ k = a * 2 ^ min b k % 2 ^ k := by
  rcases Nat.le_total b k with h | h
  · rw [Nat.min_eq_left (by omega), Nat.min_eq_left h]
  · have h1 : 2 ^ k ∣ a * 2 ^ min b m := Nat.dvd_trans (Nat.pow_dvd_pow 2 (by omega)) (Nat.dvd_mul_left _ _)
    have h2 : 2 ^ k ∣ a * 2 ^ min b k := Nat.dvd_trans (Nat.pow_dvd_pow 2 (by omega)) (Nat.dvd_mul_left _ _)
    rw [Nat.mod_eq_zero_of_dvd h1, Nat.mod_eq_zero_of_dvd h2]
theorem rest8 {a b k v : Nat} (ha : a < 18446744073709551616) (hk : k ≤ 64) (hv : opW 8 a b &&& ones k = v) : wrapW false (a * 2 ^ min b k) k = v ∧ ql (a * 2 ^ min b k) < 20000 := by
  refine ⟨?_, by have := ql_mul a (2 ^ min b k); have := word_ql ha; have := pow2_ql (i := min b k) (by omega); omega⟩
  apply wrap_pos
  rw [← hv, ones_mod, ones_mod]
  show _ = a * 2 ^ min b 64 % 18446744073709551616 % 2 ^ k
  rw [Nat.mod_mod_of_dvd _ (pow_dvd64 hk), Nat.mod_mod_of_dvd _ (pow_dvd64 hk), shl_low hk]
theorem rest9 {a b k v : Nat} (ha : a < 18446744073709551616) (hk : k ≤ 64) (hak : a ≤ ones k) (hv : opW 9 a b &&& ones k = v) : wrapW false (a / 2 ^ min b k) k = v ∧ ql (a / 2 ^ min b k) < 20000 := by
  refine word_rest (Nat.lt_of_le_of_lt (Nat.div_le_self _ _) ha) ?_
  rw [← hv]
  show _ = a / 2 ^ min b 64 &&& ones k
  congr 1
  rcases Nat.le_total b k with h | h
  · rw [Nat.min_eq_left h, Nat.min_eq_left (show b ≤ 64 by omega)]
  · have hp : 0 < 2 ^ k := Nat.pow_pos (by decide)
    have hlt : a < 2 ^ k := by unfold ones at hak; omega
    rw [Nat.min_eq_right h, Nat.div_eq_of_lt hlt, Nat.div_eq_of_lt (Nat.lt_of_lt_of_le hlt (Nat.pow_le_pow_right (by decide) (by omega)))]
end Go.Proofs.YtjemolaobhlapaaGreatDoor
