/- What Check lets pass is a numeral. -/
import Derived.Test.YtjemolaobhlapaaGreatDoorN25
set_option linter.unusedSimpArgs false
set_option linter.unusedVariables false
namespace Go.Proofs.YtjemolaobhlapaaGreatDoor
open Go.RowKit
set_option maxRecDepth 100000

theorem dig_back {c : UInt8} (h : isDig c = true) : UInt8.ofNat (48 + (c.toNat - 48)) = c := by
  have := isDig_le h
  rw [show 48 + (c.toNat - 48) = c.toNat by omega]
  exact UInt8.ofNat_toNat
theorem dec_numOf : ∀ (k : Nat) (l : List UInt8), l.length = k → l ≠ [] → (∀ c ∈ l, isDig c = true) → (1 < l.length → l.head? ≠ some 48) → Lib.decDigits (numOf l) = l := by
  intro k
  induction k with
  | zero => intro l h0 h1; exact absurd (List.eq_nil_of_length_eq_zero h0) h1
  | succ k ih =>
    intro l hl hne hd hh
    obtain ⟨t, c, rfl⟩ : ∃ t c, l = t ++ [c] := ⟨l.dropLast, l.getLast hne, (List.dropLast_concat_getLast hne).symm⟩
    have hc := hd c (by simp)
    have hcl := isDig_le hc
    rw [numOf_snoc]
    by_cases ht : t = []
    · subst ht
      rw [show numOf [] = 0 from rfl, decDigits_small (by omega), Nat.zero_mul, Nat.zero_add, dig_back hc]
      rfl
    · have hlen : t.length = k := by simpa using hl
      have hpos : 0 < t.length := List.length_pos_iff.2 ht
      have hhead : t.head? ≠ some 48 := by
        rw [← head_snoc (x := c) ht]
        exact hh (by simp; omega)
      have h1 := ih t hlen ht (fun c hc => hd c (by simp [hc])) (fun _ => hhead)
      have hn0 : 0 < numOf t := by
        rcases Nat.eq_zero_or_pos (numOf t) with h | h
        · rw [h, decDigits_small (by omega)] at h1
          rw [← h1] at hhead
          exact absurd rfl hhead
        · exact h
      rw [decDigits_big (by omega), show (numOf t * 10 + (c.toNat - 48)) / 10 = numOf t by omega, show (numOf t * 10 + (c.toNat - 48)) % 10 = c.toNat - 48 by omega, h1, dig_back hc]
theorem check_back {l : List UInt8} (h : checkS l = 0) : ∃ s n, l = numeral s n ∧ Num s n := by
  unfold checkS at h
  by_cases h1 : allD (Lib.trimPrefix l [45]) = false ∨ (1 < (Lib.trimPrefix l [45]).length ∧ (Lib.trimPrefix l [45]).head? = some 48) ∨ l = [45, 48]
  · rw [if_pos h1] at h; exact absurd h (by decide)
  · rw [if_neg h1] at h
    by_cases h2 : 120 < (Lib.trimPrefix l [45]).length
    · rw [if_pos h2] at h; exact absurd h (by decide)
    · obtain ⟨d, hd⟩ : ∃ d, Lib.trimPrefix l [45] = d := ⟨_, rfl⟩
      rw [hd] at h1 h2
      rw [not_or, not_or] at h1
      obtain ⟨ha, hb, hc⟩ := h1
      have ha2 : allD d = true := by simpa using ha
      unfold allD at ha2
      rw [Bool.and_eq_true] at ha2
      have hne : d ≠ [] := by intro h3; rw [h3] at ha2; exact absurd ha2.2 (by decide)
      have hdec := dec_numOf d.length d rfl hne (List.all_eq_true.1 ha2.1) (fun h3 h4 => hb ⟨h3, h4⟩)
      unfold Lib.trimPrefix at hd
      have hnd : Lib.nDigits (numOf d) ≤ 120 := by rw [← Lib.decDigits_length, hdec]; omega
      cases hp : Lib.hasPrefix l [45]
      · rw [hp] at hd
        simp only [Bool.false_eq_true, if_false] at hd
        refine ⟨false, numOf d, ?_, fun h => (by cases h), hnd⟩
        rw [hd]
        unfold numeral
        rw [hdec]
        rfl
      · rw [hp] at hd
        simp only [if_true] at hd
        have hl : l = 45 :: d := by
          cases l with
          | nil => exact absurd hp (by decide)
          | cons x t =>
            simp only [Lib.hasPrefix, List.isPrefixOf, Bool.and_true, beq_iff_eq] at hp
            rw [← hd, ← hp]
            rfl
        refine ⟨true, numOf d, ?_, fun _ h3 => ?_, hnd⟩
        · rw [hl]
          unfold numeral
          rw [hdec]
          rfl
        · rw [h3, decDigits_small (by omega)] at hdec
          rw [← hdec] at hl
          exact hc hl
end Go.Proofs.YtjemolaobhlapaaGreatDoor

namespace Go.Proofs.YtjemolaobhlapaaGreatDoor
open Go.RowKit
set_option maxRecDepth 100000

structure Lo (w0 : World) (B G m c : Nat) (w : World) : Prop where
  b0 : BlockIs w B 80 (magF (limb m) (len m))
  b1 : BlockIs w (B + 1) 80 (magF (fun _ => 0) 0)
  g : BlockIs w G 80 (magF (limb c) (len c))
  bl : Below B w0 w
theorem Lo.below {w0 w w' : World} {B G m c : Nat} (h : Lo w0 B G m c w) (hb : Below w.heap.size w w') : Lo w0 B G m c w' :=
  ⟨h.b0.below hb h.b0.lt, h.b1.below hb h.b1.lt, h.g.below hb h.g.lt, h.bl.trans (hb.mono (by have := h.b0.lt; omega))⟩
theorem Lo.start {w W : World} {B G m c : Nat} (hB : w.heap.size = B) (hg : BlockIs w G 80 (magF (limb c) (len c))) (hW : (w.alloc (.cells (mag m) 80)).alloc (.cells (magF (fun _ => 0) 0) 80) = W) : Lo w B G m c W := by
  rw [← hW, ← hB]
  refine ⟨(BlockIs.new _ _ _).alloc _, ?_, (hg.alloc _).alloc _, ((Below.refl _ _).alloc (Nat.le_refl _) _).alloc (by simp) _⟩
  have := BlockIs.new (w.alloc (.cells (mag m) 80)) 80 (magF (fun _ => 0) 0)
  rwa [World.size_alloc] at this
theorem Lo.full {w0 w W : World} {B G m c C : Nat} (h : Lo w0 B G m c w) (hC : w.heap.size = C) (hW : (w.alloc (.cells (magF (fun _ => 0) 0) 80)).alloc (.cells (magF (fun _ => 0) 0) 80) = W) (f g : Nat → Nat) (u v : Nat) :
    BlockIs W C 80 (magF (fun _ => 0) 0) ∧ BlockIs (W.setRow C (magF f u)) (C + 1) 80 (magF (fun _ => 0) 0) ∧
    (BlockIs ((W.setRow C (magF f u)).setRow (C + 1) (magF g v)) C 80 (magF f u) ∧ BlockIs ((W.setRow C (magF f u)).setRow (C + 1) (magF g v)) (B + 1) 80 (magF (fun _ => 0) 0) ∧ Below B w0 ((W.setRow C (magF f u)).setRow (C + 1) (magF g v))) := by
  have h1 := h.b1.lt
  have c0 : BlockIs W C 80 (magF (fun _ => 0) 0) := by rw [← hW, ← hC]; exact (BlockIs.new _ _ _).alloc _
  have c1 : BlockIs W (C + 1) 80 (magF (fun _ => 0) 0) := by
    rw [← hW, ← hC]
    have := BlockIs.new (w.alloc (.cells (magF (fun _ => 0) 0) 80)) 80 (magF (fun _ => 0) 0)
    rwa [World.size_alloc] at this
  have hb1 : BlockIs W (B + 1) 80 (magF (fun _ => 0) 0) := by rw [← hW]; exact (h.b1.alloc _).alloc _
  have hbl : Below B w0 W := by rw [← hW]; exact (h.bl.alloc (by omega) _).alloc (by rw [World.size_alloc]; omega) _
  exact ⟨c0, c1.rowOther _ _ (by omega), (c0.row _).rowOther _ _ (by omega), (hb1.rowOther _ _ (by omega)).rowOther _ _ (by omega), below_row (below_row hbl _ _ (by omega)) _ _ (by omega)⟩

set_option maxHeartbeats 4000000 in
theorem lowest1_any (m c : Nat) (hm : m < pw 30) (hc : c < pw 30) (HDV : c ≠ 1 → ∀ W, Calls Tryz.prog 142 #[.agg (mag m), .agg (mag c)] W fun e w' => e = .returned (.tuple #[.agg (mag (m / c)), .agg (mag (m % c))]) ∧ Below W.heap.size W w')
    (G : Nat) (w : World) (hG : BlockIs w G 80 (magF (limb c) (len c))) :
    Calls Tryz.prog 157 #[.agg (mag m), .pointer (some ⟨G, 0, none⟩)] w fun e w' => e = .returned (.agg (mag (m / c))) ∧ Below w.heap.size w w' := by
  obtain ⟨B, hB⟩ : ∃ B, w.heap.size = B := ⟨_, rfl⟩
  obtain ⟨W, hW⟩ : ∃ W, (w.alloc (.cells (mag m) 80)).alloc (.cells (magF (fun _ => 0) 0) 80) = W := ⟨_, rfl⟩
  have HL := Lib.hid (Lo.start hB hG hW)
  obtain ⟨b, hb⟩ : ∃ b, decide (c = 1) = b := ⟨_, rfl⟩
  have HI := Lib.hid (fun W => isOne_any c hc W b hb)
  have hz0 := zeroM
  clear hG
  cases b
  · have h1 : c ≠ 1 := by simpa using hb
    have HV := Lib.hid (HDV h1)
    obtain ⟨q, hq⟩ : ∃ q, m / c = q := ⟨_, rfl⟩
    obtain ⟨r, hr⟩ : ∃ r, m % c = r := ⟨_, rfl⟩
    rw [hq, hr] at HV
    rw [hq]
    clear h1 hb HDV hm hc hq hr
    go_enter Tryz.func157, Tryz.ntmps157
    go_wp2_with (first | ((with_reducible refine wpM_load (.tmp 1) G ?_ HL.out.g ?_); rfl) | (go_at_call 105; refine (HI.out _).mono ?_; rintro e w1 ⟨rfl, hb1⟩; have HL1 := Lib.hid (HL.out.below hb1)) | ((with_reducible refine wpM_load (.tmp 2) B ?_ HL1.out.b0 ?_); rfl) | ((with_reducible refine wpM_load (.tmp 1) G ?_ HL1.out.g ?_); rfl) | (go_at_call 142; refine (HV.out _).mono ?_; rintro e w2 ⟨rfl, hb2⟩; have HL2 := Lib.hid (HL1.out.below hb2); obtain ⟨C, hC⟩ : ∃ C, w2.heap.size = C := ⟨_, rfl⟩; obtain ⟨V, hV⟩ : ∃ V, (w2.alloc (.cells (magF (fun _ => 0) 0) 80)).alloc (.cells (magF (fun _ => 0) 0) 80) = V := ⟨_, rfl⟩; have HF := Lib.hid (HL2.out.full hC hV (limb q) (limb r) (len q) (len r))) | ((with_reducible refine wpM_store (.tmp 4) (.tmp 13) C (f := limb q) (u := len q) ?_ ?_ HF.out.1 ?_); rfl; rfl) | ((with_reducible refine wpM_store (.tmp 5) (.tmp 14) (C + 1) (f := limb r) (u := len r) ?_ ?_ HF.out.2.1 ?_); rfl; rfl; have HD := Lib.hid HF.out.2.2; obtain ⟨U, hU⟩ : ∃ U, (V.setRow C (magF (limb q) (len q))).setRow (C + 1) (magF (limb r) (len r)) = U := ⟨_, rfl⟩; rw [hU] at HD ⊢; clear hU) | ((with_reducible refine wpM_load (.tmp 4) C ?_ HD.out.1 ?_); rfl) | ((with_reducible refine wpM_store (.tmp 3) (.tmp 15) (B + 1) (f := limb q) (u := len q) ?_ ?_ HD.out.2.1 ?_); rfl; rfl))
    exact bodyPost_ret (retM rfl _ _ (B + 1) rfl (HD.out.2.1.row _)) rfl ⟨rfl, hB ▸ below_row HD.out.2.2 _ _ (by omega)⟩
  · have h1 : c = 1 := by simpa using hb
    have HR := Lib.hid (show m / c = m by rw [h1, Nat.div_one])
    clear h1 hb HDV hm hc
    go_enter Tryz.func157, Tryz.ntmps157
    go_wp2_with (first | ((with_reducible refine wpM_load (.tmp 1) G ?_ HL.out.g ?_); rfl) | (go_at_call 105; refine (HI.out _).mono ?_; rintro e w1 ⟨rfl, hb1⟩; have HL1 := Lib.hid (HL.out.below hb1)) | ((with_reducible refine wpM_load (.tmp 2) B ?_ HL1.out.b0 ?_); rfl) | ((with_reducible refine wpM_store (.tmp 3) (.tmp 8) (B + 1) (f := limb m) (u := len m) ?_ ?_ HL1.out.b1 ?_); rfl; rfl))
    exact bodyPost_ret (retM rfl _ _ (B + 1) rfl (HL1.out.b1.row _)) rfl ⟨ret_agg (by rw [HR.out]), hB ▸ below_row HL1.out.bl _ _ (by omega)⟩
end Go.Proofs.YtjemolaobhlapaaGreatDoor

namespace Go.Proofs.YtjemolaobhlapaaGreatDoor
open Go.RowKit
set_option maxRecDepth 100000

def fracL (f : Nat → Nat) (u : Nat) (s : Bool) (g : Nat → Nat) (v : Nat) (t : Bool) : List Value := sigL f u s ++ sigL g v t
abbrev fracF (f : Nat → Nat) (u : Nat) (s : Bool) (g : Nat → Nat) (v : Nat) (t : Bool) : Array Value := (fracL f u s g v t).toArray
/-- The cells of a fraction. -/
abbrev frac (s : Bool) (a : Nat) (t : Bool) (b : Nat) : Array Value := fracF (limb a) (len a) s (limb b) (len b) t
theorem fracF_size (f : Nat → Nat) (u : Nat) (s : Bool) (g : Nat → Nat) (v : Nat) (t : Bool) : (fracF f u s g v t).size = 64 := by simp [fracF, fracL, sigL_len]
theorem infoLS (f : Nat → Nat) (u : Nat) (s : Bool) : (Tryz.prog.info? 82).map (·.size) = some (sigL f u s).length := by rw [sigL_len]; exact infoS
theorem frac_range0 {W : World} {B : Nat} {f g : Nat → Nat} {u v : Nat} {s t : Bool} (h : BlockIs W B 114 (fracF f u s g v t)) : W.rangeAt B 0 (sigL f u s) := by
  intro j x hx
  have hj : j < 32 := by have := (List.getElem?_eq_some_iff.1 hx).1; rwa [sigL_len] at this
  rw [Nat.zero_add, h.at]
  unfold fracF fracL
  rw [List.getElem?_toArray, List.getElem?_append_left (by rw [sigL_len]; exact hj)]
  exact hx
theorem frac_range1 {W : World} {B : Nat} {f g : Nat → Nat} {u v : Nat} {s t : Bool} (h : BlockIs W B 114 (fracF f u s g v t)) : W.rangeAt B 32 (sigL g v t) := by
  intro j x hx
  rw [h.at]
  unfold fracF fracL
  rw [List.getElem?_toArray, List.getElem?_append_right (by rw [sigL_len]; omega), sigL_len, show 32 + j - 32 = j by omega]
  exact hx
theorem wpF_top {ops : Array Oper} {rest : List Oper} {a : Act} {w : World} {Q : Exit → Act → World → Prop} {d : Option Tmp} {ty : TypeId} {pos : String} {after : Array _} (x : Operand) (B : Nat) {f g : Nat → Nat} {u v : Nat} {s t : Bool}
    (hx : a.eval x = .pointer (some ⟨B, 0, none⟩)) (hB : BlockIs w B 114 (fracF f u s g v t)) (h : wpList Tryz.prog ops Q rest (a.put d (.agg (sigF f u s))) w) :
    wpList Tryz.prog ops Q ({ dst := d, op := .load 82 x, type := ty, pos := pos, after := after, guard := none } :: rest) a w :=
  wpList_load_mid rfl 82 x rfl B 0 hx (sigL f u s) _ (frac_range0 hB) Tryz.underlying82 rfl (infoLS f u s) h
theorem wpF_bottom {ops : Array Oper} {rest : List Oper} {a : Act} {w : World} {Q : Exit → Act → World → Prop} {d : Option Tmp} {ty : TypeId} {pos : String} {after : Array _} (x : Operand) (B : Nat) {f g : Nat → Nat} {u v : Nat} {s t : Bool}
    (hx : a.eval x = .pointer (some ⟨B, 32, none⟩)) (hB : BlockIs w B 114 (fracF f u s g v t)) (h : wpList Tryz.prog ops Q rest (a.put d (.agg (sigF g v t))) w) :
    wpList Tryz.prog ops Q ({ dst := d, op := .load 82 x, type := ty, pos := pos, after := after, guard := none } :: rest) a w :=
  wpList_load_mid rfl 82 x rfl B 32 hx (sigL g v t) _ (frac_range1 hB) Tryz.underlying82 rfl (infoLS g v t) h

theorem numeral_short {s : Bool} {n : Nat} (h : Lib.nDigits n ≤ 120) : (bs (numeral s n)).size ≤ 121 := by
  rw [bs_size, numeral_signed]
  unfold signed
  rw [List.length_append, Lib.decDigits_length]
  cases s <;> simp <;> omega
/-- A fraction's text. -/
def ratio (s : Bool) (a : Nat) (t : Bool) (b : Nat) : List UInt8 := numeral s a ++ 47 :: numeral t b
theorem ratio_append (s : Bool) (a : Nat) (t : Bool) (b : Nat) : bs (numeral s a) ++ ⟨#[47]⟩ ++ bs (numeral t b) = bs (ratio s a t b) := by
  have h : ∀ x y : ByteArray, x.data.toList = y.data.toList → x = y := by
    intro x y h
    cases x; cases y
    congr 1
    exact Array.toList_inj.1 h
  apply h
  simp [bs, ratio]

set_option maxHeartbeats 4000000 in
theorem finishReal_ok (s t : Bool) (a b : Nat) (ha : a < pw 30) (hb : b < pw 30) (hda : Lib.nDigits a ≤ 120) (hdb : Lib.nDigits b ≤ 120) (w : World) :
    Calls Tryz.prog 107 #[.agg (frac s a t b)] w fun e w' => e = .returned (.tuple #[.string (bs (ratio s a t b)), .int .i64 0]) ∧ Below w.heap.size w w' := by
  obtain ⟨B, hB⟩ : ∃ B, w.heap.size = B := ⟨_, rfl⟩
  obtain ⟨W, hW⟩ : ∃ W, w.alloc (.cells (frac s a t b) 114) = W := ⟨_, rfl⟩
  have HH := Lib.hid (show BlockIs W B 114 (fracF (limb a) (len a) s (limb b) (len b) t) ∧ Below B w W by
    rw [← hW, ← hB]
    exact ⟨BlockIs.new _ _ _, (Below.refl _ _).alloc (Nat.le_refl _) _⟩)
  have HF := Lib.hid (fun W => finishPair_ok s t a b ha hb hda hdb W)
  have HR := Lib.hid (ratio_append s a t b)
  obtain ⟨x, hx⟩ : ∃ x, bs (numeral s a) = x := ⟨_, rfl⟩
  obtain ⟨y, hy⟩ : ∃ y, bs (numeral t b) = y := ⟨_, rfl⟩
  rw [hx, hy] at HF HR
  have hxs : x.size ≤ 121 := by rw [← hx]; exact numeral_short hda
  have hys : y.size ≤ 121 := by rw [← hy]; exact numeral_short hdb
  clear hx hy ha hb hda hdb
  go_enter Tryz.func107, Tryz.ntmps107
  go_wp2_with (first | ((with_reducible refine wpF_top (.tmp 8) B ?_ HH.out.1 ?_); rfl) | ((with_reducible refine wpF_bottom (.tmp 10) B ?_ HH.out.1 ?_); rfl) | (go_at_call 87; refine (HF.out _).mono ?_; rintro e w1 ⟨rfl, hb1⟩; have HB1 := Lib.hid (HH.out.2.trans (hb1.mono (by have := HH.out.1.lt; omega)))))
  go_ret2
  exact ⟨by rw [← HR.out]; rfl, hB ▸ HB1.out⟩
end Go.Proofs.YtjemolaobhlapaaGreatDoor
