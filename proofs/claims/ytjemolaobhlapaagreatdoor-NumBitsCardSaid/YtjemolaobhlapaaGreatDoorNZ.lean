/- CheckReal. -/
import Derived.Test.YtjemolaobhlapaaGreatDoorNY
set_option linter.unusedSimpArgs false
set_option linter.unusedVariables false
namespace Go.Proofs.YtjemolaobhlapaaGreatDoor
open Go.RowKit
set_option maxRecDepth 100000

theorem range_mag {w : World} {L o : Nat} {f : Nat → Nat} {u : Nat} {s : Bool} (h : w.rangeAt L o (sigL f u s)) : w.rangeAt L o (magL f u) := by
  intro j v hv
  refine h j v ?_
  unfold sigL
  rw [List.getElem?_append_left (List.getElem?_eq_some_iff.1 hv).1]
  exact hv
theorem range_neg {w : World} {L o : Nat} {f : Nat → Nat} {u : Nat} {s : Bool} (h : w.rangeAt L o (sigL f u s)) : w.cell? ⟨L, o + 31, none⟩ = some (.bool s) := by
  refine h 31 _ ?_
  unfold sigL
  rw [List.getElem?_append_right (by rw [magL_len]; omega), magL_len]
  rfl
theorem wpM_loadAtG {ops : Array Oper} {rest : List Oper} {a : Act} {w : World} {Q : Exit → Act → World → Prop} {d : Option Tmp} {ty : TypeId} {pos : String} {after : Array _} {gd : Option _} (x : Operand) (L o : Nat) {f : Nat → Nat} {u : Nat}
    (hw : Region.wanted { dst := d, op := .load 80 x, type := ty, pos := pos, after := after, guard := gd } (yielded ops a.tmps) = true)
    (hx : a.eval x = .pointer (some ⟨L, o, none⟩)) (hL : w.rangeAt L o (magL f u)) (h : wpList Tryz.prog ops Q rest (a.put d (.agg (magF f u))) w) :
    wpList Tryz.prog ops Q ({ dst := d, op := .load 80 x, type := ty, pos := pos, after := after, guard := gd } :: rest) a w :=
  BigFrame.wpList_want hw fun _ hK => wp_load_mid 80 x rfl L o hx (magL f u) _ hL Tryz.underlying80 rfl (infoLM f u) (hK _ _ h)

set_option maxHeartbeats 4000000 in
theorem CheckReal_form (s : ByteArray) (h : s.data.toList.count 47 ≠ 1) (w : World) :
    Calls Tryz.prog 45 #[.string s] w fun e w' => e = .returned (.int .i64 1) ∧ Below w.heap.size w w' := by
  have HC := Lib.hid (fun W => Tryz.strings_Count_one s 47 W)
  obtain ⟨n, hn⟩ : ∃ n, Lib.countByte s.data.toList 47 = n := ⟨_, rfl⟩
  rw [hn] at HC
  have hn1 : n ≠ 1 := by rw [← hn]; exact h
  have b1 : ((n : Int) == 1) = false := by simp; omega
  have b2 : ((n : Int) != 1) = true := by simp; omega
  clear h hn hn1
  go_enter Tryz.func45, Tryz.ntmps45
  go_wp2_with (go_at_call 103; refine (HC.out _).mono ?_; rintro e w1 ⟨rfl, hw⟩; rw [hw]; clear hw)
  go_ret
  exact ⟨rfl, Below.refl _ _⟩

set_option maxHeartbeats 4000000 in
theorem CheckReal_err (X Y : List UInt8) (hX : 47 ∉ X) (hY : 47 ∉ Y) (hl : (X ++ 47 :: Y).length < 4294967281) (ra rb r : Int) (ha : checkS X = ra) (hb : checkS Y = rb) (hr : (if ra = 0 then rb else ra) = r) (h14 : r = 1 ∨ r = 4) (m : Int) (w : World) (hm : w.cell? ⟨0, 0, none⟩ = some (.int .i64 m)) :
    Calls Tryz.prog 45 #[.string (bs (X ++ 47 :: Y))] w fun e w' => e = .returned (.int .i64 r) ∧ Below w.heap.size w w' := by
  have HC := Lib.hid (fun W => Tryz.strings_Count_one (bs (X ++ 47 :: Y)) 47 W)
  rw [bs_list, show Lib.countByte (X ++ 47 :: Y) 47 = 1 from count_app 47 X Y hX hY] at HC
  have HSP := Lib.hid (Split_any X Y hX hY hl m w hm)
  obtain ⟨z, hz⟩ : ∃ z, bs (X ++ 47 :: Y) = z := ⟨_, rfl⟩
  rw [hz] at HC HSP ⊢
  obtain ⟨B, hB⟩ : ∃ B, w.heap.size = B := ⟨_, rfl⟩
  obtain ⟨W, hW⟩ : ∃ W, w.alloc (.cells #[.string (bs X), .string (bs Y)] 9) = W := ⟨_, rfl⟩
  have hP := pairBlock w (bs X) (bs Y) hB hW
  have HCK := Lib.hid (checkAll_Check (bs X) (bs Y) B W hP.1 ra rb r (fun W _ => Check_any (bs X) W ra ha) (fun _ W _ => Check_any (bs Y) W rb hb) hr)
  have HBL := Lib.hid hP.2
  clear ha hb hr hX hY hl hm hz hP
  rcases h14 with rfl | rfl
  all_goals
    go_enter Tryz.func45, Tryz.ntmps45
    go_wp2_with (go_at_call 103; refine (HC.out _).mono ?_; rintro e w1 ⟨rfl, hw⟩; rw [hw]; clear hw)
    refine HSP.out.mono ?_
    rintro e w1 ⟨rfl, rfl⟩
    rw [hB, hW]
    go_wp2_with (go_at_call 79; refine HCK.out.mono ?_; rintro e w2 ⟨rfl, hb2⟩; have HB2 := Lib.hid (HBL.out.trans (hb2.mono (by have := HBL.out.size; omega))))
    go_ret
    exact ⟨rfl, hB ▸ HB2.out⟩

/-- What CheckReal says of two numerals. -/
def realE (t : Bool) (a b : Nat) : Int := if b = 0 ∨ t = true ∨ Nat.gcd a b ≠ 1 then 1 else 0

set_option maxHeartbeats 4000000 in
theorem CheckReal_nums (s t : Bool) (a b : Nat) (ha : Num s a) (hb : Num t b) (m : Int) (w : World) (hm : w.cell? ⟨0, 0, none⟩ = some (.int .i64 m)) (h0 : 0 < w.heap.size) (r : Int) (hr : realE t a b = r) :
    Calls Tryz.prog 45 #[.string (bs (ratio s a t b))] w fun e w' => e = .returned (.int .i64 r) ∧ Below w.heap.size w w' := by
  have HC := Lib.hid (fun W => Tryz.strings_Count_one (bs (ratio s a t b)) 47 W)
  rw [bs_list, show Lib.countByte (ratio s a t b) 47 = 1 from count_app 47 (numeral s a) (numeral t b) (numeral_no_slash s a) (numeral_no_slash t b)] at HC
  have hlen := ratio_len (s := s) (t := t) ha.short hb.short
  have HSP := Lib.hid (Split_any (numeral s a) (numeral t b) (numeral_no_slash s a) (numeral_no_slash t b) (by unfold ratio at hlen; omega) m w hm)
  rw [show numeral s a ++ 47 :: numeral t b = ratio s a t b from rfl] at HSP
  obtain ⟨B, hB⟩ : ∃ B, w.heap.size = B := ⟨_, rfl⟩
  obtain ⟨W, hW⟩ : ∃ W, w.alloc (.cells #[.string (bs (numeral s a)), .string (bs (numeral t b))] 9) = W := ⟨_, rfl⟩
  have hP := pairBlock w (bs (numeral s a)) (bs (numeral t b)) hB hW
  have HCK := Lib.hid (checkBoth hP.1 (check_numeral ha) (check_numeral hb))
  have HBL := Lib.hid hP.2
  have HRF := Lib.hid (fun W (hbw : Below B w W) => readFraction_any s t a b ha hb m W ((hbw.cell (p := ⟨0, 0, none⟩) (by rw [← hB]; exact h0)).trans hm) (by have := hbw.size; omega))
  have ha29 := ha.lt29
  have hb29 := hb.lt29
  have HG := Lib.hid (fun W => gcd_any a b ha29 hb29 W)
  obtain ⟨z, hz⟩ : ∃ z, bs (ratio s a t b) = z := ⟨_, rfl⟩
  rw [hz] at HC HSP HRF ⊢
  have hz0 := zeroFr
  have HR := Lib.hid hr
  have HLT := Lib.hid (And.intro ha29 hb29)
  clear ha hb hm hlen hP hz hr
  clear h0
  by_cases hb0 : b = 0
  · have HZ := Lib.hid (fun W => isZero_any b (pw_big hb29) W true (by simp [hb0]))
    have HE := Lib.hid (show r = 1 by rw [← HR.out]; unfold realE; rw [if_pos (Or.inl hb0)])
    clear hb0 ha29 hb29
    go_enter Tryz.func45, Tryz.ntmps45
    go_wp2_with (go_at_call 103; refine (HC.out _).mono ?_; rintro e w1 ⟨rfl, hw⟩; rw [hw]; clear hw)
    refine HSP.out.mono ?_
    rintro e w1 ⟨rfl, rfl⟩
    rw [hB, hW]
    go_wp2_with (first | (go_at_call 79; refine HCK.out.mono ?_; rintro e w2 ⟨rfl, hb2⟩; have HB2 := Lib.hid (HBL.out.trans (hb2.mono (by have := HBL.out.size; omega))); clear hb2) | (go_at_call 101; refine (HRF.out _ HB2.out).mono ?_; rintro e w3 ⟨rfl, hb3⟩; have HB3 := Lib.hid (HB2.out.trans (hb3.mono (by have := HB2.out.size; omega))); clear hb3; obtain ⟨C, hC⟩ : ∃ C, w3.heap.size = C := ⟨_, rfl⟩; obtain ⟨U, hU⟩ : ∃ U, w3.alloc (.cells (fracF (fun _ => 0) 0 false (fun _ => 0) 0 false) 114) = U := ⟨_, rfl⟩; have HU := Lib.hid (show BlockIs U C 114 (fracF (fun _ => 0) 0 false (fun _ => 0) 0 false) ∧ Below B w U ∧ B ≤ C by rw [← hU, ← hC]; have := HB3.out.size; exact ⟨BlockIs.new _ _ _, HB3.out.alloc (by omega) _, by omega⟩)) | ((with_reducible refine wpF_store (.tmp 4) (.tmp 15) C (f := limb a) (u := len a) (s := s) (g := limb b) (v := len b) (t := t) ?_ ?_ HU.out.1 ?_); rfl; rfl; have HV := Lib.hid (show BlockIs (U.setRow C (frac s a t b)) C 114 (frac s a t b) ∧ Below B w (U.setRow C (frac s a t b)) from ⟨HU.out.1.row _, below_row HU.out.2.1 _ _ HU.out.2.2⟩); obtain ⟨V, hV⟩ : ∃ V, U.setRow C (frac s a t b) = V := ⟨_, rfl⟩; rw [hV] at HV ⊢; clear hV HU hU hC) | ((with_reducible refine wpM_loadAt (.tmp 17) C 32 ?_ (range_mag (frac_range1 HV.out.1)) ?_); rfl) | (go_at_call 86; refine (HZ.out _).mono ?_; rintro e w5 ⟨rfl, hb5⟩; have HV5 := Lib.hid (show BlockIs w5 C 114 (frac s a t b) ∧ Below B w w5 from ⟨HV.out.1.below hb5 HV.out.1.lt, HV.out.2.trans (hb5.mono (by have := HV.out.2.size; omega))⟩); clear hb5; have c63 := range_neg (frac_range1 HV5.out.1)))
    go_ret
    exact ⟨ret_int HE.out.symm, hB ▸ HV5.out.2⟩
  · have HZ := Lib.hid (fun W => isZero_any b (pw_big hb29) W false (by simp [hb0]))
    cases t
    · have hg30 : Nat.gcd a b < pw 30 := Nat.lt_of_le_of_lt (Nat.gcd_le_right a (by omega)) (pw_big hb29)
      obtain ⟨one, hone⟩ : ∃ x, decide (Nat.gcd a b = 1) = x := ⟨_, rfl⟩
      have HO := Lib.hid (fun W => isOne_any (Nat.gcd a b) hg30 W one hone)
      have HE := Lib.hid (show r = if one = true then 0 else 1 by
        rw [← HR.out, ← hone]; unfold realE
        by_cases h1 : Nat.gcd a b = 1
        · rw [if_neg (by simp [hb0, h1]), if_pos (by simp [h1])]
        · rw [if_pos (by simp [h1]), if_neg (by simp [h1])])
      obtain ⟨g, hg⟩ : ∃ g, Nat.gcd a b = g := ⟨_, rfl⟩
      rw [hg] at HG HO
      clear hb0 ha29 hb29 hg30 hg hone
      cases one
      · go_enter Tryz.func45, Tryz.ntmps45
        go_wp2_with (go_at_call 103; refine (HC.out _).mono ?_; rintro e w1 ⟨rfl, hw⟩; rw [hw]; clear hw)
        refine HSP.out.mono ?_
        rintro e w1 ⟨rfl, rfl⟩
        rw [hB, hW]
        go_wp2_with (first | (go_at_call 79; refine HCK.out.mono ?_; rintro e w2 ⟨rfl, hb2⟩; have HB2 := Lib.hid (HBL.out.trans (hb2.mono (by have := HBL.out.size; omega))); clear hb2) | (go_at_call 101; refine (HRF.out _ HB2.out).mono ?_; rintro e w3 ⟨rfl, hb3⟩; have HB3 := Lib.hid (HB2.out.trans (hb3.mono (by have := HB2.out.size; omega))); clear hb3; obtain ⟨C, hC⟩ : ∃ C, w3.heap.size = C := ⟨_, rfl⟩; obtain ⟨U, hU⟩ : ∃ U, w3.alloc (.cells (fracF (fun _ => 0) 0 false (fun _ => 0) 0 false) 114) = U := ⟨_, rfl⟩; have HU := Lib.hid (show BlockIs U C 114 (fracF (fun _ => 0) 0 false (fun _ => 0) 0 false) ∧ Below B w U ∧ B ≤ C by rw [← hU, ← hC]; have := HB3.out.size; exact ⟨BlockIs.new _ _ _, HB3.out.alloc (by omega) _, by omega⟩)) | ((with_reducible refine wpF_store (.tmp 4) (.tmp 15) C (f := limb a) (u := len a) (s := s) (g := limb b) (v := len b) (t := false) ?_ ?_ HU.out.1 ?_); rfl; rfl; have HV := Lib.hid (show BlockIs (U.setRow C (frac s a false b)) C 114 (frac s a false b) ∧ Below B w (U.setRow C (frac s a false b)) from ⟨HU.out.1.row _, below_row HU.out.2.1 _ _ HU.out.2.2⟩); obtain ⟨V, hV⟩ : ∃ V, U.setRow C (frac s a false b) = V := ⟨_, rfl⟩; rw [hV] at HV ⊢; clear hV HU hU hC) | ((with_reducible refine wpM_loadAt (.tmp 17) C 32 ?_ (range_mag (frac_range1 HV.out.1)) ?_); rfl) | (go_at_call 86; refine (HZ.out _).mono ?_; rintro e w5 ⟨rfl, hb5⟩; have HV5 := Lib.hid (show BlockIs w5 C 114 (frac s a false b) ∧ Below B w w5 from ⟨HV.out.1.below hb5 HV.out.1.lt, HV.out.2.trans (hb5.mono (by have := HV.out.2.size; omega))⟩); clear hb5; have c63 := range_neg (frac_range1 HV5.out.1)) | ((with_reducible refine wpM_loadAtG (.tmp 27) C 0 ?_ ?_ (range_mag (frac_range0 HV5.out.1)) ?_); rfl; rfl) | ((with_reducible refine wpM_loadAtG (.tmp 30) C 32 ?_ ?_ (range_mag (frac_range1 HV5.out.1)) ?_); rfl; rfl) | (go_at_call 92; refine (HG.out _).mono ?_; rintro e w6 ⟨rfl, hb6⟩; have HB6 := Lib.hid (HV5.out.2.trans (hb6.mono (by have := HV5.out.2.size; omega))); clear hb6) | (go_at_call 105; refine (HO.out _).mono ?_; rintro e w7 ⟨rfl, hb7⟩; have HB7 := Lib.hid (HB6.out.trans (hb7.mono (by have := HB6.out.size; omega))); clear hb7))
        go_ret
        exact ⟨ret_int HE.out.symm, hB ▸ HB7.out⟩
      · go_enter Tryz.func45, Tryz.ntmps45
        go_wp2_with (go_at_call 103; refine (HC.out _).mono ?_; rintro e w1 ⟨rfl, hw⟩; rw [hw]; clear hw)
        refine HSP.out.mono ?_
        rintro e w1 ⟨rfl, rfl⟩
        rw [hB, hW]
        go_wp2_with (first | (go_at_call 79; refine HCK.out.mono ?_; rintro e w2 ⟨rfl, hb2⟩; have HB2 := Lib.hid (HBL.out.trans (hb2.mono (by have := HBL.out.size; omega))); clear hb2) | (go_at_call 101; refine (HRF.out _ HB2.out).mono ?_; rintro e w3 ⟨rfl, hb3⟩; have HB3 := Lib.hid (HB2.out.trans (hb3.mono (by have := HB2.out.size; omega))); clear hb3; obtain ⟨C, hC⟩ : ∃ C, w3.heap.size = C := ⟨_, rfl⟩; obtain ⟨U, hU⟩ : ∃ U, w3.alloc (.cells (fracF (fun _ => 0) 0 false (fun _ => 0) 0 false) 114) = U := ⟨_, rfl⟩; have HU := Lib.hid (show BlockIs U C 114 (fracF (fun _ => 0) 0 false (fun _ => 0) 0 false) ∧ Below B w U ∧ B ≤ C by rw [← hU, ← hC]; have := HB3.out.size; exact ⟨BlockIs.new _ _ _, HB3.out.alloc (by omega) _, by omega⟩)) | ((with_reducible refine wpF_store (.tmp 4) (.tmp 15) C (f := limb a) (u := len a) (s := s) (g := limb b) (v := len b) (t := false) ?_ ?_ HU.out.1 ?_); rfl; rfl; have HV := Lib.hid (show BlockIs (U.setRow C (frac s a false b)) C 114 (frac s a false b) ∧ Below B w (U.setRow C (frac s a false b)) from ⟨HU.out.1.row _, below_row HU.out.2.1 _ _ HU.out.2.2⟩); obtain ⟨V, hV⟩ : ∃ V, U.setRow C (frac s a false b) = V := ⟨_, rfl⟩; rw [hV] at HV ⊢; clear hV HU hU hC) | ((with_reducible refine wpM_loadAt (.tmp 17) C 32 ?_ (range_mag (frac_range1 HV.out.1)) ?_); rfl) | (go_at_call 86; refine (HZ.out _).mono ?_; rintro e w5 ⟨rfl, hb5⟩; have HV5 := Lib.hid (show BlockIs w5 C 114 (frac s a false b) ∧ Below B w w5 from ⟨HV.out.1.below hb5 HV.out.1.lt, HV.out.2.trans (hb5.mono (by have := HV.out.2.size; omega))⟩); clear hb5; have c63 := range_neg (frac_range1 HV5.out.1)) | ((with_reducible refine wpM_loadAtG (.tmp 27) C 0 ?_ ?_ (range_mag (frac_range0 HV5.out.1)) ?_); rfl; rfl) | ((with_reducible refine wpM_loadAtG (.tmp 30) C 32 ?_ ?_ (range_mag (frac_range1 HV5.out.1)) ?_); rfl; rfl) | (go_at_call 92; refine (HG.out _).mono ?_; rintro e w6 ⟨rfl, hb6⟩; have HB6 := Lib.hid (HV5.out.2.trans (hb6.mono (by have := HV5.out.2.size; omega))); clear hb6) | (go_at_call 105; refine (HO.out _).mono ?_; rintro e w7 ⟨rfl, hb7⟩; have HB7 := Lib.hid (HB6.out.trans (hb7.mono (by have := HB6.out.size; omega))); clear hb7))
        go_ret
        exact ⟨ret_int HE.out.symm, hB ▸ HB7.out⟩
    · have HE := Lib.hid (show r = 1 by rw [← HR.out]; unfold realE; rw [if_pos (Or.inr (Or.inl rfl))])
      clear hb0 ha29 hb29
      go_enter Tryz.func45, Tryz.ntmps45
      go_wp2_with (go_at_call 103; refine (HC.out _).mono ?_; rintro e w1 ⟨rfl, hw⟩; rw [hw]; clear hw)
      refine HSP.out.mono ?_
      rintro e w1 ⟨rfl, rfl⟩
      rw [hB, hW]
      go_wp2_with (first | (go_at_call 79; refine HCK.out.mono ?_; rintro e w2 ⟨rfl, hb2⟩; have HB2 := Lib.hid (HBL.out.trans (hb2.mono (by have := HBL.out.size; omega))); clear hb2) | (go_at_call 101; refine (HRF.out _ HB2.out).mono ?_; rintro e w3 ⟨rfl, hb3⟩; have HB3 := Lib.hid (HB2.out.trans (hb3.mono (by have := HB2.out.size; omega))); clear hb3; obtain ⟨C, hC⟩ : ∃ C, w3.heap.size = C := ⟨_, rfl⟩; obtain ⟨U, hU⟩ : ∃ U, w3.alloc (.cells (fracF (fun _ => 0) 0 false (fun _ => 0) 0 false) 114) = U := ⟨_, rfl⟩; have HU := Lib.hid (show BlockIs U C 114 (fracF (fun _ => 0) 0 false (fun _ => 0) 0 false) ∧ Below B w U ∧ B ≤ C by rw [← hU, ← hC]; have := HB3.out.size; exact ⟨BlockIs.new _ _ _, HB3.out.alloc (by omega) _, by omega⟩)) | ((with_reducible refine wpF_store (.tmp 4) (.tmp 15) C (f := limb a) (u := len a) (s := s) (g := limb b) (v := len b) (t := true) ?_ ?_ HU.out.1 ?_); rfl; rfl; have HV := Lib.hid (show BlockIs (U.setRow C (frac s a true b)) C 114 (frac s a true b) ∧ Below B w (U.setRow C (frac s a true b)) from ⟨HU.out.1.row _, below_row HU.out.2.1 _ _ HU.out.2.2⟩); obtain ⟨V, hV⟩ : ∃ V, U.setRow C (frac s a true b) = V := ⟨_, rfl⟩; rw [hV] at HV ⊢; clear hV HU hU hC) | ((with_reducible refine wpM_loadAt (.tmp 17) C 32 ?_ (range_mag (frac_range1 HV.out.1)) ?_); rfl) | (go_at_call 86; refine (HZ.out _).mono ?_; rintro e w5 ⟨rfl, hb5⟩; have HV5 := Lib.hid (show BlockIs w5 C 114 (frac s a true b) ∧ Below B w w5 from ⟨HV.out.1.below hb5 HV.out.1.lt, HV.out.2.trans (hb5.mono (by have := HV.out.2.size; omega))⟩); clear hb5; have c63 := range_neg (frac_range1 HV5.out.1)))
      go_ret
      exact ⟨ret_int HE.out.symm, hB ▸ HV5.out.2⟩
end Go.Proofs.YtjemolaobhlapaaGreatDoor
