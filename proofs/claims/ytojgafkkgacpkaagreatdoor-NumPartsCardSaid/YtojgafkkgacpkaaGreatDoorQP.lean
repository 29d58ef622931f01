/- FromDecimal: one answer of the program and of the reference. -/
import Derived.Test.YtojgafkkgacpkaaGreatDoorQN
import Derived.Test.YtojgafkkgacpkaaGreatDoorQI
set_option linter.unusedSimpArgs false
set_option linter.unusedVariables false
namespace Go.Proofs.YtojgafkkgacpkaaGreatDoor
open Go.RowKit
set_option maxRecDepth 100000

theorem cutD (z : ByteArray) (hz : z.size ≤ 300) (X Y : List UInt8) (f : Bool) (hc : Lib.cut z.data.toList [46] = (X, Y, f)) (W : World) (hW : MLen W) :
    Calls Tryz.prog 110 #[.string z, .string ⟨#[46]⟩] W fun e w' => e = .returned (.tuple #[.string (bs X), .string (bs Y), .bool f]) ∧ Below W.heap.size W w' := by
  obtain ⟨m, hm1⟩ := hW.ml
  have h := Tryz.strings_Cut z ⟨#[46]⟩ m W (by omega) hm1
  rw [show Lib.cut z.data.toList (ByteArray.mk #[46]).data.toList = (X, Y, f) from hc] at h
  refine h.mono ?_
  rintro e w1 ⟨rfl, n1, rfl⟩
  exact ⟨rfl, below_dN (Below.refl _ _) _⟩
set_option maxHeartbeats 4000000 in
theorem FD_form (z : ByteArray) (hz : z.size ≤ 300) (X Y : List UInt8) (f : Bool) (hc : Lib.cut z.data.toList [46] = (X, Y, f)) (bx by' : Bool) (hX : allD X = bx) (hY : allD Y = by') (hb : (bx && by') = false) (w : World) (hm : MLen w) :
    Calls Tryz.prog 51 #[.string z] w fun e w' => e = .returned (.tuple #[.string ⟨#[]⟩, .int .i64 1]) ∧ Below w.heap.size w w' := by
  have HCU := Lib.hid (cutD z hz X Y f hc w hm)
  have HAX := Lib.hid (fun W => allDigits_any (bs X) W bx hX)
  have HAY := Lib.hid (fun W => allDigits_any (bs Y) W by' hY)
  obtain ⟨x, hx⟩ : ∃ x, bs X = x := ⟨_, rfl⟩
  obtain ⟨y, hy⟩ : ∃ x, bs Y = x := ⟨_, rfl⟩
  rw [hx] at HCU HAX
  rw [hy] at HCU HAY
  clear hx hy hX hY hc hz hm
  cases bx
  · clear hb HAY
    go_enter Tryz.func51, Tryz.ntmps51
    go_wp2_with (first | (go_at_call 110; refine HCU.out.mono ?_; rintro e w1 ⟨rfl, hb1⟩; have HB1 := Lib.hid hb1; clear hb1) | (go_at_call 63; (with_reducible refine (HAX.out _).mono ?_); rintro e w2 ⟨rfl, hb2⟩; have HB2 := Lib.hid (HB1.out.trans (hb2.mono HB1.out.size)); clear hb2))
    go_ret2
    exact ⟨rfl, HB2.out⟩
  · cases by'
    · clear hb
      go_enter Tryz.func51, Tryz.ntmps51
      go_wp2_with (first | (go_at_call 110; refine HCU.out.mono ?_; rintro e w1 ⟨rfl, hb1⟩; have HB1 := Lib.hid hb1; clear hb1) | (go_at_call 63; (with_reducible refine (HAX.out _).mono ?_); rintro e w2 ⟨rfl, hb2⟩; have HB2 := Lib.hid (HB1.out.trans (hb2.mono HB1.out.size)); clear hb2) | (go_at_call 63; (with_reducible refine (HAY.out _).mono ?_); rintro e w3 ⟨rfl, hb3⟩; have HB3 := Lib.hid (HB2.out.trans (hb3.mono HB2.out.size)); clear hb3))
      go_ret2
      exact ⟨rfl, HB3.out⟩
    · cases hb
set_option maxHeartbeats 4000000 in
theorem FD_long (z : ByteArray) (hz : z.size ≤ 300) (X Y : List UInt8) (f : Bool) (hc : Lib.cut z.data.toList [46] = (X, Y, f)) (hX : allD X = true) (hY : allD Y = true) (hl : 120 < X.length + Y.length) (w : World) (hm : MLen w) :
    Calls Tryz.prog 51 #[.string z] w fun e w' => e = .returned (.tuple #[.string ⟨#[]⟩, .int .i64 4]) ∧ Below w.heap.size w w' := by
  have HCU := Lib.hid (cutD z hz X Y f hc w hm)
  have HAX := Lib.hid (fun W => allDigits_any (bs X) W true hX)
  have HAY := Lib.hid (fun W => allDigits_any (bs Y) W true hY)
  have hlen : 120 < (bs X).size + (bs Y).size := by rw [bs_size, bs_size]; exact hl
  obtain ⟨x, hx⟩ : ∃ x, bs X = x := ⟨_, rfl⟩
  obtain ⟨y, hy⟩ : ∃ x, bs Y = x := ⟨_, rfl⟩
  have hsx : (bs X).size + (bs Y).size ≤ 300 := by
    rw [bs_size, bs_size]
    have h1 := hc
    unfold Lib.cut at h1
    have h2 : z.data.toList.length = z.size := by simp
    split at h1
    · rw [Prod.mk.injEq, Prod.mk.injEq] at h1
      rw [← h1.1, ← h1.2.1, List.length_take, List.length_drop]
      omega
    · rw [Prod.mk.injEq, Prod.mk.injEq] at h1
      rw [← h1.1, ← h1.2.1]
      simp
      omega
  rw [hx] at HCU HAX hlen hsx
  rw [hy] at HCU HAY hlen hsx
  have b1 : decide ((120 : Int) < (x.size : Int) + (y.size : Int)) = true := by simp; omega
  clear hx hy hX hY hc hz hm hl
  go_enter Tryz.func51, Tryz.ntmps51
  go_wp2_with (first | (go_at_call 110; refine HCU.out.mono ?_; rintro e w1 ⟨rfl, hb1⟩; have HB1 := Lib.hid hb1; clear hb1) | (go_at_call 63; (with_reducible refine (HAX.out _).mono ?_); rintro e w2 ⟨rfl, hb2⟩; have HB2 := Lib.hid (HB1.out.trans (hb2.mono HB1.out.size)); clear hb2) | (go_at_call 63; (with_reducible refine (HAY.out _).mono ?_); rintro e w3 ⟨rfl, hb3⟩; have HB3 := Lib.hid (HB2.out.trans (hb3.mono HB2.out.size)); clear hb3))
  go_ret2
  exact ⟨rfl, HB3.out⟩

theorem scan_app (X Z : List UInt8) (A : Int) (k : Nat) (h : 46 ∉ X) : scanD A k (X ++ Z) = if X.all isDig = true then scanD A (k + X.length) Z else none := by
  induction X generalizing k with
  | nil => simp
  | cons c X ih =>
    have hc : c ≠ 46 := fun h1 => h (by rw [h1]; exact List.mem_cons_self)
    have hX : 46 ∉ X := fun h1 => h (List.mem_cons_of_mem _ h1)
    show scanD A k (c :: (X ++ Z)) = _
    conv => lhs; unfold scanD
    rw [if_neg (fun h1 => hc h1.1)]
    by_cases hd : isDig c = true
    · rw [if_pos hd, ih (k + 1) hX, List.all_cons, hd, Bool.true_and, List.length_cons, show k + 1 + X.length = k + (X.length + 1) by omega]
    · rw [if_neg hd, if_neg (by rw [List.all_cons]; simp [hd])]
theorem scan_rest (Y : List UInt8) (A : Int) (hA : 0 ≤ A) (k : Nat) : scanD A k Y = if Y.all isDig = true then some A else none := by
  induction Y generalizing k with
  | nil => simp [scanD]
  | cons c Y ih =>
    unfold scanD
    rw [if_neg (by omega)]
    by_cases hd : isDig c = true
    · rw [if_pos hd, ih (k + 1), List.all_cons, hd, Bool.true_and]
    · rw [if_neg hd, if_neg (by rw [List.all_cons]; simp [hd])]
theorem scan_dot (X Y : List UInt8) (h : 46 ∉ X) : scanD (-1) 0 (X ++ 46 :: Y) = if X.all isDig = true ∧ Y.all isDig = true then some (X.length : Int) else none := by
  rw [scan_app X _ _ _ h]
  by_cases hX : X.all isDig = true
  · rw [if_pos hX]
    have h1 : scanD (-1) (0 + X.length) (46 :: Y) = scanD ((0 + X.length : Nat) : Int) (0 + X.length + 1) Y := by
      unfold scanD
      rw [if_pos ⟨rfl, by omega⟩]
      cases Y <;> rfl
    rw [h1, scan_rest Y _ (by omega), Nat.zero_add]
    by_cases hY : Y.all isDig = true
    · rw [if_pos hY, if_pos ⟨hX, hY⟩]
    · rw [if_neg hY, if_neg (fun h => hY h.2)]
  · rw [if_neg hX, if_neg (fun h => hX h.1)]
theorem cut_none (L : List UInt8) (h : 46 ∉ L) : Lib.cut L [46] = (L, [], false) := by
  unfold Lib.cut
  rw [if_neg]
  rw [Lib.index_one]
  intro h0
  obtain ⟨o, ho⟩ : ∃ o : Nat, Lib.indexByte L 46 = o := ⟨(Lib.indexByte L 46).toNat, by omega⟩
  exact h (List.mem_of_getElem? (Lib.indexByte_some ho).1)
theorem extract_left {X Y : List UInt8} {c : UInt8} : (bs (X ++ c :: Y)).extract 0 X.length = bs X := by
  apply bytes_eq
  simp [bs]
theorem extract_right {X Y : List UInt8} {c : UInt8} : (bs (X ++ c :: Y)).extract (X.length + 1) (bs (X ++ c :: Y)).size = bs Y := by
  apply bytes_eq
  rw [Lib.extract_to_end, bs_list]
  simp
abbrev Op1M (f : Nat) (u : ByteArray) (x y : Value) : Prop := ∀ W : World, MLen W → Calls Tryz.prog f #[.string u] W fun e w' => e = .returned (.tuple #[x, y]) ∧ Below W.heap.size W w'
abbrev Op1Is (f : Nat) (u : ByteArray) (x y : Value) : Prop := ∀ W : World, Calls Tryz.prog f #[.string u] W fun e w' => e = .returned (.tuple #[x, y]) ∧ Below W.heap.size W w'
theorem same_below {f : Nat} {u : ByteArray} {x y : Value} (h : ∀ W : World, Calls Tryz.prog f #[.string u] W fun e w' => e = .returned (.tuple #[x, y]) ∧ W = w') : Op1Is f u x y :=
  fun W => (h W).mono fun _ _ ⟨h1, h2⟩ => ⟨h1, by rw [← h2]; exact Below.refl _ _⟩
theorem decBoth (s : ByteArray) (hs : s.size ≤ 300) : ∃ (res : ByteArray) (er : Int), Op1M 51 s (.string res) (.int .i64 er) ∧ Op1Is 52 s (.string res) (.int .i64 er) := by
  by_cases h46 : (46 : UInt8) ∈ s.data.toList
  · obtain ⟨X, Y, hl, hX⟩ : ∃ X Y, s.data.toList = X ++ 46 :: Y ∧ 46 ∉ X := by
      have h1 := List.eq_append_cons_of_mem h46
      obtain ⟨X, Y, h1, h2⟩ := h1
      exact ⟨X, Y, h1, h2⟩
    have hsb : s = bs (X ++ 46 :: Y) := bytes_eq hl
    have hlen : X.length + Y.length + 1 = s.size := by
      have : s.data.toList.length = s.size := by simp
      rw [← this, hl, List.length_append, List.length_cons]; omega
    have hcut : Lib.cut s.data.toList [46] = (X, Y, true) := by rw [hl]; exact cut_app 46 X Y hX
    have hscan := scan_dot X Y hX
    rw [← hl] at hscan
    by_cases hg : (allD X && allD Y) = false
    · refine ⟨⟨#[]⟩, 1, fun W hm => FD_form s hs X Y true hcut _ _ rfl rfl hg W hm, same_below fun W => ?_⟩
      by_cases ha : X.all isDig = true ∧ Y.all isDig = true
      · rw [if_pos ha] at hscan
        refine rFD_form s hs _ hscan X.length rfl ?_ W
        unfold allD at hg
        rw [ha.1, ha.2] at hg
        cases X with
        | nil => left; simp
        | cons _ _ =>
          cases Y with
          | nil => right; rw [← hlen]; simp
          | cons _ _ => simp at hg
      · rw [if_neg ha] at hscan
        exact rFD_none s hs _ hscan rfl W
    · have hg2 : allD X = true ∧ allD Y = true := by simpa using hg
      have hdX : X.all isDig = true ∧ X ≠ [] := by have := hg2.1; unfold allD at this; rw [Bool.and_eq_true] at this; exact ⟨this.1, by rintro rfl; simp at this⟩
      have hdY : Y.all isDig = true ∧ Y ≠ [] := by have := hg2.2; unfold allD at this; rw [Bool.and_eq_true] at this; exact ⟨this.1, by rintro rfl; simp at this⟩
      rw [if_pos ⟨hdX.1, hdY.1⟩] at hscan
      have hpX : 0 < X.length := List.length_pos_iff.2 hdX.2
      have hpY : 0 < Y.length := List.length_pos_iff.2 hdY.2
      by_cases hlong : 120 < X.length + Y.length
      · exact ⟨⟨#[]⟩, 4, fun W hm => FD_long s hs X Y true hcut hg2.1 hg2.2 hlong W hm, same_below fun W => rFD_long s hs _ hscan X.length rfl (by omega) (by omega) (by omega) W⟩
      · obtain ⟨res, er, hres⟩ : ∃ a b, finR false (numOf (X ++ Y) / Nat.gcd (numOf (X ++ Y)) (10 ^ Y.length)) (10 ^ Y.length / Nat.gcd (numOf (X ++ Y)) (10 ^ Y.length)) = (a, b) := ⟨_, _, rfl⟩
        have hXd : ∀ c ∈ X, isDig c = true := List.all_eq_true.1 hdX.1
        have hYd : ∀ c ∈ Y, isDig c = true := List.all_eq_true.1 hdY.1
        refine ⟨res, er, fun W hm => ?_, fun W => ?_⟩
        · rw [hsb]
          exact FromDecimal_any X Y hXd hYd hdX.2 hdY.2 (by omega) _ _ rfl rfl res er hres W hm
        · have hex := extract_left (X := X) (Y := Y) (c := 46)
          have hey := extract_right (X := X) (Y := Y) (c := 46)
          rw [← hsb] at hex hey
          refine rFD_ok s (by omega) _ hscan X.length rfl hpX (by omega) (bs X) (bs Y) (bs (X ++ Y)) hex hey (bs_app X Y) (by rw [bs_size, List.length_append]; omega) (by rw [bs_size, List.length_append]; omega) (by rw [bs_list]; intro b hb; rw [List.mem_append] at hb; exact hb.elim (hXd b) (hYd b)) (numOf (X ++ Y)) (by rw [bs_list]) (10 ^ Y.length) (by congr 1; omega) _ rfl res er hres W
  · have hcut := cut_none _ h46
    refine ⟨⟨#[]⟩, 1, fun W hm => FD_form s hs _ _ _ hcut _ false rfl rfl (by simp) W hm, same_below fun W => ?_⟩
    have h1 := scan_app s.data.toList [] (-1) 0 h46
    rw [List.append_nil] at h1
    by_cases ha : s.data.toList.all isDig = true
    · rw [if_pos ha] at h1
      exact rFD_form s hs _ h1 (-1) (by simp [scanD]) (Or.inl (by decide)) W
    · rw [if_neg ha] at h1
      exact rFD_none s hs _ h1 rfl W
end Go.Proofs.YtojgafkkgacpkaaGreatDoor

namespace Go.Proofs.YtojgafkkgacpkaaGreatDoor
open Go.RowKit
set_option maxRecDepth 1000000

abbrev Op2M (f : Nat) (u v : ByteArray) (x y : Value) : Prop := ∀ W : World, MLen W → Calls Tryz.prog f #[.string u, .string v] W fun e w' => e = .returned (.tuple #[x, y]) ∧ Below W.heap.size W w'
abbrev Op2Is (f : Nat) (u v : ByteArray) (x y : Value) : Prop := ∀ W : World, Calls Tryz.prog f #[.string u, .string v] W fun e w' => e = .returned (.tuple #[x, y]) ∧ Below W.heap.size W w'
abbrev Op3M (f : Nat) (u : ByteArray) (x y z : Value) : Prop := ∀ W : World, MLen W → Calls Tryz.prog f #[.string u] W fun e w' => e = .returned (.tuple #[x, y, z]) ∧ Below W.heap.size W w'
abbrev Op3Is (f : Nat) (u : ByteArray) (x y z : Value) : Prop := ∀ W : World, Calls Tryz.prog f #[.string u] W fun e w' => e = .returned (.tuple #[x, y, z]) ∧ Below W.heap.size W w'
theorem long_three (x y z : ByteArray) (w : World) (r : Bool) (hr : longE [x, y, z] = r) :
    Calls Tryz.prog 11 #[.slice (some ⟨w.heap.size, 0, none⟩) 3 3] (w.alloc (.cells #[.string x, .string y, .string z] 9)) fun e w' => e = .returned (.bool r) ∧ w.alloc (.cells #[.string x, .string y, .string z] 9) = w' :=
  long_any [x, y, z] w.heap.size _ (by simp) (by
    intro j hj
    match j, hj with
    | 0, _ => exact (BlockIs.new w 9 #[.string x, .string y, .string z]).at 0
    | 1, _ => exact (BlockIs.new w 9 #[.string x, .string y, .string z]).at 1
    | 2, _ => exact (BlockIs.new w 9 #[.string x, .string y, .string z]).at 2) r hr
set_option maxHeartbeats 40000000 in
theorem parts_long (u v t : ByteArray) (hl : longE [u, v, t] = true) (w : World) (he : Env w) :
    Calls Tryz.prog 5 #[.string u, .string v, .string t] w fun e w' => e = .returned (.bool true) ∧ Below w.heap.size w w' := by
  have HA := Lib.hid (show Aq w w from ⟨Below.refl _ _, he⟩)
  clear he
  have HW := Lib.hid (fun W (h : Env W) => awake_any W h)
  have HL := Lib.hid (fun W => long_three u v t W true hl)
  clear hl
  go_enter Tryz.func5, Tryz.ntmps5
  go_wp2_with (first | (go_at_call 10; (with_reducible refine (HW.out _ HA.out.env).mono ?_); rintro e w6 ⟨rfl, hb6⟩; replace HA := Lib.hid (HA.out.step hb6); clear hb6) | (go_at_call 11; refine (HL.out _).mono ?_; rintro e w6 ⟨rfl, rfl⟩; replace HA := Lib.hid (HA.out.step ((Below.refl _ _).alloc (Nat.le_refl _) (.cells #[.string u, .string v, .string t] 9)))))
  go_ret
  exact ⟨rfl, HA.out.bl⟩
set_option maxHeartbeats 40000000 in
theorem parts_same (u v t : ByteArray) (hl : longE [u, v, t] = false) (r : Int) (a1 : CheckM 45 u r) (b1 : CheckIs 46 u r) (x2 : ByteArray) (e2 : Int) (a2 : Op2M 47 v t (.string x2) (.int .i64 e2)) (b2 : Op2Is 48 v t (.string x2) (.int .i64 e2)) (x3 y3 : ByteArray) (e3 : Int) (a3 : Op3M 49 u (.string x3) (.string y3) (.int .i64 e3)) (b3 : Op3Is 50 u (.string x3) (.string y3) (.int .i64 e3)) (x4 : ByteArray) (e4 : Int) (a4 : Op1M 51 u (.string x4) (.int .i64 e4)) (b4 : Op1Is 52 u (.string x4) (.int .i64 e4)) (x5 : ByteArray) (e5 : Int) (a5 : Op1M 53 u (.string x5) (.int .i64 e5)) (b5 : Op1Is 54 u (.string x5) (.int .i64 e5)) (w : World) (he : Env w) :
    Calls Tryz.prog 5 #[.string u, .string v, .string t] w fun e w' => e = .returned (.bool true) ∧ Below w.heap.size w w' := by
  have HA := Lib.hid (show Aq w w from ⟨Below.refl _ _, he⟩)
  clear he
  have HW := Lib.hid (fun W (h : Env W) => awake_any W h)
  have HL := Lib.hid (fun W => long_three u v t W false hl)
  have A1 := Lib.hid a1
  have B1 := Lib.hid b1
  have A2 := Lib.hid a2
  have B2 := Lib.hid b2
  have A3 := Lib.hid a3
  have B3 := Lib.hid b3
  have A4 := Lib.hid a4
  have B4 := Lib.hid b4
  have A5 := Lib.hid a5
  have B5 := Lib.hid b5
  have H2 := Lib.hid (fun W => both_same x2 e2 W)
  have H3 := Lib.hid (fun W => both_same y3 e3 W)
  have H4 := Lib.hid (fun W => both_same x4 e4 W)
  have H5 := Lib.hid (fun W => both_same x5 e5 W)
  clear hl a1 b1 a2 b2 a3 b3 a4 b4 a5 b5
  go_enter Tryz.func5, Tryz.ntmps5
  go_wp2_with (first | (go_at_call 10; (with_reducible refine (HW.out _ HA.out.env).mono ?_); rintro e w6 ⟨rfl, hb6⟩; replace HA := Lib.hid (HA.out.step hb6); clear hb6) | (go_at_call 11; refine (HL.out _).mono ?_; rintro e w6 ⟨rfl, rfl⟩; replace HA := Lib.hid (HA.out.step ((Below.refl _ _).alloc (Nat.le_refl _) (.cells #[.string u, .string v, .string t] 9)))) | (go_at_call 45; (with_reducible refine (A1.out _ HA.out.env.ml).mono ?_); rintro e w6 ⟨rfl, hb6⟩; replace HA := Lib.hid (HA.out.step hb6); clear hb6) | (go_at_call 47; (with_reducible refine (A2.out _ HA.out.env.ml).mono ?_); rintro e w6 ⟨rfl, hb6⟩; replace HA := Lib.hid (HA.out.step hb6); clear hb6) | (go_at_call 49; (with_reducible refine (A3.out _ HA.out.env.ml).mono ?_); rintro e w6 ⟨rfl, hb6⟩; replace HA := Lib.hid (HA.out.step hb6); clear hb6) | (go_at_call 51; (with_reducible refine (A4.out _ HA.out.env.ml).mono ?_); rintro e w6 ⟨rfl, hb6⟩; replace HA := Lib.hid (HA.out.step hb6); clear hb6) | (go_at_call 53; (with_reducible refine (A5.out _ HA.out.env.ml).mono ?_); rintro e w6 ⟨rfl, hb6⟩; replace HA := Lib.hid (HA.out.step hb6); clear hb6) | (go_at_call 46; (with_reducible refine (B1.out _).mono ?_); rintro e w6 ⟨rfl, hb6⟩; replace HA := Lib.hid (HA.out.step hb6); clear hb6) | (go_at_call 48; (with_reducible refine (B2.out _).mono ?_); rintro e w6 ⟨rfl, hb6⟩; replace HA := Lib.hid (HA.out.step hb6); clear hb6) | (go_at_call 50; (with_reducible refine (B3.out _).mono ?_); rintro e w6 ⟨rfl, hb6⟩; replace HA := Lib.hid (HA.out.step hb6); clear hb6) | (go_at_call 52; (with_reducible refine (B4.out _).mono ?_); rintro e w6 ⟨rfl, hb6⟩; replace HA := Lib.hid (HA.out.step hb6); clear hb6) | (go_at_call 54; (with_reducible refine (B5.out _).mono ?_); rintro e w6 ⟨rfl, hb6⟩; replace HA := Lib.hid (HA.out.step hb6); clear hb6) | (go_at_call 20; (with_reducible refine (H2.out _).mono ?_); rintro e w6 ⟨rfl, rfl⟩) | (go_at_call 20; (with_reducible refine (H3.out _).mono ?_); rintro e w6 ⟨rfl, rfl⟩) | (go_at_call 20; (with_reducible refine (H4.out _).mono ?_); rintro e w6 ⟨rfl, rfl⟩) | (go_at_call 20; (with_reducible refine (H5.out _).mono ?_); rintro e w6 ⟨rfl, rfl⟩))
  go_ret
  exact ⟨rfl, HA.out.bl⟩
/-- Real: one answer for both. -/
theorem realOf (x y : ByteArray) (hx : x.size ≤ 300) (hy : y.size ≤ 300) : ∃ (res : ByteArray) (er : Int), Op2M 47 x y (.string res) (.int .i64 er) ∧ Op2Is 48 x y (.string res) (.int .i64 er) := by
  obtain ⟨c, hc⟩ : ∃ c, (y.toList == [48]) = c := ⟨_, rfl⟩
  by_cases h0 : (if checkS x.data.toList = 0 then checkS y.data.toList else checkS x.data.toList) = 0
  · have ha : checkS x.data.toList = 0 := by
      by_cases h : checkS x.data.toList = 0
      · exact h
      · rw [if_neg h] at h0; exact h0
    rw [if_pos ha] at h0
    obtain ⟨s, a, hxl, hna⟩ := check_back ha
    obtain ⟨t, b, hyl, hnb⟩ := check_back h0
    have hxb : x = bs (numeral s a) := bytes_eq hxl
    have hyb : y = bs (numeral t b) := bytes_eq hyl
    by_cases hb0 : b = 0
    · have ht : t = false := by
        cases t
        · rfl
        · exact absurd hb0 (hnb.sign rfl)
      subst ht hb0
      have hct : (y.toList == [48]) = true := by
        rw [hyb]
        have := str_is (b := 0) (k := 0) (by decide)
        simpa using this
      refine ⟨⟨#[]⟩, 30, fun W _ => ?_, fun W => rReal_err x y (by omega) (by omega) 0 0 30 30 true ha h0 hct rfl rfl (by decide) W⟩
      rw [hxb, hyb]
      exact Real_zero s a hna hnb W
    · obtain ⟨g, hg⟩ : ∃ g, Nat.gcd a b = g := ⟨_, rfl⟩
      obtain ⟨s2, hs2⟩ : ∃ s2, (if t = true then ((!s) && !decide (a = 0)) else s) = s2 := ⟨_, rfl⟩
      have hr : ((s != t) && !decide (a / g = 0)) = ((s2 != false) && !decide (a / g = 0)) := by
        rw [← hs2]
        by_cases h1 : a / g = 0
        · rw [decide_eq_true h1]; simp
        · have h2 : a ≠ 0 := by rintro rfl; exact h1 (Nat.zero_div g)
          rw [decide_eq_false h1, decide_eq_false h2]
          cases s <;> cases t <;> rfl
      obtain ⟨r, hr2⟩ : ∃ r, ((s2 != false) && !decide (a / g = 0)) = r := ⟨_, rfl⟩
      obtain ⟨res, er, hres⟩ : ∃ p q, finR r (a / g) (b / g) = (p, q) := ⟨_, _, rfl⟩
      refine ⟨res, er, fun W _ => ?_, fun W => ?_⟩
      · rw [hxb, hyb]
        exact Real_any s t a b hna hnb (by omega) r (a / g) (b / g) (by rw [hg]) (by rw [hg]) (by rw [hr, hr2]) res er hres W
      · rw [hxb, hyb]
        exact rReal_ok s t a b hna hnb (by omega) g hg s2 hs2 r hr2 res er hres W
  · obtain ⟨r, hr⟩ : ∃ r, (if checkS x.data.toList = 0 then checkS y.data.toList else checkS x.data.toList) = r := ⟨_, rfl⟩
    rw [hr] at h0
    refine ⟨⟨#[]⟩, r, fun W _ => Real_err x y _ _ r rfl rfl hr h0 W, fun W => rReal_err x y (by omega) (by omega) _ _ _ r c rfl rfl hc rfl ?_ h0 W⟩
    by_cases h1 : checkS x.data.toList = 0
    · rw [if_pos h1] at hr ⊢
      rw [if_neg (by rw [hr]; exact h0)]
      exact hr
    · rw [if_neg h1] at hr ⊢
      exact hr
/-- Floor: one answer for both. -/
theorem floorOf {x : Rat} (hx : FitsR x) : ∃ (res : ByteArray) (er : Int), Op1M 53 (rnum x) (.string res) (.int .i64 er) ∧ Op1Is 54 (rnum x) (.string res) (.int .i64 er) := by
  obtain ⟨q, r, hq⟩ : ∃ q r, (if (isNeg x.num && !decide (x.num.natAbs % x.den = 0)) = true then (x.num.natAbs / x.den + 1, x.den - x.num.natAbs % x.den) else (x.num.natAbs / x.den, x.num.natAbs % x.den)) = (q, r) := ⟨_, _, rfl⟩
  obtain ⟨z, hz⟩ : ∃ z, ((isNeg x.num != false) && !decide (q = 0)) = z := ⟨_, rfl⟩
  have hle := floor_le x.den_pos hq
  have hqd : Lib.nDigits q ≤ 120 := digits_mono hle hx.top
  refine ⟨bs (numeral z q), 0, fun W hm => Floor_any _ _ _ hx.rat q r z hq hz (Nat.lt_of_lt_of_le (short_lt hqd) (pw_mono (by decide))) hqd W hm, fun W => ?_⟩
  refine rFloor_ok (rnum x) _ _ _ (rat_check hx) (rat_read hx) hx.ql.1 hx.ql.2 x.den_pos q r hq z hz _ _ ?_ W
  unfold resP
  rw [if_neg (by omega)]
theorem parts_any (u v t : ByteArray) (w : World) (he : Env w) :
    Calls Tryz.prog 5 #[.string u, .string v, .string t] w fun e w' => e = .returned (.bool true) ∧ Below w.heap.size w w' := by
  by_cases hl : longE [u, v, t] = true
  · exact parts_long u v t hl w he
  have hl2 : longE [u, v, t] = false := by simpa using hl
  have hs : u.size ≤ 300 ∧ v.size ≤ 300 ∧ t.size ≤ 300 := by
    simp [longE] at hl2
    omega
  obtain ⟨x2, e2, a2, b2⟩ := realOf v t hs.2.1 hs.2.2
  obtain ⟨x4, e4, a4, b4⟩ := decBoth u hs.1
  rcases realBoth u hs.1 with ⟨x, hxr, fx, cx, dx⟩ | ⟨r, h0, h1, h2⟩
  · obtain ⟨x5, e5, a5, b5⟩ := floorOf fx
    rw [← hxr] at a5 b5
    have hnX : 47 ∉ numeral (isNeg x.num) x.num.natAbs := numeral_no_slash _ _
    have hnY : 47 ∉ numeral false x.den := numeral_no_slash _ _
    have hur : u = bs (numeral (isNeg x.num) x.num.natAbs ++ 47 :: numeral false x.den) := hxr
    have hlen : (numeral (isNeg x.num) x.num.natAbs ++ 47 :: numeral false x.den).length < 1000 := by
      have : u.size = _ := (congrArg ByteArray.size hur).trans (bs_size _)
      omega
    refine parts_same u v t hl2 0 cx dx x2 e2 a2 b2 (bs (numeral (isNeg x.num) x.num.natAbs)) (bs (numeral false x.den)) 0 (fun W hm => ?_) (fun W => ?_) x4 e4 a4 b4 x5 e5 a5 b5 w he
    · rw [hur] at cx ⊢
      exact Parts_ok _ _ hnX hlen cx W hm
    · rw [hur] at dx ⊢
      exact rParts_ok _ _ hnX hnY hlen dx W
  · exact parts_same u v t hl2 r h1 h2 x2 e2 a2 b2 ⟨#[]⟩ ⟨#[]⟩ r (fun W hm => Parts_err u r h1 h0 W hm) (fun W => rParts_err u r h2 h0 W) x4 e4 a4 b4 ⟨#[]⟩ r (fun W hm => Floor_err u r h1 h0 W hm) (fun W => rFloor_err u r h2 h0 W) w he
end Go.Proofs.YtojgafkkgacpkaaGreatDoor
