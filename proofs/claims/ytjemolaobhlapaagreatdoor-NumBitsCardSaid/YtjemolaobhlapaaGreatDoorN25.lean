/- checkAll. -/
import Derived.Test.YtjemolaobhlapaaGreatDoorN22
set_option linter.unusedSimpArgs false
set_option linter.unusedVariables false
namespace Go.Proofs.YtjemolaobhlapaaGreatDoor
open Go.RowKit
set_option maxRecDepth 100000

set_option maxHeartbeats 2000000 in
theorem checkAll_Check (a b : ByteArray) (G : Nat) (w : World) (hG : BlockIs w G 9 #[.string a, .string b]) (ra rb r : Int)
    (HA : ∀ W, Below w.heap.size w W → Calls Tryz.prog 12 #[.string a] W fun e w' => e = .returned (.int .i64 ra) ∧ Below W.heap.size W w')
    (HB : ra = 0 → ∀ W, Below w.heap.size w W → Calls Tryz.prog 12 #[.string b] W fun e w' => e = .returned (.int .i64 rb) ∧ Below W.heap.size W w')
    (hr : (if ra = 0 then rb else ra) = r) :
    Calls Tryz.prog 79 #[.func (.func 12) #[] #[], .slice (some ⟨G, 0, none⟩) 2 2] w fun e w' => e = .returned (.int .i64 r) ∧ Below w.heap.size w w' := by
  have hA := Lib.hid HA
  have hB := Lib.hid HB
  have HG := Lib.hid hG
  have c0 : w.cell? ⟨G, 0, none⟩ = some (.string a) := hG.at 0
  have f0 := hG.thawed 0
  clear HA HB hG
  by_cases h0 : ra = 0
  · subst h0
    have hr2 : rb = r := by rw [← hr, if_pos rfl]
    subst hr2
    clear hr
    have hB2 := Lib.hid (hB.out rfl)
    clear hB
    by_cases h1 : rb = 0
    · subst h1
      go_enter Tryz.func79, Tryz.ntmps79
      go_wp2
      go_loopw [6, 7, 10] (fun _ _ x wr => ∃ i : Nat, i ≤ 2 ∧ x = .int .i64 i ∧ Hid (Below w.heap.size w wr)) (fun _ _ x _ => 2 - (intOf x).toNat)
      case atStart => exact ⟨0, by omega, rfl, Lib.hid (Below.refl _ _)⟩
      case round =>
        obtain ⟨i, hi, rfl, HW⟩ := hrel
        clear c0 f0
        have hGr := HG.out.below HW.out HG.out.lt
        have c0 : wr.cell? ⟨G, 0, none⟩ = some (.string a) := hGr.at 0
        have c1 : wr.cell? ⟨G, 1, none⟩ = some (.string b) := hGr.at 1
        have f0 := hGr.thawed 0
        have f1 := hGr.thawed 1
        clear hGr
        have h3 : i = 0 ∨ i = 1 ∨ i = 2 := by omega
        clear hi
        rcases h3 with rfl | rfl | rfl
        · go_wp2_with (go_at_call 12; refine (hA.out _ HW.out).mono ?_; rintro e w2 ⟨rfl, hb2⟩)
          all_goals go_roundw
          all_goals first | exact ⟨1, by omega, rfl, Lib.hid (HW.out.trans (hb2.mono HW.out.size))⟩ | (simp [intOf])
        · go_wp2_with (go_at_call 12; refine (hB2.out _ HW.out).mono ?_; rintro e w2 ⟨rfl, hb2⟩)
          all_goals go_roundw
          all_goals first | exact ⟨2, by omega, rfl, Lib.hid (HW.out.trans (hb2.mono HW.out.size))⟩ | (simp [intOf])
        · go_wp2
          all_goals go_ret
          all_goals exact ⟨rfl, HW.out⟩
    · go_enter Tryz.func79, Tryz.ntmps79
      go_wp2
      go_loopw [6, 7, 10] (fun _ _ x wr => ∃ i : Nat, i ≤ 1 ∧ x = .int .i64 i ∧ Hid (Below w.heap.size w wr)) (fun _ _ x _ => 2 - (intOf x).toNat)
      case atStart => exact ⟨0, by omega, rfl, Lib.hid (Below.refl _ _)⟩
      case round =>
        obtain ⟨i, hi, rfl, HW⟩ := hrel
        clear c0 f0
        have hGr := HG.out.below HW.out HG.out.lt
        have c0 : wr.cell? ⟨G, 0, none⟩ = some (.string a) := hGr.at 0
        have c1 : wr.cell? ⟨G, 1, none⟩ = some (.string b) := hGr.at 1
        have f0 := hGr.thawed 0
        have f1 := hGr.thawed 1
        clear hGr
        have h3 : i = 0 ∨ i = 1 := by omega
        clear hi
        rcases h3 with rfl | rfl
        · go_wp2_with (go_at_call 12; refine (hA.out _ HW.out).mono ?_; rintro e w2 ⟨rfl, hb2⟩)
          all_goals go_roundw
          all_goals first | exact ⟨1, by omega, rfl, Lib.hid (HW.out.trans (hb2.mono HW.out.size))⟩ | (simp [intOf])
        · go_wp2_with (go_at_call 12; refine (hB2.out _ HW.out).mono ?_; rintro e w2 ⟨rfl, hb2⟩)
          all_goals go_ret
          all_goals exact ⟨rfl, HW.out.trans (hb2.mono HW.out.size)⟩
  · have hr2 : ra = r := by rw [← hr, if_neg h0]
    subst hr2
    clear hr
    go_enter Tryz.func79, Tryz.ntmps79
    go_wp2
    go_loopw [6, 7, 10] (fun _ _ x wr => x = .int .i64 0 ∧ wr = w) (fun _ _ x _ => 0)
    case atStart => exact ⟨rfl, rfl⟩
    case round =>
      obtain ⟨rfl, rfl⟩ := hrel
      go_wp2_with (go_at_call 12; refine (hA.out _ (Below.refl _ _)).mono ?_; rintro e w2 ⟨rfl, hb2⟩)
      all_goals go_ret
      all_goals exact ⟨rfl, hb2⟩

set_option maxHeartbeats 2000000 in
theorem checkAll_CheckReal (a b : ByteArray) (G : Nat) (w : World) (hG : BlockIs w G 9 #[.string a, .string b]) (ra rb r : Int)
    (HA : ∀ W, Below w.heap.size w W → Calls Tryz.prog 45 #[.string a] W fun e w' => e = .returned (.int .i64 ra) ∧ Below W.heap.size W w')
    (HB : ra = 0 → ∀ W, Below w.heap.size w W → Calls Tryz.prog 45 #[.string b] W fun e w' => e = .returned (.int .i64 rb) ∧ Below W.heap.size W w')
    (hr : (if ra = 0 then rb else ra) = r) :
    Calls Tryz.prog 79 #[.func (.func 45) #[] #[], .slice (some ⟨G, 0, none⟩) 2 2] w fun e w' => e = .returned (.int .i64 r) ∧ Below w.heap.size w w' := by
  have hA := Lib.hid HA
  have hB := Lib.hid HB
  have HG := Lib.hid hG
  have c0 : w.cell? ⟨G, 0, none⟩ = some (.string a) := hG.at 0
  have f0 := hG.thawed 0
  clear HA HB hG
  by_cases h0 : ra = 0
  · subst h0
    have hr2 : rb = r := by rw [← hr, if_pos rfl]
    subst hr2
    clear hr
    have hB2 := Lib.hid (hB.out rfl)
    clear hB
    by_cases h1 : rb = 0
    · subst h1
      go_enter Tryz.func79, Tryz.ntmps79
      go_wp2
      go_loopw [6, 7, 10] (fun _ _ x wr => ∃ i : Nat, i ≤ 2 ∧ x = .int .i64 i ∧ Hid (Below w.heap.size w wr)) (fun _ _ x _ => 2 - (intOf x).toNat)
      case atStart => exact ⟨0, by omega, rfl, Lib.hid (Below.refl _ _)⟩
      case round =>
        obtain ⟨i, hi, rfl, HW⟩ := hrel
        clear c0 f0
        have hGr := HG.out.below HW.out HG.out.lt
        have c0 : wr.cell? ⟨G, 0, none⟩ = some (.string a) := hGr.at 0
        have c1 : wr.cell? ⟨G, 1, none⟩ = some (.string b) := hGr.at 1
        have f0 := hGr.thawed 0
        have f1 := hGr.thawed 1
        clear hGr
        have h3 : i = 0 ∨ i = 1 ∨ i = 2 := by omega
        clear hi
        rcases h3 with rfl | rfl | rfl
        · go_wp2_with (go_at_call 45; refine (hA.out _ HW.out).mono ?_; rintro e w2 ⟨rfl, hb2⟩)
          all_goals go_roundw
          all_goals first | exact ⟨1, by omega, rfl, Lib.hid (HW.out.trans (hb2.mono HW.out.size))⟩ | (simp [intOf])
        · go_wp2_with (go_at_call 45; refine (hB2.out _ HW.out).mono ?_; rintro e w2 ⟨rfl, hb2⟩)
          all_goals go_roundw
          all_goals first | exact ⟨2, by omega, rfl, Lib.hid (HW.out.trans (hb2.mono HW.out.size))⟩ | (simp [intOf])
        · go_wp2
          all_goals go_ret
          all_goals exact ⟨rfl, HW.out⟩
    · go_enter Tryz.func79, Tryz.ntmps79
      go_wp2
      go_loopw [6, 7, 10] (fun _ _ x wr => ∃ i : Nat, i ≤ 1 ∧ x = .int .i64 i ∧ Hid (Below w.heap.size w wr)) (fun _ _ x _ => 2 - (intOf x).toNat)
      case atStart => exact ⟨0, by omega, rfl, Lib.hid (Below.refl _ _)⟩
      case round =>
        obtain ⟨i, hi, rfl, HW⟩ := hrel
        clear c0 f0
        have hGr := HG.out.below HW.out HG.out.lt
        have c0 : wr.cell? ⟨G, 0, none⟩ = some (.string a) := hGr.at 0
        have c1 : wr.cell? ⟨G, 1, none⟩ = some (.string b) := hGr.at 1
        have f0 := hGr.thawed 0
        have f1 := hGr.thawed 1
        clear hGr
        have h3 : i = 0 ∨ i = 1 := by omega
        clear hi
        rcases h3 with rfl | rfl
        · go_wp2_with (go_at_call 45; refine (hA.out _ HW.out).mono ?_; rintro e w2 ⟨rfl, hb2⟩)
          all_goals go_roundw
          all_goals first | exact ⟨1, by omega, rfl, Lib.hid (HW.out.trans (hb2.mono HW.out.size))⟩ | (simp [intOf])
        · go_wp2_with (go_at_call 45; refine (hB2.out _ HW.out).mono ?_; rintro e w2 ⟨rfl, hb2⟩)
          all_goals go_ret
          all_goals exact ⟨rfl, HW.out.trans (hb2.mono HW.out.size)⟩
  · have hr2 : ra = r := by rw [← hr, if_neg h0]
    subst hr2
    clear hr
    go_enter Tryz.func79, Tryz.ntmps79
    go_wp2
    go_loopw [6, 7, 10] (fun _ _ x wr => x = .int .i64 0 ∧ wr = w) (fun _ _ x _ => 0)
    case atStart => exact ⟨rfl, rfl⟩
    case round =>
      obtain ⟨rfl, rfl⟩ := hrel
      go_wp2_with (go_at_call 45; refine (hA.out _ (Below.refl _ _)).mono ?_; rintro e w2 ⟨rfl, hb2⟩)
      all_goals go_ret
      all_goals exact ⟨rfl, hb2⟩
end Go.Proofs.YtjemolaobhlapaaGreatDoor

namespace Go.Proofs.YtjemolaobhlapaaGreatDoor
open Go.RowKit
set_option maxRecDepth 100000

theorem head_snoc {α : Type} {l : List α} {x : α} (h : l ≠ []) : (l ++ [x]).head? = l.head? := by
  cases l with
  | nil => exact absurd rfl h
  | cons a t => rfl
theorem dec_ne_nil (n : Nat) : Lib.decDigits n ≠ [] := by
  have := dec_pos n
  intro h; rw [h] at this; simp at this
/-- No leading zero. -/
theorem dec_head : ∀ n, 0 < n → (Lib.decDigits n).head? ≠ some 48 := by
  intro n
  induction n using Nat.strongRecOn with
  | _ n ih =>
    intro h0
    by_cases h : n < 10
    · rw [decDigits_small h]
      simp only [List.head?_cons, ne_eq, Option.some.injEq]
      intro he
      have := digit_byte h
      rw [he] at this
      have h48 : (48 : UInt8).toNat = 48 := rfl
      omega
    · rw [decDigits_big h, head_snoc (dec_ne_nil _)]
      exact ih (n / 10) (by omega) (by omega)
theorem dec_one {n : Nat} (h : 1 < (Lib.decDigits n).length) : 0 < n := by
  rcases Nat.eq_zero_or_pos n with rfl | h0
  · rw [decDigits_small (by omega)] at h; simp at h
  · exact h0
theorem allD_dec (n : Nat) : allD (Lib.decDigits n) = true := by
  unfold allD
  rw [Bool.and_eq_true]
  refine ⟨List.all_eq_true.2 (decDigits_dig n), ?_⟩
  cases h : Lib.decDigits n with
  | nil => exact absurd h (dec_ne_nil n)
  | cons _ _ => rfl
/-- A numeral that Check lets pass. -/
structure Num (s : Bool) (n : Nat) : Prop where
  sign : s = true → n ≠ 0
  short : Lib.nDigits n ≤ 120
theorem trim_numeral (s : Bool) (n : Nat) : Lib.trimPrefix (numeral s n) [45] = Lib.decDigits n := by
  rw [numeral_signed]; exact trim_signed (decDigits_dig n)
theorem numeral_zero {s : Bool} {n : Nat} (h : numeral s n = [45, 48]) : s = true ∧ n = 0 := by
  cases s
  · have h1 : Lib.decDigits n = [45, 48] := h
    have := decDigits_dig n 45 (by rw [h1]; simp)
    exact absurd this (by decide)
  · have h1 : Lib.decDigits n = [48] := by
      have : [45] ++ Lib.decDigits n = [45, 48] := h
      simpa using this
    refine ⟨rfl, ?_⟩
    rw [← numOf_dec n, h1]; rfl
theorem check_numeral {s : Bool} {n : Nat} (h : Num s n) : checkS (bs (numeral s n)).data.toList = 0 := by
  rw [bs_list]
  unfold checkS
  rw [trim_numeral, if_neg, if_neg]
  · rw [Lib.decDigits_length]; have := h.short; omega
  · rintro (h1 | ⟨h1, h2⟩ | h1)
    · rw [allD_dec] at h1; cases h1
    · exact dec_head n (dec_one h1) h2
    · obtain ⟨h2, h3⟩ := numeral_zero h1
      exact h.sign h2 h3
theorem short_lt {n : Nat} (h : Lib.nDigits n ≤ 120) : n < pw 14 := by
  have h1 := numOf_lt (decDigits_dig n)
  rw [numOf_dec, Lib.decDigits_length] at h1
  have h2 : 10 ^ Lib.nDigits n ≤ 10 ^ (9 * 14) := Nat.pow_le_pow_right (by omega) (by omega)
  rw [pw_ten]
  omega
theorem pw14_28 : pw 14 * pw 14 = pw 28 := (pw_add 14 14).symm
theorem Num.lt {s : Bool} {n : Nat} (h : Num s n) : n < pw 14 := short_lt h.short
theorem Num.lt29 {s : Bool} {n : Nat} (h : Num s n) : n < pw 29 := Nat.lt_of_lt_of_le h.lt (pw_mono (by omega))
theorem Num.lt30 {s : Bool} {n : Nat} (h : Num s n) : n < pw 30 := Nat.lt_of_lt_of_le h.lt (pw_mono (by omega))
theorem readNum {s : Bool} {n : Nat} (h : Num s n) (w : World) :
    Calls Tryz.prog 69 #[.string (bs (numeral s n))] w fun e w' => e = .returned (.agg (sig s n)) ∧ Below w.heap.size w w' := by
  have := readSigned_any s (Lib.decDigits n) (decDigits_dig n) (by have := h.short; rw [Lib.decDigits_length]; omega) w s (by
    rw [numOf_dec]
    cases s
    · rfl
    · simp [h.sign rfl])
  rwa [numOf_dec, ← numeral_signed] at this

/-- The sum of two signed numbers: its sign, its magnitude. -/
def sumS (s t : Bool) (a b : Nat) : Bool × Nat :=
  if s = t then (s && !decide (a + b = 0), a + b) else if a < b then (t && !decide (b - a = 0), b - a) else (s && !decide (a - b = 0), a - b)
theorem sum_any (s t : Bool) (a b : Nat) (ha : a < pw 29) (hb : b < pw 29) (w : World) (r : Bool) (n : Nat) (hr : sumS s t a b = (r, n)) :
    Calls Tryz.prog 80 #[.agg (sig s a), .agg (sig t b)] w fun e w' => e = .returned (.agg (sig r n)) ∧ Below w.heap.size w w' := by
  unfold sumS at hr
  by_cases h1 : s = t
  · rw [if_pos h1, Prod.mk.injEq] at hr
    obtain ⟨h2, rfl⟩ := hr
    subst h1
    exact plus_same s a b ha hb w r h2
  · have h3 : t = !s := by cases s <;> cases t <;> simp_all
    rw [if_neg h1] at hr
    subst h3
    by_cases h4 : a < b
    · rw [if_pos h4, Prod.mk.injEq] at hr
      obtain ⟨h2, rfl⟩ := hr
      exact plus_less s a b (pw_big hb) h4 w r h2
    · rw [if_neg h4, Prod.mk.injEq] at hr
      obtain ⟨h2, rfl⟩ := hr
      exact plus_more s a b (pw_big ha) (by omega) w r h2
theorem sumS_lt {s t : Bool} {a b : Nat} (ha : a < pw 14) (hb : b < pw 14) {r : Bool} {n : Nat} (hr : sumS s t a b = (r, n)) : n < pw 15 := by
  have h15 : pw 15 = pw 14 * 1000000000 := rfl
  unfold sumS at hr
  split at hr
  · rw [Prod.mk.injEq] at hr; omega
  · split at hr
    · rw [Prod.mk.injEq] at hr; omega
    · rw [Prod.mk.injEq] at hr; omega
theorem pw15_30 : pw 15 ≤ pw 30 := pw_mono (by omega)

/-- Two strings, laid for checkAll. -/
theorem pairBlock (w : World) (x y : ByteArray) {B : Nat} {W : World} (hB : w.heap.size = B) (hW : w.alloc (.cells #[.string x, .string y] 9) = W) : BlockIs W B 9 #[.string x, .string y] ∧ Below B w W := by
  rw [← hW, ← hB]
  exact ⟨BlockIs.new _ _ _, (Below.refl _ _).alloc (Nat.le_refl _) _⟩
theorem checkBoth {x y : ByteArray} {G : Nat} {w : World} (hG : BlockIs w G 9 #[.string x, .string y]) (hx : checkS x.data.toList = 0) (hy : checkS y.data.toList = 0) :
    Calls Tryz.prog 79 #[.func (.func 12) #[] #[], .slice (some ⟨G, 0, none⟩) 2 2] w fun e w' => e = .returned (.int .i64 0) ∧ Below w.heap.size w w' :=
  checkAll_Check x y G w hG 0 0 0 (fun W _ => Check_any x W 0 hx) (fun _ W _ => Check_any y W 0 hy) rfl

set_option maxHeartbeats 4000000 in
theorem Add_ok (s t : Bool) (a b : Nat) (ha : Num s a) (hb : Num t b) (w : World) (r : Bool) (n : Nat) (hr : sumS s t a b = (r, n)) (hd : Lib.nDigits n ≤ 120) :
    Calls Tryz.prog 21 #[.string (bs (numeral s a)), .string (bs (numeral t b))] w fun e w' => e = .returned (.tuple #[.string (bs (numeral r n)), .int .i64 0]) ∧ Below w.heap.size w w' := by
  obtain ⟨B, hB⟩ : ∃ B, w.heap.size = B := ⟨_, rfl⟩
  have hx := check_numeral ha
  have hy := check_numeral hb
  have HRX := Lib.hid (fun W => readNum ha W)
  have HRY := Lib.hid (fun W => readNum hb W)
  have HP := Lib.hid (fun W => sum_any s t a b ha.lt29 hb.lt29 W r n hr)
  have HF := Lib.hid (fun W => finish_ok r n (Nat.lt_of_lt_of_le (short_lt hd) (pw_mono (by omega))) hd W)
  obtain ⟨x, hx2⟩ : ∃ x, bs (numeral s a) = x := ⟨_, rfl⟩
  obtain ⟨y, hy2⟩ : ∃ y, bs (numeral t b) = y := ⟨_, rfl⟩
  rw [hx2] at HRX hx ⊢
  rw [hy2] at HRY hy ⊢
  clear hx2 hy2
  obtain ⟨W, hW⟩ : ∃ W, w.alloc (.cells #[.string x, .string y] 9) = W := ⟨_, rfl⟩
  have hP := pairBlock w x y hB hW
  have HCK := Lib.hid (checkBoth hP.1 hx hy)
  have HBL := Lib.hid (show Below B w W from hP.2)
  clear hx hy hP ha hb hr hd
  go_enter Tryz.func21, Tryz.ntmps21
  go_wp2_with (first | (go_at_call 79; refine HCK.out.mono ?_; rintro e w1 ⟨rfl, hb1⟩; have HB1 := Lib.hid (HBL.out.trans (hb1.mono (by have := HBL.out.size; omega)))) | (go_at_call 69; (with_reducible refine (HRX.out _).mono ?_); rintro e w2 ⟨rfl, hb2⟩; have HB2 := Lib.hid (HB1.out.trans (hb2.mono (by have := HB1.out.size; omega)))) | (go_at_call 69; (with_reducible refine (HRY.out _).mono ?_); rintro e w3 ⟨rfl, hb3⟩; have HB3 := Lib.hid (HB2.out.trans (hb3.mono (by have := HB2.out.size; omega)))) | (go_at_call 80; refine (HP.out _).mono ?_; rintro e w4 ⟨rfl, hb4⟩; have HB4 := Lib.hid (HB3.out.trans (hb4.mono (by have := HB3.out.size; omega)))) | (go_at_call 75; refine (HF.out _).mono ?_; rintro e w5 ⟨rfl, hb5⟩; have HB5 := Lib.hid (HB4.out.trans (hb5.mono (by have := HB4.out.size; omega)))))
  go_ret2
  exact ⟨rfl, hB ▸ HB5.out⟩

set_option maxHeartbeats 4000000 in
theorem Add_large (s t : Bool) (a b : Nat) (ha : Num s a) (hb : Num t b) (w : World) (r : Bool) (n : Nat) (hr : sumS s t a b = (r, n)) (hd : 120 < Lib.nDigits n) :
    Calls Tryz.prog 21 #[.string (bs (numeral s a)), .string (bs (numeral t b))] w fun e w' => e = .returned (.tuple #[.string ⟨#[]⟩, .int .i64 4]) ∧ Below w.heap.size w w' := by
  obtain ⟨B, hB⟩ : ∃ B, w.heap.size = B := ⟨_, rfl⟩
  have hx := check_numeral ha
  have hy := check_numeral hb
  have HRX := Lib.hid (fun W => readNum ha W)
  have HRY := Lib.hid (fun W => readNum hb W)
  have HP := Lib.hid (fun W => sum_any s t a b ha.lt29 hb.lt29 W r n hr)
  have HF := Lib.hid (fun W => finish_large r n (Nat.lt_of_lt_of_le (sumS_lt ha.lt hb.lt hr) pw15_30) hd W)
  obtain ⟨x, hx2⟩ : ∃ x, bs (numeral s a) = x := ⟨_, rfl⟩
  obtain ⟨y, hy2⟩ : ∃ y, bs (numeral t b) = y := ⟨_, rfl⟩
  rw [hx2] at HRX hx ⊢
  rw [hy2] at HRY hy ⊢
  clear hx2 hy2
  obtain ⟨W, hW⟩ : ∃ W, w.alloc (.cells #[.string x, .string y] 9) = W := ⟨_, rfl⟩
  have hP := pairBlock w x y hB hW
  have HCK := Lib.hid (checkBoth hP.1 hx hy)
  have HBL := Lib.hid (show Below B w W from hP.2)
  clear hx hy hP ha hb hr hd
  go_enter Tryz.func21, Tryz.ntmps21
  go_wp2_with (first | (go_at_call 79; refine HCK.out.mono ?_; rintro e w1 ⟨rfl, hb1⟩; have HB1 := Lib.hid (HBL.out.trans (hb1.mono (by have := HBL.out.size; omega)))) | (go_at_call 69; (with_reducible refine (HRX.out _).mono ?_); rintro e w2 ⟨rfl, hb2⟩; have HB2 := Lib.hid (HB1.out.trans (hb2.mono (by have := HB1.out.size; omega)))) | (go_at_call 69; (with_reducible refine (HRY.out _).mono ?_); rintro e w3 ⟨rfl, hb3⟩; have HB3 := Lib.hid (HB2.out.trans (hb3.mono (by have := HB2.out.size; omega)))) | (go_at_call 80; refine (HP.out _).mono ?_; rintro e w4 ⟨rfl, hb4⟩; have HB4 := Lib.hid (HB3.out.trans (hb4.mono (by have := HB3.out.size; omega)))) | (go_at_call 75; refine (HF.out _).mono ?_; rintro e w5 ⟨rfl, hb5⟩; have HB5 := Lib.hid (HB4.out.trans (hb5.mono (by have := HB4.out.size; omega)))))
  go_ret2
  exact ⟨rfl, hB ▸ HB5.out⟩

set_option maxHeartbeats 4000000 in
theorem Sub_ok (s t : Bool) (a b : Nat) (ha : Num s a) (hb : Num t b) (w : World) (t' : Bool) (ht : ((!t) && !decide (b = 0)) = t') (r : Bool) (n : Nat) (hr : sumS s t' a b = (r, n)) (hd : Lib.nDigits n ≤ 120) :
    Calls Tryz.prog 23 #[.string (bs (numeral s a)), .string (bs (numeral t b))] w fun e w' => e = .returned (.tuple #[.string (bs (numeral r n)), .int .i64 0]) ∧ Below w.heap.size w w' := by
  obtain ⟨B, hB⟩ : ∃ B, w.heap.size = B := ⟨_, rfl⟩
  have hx := check_numeral ha
  have hy := check_numeral hb
  have HRX := Lib.hid (fun W => readNum ha W)
  have HRY := Lib.hid (fun W => readNum hb W)
  have HN := Lib.hid (fun W => negated_any t b hb.lt30 W t' ht)
  have HP := Lib.hid (fun W => sum_any s t' a b ha.lt29 hb.lt29 W r n hr)
  have HF := Lib.hid (fun W => finish_ok r n (Nat.lt_of_lt_of_le (short_lt hd) (pw_mono (by omega))) hd W)
  obtain ⟨x, hx2⟩ : ∃ x, bs (numeral s a) = x := ⟨_, rfl⟩
  obtain ⟨y, hy2⟩ : ∃ y, bs (numeral t b) = y := ⟨_, rfl⟩
  rw [hx2] at HRX hx ⊢
  rw [hy2] at HRY hy ⊢
  clear hx2 hy2
  obtain ⟨W, hW⟩ : ∃ W, w.alloc (.cells #[.string x, .string y] 9) = W := ⟨_, rfl⟩
  have hP := pairBlock w x y hB hW
  have HCK := Lib.hid (checkBoth hP.1 hx hy)
  have HBL := Lib.hid (show Below B w W from hP.2)
  clear hx hy hP ha hb hr hd ht
  go_enter Tryz.func23, Tryz.ntmps23
  go_wp2_with (first | (go_at_call 79; refine HCK.out.mono ?_; rintro e w1 ⟨rfl, hb1⟩; have HB1 := Lib.hid (HBL.out.trans (hb1.mono (by have := HBL.out.size; omega)))) | (go_at_call 69; (with_reducible refine (HRX.out _).mono ?_); rintro e w2 ⟨rfl, hb2⟩; have HB2 := Lib.hid (HB1.out.trans (hb2.mono (by have := HB1.out.size; omega)))) | (go_at_call 69; (with_reducible refine (HRY.out _).mono ?_); rintro e w3 ⟨rfl, hb3⟩; have HB3 := Lib.hid (HB2.out.trans (hb3.mono (by have := HB2.out.size; omega)))) | (go_at_call 76; refine (HN.out _).mono ?_; rintro e w4 ⟨rfl, hb4⟩; have HB4 := Lib.hid (HB3.out.trans (hb4.mono (by have := HB3.out.size; omega)))) | (go_at_call 80; refine (HP.out _).mono ?_; rintro e w5 ⟨rfl, hb5⟩; have HB5 := Lib.hid (HB4.out.trans (hb5.mono (by have := HB4.out.size; omega)))) | (go_at_call 75; refine (HF.out _).mono ?_; rintro e w6 ⟨rfl, hb6⟩; have HB6 := Lib.hid (HB5.out.trans (hb6.mono (by have := HB5.out.size; omega)))))
  go_ret2
  exact ⟨rfl, hB ▸ HB6.out⟩

set_option maxHeartbeats 4000000 in
theorem Sub_large (s t : Bool) (a b : Nat) (ha : Num s a) (hb : Num t b) (w : World) (t' : Bool) (ht : ((!t) && !decide (b = 0)) = t') (r : Bool) (n : Nat) (hr : sumS s t' a b = (r, n)) (hd : 120 < Lib.nDigits n) :
    Calls Tryz.prog 23 #[.string (bs (numeral s a)), .string (bs (numeral t b))] w fun e w' => e = .returned (.tuple #[.string ⟨#[]⟩, .int .i64 4]) ∧ Below w.heap.size w w' := by
  obtain ⟨B, hB⟩ : ∃ B, w.heap.size = B := ⟨_, rfl⟩
  have hx := check_numeral ha
  have hy := check_numeral hb
  have HRX := Lib.hid (fun W => readNum ha W)
  have HRY := Lib.hid (fun W => readNum hb W)
  have HN := Lib.hid (fun W => negated_any t b hb.lt30 W t' ht)
  have HP := Lib.hid (fun W => sum_any s t' a b ha.lt29 hb.lt29 W r n hr)
  have HF := Lib.hid (fun W => finish_large r n (Nat.lt_of_lt_of_le (sumS_lt ha.lt hb.lt hr) pw15_30) hd W)
  obtain ⟨x, hx2⟩ : ∃ x, bs (numeral s a) = x := ⟨_, rfl⟩
  obtain ⟨y, hy2⟩ : ∃ y, bs (numeral t b) = y := ⟨_, rfl⟩
  rw [hx2] at HRX hx ⊢
  rw [hy2] at HRY hy ⊢
  clear hx2 hy2
  obtain ⟨W, hW⟩ : ∃ W, w.alloc (.cells #[.string x, .string y] 9) = W := ⟨_, rfl⟩
  have hP := pairBlock w x y hB hW
  have HCK := Lib.hid (checkBoth hP.1 hx hy)
  have HBL := Lib.hid (show Below B w W from hP.2)
  clear hx hy hP ha hb hr hd ht
  go_enter Tryz.func23, Tryz.ntmps23
  go_wp2_with (first | (go_at_call 79; refine HCK.out.mono ?_; rintro e w1 ⟨rfl, hb1⟩; have HB1 := Lib.hid (HBL.out.trans (hb1.mono (by have := HBL.out.size; omega)))) | (go_at_call 69; (with_reducible refine (HRX.out _).mono ?_); rintro e w2 ⟨rfl, hb2⟩; have HB2 := Lib.hid (HB1.out.trans (hb2.mono (by have := HB1.out.size; omega)))) | (go_at_call 69; (with_reducible refine (HRY.out _).mono ?_); rintro e w3 ⟨rfl, hb3⟩; have HB3 := Lib.hid (HB2.out.trans (hb3.mono (by have := HB2.out.size; omega)))) | (go_at_call 76; refine (HN.out _).mono ?_; rintro e w4 ⟨rfl, hb4⟩; have HB4 := Lib.hid (HB3.out.trans (hb4.mono (by have := HB3.out.size; omega)))) | (go_at_call 80; refine (HP.out _).mono ?_; rintro e w5 ⟨rfl, hb5⟩; have HB5 := Lib.hid (HB4.out.trans (hb5.mono (by have := HB4.out.size; omega)))) | (go_at_call 75; refine (HF.out _).mono ?_; rintro e w6 ⟨rfl, hb6⟩; have HB6 := Lib.hid (HB5.out.trans (hb6.mono (by have := HB5.out.size; omega)))))
  go_ret2
  exact ⟨rfl, hB ▸ HB6.out⟩

theorem mul_lt {a b : Nat} (ha : a < pw 14) (hb : b < pw 14) : a * b < pw 28 := by
  rw [← pw14_28]
  exact Nat.mul_lt_mul'' ha hb
theorem len_14 {a : Nat} (h : a < pw 14) : len a ≤ 14 := len_le (Nat.lt_of_lt_of_le h (pw_mono (by omega))) h
theorem pw28_30 : pw 28 ≤ pw 30 := pw_mono (by omega)

set_option maxHeartbeats 4000000 in
theorem Mul_ok (s t : Bool) (a b : Nat) (ha : Num s a) (hb : Num t b) (w : World) (r : Bool) (hr : ((s != t) && !decide (a * b = 0)) = r) (hd : Lib.nDigits (a * b) ≤ 120) :
    Calls Tryz.prog 25 #[.string (bs (numeral s a)), .string (bs (numeral t b))] w fun e w' => e = .returned (.tuple #[.string (bs (numeral r (a * b))), .int .i64 0]) ∧ Below w.heap.size w w' := by
  obtain ⟨B, hB⟩ : ∃ B, w.heap.size = B := ⟨_, rfl⟩
  have hx := check_numeral ha
  have hy := check_numeral hb
  have HRX := Lib.hid (fun W => readNum ha W)
  have HRY := Lib.hid (fun W => readNum hb W)
  have HP := Lib.hid (fun W => by_any s t a b ha.lt30 hb.lt30 (by have := len_14 ha.lt; have := len_14 hb.lt; omega) (Nat.lt_of_lt_of_le (mul_lt ha.lt hb.lt) pw28_30) W r hr)
  have HF := Lib.hid (fun W => finish_ok r (a * b) (Nat.lt_of_lt_of_le (mul_lt ha.lt hb.lt) pw28_30) hd W)
  obtain ⟨x, hx2⟩ : ∃ x, bs (numeral s a) = x := ⟨_, rfl⟩
  obtain ⟨y, hy2⟩ : ∃ y, bs (numeral t b) = y := ⟨_, rfl⟩
  rw [hx2] at HRX hx ⊢
  rw [hy2] at HRY hy ⊢
  clear hx2 hy2
  obtain ⟨W, hW⟩ : ∃ W, w.alloc (.cells #[.string x, .string y] 9) = W := ⟨_, rfl⟩
  have hP := pairBlock w x y hB hW
  have HCK := Lib.hid (checkBoth hP.1 hx hy)
  have HBL := Lib.hid (show Below B w W from hP.2)
  clear hx hy hP ha hb hr hd
  go_enter Tryz.func25, Tryz.ntmps25
  go_wp2_with (first | (go_at_call 79; refine HCK.out.mono ?_; rintro e w1 ⟨rfl, hb1⟩; have HB1 := Lib.hid (HBL.out.trans (hb1.mono (by have := HBL.out.size; omega)))) | (go_at_call 69; (with_reducible refine (HRX.out _).mono ?_); rintro e w2 ⟨rfl, hb2⟩; have HB2 := Lib.hid (HB1.out.trans (hb2.mono (by have := HB1.out.size; omega)))) | (go_at_call 69; (with_reducible refine (HRY.out _).mono ?_); rintro e w3 ⟨rfl, hb3⟩; have HB3 := Lib.hid (HB2.out.trans (hb3.mono (by have := HB2.out.size; omega)))) | (go_at_call 84; refine (HP.out _).mono ?_; rintro e w4 ⟨rfl, hb4⟩; have HB4 := Lib.hid (HB3.out.trans (hb4.mono (by have := HB3.out.size; omega)))) | (go_at_call 75; refine (HF.out _).mono ?_; rintro e w5 ⟨rfl, hb5⟩; have HB5 := Lib.hid (HB4.out.trans (hb5.mono (by have := HB4.out.size; omega)))))
  go_ret2
  exact ⟨rfl, hB ▸ HB5.out⟩

set_option maxHeartbeats 4000000 in
theorem Mul_large (s t : Bool) (a b : Nat) (ha : Num s a) (hb : Num t b) (w : World) (r : Bool) (hr : ((s != t) && !decide (a * b = 0)) = r) (hd : 120 < Lib.nDigits (a * b)) :
    Calls Tryz.prog 25 #[.string (bs (numeral s a)), .string (bs (numeral t b))] w fun e w' => e = .returned (.tuple #[.string ⟨#[]⟩, .int .i64 4]) ∧ Below w.heap.size w w' := by
  obtain ⟨B, hB⟩ : ∃ B, w.heap.size = B := ⟨_, rfl⟩
  have hx := check_numeral ha
  have hy := check_numeral hb
  have HRX := Lib.hid (fun W => readNum ha W)
  have HRY := Lib.hid (fun W => readNum hb W)
  have HP := Lib.hid (fun W => by_any s t a b ha.lt30 hb.lt30 (by have := len_14 ha.lt; have := len_14 hb.lt; omega) (Nat.lt_of_lt_of_le (mul_lt ha.lt hb.lt) pw28_30) W r hr)
  have HF := Lib.hid (fun W => finish_large r (a * b) (Nat.lt_of_lt_of_le (mul_lt ha.lt hb.lt) pw28_30) hd W)
  obtain ⟨x, hx2⟩ : ∃ x, bs (numeral s a) = x := ⟨_, rfl⟩
  obtain ⟨y, hy2⟩ : ∃ y, bs (numeral t b) = y := ⟨_, rfl⟩
  rw [hx2] at HRX hx ⊢
  rw [hy2] at HRY hy ⊢
  clear hx2 hy2
  obtain ⟨W, hW⟩ : ∃ W, w.alloc (.cells #[.string x, .string y] 9) = W := ⟨_, rfl⟩
  have hP := pairBlock w x y hB hW
  have HCK := Lib.hid (checkBoth hP.1 hx hy)
  have HBL := Lib.hid (show Below B w W from hP.2)
  clear hx hy hP ha hb hr hd
  go_enter Tryz.func25, Tryz.ntmps25
  go_wp2_with (first | (go_at_call 79; refine HCK.out.mono ?_; rintro e w1 ⟨rfl, hb1⟩; have HB1 := Lib.hid (HBL.out.trans (hb1.mono (by have := HBL.out.size; omega)))) | (go_at_call 69; (with_reducible refine (HRX.out _).mono ?_); rintro e w2 ⟨rfl, hb2⟩; have HB2 := Lib.hid (HB1.out.trans (hb2.mono (by have := HB1.out.size; omega)))) | (go_at_call 69; (with_reducible refine (HRY.out _).mono ?_); rintro e w3 ⟨rfl, hb3⟩; have HB3 := Lib.hid (HB2.out.trans (hb3.mono (by have := HB2.out.size; omega)))) | (go_at_call 84; refine (HP.out _).mono ?_; rintro e w4 ⟨rfl, hb4⟩; have HB4 := Lib.hid (HB3.out.trans (hb4.mono (by have := HB3.out.size; omega)))) | (go_at_call 75; refine (HF.out _).mono ?_; rintro e w5 ⟨rfl, hb5⟩; have HB5 := Lib.hid (HB4.out.trans (hb5.mono (by have := HB4.out.size; omega)))))
  go_ret2
  exact ⟨rfl, hB ▸ HB5.out⟩
end Go.Proofs.YtjemolaobhlapaaGreatDoor

namespace Go.Proofs.YtjemolaobhlapaaGreatDoor
open Go.RowKit
set_option maxRecDepth 100000
theorem run_fieldS (f : Nat → Nat) (u : Nat) (s : Bool) (w : World) : (Instr.field 82 (.agg (sigF f u s)) 0).run Tryz.prog w = .ok (.agg (magF f u)) w := by
  kernel_rfl
theorem run_fieldN (f : Nat → Nat) (u : Nat) (s : Bool) (w : World) : (Instr.field 82 (.agg (sigF f u s)) 1).run Tryz.prog w = .ok (.bool s) w := by
  kernel_rfl
theorem builtS0 (f : Nat → Nat) (u : Nat) : Tryz.prog.built 82 [(0, .agg (magF f u))] = some (sigF f u false) := by
  kernel_rfl
theorem wp_value {o : Oper} {a : Act} {w : World} {K : Act → World → Prop} {Q : Exit → Act → World → Prop} {v : Value} (h : (execOp a.eval o).run Tryz.prog w = .ok (.value v) w) (hk : K (a.put o.dst v) w) : o.wp Tryz.prog a w K Q := by
  unfold Oper.wp
  rw [h]
  exact hk
theorem wpS_field {ops : Array Oper} {rest : List Oper} {a : Act} {w : World} {Q : Exit → Act → World → Prop} {d : Option Tmp} {ty : TypeId} {pos : String} {after : Array _} (x : Operand) {f : Nat → Nat} {u : Nat} {s : Bool}
    (hx : a.eval x = .agg (sigF f u s)) (h : wpList Tryz.prog ops Q rest (a.put d (.agg (magF f u))) w) :
    wpList Tryz.prog ops Q ({ dst := d, op := .field 82 x 0, type := ty, pos := pos, after := after, guard := none } :: rest) a w :=
  BigFrame.wpList_want rfl fun _ hK => wp_value (by unfold execOp; simp only [hx, Sem.run_bind, run_fieldS, Result.andThen_ok]; rfl) (hK _ _ h)
theorem wpS_build0 {ops : Array Oper} {rest : List Oper} {a : Act} {w : World} {Q : Exit → Act → World → Prop} {d : Option Tmp} {ty : TypeId} {pos : String} {after : Array _} (x : Operand) {f : Nat → Nat} {u : Nat}
    (hx : a.eval x = .agg (magF f u)) (h : wpList Tryz.prog ops Q rest (a.put d (.agg (sigF f u false))) w) :
    wpList Tryz.prog ops Q ({ dst := d, op := .build 82 #[(0, x)], type := ty, pos := pos, after := after, guard := none } :: rest) a w :=
  BigFrame.wpList_want rfl fun _ hK => wp_value (by
    unfold execOp
    simp only [Sem.run_bind, List.map_toArray, List.map_cons, List.map_nil, hx, run_build w 82 #[(0, .agg (magF f u))] _ (builtS0 f u), Result.andThen_ok]
    rfl) (hK _ _ h)

set_option maxHeartbeats 4000000 in
theorem Neg_ok (s : Bool) (n : Nat) (ha : Num s n) (w : World) (r : Bool) (hr : ((!s) && !decide (n = 0)) = r) :
    Calls Tryz.prog 18 #[.string (bs (numeral s n))] w fun e w' => e = .returned (.tuple #[.string (bs (numeral r n)), .int .i64 0]) ∧ Below w.heap.size w w' := by
  have hx := check_numeral ha
  have HRX := Lib.hid (fun W => readNum ha W)
  have HN := Lib.hid (fun W => negated_any s n ha.lt30 W r hr)
  have HF := Lib.hid (fun W => finish_ok r n ha.lt30 ha.short W)
  obtain ⟨x, hx2⟩ : ∃ x, bs (numeral s n) = x := ⟨_, rfl⟩
  rw [hx2] at HRX hx ⊢
  have HC := Lib.hid (fun W => Check_any x W 0 hx)
  clear hx2 hx ha hr
  go_enter Tryz.func18, Tryz.ntmps18
  go_wp2_with (first | (go_at_call 12; refine (HC.out _).mono ?_; rintro e w1 ⟨rfl, hb1⟩; have HB1 := Lib.hid hb1) | (go_at_call 69; refine (HRX.out _).mono ?_; rintro e w2 ⟨rfl, hb2⟩; have HB2 := Lib.hid (HB1.out.trans (hb2.mono HB1.out.size))) | (go_at_call 76; refine (HN.out _).mono ?_; rintro e w3 ⟨rfl, hb3⟩; have HB3 := Lib.hid (HB2.out.trans (hb3.mono HB2.out.size))) | (go_at_call 75; refine (HF.out _).mono ?_; rintro e w4 ⟨rfl, hb4⟩; have HB4 := Lib.hid (HB3.out.trans (hb4.mono HB3.out.size))))
  go_ret2
  exact ⟨rfl, HB4.out⟩

set_option maxHeartbeats 4000000 in
theorem Compare_ok (s t : Bool) (a b : Nat) (ha : Num s a) (hb : Num t b) (w : World) (r : Int) (hr : orderS s t a b = r) :
    Calls Tryz.prog 29 #[.string (bs (numeral s a)), .string (bs (numeral t b))] w fun e w' => e = .returned (.tuple #[.int .i64 r, .int .i64 0]) ∧ Below w.heap.size w w' := by
  obtain ⟨B, hB⟩ : ∃ B, w.heap.size = B := ⟨_, rfl⟩
  have hx := check_numeral ha
  have hy := check_numeral hb
  have HRX := Lib.hid (fun W => readNum ha W)
  have HRY := Lib.hid (fun W => readNum hb W)
  have HO := Lib.hid (fun W => order_any s t a b ha.lt30 hb.lt30 W r hr)
  obtain ⟨x, hx2⟩ : ∃ x, bs (numeral s a) = x := ⟨_, rfl⟩
  obtain ⟨y, hy2⟩ : ∃ y, bs (numeral t b) = y := ⟨_, rfl⟩
  rw [hx2] at HRX hx ⊢
  rw [hy2] at HRY hy ⊢
  clear hx2 hy2
  obtain ⟨W, hW⟩ : ∃ W, w.alloc (.cells #[.string x, .string y] 9) = W := ⟨_, rfl⟩
  have hP := pairBlock w x y hB hW
  have HCK := Lib.hid (checkBoth hP.1 hx hy)
  have HBL := Lib.hid (show Below B w W from hP.2)
  clear hx hy hP ha hb hr
  go_enter Tryz.func29, Tryz.ntmps29
  go_wp2_with (first | (go_at_call 79; refine HCK.out.mono ?_; rintro e w1 ⟨rfl, hb1⟩; have HB1 := Lib.hid (HBL.out.trans (hb1.mono (by have := HBL.out.size; omega)))) | (go_at_call 69; (with_reducible refine (HRX.out _).mono ?_); rintro e w2 ⟨rfl, hb2⟩; have HB2 := Lib.hid (HB1.out.trans (hb2.mono (by have := HB1.out.size; omega)))) | (go_at_call 69; (with_reducible refine (HRY.out _).mono ?_); rintro e w3 ⟨rfl, hb3⟩; have HB3 := Lib.hid (HB2.out.trans (hb3.mono (by have := HB2.out.size; omega)))) | (go_at_call 90; refine (HO.out _).mono ?_; rintro e w4 ⟨rfl, hb4⟩; have HB4 := Lib.hid (HB3.out.trans (hb4.mono (by have := HB3.out.size; omega)))))
  go_ret2
  exact ⟨rfl, hB ▸ HB4.out⟩

set_option maxHeartbeats 4000000 in
theorem Gcd_ok (s t : Bool) (a b : Nat) (ha : Num s a) (hb : Num t b) (w : World) (g : Nat) (HG : ∀ W, Calls Tryz.prog 92 #[.agg (mag a), .agg (mag b)] W fun e w' => e = .returned (.agg (mag g)) ∧ Below W.heap.size W w') (hd : Lib.nDigits g ≤ 120) :
    Calls Tryz.prog 33 #[.string (bs (numeral s a)), .string (bs (numeral t b))] w fun e w' => e = .returned (.tuple #[.string (bs (numeral false g)), .int .i64 0]) ∧ Below w.heap.size w w' := by
  obtain ⟨B, hB⟩ : ∃ B, w.heap.size = B := ⟨_, rfl⟩
  have hx := check_numeral ha
  have hy := check_numeral hb
  have HRX := Lib.hid (fun W => readNum ha W)
  have HRY := Lib.hid (fun W => readNum hb W)
  have HO := Lib.hid HG
  have HF := Lib.hid (fun W => finish_ok false g (Nat.lt_of_lt_of_le (short_lt hd) (pw_mono (by omega))) hd W)
  obtain ⟨x, hx2⟩ : ∃ x, bs (numeral s a) = x := ⟨_, rfl⟩
  obtain ⟨y, hy2⟩ : ∃ y, bs (numeral t b) = y := ⟨_, rfl⟩
  rw [hx2] at HRX hx ⊢
  rw [hy2] at HRY hy ⊢
  clear hx2 hy2
  obtain ⟨W, hW⟩ : ∃ W, w.alloc (.cells #[.string x, .string y] 9) = W := ⟨_, rfl⟩
  have hP := pairBlock w x y hB hW
  have HCK := Lib.hid (checkBoth hP.1 hx hy)
  have HBL := Lib.hid (show Below B w W from hP.2)
  clear hx hy hP ha hb HG hd
  go_enter Tryz.func33, Tryz.ntmps33
  go_wp2_with (first | (go_at_call 79; refine HCK.out.mono ?_; rintro e w1 ⟨rfl, hb1⟩; have HB1 := Lib.hid (HBL.out.trans (hb1.mono (by have := HBL.out.size; omega)))) | (go_at_call 69; (with_reducible refine (HRX.out _).mono ?_); rintro e w2 ⟨rfl, hb2⟩; have HB2 := Lib.hid (HB1.out.trans (hb2.mono (by have := HB1.out.size; omega)))) | (go_at_call 69; (with_reducible refine (HRY.out _).mono ?_); rintro e w3 ⟨rfl, hb3⟩; have HB3 := Lib.hid (HB2.out.trans (hb3.mono (by have := HB2.out.size; omega)))) | (((with_reducible refine wpS_field (.tmp 15) (f := limb a) (u := len a) (s := s) ?_ ?_); rfl)) | (((with_reducible refine wpS_field (.tmp 18) (f := limb b) (u := len b) (s := t) ?_ ?_); rfl)) | (go_at_call 92; refine (HO.out _).mono ?_; rintro e w4 ⟨rfl, hb4⟩; have HB4 := Lib.hid (HB3.out.trans (hb4.mono (by have := HB3.out.size; omega)))) | (((with_reducible refine wpS_build0 (.tmp 20) (f := limb g) (u := len g) ?_ ?_); rfl)) | (go_at_call 75; refine (HF.out _).mono ?_; rintro e w5 ⟨rfl, hb5⟩; have HB5 := Lib.hid (HB4.out.trans (hb5.mono (by have := HB4.out.size; omega)))))
  go_ret2
  exact ⟨rfl, hB ▸ HB5.out⟩

theorem signedBox {w0 w W : World} {B D : Nat} {f : Nat → Nat} {u : Nat} {s : Bool} (hb : Below B w0 w) (hB : w0.heap.size = B) (hD : w.heap.size = D) (hW : w.alloc (.cells (sigF (fun _ => 0) 0 false) 82) = W) :
    BlockIs W D 82 (sigF (fun _ => 0) 0 false) ∧ BlockIs (W.setRow D (sigF f u s)) D 82 (sigF f u s) ∧ Below B w0 (W.setRow D (sigF f u s)) := by
  have h := hb.size
  have h1 : BlockIs W D 82 (sigF (fun _ => 0) 0 false) := by rw [← hW, ← hD]; exact BlockIs.new _ _ _
  refine ⟨h1, h1.row _, below_row ?_ _ _ (by omega)⟩
  rw [← hW]
  exact hb.alloc (by omega) _

set_option maxHeartbeats 4000000 in
theorem DivMod_zero (s t : Bool) (a b : Nat) (ha : Num s a) (hb : Num t b) (w : World) (h0 : b = 0) :
    Calls Tryz.prog 27 #[.string (bs (numeral s a)), .string (bs (numeral t b))] w fun e w' => e = .returned (.tuple #[.string ⟨#[]⟩, .string ⟨#[]⟩, .int .i64 30]) ∧ Below w.heap.size w w' := by
  obtain ⟨B, hB⟩ : ∃ B, w.heap.size = B := ⟨_, rfl⟩
  have hx := check_numeral ha
  have hy := check_numeral hb
  have HRX := Lib.hid (fun W => readNum ha W)
  have HRY := Lib.hid (fun W => readNum hb W)
  have HZ := Lib.hid (fun W => isZero_any b hb.lt30 W true (by simp [h0]))
  have hzS := zeroS
  obtain ⟨x, hx2⟩ : ∃ x, bs (numeral s a) = x := ⟨_, rfl⟩
  obtain ⟨y, hy2⟩ : ∃ y, bs (numeral t b) = y := ⟨_, rfl⟩
  rw [hx2] at HRX hx ⊢
  rw [hy2] at HRY hy ⊢
  clear hx2 hy2
  obtain ⟨W, hW⟩ : ∃ W, w.alloc (.cells #[.string x, .string y] 9) = W := ⟨_, rfl⟩
  have hP := pairBlock w x y hB hW
  have HCK := Lib.hid (checkBoth hP.1 hx hy)
  have HBL := Lib.hid (show Below B w W from hP.2)
  clear hx hy hP ha hb h0
  go_enter Tryz.func27, Tryz.ntmps27
  go_wp2_with (first | (go_at_call 79; refine HCK.out.mono ?_; rintro e w1 ⟨rfl, hb1⟩; have HB1 := Lib.hid (HBL.out.trans (hb1.mono (by have := HBL.out.size; omega)))) | (go_at_call 69; (with_reducible refine (HRY.out _).mono ?_); rintro e w2 ⟨rfl, hb2⟩; have HB2 := Lib.hid (HB1.out.trans (hb2.mono (by have := HB1.out.size; omega))); obtain ⟨D, hD⟩ : ∃ D, w2.heap.size = D := ⟨_, rfl⟩; obtain ⟨V, hV⟩ : ∃ V, w2.alloc (.cells (sigF (fun _ => 0) 0 false) 82) = V := ⟨_, rfl⟩; have HX := Lib.hid (signedBox (f := limb b) (u := len b) (s := t) HB2.out hB hD hV)) | (((with_reducible refine wpS_store (.tmp 8) (.tmp 17) D (f := limb b) (u := len b) (s := t) ?_ ?_ HX.out.1 ?_); rfl; rfl; have HY := Lib.hid HX.out.2; obtain ⟨U, hU⟩ : ∃ U, V.setRow D (sigF (limb b) (len b) t) = U := ⟨_, rfl⟩; rw [hU] at HY ⊢; clear hU)) | (((with_reducible refine wpSM_load (.tmp 18) D ?_ HY.out.1 ?_); rfl)) | (go_at_call 86; refine (HZ.out _).mono ?_; rintro e w4 ⟨rfl, hb4⟩; have HY2 := Lib.hid (And.intro (HY.out.1.below hb4 HY.out.1.lt) (HY.out.2.trans (hb4.mono (by have := HY.out.2.size; omega))))))
  go_ret3
  exact ⟨rfl, hB ▸ HY2.out.2⟩

set_option maxHeartbeats 4000000 in
theorem DivMod_ok (s t : Bool) (a b : Nat) (ha : Num s a) (hb : Num t b) (w : World) (h0 : 0 < b) (HDV : ∀ W, Calls Tryz.prog 142 #[.agg (mag a), .agg (mag b)] W fun e w' => e = .returned (.tuple #[.agg (mag (a / b)), .agg (mag (a % b))]) ∧ Below W.heap.size W w') (q r : Nat) (z : Bool) (hq : (if (s && !decide (a % b = 0)) = true then (a / b + 1, b - a % b) else (a / b, a % b)) = (q, r)) (hz : ((s != t) && !decide (q = 0)) = z) (hdq : Lib.nDigits q ≤ 120) (hdr : Lib.nDigits r ≤ 120) :
    Calls Tryz.prog 27 #[.string (bs (numeral s a)), .string (bs (numeral t b))] w fun e w' => e = .returned (.tuple #[.string (bs (numeral z q)), .string (bs (numeral false r)), .int .i64 0]) ∧ Below w.heap.size w w' := by
  obtain ⟨B, hB⟩ : ∃ B, w.heap.size = B := ⟨_, rfl⟩
  have hx := check_numeral ha
  have hy := check_numeral hb
  have HRX := Lib.hid (fun W => readNum ha W)
  have HRY := Lib.hid (fun W => readNum hb W)
  have HZ := Lib.hid (fun W => isZero_any b hb.lt30 W false (by simp; omega))
  have HD := Lib.hid (fun W => divMod_any s t a b ha.lt29 h0 hb.lt29 HDV W q r z hq hz)
  have HF := Lib.hid (fun W => finishPair_ok z false q r (Nat.lt_of_lt_of_le (short_lt hdq) (pw_mono (by omega))) (Nat.lt_of_lt_of_le (short_lt hdr) (pw_mono (by omega))) hdq hdr W)
  obtain ⟨xq, hxq⟩ : ∃ xq, bs (numeral z q) = xq := ⟨_, rfl⟩
  obtain ⟨xr, hxr⟩ : ∃ xr, bs (numeral false r) = xr := ⟨_, rfl⟩
  rw [hxq, hxr] at HF ⊢
  have hzS := zeroS
  obtain ⟨x, hx2⟩ : ∃ x, bs (numeral s a) = x := ⟨_, rfl⟩
  obtain ⟨y, hy2⟩ : ∃ y, bs (numeral t b) = y := ⟨_, rfl⟩
  rw [hx2] at HRX hx ⊢
  rw [hy2] at HRY hy ⊢
  clear hx2 hy2
  obtain ⟨W, hW⟩ : ∃ W, w.alloc (.cells #[.string x, .string y] 9) = W := ⟨_, rfl⟩
  have hP := pairBlock w x y hB hW
  have HCK := Lib.hid (checkBoth hP.1 hx hy)
  have HBL := Lib.hid (show Below B w W from hP.2)
  clear hx hy hP ha hb h0 HDV hq hz hdq hdr hxq hxr
  go_enter Tryz.func27, Tryz.ntmps27
  go_wp2_with (first | (go_at_call 79; refine HCK.out.mono ?_; rintro e w1 ⟨rfl, hb1⟩; have HB1 := Lib.hid (HBL.out.trans (hb1.mono (by have := HBL.out.size; omega)))) | (go_at_call 69; (with_reducible refine (HRY.out _).mono ?_); rintro e w2 ⟨rfl, hb2⟩; have HB2 := Lib.hid (HB1.out.trans (hb2.mono (by have := HB1.out.size; omega))); obtain ⟨D, hD⟩ : ∃ D, w2.heap.size = D := ⟨_, rfl⟩; obtain ⟨V, hV⟩ : ∃ V, w2.alloc (.cells (sigF (fun _ => 0) 0 false) 82) = V := ⟨_, rfl⟩; have HX := Lib.hid (signedBox (f := limb b) (u := len b) (s := t) HB2.out hB hD hV)) | (((with_reducible refine wpS_store (.tmp 8) (.tmp 17) D (f := limb b) (u := len b) (s := t) ?_ ?_ HX.out.1 ?_); rfl; rfl; have HY := Lib.hid HX.out.2; obtain ⟨U, hU⟩ : ∃ U, V.setRow D (sigF (limb b) (len b) t) = U := ⟨_, rfl⟩; rw [hU] at HY ⊢; clear hU)) | (((with_reducible refine wpSM_load (.tmp 18) D ?_ HY.out.1 ?_); rfl)) | (go_at_call 86; refine (HZ.out _).mono ?_; rintro e w4 ⟨rfl, hb4⟩; have HY2 := Lib.hid (And.intro (HY.out.1.below hb4 HY.out.1.lt) (HY.out.2.trans (hb4.mono (by have := HY.out.2.size; omega))))))
  clear hzS hW hV
  have hS0 : BlockIs w4.drew D 82 (sigF (limb b) (len b) t) ∧ Below B w w4.drew := ⟨HY2.out.1.drew, HY2.out.2.drew⟩
  refine wp_region_held_drew (S := fun w' => BlockIs w' D 82 (sigF (limb b) (len b) t) ∧ Below B w w') (by kernel_rfl) hS0 (fun hS => ?_)
  refine wpAnyH_take (i := 0) (v := .string x) rfl (by kernel_rfl) (by kernel_rfl) (by kernel_rfl) (fun _ _ _ h => h) (Or.inl ⟨by rfl, fun w' _ => by rfl⟩) hS ?_
  try simp only [A1, A2, A3, Act.put, A4, A5, A6]
  refine wpAnyH_take (i := 2) rfl (by kernel_rfl) (by kernel_rfl) (by kernel_rfl) (fun _ _ _ h => h) (yS_load rfl (.tmp 8) rfl D rfl (fun w' h => h.1)) hS ?_
  try simp only [A1, A2, A3, Act.put, A4, A5, A6]
  refine wpAnyH_ready (rs := [1]) (by kernel_rfl) (by simp) (AllReadyH.cons rfl (fun K hK => ?_) AllReadyH.nil)
  go_simp
  go_at_call 69
  refine (HRX.out _).mono ?_
  rintro e w5 ⟨rfl, hb5⟩
  have hS5 : BlockIs w5 D 82 (sigF (limb b) (len b) t) ∧ Below B w w5 := ⟨hS.1.below hb5 hS.1.lt, hS.2.trans (hb5.mono (by have := hS.2.size; omega))⟩
  clear hS
  refine hK.out _ _ hS5 (fun hS => ?_)
  clear hK K
  try simp only [A1, A2, A3, Act.put, A4, A5, A6]
  refine wpAnyH_ready (rs := [3]) (by kernel_rfl) (by simp) (AllReadyH.cons rfl (fun K hK => ?_) AllReadyH.nil)
  go_simp
  go_at_call 88
  refine (HD.out _).mono ?_
  rintro e w6 ⟨rfl, hb6⟩
  have hS6 : BlockIs w6 D 82 (sigF (limb b) (len b) t) ∧ Below B w w6 := ⟨hS5.1.below hb6 hS5.1.lt, hS5.2.trans (hb6.mono (by have := hS5.2.size; omega))⟩
  clear hS
  refine hK.out _ _ hS6 (fun hS => ?_)
  clear hK K
  try simp only [A1, A2, A3, Act.put, A4, A5, A6]
  refine wpAnyH_take (i := 4) (v := .agg (sig z q)) rfl (by kernel_rfl) (by kernel_rfl) (by kernel_rfl) (fun _ _ _ h => h) (Or.inl ⟨by rfl, fun w' h => by go_simp⟩) hS ?_
  try simp only [A1, A2, A3, Act.put, A4, A5, A6]
  refine wpAnyH_take (i := 5) (v := .agg (sig false r)) rfl (by kernel_rfl) (by kernel_rfl) (by kernel_rfl) (fun _ _ _ h => h) (Or.inl ⟨by rfl, fun w' h => by go_simp⟩) hS ?_
  try simp only [A1, A2, A3, Act.put, A4, A5, A6]
  refine wpAnyH_ready (rs := [6]) (by kernel_rfl) (by simp) (AllReadyH.cons rfl (fun K hK => ?_) AllReadyH.nil)
  go_simp
  go_at_call 87
  refine (HF.out _).mono ?_
  rintro e w7 ⟨rfl, hb7⟩
  have hS7 : BlockIs w7 D 82 (sigF (limb b) (len b) t) ∧ Below B w w7 := ⟨hS6.1.below hb7 hS6.1.lt, hS6.2.trans (hb7.mono (by have := hS6.2.size; omega))⟩
  clear hS
  refine hK.out _ _ hS7 (fun hS => ?_)
  clear hK K
  try simp only [A1, A2, A3, Act.put, A4, A5, A6]
  refine wpAnyH_take (i := 7) (v := .string xq) rfl (by kernel_rfl) (by kernel_rfl) (by kernel_rfl) (fun _ _ _ h => h) (Or.inl ⟨by rfl, fun w' h => by go_simp⟩) hS ?_
  try simp only [A1, A2, A3, Act.put, A4, A5, A6]
  refine wpAnyH_take (i := 8) (v := .string xr) rfl (by kernel_rfl) (by kernel_rfl) (by kernel_rfl) (fun _ _ _ h => h) (Or.inl ⟨by rfl, fun w' h => by go_simp⟩) hS ?_
  try simp only [A1, A2, A3, Act.put, A4, A5, A6]
  refine wpAnyH_take (i := 9) (v := .int .i64 0) rfl (by kernel_rfl) (by kernel_rfl) (by kernel_rfl) (fun _ _ _ h => h) (Or.inl ⟨by rfl, fun w' h => by go_simp⟩) hS ?_
  try simp only [A1, A2, A3, Act.put, A4, A5, A6]
  refine wpAnyH_take (i := 10) (v := .string xq) rfl (by kernel_rfl) (by kernel_rfl) (by kernel_rfl) (fun _ _ _ h => h) (Or.inl ⟨by rfl, fun w' _ => by rfl⟩) hS ?_
  try simp only [A1, A2, A3, Act.put, A4, A5, A6]
  refine wpAnyH_take (i := 11) (v := .string xr) rfl (by kernel_rfl) (by kernel_rfl) (by kernel_rfl) (fun _ _ _ h => h) (Or.inl ⟨by rfl, fun w' _ => by rfl⟩) hS ?_
  try simp only [A1, A2, A3, Act.put, A4, A5, A6]
  refine wpAnyH_take (i := 12) (v := .int .i64 0) rfl (by kernel_rfl) (by kernel_rfl) (by kernel_rfl) (fun _ _ _ h => h) (Or.inl ⟨by rfl, fun w' _ => by rfl⟩) hS ?_
  try simp only [A1, A2, A3, Act.put, A4, A5, A6]
  refine wpAnyH_done (by kernel_rfl) ?_ _
  go_wp2
  go_ret3
  exact ⟨rfl, hB ▸ hS7.2⟩
end Go.Proofs.YtjemolaobhlapaaGreatDoor
