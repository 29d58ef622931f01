/- The program's Wrap and Bits: errors; one answer of both programs. -/
import Derived.Test.YtjemolaobhlapaaGreatDoorTE
import Derived.Test.YtjemolaobhlapaaGreatDoorNH
import Derived.Test.YtjemolaobhlapaaGreatDoorQI
set_option linter.unusedSimpArgs false
set_option linter.unusedVariables false
namespace Go.Proofs.YtjemolaobhlapaaGreatDoor
open Go.RowKit
set_option maxRecDepth 100000

set_option maxHeartbeats 1000000 in
theorem Wrap_err (x : ByteArray) (n r : Int) (ha : checkS x.data.toList = r) (h0 : r ≠ 0) (w : World) :
    Calls Tryz.prog 55 #[.string x, .int .i64 n] w fun e w' => e = .returned (.tuple #[.string ⟨#[]⟩, .int .i64 r]) ∧ Below w.heap.size w w' := by
  have HC := Lib.hid (fun W => Check_any x W r ha)
  have hr0 : (r != 0) = true := by simpa using h0
  clear ha h0
  go_enter Tryz.func55, Tryz.ntmps55
  go_wp2_with (go_at_call 12; refine (HC.out _).mono ?_; rintro e w1 ⟨rfl, hb1⟩; have HB1 := Lib.hid hb1)
  go_ret2
  exact ⟨rfl, HB1.out⟩
set_option maxHeartbeats 1000000 in
theorem Wrap_range (x : ByteArray) (n : Int) (ha : checkS x.data.toList = 0) (hn : n < 1 ∨ 64 < n) (w : World) :
    Calls Tryz.prog 55 #[.string x, .int .i64 n] w fun e w' => e = .returned (.tuple #[.string ⟨#[]⟩, .int .i64 3]) ∧ Below w.heap.size w w' := by
  have HC := Lib.hid (fun W => Check_any x W 0 ha)
  clear ha
  by_cases h : n < 1
  · have h1 : decide (n < 1) = true := by simpa using h
    clear hn h
    go_enter Tryz.func55, Tryz.ntmps55
    go_wp2_with (go_at_call 12; refine (HC.out _).mono ?_; rintro e w1 ⟨rfl, hb1⟩; have HB1 := Lib.hid hb1)
    go_ret2
    exact ⟨rfl, HB1.out⟩
  · have h1 : decide (n < 1) = false := by simp; omega
    have h2 : decide (64 < n) = true := by simp; omega
    clear hn h
    go_enter Tryz.func55, Tryz.ntmps55
    go_wp2_with (go_at_call 12; refine (HC.out _).mono ?_; rintro e w1 ⟨rfl, hb1⟩; have HB1 := Lib.hid hb1)
    go_ret2
    exact ⟨rfl, HB1.out⟩
set_option maxHeartbeats 1000000 in
theorem checkVector_err (x : ByteArray) (k r : Int) (ha : checkS x.data.toList = r) (h0 : r ≠ 0) (w : World) :
    Calls Tryz.prog 116 #[.string x, .int .i64 k] w fun e w' => e = .returned (.int .i64 r) ∧ Below w.heap.size w w' := by
  have HC := Lib.hid (fun W => Check_any x W r ha)
  have hr0 : (r != 0) = true := by simpa using h0
  clear ha h0
  go_enter Tryz.func116, Tryz.ntmps116
  go_wp2_with (go_at_call 12; refine (HC.out _).mono ?_; rintro e w1 ⟨rfl, hb1⟩; have HB1 := Lib.hid hb1)
  go_ret
  exact ⟨rfl, HB1.out⟩
set_option maxHeartbeats 1000000 in
theorem Bits1_err (x : ByteArray) (k : Nat) (r : Int) (ha : checkS x.data.toList = r) (h0 : r ≠ 0) (P : Nat) (w : World) (hP : w.cell? ⟨P, 0, none⟩ = some (.int .i64 k)) :
    Calls Tryz.prog 115 #[.string x, .pointer (some ⟨P, 0, none⟩)] w fun e w' => e = .returned (.int .i64 r) ∧ Below w.heap.size w w' := by
  have HV := Lib.hid (fun W => checkVector_err x k r ha h0 W)
  clear ha h0
  go_enter Tryz.func115, Tryz.ntmps115
  go_wp2_with (go_at_call 116; refine (HV.out _).mono ?_; rintro e w1 ⟨rfl, hb1⟩)
  go_ret
  exact ⟨rfl, hb1⟩
set_option maxHeartbeats 1000000 in
theorem Bits_unknown (i k : Int) (x y : ByteArray) (hn : i < 0 ∨ 10 ≤ i) (w : World) :
    Calls Tryz.prog 57 #[.int .i64 i, .int .i64 k, .string x, .string y] w fun e w' => e = .returned (.tuple #[.string ⟨#[]⟩, .int .i64 8]) ∧ Below w.heap.size w w' := by
  by_cases h : i < 0
  · have h1 : decide (i < 0) = true := by simpa using h
    clear hn h
    go_enter Tryz.func57, Tryz.ntmps57
    go_wp2
    go_ret2
    exact ⟨rfl, (Below.refl _ _).alloc (Nat.le_refl _) _⟩
  · have h1 : decide (i < 0) = false := by simpa using h
    have h2 : decide (10 ≤ i) = true := by simp; omega
    clear hn h
    go_enter Tryz.func57, Tryz.ntmps57
    go_wp2
    go_ret2
    exact ⟨rfl, (Below.refl _ _).alloc (Nat.le_refl _) _⟩
set_option maxHeartbeats 1000000 in
theorem Bits_range (i k : Int) (x y : ByteArray) (i0 : 0 ≤ i) (i1 : i < 10) (hn : k < 1 ∨ 64 < k) (w : World) :
    Calls Tryz.prog 57 #[.int .i64 i, .int .i64 k, .string x, .string y] w fun e w' => e = .returned (.tuple #[.string ⟨#[]⟩, .int .i64 3]) ∧ Below w.heap.size w w' := by
  have h1 : decide (i < 0) = false := by simp; omega
  have h2 : decide (10 ≤ i) = false := by simp; omega
  by_cases h : k < 1
  · have h3 : decide (k < 1) = true := by simpa using h
    clear hn h i0 i1
    go_enter Tryz.func57, Tryz.ntmps57
    go_wp2
    go_ret2
    exact ⟨rfl, (Below.refl _ _).alloc (Nat.le_refl _) _⟩
  · have h3 : decide (k < 1) = false := by simp; omega
    have h4 : decide (64 < k) = true := by simp; omega
    clear hn h i0 i1
    go_enter Tryz.func57, Tryz.ntmps57
    go_wp2
    go_ret2
    exact ⟨rfl, (Below.refl _ _).alloc (Nat.le_refl _) _⟩
set_option maxHeartbeats 2000000 in
theorem Bits_err (i : Int) (k : Nat) (x y : ByteArray) (i0 : 0 ≤ i) (i1 : i < 10) (hk1 : 1 ≤ k) (hk : k ≤ 64) (ra rb r : Int)
    (ha : ∀ (P : Nat) (W : World), W.cell? ⟨P, 0, none⟩ = some (.int .i64 k) → Calls Tryz.prog 115 #[.string x, .pointer (some ⟨P, 0, none⟩)] W fun e w' => e = .returned (.int .i64 ra) ∧ Below W.heap.size W w')
    (hb : ∀ (P : Nat) (W : World), W.cell? ⟨P, 0, none⟩ = some (.int .i64 k) → Calls Tryz.prog 115 #[.string y, .pointer (some ⟨P, 0, none⟩)] W fun e w' => e = .returned (.int .i64 rb) ∧ Below W.heap.size W w')
    (hr : (if ra = 0 then rb else ra) = r) (h0 : r ≠ 0) (w : World) :
    Calls Tryz.prog 57 #[.int .i64 i, .int .i64 k, .string x, .string y] w fun e w' => e = .returned (.tuple #[.string ⟨#[]⟩, .int .i64 r]) ∧ Below w.heap.size w w' := by
  obtain ⟨B, hB⟩ : ∃ B, w.heap.size = B := ⟨_, rfl⟩
  obtain ⟨W, hW⟩ : ∃ W, (w.alloc (.cells #[.int .i64 k] 3)).alloc (.cells #[.string x, .string y] 9) = W := ⟨_, rfl⟩
  have hP := bitsStart hB hW
  have cP : W.cell? ⟨B, 0, none⟩ = some (.int .i64 k) := hP.1.b.at 0
  have HCK := Lib.hid (checkAll_Bits1 B x y (B + 1) W hP.2 ra rb r (fun W' h => ha B W' ((h.cell (World.block_lt_of_cell? W _ cP)).trans cP)) (fun _ W' h => hb B W' ((h.cell (World.block_lt_of_cell? W _ cP)).trans cP)) hr)
  have HBL := Lib.hid hP.1
  have hr0 : (r != 0) = true := by simpa using h0
  have h1 : decide (i < 0) = false := by simp; omega
  have h2 : decide (10 ≤ i) = false := by simp; omega
  have h3 : decide ((k : Int) < 1) = false := by simp; omega
  have h4 : decide ((64 : Int) < (k : Int)) = false := by simp; omega
  clear ha hb hr h0 hP i0 i1 hk1 hk
  go_enter Tryz.func57, Tryz.ntmps57
  go_wp2_with (go_at_call 79; refine HCK.out.mono ?_; rintro e w1 ⟨rfl, hb1⟩; have HB1 := Lib.hid (HBL.out.below hb1))
  go_ret2
  exact ⟨rfl, hB ▸ HB1.out.bl⟩
set_option maxHeartbeats 2000000 in
theorem rBits_bad (i k : Int) (x y : ByteArray) (ro rc r : Int) (ho : (if i < 0 ∨ 10 ≤ i then (8 : Int) else 0) = ro) (hc : (if k < 1 ∨ 64 < k then (3 : Int) else 0) = rc) (hr : (if ro = 0 then rc else ro) = r) (h0 : r ≠ 0) (w : World) :
    Calls Tryz.prog 58 #[.int .i64 i, .int .i64 k, .string x, .string y] w fun e w' => e = .returned (.tuple #[.string ⟨#[]⟩, .int .i64 r]) ∧ Below w.heap.size w w' := by
  have HF := Lib.hid (fun W => rFirst_two ro rc r hr W)
  have hr0 : (r != 0) = true := by simpa using h0
  have hoo : (decide (i < 0) = true ∧ ro = 8) ∨ (decide (i < 0) = false ∧ decide (10 ≤ i) = true ∧ ro = 8) ∨ (decide (i < 0) = false ∧ decide (10 ≤ i) = false ∧ ro = 0) := by
    by_cases h : i < 0
    · exact Or.inl ⟨by simpa using h, by rw [← ho, if_pos (Or.inl h)]⟩
    · by_cases h2 : 10 ≤ i
      · exact Or.inr (Or.inl ⟨by simpa using h, by simpa using h2, by rw [← ho, if_pos (Or.inr h2)]⟩)
      · exact Or.inr (Or.inr ⟨by simpa using h, by simpa using h2, by rw [← ho, if_neg (by omega)]⟩)
  have hkk : (decide (k < 1) = true ∧ rc = 3) ∨ (decide (k < 1) = false ∧ decide (64 < k) = true ∧ rc = 3) ∨ (decide (k < 1) = false ∧ decide (64 < k) = false ∧ rc = 0) := by
    by_cases h : k < 1
    · exact Or.inl ⟨by simpa using h, by rw [← hc, if_pos (Or.inl h)]⟩
    · by_cases h2 : 64 < k
      · exact Or.inr (Or.inl ⟨by simpa using h, by simpa using h2, by rw [← hc, if_pos (Or.inr h2)]⟩)
      · exact Or.inr (Or.inr ⟨by simpa using h, by simpa using h2, by rw [← hc, if_neg (by omega)]⟩)
  have T8 := Lib.hid (fun W => rWhen_any true 8 W 8 rfl)
  have F8 := Lib.hid (fun W => rWhen_any false 8 W 0 rfl)
  have T3 := Lib.hid (fun W => rWhen_any true 3 W 3 rfl)
  have F3 := Lib.hid (fun W => rWhen_any false 3 W 0 rfl)
  clear ho hc hr h0
  rcases hoo with ⟨h1, rfl⟩ | ⟨h1, h2, rfl⟩ | ⟨h1, h2, rfl⟩ <;> rcases hkk with ⟨h3, rfl⟩ | ⟨h3, h4, rfl⟩ | ⟨h3, h4, rfl⟩
  all_goals
    obtain ⟨W1, hW1⟩ : ∃ W1, w = W1 := ⟨_, rfl⟩
    clear hW1
    go_enter Tryz.func58, Tryz.ntmps58
    go_wp2_with (first | (go_at_call 65; (with_reducible refine (T8.out _).mono ?_); rintro e w2 ⟨rfl, rfl⟩) | (go_at_call 65; (with_reducible refine (F8.out _).mono ?_); rintro e w2 ⟨rfl, rfl⟩) | (go_at_call 65; (with_reducible refine (T3.out _).mono ?_); rintro e w2 ⟨rfl, rfl⟩) | (go_at_call 65; (with_reducible refine (F3.out _).mono ?_); rintro e w2 ⟨rfl, rfl⟩) | (go_at_call 81; (with_reducible refine (HF.out _).mono ?_); rintro e w3 ⟨rfl, rfl⟩))
    go_ret2
    exact ⟨rfl, (Below.refl _ _).alloc (Nat.le_refl _) _⟩
end Go.Proofs.YtjemolaobhlapaaGreatDoor

namespace Go.Proofs.YtjemolaobhlapaaGreatDoor
open Go.RowKit
set_option maxRecDepth 100000

set_option maxHeartbeats 4000000 in
theorem rBits_err (i : Int) (k : Nat) (x y : ByteArray) (i0 : 0 ≤ i) (i1 : i < 10) (hk1 : 1 ≤ k) (hk : k ≤ 64) (ra rb rc r : Int) (c : Bool)
    (ha : Ans 118 #[.string x, .int .i64 k] (.int .i64 ra)) (hb : Ans 118 #[.string y, .int .i64 k] (.int .i64 rb))
    (hc : ((decide (i = 3) || decide (i = 4)) && (y.toList == [48])) = c) (hrc : (if c = true then (30 : Int) else 0) = rc) (hr : (if ra = 0 then (if rb = 0 then rc else rb) else ra) = r) (h0 : r ≠ 0) (w : World) :
    Calls Tryz.prog 58 #[.int .i64 i, .int .i64 k, .string x, .string y] w fun e w' => e = .returned (.tuple #[.string ⟨#[]⟩, .int .i64 r]) ∧ Below w.heap.size w w' := by
  have HW8 := Lib.hid (fun W => rWhen_any false 8 W 0 rfl)
  have HW3 := Lib.hid (fun W => rWhen_any false 3 W 0 rfl)
  have HWD := Lib.hid (fun W => rWhen_any c 30 W rc hrc)
  have HF2 := Lib.hid (fun W => rFirst_two 0 0 0 rfl W)
  have HF3 := Lib.hid (fun W => rFirst_three ra rb rc r hr W)
  have HCA := Lib.hid ha
  have HCB := Lib.hid hb
  have hr0 : (r != 0) = true := by simpa using h0
  have h1 : decide (i < 0) = false := by simp; omega
  have h2 : decide (10 ≤ i) = false := by simp; omega
  have h3 : decide ((k : Int) < 1) = false := by simp; omega
  have h4 : decide ((64 : Int) < (k : Int)) = false := by simp; omega
  have hcs : ((i == 3) = true ∧ (y.toList == [48]) = c) ∨ ((i == 3) = false ∧ (i == 4) = true ∧ (y.toList == [48]) = c) ∨ ((i == 3) = false ∧ (i == 4) = false ∧ c = false) := by
    by_cases h : i = 3
    · refine Or.inl ⟨by simpa using h, ?_⟩
      rw [← hc, decide_eq_true h]; rfl
    · by_cases h5 : i = 4
      · refine Or.inr (Or.inl ⟨by simpa using h, by simpa using h5, ?_⟩)
        rw [← hc, decide_eq_false h, decide_eq_true h5]; rfl
      · refine Or.inr (Or.inr ⟨by simpa using h, by simpa using h5, ?_⟩)
        rw [← hc, decide_eq_false h, decide_eq_false h5]; rfl
  clear ha hb hc hrc hr h0 i0 i1 hk1 hk
  rcases hcs with ⟨e3, hy⟩ | ⟨e3, e4, hy⟩ | ⟨e3, e4, rfl⟩
  all_goals
    go_enter Tryz.func58, Tryz.ntmps58
    go_wp2_with (first | (go_at_call 65; (with_reducible refine (HW8.out _).mono ?_); rintro e w2 ⟨rfl, rfl⟩) | (go_at_call 65; (with_reducible refine (HW3.out _).mono ?_); rintro e w2 ⟨rfl, rfl⟩) | (go_at_call 65; (with_reducible refine (HWD.out _).mono ?_); rintro e w2 ⟨rfl, rfl⟩) | (go_at_call 81; (with_reducible refine (HF2.out _).mono ?_); rintro e w3 ⟨rfl, rfl⟩; have HB1 := Lib.hid ((Below.refl w.heap.size w).alloc (Nat.le_refl _) (.cells #[.int .i64 0, .int .i64 0] 3))) | (go_at_call 118; (with_reducible refine (HCA.out _).mono ?_); rintro e w4 ⟨rfl, hb4⟩; have HB2 := Lib.hid (HB1.out.trans (hb4.mono HB1.out.size)); clear hb4; clear HCA) | (go_at_call 118; (with_reducible refine (HCB.out _).mono ?_); rintro e w5 ⟨rfl, hb5⟩; have HB3 := Lib.hid (HB2.out.trans (hb5.mono HB2.out.size)); clear hb5) | (go_at_call 81; (with_reducible refine (HF3.out _).mono ?_); rintro e w6 ⟨rfl, rfl⟩; have HB4 := Lib.hid (HB3.out.alloc HB3.out.size (.cells #[.int .i64 ra, .int .i64 rb, .int .i64 rc] 3))))
    go_ret2
    exact ⟨rfl, HB4.out⟩

theorem wrap_both (u : ByteArray) (n : Int) (hu : u.size ≤ 300) : ∃ (s : ByteArray) (e : Int), (∀ W, Tab W → Calls Tryz.prog 55 #[.string u, .int .i64 n] W fun x w' => x = .returned (.tuple #[.string s, .int .i64 e]) ∧ Below W.heap.size W w') ∧ Ans 56 #[.string u, .int .i64 n] (.tuple #[.string s, .int .i64 e]) := by
  obtain ⟨r, hr⟩ : ∃ r, checkS u.data.toList = r := ⟨_, rfl⟩
  by_cases h0 : r = 0
  · subst h0
    by_cases hn : n < 1 ∨ 64 < n
    · exact ⟨⟨#[]⟩, 3, fun W _ => Wrap_range u n hr hn W, fun W => rWrap_bad u n (by omega) 0 3 3 hr (if_pos hn) rfl (by decide) W⟩
    · obtain ⟨k, rfl⟩ : ∃ k : Nat, n = (k : Int) := ⟨n.toNat, by omega⟩
      obtain ⟨s, a, hl, ha⟩ := check_back hr
      obtain ⟨x, hx⟩ : ∃ x, bs (numeral s a) = x := ⟨_, rfl⟩
      have hux : u = bs (numeral s a) := by rw [← hl]; rfl
      subst hux
      exact ⟨bs (numeral false (wrapW s a k)), 0, fun W ht => Wrap_ok s a k ha (by omega) (by omega) W ht _ rfl, fun W => rWrap_ok s a k ha (by omega) (by omega) _ rfl W⟩
  · exact ⟨⟨#[]⟩, r, fun W _ => Wrap_err u n r hr h0 W, fun W => rWrap_bad u n (by omega) r _ r hr rfl (if_neg h0) h0 W⟩

/-- One vector, as both programs check it. -/
theorem vec_both (u : ByteArray) (k : Nat) (hu : u.size ≤ 300) (hk : k ≤ 64) : ∃ ra : Int, (∀ (P : Nat) (W : World), W.cell? ⟨P, 0, none⟩ = some (.int .i64 k) → Calls Tryz.prog 115 #[.string u, .pointer (some ⟨P, 0, none⟩)] W fun e w' => e = .returned (.int .i64 ra) ∧ Below W.heap.size W w') ∧ Ans 118 #[.string u, .int .i64 k] (.int .i64 ra) ∧ (ra = 0 → ∃ a : Nat, u = bs (numeral false a) ∧ a ≤ ones k ∧ a < 18446744073709551616) := by
  obtain ⟨r, hr⟩ : ∃ r, checkS u.data.toList = r := ⟨_, rfl⟩
  by_cases h0 : r = 0
  · subst h0
    obtain ⟨s, a, hl, ha⟩ := check_back hr
    have hux : u = bs (numeral s a) := by rw [← hl]; rfl
    subst hux
    refine ⟨vecS s a k, fun P W hP => Bits1_any s a k ha hk P W hP _ rfl, ?_, ?_⟩
    · cases s
      · exact fun W => rCheckBits_pos a k ha hk _ rfl W
      · exact fun W => rCheckBits_neg a k ha W
    · intro hv
      unfold vecS at hv
      by_cases h : s = true ∨ ones k < a
      · rw [if_pos h] at hv; exact absurd hv (by decide)
      · have hs : s = false := by cases s <;> simp_all
        subst hs
        have := ones_lt hk
        exact ⟨a, rfl, by omega, by omega⟩
  · exact ⟨r, fun P W hP => Bits1_err u k r hr h0 P W hP, fun W => rCheckBits_err u k r (by omega) hr h0 W, fun h => absurd h h0⟩
theorem str_zero {b : Nat} : ((bs (numeral false b)).toList == [48]) = decide (b = 0) := str_is (b := b) (k := 0) (by decide)
theorem Bits_each (i k a b v : Nat) (hi : i < 10) (hk1 : 1 ≤ k) (hk : k ≤ 64) (hak : a ≤ ones k) (hbk : b ≤ ones k) (ha : a < 18446744073709551616) (hb : b < 18446744073709551616) (hz : i = 3 ∨ i = 4 → b ≠ 0) (hv : opW i a b &&& ones k = v) (w : World) (ht : Tab w) :
    Calls Tryz.prog 57 #[.int .i64 i, .int .i64 k, .string (bs (numeral false a)), .string (bs (numeral false b))] w fun e w' => e = .returned (.tuple #[.string (bs (numeral false v)), .int .i64 0]) ∧ Below w.heap.size w w' := by
  have hl := opW_lt i a b ha hb
  have hcs : i = 0 ∨ i = 1 ∨ i = 2 ∨ i = 3 ∨ i = 4 ∨ i = 5 ∨ i = 6 ∨ i = 7 ∨ i = 8 ∨ i = 9 := by omega
  rcases hcs with rfl | rfl | rfl | rfl | rfl | rfl | rfl | rfl | rfl | rfl
  · exact Bits0_ok a b k ha hb hk1 hk hak hbk w ht v hl hv
  · exact Bits1_ok a b k ha hb hk1 hk hak hbk w ht v hl hv
  · exact Bits2_ok a b k ha hb hk1 hk hak hbk w ht v hl hv
  · exact Bits3_ok a b k ha hb (Nat.pos_of_ne_zero (hz (Or.inl rfl))) hk1 hk hak hbk w ht v hl hv
  · exact Bits4_ok a b k ha hb (Nat.pos_of_ne_zero (hz (Or.inr rfl))) hk1 hk hak hbk w ht v hl hv
  · exact Bits5_ok a b k ha hb hk1 hk hak hbk w ht v hl hv
  · exact Bits6_ok a b k ha hb hk1 hk hak hbk w ht v hl hv
  · exact Bits7_ok a b k ha hb hk1 hk hak hbk w ht v hl hv
  · exact Bits8_ok a b k ha hb hk1 hk hak hbk w ht v hl hv
  · exact Bits9_ok a b k ha hb hk1 hk hak hbk w ht v hl hv
theorem bits_both (i n : Int) (u v : ByteArray) (hu : u.size ≤ 300) (hv : v.size ≤ 300) : ∃ (s : ByteArray) (e : Int), (∀ W, Tab W → Calls Tryz.prog 57 #[.int .i64 i, .int .i64 n, .string u, .string v] W fun x w' => x = .returned (.tuple #[.string s, .int .i64 e]) ∧ Below W.heap.size W w') ∧ Ans 58 #[.int .i64 i, .int .i64 n, .string u, .string v] (.tuple #[.string s, .int .i64 e]) := by
  by_cases hi : i < 0 ∨ 10 ≤ i
  · exact ⟨⟨#[]⟩, 8, fun W _ => Bits_unknown i n u v hi W, fun W => rBits_bad i n u v 8 _ 8 (if_pos hi) rfl rfl (by decide) W⟩
  by_cases hn : n < 1 ∨ 64 < n
  · exact ⟨⟨#[]⟩, 3, fun W _ => Bits_range i n u v (by omega) (by omega) hn W, fun W => rBits_bad i n u v 0 3 3 (if_neg hi) (if_pos hn) rfl (by decide) W⟩
  obtain ⟨k, rfl⟩ : ∃ k : Nat, n = (k : Int) := ⟨n.toNat, by omega⟩
  have hk1 : 1 ≤ k := by omega
  have hk : k ≤ 64 := by omega
  obtain ⟨ra, a1, a2, a3⟩ := vec_both u k hu hk
  obtain ⟨rb, b1, b2, b3⟩ := vec_both v k hv hk
  obtain ⟨c, hc⟩ : ∃ c, ((decide (i = 3) || decide (i = 4)) && (v.toList == [48])) = c := ⟨_, rfl⟩
  obtain ⟨rc, hrc⟩ : ∃ rc : Int, (if c = true then (30 : Int) else 0) = rc := ⟨_, rfl⟩
  obtain ⟨r, hr⟩ : ∃ r, (if ra = 0 then rb else ra) = r := ⟨_, rfl⟩
  by_cases h0 : r = 0
  · have hra : ra = 0 := by
      by_cases h : ra = 0
      · exact h
      · rw [if_neg h] at hr; omega
    rw [if_pos hra] at hr
    have hrb : rb = 0 := by omega
    obtain ⟨a, rfl, hak, ha⟩ := a3 hra
    obtain ⟨b, rfl, hbk, hb⟩ := b3 hrb
    rw [str_zero] at hc
    by_cases hz : (i = 3 ∨ i = 4) ∧ b = 0
    · have hc1 : c = true := by
        rw [← hc, decide_eq_true hz.2]
        rcases hz.1 with h | h <;> simp [h]
      subst hra
      subst hrb
      have hr30 : rc = 30 := by rw [← hrc, if_pos hc1]
      refine ⟨⟨#[]⟩, 30, fun W _ => ?_, fun W => rBits_err i k _ _ (by omega) (by omega) hk1 hk 0 0 rc 30 c a2 b2 (by rw [str_zero]; exact hc) hrc (by rw [if_pos rfl, if_pos rfl]; exact hr30) (by decide) W⟩
      rcases hz.1 with rfl | rfl
      · exact Bits3_zero a b k ha hb (by omega) hk1 hk hak hbk W
      · exact Bits4_zero a b k ha hb (by omega) hk1 hk hak hbk W
    · obtain ⟨j, rfl⟩ : ∃ j : Nat, i = (j : Int) := ⟨i.toNat, by omega⟩
      have hz2 : j = 3 ∨ j = 4 → b ≠ 0 := fun h h2 => hz ⟨by omega, h2⟩
      exact ⟨bs (numeral false (opW j a b &&& ones k)), 0, fun W ht => Bits_each j k a b _ (by omega) hk1 hk hak hbk ha hb hz2 rfl W ht, fun W => rBits_each j k a b _ (by omega) hk1 hk hak hbk ha hb hz2 rfl W⟩
  · refine ⟨⟨#[]⟩, r, fun W _ => Bits_err i k u v (by omega) (by omega) hk1 hk ra rb r a1 b1 hr h0 W, fun W => rBits_err i k u v (by omega) (by omega) hk1 hk ra rb rc r c a2 b2 hc hrc ?_ h0 W⟩
    by_cases h : ra = 0
    · rw [if_pos h] at hr ⊢
      rw [if_neg (by rw [hr]; exact h0), hr]
    · rw [if_neg h] at hr ⊢; exact hr
end Go.Proofs.YtjemolaobhlapaaGreatDoor

namespace Go.Proofs.YtjemolaobhlapaaGreatDoor
open Go.RowKit
set_option maxRecDepth 1000000

set_option maxHeartbeats 40000000 in
theorem bits_long (i n : Int) (u v : ByteArray) (hl : longE [u, v] = true) (w : World) (he : Env w) :
    Calls Tryz.prog 6 #[.agg #[.int .i64 i, .int .i64 n, .string u, .string v]] w fun e w' => e = .returned (.bool true) ∧ Below w.heap.size w w' := by
  obtain ⟨D, hD⟩ : ∃ D, w.heap.size = D := ⟨_, rfl⟩
  obtain ⟨W0, hW0⟩ : ∃ W0, w.alloc (.cells #[.int .i64 i, .int .i64 n, .string u, .string v] 53) = W0 := ⟨_, rfl⟩
  have hb0 : Below w.heap.size w W0 := by rw [← hW0]; exact (Below.refl _ _).alloc (Nat.le_refl _) _
  have HA := Lib.hid (Aq.step (show Aq w w from ⟨Below.refl _ _, he⟩) hb0)
  have HK := Lib.hid (show BlockIs W0 D 53 #[.int .i64 i, .int .i64 n, .string u, .string v] from by rw [← hW0, ← hD]; exact BlockIs.new _ _ _)
  have c0 := HK.out.at 0
  have c1 := HK.out.at 1
  have c2 := HK.out.at 2
  have c3 := HK.out.at 3
  clear he hb0
  have HW := Lib.hid (fun W (h : Env W) => awake_any W h)
  have HL := Lib.hid (fun W => long_two u v W true hl)
  clear hl
  go_enter Tryz.func6, Tryz.ntmps6
  go_wp2_with (first | (go_at_call 10; (with_reducible refine (HW.out _ HA.out.env).mono ?_); rintro e w6 ⟨rfl, hb6⟩; replace HA := Lib.hid (HA.out.step hb6); replace HK := Lib.hid (HK.out.below hb6 HK.out.lt); clear hb6; clear c0 c1 c2 c3; have c0 := HK.out.at 0; have c1 := HK.out.at 1; have c2 := HK.out.at 2; have c3 := HK.out.at 3) | (go_at_call 11; refine (HL.out _).mono ?_; rintro e w6 ⟨rfl, hw6⟩; have hb6 := (show Below _ _ w6 from hw6 ▸ (Below.refl _ _).alloc (Nat.le_refl _) (.cells #[.string u, .string v] 9)); clear hw6; replace HA := Lib.hid (HA.out.step hb6); replace HK := Lib.hid (HK.out.below hb6 HK.out.lt); clear hb6; clear c0 c1 c2 c3; have c0 := HK.out.at 0; have c1 := HK.out.at 1; have c2 := HK.out.at 2; have c3 := HK.out.at 3))
  go_ret
  exact ⟨rfl, HA.out.bl⟩
set_option maxHeartbeats 40000000 in
theorem bits_same (i n : Int) (u v : ByteArray) (hl : longE [u, v] = false) (s1 s2 : ByteArray) (e1 e2 : Int) (a1 : ∀ W, Tab W → Calls Tryz.prog 55 #[.string u, .int .i64 n] W fun x w' => x = .returned (.tuple #[.string s1, .int .i64 e1]) ∧ Below W.heap.size W w') (b1 : Ans 56 #[.string u, .int .i64 n] (.tuple #[.string s1, .int .i64 e1])) (a2 : ∀ W, Tab W → Calls Tryz.prog 57 #[.int .i64 i, .int .i64 n, .string u, .string v] W fun x w' => x = .returned (.tuple #[.string s2, .int .i64 e2]) ∧ Below W.heap.size W w') (b2 : Ans 58 #[.int .i64 i, .int .i64 n, .string u, .string v] (.tuple #[.string s2, .int .i64 e2])) (w : World) (he : Env w) :
    Calls Tryz.prog 6 #[.agg #[.int .i64 i, .int .i64 n, .string u, .string v]] w fun e w' => e = .returned (.bool true) ∧ Below w.heap.size w w' := by
  obtain ⟨D, hD⟩ : ∃ D, w.heap.size = D := ⟨_, rfl⟩
  obtain ⟨W0, hW0⟩ : ∃ W0, w.alloc (.cells #[.int .i64 i, .int .i64 n, .string u, .string v] 53) = W0 := ⟨_, rfl⟩
  have hb0 : Below w.heap.size w W0 := by rw [← hW0]; exact (Below.refl _ _).alloc (Nat.le_refl _) _
  have HA := Lib.hid (Aq.step (show Aq w w from ⟨Below.refl _ _, he⟩) hb0)
  have HK := Lib.hid (show BlockIs W0 D 53 #[.int .i64 i, .int .i64 n, .string u, .string v] from by rw [← hW0, ← hD]; exact BlockIs.new _ _ _)
  have c0 := HK.out.at 0
  have c1 := HK.out.at 1
  have c2 := HK.out.at 2
  have c3 := HK.out.at 3
  clear he hb0
  have HW := Lib.hid (fun W (h : Env W) => awake_any W h)
  have HL := Lib.hid (fun W => long_two u v W false hl)
  have A1 := Lib.hid a1
  have B1 := Lib.hid b1
  have A2 := Lib.hid a2
  have B2 := Lib.hid b2
  have H1 := Lib.hid (fun W => both_same s1 e1 W)
  have H2 := Lib.hid (fun W => both_same s2 e2 W)
  clear hl a1 b1 a2 b2
  go_enter Tryz.func6, Tryz.ntmps6
  go_wp2_with (first | (go_at_call 10; (with_reducible refine (HW.out _ HA.out.env).mono ?_); rintro e w6 ⟨rfl, hb6⟩; replace HA := Lib.hid (HA.out.step hb6); replace HK := Lib.hid (HK.out.below hb6 HK.out.lt); clear hb6; clear c0 c1 c2 c3; have c0 := HK.out.at 0; have c1 := HK.out.at 1; have c2 := HK.out.at 2; have c3 := HK.out.at 3) | (go_at_call 11; refine (HL.out _).mono ?_; rintro e w6 ⟨rfl, hw6⟩; have hb6 := (show Below _ _ w6 from hw6 ▸ (Below.refl _ _).alloc (Nat.le_refl _) (.cells #[.string u, .string v] 9)); clear hw6; replace HA := Lib.hid (HA.out.step hb6); replace HK := Lib.hid (HK.out.below hb6 HK.out.lt); clear hb6; clear c0 c1 c2 c3; have c0 := HK.out.at 0; have c1 := HK.out.at 1; have c2 := HK.out.at 2; have c3 := HK.out.at 3) | (go_at_call 55; (with_reducible refine (A1.out _ HA.out.env.tab).mono ?_); rintro e w6 ⟨rfl, hb6⟩; replace HA := Lib.hid (HA.out.step hb6); replace HK := Lib.hid (HK.out.below hb6 HK.out.lt); clear hb6; clear c0 c1 c2 c3; have c0 := HK.out.at 0; have c1 := HK.out.at 1; have c2 := HK.out.at 2; have c3 := HK.out.at 3) | (go_at_call 56; (with_reducible refine (B1.out _).mono ?_); rintro e w6 ⟨rfl, hb6⟩; replace HA := Lib.hid (HA.out.step hb6); replace HK := Lib.hid (HK.out.below hb6 HK.out.lt); clear hb6; clear c0 c1 c2 c3; have c0 := HK.out.at 0; have c1 := HK.out.at 1; have c2 := HK.out.at 2; have c3 := HK.out.at 3) | (go_at_call 57; (with_reducible refine (A2.out _ HA.out.env.tab).mono ?_); rintro e w6 ⟨rfl, hb6⟩; replace HA := Lib.hid (HA.out.step hb6); replace HK := Lib.hid (HK.out.below hb6 HK.out.lt); clear hb6; clear c0 c1 c2 c3; have c0 := HK.out.at 0; have c1 := HK.out.at 1; have c2 := HK.out.at 2; have c3 := HK.out.at 3) | (go_at_call 58; (with_reducible refine (B2.out _).mono ?_); rintro e w6 ⟨rfl, hb6⟩; replace HA := Lib.hid (HA.out.step hb6); replace HK := Lib.hid (HK.out.below hb6 HK.out.lt); clear hb6; clear c0 c1 c2 c3; have c0 := HK.out.at 0; have c1 := HK.out.at 1; have c2 := HK.out.at 2; have c3 := HK.out.at 3) | (go_at_call 20; (with_reducible refine (H1.out _).mono ?_); rintro e w6 ⟨rfl, rfl⟩) | (go_at_call 20; (with_reducible refine (H2.out _).mono ?_); rintro e w6 ⟨rfl, rfl⟩))
  go_ret
  exact ⟨rfl, HA.out.bl⟩
theorem bits_any (i n : Int) (u v : ByteArray) (w : World) (he : Env w) :
    Calls Tryz.prog 6 #[.agg #[.int .i64 i, .int .i64 n, .string u, .string v]] w fun e w' => e = .returned (.bool true) ∧ Below w.heap.size w w' := by
  by_cases hl : longE [u, v] = true
  · exact bits_long i n u v hl w he
  have hl2 : longE [u, v] = false := by simpa using hl
  have hs : u.size ≤ 300 ∧ v.size ≤ 300 := by
    simp [longE] at hl2
    omega
  obtain ⟨s1, e1, a1, b1⟩ := wrap_both u n hs.1
  obtain ⟨s2, e2, a2, b2⟩ := bits_both i n u v hs.1 hs.2
  exact bits_same i n u v hl2 s1 s2 e1 e2 a1 b1 a2 b2 w he
end Go.Proofs.YtjemolaobhlapaaGreatDoor
