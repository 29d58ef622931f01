/- The reference: split. -/
import Derived.Test.YtjemolaobhlapaaGreatDoorN64
import Derived.Test.YtjemolaobhlapaaGreatDoorRU
set_option linter.unusedSimpArgs false
set_option linter.unusedVariables false
namespace Go.Proofs.YtjemolaobhlapaaGreatDoor
open Go.RowKit
set_option maxRecDepth 100000

set_option maxHeartbeats 2000000 in
theorem split_none (s : ByteArray) (hsz : s.size < 1000000) (hk : ∀ k (h : k < s.size), s[k].toNat ≠ 47) (w : World) :
    Calls Tryz.prog 106 #[.string s] w fun e w' => e = .returned (.tuple #[.string ⟨#[]⟩, .string ⟨#[]⟩, .bool false]) ∧ Below w.heap.size w w' := by
  have HK := Lib.hid hk
  clear hk
  go_enter Tryz.func106, Tryz.ntmps106
  go_wp2
  go_loop [5, 6] (fun x y => ∃ k : Nat, k ≤ s.size ∧ y = .int .i64 k ∧ (x = .int .i64 (-1))) (fun _ y => s.size - (intOf y).toNat)
  case atStart => exact ⟨0, Nat.zero_le _, rfl, rfl⟩
  case round =>
    obtain ⟨k, hk, rfl, rfl⟩ := hrel
    by_cases hlt : k < s.size
    · obtain ⟨c, hc⟩ : ∃ c : Nat, s[k].toNat = c := ⟨_, rfl⟩
      have hcc : (s[k].toNat : Int) = (c : Int) := by rw [hc]
      have hnc : c ≠ 47 := by rw [← hc]; exact HK.out k hlt
      have hne : ((c : Int) == 47) = false := by rw [beq_eq_false_iff_ne]; omega
      clear hc hnc
      go_wp2
      go_round
      case rel => exact ⟨k + 1, by omega, by go_num, rfl⟩
      case measure => simp [intOf]; omega
    · go_wp2
      go_ret3
      exact ⟨rfl, Below.refl _ _⟩

set_option maxHeartbeats 2000000 in
theorem split_one (s : ByteArray) (hsz : s.size < 1000000) (a : Nat) (ha : a < s.size) (hk : ∀ k (h : k < s.size), s[k].toNat = 47 ↔ k = a) (x y : ByteArray) (hx : s.extract 0 a = x) (hy : s.extract (a + 1) s.size = y) (w : World) :
    Calls Tryz.prog 106 #[.string s] w fun e w' => e = .returned (.tuple #[.string x, .string y, .bool true]) ∧ Below w.heap.size w w' := by
  have HK := Lib.hid hk
  clear hk
  go_enter Tryz.func106, Tryz.ntmps106
  go_wp2
  go_loop [5, 6] (fun x y => ∃ k : Nat, k ≤ s.size ∧ y = .int .i64 k ∧ ((k ≤ a ∧ x = .int .i64 (-1)) ∨ (a < k ∧ x = .int .i64 a))) (fun _ y => s.size - (intOf y).toNat)
  case atStart => exact ⟨0, Nat.zero_le _, rfl, Or.inl ⟨Nat.zero_le _, rfl⟩⟩
  case round =>
    obtain ⟨k, hk, rfl, hx⟩ := hrel
    by_cases hlt : k < s.size
    · obtain ⟨c, hc⟩ : ∃ c : Nat, s[k].toNat = c := ⟨_, rfl⟩
      have hcc : (s[k].toNat : Int) = (c : Int) := by rw [hc]
      rcases hx with ⟨hka, rfl⟩ | ⟨hka, rfl⟩
      · rcases Nat.lt_or_eq_of_le hka with hka | hka
        · have hnc : c ≠ 47 := by rw [← hc]; exact fun h => absurd ((HK.out k hlt).1 h) (by omega)
          have hne : ((c : Int) == 47) = false := by rw [beq_eq_false_iff_ne]; omega
          clear hc hnc
          go_wp2
          go_round
          case rel => exact ⟨k + 1, by omega, by go_num, Or.inl ⟨by omega, rfl⟩⟩
          case measure => simp [intOf]; omega
        · have h47 : c = 47 := by rw [← hc]; exact (HK.out k hlt).2 hka
          subst h47
          clear hcc
          have hcc : (s[k].toNat : Int) = 47 := by rw [hc]; rfl
          clear hc
          subst hka
          go_wp2
          go_round
          case rel => exact ⟨k + 1, by omega, by go_num, Or.inr ⟨by omega, rfl⟩⟩
          case measure => simp [intOf]; omega
      · have hnc : c ≠ 47 := by rw [← hc]; exact fun h => absurd ((HK.out k hlt).1 h) (by omega)
        have hne : ((c : Int) == 47) = false := by rw [beq_eq_false_iff_ne]; omega
        clear hc hnc
        go_wp2
        go_round
        case rel => exact ⟨k + 1, by omega, by go_num, Or.inr ⟨by omega, rfl⟩⟩
        case measure => simp [intOf]; omega
    · rcases hx with ⟨hka, rfl⟩ | ⟨hka, rfl⟩
      · omega
      · have hmx : s.size ≤ maxLen := by unfold maxLen; omega
        go_wp2
        go_quiet (fail)
        go_wp2
        go_ret3
        exact ⟨rfl, below_drewN (Below.refl _ _) _⟩

set_option maxHeartbeats 2000000 in
theorem split_two (s : ByteArray) (hsz : s.size < 1000000) (a b : Nat) (hab : a < b) (hb : b < s.size) (hk : ∀ k (h : k < s.size), k ≤ b → (s[k].toNat = 47 ↔ k = a ∨ k = b)) (w : World) :
    Calls Tryz.prog 106 #[.string s] w fun e w' => e = .returned (.tuple #[.string ⟨#[]⟩, .string ⟨#[]⟩, .bool false]) ∧ Below w.heap.size w w' := by
  have HK := Lib.hid hk
  clear hk
  go_enter Tryz.func106, Tryz.ntmps106
  go_wp2
  go_loop [5, 6] (fun x y => ∃ k : Nat, k ≤ s.size ∧ y = .int .i64 k ∧ ((k ≤ a ∧ x = .int .i64 (-1)) ∨ (a < k ∧ k ≤ b ∧ x = .int .i64 a))) (fun _ y => s.size - (intOf y).toNat)
  case atStart => exact ⟨0, Nat.zero_le _, rfl, Or.inl ⟨Nat.zero_le _, rfl⟩⟩
  case round =>
    obtain ⟨k, hk, rfl, hx⟩ := hrel
    by_cases hlt : k < s.size
    · obtain ⟨c, hc⟩ : ∃ c : Nat, s[k].toNat = c := ⟨_, rfl⟩
      have hcc : (s[k].toNat : Int) = (c : Int) := by rw [hc]
      rcases hx with ⟨hka, rfl⟩ | ⟨hka, hkb, rfl⟩
      · rcases Nat.lt_or_eq_of_le hka with hka | hka
        · have hnc : c ≠ 47 := by rw [← hc]; exact fun h => absurd ((HK.out k hlt (by omega)).1 h) (by omega)
          have hne : ((c : Int) == 47) = false := by rw [beq_eq_false_iff_ne]; omega
          clear hc hnc
          go_wp2
          go_round
          case rel => exact ⟨k + 1, by omega, by go_num, Or.inl ⟨by omega, rfl⟩⟩
          case measure => simp [intOf]; omega
        · have h47 : c = 47 := by rw [← hc]; exact (HK.out k hlt (by omega)).2 (Or.inl hka)
          subst h47
          clear hcc
          have hcc : (s[k].toNat : Int) = 47 := by rw [hc]; rfl
          clear hc
          subst hka
          go_wp2
          go_round
          case rel => exact ⟨k + 1, by omega, by go_num, Or.inr ⟨by omega, by omega, rfl⟩⟩
          case measure => simp [intOf]; omega
      · rcases Nat.lt_or_eq_of_le hkb with hkb | hkb
        · have hnc : c ≠ 47 := by rw [← hc]; exact fun h => absurd ((HK.out k hlt (by omega)).1 h) (by omega)
          have hne : ((c : Int) == 47) = false := by rw [beq_eq_false_iff_ne]; omega
          clear hc hnc
          go_wp2
          go_round
          case rel => exact ⟨k + 1, by omega, by go_num, Or.inr ⟨by omega, by omega, rfl⟩⟩
          case measure => simp [intOf]; omega
        · have h47 : c = 47 := by rw [← hc]; exact (HK.out k hlt (by omega)).2 (Or.inr hkb)
          subst h47
          clear hcc
          have hcc : (s[k].toNat : Int) = 47 := by rw [hc]; rfl
          clear hc
          subst hkb
          go_wp2
          go_ret3
          exact ⟨rfl, Below.refl _ _⟩
    · rcases hx with ⟨hka, rfl⟩ | ⟨hka, hkb, rfl⟩
      · omega
      · omega
end Go.Proofs.YtjemolaobhlapaaGreatDoor

namespace Go.Proofs.YtjemolaobhlapaaGreatDoor
open Go.RowKit
set_option maxRecDepth 100000

theorem rRead_num (s : Bool) (n : Nat) (hs : s = true → n ≠ 0) (hd : Lib.nDigits n < 90000) (w : World) :
    Calls Tryz.prog 73 #[.string (bs (numeral s n))] w fun e w' => ∃ v', e = .returned v' ∧ BigR w s n v' w' := by
  have hdl : (Lib.decDigits n).length = Lib.nDigits n := Lib.decDigits_length n
  have hpos := dec_pos n
  cases s
  · have e : numeral false n = Lib.decDigits n := rfl
    rw [e]
    exact read_plain (bs (Lib.decDigits n)) (by rw [bs_size]; exact hpos) (by rw [bs_list]; exact decDigits_dig n) (by rw [bs_size]; omega) n (by rw [bs_list]; exact numOf_dec n) false (by simp) w
  · have e : numeral true n = 45 :: Lib.decDigits n := rfl
    have h0 : 0 < (bs (numeral true n)).size := by rw [bs_size, e]; simp
    refine read_minus (bs (numeral true n)) (bs (Lib.decDigits n)) h0 ?_ ?_ (by rw [bs_list]; exact decDigits_dig n) (by rw [bs_size]; omega) n (by rw [bs_list]; exact numOf_dec n) true (by simp [hs rfl]) w
    · rfl
    · apply bytes_eq
      rw [Lib.extract_to_end, bs_list, e]
      rfl
theorem slash_at {X Y : List UInt8} (hX : 47 ∉ X) (hY : 47 ∉ Y) (k : Nat) (h : k < (bs (X ++ 47 :: Y)).size) : (bs (X ++ 47 :: Y))[k].toNat = 47 ↔ k = X.length := by
  have hl : k < (X ++ 47 :: Y).length := by rwa [bs_size] at h
  show ((X ++ 47 :: Y)[k]'hl).toNat = 47 ↔ k = X.length
  have key : ∀ c : UInt8, c.toNat = 47 ↔ c = 47 := fun c => ⟨fun h => UInt8.toNat_inj.1 (by rw [h]; rfl), fun h => by rw [h]; rfl⟩
  rw [key]
  constructor
  · intro h1
    rcases Nat.lt_trichotomy k X.length with h2 | h2 | h2
    · rw [List.getElem_append_left h2] at h1
      exact absurd (h1 ▸ List.getElem_mem h2) hX
    · exact h2
    · rw [List.getElem_append_right (by omega)] at h1
      obtain ⟨j, hj⟩ : ∃ j, k - X.length = j + 1 := ⟨k - X.length - 1, by omega⟩
      have h3 : (47 :: Y)[k - X.length]? = some 47 := by rw [List.getElem?_eq_getElem (by rw [List.length_append] at hl; omega), h1]
      rw [hj, List.getElem?_cons_succ] at h3
      exact absurd (List.mem_of_getElem? h3) hY
  · rintro rfl
    rw [List.getElem_append_right (Nat.le_refl _)]
    simp
theorem rsplit_app (X Y : List UInt8) (hX : 47 ∉ X) (hY : 47 ∉ Y) (hl : (X ++ 47 :: Y).length < 1000000) (w : World) :
    Calls Tryz.prog 106 #[.string (bs (X ++ 47 :: Y))] w fun e w' => e = .returned (.tuple #[.string (bs X), .string (bs Y), .bool true]) ∧ Below w.heap.size w w' := by
  refine split_one (bs (X ++ 47 :: Y)) (by rw [bs_size]; exact hl) X.length (by rw [bs_size, List.length_append, List.length_cons]; omega) (fun k h => slash_at hX hY k h) (bs X) (bs Y) ?_ ?_ w
  · apply bytes_eq
    rw [Lib.extract_data, bs_list]
    simp
  · apply bytes_eq
    rw [Lib.extract_to_end, bs_list]
    simp
theorem rsplit_not (s : ByteArray) (h : s.data.toList.count 47 ≠ 1) (hsz : s.size < 1000000) (w : World) :
    Calls Tryz.prog 106 #[.string s] w fun e w' => e = .returned (.tuple #[.string ⟨#[]⟩, .string ⟨#[]⟩, .bool false]) ∧ Below w.heap.size w w' := by
  have key : ∀ c : UInt8, c.toNat = 47 ↔ c = 47 := fun c => ⟨fun h => UInt8.toNat_inj.1 (by rw [h]; rfl), fun h => by rw [h]; rfl⟩
  have hel : ∀ k (h : k < s.size), s[k] = s.data.toList[k]'(by rw [← Lib.size_eq]; exact h) := fun k h => rfl
  by_cases h0 : 47 ∈ s.data.toList
  · obtain ⟨X, Z, hl, hX⟩ := List.eq_append_cons_of_mem h0
    by_cases h1 : 47 ∈ Z
    · obtain ⟨Y, V, hl2, hY⟩ := List.eq_append_cons_of_mem h1
      rw [hl2] at hl
      have hs : s.size = X.length + (1 + (Y.length + (1 + V.length))) := by rw [Lib.size_eq, hl]; simp; omega
      refine split_two s hsz X.length (X.length + 1 + Y.length) (by omega) (by omega) (fun k hk hkb => ?_) w
      rw [key, hel k hk]
      have h2 : s.data.toList[k]? = some (s.data.toList[k]'(by rw [← Lib.size_eq]; exact hk)) := List.getElem?_eq_getElem _
      constructor
      · intro h3
        rw [h3, hl] at h2
        rcases Nat.lt_trichotomy k X.length with h4 | h4 | h4
        · rw [List.getElem?_append_left h4] at h2
          exact absurd (List.mem_of_getElem? h2) hX
        · exact Or.inl h4
        · rw [List.getElem?_append_right (by omega)] at h2
          obtain ⟨j, hj⟩ : ∃ j, k - X.length = j + 1 := ⟨k - X.length - 1, by omega⟩
          rw [hj, List.getElem?_cons_succ] at h2
          rcases Nat.lt_or_ge j Y.length with h5 | h5
          · rw [List.getElem?_append_left h5] at h2
            exact absurd (List.mem_of_getElem? h2) hY
          · exact Or.inr (by omega)
      · intro h3
        have h5 : s.data.toList[k]? = some 47 := by
          rw [hl]
          rcases h3 with rfl | rfl
          · rw [List.getElem?_append_right (Nat.le_refl _)]; simp
          · rw [List.getElem?_append_right (by omega), show X.length + 1 + Y.length - X.length = Y.length + 1 by omega, List.getElem?_cons_succ, List.getElem?_append_right (Nat.le_refl _)]; simp
        rw [h5] at h2
        exact (Option.some.inj h2).symm
    · exfalso
      apply h
      rw [hl]
      exact count_app 47 X Z hX h1
  · refine split_none s hsz (fun k hk h2 => ?_) w
    rw [key, hel k hk] at h2
    exact h0 (h2 ▸ List.getElem_mem _)

set_option maxHeartbeats 2000000 in
theorem rCheckReal_form (s : ByteArray) (h : s.data.toList.count 47 ≠ 1) (hsz : s.size < 1000000) (w : World) :
    Calls Tryz.prog 46 #[.string s] w fun e w' => e = .returned (.int .i64 1) ∧ Below w.heap.size w w' := by
  have HS := Lib.hid (rsplit_not s h hsz w)
  clear h hsz
  go_enter Tryz.func46, Tryz.ntmps46
  go_wp2_with (go_at_call 106; refine HS.out.mono ?_; rintro e w1 ⟨rfl, hb1⟩)
  go_ret
  exact ⟨rfl, hb1⟩
theorem firstE_two (a b r : Int) (h : (if a = 0 then b else a) = r) : firstE [a, b] = r := by
  simp only [firstE]
  rw [← h]
  split
  · split
    · rename_i h2; rw [h2]
    · rfl
  · rfl
/-- The errors of two numbers in a block of their own. -/
theorem two_cells {w w1 : World} {a b : Int} (hw : w1 = w.alloc (.cells #[.int .i64 a, .int .i64 b] 3)) : ∀ j, j < ([a, b] : List Int).length → w1.cell? ⟨w.heap.size, j, none⟩ = some (.int .i64 (([a, b] : List Int).getD j 0)) := by
  intro j hj
  subst hw
  match j, hj with
  | 0, _ => exact (BlockIs.new w 3 #[.int .i64 a, .int .i64 b]).at 0
  | 1, _ => exact (BlockIs.new w 3 #[.int .i64 a, .int .i64 b]).at 1
theorem rFirst_two (a b r : Int) (h : (if a = 0 then b else a) = r) (w : World) :
    Calls Tryz.prog 81 #[.slice (some ⟨w.heap.size, 0, none⟩) 2 2] (w.alloc (.cells #[.int .i64 a, .int .i64 b] 3)) fun e w' => e = .returned (.int .i64 r) ∧ w.alloc (.cells #[.int .i64 a, .int .i64 b] 3) = w' :=
  rFirst_any [a, b] w.heap.size _ (by simp) (two_cells rfl) r (firstE_two a b r h)

set_option maxHeartbeats 2000000 in
theorem rCheckReal_err (X Y : List UInt8) (hX : 47 ∉ X) (hY : 47 ∉ Y) (hl : (X ++ 47 :: Y).length < 1000000) (ra rb r : Int) (ha : checkS X = ra) (hb : checkS Y = rb) (hr : (if ra = 0 then rb else ra) = r) (h0 : r ≠ 0) (w : World) :
    Calls Tryz.prog 46 #[.string (bs (X ++ 47 :: Y))] w fun e w' => e = .returned (.int .i64 r) ∧ Below w.heap.size w w' := by
  have HS := Lib.hid (rsplit_app X Y hX hY hl w)
  rw [List.length_append, List.length_cons] at hl
  have HCA := Lib.hid (fun W => rCheck_any (bs X) (by rw [bs_size]; omega) W ra (by rw [bs_list]; exact ha))
  have HCB := Lib.hid (fun W => rCheck_any (bs Y) (by rw [bs_size]; omega) W rb (by rw [bs_list]; exact hb))
  have HF := Lib.hid (fun W => rFirst_two ra rb r hr W)
  have hr0 : (r != 0) = true := by simpa using h0
  obtain ⟨s, hs⟩ : ∃ s, bs (X ++ 47 :: Y) = s := ⟨_, rfl⟩
  obtain ⟨x, hx⟩ : ∃ s, bs X = s := ⟨_, rfl⟩
  obtain ⟨y, hy⟩ : ∃ s, bs Y = s := ⟨_, rfl⟩
  rw [hs, hx, hy] at HS
  rw [hx] at HCA
  rw [hy] at HCB
  rw [hs]
  clear hs hx hy ha hb hr h0 hl hX hY
  go_enter Tryz.func46, Tryz.ntmps46
  go_wp2_with (first | (go_at_call 106; refine HS.out.mono ?_; rintro e w1 ⟨rfl, hb1⟩) | (go_at_call 13; (with_reducible refine (HCA.out _).mono ?_); rintro e w2 ⟨rfl, rfl⟩) | (go_at_call 13; (with_reducible refine (HCB.out _).mono ?_); rintro e w2 ⟨rfl, rfl⟩) | (go_at_call 81; refine (HF.out _).mono ?_; rintro e w3 ⟨rfl, rfl⟩))
  go_ret
  exact ⟨rfl, hb1.alloc hb1.size _⟩
end Go.Proofs.YtjemolaobhlapaaGreatDoor

namespace Go.Proofs.YtjemolaobhlapaaGreatDoor
open Go.RowKit
set_option maxRecDepth 100000

theorem num_ql {s : Bool} {n : Nat} (h : Num s n) : ql n ≤ 31 := by
  have := ql_dig h.short
  omega
theorem num_dig {s : Bool} {n : Nat} (h : Num s n) : Lib.nDigits n < 90000 := by have := h.short; omega
theorem num_len {s : Bool} {n : Nat} (h : Num s n) : (numeral s n).length ≤ 121 := numeral_len h.short
theorem num_first {b : Nat} : ∃ h : 0 < (bs (numeral false b)).size, (bs (numeral false b))[0].toNat ≠ 45 := by
  have h0 : 0 < (bs (numeral false b)).size := by rw [bs_size]; exact dec_pos b
  refine ⟨h0, ?_⟩
  have h1 := isDig_le (decDigits_dig b ((numeral false b)[0]'(by rw [bs_size] at h0; exact h0)) (List.getElem_mem _))
  show ((numeral false b)[0]'(by rw [bs_size] at h0; exact h0)).toNat ≠ 45
  omega
theorem dec_is {n : Nat} {k : Nat} (hk : k < 10) : Lib.decDigits n = [UInt8.ofNat (48 + k)] ↔ n = k := by
  constructor
  · intro h
    have h1 := numOf_dec n
    rw [h] at h1
    rw [← h1]
    show 0 * 10 + _ = _
    rw [digit_byte hk]; omega
  · rintro rfl
    exact decDigits_small hk
theorem str_is {b : Nat} {k : Nat} (hk : k < 10) : ((bs (numeral false b)).toList == [UInt8.ofNat (48 + k)]) = decide (b = k) := by
  rw [Lib.toList_data, bs_list, Bool.eq_iff_iff, decide_eq_true_iff, ← dec_is hk]
  simp [numeral]

set_option maxHeartbeats 4000000 in
theorem rCheckReal_nums (s t : Bool) (a b : Nat) (ha : Num s a) (hb : Num t b) (w : World) (r : Int) (hr : realE t a b = r) :
    Calls Tryz.prog 46 #[.string (bs (ratio s a t b))] w fun e w' => e = .returned (.int .i64 r) ∧ Below w.heap.size w w' := by
  have hla := num_len ha
  have hlb := num_len hb
  have HS := Lib.hid (rsplit_app (numeral s a) (numeral t b) (numeral_no_slash s a) (numeral_no_slash t b) (by rw [List.length_append, List.length_cons]; omega) w)
  have HCA := Lib.hid (fun W => rCheck_any (bs (numeral s a)) (by rw [bs_size]; omega) W 0 (check_numeral ha))
  have HCB := Lib.hid (fun W => rCheck_any (bs (numeral t b)) (by rw [bs_size]; omega) W 0 (check_numeral hb))
  have HF := Lib.hid (fun W => rFirst_two 0 0 0 rfl W)
  have HRA := Lib.hid (fun W => rRead_num s a ha.sign (num_dig ha) W)
  obtain ⟨u, hu⟩ : ∃ u, bs (ratio s a t b) = u := ⟨_, rfl⟩
  obtain ⟨x, hx⟩ : ∃ u, bs (numeral s a) = u := ⟨_, rfl⟩
  rw [show bs (numeral s a ++ 47 :: numeral t b) = u from hu, hx] at HS
  rw [hx] at HCA HRA
  rw [hu]
  clear hu hx hla hlb
  cases t
  · by_cases hb0 : b = 0
    · have hy : ((bs (numeral false b)).toList == [48]) = true := by
        have := str_is (b := b) (k := 0) (by decide)
        rw [decide_eq_true hb0] at this
        exact this
      have HR := Lib.hid (show (1 : Int) = r by rw [← hr]; unfold realE; rw [if_pos (Or.inl hb0)])
      have HW := Lib.hid (fun W => rWhen_any true 1 W r (by rw [← HR.out]; rfl))
      obtain ⟨y, hyy⟩ : ∃ u, bs (numeral false b) = u := ⟨_, rfl⟩
      rw [hyy] at HS HCB hy
      clear hyy hb0 hr ha hb
      go_enter Tryz.func46, Tryz.ntmps46
      go_wp2_with (first | (go_at_call 106; refine HS.out.mono ?_; rintro e w1 ⟨rfl, hb1⟩) | (go_at_call 13; (with_reducible refine (HCA.out _).mono ?_); rintro e w2 ⟨rfl, rfl⟩) | (go_at_call 13; (with_reducible refine (HCB.out _).mono ?_); rintro e w2 ⟨rfl, rfl⟩) | (go_at_call 81; refine (HF.out _).mono ?_; rintro e w3 ⟨rfl, rfl⟩) | (go_at_call 65; refine (HW.out _).mono ?_; rintro e w3 ⟨rfl, rfl⟩))
      go_ret
      exact ⟨rfl, hb1.alloc hb1.size _⟩
    · have hy : ((bs (numeral false b)).toList == [48]) = false := by
        have := str_is (b := b) (k := 0) (by decide)
        rw [decide_eq_false hb0] at this
        exact this
      obtain ⟨hys, hy0⟩ := num_first (b := b)
      have HRB := Lib.hid (fun W => rRead_num false b hb.sign (num_dig hb) W)
      have hrc : ∀ g, Nat.gcd a b = g → (if (!decide (g = 1)) = true then (1 : Int) else 0) = r := by
        intro g hg
        rw [← hr]
        unfold realE
        by_cases h1 : g = 1
        · rw [decide_eq_true h1, if_neg (by simp), if_neg]
          rintro (h | h | h)
          · exact hb0 h
          · cases h
          · exact h (hg.trans h1)
        · rw [decide_eq_false h1, if_pos (by rfl), if_pos (Or.inr (Or.inr (fun h => h1 (hg.symm.trans h))))]
      obtain ⟨g, hg⟩ : ∃ g, Nat.gcd a b = g := ⟨_, rfl⟩
      have HCM := Lib.hid (fun (v u : Value) W (h1 : Mag W v a) (h2 : Mag W u b) => rCommon_any s false a b v u W h1 h2 (by have := num_ql ha; omega) (by have := num_ql hb; omega) g hg)
      have hgl : ql g ≤ 31 := by
        have h1 : g ≤ b := by rw [← hg]; exact Nat.gcd_le_right a (by omega)
        exact Nat.le_trans (ql_mono h1) (num_ql hb)
      have HWR := Lib.hid (fun (v : Value) W (h : Mag W v g) => rWrite_any false g v W h (by omega) (by simp))
      have hz : ((bs (numeral false g)).toList == [49]) = decide (g = 1) := str_is (b := g) (k := 1) (by decide)
      have HW := Lib.hid (fun W => rWhen_any (!decide (g = 1)) 1 W r (hrc g hg))
      obtain ⟨y, hyy⟩ : ∃ u, u = bs (numeral false b) := ⟨_, rfl⟩
      obtain ⟨v, hv⟩ : ∃ u, bs (numeral false g) = u := ⟨_, rfl⟩
      obtain ⟨c, hc⟩ : ∃ c, decide (g = 1) = c := ⟨_, rfl⟩
      have hysy : 0 < y.size := by rw [hyy]; exact hys
      have hy0y : y[0].toNat ≠ 45 := by subst hyy; exact hy0
      rw [← hyy] at HS HCB hy HRB
      rw [hv] at HWR hz
      rw [hc] at hz HW
      obtain ⟨d, hd⟩ : ∃ d : Nat, y[0].toNat = d := ⟨_, rfl⟩
      have hdd : (y[0].toNat : Int) = (d : Int) := by rw [hd]
      have hd45 : ((d : Int) == 45) = false := by rw [beq_eq_false_iff_ne]; rw [hd] at hy0y; omega
      clear hb0 hr ha hb hv hc hgl hg hd hy0y hy0 hys hrc
      clear hyy
      go_enter Tryz.func46, Tryz.ntmps46
      go_wp2_with (first | (go_at_call 106; refine HS.out.mono ?_; rintro e w1 ⟨rfl, hb1⟩) | (go_at_call 13; (with_reducible refine (HCA.out _).mono ?_); rintro e w2 ⟨rfl, rfl⟩) | (go_at_call 13; (with_reducible refine (HCB.out _).mono ?_); rintro e w2 ⟨rfl, rfl⟩) | (go_at_call 81; refine (HF.out _).mono ?_; rintro e w3 ⟨rfl, rfl⟩; have HB3 := Lib.hid (hb1.alloc hb1.size (.cells #[.int .i64 0, .int .i64 0] 3))) | (go_at_call 65; refine (HW.out _).mono ?_; rintro e w3 ⟨rfl, rfl⟩) | (go_at_call 73; (with_reducible refine (HRA.out _).mono ?_); rintro e w4 ⟨v4, rfl, p4, k4, rfl, hm4, hb4⟩; have HM4 := Lib.hid hm4; have HB4 := Lib.hid (HB3.out.trans (hb4.mono HB3.out.size)); clear hm4 hb4) | (go_at_call 73; (with_reducible refine (HRB.out _).mono ?_); rintro e w5 ⟨v5, rfl, p5, k5, rfl, hm5, hb5⟩; have HM5 := Lib.hid hm5; have HM45 := Lib.hid (HM4.out.below hb5); have HB5 := Lib.hid (HB4.out.trans (hb5.mono HB4.out.size)); clear hm5 hb5) | (go_at_call 93; refine (HCM.out _ _ _ HM45.out HM5.out).mono ?_; rintro e w6 ⟨v6, rfl, p6, k6, rfl, hm6, hb6⟩; have HM6 := Lib.hid hm6; have HB6 := Lib.hid (HB5.out.trans (hb6.mono HB5.out.size)); clear hm6 hb6) | (go_at_call 67; refine (HWR.out _ _ HM6.out).mono ?_; rintro e w7 ⟨rfl, hb7⟩; have HB7 := Lib.hid (HB6.out.trans (hb7.mono HB6.out.size)); clear hb7))
      go_ret
      exact ⟨rfl, HB7.out⟩
  · have hy : ((bs (numeral true b)).toList == [48]) = false := by
      rw [Lib.toList_data, bs_list]
      rfl
    have hys : 0 < (bs (numeral true b)).size := by rw [bs_size]; simp [numeral]
    have hy0 : ((bs (numeral true b))[0].toNat : Int) = 45 := rfl
    have HR := Lib.hid (show (1 : Int) = r by rw [← hr]; unfold realE; rw [if_pos (Or.inr (Or.inl rfl))])
    have HW := Lib.hid (fun W => rWhen_any true 1 W r (by rw [← HR.out]; rfl))
    obtain ⟨y, hyy⟩ : ∃ u, u = bs (numeral true b) := ⟨_, rfl⟩
    have hysy : 0 < y.size := by rw [hyy]; exact hys
    have hy0y : (y[0].toNat : Int) = 45 := by subst hyy; exact hy0
    rw [← hyy] at HS HCB hy
    clear hr ha hb hy0 hys
    clear hyy
    go_enter Tryz.func46, Tryz.ntmps46
    go_wp2_with (first | (go_at_call 106; refine HS.out.mono ?_; rintro e w1 ⟨rfl, hb1⟩) | (go_at_call 13; (with_reducible refine (HCA.out _).mono ?_); rintro e w2 ⟨rfl, rfl⟩) | (go_at_call 13; (with_reducible refine (HCB.out _).mono ?_); rintro e w2 ⟨rfl, rfl⟩) | (go_at_call 81; refine (HF.out _).mono ?_; rintro e w3 ⟨rfl, rfl⟩) | (go_at_call 65; refine (HW.out _).mono ?_; rintro e w3 ⟨rfl, rfl⟩))
    go_ret
    exact ⟨rfl, hb1.alloc hb1.size _⟩
end Go.Proofs.YtjemolaobhlapaaGreatDoor
