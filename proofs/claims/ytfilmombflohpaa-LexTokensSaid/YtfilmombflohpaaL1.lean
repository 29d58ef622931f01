/- The leaf functions of lex: what each call returns. -/
import Derived.Test.YtfilmombflohpaaRows
import Derived.Test.YtfilmombflohpaaShelf
import Derived.WalkKit
import Derived.WalkSpells
import Derived.WalkLawsBesides
import Derived.Lib.Hide
set_option linter.unusedSimpArgs false
set_option linter.unusedVariables false
namespace Go.Proofs.Ytfilmombflohpaa
open Go.RowKit

def isDigitI (c : Int) : Bool := decide (48 ≤ c) && decide (c ≤ 57)
def isLetterI (c : Int) : Bool := (decide (97 ≤ c) && decide (c ≤ 122)) || (decide (65 ≤ c) && decide (c ≤ 90))
def isPartI (c : Int) : Bool := isLetterI c || isDigitI c || c == 95

theorem ret_bool {a b : Bool} (h : a = b) : Ending.returned (.bool a) = .returned (.bool b) := by rw [h]
theorem ret_int {k : IntKind} {a b : Int} (h : a = b) : Ending.returned (.int k a) = .returned (.int k b) := by rw [h]

set_option maxHeartbeats 400000 in
theorem isDigit_any (c : Int) (w : World) :
    Calls Try.prog 85 #[.int .u8 c] w fun e w' => e = .returned (.bool (isDigitI c)) ∧ w = w' := by
  go_enter Try.func85, Try.ntmps85
  go_wp2
  all_goals
    go_ret
    exact ⟨ret_bool (by simp [isDigitI]; omega), rfl⟩

set_option maxHeartbeats 400000 in
theorem isLetter_any (c : Int) (w : World) :
    Calls Try.prog 60 #[.int .u8 c] w fun e w' => e = .returned (.bool (isLetterI c)) ∧ w = w' := by
  go_enter Try.func60, Try.ntmps60
  go_wp2
  all_goals
    go_ret
    exact ⟨ret_bool (by rw [Bool.eq_iff_iff]; simp [isLetterI]; omega), rfl⟩

set_option maxHeartbeats 400000 in
theorem isPart_any (c : Int) (w : World) :
    Calls Try.prog 59 #[.int .u8 c] w fun e w' => e = .returned (.bool (isPartI c)) ∧ w = w' := by
  go_enter Try.func59, Try.ntmps59
  go_wp2_with (first | (go_at_call 60; refine (isLetter_any _ _).mono ?_; rintro e w' ⟨rfl, rfl⟩) | (go_at_call 85; refine (isDigit_any _ _).mono ?_; rintro e w' ⟨rfl, rfl⟩))
  all_goals
    go_ret
    exact ⟨ret_bool (by simp [isPartI, *]), rfl⟩

/-- How many bytes at the start meet a condition. -/
def countL (p : Int → Bool) : List UInt8 → Nat
  | [] => 0
  | c :: r => if p (c.toNat : Int) then countL p r + 1 else 0

theorem countL_le (p : Int → Bool) : ∀ l, countL p l ≤ l.length
  | [] => Nat.le_refl _
  | c :: r => by unfold countL; split <;> simp [countL_le p r]

theorem drop_cons (s : ByteArray) (k : Nat) (h : k < s.size) : s.data.toList.drop k = s[k] :: s.data.toList.drop (k + 1) := by
  rw [List.drop_eq_getElem_cons (by simpa using h)]; rfl

theorem countL_step (p : Int → Bool) (s : ByteArray) (k : Nat) (h : k < s.size) : countL p (s.data.toList.drop k) = if p (s[k].toNat : Int) then countL p (s.data.toList.drop (k + 1)) + 1 else 0 := by
  rw [drop_cons s k h]; rfl

theorem countL_end (p : Int → Bool) (s : ByteArray) (k : Nat) (h : s.size ≤ k) : countL p (s.data.toList.drop k) = 0 := by
  rw [List.drop_eq_nil_of_le (by simpa using h)]; rfl


theorem countL_yes {p : Int → Bool} {s : ByteArray} {k : Nat} (h : k < s.size) (hp : p (s[k].toNat : Int) = true) (hc : countL p s.data.toList = k + countL p (s.data.toList.drop k)) : countL p s.data.toList = (k + 1) + countL p (s.data.toList.drop (k + 1)) := by
  rw [hc, countL_step p s k h, if_pos hp]; omega
theorem countL_no {p : Int → Bool} {s : ByteArray} {k : Nat} (h : k < s.size) (hp : p (s[k].toNat : Int) = false) (hc : countL p s.data.toList = k + countL p (s.data.toList.drop k)) : k = countL p s.data.toList := by
  rw [hc, countL_step p s k h, if_neg (by simp [hp])]; omega
theorem countL_out {p : Int → Bool} {s : ByteArray} {k : Nat} (h : s.size ≤ k) (hc : countL p s.data.toList = k + countL p (s.data.toList.drop k)) : k = countL p s.data.toList := by
  rw [hc, countL_end p s k h]; omega

set_option maxHeartbeats 400000 in
theorem count_isPart (s : ByteArray) (w : World) (hs : s.size ≤ maxLen) :
    Calls Try.prog 87 #[.string s, .func (.func 59) #[] #[]] w fun e w' => e = .returned (.int .i64 (countL isPartI s.data.toList)) ∧ w = w' := by
  unfold maxLen at hs
  go_enter Try.func87, Try.ntmps87
  go_wp2
  go_loop [5] (fun n => ∃ k : Nat, k ≤ s.size ∧ n = .int .i64 k ∧ Hid (countL isPartI s.data.toList = k + countL isPartI (s.data.toList.drop k))) (fun n => s.size - (intOf n).toNat)
  case atStart => exact ⟨0, Nat.zero_le _, rfl, show _ = _ by simp⟩
  case round =>
    obtain ⟨k, hk, rfl, hc⟩ := hrel
    by_cases hlt : k < s.size
    · go_wp2_with (go_at_call 59; refine (isPart_any _ _).mono ?_; rintro e w' ⟨rfl, rfl⟩)
      · go_round
        case rel => exact ⟨k + 1, by omega, by go_num, countL_yes hlt (by assumption) hc.out⟩
        case measure => simp [intOf]; omega
      · go_ret
        exact ⟨ret_int (by rw [← countL_no hlt (by assumption) hc.out]), rfl⟩
    · go_wp2
      go_ret
      exact ⟨ret_int (by rw [← countL_out (by omega) hc.out]), rfl⟩

set_option maxHeartbeats 400000 in
theorem count_isDigit (s : ByteArray) (w : World) (hs : s.size ≤ maxLen) :
    Calls Try.prog 87 #[.string s, .func (.func 85) #[] #[]] w fun e w' => e = .returned (.int .i64 (countL isDigitI s.data.toList)) ∧ w = w' := by
  unfold maxLen at hs
  go_enter Try.func87, Try.ntmps87
  go_wp2
  go_loop [5] (fun n => ∃ k : Nat, k ≤ s.size ∧ n = .int .i64 k ∧ Hid (countL isDigitI s.data.toList = k + countL isDigitI (s.data.toList.drop k))) (fun n => s.size - (intOf n).toNat)
  case atStart => exact ⟨0, Nat.zero_le _, rfl, show _ = _ by simp⟩
  case round =>
    obtain ⟨k, hk, rfl, hc⟩ := hrel
    by_cases hlt : k < s.size
    · go_wp2_with (go_at_call 85; refine (isDigit_any _ _).mono ?_; rintro e w' ⟨rfl, rfl⟩)
      · go_round
        case rel => exact ⟨k + 1, by omega, by go_num, countL_yes hlt (by assumption) hc.out⟩
        case measure => simp [intOf]; omega
      · go_ret
        exact ⟨ret_int (by rw [← countL_no hlt (by assumption) hc.out]), rfl⟩
    · go_wp2
      go_ret
      exact ⟨ret_int (by rw [← countL_out (by omega) hc.out]), rfl⟩

set_option maxHeartbeats 400000 in
theorem countParts_any (s : ByteArray) (w : World) (hs : s.size ≤ maxLen) :
    Calls Try.prog 103 #[.string s] w fun e w' => e = .returned (.int .i64 (countL isPartI s.data.toList)) ∧ w = w' := by
  go_enter Try.func103, Try.ntmps103
  go_wp2_with (go_at_call 87; refine (count_isPart _ _ hs).mono ?_; rintro e w' ⟨rfl, rfl⟩)
  go_ret
  exact ⟨rfl, rfl⟩

set_option maxHeartbeats 400000 in
theorem countDigits_any (s : ByteArray) (w : World) (hs : s.size ≤ maxLen) :
    Calls Try.prog 62 #[.string s] w fun e w' => e = .returned (.int .i64 (countL isDigitI s.data.toList)) ∧ w = w' := by
  go_enter Try.func62, Try.ntmps62
  go_wp2_with (go_at_call 87; refine (count_isDigit _ _ hs).mono ?_; rintro e w' ⟨rfl, rfl⟩)
  go_ret
  exact ⟨rfl, rfl⟩

/-- Bytes as a string. -/
abbrev mk (l : List UInt8) : ByteArray := ⟨l.toArray⟩

/-- The word at the start. -/
def wordL (l : List UInt8) : List UInt8 :=
  match l with
  | [] => []
  | c :: _ => if isLetterI (c.toNat : Int) then l.take (countL isPartI l) else []

theorem ret_str {a b : ByteArray} (h : a.data.toList = b.data.toList) : Ending.returned (.string a) = .returned (.string b) := by
  have : a = b := by cases a; cases b; simp at h; simp [h]
  rw [this]

theorem empty_t {s : ByteArray} (h : ¬ 0 < s.size) : s.toList.isEmpty = true := by
  rw [Lib.toList_data]; have := Lib.size_eq s; rw [List.isEmpty_iff]; exact List.eq_nil_of_length_eq_zero (by omega)
theorem empty_f {s : ByteArray} (h : 0 < s.size) : s.toList.isEmpty = false := by
  rw [Lib.toList_data]; have := Lib.size_eq s; cases hd : s.data.toList <;> simp_all
theorem nil_t {s : ByteArray} (h : ¬ 0 < s.size) : s.data.toList = [] := by
  have := Lib.size_eq s; exact List.eq_nil_of_length_eq_zero (by omega)
theorem head_cons {s : ByteArray} (h : 0 < s.size) : s.data.toList = s[0] :: s.data.toList.drop 1 := by
  have := drop_cons s 0 h; simpa using this

theorem wordL_yes {s : ByteArray} (h : 0 < s.size) (hl : isLetterI (s[0].toNat : Int) = true) : wordL s.data.toList = s.data.toList.take (countL isPartI s.data.toList) := by
  rw [head_cons h]; simp [wordL, hl]
theorem wordL_no {s : ByteArray} (h : 0 < s.size) (hl : isLetterI (s[0].toNat : Int) = false) : wordL s.data.toList = [] := by
  rw [head_cons h]; simp [wordL, hl]

set_option maxHeartbeats 400000 in
theorem word_any (s : ByteArray) (w : World) (hs : s.size ≤ maxLen) :
    Calls Try.prog 92 #[.string s] w fun e w' => e = .returned (.string (mk (wordL s.data.toList))) ∧ w = w' := by
  have hms := hs
  unfold maxLen at hms
  by_cases h0 : 0 < s.size
  · have hcl := countL_le isPartI s.data.toList
    rw [← Lib.size_eq] at hcl
    have he := empty_f h0
    by_cases hl : isLetterI (s[0].toNat : Int) = true
    · have HW := Lib.hid (wordL_yes h0 hl)
      go_enter Try.func92, Try.ntmps92
      go_wp2_with (first | (go_at_call 60; refine (isLetter_any _ _).mono ?_; rintro e w' ⟨rfl, rfl⟩) | (go_at_call 103; refine (countParts_any _ _ hs).mono ?_; rintro e w' ⟨rfl, rfl⟩))
      go_ret
      exact ⟨ret_str (by rw [HW.out, Lib.extract_data]; simp), rfl⟩
    · have hl' : isLetterI (s[0].toNat : Int) = false := by simpa using hl
      have HW := Lib.hid (wordL_no h0 hl')
      clear hl
      go_enter Try.func92, Try.ntmps92
      go_wp2_with (first | (go_at_call 60; refine (isLetter_any _ _).mono ?_; rintro e w' ⟨rfl, rfl⟩) | (go_at_call 103; refine (countParts_any _ _ hs).mono ?_; rintro e w' ⟨rfl, rfl⟩))
      go_ret
      exact ⟨ret_str (by rw [HW.out]), rfl⟩
  · have he := empty_t h0
    have hn := Lib.hid (nil_t h0)
    go_enter Try.func92, Try.ntmps92
    go_wp2
    go_ret
    exact ⟨ret_str (by rw [hn.out]; rfl), rfl⟩

/-- An upper-case letter at the start. -/
def isUpperL : List UInt8 → Bool
  | [] => false
  | c :: _ => decide (65 ≤ (c.toNat : Int)) && decide ((c.toNat : Int) ≤ 90)
theorem isUpperL_cons {s : ByteArray} (h : 0 < s.size) : isUpperL s.data.toList = (decide (65 ≤ (s[0].toNat : Int)) && decide ((s[0].toNat : Int) ≤ 90)) := by
  rw [head_cons h]; rfl

set_option maxHeartbeats 400000 in
theorem isUpper_any (s : ByteArray) (w : World) (hs : s.size ≤ maxLen) :
    Calls Try.prog 38 #[.string s] w fun e w' => e = .returned (.bool (isUpperL s.data.toList)) ∧ w = w' := by
  unfold maxLen at hs
  by_cases h0 : 0 < s.size
  · have he := empty_f h0
    have HW := Lib.hid (isUpperL_cons h0)
    go_enter Try.func38, Try.ntmps38
    go_wp2
    all_goals
      go_ret
      exact ⟨ret_bool (by rw [HW.out]; simp; omega), rfl⟩
  · have he := empty_t h0
    have hn := Lib.hid (nil_t h0)
    go_enter Try.func38, Try.ntmps38
    go_wp2
    go_ret
    exact ⟨ret_bool (by rw [hn.out]; rfl), rfl⟩

/-- The first byte, or -1. -/
def hdI : List UInt8 → Int
  | [] => -1
  | c :: _ => c.toNat
theorem hdI_cons {s : ByteArray} (h : 0 < s.size) : hdI s.data.toList = (s[0].toNat : Int) := by
  rw [head_cons h]; rfl
theorem take_rest (s : ByteArray) (n : Nat) : List.take (s.size - n) (List.drop n s.data.toList) = List.drop n s.data.toList := by
  rw [List.take_of_length_le]; simp

/-- What checkDigits answers. -/
def checkDigitsI (l : List UInt8) (whole size : Int) : Int × Int :=
  if (1 < whole ∧ hdI l = 48) ∨ (0 < size ∧ 0 < countL isPartI (l.drop size.toNat)) then (0, 22) else (size, 0)

theorem ret_two {k j : IntKind} {a b : Int} {p : Int × Int} (h : p = (a, b)) : Ending.returned (.tuple #[.int k a, .int j b]) = .returned (.tuple #[.int k p.1, .int j p.2]) := by rw [h]

set_option maxHeartbeats 400000 in
theorem checkDigits_any (s : ByteArray) (whole size : Int) (w : World) (hs : s.size ≤ maxLen) (h0 : 0 < s.size) (h2 : 0 ≤ size) (h3 : size ≤ s.size) :
    Calls Try.prog 94 #[.string s, .int .i64 whole, .int .i64 size] w fun e w' => e = .returned (.tuple #[.int .i64 (checkDigitsI s.data.toList whole size).1, .int .i64 (checkDigitsI s.data.toList whole size).2]) ∧ w = w' := by
  have hms := hs
  unfold maxLen at hms
  obtain ⟨n, rfl⟩ := Int.eq_ofNat_of_zero_le h2
  have hx : (s.extract n s.size).size ≤ maxLen := by unfold maxLen; simp; omega
  have HH := Lib.hid (hdI_cons h0)
  have HT := Lib.hid (take_rest s n)
  go_enter Try.func94, Try.ntmps94
  go_wp2_with (go_at_call 103; refine (countParts_any _ _ hx).mono ?_; rintro e w' ⟨rfl, rfl⟩)
  all_goals
    go_ret2
    refine ⟨ret_two ?_, rfl⟩
    have hh := HH.out
    have ht := HT.out
    simp only [ht, beq_iff_eq, beq_eq_false_iff_ne, ne_eq] at *
    unfold checkDigitsI
    rw [hh, Int.toNat_natCast]
    first | rw [if_pos (by omega)] | rw [if_neg (by omega)]
end Go.Proofs.Ytfilmombflohpaa
