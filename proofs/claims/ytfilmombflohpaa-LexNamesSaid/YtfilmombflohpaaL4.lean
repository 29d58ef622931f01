/- The rules of tokens: a word, a keyword, a name, an underscore, numbers. -/
import Derived.Test.YtfilmombflohpaaL3
set_option linter.unusedSimpArgs false
set_option linter.unusedVariables false
namespace Go.Proofs.Ytfilmombflohpaa
open Go.RowKit Go.ChangeMaps Go.WideMaps
set_option maxRecDepth 100000

theorem wordL_le (l : List UInt8) : (wordL l).length ≤ l.length := by
  unfold wordL; split
  · simp
  · split
    · rw [List.length_take]; exact Nat.min_le_right _ _
    · simp

theorem ret_pair {a b : Int} {p : Int × Int} (h : p = (a, b)) : Ending.returned (.tuple #[.int .i64 a, .int .i64 b]) = .returned (.tuple #[.int .i64 p.1, .int .i64 p.2]) := by rw [h]

def keywordI (kw : List (List UInt8)) (l : List UInt8) : Int × Int := if isKeywordL kw (wordL l) then ((wordL l).length, 0) else (0, 0)

set_option maxHeartbeats 400000 in
theorem keyword_any (s : ByteArray) (kb sb : Nat) (kw : List (List UInt8)) (w : World) (hs : s.size ≤ maxLen) (hk : SetAt w kb kw) :
    Calls Try.prog 76 #[scan kb sb, .string s] w fun e w' => e = .returned (.tuple #[.int .i64 (keywordI kw s.data.toList).1, .int .i64 (keywordI kw s.data.toList).2]) ∧ Below w.heap.size w w' := by
  have hk1 : SetAt (w.alloc (.cells #[.map (some kb), .map (some sb)] 58)) kb kw := hk.below ((Below.refl _ w).alloc (Nat.le_refl _) _) hk.lt
  have hle := wordL_le s.data.toList
  rw [← Lib.size_eq] at hle
  have hms := hs
  unfold maxLen at hms
  have HW := Lib.hid (word_any s (w.alloc (.cells #[.map (some kb), .map (some sb)] 58)) hs)
  obtain ⟨d, hd⟩ : ∃ d, wordL s.data.toList = d := ⟨_, rfl⟩
  have HK : Hid (keywordI kw s.data.toList = if isKeywordL kw d then ((d.length : Int), (0 : Int)) else (0, 0)) := by show _ = _; unfold keywordI; rw [hd]
  rw [hd] at HW hle
  clear hd hk
  have hx : (mk d).size ≤ maxLen := by unfold maxLen; rw [size_of_list]; omega
  have HI := Lib.hid (isKeyword_any (mk d) kb sb kw _ hx hk1)
  clear hk1
  go_enter Try.func76, Try.ntmps76
  go_wp2_with (first | (go_at_call 92; refine HW.out.mono ?_; rintro e w' ⟨rfl, rfl⟩) | (go_at_call 93; refine HI.out.mono ?_; rintro e w1 ⟨rfl, hb⟩))
  all_goals
    go_ret2
    refine ⟨ret_pair ?_, ?_⟩
    · rw [HK.out]; simp_all [mk]
    · exact ((Below.refl _ w).alloc (Nat.le_refl _) _).trans (hb.mono (by simp))

def nameI (l : List UInt8) : Int × Int := if 24 < (wordL l).length then (0, 6) else ((wordL l).length, 0)

set_option maxHeartbeats 400000 in
theorem name_any (s : ByteArray) (kb sb : Nat) (w : World) (hs : s.size ≤ maxLen) :
    Calls Try.prog 77 #[scan kb sb, .string s] w fun e w' => e = .returned (.tuple #[.int .i64 (nameI s.data.toList).1, .int .i64 (nameI s.data.toList).2]) ∧ Below w.heap.size w w' := by
  have hle := wordL_le s.data.toList
  rw [← Lib.size_eq] at hle
  have hms := hs
  unfold maxLen at hms
  have HW := Lib.hid (word_any s (w.alloc (.cells #[.map (some kb), .map (some sb)] 58)) hs)
  obtain ⟨d, hd⟩ : ∃ d, wordL s.data.toList = d := ⟨_, rfl⟩
  have HK : Hid (nameI s.data.toList = if 24 < d.length then ((0 : Int), (6 : Int)) else ((d.length : Int), 0)) := by show _ = _; unfold nameI; rw [hd]
  rw [hd] at HW hle
  clear hd
  go_enter Try.func77, Try.ntmps77
  go_wp2_with (go_at_call 92; refine HW.out.mono ?_; rintro e w' ⟨rfl, rfl⟩)
  all_goals
    go_ret2
    refine ⟨ret_pair ?_, ?_⟩
    · rw [HK.out]; first | rw [if_pos (by omega)] | rw [if_neg (by omega)]
    · exact (Below.refl _ w).alloc (Nat.le_refl _) _

def underscoreI (l : List UInt8) : Int × Int := if hdI l = 95 then (1, 0) else (0, 0)

set_option maxHeartbeats 400000 in
theorem underscore_any (s : ByteArray) (kb sb : Nat) (w : World) (hs : s.size ≤ maxLen) (h0 : 0 < s.size) :
    Calls Try.prog 78 #[scan kb sb, .string s] w fun e w' => e = .returned (.tuple #[.int .i64 (underscoreI s.data.toList).1, .int .i64 (underscoreI s.data.toList).2]) ∧ Below w.heap.size w w' := by
  have hms := hs
  unfold maxLen at hms
  have HH := Lib.hid (hdI_cons h0)
  go_enter Try.func78, Try.ntmps78
  go_wp2
  all_goals
    go_ret2
    refine ⟨ret_pair ?_, (Below.refl _ w).alloc (Nat.le_refl _) _⟩
    have hh := HH.out
    try simp only [beq_iff_eq, beq_eq_false_iff_ne, ne_eq] at *
    unfold underscoreI
    rw [hh]
    first | rw [if_pos (by omega)] | rw [if_neg (by omega)]

def numberI (l : List UInt8) : Int × Int := checkDigitsI l (countL isDigitI l) (countL isDigitI l)

set_option maxHeartbeats 400000 in
theorem number_any (s : ByteArray) (kb sb : Nat) (w : World) (hs : s.size ≤ maxLen) (h0 : 0 < s.size) :
    Calls Try.prog 80 #[scan kb sb, .string s] w fun e w' => e = .returned (.tuple #[.int .i64 (numberI s.data.toList).1, .int .i64 (numberI s.data.toList).2]) ∧ Below w.heap.size w w' := by
  have hms := hs
  unfold maxLen at hms
  have hle := countL_le isDigitI s.data.toList
  rw [← Lib.size_eq] at hle
  have HC := Lib.hid (checkDigits_any s (countL isDigitI s.data.toList) (countL isDigitI s.data.toList) (w.alloc (.cells #[.map (some kb), .map (some sb)] 58)) hs h0 (by omega) (by omega))
  go_enter Try.func80, Try.ntmps80
  go_wp2_with (first | (go_at_call 62; refine (countDigits_any _ _ hs).mono ?_; rintro e w' ⟨rfl, rfl⟩) | (go_at_call 94; refine HC.out.mono ?_; rintro e w' ⟨rfl, rfl⟩))
  go_ret2
  exact ⟨rfl, (Below.refl _ w).alloc (Nat.le_refl _) _⟩

def decimalI (l : List UInt8) : Int × Int :=
  let n := countL isDigitI l
  let m := countL isDigitI (Lib.trimPrefix (l.drop n) [46])
  if n = 0 ∨ Lib.hasPrefix (l.drop n) [46] = false ∨ m = 0 then (0, 0) else checkDigitsI l n (n + 1 + m)

set_option maxHeartbeats 400000 in
theorem decimal_any (s : ByteArray) (kb sb : Nat) (w : World) (hs : s.size ≤ maxLen) (h0 : 0 < s.size) :
    Calls Try.prog 79 #[scan kb sb, .string s] w fun e w' => e = .returned (.tuple #[.int .i64 (decimalI s.data.toList).1, .int .i64 (decimalI s.data.toList).2]) ∧ Below w.heap.size w w' := by
  have hms := hs
  unfold maxLen at hms
  have hle := countL_le isDigitI s.data.toList
  rw [← Lib.size_eq] at hle
  have hxl := Lib.extract_to_end s (countL isDigitI s.data.toList)
  have HC := Lib.hid (Try.strings_CutPrefix (s.extract (countL isDigitI s.data.toList) s.size) ⟨#[46]⟩ (w.alloc (.cells #[.map (some kb), .map (some sb)] 58)))
  rw [hxl, show (⟨#[46]⟩ : ByteArray).data.toList = [46] from rfl] at HC
  have HN := Lib.hid (countDigits_any s (w.alloc (.cells #[.map (some kb), .map (some sb)] 58)) hs)
  obtain ⟨n, hn⟩ : ∃ n, countL isDigitI s.data.toList = n := ⟨_, rfl⟩
  rw [hn] at hle hxl HC HN
  obtain ⟨d, hd⟩ : ∃ d, Lib.trimPrefix (s.data.toList.drop n) [46] = d := ⟨_, rfl⟩
  obtain ⟨f, hf⟩ : ∃ f, Lib.hasPrefix (s.data.toList.drop n) [46] = f := ⟨_, rfl⟩
  have hdl : f = true → n + 1 + d.length = s.size := by
    intro e
    rw [← hd]; unfold Lib.trimPrefix; rw [hf, if_pos e]
    have := Lib.size_eq s
    have h1 : Lib.hasPrefix (s.data.toList.drop n) [46] = true := hf.trans e
    have h2 : 0 < (s.data.toList.drop n).length := by
      cases hx : s.data.toList.drop n with
      | nil => rw [hx] at h1; cases h1
      | cons => simp
    simp at h2 ⊢; omega
  have hdl2 : d.length ≤ s.size := by rw [← hd]; unfold Lib.trimPrefix; have := Lib.size_eq s; split <;> simp <;> omega
  have HD : Hid (decimalI s.data.toList = if n = 0 ∨ f = false ∨ countL isDigitI d = 0 then (0, 0) else checkDigitsI s.data.toList n (n + 1 + countL isDigitI d)) := by
    show _ = _; unfold decimalI; simp only [hn, hd, hf]
  rw [hd, hf] at HC
  have hx : (mk d).size ≤ maxLen := by unfold maxLen; rw [size_of_list]; omega
  have HG := Lib.hid (countDigits_any (mk d) (w.alloc (.cells #[.map (some kb), .map (some sb)] 58)) hx)
  rw [show (mk d).data.toList = d from rfl] at HG
  have hcd := countL_le isDigitI d
  clear hn hd hf hxl
  cases f
  · go_enter Try.func79, Try.ntmps79
    go_wp2_with (first | (go_at_call 61; refine HC.out.mono ?_; rintro e w' ⟨rfl, rfl⟩) | (go_at_call 62; (first | (with_reducible refine HN.out.mono ?_) | (with_reducible refine HG.out.mono ?_)); rintro e w' ⟨rfl, rfl⟩))
    all_goals
      go_ret2
      exact ⟨ret_pair (by rw [HD.out, if_pos (by simp)]), (Below.refl _ w).alloc (Nat.le_refl _) _⟩
  · have hdl3 := hdl rfl
    clear hdl
    have HE := Lib.hid (checkDigits_any s n (n + 1 + countL isDigitI d) (w.alloc (.cells #[.map (some kb), .map (some sb)] 58)) hs h0 (by omega) (by omega))
    have hb1 : n + 1 + d.length ≤ s.size := by omega
    have hb2 : n + 1 + countL isDigitI d ≤ s.size := by omega
    clear hdl3
    have HD2 : Hid (decimalI s.data.toList = if n = 0 ∨ countL isDigitI d = 0 then (0, 0) else checkDigitsI s.data.toList n (n + 1 + countL isDigitI d)) := by show _ = _; rw [HD.out]; simp
    clear HD
    go_enter Try.func79, Try.ntmps79
    go_wp2_with (first | (go_at_call 61; refine HC.out.mono ?_; rintro e w' ⟨rfl, rfl⟩) | (go_at_call 94; (with_reducible refine HE.out.mono ?_); rintro e w' ⟨rfl, rfl⟩) | (go_at_call 62; (first | (with_reducible refine HN.out.mono ?_) | (with_reducible refine HG.out.mono ?_)); rintro e w' ⟨rfl, rfl⟩))
    all_goals
      go_ret2
      refine ⟨ret_pair ?_, (Below.refl _ w).alloc (Nat.le_refl _) _⟩
      try simp only [beq_iff_eq, beq_eq_false_iff_ne, ne_eq] at *
      rw [HD2.out]
      first | rw [if_pos (by omega)] | rw [if_neg (by omega)]
end Go.Proofs.Ytfilmombflohpaa
