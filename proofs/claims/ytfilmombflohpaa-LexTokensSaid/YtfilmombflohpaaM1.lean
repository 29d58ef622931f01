/- The reading of a token, plain: blanks and gaps, signs, words, numbers. -/
import Derived.Lib.IndexMore
import Derived.Lib.IndexLaws
import Derived.Lib.IndexBytes
import Derived.Test.YtfilmombflohpaaL25
import Derived.Test.YtfilmombflohpaaR3
set_option linter.unusedSimpArgs false
set_option linter.unusedVariables false
namespace Go.Proofs.Ytfilmombflohpaa
open Go.RowKit Go.ChangeMaps Go.WideMaps
set_option maxRecDepth 100000

theorem isSpaceI_eq (c : UInt8) : isSpaceI c = isSp (c.toNat : Int) := by
  have h : ∀ n, n < 256 → isSpaceI (UInt8.ofNat n) = isSp (n : Int) := by decide +kernel
  have := h c.toNat c.toNat_lt
  rwa [UInt8.ofNat_toNat] at this

theorem idx_nl : ∀ l : List UInt8, Lib.index l [10] = if countL notNl l = l.length then -1 else (countL notNl l : Int)
  | [] => rfl
  | c :: r => by
    have ih := idx_nl r
    have hle := countL_le notNl r
    by_cases hc : c = 10
    · subst hc
      simp [Lib.index, List.isPrefixOf, countL, notNl]
    · have hb : notNl (c.toNat : Int) = true := by
        unfold notNl
        simp only [bne_iff_ne, ne_eq]
        intro h
        exact hc (by rw [← UInt8.toNat_inj]; exact Int.ofNat.inj h)
      have hp : List.isPrefixOf [10] (c :: r) = false := by
        simp only [List.isPrefixOf, Bool.and_true, beq_eq_false_iff_ne, ne_eq]
        exact fun h => hc h.symm
      rw [Lib.index, hp, ih]
      simp only [countL, hb, if_true, List.length_cons]
      by_cases he : countL notNl r = r.length
      · simp [he]
      · have hq : ((countL notNl r : Int) == -1) = false := by simp only [beq_eq_false_iff_ne, ne_eq]; omega
        have h3 : ¬ countL notNl r + 1 = r.length + 1 := by omega
        rw [if_neg he, hq, if_neg h3]
        simp only [Bool.false_eq_true, if_false]
        omega

theorem cut_nl (l : List UInt8) : (Lib.cut l [10]).1.length = countL notNl l := by
  have hle := countL_le notNl l
  unfold Lib.cut
  rw [idx_nl]
  by_cases he : countL notNl l = l.length
  · simp [he]
  · rw [if_neg he, if_pos (by omega)]
    simp only [List.length_take]
    omega

theorem blankL_ge (l : List UInt8) : -1 ≤ blankL l := by
  match l with
  | [] => simp [blankL]
  | [c] => simp only [blankL]; split <;> omega
  | c :: d :: r =>
    have := Lib.index_ge r [42, 47]
    simp only [blankL]
    split
    · omega
    · split
      · omega
      · split
        · omega
        · split
          · omega
          · split <;> omega

theorem u8_47 {c : UInt8} : (c.toNat : Int) = 47 ↔ c = 47 := ⟨fun h => by rw [← UInt8.toNat_inj]; exact Int.ofNat.inj h, fun h => by rw [h]; rfl⟩
theorem u8_42 {c : UInt8} : (c.toNat : Int) = 42 ↔ c = 42 := ⟨fun h => by rw [← UInt8.toNat_inj]; exact Int.ofNat.inj h, fun h => by rw [h]; rfl⟩

theorem pre2 (a b c d : UInt8) (r : List UInt8) : Lib.hasPrefix (c :: d :: r) [a, b] = (decide (c = a) && decide (d = b)) := by
  rw [Bool.eq_iff_iff]
  simp only [Lib.hasPrefix, List.isPrefixOf, Bool.and_true, Bool.and_eq_true, beq_iff_eq, decide_eq_true_eq]
  exact ⟨fun h => ⟨h.1.symm, h.2.symm⟩, fun h => ⟨h.1.symm, h.2.symm⟩⟩

/-- One step of a gap: a blank. -/
theorem gap_blank {F : Nat} {l : List UInt8} (h : l.length ≤ F) (hl : l ≠ []) : gapI F l =
    if blankL l = -1 then (0, 22) else if blankL l = 0 then (0, 0) else ((gapI F (l.drop (blankL l).toNat)).1 + blankL l, (gapI F (l.drop (blankL l).toNat)).2) := by
  match l, hl with
  | [c], _ =>
    rw [gapI_step h, isSpaceI_eq]
    by_cases hs : isSp (c.toNat : Int) = true
    · simp [blankL, hs]
    · simp [blankL, hs, Lib.hasPrefix, List.isPrefixOf]
  | c :: d :: r, _ =>
    rw [gapI_step h, isSpaceI_eq, pre2, pre2]
    by_cases hs : isSp (c.toNat : Int) = true
    · have hb : blankL (c :: d :: r) = 1 := by simp only [blankL]; rw [if_pos hs]
      rw [if_pos hs, hb]
      simp
    · rw [if_neg hs]
      by_cases hc : c = 47
      · subst hc
        by_cases hd : d = 47
        · subst hd
          have hb : blankL (47 :: 47 :: r) = 2 + (countL notNl r : Int) := by
            simp only [blankL]; rw [if_neg hs, if_neg (by decide), if_pos (by decide)]
          have hcut : (Lib.cut ((47 : UInt8) :: 47 :: r) [10]).1.length = 2 + countL notNl r := by
            rw [cut_nl]
            have : countL notNl ((47 : UInt8) :: 47 :: r) = countL notNl r + 1 + 1 := by
              have h47 : notNl (((47 : UInt8).toNat : Int)) = true := by decide
              simp only [countL, h47, if_true]
            omega
          rw [if_pos (by decide), hb, if_neg (by omega), if_neg (by omega)]
          simp only [hcut]
          rw [show (2 + (countL notNl r : Int)).toNat = 2 + countL notNl r by omega]
          simp
        · by_cases hd2 : d = 42
          · subst hd2
            have hge := Lib.index_ge r [42, 47]
            have hb : blankL (47 :: 42 :: r) = if Lib.index r [42, 47] = -1 then -1 else Lib.index r [42, 47] + 4 := by
              simp only [blankL]; rw [if_neg hs, if_neg (by decide), if_neg (by decide), if_neg (by decide)]
            rw [if_neg (by decide), if_pos (by decide), hb]
            rw [show List.drop 2 ((47 : UInt8) :: 42 :: r) = r from rfl]
            unfold Lib.cut
            by_cases hm : Lib.index r [42, 47] = -1
            · have h0 : ¬ 0 ≤ Lib.index r [42, 47] := by omega
              rw [if_pos hm, if_pos rfl, if_neg h0]
              rfl
            · have h0 : 0 ≤ Lib.index r [42, 47] := by omega
              have hroom := Lib.index_room r [42, 47] h0
              simp only [List.length_cons, List.length_nil] at hroom
              have h1 : ¬ Lib.index r [42, 47] + 4 = -1 := by omega
              have h2 : ¬ Lib.index r [42, 47] + 4 = 0 := by omega
              rw [if_neg hm, if_pos h0, if_neg h1, if_neg h2]
              clear hm h1 h2
              obtain ⟨i, hi⟩ := Int.eq_ofNat_of_zero_le h0
              rw [hi] at hroom ⊢
              have e1 : (List.take (Int.toNat (i : Int)) r).length = i := by rw [Int.toNat_natCast, List.length_take]; omega
              simp only [if_true, e1]
              rw [show ((i : Int) + 4).toNat = 2 + i + 2 by omega]
              simp only [Prod.mk.injEq, and_true]
              omega
          · have hb : blankL (47 :: d :: r) = 0 := by
              simp only [blankL]; rw [if_neg hs, if_neg (by decide), if_neg (by rw [u8_47]; exact hd), if_pos (by rw [ne_eq, u8_42]; exact hd2)]
            rw [if_neg (by simp [hd]), if_neg (by simp [hd2]), hb, if_neg (by decide), if_pos rfl]
      · have hb : blankL (c :: d :: r) = 0 := by
          simp only [blankL]; rw [if_neg hs, if_pos (by rw [ne_eq, u8_47]; exact hc)]
        rw [if_neg (by simp [hc]), if_neg (by simp [hc]), hb, if_neg (by decide), if_pos rfl]
theorem longest_ge (l : List UInt8) : ∀ (ss : List (List UInt8)) (n : Nat), n ≤ longest l ss n
  | [], n => Nat.le_refl _
  | x :: ss, n => by
    show n ≤ longest l ss (if n < x.length ∧ x.length ≤ l.length ∧ l.take x.length = x then x.length else n)
    refine Nat.le_trans ?_ (longest_ge l ss _)
    split <;> omega
theorem longest_all (l : List UInt8) : ∀ (ss : List (List UInt8)) (n : Nat) (x : List UInt8), x ∈ ss → x.length ≤ l.length → l.take x.length = x → x.length ≤ longest l ss n
  | y :: ss, n, x, hx, h1, h2 => by
    show x.length ≤ longest l ss (if n < y.length ∧ y.length ≤ l.length ∧ l.take y.length = y then y.length else n)
    rcases List.mem_cons.1 hx with rfl | hx
    · refine Nat.le_trans ?_ (longest_ge l ss _)
      by_cases h : n < x.length
      · rw [if_pos ⟨h, h1, h2⟩]; exact Nat.le_refl _
      · rw [if_neg (fun e => h e.1)]; omega
    · exact longest_all l ss _ x hx h1 h2
theorem longest_one (l : List UInt8) : ∀ (ss : List (List UInt8)) (n : Nat), longest l ss n = n ∨ ∃ x, x ∈ ss ∧ x.length ≤ l.length ∧ l.take x.length = x ∧ longest l ss n = x.length
  | [], n => .inl rfl
  | y :: ss, n => by
    have e : longest l (y :: ss) n = longest l ss (if n < y.length ∧ y.length ≤ l.length ∧ l.take y.length = y then y.length else n) := rfl
    rw [e]
    rcases longest_one l ss (if n < y.length ∧ y.length ≤ l.length ∧ l.take y.length = y then y.length else n) with h | ⟨x, h1, h2, h3, h4⟩
    · rw [h]
      split
      · rename_i hc
        exact .inr ⟨y, List.mem_cons_self, hc.2.1, hc.2.2, rfl⟩
      · exact .inl rfl
    · exact .inr ⟨x, List.mem_cons_of_mem _ h1, h2, h3, h4⟩

theorem inK_iff {sg : List (List UInt8)} {x : List UInt8} : inK sg x = true ↔ x ∈ sg := by
  unfold inK; simp

theorem signFrom_all (sg : List (List UInt8)) (l : List UInt8) : ∀ k j, 0 < j → j ≤ k → inK sg (l.take j) = true → (j : Int) ≤ (signFrom sg l k).1
  | 0, j, h, h1, _ => by omega
  | k + 1, j, h, h1, h2 => by
    unfold signFrom
    split
    · simp only; omega
    · rename_i hc
      by_cases he : j = k + 1
      · subst he; exact absurd h2 hc
      · exact signFrom_all sg l k j h (by omega) h2
theorem signFrom_one (sg : List (List UInt8)) (l : List UInt8) : ∀ k, (signFrom sg l k).1 = 0 ∨ ∃ j : Nat, 0 < j ∧ j ≤ k ∧ inK sg (l.take j) = true ∧ (signFrom sg l k).1 = j
  | 0 => .inl rfl
  | k + 1 => by
    unfold signFrom
    split
    · rename_i hc
      exact .inr ⟨k + 1, by omega, by omega, hc, by simp⟩
    · rcases signFrom_one sg l k with h | ⟨j, h1, h2, h3, h4⟩
      · exact .inl h
      · exact .inr ⟨j, h1, by omega, h3, h4⟩

theorem sgL_len : ∀ x ∈ sgL, 0 < x.length ∧ x.length ≤ 4 := by decide
theorem sgL_head : ∀ x ∈ sgL, headU x = false := by decide
theorem kwL_len : ∀ x ∈ kwL, 0 < x.length ∧ x.length ≤ 24 ∧ isUpperL x = false := by decide

theorem sign_longest (l : List UInt8) : (signI sgL l).1 = (longest l sgL 0 : Int) := by
  unfold signI
  have h1 : (longest l sgL 0 : Int) ≤ (signFrom sgL l (min 4 l.length)).1 := by
    have h0 := (signFrom_bd sgL l (min 4 l.length)).1
    rcases longest_one l sgL 0 with h | ⟨x, hx, hl, ht, h⟩
    · rw [h]; exact h0
    · rw [h]
      have := sgL_len x hx
      exact signFrom_all sgL l _ _ this.1 (by omega) (inK_iff.2 (by rw [ht]; exact hx))
  have h2 : (signFrom sgL l (min 4 l.length)).1 ≤ (longest l sgL 0 : Int) := by
    rcases signFrom_one sgL l (min 4 l.length) with h | ⟨j, hj, hk, hi, h⟩
    · rw [h]; omega
    · rw [h]
      have hm := inK_iff.1 hi
      have hlen : (l.take j).length = j := by rw [List.length_take]; omega
      have := longest_all l sgL 0 (l.take j) hm (by rw [hlen]; omega) (by rw [hlen])
      rw [hlen] at this
      omega
  omega

theorem longest_under {l : List UInt8} (h : headU l = true) : longest l sgL 0 = 0 := by
  rcases longest_one l sgL 0 with h0 | ⟨x, hx, hl, ht, h1⟩
  · exact h0
  · have h2 := sgL_head x hx
    have h3 := (sgL_len x hx).1
    exfalso
    cases l with
    | nil => cases h
    | cons c r =>
      rw [← ht] at h2
      obtain ⟨n, hn⟩ : ∃ n, x.length = n + 1 := ⟨x.length - 1, by omega⟩
      rw [hn] at h2
      simp only [List.take_succ_cons] at h2
      have h4 : headU (c :: r) = ((c.toNat : Int) == 95) := rfl
      have h5 : headU (c :: r.take n) = ((c.toNat : Int) == 95) := rfl
      rw [h5, ← h4, h] at h2
      cases h2

theorem isKeywordL_len {x : List UInt8} (h : isKeywordL kwL x = true) : 0 < x.length ∧ x.length ≤ 24 := by
  unfold isKeywordL at h
  rw [Bool.or_eq_true] at h
  rcases h with h | h
  · have := kwL_len x (inK_iff.1 h); omega
  · unfold isWidthL at h
    rw [Bool.and_eq_true] at h
    have h3 := trimPrefix_len h.1
    have h4 := h.2
    unfold isW at h4
    split at h4
    · cases h4
    · have : bvL.length = 2 := rfl
      omega
theorem isKeywordL_upper {x : List UInt8} (h : isKeywordL kwL x = true) : isUpperL x = false := by
  unfold isKeywordL at h
  rw [Bool.or_eq_true] at h
  rcases h with h | h
  · exact (kwL_len x (inK_iff.1 h)).2.2
  · unfold isWidthL at h
    rw [Bool.and_eq_true] at h
    have h1 := h.1
    match x, h1 with
    | [], h1 => rfl
    | c :: r, h1 =>
      simp only [Lib.hasPrefix, bvL, List.isPrefixOf, Bool.and_eq_true, beq_iff_eq] at h1
      rw [← h1.1]
      rfl

theorem part_count : ∀ (l : List UInt8), partsL (l.take (countL isPartI l)) = true
  | [] => rfl
  | c :: r => by
    unfold countL
    split
    · rename_i h
      rw [List.take_succ_cons]
      show (isPartI (c.toNat : Int) && partsL (r.take (countL isPartI r))) = true
      rw [h, part_count r]; rfl
    · rfl

theorem wordL_word {l : List UInt8} (h : wordL l ≠ []) : isWordL (wordL l) = true := by
  cases l with
  | nil => exact absurd rfl h
  | cons c r =>
    have e : wordL (c :: r) = if isLetterI (c.toNat : Int) then (c :: r).take (countL isPartI (c :: r)) else [] := rfl
    rw [e] at h ⊢
    split
    · rename_i hc
      unfold isWordL
      rw [part_count, Bool.and_true]
      have : countL isPartI (c :: r) = countL isPartI r + 1 := by
        conv => lhs; unfold countL
        rw [if_pos (part_letter hc)]
      rw [this, List.take_succ_cons]
      exact hc
    · rename_i hc
      rw [if_neg hc] at h
      exact absurd rfl h

/-- A word that begins with an upper-case letter is a name if it is no longer than a name may be. -/
theorem upper_word {l : List UInt8} (h : wordL l ≠ []) (h24 : (wordL l).length ≤ 24) : rUpperL (wordL l) = isUpperL (wordL l) := by
  unfold rUpperL
  by_cases hu : isUpperL (wordL l) = true
  · rw [hu, Bool.and_true]
    have hk : isKeywordL kwL (wordL l) = false := by
      cases hk : isKeywordL kwL (wordL l)
      · rfl
      · rw [isKeywordL_upper hk] at hu; cases hu
    unfold isKeywordL at hk
    rw [Bool.or_eq_false_iff] at hk
    unfold isNameL
    rw [hk.1, hk.2, wordL_word h]
    simp [h24]
  · have : isUpperL (wordL l) = false := by simpa using hu
    rw [this, Bool.and_false]
/-- What is read at a word. -/
def kwOr (l : List UInt8) : Int × Int × Int := (if isKeywordL kwL (wordL l) = true then 1 else 0, (wordL l).length, 0)
def namedK (l : List UInt8) : Int × Int × Int :=
  if 24 < (wordL l).length then (0, 0, 6)
  else if rUpperL (wordL l) = true ∧ (wordL l).length + 2 < l.length ∧ (l.drop (wordL l).length).take 2 = [58, 58] then
    if 24 < (wordL (l.drop ((wordL l).length + 2))).length then (0, 0, 6)
    else if 0 < (wordL (l.drop ((wordL l).length + 2))).length ∧ isKeywordL kwL (wordL (l.drop ((wordL l).length + 2))) = false then (0, (wordL l).length + 2 + (wordL (l.drop ((wordL l).length + 2))).length, 0)
    else kwOr l
  else kwOr l
theorem namedK_open (l : List UInt8) : namedK l =
  if 24 < (wordL l).length then ((0 : Int), (0 : Int), (6 : Int))
    else if rUpperL (wordL l) = true ∧ (wordL l).length + 2 < l.length ∧ (l.drop (wordL l).length).take 2 = [58, 58] then
      if 24 < (wordL (l.drop ((wordL l).length + 2))).length then ((0 : Int), (0 : Int), (6 : Int))
      else if 0 < (wordL (l.drop ((wordL l).length + 2))).length ∧ isKeywordL kwL (wordL (l.drop ((wordL l).length + 2))) = false then ((0 : Int), ((wordL l).length : Int) + 2 + ((wordL (l.drop ((wordL l).length + 2))).length : Int), (0 : Int))
      else kwOr l
    else kwOr l := rfl
/-- What is read at a digit. -/
def decK (l : List UInt8) : Bool := hdI (l.drop (countL isDigitI l)) == 46 && decide (0 < countL isDigitI (l.drop (countL isDigitI l + 1)))
def sizeK (l : List UInt8) : Nat := if decK l = true then countL isDigitI l + 1 + countL isDigitI (l.drop (countL isDigitI l + 1)) else countL isDigitI l
def numberK (l : List UInt8) : Int × Int × Int :=
  if 1 < countL isDigitI l ∧ hdI l = 48 then (0, 0, 22)
  else if isLetterI (hdI (l.drop (sizeK l))) = true ∨ hdI (l.drop (sizeK l)) = 95 then (0, 0, 22)
  else (if decK l = true then 3 else 2, sizeK l, 0)
theorem numberK_open (l : List UInt8) : numberK l =
  if 1 < countL isDigitI l ∧ hdI l = 48 then ((0 : Int), (0 : Int), (22 : Int))
    else if isLetterI (hdI (l.drop (sizeK l))) = true ∨ hdI (l.drop (sizeK l)) = 95 then ((0 : Int), (0 : Int), (22 : Int))
    else ((if decK l = true then (3 : Int) else 2), (sizeK l : Int), (0 : Int)) := rfl
/-- What is read: the kind, the size, the error. -/
def readK (l : List UInt8) : Int × Int × Int :=
  if 0 < wlen l then namedK l else if isDigitI (hdI l) = true then numberK l else if rSignL l = 0 then (0, 0, 22) else (4, rSignL l, 0)

theorem first_open (l : List UInt8) : firstRule kwL sgL l 7 0 =
    if (qualifiedI kwL l).2 ≠ 0 then some (0, 0, (qualifiedI kwL l).2) else if 0 < (qualifiedI kwL l).1 then some (0, (qualifiedI kwL l).1, 0)
    else if (keywordI kwL l).2 ≠ 0 then some (0, 0, (keywordI kwL l).2) else if 0 < (keywordI kwL l).1 then some (1, (keywordI kwL l).1, 0)
    else if (nameI l).2 ≠ 0 then some (0, 0, (nameI l).2) else if 0 < (nameI l).1 then some (0, (nameI l).1, 0)
    else if (underscoreI l).2 ≠ 0 then some (0, 0, (underscoreI l).2) else if 0 < (underscoreI l).1 then some (4, (underscoreI l).1, 0)
    else if (decimalI l).2 ≠ 0 then some (0, 0, (decimalI l).2) else if 0 < (decimalI l).1 then some (3, (decimalI l).1, 0)
    else if (numberI l).2 ≠ 0 then some (0, 0, (numberI l).2) else if 0 < (numberI l).1 then some (2, (numberI l).1, 0)
    else if (signI sgL l).2 ≠ 0 then some (0, 0, (signI sgL l).2) else if 0 < (signI sgL l).1 then some (4, (signI sgL l).1, 0) else none := rfl

theorem first_kwOr {l : List UInt8} (h : wordL l ≠ []) (h24 : (wordL l).length ≤ 24) (hq : qualifiedI kwL l = (0, 0)) : firstRule kwL sgL l 7 0 = some (kwOr l) := by
  have hp : 0 < (wordL l).length := List.length_pos_iff.2 h
  rw [first_open, hq]
  unfold keywordI nameI kwOr
  by_cases hk : isKeywordL kwL (wordL l) = true
  · simp [hk, hp]
  · have h24' : ¬ 24 < (wordL l).length := by omega
    simp [hk, hp, h24']

theorem qual_found {l : List UInt8} : Lib.hasPrefix l [58, 58] = true ↔ l.take 2 = [58, 58] := by
  rw [← Lib.hasPrefix_of_take]
  simp only [Bool.and_eq_true, decide_eq_true_eq, beq_iff_eq, List.length_cons, List.length_nil]
  refine ⟨fun h => h.2, fun h => ⟨?_, h⟩⟩
  have := congrArg List.length h
  rw [List.length_take] at this
  simp only [List.length_cons, List.length_nil] at this
  omega

theorem first_named {l : List UInt8} (h : wordL l ≠ []) : firstRule kwL sgL l 7 0 = some (namedK l) := by
  have hp : 0 < (wordL l).length := List.length_pos_iff.2 h
  unfold namedK
  by_cases h24 : 24 < (wordL l).length
  · rw [if_pos h24]
    have hk : ¬ isKeywordL kwL (wordL l) = true := fun e => by have := isKeywordL_len e; omega
    have hq : qualifiedI kwL l = (0, 0) ∨ qualifiedI kwL l = (0, 6) := by
      unfold qualifiedI qualC
      split
      · exact .inl rfl
      · rw [if_pos (.inl h24)]; exact .inr rfl
    rw [first_open]
    rcases hq with hq | hq
    · rw [hq]
      unfold keywordI nameI
      simp [hk, h24]
    · rw [hq]
      simp
  · rw [if_neg h24, upper_word h (by omega)]
    by_cases hu : isUpperL (wordL l) = true ∧ (wordL l).length + 2 < l.length ∧ (l.drop (wordL l).length).take 2 = [58, 58]
    · rw [if_pos hu]
      obtain ⟨hu, hlt, ht⟩ := hu
      have hf := qual_found.2 ht
      have htr : Lib.trimPrefix (l.drop (wordL l).length) [58, 58] = l.drop ((wordL l).length + 2) := by
        unfold Lib.trimPrefix; rw [if_pos hf, List.drop_drop]; rfl
      have hqe : qualifiedI kwL l = qualC kwL (wordL l) true (wordL (l.drop ((wordL l).length + 2))) := by unfold qualifiedI; rw [hf, htr]
      obtain ⟨b, hb⟩ : ∃ b, wordL (l.drop ((wordL l).length + 2)) = b := ⟨_, rfl⟩
      rw [hb] at hqe ⊢
      by_cases hbk : b = [] ∨ isKeywordL kwL b = true
      · have hb24 : ¬ 24 < b.length := by
          rcases hbk with rfl | hbk
          · simp
          · have := isKeywordL_len hbk; omega
        have hno : ¬ (0 < b.length ∧ isKeywordL kwL b = false) := by
          rcases hbk with rfl | hbk
          · simp
          · rw [hbk]; simp
        rw [if_neg hb24, if_neg hno]
        refine first_kwOr h (by omega) ?_
        rw [hqe]
        unfold qualC
        rw [if_pos (by rcases hbk with hbk | hbk; exact .inr (.inr (.inl hbk)); exact .inr (.inr (.inr hbk)))]
      · have hbn : b ≠ [] := fun e => hbk (.inl e)
        have hbf : isKeywordL kwL b = false := by cases hx : isKeywordL kwL b; rfl; exact absurd (.inr hx) hbk
        have hbp : 0 < b.length := List.length_pos_iff.2 hbn
        have hno : ¬ (isUpperL (wordL l) = false ∨ true = false ∨ b = [] ∨ isKeywordL kwL b = true) := by
          rw [hu, hbf]; simp [hbn]
        unfold qualC at hqe
        rw [if_neg hno] at hqe
        rw [first_open]
        by_cases hb24 : 24 < b.length
        · rw [if_pos (.inr hb24)] at hqe
          rw [hqe, if_pos hb24]
          simp
        · rw [if_neg (by omega)] at hqe
          have h0 : (0 : Int) < ((wordL l).length : Int) + 2 + (b.length : Int) := by omega
          have hy : 0 < b.length ∧ isKeywordL kwL b = false := ⟨hbp, hbf⟩
          rw [hqe, if_neg hb24, if_pos hy]
          simp only [ne_eq, not_true_eq_false, if_false, h0, if_true]
    · rw [if_neg hu]
      refine first_kwOr h (by omega) ?_
      unfold qualifiedI qualC
      by_cases h1 : isUpperL (wordL l) = true
      · by_cases h2 : Lib.hasPrefix (l.drop (wordL l).length) [58, 58] = true
        · have h3 : ¬ (wordL l).length + 2 < l.length := fun e => hu ⟨h1, e, qual_found.1 h2⟩
          have h4 : Lib.trimPrefix (l.drop (wordL l).length) [58, 58] = [] := by
            unfold Lib.trimPrefix
            rw [if_pos h2, List.drop_drop]
            exact List.drop_eq_nil_of_le (by simp only [List.length_cons, List.length_nil]; omega)
          rw [h4, if_pos (.inr (.inr (.inl rfl)))]
        · rw [if_pos (.inr (.inl (by simpa using h2)))]
      · rw [if_pos (.inl (by simpa using h1))]

theorem drop_hd_stop (p : Int → Bool) (hn : p (-1) = false) : ∀ l : List UInt8, p (hdI (l.drop (countL p l))) = false
  | [] => hn
  | c :: r => by
    unfold countL
    by_cases hc : p (c.toNat : Int) = true
    · rw [if_pos hc, List.drop_succ_cons]
      exact drop_hd_stop p hn r
    · rw [if_neg hc]
      simpa [hdI] using hc
theorem count_pos (p : Int → Bool) (hn : p (-1) = false) (l : List UInt8) : 0 < countL p l ↔ p (hdI l) = true := by
  cases l with
  | nil => simp [countL, hdI, hn]
  | cons c r =>
    unfold countL
    by_cases hc : p (c.toNat : Int) = true
    · simp [hdI, hc]
    · simp [hdI, hc]
theorem pre1 (l : List UInt8) (a : UInt8) : Lib.hasPrefix l [a] = true ↔ hdI l = (a.toNat : Int) := by
  cases l with
  | nil => simp only [Lib.hasPrefix, List.isPrefixOf, hdI]; constructor; intro h; cases h; intro h; omega
  | cons c r =>
    simp only [Lib.hasPrefix, List.isPrefixOf, Bool.and_true, beq_iff_eq, hdI]
    constructor
    · rintro rfl; rfl
    · intro h; rw [← UInt8.toNat_inj]; exact (Int.ofNat.inj h).symm
theorem sizeK_stop (l : List UInt8) : isDigitI (hdI (l.drop (sizeK l))) = false := by
  unfold sizeK
  split
  · rw [← List.drop_drop]; exact drop_hd_stop isDigitI (by decide) _
  · exact drop_hd_stop isDigitI (by decide) _
theorem part_split (c : Int) (h : isDigitI c = false) : isPartI c = true ↔ isLetterI c = true ∨ c = 95 := by
  unfold isPartI; rw [h]; simp

theorem wordL_nil {l : List UInt8} (h : ¬ 0 < wlen l) : wordL l = [] := by
  rw [← wordL_len] at h
  exact List.eq_nil_of_length_eq_zero (by omega)

theorem no_word {l : List UInt8} (h : wordL l = []) : (qualifiedI kwL l = (0, 0)) ∧ (keywordI kwL l = (0, 0)) ∧ (nameI l = (0, 0)) := by
  refine ⟨?_, ?_, ?_⟩
  · unfold qualifiedI qualC
    rw [h, if_pos (.inl rfl)]
  · unfold keywordI
    rw [h, if_neg (by decide)]
  · unfold nameI
    rw [h]
    rfl

def frK (o : Option (Int × Int × Int)) : Int × Int × Int := match o with
  | none => (0, 0, 22)
  | some x => x

theorem first_number {l : List UInt8} (h : wordL l = []) (hd : isDigitI (hdI l) = true) : frK (firstRule kwL sgL l 7 0) = numberK l := by
  obtain ⟨h1, h2, h3⟩ := no_word h
  have hp : 0 < countL isDigitI l := (count_pos isDigitI (by decide) l).2 hd
  have h4 : underscoreI l = (0, 0) := by
    unfold underscoreI
    rw [if_neg]
    intro e
    rw [e] at hd
    cases hd
  have hst := sizeK_stop l
  have hcp := count_pos isPartI (by decide) (l.drop (sizeK l))
  rw [part_split _ hst] at hcp
  rw [first_open, h1, h2, h3, h4]
  simp only [ne_eq, not_true_eq_false, if_false, Int.lt_irrefl]
  unfold numberK
  by_cases hdec : decK l = true
  · have hs : sizeK l = countL isDigitI l + 1 + countL isDigitI (l.drop (countL isDigitI l + 1)) := by unfold sizeK; rw [if_pos hdec]
    rw [if_pos hdec]
    unfold decK at hdec
    simp only [Bool.and_eq_true, beq_iff_eq, decide_eq_true_eq] at hdec
    have hpre := (pre1 (l.drop (countL isDigitI l)) 46).2 hdec.1
    have htr : Lib.trimPrefix (l.drop (countL isDigitI l)) [46] = l.drop (countL isDigitI l + 1) := by
      unfold Lib.trimPrefix; rw [if_pos hpre, List.drop_drop]; rfl
    have hdi : decimalI l = checkDigitsI l (countL isDigitI l) (sizeK l) := by
      unfold decimalI
      simp only [htr, hpre]
      rw [if_neg (by simp; omega), hs]
      simp
    rw [hdi]
    unfold checkDigitsI
    rw [Int.toNat_natCast]
    have hsp : (0 : Int) < (sizeK l : Int) := by omega
    by_cases hz : 1 < countL isDigitI l ∧ hdI l = 48
    · have hc : ((1 : Int) < (countL isDigitI l : Int) ∧ hdI l = 48) ∨ ((0 : Int) < (sizeK l : Nat) ∧ 0 < countL isPartI (l.drop (sizeK l))) := .inl ⟨by omega, hz.2⟩
      rw [if_pos hc, if_pos hz]
      rfl
    · rw [if_neg hz]
      by_cases hl : isLetterI (hdI (l.drop (sizeK l))) = true ∨ hdI (l.drop (sizeK l)) = 95
      · have hc : ((1 : Int) < (countL isDigitI l : Int) ∧ hdI l = 48) ∨ ((0 : Int) < (sizeK l : Nat) ∧ 0 < countL isPartI (l.drop (sizeK l))) := .inr ⟨hsp, hcp.2 hl⟩
        rw [if_pos hc, if_pos hl]
        rfl
      · have hc : ¬ (((1 : Int) < (countL isDigitI l : Int) ∧ hdI l = 48) ∨ ((0 : Int) < (sizeK l : Nat) ∧ 0 < countL isPartI (l.drop (sizeK l)))) := by
          rintro (⟨a, b⟩ | ⟨a, b⟩)
          · exact hz ⟨by omega, b⟩
          · exact hl (hcp.1 b)
        rw [if_neg hc, if_neg hl]
        simp only [not_true_eq_false, if_false, hsp, if_true, frK]
  · have hs : sizeK l = countL isDigitI l := by unfold sizeK; rw [if_neg hdec]
    rw [if_neg hdec]
    have hdi : decimalI l = (0, 0) := by
      unfold decimalI
      simp only
      rw [if_pos]
      by_cases hpre : Lib.hasPrefix (l.drop (countL isDigitI l)) [46] = true
      · have htr : Lib.trimPrefix (l.drop (countL isDigitI l)) [46] = l.drop (countL isDigitI l + 1) := by
          unfold Lib.trimPrefix; rw [if_pos hpre, List.drop_drop]; rfl
        have hh := (pre1 (l.drop (countL isDigitI l)) 46).1 hpre
        rw [htr]
        unfold decK at hdec
        simp only [Bool.and_eq_true, beq_iff_eq, decide_eq_true_eq, not_and] at hdec
        have := hdec hh
        exact .inr (.inr (by omega))
      · exact .inr (.inl (by simpa using hpre))
    rw [hdi]
    simp only [not_true_eq_false, if_false, Int.lt_irrefl]
    unfold numberI checkDigitsI
    rw [Int.toNat_natCast, hs]
    rw [hs] at hcp
    have hsp : (0 : Int) < (countL isDigitI l : Int) := by omega
    by_cases hz : 1 < countL isDigitI l ∧ hdI l = 48
    · have hc : ((1 : Int) < (countL isDigitI l : Int) ∧ hdI l = 48) ∨ ((0 : Int) < (countL isDigitI l : Nat) ∧ 0 < countL isPartI (l.drop (countL isDigitI l))) := .inl ⟨by omega, hz.2⟩
      rw [if_pos hc, if_pos hz]
      rfl
    · rw [if_neg hz]
      by_cases hl : isLetterI (hdI (l.drop (countL isDigitI l))) = true ∨ hdI (l.drop (countL isDigitI l)) = 95
      · have hc : ((1 : Int) < (countL isDigitI l : Int) ∧ hdI l = 48) ∨ ((0 : Int) < (countL isDigitI l : Nat) ∧ 0 < countL isPartI (l.drop (countL isDigitI l))) := .inr ⟨hsp, hcp.2 hl⟩
        rw [if_pos hc, if_pos hl]
        rfl
      · have hc : ¬ (((1 : Int) < (countL isDigitI l : Int) ∧ hdI l = 48) ∨ ((0 : Int) < (countL isDigitI l : Nat) ∧ 0 < countL isPartI (l.drop (countL isDigitI l)))) := by
          rintro (⟨a, b⟩ | ⟨a, b⟩)
          · exact hz ⟨by omega, b⟩
          · exact hl (hcp.1 b)
        rw [if_neg hc, if_neg hl]
        simp only [not_true_eq_false, if_false, hsp, if_true, frK]

theorem headU_hd (l : List UInt8) : headU l = true ↔ hdI l = 95 := by
  cases l with
  | nil => simp [headU, hdI]
  | cons c r => simp [headU, hdI]

theorem first_sign {l : List UInt8} (h : wordL l = []) (hd : isDigitI (hdI l) = false) : frK (firstRule kwL sgL l 7 0) = if rSignL l = 0 then ((0 : Int), (0 : Int), (22 : Int)) else (4, (rSignL l : Int), 0) := by
  obtain ⟨h1, h2, h3⟩ := no_word h
  have hp : countL isDigitI l = 0 := by
    have := count_pos isDigitI (by decide) l
    rw [hd] at this
    simp at this
    exact this
  rw [first_open, h1, h2, h3]
  simp only [ne_eq, not_true_eq_false, if_false, Int.lt_irrefl]
  by_cases hu : hdI l = 95
  · have hu' := (headU_hd l).2 hu
    have hr : rSignL l = 1 := by
      have h0 := longest_under hu'
      unfold rSignL
      rw [h0, if_pos ⟨rfl, hu'⟩]
    have h4 : underscoreI l = (1, 0) := by unfold underscoreI; rw [if_pos hu]
    rw [hr, h4]
    rfl
  · have hu' : ¬ headU l = true := fun e => hu ((headU_hd l).1 e)
    have hr : rSignL l = longest l sgL 0 := by
      unfold rSignL
      rw [if_neg (fun e => hu' e.2)]
    have h4 : underscoreI l = (0, 0) := by unfold underscoreI; rw [if_neg hu]
    have h5 : decimalI l = (0, 0) := by unfold decimalI; simp only [hp, true_or, if_true]
    have h6 : numberI l = (0, 0) := by
      unfold numberI checkDigitsI
      rw [hp, if_neg (by simp)]
      rfl
    have h8 : (signI sgL l).2 = 0 := (signFrom_bd sgL l (min 4 l.length)).2.2
    rw [h4, h5, h6, h8, sign_longest, hr]
    simp only [not_true_eq_false, if_false, Int.lt_irrefl]
    by_cases hz : longest l sgL 0 = 0
    · rw [hz]; rfl
    · have hz' : (0 : Int) < (longest l sgL 0 : Int) := by omega
      rw [if_neg hz, if_pos hz']
      rfl

/-- The first rule that says something is what is read. -/
theorem first_read (l : List UInt8) : frK (firstRule kwL sgL l 7 0) = readK l := by
  unfold readK
  by_cases hw : 0 < wlen l
  · rw [if_pos hw, first_named (by rw [← wordL_len] at hw; exact List.length_pos_iff.1 hw)]
    rfl
  · rw [if_neg hw]
    have hn := wordL_nil hw
    by_cases hd : isDigitI (hdI l) = true
    · rw [if_pos hd]; exact first_number hn hd
    · rw [if_neg hd]; exact first_sign hn (by simpa using hd)
end Go.Proofs.Ytfilmombflohpaa
