/- Plain facts on lines and columns. -/
import Derived.Lib.Split
import Derived.Lib.SplitLaws
import Derived.Lib.CountLaws
import Derived.Test.YtajhpomckpndnaaDoorRows
set_option linter.unusedSimpArgs false
set_option linter.unusedVariables false
namespace Go.Proofs.YtajhpomckpndnaaDoor
set_option maxRecDepth 100000

def isNl (c : UInt8) : Bool := decide ((c.toNat : Int) = 10)

/-- Line and column of an offset, from the front. -/
def posF : List UInt8 → Nat → Int × Int
  | _, 0 => (1, 1)
  | [], _ + 1 => (1, 1)
  | c :: r, n + 1 => if isNl c then ((posF r n).1 + 1, (posF r n).2) else if (posF r n).1 = 1 then (1, (posF r n).2 + 1) else posF r n

/-- The offset of a line and a column. -/
def offF : List UInt8 → Int → Int → Option Int
  | [], line, col => if line = 1 ∧ col = 1 then some 0 else none
  | c :: r, line, col =>
    if line = 1 then (if col = 1 then some 0 else if isNl c then none else (offF r 1 (col - 1)).map (· + 1))
    else if isNl c then (offF r (line - 1) col).map (· + 1) else (offF r line col).map (· + 1)

theorem posF_ge : ∀ (l : List UInt8) (n : Nat), 1 ≤ (posF l n).1 ∧ 1 ≤ (posF l n).2
  | [], 0 => by simp [posF]
  | _ :: _, 0 => by simp [posF]
  | [], _ + 1 => by simp [posF]
  | c :: r, n + 1 => by
    have := posF_ge r n
    unfold posF
    split
    · simp only; omega
    · split
      · simp only; omega
      · exact this

theorem off_pos : ∀ (l : List UInt8) (n : Nat), n ≤ l.length → offF l (posF l n).1 (posF l n).2 = some (n : Int)
  | [], 0, _ => by simp [posF, offF]
  | _ :: _, 0, _ => by simp [posF, offF]
  | [], n + 1, h => by simp at h
  | c :: r, n + 1, h => by
    have ih := off_pos r n (by simpa using h)
    have hg := posF_ge r n
    have hp : posF (c :: r) (n + 1) = if isNl c then ((posF r n).1 + 1, (posF r n).2) else if (posF r n).1 = 1 then (1, (posF r n).2 + 1) else posF r n := rfl
    rw [hp]
    cases hc : isNl c
    · simp only [Bool.false_eq_true, if_false]
      by_cases h1 : (posF r n).1 = 1
      · rw [if_pos h1]
        rw [h1] at ih
        unfold offF
        rw [if_pos rfl, if_neg (by simp only; omega), hc]
        simp [ih]
      · rw [if_neg h1]
        unfold offF
        rw [if_neg h1, hc]
        simp [ih]
    · simp only [if_true]
      unfold offF
      rw [if_neg (by omega), hc]
      simp [ih]

theorem offF_ge : ∀ (l : List UInt8) (line col a : Int), offF l line col = some a → 1 ≤ line ∧ 1 ≤ col ∧ 0 ≤ a ∧ a ≤ l.length
  | [], line, col, a, h => by
    unfold offF at h
    split at h
    · cases h; simp; omega
    · cases h
  | c :: r, line, col, a, h => by
    unfold offF at h
    split at h
    · split at h
      · cases h; simp; omega
      · split at h
        · cases h
        · rw [Option.map_eq_some_iff] at h
          obtain ⟨x, hx, rfl⟩ := h
          have := offF_ge r _ _ _ hx
          simp; omega
    · split at h
      · rw [Option.map_eq_some_iff] at h
        obtain ⟨x, hx, rfl⟩ := h
        have := offF_ge r _ _ _ hx
        simp; omega
      · rw [Option.map_eq_some_iff] at h
        obtain ⟨x, hx, rfl⟩ := h
        have := offF_ge r _ _ _ hx
        simp; omega

theorem pos_off : ∀ (l : List UInt8) (line col a : Int), offF l line col = some a → posF l a.toNat = (line, col)
  | [], line, col, a, h => by
    unfold offF at h
    split at h
    · cases h; rename_i hh; rw [hh.1, hh.2]; rfl
    · cases h
  | c :: r, line, col, a, h => by
    unfold offF at h
    split at h
    · rename_i h1
      split at h
      · rename_i h2
        cases h; rw [h1, h2]; rfl
      · split at h
        · cases h
        · rename_i hc
          rw [Option.map_eq_some_iff] at h
          obtain ⟨x, hx, rfl⟩ := h
          have hg := offF_ge r _ _ _ hx
          have ih := pos_off r _ _ _ hx
          rw [show (x + 1).toNat = x.toNat + 1 by omega]
          unfold posF
          rw [if_neg hc, ih, if_pos rfl, h1]
          simp
    · rename_i h1
      split at h
      · rename_i hc
        rw [Option.map_eq_some_iff] at h
        obtain ⟨x, hx, rfl⟩ := h
        have hg := offF_ge r _ _ _ hx
        have ih := pos_off r _ _ _ hx
        rw [show (x + 1).toNat = x.toNat + 1 by omega]
        unfold posF
        rw [if_pos hc, ih]
        simp
      · rename_i hc
        rw [Option.map_eq_some_iff] at h
        obtain ⟨x, hx, rfl⟩ := h
        have hg := offF_ge r _ _ _ hx
        have ih := pos_off r _ _ _ hx
        rw [show (x + 1).toNat = x.toNat + 1 by omega]
        unfold posF
        rw [if_neg hc, ih, if_neg (by simpa using h1)]

/-- Where the lines begin, behind the first. -/
def starts : List UInt8 → Int → List Int
  | [], _ => []
  | c :: r, k => if isNl c then (k + 1) :: starts r (k + 1) else starts r (k + 1)
/-- The offset, by the lines' beginnings. -/
def offS (st : List Int) (e line col : Int) : Option Int :=
  if line < 1 ∨ (st.length : Int) < line then none
  else if col < 1 ∨ (if line < st.length then st.getD line.toNat 0 - 1 else e) - st.getD (line - 1).toNat 0 < col - 1 then none
  else some (st.getD (line - 1).toNat 0 + col - 1)

theorem getD_succ {x : Int} {l : List Int} {n : Nat} (h : 1 ≤ n) : (x :: l).getD n 0 = l.getD (n - 1) 0 := by
  obtain ⟨m, rfl⟩ : ∃ m, n = m + 1 := ⟨n - 1, by omega⟩
  simp

theorem starts_ge : ∀ (l : List UInt8) (k x : Int), x ∈ starts l k → k + 1 ≤ x
  | [], _, _, h => by simp [starts] at h
  | c :: r, k, x, h => by
    unfold starts at h
    split at h
    · rcases List.mem_cons.1 h with rfl | h
      · omega
      · have := starts_ge r _ _ h; omega
    · have := starts_ge r _ _ h; omega

theorem offS_tail (x : Int) (st : List Int) (e line col : Int) (h : 2 ≤ line) : offS (x :: st) e line col = offS st e (line - 1) col := by
  unfold offS
  by_cases hl : (st.length : Int) < line - 1
  · rw [if_pos (Or.inr (by rw [List.length_cons]; omega)), if_pos (Or.inr hl)]
  · rw [if_neg (by rw [List.length_cons]; omega), if_neg (show ¬ (line - 1 < 1 ∨ (st.length : Int) < line - 1) by omega)]
    have e1 : (x :: st).getD line.toNat 0 = st.getD (line - 1).toNat 0 := by
      rw [getD_succ (by omega)]; congr 1; omega
    have e2 : (x :: st).getD (line - 1).toNat 0 = st.getD (line - 1 - 1).toNat 0 := by
      rw [getD_succ (by omega)]; congr 1; omega
    rw [e1, e2]
    have h4 : (if line < ((x :: st).length : Int) then st.getD (line - 1).toNat 0 - 1 else e) = (if line - 1 < (st.length : Int) then st.getD (line - 1).toNat 0 - 1 else e) := by
      by_cases h3 : line - 1 < (st.length : Int)
      · rw [if_pos h3, if_pos (by rw [List.length_cons]; omega)]
      · rw [if_neg h3, if_neg (by rw [List.length_cons]; omega)]
    rw [h4]

theorem offS_low (st : List Int) (e line col : Int) (h : line < 1) : offS st e line col = none := by
  unfold offS; rw [if_pos (Or.inl h)]
theorem offF_low (l : List UInt8) (line col : Int) (h : line < 1) : offF l line col = none := by
  cases hx : offF l line col with
  | none => rfl
  | some a => have := offF_ge l line col a hx; omega

theorem offS_one (x : Int) (st : List Int) (e col : Int) : offS (x :: st) e 1 col = if col < 1 ∨ (match st with | [] => e | y :: _ => y - 1) - x < col - 1 then none else some (x + col - 1) := by
  unfold offS
  rw [if_neg (by rw [List.length_cons]; omega)]
  cases st with
  | nil => simp
  | cons y r =>
    have h1 : (1 : Int) < ((x :: y :: r).length : Int) := by rw [List.length_cons, List.length_cons]; omega
    rw [if_pos h1]
    simp

theorem map_map2 (o : Option Int) (k : Int) : (o.map (· + 1)).map (· + k) = o.map (· + (k + 1)) := by
  cases o with
  | none => rfl
  | some a => simp; omega

theorem offS_eq : ∀ (l : List UInt8) (k line col : Int), offS (k :: starts l k) (k + l.length) line col = (offF l line col).map (· + k)
  | [], k, line, col => by
    by_cases h0 : line < 1
    · rw [offS_low _ _ _ _ h0, offF_low _ _ _ h0]; rfl
    · by_cases h1 : line = 1
      · subst h1
        rw [starts, offS_one, offF]
        by_cases h2 : col = 1
        · subst h2
          rw [if_neg (by simp), if_pos ⟨rfl, rfl⟩]
          simp
        · rw [if_pos (by simp; omega), if_neg (by omega)]; rfl
      · rw [offS_tail _ _ _ _ _ (by omega), starts, offF, if_neg (by omega)]
        unfold offS
        rw [if_pos (Or.inr (by simp; omega))]; rfl
  | c :: r, k, line, col => by
    have ih := fun a b => offS_eq r (k + 1) a b
    have he : k + ((c :: r).length : Int) = (k + 1) + r.length := by rw [List.length_cons]; omega
    rw [he]
    by_cases h0 : line < 1
    · rw [offS_low _ _ _ _ h0, offF_low _ _ _ h0]; rfl
    · cases hc : isNl c
      · have hs : starts (c :: r) k = starts r (k + 1) := by simp [starts, hc]
        rw [hs]
        by_cases h1 : line = 1
        · subst h1
          have i2 := ih 1 (col - 1)
          rw [offS_one] at i2 ⊢
          rw [offF, if_pos rfl, hc]
          obtain ⟨X, hX⟩ : ∃ X, (match starts r (k + 1) with | [] => k + 1 + (r.length : Int) | y :: _ => y - 1) = X := ⟨_, rfl⟩
          have hXk : k + 1 ≤ X := by
            rw [← hX]
            cases hst : starts r (k + 1) with
            | nil => simp only; omega
            | cons y q => have := starts_ge r (k + 1) y (by rw [hst]; simp); simp only; omega
          rw [hX] at i2 ⊢
          by_cases h2 : col = 1
          · subst h2
            rw [if_neg (by omega), if_pos rfl]
            simp
          · rw [if_neg h2]
            simp only [Bool.false_eq_true, if_false]
            rw [map_map2, ← i2]
            by_cases h3 : col < 1 ∨ X - k < col - 1
            · rw [if_pos h3, if_pos (by omega)]
            · rw [if_neg h3, if_neg (by omega)]
              congr 1
              omega
        · have i1 := ih line col
          rw [offS_tail _ _ _ _ _ (by omega)] at i1 ⊢
          rw [offF, if_neg h1, hc]
          simp only [Bool.false_eq_true, if_false]
          rw [map_map2, ← i1]
      · have hs : starts (c :: r) k = (k + 1) :: starts r (k + 1) := by simp [starts, hc]
        rw [hs]
        by_cases h1 : line = 1
        · subst h1
          rw [offS_one, offF, if_pos rfl, hc]
          simp only [if_true]
          by_cases h2 : col = 1
          · subst h2
            rw [if_neg (by omega), if_pos rfl]
            simp
          · rw [if_pos (by omega), if_neg h2]; rfl
        · rw [offS_tail _ _ _ _ _ (by omega), ih, offF, if_neg h1, hc]
          simp only [if_true]
          rw [map_map2]

/-- The lines' sizes, each with the byte behind it. -/
def sizesF : List UInt8 → List Int
  | [] => [1]
  | c :: r => if isNl c then 1 :: sizesF r else match sizesF r with
    | [] => []
    | z :: q => (z + 1) :: q
/-- The offset, by the lines' sizes. -/
def offZ (z : List Int) (line col : Int) : Option Int :=
  if line < 1 ∨ (z.length : Int) < line then none
  else if col < 1 ∨ z.getD (line - 1).toNat 0 < col then none
  else some (col - 1 + (z.take (line - 1).toNat).sum)

theorem sizesF_cons : ∀ l : List UInt8, ∃ z q, sizesF l = z :: q ∧ 1 ≤ z
  | [] => ⟨1, [], rfl, by omega⟩
  | c :: r => by
    obtain ⟨z, q, h, hz⟩ := sizesF_cons r
    cases hc : isNl c
    · exact ⟨z + 1, q, by simp [sizesF, hc, h], by omega⟩
    · exact ⟨1, sizesF r, by simp [sizesF, hc], by omega⟩

theorem offZ_low (z : List Int) (line col : Int) (h : line < 1) : offZ z line col = none := by
  unfold offZ; rw [if_pos (Or.inl h)]
theorem offZ_one (z : Int) (q : List Int) (col : Int) : offZ (z :: q) 1 col = if col < 1 ∨ z < col then none else some (col - 1) := by
  unfold offZ
  rw [if_neg (by rw [List.length_cons]; omega)]
  simp
theorem offZ_tail (z : Int) (q : List Int) (line col : Int) (h : 2 ≤ line) : offZ (z :: q) line col = (offZ q (line - 1) col).map (· + z) := by
  unfold offZ
  by_cases hl : (q.length : Int) < line - 1
  · rw [if_pos (Or.inr (by rw [List.length_cons]; omega)), if_pos (Or.inr hl)]; rfl
  · rw [if_neg (by rw [List.length_cons]; omega), if_neg (show ¬ (line - 1 < 1 ∨ (q.length : Int) < line - 1) by omega)]
    have e2 : (z :: q).getD (line - 1).toNat 0 = q.getD (line - 1 - 1).toNat 0 := by
      rw [getD_succ (by omega)]; congr 1; omega
    rw [e2]
    obtain ⟨n, hn⟩ : ∃ n, (line - 1).toNat = n + 1 := ⟨(line - 1).toNat - 1, by omega⟩
    have hn2 : (line - 1 - 1).toNat = n := by omega
    rw [hn, hn2]
    split
    · rfl
    · simp; omega

theorem offZ_eq : ∀ (l : List UInt8) (line col : Int), offZ (sizesF l) line col = offF l line col
  | [], line, col => by
    by_cases h0 : line < 1
    · rw [offZ_low _ _ _ h0, offF_low _ _ _ h0]
    · by_cases h1 : line = 1
      · subst h1
        rw [sizesF, offZ_one, offF]
        by_cases h2 : col = 1
        · subst h2; simp
        · rw [if_pos (by omega), if_neg (by omega)]
      · rw [sizesF, offZ_tail _ _ _ _ (by omega), offF, if_neg (by omega)]
        unfold offZ
        rw [if_pos (Or.inr (by simp; omega))]; rfl
  | c :: r, line, col => by
    have ih := fun a b => offZ_eq r a b
    obtain ⟨z, q, hz, hz1⟩ := sizesF_cons r
    by_cases h0 : line < 1
    · rw [offZ_low _ _ _ h0, offF_low _ _ _ h0]
    · cases hc : isNl c
      · have hs : sizesF (c :: r) = (z + 1) :: q := by simp [sizesF, hc, hz]
        rw [hs]
        rw [hz] at ih
        by_cases h1 : line = 1
        · subst h1
          have i2 := ih 1 (col - 1)
          rw [offZ_one] at i2 ⊢
          rw [offF, if_pos rfl, hc, ← i2]
          by_cases h2 : col = 1
          · subst h2
            rw [if_neg (by omega), if_pos rfl]; rfl
          · rw [if_neg h2]
            simp only [Bool.false_eq_true, if_false]
            by_cases h3 : col < 1 ∨ z + 1 < col
            · rw [if_pos h3, if_pos (by omega)]; rfl
            · rw [if_neg h3, if_neg (by omega)]
              simp
        · have i1 := ih line col
          rw [offZ_tail _ _ _ _ (by omega)] at i1 ⊢
          rw [offF, if_neg h1, hc, ← i1]
          simp only [Bool.false_eq_true, if_false]
          cases offZ q (line - 1) col with
          | none => rfl
          | some a => simp; omega
      · have hs : sizesF (c :: r) = 1 :: sizesF r := by simp [sizesF, hc]
        rw [hs]
        by_cases h1 : line = 1
        · subst h1
          rw [offZ_one, offF, if_pos rfl, hc]
          simp only [if_true]
          by_cases h2 : col = 1
          · subst h2; simp
          · rw [if_pos (by omega), if_neg h2]
        · rw [offZ_tail _ _ _ _ (by omega), ih, offF, if_neg h1, hc]
          simp only [if_true]
end Go.Proofs.YtajhpomckpndnaaDoor
