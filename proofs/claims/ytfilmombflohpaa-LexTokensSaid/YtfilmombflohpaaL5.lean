/- The rule of signs; gaps; places. -/
import Derived.Test.YtfilmombflohpaaL4
set_option linter.unusedSimpArgs false
set_option linter.unusedVariables false
namespace Go.Proofs.Ytfilmombflohpaa
open Go.RowKit Go.ChangeMaps Go.WideMaps
set_option maxRecDepth 100000

def signFrom (sg : List (List UInt8)) (l : List UInt8) : Nat → Int × Int
  | 0 => (0, 0)
  | k + 1 => if inK sg (l.take (k + 1)) then ((k : Int) + 1, 0) else signFrom sg l k
def signI (sg : List (List UInt8)) (l : List UInt8) : Int × Int := signFrom sg l (min 4 l.length)

theorem head_data (t : ByteArray) (i : Nat) : (t.extract 0 i).data.toList = t.data.toList.take i := by
  rw [Lib.extract_data]; simp

theorem signFrom_yes {sg : List (List UInt8)} {s : ByteArray} {k : Nat} (hk : 0 < k) (h : inK sg (s.extract 0 k).data.toList = true) : signFrom sg s.data.toList k = ((k : Int), 0) := by
  obtain ⟨j, rfl⟩ : ∃ j, k = j + 1 := ⟨k - 1, by omega⟩
  rw [head_data] at h
  simp [signFrom, h]
theorem signFrom_no {sg : List (List UInt8)} {s : ByteArray} {k : Nat} (hk : 0 < k) (h : inK sg (s.extract 0 k).data.toList = false) : signFrom sg s.data.toList k = signFrom sg s.data.toList (k - 1) := by
  obtain ⟨j, rfl⟩ : ∃ j, k = j + 1 := ⟨k - 1, by omega⟩
  rw [head_data] at h
  simp [signFrom, h]

set_option maxHeartbeats 400000 in
theorem sign_any (s : ByteArray) (kb sb : Nat) (sg : List (List UInt8)) (w : World) (hs : s.size ≤ maxLen) (hk : SetAt w sb sg) :
    Calls Try.prog 81 #[scan kb sb, .string s] w fun e w' => e = .returned (.tuple #[.int .i64 (signI sg s.data.toList).1, .int .i64 (signI sg s.data.toList).2]) ∧ Below w.heap.size w w' := by
  have hms := hs
  unfold maxLen at hms
  obtain ⟨m, hm⟩ : ∃ m, min 4 s.size = m := ⟨_, rfl⟩
  have hm1 : m ≤ 4 := by omega
  have hm2 : m ≤ s.size := by omega
  have HM := Lib.hid hm
  have HS : Hid (signI sg s.data.toList = signFrom sg s.data.toList m) := by show _ = _; unfold signI; rw [← Lib.size_eq, hm]
  clear hm
  go_enter Try.func81, Try.ntmps81
  go_wp2
  go_loopw [6] (fun n wr => ∃ k : Nat, k ≤ m ∧ n = .int .i64 k ∧ Hid (signFrom sg s.data.toList m = signFrom sg s.data.toList k) ∧ wr.cell? ⟨w.heap.size, 0, none⟩ = some (.map (some kb)) ∧ wr.cell? ⟨w.heap.size, 1, none⟩ = some (.map (some sb)) ∧ Hid (SetAt wr sb sg) ∧ Below w.heap.size w wr) (fun n _ => (intOf n).toNat)
  case atStart =>
    exact ⟨m, Nat.le_refl _, by congr 1; have := HM.out; omega, rfl, by simp, by simp, hk.below ((Below.refl _ w).alloc (Nat.le_refl _) _) hk.lt, (Below.refl _ w).alloc (Nat.le_refl _) _⟩
  case round =>
    obtain ⟨k, hk1, rfl, HF, hc0, hc1, HK, hb⟩ := hrel
    by_cases hz : 0 < k
    · have hks : k ≤ s.size := by omega
      have hx : (s.extract 0 k).size ≤ maxLen := by unfold maxLen; simp; omega
      have hl : ∀ n, (Instr.lookup 56 (.map (some sb)) (.string (s.extract 0 k)) false).run Try.prog (wr.drewN n) = .ok (.bool (inK sg (s.extract 0 k).data.toList)) (wr.drewN n) := fun n => SetAt.look (HK.out.below (below_drewN (Below.refl _ _) n) HK.out.lt) hx
      obtain ⟨x, hxx⟩ : ∃ x, inK sg (s.extract 0 k).data.toList = x := ⟨_, rfl⟩
      rw [hxx] at hl
      have HX := Lib.hid hxx
      clear hxx
      go_wp2
      go_quiet (fail)
      go_wp2
      · go_ret2
        exact ⟨ret_pair (by rw [HS.out, HF.out, signFrom_yes hz (HX.out.trans (by assumption))]), below_drewN hb _⟩
      · go_roundw
        case rel => exact ⟨k - 1, by omega, by congr 1; omega, HF.out.trans (signFrom_no hz (HX.out.trans (by assumption))), hc0, hc1, HK.out.below (below_drewN (Below.refl _ _) _) HK.out.lt, below_drewN hb _⟩
        case measure => simp [intOf]; omega
    · obtain rfl : k = 0 := by omega
      go_wp2
      go_ret2
      exact ⟨ret_pair (by rw [HS.out, HF.out]; rfl), hb⟩

/-- Spaces: space, tab, line feed, carriage return. -/
def isSpaceI (c : UInt8) : Bool := decide (0 ≤ Lib.indexByte [32, 9, 10, 13] c)

/-- The gap at the start: its length, and whether a comment has no end. -/
def gapI : Nat → List UInt8 → Int × Int
  | 0, _ => (0, 0)
  | _ + 1, [] => (0, 0)
  | fuel + 1, c :: r =>
    if isSpaceI c then ((gapI fuel r).1 + 1, (gapI fuel r).2)
    else if Lib.hasPrefix (c :: r) [47, 47] then
      let n := (Lib.cut (c :: r) [10]).1.length
      ((gapI fuel ((c :: r).drop n)).1 + n, (gapI fuel ((c :: r).drop n)).2)
    else if Lib.hasPrefix (c :: r) [47, 42] then
      if (Lib.cut ((c :: r).drop 2) [42, 47]).2.2 then
        let n := 2 + (Lib.cut ((c :: r).drop 2) [42, 47]).1.length + 2
        ((gapI fuel ((c :: r).drop n)).1 + n, (gapI fuel ((c :: r).drop n)).2)
      else (0, 22)
    else (0, 0)


theorem cut_line_pos {l : List UInt8} (h : Lib.hasPrefix l [47, 47] = true) : 1 ≤ (Lib.cut l [10]).1.length := by
  match l, h with
  | c :: r, h =>
    have hc : c = 47 := by simp [Lib.hasPrefix, List.isPrefixOf] at h; exact h.1.symm
    subst hc
    unfold Lib.cut
    have e : Lib.index (47 :: r) [10] = if Lib.index r [10] == -1 then -1 else Lib.index r [10] + 1 := by rw [Lib.index, if_neg (by simp [List.isPrefixOf])]
    have g := Lib.index_ge r [10]
    split
    · rename_i h0
      rw [e] at h0 ⊢
      split at h0
      · omega
      · rename_i h1
        rw [if_neg h1]
        have hne : Lib.index r [10] ≠ -1 := by simpa using h1
        simp only [List.length_take, List.length_cons]
        omega
    · simp

theorem gapI_nil (f : Nat) : gapI f [] = (0, 0) := by cases f <;> rfl

theorem gapI_fuel : ∀ (f g : Nat) (l : List UInt8), l.length ≤ f → l.length ≤ g → gapI f l = gapI g l
  | f, g, [], _, _ => by rw [gapI_nil, gapI_nil]
  | 0, _, c :: r, h, _ => by simp at h
  | _ + 1, 0, c :: r, _, h => by simp at h
  | f + 1, g + 1, c :: r, hf, hg => by
    have hf' : r.length ≤ f := by simpa using hf
    have hg' : r.length ≤ g := by simpa using hg
    have ih : ∀ n, 1 ≤ n → gapI f ((c :: r).drop n) = gapI g ((c :: r).drop n) := fun n hn => gapI_fuel f g _ (by rw [List.length_drop]; simp; omega) (by rw [List.length_drop]; simp; omega)
    have i1 := ih 1 (Nat.le_refl _)
    rw [List.drop_one, List.tail_cons] at i1
    unfold gapI
    split
    · rw [i1]
    · split
      · rename_i hp
        simp only [ih _ (cut_line_pos hp)]
      · split
        · split
          · simp only [ih (2 + (Lib.cut ((c :: r).drop 2) [42, 47]).1.length + 2) (by omega)]
          · rfl
        · rfl

/-- One step of a gap, whatever the fuel. -/
theorem gapI_step {F : Nat} {c : UInt8} {r : List UInt8} (h : (c :: r).length ≤ F) : gapI F (c :: r) =
    if isSpaceI c then ((gapI F r).1 + 1, (gapI F r).2)
    else if Lib.hasPrefix (c :: r) [47, 47] then
      let n := (Lib.cut (c :: r) [10]).1.length
      ((gapI F ((c :: r).drop n)).1 + n, (gapI F ((c :: r).drop n)).2)
    else if Lib.hasPrefix (c :: r) [47, 42] then
      if (Lib.cut ((c :: r).drop 2) [42, 47]).2.2 then
        let n := 2 + (Lib.cut ((c :: r).drop 2) [42, 47]).1.length + 2
        ((gapI F ((c :: r).drop n)).1 + n, (gapI F ((c :: r).drop n)).2)
      else (0, 22)
    else (0, 0) := by
  match F, h with
  | f + 1, h =>
    have hf' : r.length ≤ f := by simpa using h
    have ih : ∀ n, 1 ≤ n → gapI f ((c :: r).drop n) = gapI (f + 1) ((c :: r).drop n) := fun n hn => gapI_fuel f (f + 1) _ (by rw [List.length_drop]; simp; omega) (by rw [List.length_drop]; simp; omega)
    have i1 := ih 1 (Nat.le_refl _)
    rw [List.drop_one, List.tail_cons] at i1
    rw [← i1]
    conv => lhs; unfold gapI
    split
    · rfl
    · split
      · rename_i hp
        simp only [ih _ (cut_line_pos hp)]
      · split
        · split
          · simp only [ih (2 + (Lib.cut ((c :: r).drop 2) [42, 47]).1.length + 2) (by omega)]
          · rfl
        · rfl

theorem gapI_stepB {F : Nat} {r : ByteArray} (h0 : 0 < r.size) (h : r.size ≤ F) : gapI F r.data.toList =
    if isSpaceI r[0] then ((gapI F (r.data.toList.drop 1)).1 + (1 : Nat), (gapI F (r.data.toList.drop 1)).2)
    else if Lib.hasPrefix r.data.toList [47, 47] then
      ((gapI F (r.data.toList.drop (Lib.cut r.data.toList [10]).1.length)).1 + (Lib.cut r.data.toList [10]).1.length, (gapI F (r.data.toList.drop (Lib.cut r.data.toList [10]).1.length)).2)
    else if Lib.hasPrefix r.data.toList [47, 42] then
      if (Lib.cut (r.data.toList.drop 2) [42, 47]).2.2 then
        ((gapI F (r.data.toList.drop (2 + (Lib.cut (r.data.toList.drop 2) [42, 47]).1.length + 2))).1 + (2 + (Lib.cut (r.data.toList.drop 2) [42, 47]).1.length + 2 : Nat), (gapI F (r.data.toList.drop (2 + (Lib.cut (r.data.toList.drop 2) [42, 47]).1.length + 2))).2)
      else (0, 22)
    else (0, 0) := by
  have hc := head_cons h0
  have hl : (r[0] :: r.data.toList.drop 1).length ≤ F := by rw [← hc, ← Lib.size_eq]; exact h
  have := gapI_step hl
  rw [← hc] at this
  exact this

theorem gap_next {S k n : Nat} {L : List UInt8} (h : gapI S L = ((gapI S (L.drop k)).1 + k, (gapI S (L.drop k)).2)) (hs : gapI S (L.drop k) = ((gapI S ((L.drop k).drop n)).1 + n, (gapI S ((L.drop k).drop n)).2)) :
    gapI S L = ((gapI S (L.drop (k + n))).1 + (k + n : Nat), (gapI S (L.drop (k + n))).2) := by
  rw [h, hs, List.drop_drop]
  simp only [Prod.mk.injEq, and_true]
  omega

theorem lt_of_cell {w : World} {b o : Nat} {v : Value} (h : w.cell? ⟨b, o, none⟩ = some v) : b < w.heap.size := by
  unfold World.cell? at h
  split at h
  · rename_i he; exact (Array.getElem?_eq_some_iff.1 he).1
  · cases h

/-- The library's variable MaxLen holds some number. -/
def ML (w : World) : Prop := ∃ m, w.cell? ⟨0, 0, none⟩ = some (.int .i64 m)
theorem ML.lt {w : World} (h : ML w) : 0 < w.heap.size := by obtain ⟨m, hm⟩ := h; exact lt_of_cell hm
theorem ML.below {w w' : World} {B : Nat} (h : ML w) (hb : Below B w w') (hB : 0 < B) : ML w' := by
  obtain ⟨m, hm⟩ := h; exact ⟨m, (hb.cell (p := ⟨0, 0, none⟩) hB).trans hm⟩

/-- strings.Cut at a separator that is written out. -/
theorem cut_any (s : ByteArray) (sep : List UInt8) (w : World) (hs : s.size < 4294967281) (hm : ML w) :
    Calls Try.prog 33 #[.string s, .string (mk sep)] w fun e w' => e = .returned (.tuple #[.string (mk (Lib.cut s.data.toList sep).1), .string (mk (Lib.cut s.data.toList sep).2.1), .bool (Lib.cut s.data.toList sep).2.2]) ∧ ∃ n, w.drewN n = w' := by
  obtain ⟨m, hm⟩ := hm
  exact (Try.strings_Cut s (mk sep) m w hs hm).mono fun e w' ⟨he, n, hn⟩ => ⟨he, n, hn.symm⟩

theorem prefix_any (s : ByteArray) (p : List UInt8) (w : World) :
    Calls Try.prog 83 #[.string s, .string (mk p)] w fun e w' => e = .returned (.bool (Lib.hasPrefix s.data.toList p)) ∧ w = w' :=
  (Try.strings_HasPrefix s (mk p) w).mono fun _ _ ⟨he, hw⟩ => ⟨he, hw.symm⟩

theorem space_any (c : UInt8) (w : World) (h : c.toNat < 128) :
    Calls Try.prog 82 #[.string (mk [32, 9, 10, 13]), .int .i32 (c.toNat : Int)] w fun e w' => e = .returned (.bool (isSpaceI c)) ∧ w = w' := by
  have h1 := Try.strings_ContainsRune_ascii (mk [32, 9, 10, 13]) (c.toNat : Int) w (by omega) (by omega)
  rw [Int.toNat_natCast, show c.toNat.toUInt8 = c by simp] at h1
  exact h1.mono fun _ _ ⟨he, hw⟩ => ⟨he, hw.symm⟩
end Go.Proofs.Ytfilmombflohpaa
