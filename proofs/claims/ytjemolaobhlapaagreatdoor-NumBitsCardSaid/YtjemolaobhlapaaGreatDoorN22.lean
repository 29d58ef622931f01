/- allDigits, isOne, finish. -/
import Derived.Laws.RangeAny
import Derived.WalkSmall
import Derived.Test.YtjemolaobhlapaaGreatDoorN20
set_option linter.unusedSimpArgs false
set_option linter.unusedVariables false
namespace Go.Proofs.YtjemolaobhlapaaGreatDoor
open Go.RowKit
set_option maxRecDepth 100000

theorem drop_cons (s : ByteArray) (k : Nat) (h : k < s.size) : s.data.toList.drop k = s[k] :: s.data.toList.drop (k + 1) := by
  rw [List.drop_eq_getElem_cons (by simpa using h)]; rfl
theorem empty_t {s : ByteArray} (h : ¬ 0 < s.size) : s.toList.isEmpty = true := by
  rw [Lib.toList_data]; have := Lib.size_eq s; rw [List.isEmpty_iff]; exact List.eq_nil_of_length_eq_zero (by omega)
theorem empty_f {s : ByteArray} (h : 0 < s.size) : s.toList.isEmpty = false := by
  rw [Lib.toList_data]; have := Lib.size_eq s; cases hd : s.data.toList <;> simp_all
theorem nil_t {s : ByteArray} (h : ¬ 0 < s.size) : s.data.toList = [] := by
  have := Lib.size_eq s; exact List.eq_nil_of_length_eq_zero (by omega)

/-- Digits, at least one. -/
def allD (l : List UInt8) : Bool := l.all isDig && !l.isEmpty
theorem all_step {s : ByteArray} {k : Nat} (h : k < s.size) : (s.data.toList.drop k).all isDig = (isDig s[k] && (s.data.toList.drop (k + 1)).all isDig) := by
  rw [drop_cons s k h]; rfl
theorem all_no {s : ByteArray} {k : Nat} (h : k < s.size) (hp : isDig s[k] = false) (e : allD s.data.toList = (s.data.toList.drop k).all isDig) : allD s.data.toList = false := by
  rw [e, all_step h, hp]; rfl
theorem all_go {s : ByteArray} {k : Nat} (h : k < s.size) (hp : isDig s[k] = true) (e : allD s.data.toList = (s.data.toList.drop k).all isDig) : allD s.data.toList = (s.data.toList.drop (k + 1)).all isDig := by
  rw [e, all_step h, hp]; rfl
theorem all_end {s : ByteArray} {k : Nat} (h : s.size ≤ k) (e : allD s.data.toList = (s.data.toList.drop k).all isDig) : allD s.data.toList = true := by
  rw [e, List.drop_eq_nil_of_le (by simpa using h)]; rfl
theorem all_start {s : ByteArray} (h : 0 < s.size) : allD s.data.toList = (s.data.toList.drop 0).all isDig := by
  have h2 := Lib.size_eq s
  unfold allD
  cases hd : s.data.toList with
  | nil => rw [hd, List.length_nil] at h2; omega
  | cons c l => simp
theorem dig_iff {c : UInt8} {n : Nat} (h : c.toNat = n) : isDig c = (decide (48 ≤ n) && decide (n ≤ 57)) := by unfold isDig; rw [h]

set_option maxHeartbeats 2000000 in
theorem allDigits_any (s : ByteArray) (w : World) (b : Bool) (hb : allD s.data.toList = b) :
    Calls Tryz.prog 63 #[.string s] w fun e w' => e = .returned (.bool b) ∧ Below w.heap.size w w' := by
  have HBB := Lib.hid hb
  clear hb
  by_cases hz : 0 < s.size
  · have he := empty_f hz
    have HST := Lib.hid (all_start hz)
    go_enter Tryz.func63, Tryz.ntmps63
    go_wp2
    go_loopw [4] (fun _ wr => ∃ k : Nat, k ≤ s.size ∧ wr.heap[w.heap.size]? = some (.stringIter s k) ∧ Hid (allD s.data.toList = (s.data.toList.drop k).all isDig) ∧ Below w.heap.size w wr) (fun _ wr => s.size - wr.iterPos w.heap.size)
    case atStart => exact ⟨0, Nat.zero_le _, World.iter_heap w s 0, HST, (Below.refl _ _).alloc (Nat.le_refl _) _⟩
    case round =>
      obtain ⟨k, hk, hit, HW, hb⟩ := hrel
      have hpos := iterPos_of hit
      by_cases hlt : k < s.size
      · obtain ⟨c, hcc⟩ : ∃ c : Nat, s[k].toNat = c := ⟨_, rfl⟩
        have hmod : ((c : Int) % 256) = c := by have := UInt8.toNat_lt s[k]; omega
        have HD := Lib.hid (dig_iff hcc)
        by_cases h128 : c < 128
        · have hnx : ∀ ty, (Instr.next (.pointer (some ⟨w.heap.size, 0, none⟩)) true ty).run Tryz.prog wr = _ := fun ty => Lib.run_next_ascii_at wr w.heap.size s k ty hit hlt (by omega)
          have hit2 := Lib.iterAt_heap wr w.heap.size s k (k + 1) hit
          have hb2 := Lib.below_iterAt hb (k := w.heap.size) (Nat.le_refl _) s (k + 1)
          obtain ⟨W1, hW1⟩ : ∃ W1, wr.iterAt w.heap.size s (k + 1) = W1 := ⟨_, rfl⟩
          rw [hW1] at hnx hit2 hb2
          rw [hcc] at hnx
          clear hW1 hcc
          have hpos2 := iterPos_of hit2
          by_cases h1 : c < 48
          · have HE := Lib.hid (all_no hlt (by rw [HD.out]; simp; omega) HW.out)
            go_wp2
            all_goals go_ret
            all_goals exact ⟨ret_bool (by rw [← HBB.out, HE.out]), hb2⟩
          · by_cases h2 : 57 < c
            · have HE := Lib.hid (all_no hlt (by rw [HD.out]; simp; omega) HW.out)
              go_wp2
              all_goals go_ret
              all_goals exact ⟨ret_bool (by rw [← HBB.out, HE.out]), hb2⟩
            · have HN := Lib.hid (all_go hlt (by rw [HD.out]; simp; omega) HW.out)
              go_wp2
              all_goals go_roundw
              all_goals first | exact ⟨k + 1, hlt, hit2, HN, hb2⟩ | (rw [hpos, hpos2]; omega)
        · have hhi := (decode_high s k hlt (by omega)).1
          have hnx : ∀ ty, (Instr.next (.pointer (some ⟨w.heap.size, 0, none⟩)) true ty).run Tryz.prog wr = _ := fun ty => Lib.run_next_any_at wr w.heap.size s k ty hit hlt
          have hdl := decode_le s k
          obtain ⟨r, hr⟩ : ∃ r : Nat, (Utf8.decode s k).1 = r := ⟨_, rfl⟩
          have hb2 := Lib.below_iterAt hb (k := w.heap.size) (Nat.le_refl _) s (k + (Utf8.decode s k).2)
          obtain ⟨W1, hW1⟩ : ∃ W1, wr.iterAt w.heap.size s (k + (Utf8.decode s k).2) = W1 := ⟨_, rfl⟩
          rw [hW1] at hnx hb2
          rw [hr] at hnx hhi hdl
          have HE := Lib.hid (all_no hlt (by rw [HD.out]; simp; omega) HW.out)
          clear hcc hmod hr hW1
          go_wp2
          all_goals go_ret
          all_goals exact ⟨ret_bool (by rw [← HBB.out, HE.out]), hb2⟩
      · have hnx : ∀ ty, (Instr.next (.pointer (some ⟨w.heap.size, 0, none⟩)) true ty).run Tryz.prog wr = _ := fun ty => Lib.run_next_end_at wr w.heap.size s k ty hit hlt
        have HE := Lib.hid (all_end (by omega) HW.out)
        go_wp2
        all_goals go_ret
        all_goals exact ⟨ret_bool (by rw [← HBB.out, HE.out]), hb⟩
  · have he := empty_t hz
    have HN := Lib.hid (show allD s.data.toList = false by rw [nil_t hz]; rfl)
    go_enter Tryz.func63, Tryz.ntmps63
    go_wp2
    go_loopw [4] (fun _ wr => wr.heap[w.heap.size]? = some (.stringIter s 0) ∧ Below w.heap.size w wr) (fun _ wr => 0)
    case atStart => exact ⟨World.iter_heap w s 0, (Below.refl _ _).alloc (Nat.le_refl _) _⟩
    case round =>
      obtain ⟨hit, hb⟩ := hrel
      have hnx : ∀ ty, (Instr.next (.pointer (some ⟨w.heap.size, 0, none⟩)) true ty).run Tryz.prog wr = _ := fun ty => Lib.run_next_end_at wr w.heap.size s 0 ty hit hz
      go_wp2
      all_goals go_ret
      all_goals exact ⟨ret_bool (by rw [← HBB.out, HN.out]), hb⟩

theorem one_iff {n : Nat} (hn : n < pw 30) : decide (n = 1) = (decide (len n = 1) && decide (limb n 0 = 1)) := by
  have h0 : limb n 0 = n % 1000000000 := by unfold limb; rw [show pw 0 = 1 from rfl, Nat.div_one]
  have h1 := len_lt hn
  have hp1 : pw 1 = 1000000000 := rfl
  by_cases h : n = 1
  · subst h
    have : len 1 = 1 := by decide
    rw [this, h0]; rfl
  · rw [decide_eq_false h]
    by_cases hl : len n = 1
    · rw [hl, hp1] at h1
      rw [h0, Nat.mod_eq_of_lt h1]
      simp [h]
    · simp [hl]
set_option maxHeartbeats 2000000 in
theorem isOne_any (n : Nat) (hn : n < pw 30) (w : World) (b : Bool) (h : decide (n = 1) = b) :
    Calls Tryz.prog 105 #[.agg (mag n)] w fun e w' => e = .returned (.bool b) ∧ Below w.heap.size w w' := by
  have hb0 : BlockIs (w.alloc (.cells (mag n) 80)) w.heap.size 80 (magF (limb n) (len n)) := BlockIs.new w _ _
  have hbl : Below w.heap.size w (w.alloc (.cells (mag n) 80)) := (Below.refl _ _).alloc (Nat.le_refl _) _
  have c30 := (hb0.at 30).trans (magF_used _ _)
  have c0 := (hb0.at 0).trans (magF_get _ _ (by omega))
  have f0 := hb0.thawed 0
  rw [one_iff hn] at h
  obtain ⟨B, hB⟩ : ∃ B, w.heap.size = B := ⟨_, rfl⟩
  obtain ⟨W, hW⟩ : ∃ W, w.alloc (.cells (mag n) 80) = W := ⟨_, rfl⟩
  rw [hW, hB] at c30 c0 f0 hbl
  obtain ⟨u, hu⟩ : ∃ u, len n = u := ⟨_, rfl⟩
  obtain ⟨x, hx⟩ : ∃ x, limb n 0 = x := ⟨_, rfl⟩
  rw [hu] at c30 h
  rw [hx] at c0 h
  have HBL := Lib.hid hbl
  clear hbl hb0 hu hx hn
  by_cases h1 : u = 1
  · by_cases h2 : x = 1
    · subst h1 h2
      have HR := Lib.hid (show true = b by rw [← h]; rfl)
      clear h
      go_enter Tryz.func105, Tryz.ntmps105
      go_wp2
      all_goals go_ret
      all_goals exact ⟨ret_bool (by first | exact HR.out | (rw [← HR.out]; simp; omega)), hB ▸ HBL.out⟩
    · subst h1
      have HR := Lib.hid (show false = b by rw [← h]; simp [h2])
      clear h
      go_enter Tryz.func105, Tryz.ntmps105
      go_wp2
      all_goals go_ret
      all_goals exact ⟨ret_bool (by first | exact HR.out | (rw [← HR.out]; simp; omega)), hB ▸ HBL.out⟩
  · have HR := Lib.hid (show false = b by rw [← h]; simp [h1])
    clear h
    go_enter Tryz.func105, Tryz.ntmps105
    go_wp2
    all_goals go_ret
    all_goals exact ⟨ret_bool (by first | exact HR.out | (rw [← HR.out]; simp; omega)), hB ▸ HBL.out⟩
end Go.Proofs.YtjemolaobhlapaaGreatDoor

namespace Go.Proofs.YtjemolaobhlapaaGreatDoor
open Go.RowKit
set_option maxRecDepth 100000

/-- What Check answers. -/
def checkS (l : List UInt8) : Int :=
  if allD (Lib.trimPrefix l [45]) = false ∨ (1 < (Lib.trimPrefix l [45]).length ∧ (Lib.trimPrefix l [45]).head? = some 48) ∨ l = [45, 48] then 1
  else if 120 < (Lib.trimPrefix l [45]).length then 4 else 0
theorem head_at {d : ByteArray} (h : 0 < d.size) : d.data.toList.head? = some d[0] := by
  have := drop_cons d 0 h
  rw [List.drop_zero] at this
  rw [this]; rfl

set_option maxHeartbeats 2000000 in
theorem Check_any (s : ByteArray) (w : World) (r : Int) (hr : checkS s.data.toList = r) :
    Calls Tryz.prog 12 #[.string s] w fun e w' => e = .returned (.int .i64 r) ∧ Below w.heap.size w w' := by
  have HT := Lib.hid (fun W => Tryz.strings_TrimPrefix s ⟨#[45]⟩ W)
  obtain ⟨d, hd⟩ : ∃ d : ByteArray, (⟨(Lib.trimPrefix s.data.toList (ByteArray.mk #[45]).data.toList).toArray⟩ : ByteArray) = d := ⟨_, rfl⟩
  have hdl : Lib.trimPrefix s.data.toList [45] = d.data.toList := by rw [← hd]
  rw [hd] at HT
  unfold checkS at hr
  rw [hdl, show d.data.toList.length = d.size from (Lib.size_eq d).symm] at hr
  clear hd hdl
  obtain ⟨b, hb⟩ : ∃ b, allD d.data.toList = b := ⟨_, rfl⟩
  have HA := Lib.hid (fun W => allDigits_any d W b hb)
  have HB := Lib.hid hb
  rw [hb] at hr
  clear hb
  cases b
  · have HR := Lib.hid (show (1 : Int) = r by rw [← hr, if_pos (Or.inl rfl)])
    clear hr
    go_enter Tryz.func12, Tryz.ntmps12
    go_wp2_with (first | (go_at_call 60; refine (HT.out _).mono ?_; rintro e w1 ⟨rfl, rfl⟩) | (go_at_call 63; refine (HA.out _).mono ?_; rintro e w2 ⟨rfl, hb2⟩))
    all_goals go_ret
    all_goals exact ⟨ret_int HR.out, hb2⟩
  · have h0 : 0 < d.size := by
      rcases Nat.eq_zero_or_pos d.size with h | h
      · have := HB.out; rw [nil_t (by omega)] at this; exact absurd this (by decide)
      · exact h
    obtain ⟨c, hc⟩ : ∃ c : Nat, d[0].toNat = c := ⟨_, rfl⟩
    by_cases h1 : 1 < d.size ∧ c = 48
    · have HR := Lib.hid (show (1 : Int) = r by rw [← hr, if_pos (Or.inr (Or.inl ⟨h1.1, by rw [head_at h0]; congr 1; exact UInt8.toNat_inj.1 (by rw [hc, h1.2]; rfl)⟩))])
      obtain ⟨h1, rfl⟩ := h1
      clear hr
      go_enter Tryz.func12, Tryz.ntmps12
      go_wp2_with (first | (go_at_call 60; refine (HT.out _).mono ?_; rintro e w1 ⟨rfl, rfl⟩) | (go_at_call 63; refine (HA.out _).mono ?_; rintro e w2 ⟨rfl, hb2⟩))
      all_goals go_ret
      all_goals exact ⟨ret_int HR.out, hb2⟩
    · by_cases h2 : s = ⟨#[45, 48]⟩
      · have HR := Lib.hid (show (1 : Int) = r by rw [← hr, if_pos (Or.inr (Or.inr (by rw [h2])))])
        clear hr
        subst h2
        have h3 : ¬ (1 < d.size) ∨ ¬ (c = 48) := by omega
        clear h1
        rcases h3 with h3 | h3
        all_goals
          go_enter Tryz.func12, Tryz.ntmps12
          go_wp2_with (first | (go_at_call 60; refine (HT.out _).mono ?_; rintro e w1 ⟨rfl, rfl⟩) | (go_at_call 63; refine (HA.out _).mono ?_; rintro e w2 ⟨rfl, hb2⟩))
          all_goals go_ret
          all_goals exact ⟨ret_int HR.out, hb2⟩
      · have H2 := Lib.hid h2
        clear h2
        have h3 : ¬ (1 < d.size) ∨ ¬ (c = 48) := by omega
        have HH : ¬ (true = false ∨ (1 < d.size ∧ d.data.toList.head? = some 48) ∨ s.data.toList = [45, 48]) := by
          rintro (h | ⟨h, hh⟩ | h)
          · cases h
          · rw [head_at h0] at hh
            have : d[0] = 48 := by simpa using hh
            rw [this] at hc
            have : c = 48 := by rw [← hc]; rfl
            omega
          · refine H2.out ?_
            have h5 : s = ⟨s.data⟩ := rfl
            rw [h5, show s.data = #[45, 48] from by rw [← Array.toList_inj]; exact h]
        rw [if_neg HH] at hr
        clear h1 HH
        have hs0 : (s.toList == [45, 48]) = false := by
          rw [Lib.toList_data, Bool.eq_false_iff]
          intro h
          refine H2.out ?_
          have h5 : s = ⟨s.data⟩ := rfl
          have h6 : s.data.toList = [45, 48] := by simpa using h
          rw [h5, show s.data = #[45, 48] from by rw [← Array.toList_inj]; exact h6]
        by_cases h4 : 120 < d.size
        · have HR := Lib.hid (show (4 : Int) = r by rw [← hr, if_pos h4])
          clear hr
          rcases h3 with h3 | h3
          · omega
          · go_enter Tryz.func12, Tryz.ntmps12
            go_wp2_with (first | (go_at_call 60; refine (HT.out _).mono ?_; rintro e w1 ⟨rfl, rfl⟩) | (go_at_call 63; refine (HA.out _).mono ?_; rintro e w2 ⟨rfl, hb2⟩))
            all_goals go_ret
            all_goals exact ⟨ret_int HR.out, hb2⟩
        · have HR := Lib.hid (show (0 : Int) = r by rw [← hr, if_neg h4])
          clear hr
          rcases h3 with h3 | h3
          all_goals
            go_enter Tryz.func12, Tryz.ntmps12
            go_wp2_with (first | (go_at_call 60; refine (HT.out _).mono ?_; rintro e w1 ⟨rfl, rfl⟩) | (go_at_call 63; refine (HA.out _).mono ?_; rintro e w2 ⟨rfl, hb2⟩))
            all_goals go_ret
            all_goals exact ⟨ret_int HR.out, hb2⟩

set_option maxHeartbeats 2000000 in
theorem finish_ok (s : Bool) (n : Nat) (hn : n < pw 30) (hd : Lib.nDigits n ≤ 120) (w : World) :
    Calls Tryz.prog 75 #[.agg (sig s n)] w fun e w' => e = .returned (.tuple #[.string (bs (numeral s n)), .int .i64 0]) ∧ Below w.heap.size w w' := by
  obtain ⟨B, hB⟩ : ∃ B, w.heap.size = B := ⟨_, rfl⟩
  obtain ⟨W, hW⟩ : ∃ W, w.alloc (.cells (sig s n) 82) = W := ⟨_, rfl⟩
  have HH := Lib.hid (show BlockIs W B 82 (sigF (limb n) (len n) s) ∧ Below B w W by
    rw [← hW, ← hB]
    exact ⟨BlockIs.new _ _ _, (Below.refl _ _).alloc (Nat.le_refl _) _⟩)
  have HS := Lib.hid (fun W => size_any n hn W)
  have HT := Lib.hid (fun W => text_any s n hn W)
  obtain ⟨D, hD⟩ : ∃ D, Lib.nDigits n = D := ⟨_, rfl⟩
  rw [hD] at HS hd
  clear hD hn
  go_enter Tryz.func75, Tryz.ntmps75
  go_wp2_with (first | ((with_reducible refine wpSM_load (.tmp 4) B ?_ HH.out.1 ?_); rfl) | (go_at_call 91; refine (HS.out _).mono ?_; rintro e w2 ⟨rfl, hb2⟩; have HH2 := Lib.hid (And.intro (HH.out.1.below hb2 HH.out.1.lt) (HH.out.2.trans (hb2.mono (by have := HH.out.1.lt; omega))))) | ((with_reducible refine wpS_load (.tmp 1) B ?_ HH2.out.1 ?_); rfl) | (go_at_call 134; refine (HT.out _).mono ?_; rintro e w3 ⟨rfl, hb3⟩; have HB3 := Lib.hid (HH2.out.2.trans (hb3.mono (by have := HH2.out.1.lt; omega)))))
  go_ret2
  exact ⟨rfl, hB ▸ HB3.out⟩
set_option maxHeartbeats 2000000 in
theorem finish_large (s : Bool) (n : Nat) (hn : n < pw 30) (hd : 120 < Lib.nDigits n) (w : World) :
    Calls Tryz.prog 75 #[.agg (sig s n)] w fun e w' => e = .returned (.tuple #[.string ⟨#[]⟩, .int .i64 4]) ∧ Below w.heap.size w w' := by
  obtain ⟨B, hB⟩ : ∃ B, w.heap.size = B := ⟨_, rfl⟩
  obtain ⟨W, hW⟩ : ∃ W, w.alloc (.cells (sig s n) 82) = W := ⟨_, rfl⟩
  have HH := Lib.hid (show BlockIs W B 82 (sigF (limb n) (len n) s) ∧ Below B w W by
    rw [← hW, ← hB]
    exact ⟨BlockIs.new _ _ _, (Below.refl _ _).alloc (Nat.le_refl _) _⟩)
  have HS := Lib.hid (fun W => size_any n hn W)
  obtain ⟨D, hD⟩ : ∃ D, Lib.nDigits n = D := ⟨_, rfl⟩
  rw [hD] at HS hd
  clear hD hn
  go_enter Tryz.func75, Tryz.ntmps75
  go_wp2_with (first | ((with_reducible refine wpSM_load (.tmp 4) B ?_ HH.out.1 ?_); rfl) | (go_at_call 91; refine (HS.out _).mono ?_; rintro e w2 ⟨rfl, hb2⟩; have HB3 := Lib.hid (HH.out.2.trans (hb2.mono (by have := HH.out.1.lt; omega)))))
  go_ret2
  exact ⟨rfl, hB ▸ HB3.out⟩

theorem wpSM_loadG {ops : Array Oper} {rest : List Oper} {a : Act} {w : World} {Q : Exit → Act → World → Prop} {d : Option Tmp} {ty : TypeId} {pos : String} {after : Array _} {gd : Option _} (x : Operand) (B : Nat) {f : Nat → Nat} {u : Nat} {s : Bool}
    (hw : Region.wanted { dst := d, op := .load 80 x, type := ty, pos := pos, after := after, guard := gd } (yielded ops a.tmps) = true)
    (hx : a.eval x = .pointer (some ⟨B, 0, none⟩)) (hB : BlockIs w B 82 (sigF f u s)) (h : wpList Tryz.prog ops Q rest (a.put d (.agg (magF f u))) w) :
    wpList Tryz.prog ops Q ({ dst := d, op := .load 80 x, type := ty, pos := pos, after := after, guard := gd } :: rest) a w :=
  BigFrame.wpList_want hw fun _ hK => wp_load_mid 80 x rfl B 0 hx (magL f u) _ (sig_range hB) Tryz.underlying80 rfl (infoLM f u) (hK _ _ h)
set_option maxHeartbeats 4000000 in
theorem finishPair_ok (s t : Bool) (a b : Nat) (ha : a < pw 30) (hb : b < pw 30) (hda : Lib.nDigits a ≤ 120) (hdb : Lib.nDigits b ≤ 120) (w : World) :
    Calls Tryz.prog 87 #[.agg (sig s a), .agg (sig t b)] w fun e w' => e = .returned (.tuple #[.string (bs (numeral s a)), .string (bs (numeral t b)), .int .i64 0]) ∧ Below w.heap.size w w' := by
  obtain ⟨B, hB⟩ : ∃ B, w.heap.size = B := ⟨_, rfl⟩
  obtain ⟨W, hW⟩ : ∃ W, (w.alloc (.cells (sig s a) 82)).alloc (.cells (sig t b) 82) = W := ⟨_, rfl⟩
  have HH := Lib.hid (Sg.start hB hW)
  have HSA := Lib.hid (fun W => size_any a ha W)
  have HSB := Lib.hid (fun W => size_any b hb W)
  have HTA := Lib.hid (fun W => text_any s a ha W)
  have HTB := Lib.hid (fun W => text_any t b hb W)
  obtain ⟨D, hD⟩ : ∃ D, Lib.nDigits a = D := ⟨_, rfl⟩
  obtain ⟨E, hE⟩ : ∃ E, Lib.nDigits b = E := ⟨_, rfl⟩
  rw [hD] at HSA hda
  rw [hE] at HSB hdb
  obtain ⟨x, hx⟩ : ∃ x, bs (numeral s a) = x := ⟨_, rfl⟩
  obtain ⟨y, hy⟩ : ∃ y, bs (numeral t b) = y := ⟨_, rfl⟩
  rw [hx] at HTA ⊢
  rw [hy] at HTB ⊢
  clear hD hE ha hb hx hy
  have hdd : decide ((120 : Int) < (D : Int)) = false := by simp; omega
  go_enter Tryz.func87, Tryz.ntmps87
  go_wp2_with (first | ((with_reducible refine wpSM_load (.tmp 7) B ?_ HH.out.b0 ?_); rfl) | (go_at_call 91; (with_reducible refine (HSA.out _).mono ?_); rintro e w2 ⟨rfl, hb2⟩; have HH2 := Lib.hid (HH.out.below hb2)) | ((with_reducible refine wpSM_loadG (.tmp 12) (B + 1) ?_ ?_ HH2.out.b1 ?_); rfl; rfl) | (go_at_call 91; (with_reducible refine (HSB.out _).mono ?_); rintro e w3 ⟨rfl, hb3⟩; have HH3 := Lib.hid (HH2.out.below hb3)))
  clear hW
  have hS0 : Sg w B s a t b w3.drew := ⟨HH3.out.b0.drew, HH3.out.b1.drew, HH3.out.bl.drew⟩
  refine wp_region_held_drew (S := fun w' => Sg w B s a t b w') (by kernel_rfl) hS0 (fun hS => ?_)
  refine wpAnyH_take (i := 0) rfl (by kernel_rfl) (by kernel_rfl) (by kernel_rfl) (fun _ _ _ h => h) (yS_load rfl (.tmp 2) rfl B rfl (fun w' h => h.b0)) hS ?_
  try simp only [A1, A2, A3, Act.put, A4, A5, A6]
  refine wpAnyH_take (i := 2) rfl (by kernel_rfl) (by kernel_rfl) (by kernel_rfl) (fun _ _ _ h => h) (yS_load rfl (.tmp 3) rfl (B + 1) rfl (fun w' h => h.b1)) hS ?_
  try simp only [A1, A2, A3, Act.put, A4, A5, A6]
  refine wpAnyH_ready (rs := [1]) (by kernel_rfl) (by simp) (AllReadyH.cons rfl (fun K hK => ?_) AllReadyH.nil)
  go_simp
  go_at_call 134
  refine (HTA.out _).mono ?_
  rintro e w4 ⟨rfl, hb4⟩
  have hS4 := hS.below hb4
  clear hS
  refine hK.out _ _ hS4 (fun hS => ?_)
  clear hK K
  try simp only [A1, A2, A3, Act.put, A4, A5, A6]
  refine wpAnyH_ready (rs := [3]) (by kernel_rfl) (by simp) (AllReadyH.cons rfl (fun K hK => ?_) AllReadyH.nil)
  go_simp
  go_at_call 134
  refine (HTB.out _).mono ?_
  rintro e w5 ⟨rfl, hb5⟩
  have hS5 := hS4.below hb5
  clear hS
  refine hK.out _ _ hS5 (fun hS => ?_)
  clear hK K
  try simp only [A1, A2, A3, Act.put, A4, A5, A6]
  refine wpAnyH_take (i := 4) (v := .string x) rfl (by kernel_rfl) (by kernel_rfl) (by kernel_rfl) (fun _ _ _ h => h) (Or.inl ⟨by rfl, fun w' _ => by rfl⟩) hS ?_
  try simp only [A1, A2, A3, Act.put, A4, A5, A6]
  refine wpAnyH_take (i := 5) (v := .string y) rfl (by kernel_rfl) (by kernel_rfl) (by kernel_rfl) (fun _ _ _ h => h) (Or.inl ⟨by rfl, fun w' _ => by rfl⟩) hS ?_
  try simp only [A1, A2, A3, Act.put, A4, A5, A6]
  refine wpAnyH_take (i := 6) (v := .int .i64 0) rfl (by kernel_rfl) (by kernel_rfl) (by kernel_rfl) (fun _ _ _ h => h) (Or.inl ⟨by rfl, fun w' _ => by rfl⟩) hS ?_
  try simp only [A1, A2, A3, Act.put, A4, A5, A6]
  refine wpAnyH_done (by kernel_rfl) ?_ _
  go_wp2
  go_ret3
  exact ⟨rfl, hB ▸ hS5.bl⟩
end Go.Proofs.YtjemolaobhlapaaGreatDoor
