/- The law on joined texts. -/
import Derived.Test.YtfilmombflohpaaK3
import Derived.Test.YtfilmombflohpaaT1
import Derived.Test.YtfilmombflohpaaL16
set_option linter.unusedSimpArgs false
set_option linter.unusedVariables false
namespace Go.Proofs.Ytfilmombflohpaa
open Go.RowKit Go.ChangeMaps Go.WideMaps Go.Shelf
set_option maxRecDepth 100000

set_option maxHeartbeats 4000000 in
theorem returns_long (xs : List Span) (v : Value) (w : World) (hm : ML w) (hn : xs.length ≤ maxLen) (h : ArgRow w v xs) (hs : shortB xs = false) :
    Calls Try.prog 5 #[v] w fun e w' => e = .returned (.bool true) ∧ Below w.heap.size w w' := by
  have HS := Lib.hid (short_any xs v w hn h)
  rw [hs] at HS
  have HM := Lib.hid hm
  clear h hs hm hn
  go_enter Try.func5, Try.ntmps5
  go_wp2_with fail
  refine HS.out.mono ?_
  rintro e w1 ⟨rfl, hb1⟩
  have HB1 := Lib.hid hb1
  have HM1 := Lib.hid (HM.out.below hb1 HM.out.lt)
  clear hb1
  go_wp2_with fail
  refine (awake_any _ HM1.out).mono ?_
  rintro e w2 ⟨rfl, hb2⟩
  have HB2 := Lib.hid (HB1.out.trans (hb2.mono HB1.out.size))
  clear hb2
  go_wp2_with fail
  go_ret
  exact ⟨rfl, HB2.out⟩

set_option maxHeartbeats 4000000 in
theorem returns_bad (xs : List Span) (v : Value) (w : World) (hm : ML w) (hn : xs.length ≤ 80) (ht : ∀ x ∈ xs, x.text.length ≤ 200) (h : ArgRow w v xs) (hs : shortB xs = true) (hf : firstE (xs.map checkE) ≠ 0) :
    Calls Try.prog 5 #[v] w fun e w' => e = .returned (.bool true) ∧ Below w.heap.size w w' := by
  have HS := Lib.hid (short_any xs v w (by unfold maxLen; omega) h)
  rw [hs] at HS
  have HJ := Lib.hid (fun u N W hr hW => join_any spans1 xs u N W hn ht hr hW)
  rw [show joinV xs = .tuple #[.string (mk []), .int .i64 (firstE (xs.map checkE))] by unfold joinV; rw [if_neg hf]] at HJ
  obtain ⟨q, hq⟩ : ∃ q, firstE (xs.map checkE) = q := ⟨_, rfl⟩
  rw [hq] at HJ hf
  have hqb : (q != 0) = true := by simpa using hf
  have HM := Lib.hid hm
  have HA := Lib.hid h
  have HN := Lib.hid hn
  clear h hs hm hq hf ht hn
  go_enter Try.func5, Try.ntmps5
  go_wp2_with fail
  refine HS.out.mono ?_
  rintro e w1 ⟨rfl, hb1⟩
  have HB1 := Lib.hid hb1
  have HM1 := Lib.hid (HM.out.below hb1 HM.out.lt)
  have HA1 := Lib.hid (HA.out.below hb1)
  clear hb1
  go_wp2_with fail
  refine (theirs_any xs v _ HN.out HA1.out).mono ?_
  rintro e w2 ⟨v2, rfl, hr2, hb2⟩
  have HR2 := Lib.hid hr2
  have HB2 := Lib.hid (HB1.out.trans (hb2.mono HB1.out.size))
  have HM2 := Lib.hid (HM1.out.below hb2 HM1.out.lt)
  clear hb2 hr2
  go_wp2_with fail
  refine (HJ.out _ _ _ HR2.out HM2.out).mono ?_
  rintro e w3 ⟨rfl, hb3⟩
  have HB3 := Lib.hid (HB2.out.trans (hb3.mono HB2.out.size))
  have HM3 := Lib.hid (HM2.out.below hb3 HM2.out.lt)
  clear hb3
  go_wp2_with fail
  refine (awake_any _ HM3.out).mono ?_
  rintro e w4 ⟨rfl, hb4⟩
  have HB4 := Lib.hid (HB3.out.trans (hb4.mono HB3.out.size))
  clear hb4
  go_wp2_with fail
  go_ret
  exact ⟨rfl, HB4.out⟩

set_option maxHeartbeats 16000000 in
theorem returns_good (xs : List Span) (v : Value) (w : World) (hm : ML w) (hn : xs.length ≤ 80) (ht : ∀ x ∈ xs, x.text.length ≤ 200) (h : ArgRow w v xs) (hs : shortB xs = true) (hf : firstE (xs.map checkE) = 0) :
    Calls Try.prog 5 #[v] w fun e w' => e = .returned (.bool true) ∧ Below w.heap.size w w' := by
  have HS := Lib.hid (short_any xs v w (by unfold maxLen; omega) h)
  rw [hs] at HS
  have hgood : ∀ x ∈ xs, Good x := fun x hx => checkE_good (firstE_zero hf _ (List.mem_map_of_mem hx))
  obtain ⟨P, hP⟩ : ∃ P, placeL xs = P := ⟨_, rfl⟩
  obtain ⟨hwd, he0, hjv⟩ := place_all xs
  have hsp := spans_placed hgood
  have hli := lie_all xs
  have hjl := joinL_len (l := xs) ht
  rw [hP] at hwd he0 hjv hsp hli
  have hPt : ∀ y ∈ P, y.text.length ≤ 200 := by
    intro y hy
    obtain ⟨i, hi⟩ := List.getElem?_of_mem hy
    have hil : i < xs.length := by rw [← hwd.1]; exact (List.getElem?_eq_some_iff.1 hi).1
    obtain ⟨x, hx⟩ : ∃ x, xs[i]? = some x := ⟨xs[i], List.getElem?_eq_getElem hil⟩
    rw [(hwd.2 i y x hi hx).2]
    exact ht x (List.mem_of_getElem? hx)
  have hjx : joinV xs = .tuple #[.string (mk (joinL xs)), .int .i64 0] := by unfold joinV; rw [if_pos hf]
  have HJ := Lib.hid (fun u N W hr hW => join_any spans1 xs u N W hn ht hr hW)
  have HJ2 := Lib.hid (fun u N W hr hW => join_any spans1 P u N W (by rw [hwd.1]; exact hn) hPt hr hW)
  rw [hjx] at HJ
  rw [hjv, hjx] at HJ2
  obtain ⟨J, hJ⟩ : ∃ J, joinL xs = J := ⟨_, rfl⟩
  rw [hJ] at hsp hli hjl HJ HJ2
  have hJ2 : J.length ≤ 16080 := by omega
  obtain ⟨s, hse⟩ : ∃ s, mk J = s := ⟨_, rfl⟩
  have hss : s.size = J.length := by rw [← hse]; rfl
  have hsd : s.data.toList = J := by rw [← hse]
  have hres : resT s = (P, 0, 0) := by
    have hq : spansT s s.data.toList 0 = P := by rw [hsd, ← hse]; exact hsp
    rw [resT_good (by omega) (by rw [hq]; exact he0), hq]
  have HTK := Lib.hid (fun W hW => tokens_res spans1 s W hW (by omega))
  unfold ResPost at HTK
  rw [hres] at HTK
  dsimp only at HTK
  rw [hse] at HJ HJ2
  obtain ⟨n, hxn⟩ : ∃ n, xs.length = n := ⟨_, rfl⟩
  have hPn : P.length = n := hwd.1.trans hxn
  have HM := Lib.hid hm
  have HA := Lib.hid h
  have HW := Lib.hid hwd
  have HNX := Lib.hid hxn
  have HNP := Lib.hid hPn
  have HLI := Lib.hid hli
  have HSE := Lib.hid hse
  have HN := Lib.hid hn
  rw [hxn] at hn
  have HSS := Lib.hid hss
  have hsz : s.size ≤ 16080 := by omega
  clear h hs hm hf ht hP he0 hjv hsp hjl hPt hjx hJ hJ2 hse hss hsd hres hgood hxn hPn hli hwd
  go_enter Try.func5, Try.ntmps5
  go_wp2_with fail
  refine HS.out.mono ?_
  rintro e w1 ⟨rfl, hb1⟩
  have HB1 := Lib.hid hb1
  have HM1 := Lib.hid (HM.out.below hb1 HM.out.lt)
  have HA1 := Lib.hid (HA.out.below hb1)
  clear hb1
  go_wp2_with fail
  refine (theirs_any xs v _ HN.out HA1.out).mono ?_
  rintro e w2 ⟨v2, rfl, hr2, hb2⟩
  have HR2 := Lib.hid hr2
  have HB2 := Lib.hid (HB1.out.trans (hb2.mono HB1.out.size))
  have HM2 := Lib.hid (HM1.out.below hb2 HM1.out.lt)
  have HA2 := Lib.hid (HA1.out.below hb2)
  clear hb2 hr2
  go_wp2_with fail
  refine (HJ.out _ _ _ HR2.out HM2.out).mono ?_
  rintro e w3 ⟨rfl, hb3⟩
  have HB3 := Lib.hid (HB2.out.trans (hb3.mono HB2.out.size))
  have HM3 := Lib.hid (HM2.out.below hb3 HM2.out.lt)
  have HA3 := Lib.hid (HA2.out.below hb3)
  clear hb3
  go_wp2_with fail
  refine (HTK.out _ HM3.out).mono ?_
  rintro e w4 ⟨v4, rfl, hr4, hb4⟩
  have HR4 := Lib.hid hr4
  have HB4 := Lib.hid (HB3.out.trans (hb4.mono HB3.out.size))
  have HM4 := Lib.hid (HM3.out.below hb4 HM3.out.lt)
  have HA4 := Lib.hid (HA3.out.below hb4)
  clear hb4 hr4
  go_wp2_with fail
  refine (ours_any P _ _ _ (by rw [HNP.out]; omega) HR4.out).mono ?_
  rintro e w5 ⟨v5, rfl, hr5, hb5⟩
  have HR5 := Lib.hid (TokRow.of hr5)
  have HR45 := Lib.hid (ownsRow_below HR4.out hb5)
  have HB5 := Lib.hid (HB4.out.trans (hb5.mono HB4.out.size))
  have HM5 := Lib.hid (HM4.out.below hb5 HM4.out.lt)
  have HA5 := Lib.hid (HA4.out.below hb5)
  clear hb5 hr5
  go_wp2_with fail
  refine (sameWords_any P xs _ _ _ HN.out HW.out ?hrow HA5.out).mono ?_
  case hrow =>
    rcases HR5.out with ⟨rfl, h0⟩ | ⟨g, cap, rfl, hg⟩
    · exact ⟨none, 0, by rw [h0], .inl h0⟩
    · exact ⟨_, cap, rfl, .inr ⟨g, rfl, hg⟩⟩
  rintro e w6 ⟨rfl, n6, hw6⟩
  have HB6 : Hid (Below w.heap.size w w6) := hw6 ▸ below_drewN HB5.out n6
  have HM6 : Hid (ML w6) := hw6 ▸ HM5.out.below (below_drewN (Below.refl _ _) n6) HM5.out.lt
  have HR6 : Hid (w6.ownsRow w3.heap.size 47 3 v4 P.length (tokCells P)) := hw6 ▸ ownsRow_below HR45.out (below_drewN (Below.refl _ _) n6)
  clear hw6
  obtain ⟨o, cap, rfl, hrow⟩ : ∃ o cap, v4 = .slice o n cap ∧ (n = 0 ∨ ∃ g, o = some ⟨g, 0, none⟩ ∧ ∀ i u, (tokCells P)[i]? = some u → w6.cell? ⟨g, i, none⟩ = some u) := by
    have := TokRow.of HR6.out
    rcases this with ⟨rfl, h0⟩ | ⟨g, cap, rfl, hg⟩
    · exact ⟨none, 0, by rw [← HNP.out, h0], .inl (by rw [← HNP.out, h0])⟩
    · exact ⟨_, cap, by rw [HNP.out], .inr ⟨g, rfl, hg⟩⟩
  have HROW := Lib.hid hrow
  have HZ0 := Lib.hid (Below.refl w6.heap.size w6)
  clear hrow HR5 HR45 HA5 HA4 HA3 HA2 HA1 HB5 HB4 HB3 HB2 HB1 HM5 HM4 HM3 HM2 HM1 HR4 HR2
  go_wp2_with fail
  go_loopw [8, 47] (fun en i wr => ∃ k e : Nat, k ≤ n ∧ i = .int .i64 k ∧ en = .int .i64 e ∧ e ≤ 16080 ∧ Hid (Lie J e (P.drop k)) ∧ Hid (Below w6.heap.size w6 wr)) (fun _ i _ => n - (intOf i).toNat)
  case atStart => exact ⟨0, 0, Nat.zero_le _, rfl, rfl, by omega, by rw [List.drop_zero]; exact HLI, HZ0⟩
  case round =>
    clear HZ0
    obtain ⟨k, en, hk, rfl, rfl, hen, HL, HZ⟩ := hrel
    by_cases hlt : k < n
    · obtain ⟨y, hy⟩ : ∃ y, P[k]? = some y := ⟨P[k]'(by have := HNP.out; omega), List.getElem?_eq_getElem (by have := HNP.out; omega)⟩
      have hdr : P.drop k = y :: P.drop (k + 1) := by
        have hkl : k < P.length := by have := HNP.out; omega
        rw [List.drop_eq_getElem_cons hkl]
        rw [List.getElem?_eq_getElem hkl] at hy
        rw [Option.some.inj hy]
      have hl := HL.out
      rw [hdr] at hl
      obtain ⟨p, hya, h1, h2, h3, h4, h5⟩ := hl
      obtain ⟨e0, e1, e2⟩ := tokCells_get hy
      obtain ⟨g, rfl, hg⟩ : ∃ g, o = some ⟨g, 0, none⟩ ∧ ∀ i u, (tokCells P)[i]? = some u → w6.cell? ⟨g, i, none⟩ = some u := by
        rcases HROW.out with h | h
        · omega
        · exact h
      rw [hya] at e2
      have c0 := (HZ.out.cell (lt_of_cell (hg _ _ e0))).trans (hg _ _ e0)
      have c1 := (HZ.out.cell (lt_of_cell (hg _ _ e1))).trans (hg _ _ e1)
      have c2 := (HZ.out.cell (lt_of_cell (hg _ _ e2))).trans (hg _ _ e2)
      obtain ⟨t, hte⟩ : ∃ t, mk y.text = t := ⟨_, rfl⟩
      have htl : t.size = y.text.length := by rw [← hte]; rfl
      have hext : s.extract p (p + t.size) = t := by
        rw [← HSE.out, extract_mk, ← hte]
        show mk ((J.drop p).take y.text.length) = _
        rw [h4]
      rw [← htl] at h3 h5
      rw [← HSS.out] at h3
      rw [hte] at c1
      obtain ⟨q, hq⟩ : ∃ q, p + t.size = q := ⟨_, rfl⟩
      rw [hq] at h3 h5 hext
      obtain ⟨tz, htz⟩ : ∃ z, t.size = z := ⟨_, rfl⟩
      rw [htz] at hq
      have HL2 := Lib.hid h5
      have HQ := Lib.hid hq
      clear hy hdr h4 h5 e0 e1 e2 hg hya hte htl
      have hwr : IntKind.i64.wrap ((p : Int) + (tz : Int)) = (q : Int) := by rw [show (p : Int) + (tz : Int) = (q : Int) by omega]; exact IntWalk.i64_in _ (by omega)
      have hpq : p ≤ q := by omega
      have hd1 : decide (p < en) = false := by simp; omega
      have hd2 : decide ((en : Int) + 1 < (p : Int)) = false := by simp; omega
      have hd3 : decide (s.size < q) = false := by simp; omega
      go_wp2_with fail
      obtain ⟨N, hN⟩ : ∃ N, wr.heap.size = N := ⟨_, rfl⟩
      obtain ⟨W1, hW1⟩ : ∃ W', wr.alloc (.cells #[.int .i64 y.kind, .string t, .int .i64 p] 47) = W' := ⟨_, rfl⟩
      rw [hW1, hN]
      have HZ1 := Lib.hid (show Below w6.heap.size w6 W1 by rw [← hW1]; exact HZ.out.alloc HZ.out.size _)
      have hN1 : W1.heap[N]? = some (.cells #[.int .i64 y.kind, .string t, .int .i64 p] 47 (0, 0)) := by rw [← hW1, ← hN]; show (wr.heap.push _)[wr.heap.size]? = _; simp
      have d0 : W1.cell? ⟨N, 0, none⟩ = some (.int .i64 y.kind) := by rw [Lib.cell_of_heap hN1]; rfl
      have d1 : W1.cell? ⟨N, 1, none⟩ = some (.string t) := by rw [Lib.cell_of_heap hN1]; rfl
      have d2 : W1.cell? ⟨N, 2, none⟩ = some (.int .i64 p) := by rw [Lib.cell_of_heap hN1]; rfl
      clear hW1 hN1 c0 c1 c2 hN HROW HR6
      go_quiet (fail)
      obtain ⟨W2, hW2⟩ : ∃ W', W1.drewN nq = W' := ⟨_, rfl⟩
      rw [hW2]
      have HZ2 := Lib.hid (show Below w6.heap.size w6 W2 by rw [← hW2]; exact below_dN HZ1.out nq)
      have g1 : W2.cell? ⟨N, 1, none⟩ = some (.string t) := by rw [← hW2]; exact d1
      have g2 : W2.cell? ⟨N, 2, none⟩ = some (.int .i64 p) := by rw [← hW2]; exact d2
      clear hW2 d0 d1 d2 hd1 hd2 hd3 hext
      go_wp2_with fail
      go_roundw
      case rel => exact ⟨k + 1, q, by omega, by go_num, rfl, by omega, HL2, HZ2⟩
      case measure => simp [intOf]; omega
    · obtain rfl : k = n := by omega
      have hl := HL.out
      rw [List.drop_eq_nil_of_le (Nat.le_of_eq HNP.out)] at hl
      have hen2 : en = s.size := by rw [HSS.out]; exact hl
      subst hen2
      have HZb := Lib.hid (HB6.out.trans (HZ.out.mono HB6.out.size))
      have HMr := Lib.hid (HM6.out.below HZ.out HM6.out.lt)
      have hrr := ownsRow_below HR6.out HZ.out
      have HRR := Lib.hid hrr
      clear hl hrr
      go_wp2_with fail
      refine (HJ2.out _ _ _ HRR.out HMr.out).mono ?_
      rintro e w7 ⟨rfl, hb7⟩
      have HB7 := Lib.hid (HZb.out.trans (hb7.mono HZb.out.size))
      have HM7 := Lib.hid (HMr.out.below hb7 HMr.out.lt)
      clear hb7
      go_wp2_with fail
      refine (awake_any _ HM7.out).mono ?_
      rintro e w8 ⟨rfl, hb8⟩
      have HB8 := Lib.hid (HB7.out.trans (hb8.mono HB7.out.size))
      clear hb8
      go_wp2_with fail
      go_ret
      exact ⟨rfl, HB8.out⟩

theorem shortB_iff {xs : List Span} (h : shortB xs = true) : xs.length ≤ 80 ∧ ∀ x ∈ xs, x.text.length ≤ 200 := by
  unfold shortB at h
  rw [Bool.and_eq_true, List.all_eq_true] at h
  exact ⟨by simpa using h.2, fun x hx => by simpa using h.1 x hx⟩

theorem returns_law (xs : List Span) (v : Value) (w : World) (hm : ML w) (hn : xs.length ≤ maxLen) (h : ArgRow w v xs) :
    Calls Try.prog 5 #[v] w fun e w' => e = .returned (.bool true) ∧ Below w.heap.size w w' := by
  cases hs : shortB xs with
  | false => exact returns_long xs v w hm hn h hs
  | true =>
    obtain ⟨h1, h2⟩ := shortB_iff hs
    by_cases hf : firstE (xs.map checkE) = 0
    · exact returns_good xs v w hm h1 h2 h hs hf
    · exact returns_bad xs v w hm h1 h2 h hs hf
end Go.Proofs.Ytfilmombflohpaa
