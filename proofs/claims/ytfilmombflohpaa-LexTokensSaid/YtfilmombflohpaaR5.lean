/- The reference's reading of a word. -/
import Derived.Test.YtfilmombflohpaaR4
set_option linter.unusedSimpArgs false
set_option linter.unusedVariables false
namespace Go.Proofs.Ytfilmombflohpaa
open Go.RowKit Go.ChangeMaps Go.WideMaps
set_option maxRecDepth 100000

/-- A token that was read, or an error. -/
def tokR (l : List UInt8) (q : Int × Int × Int) (at_ : Int) : Value :=
  if q.2.2 = 0 then .tuple #[.agg #[.int .i64 q.1, .string (mk (l.take q.2.1.toNat)), .int .i64 at_], .int .i64 0]
  else .tuple #[.agg #[.int .i64 0, .string (mk []), .int .i64 0], .int .i64 q.2.2]

theorem wordL_take (l : List UInt8) : wordL l = l.take (wlen l) := by
  cases l with
  | nil => rfl
  | cons c r =>
    show (if isLetterI (c.toNat : Int) then (c :: r).take (countL isPartI (c :: r)) else []) = (c :: r).take (if isLetterI (c.toNat : Int) = true then countL isPartI (c :: r) else 0)
    split <;> simp
theorem tokR_ok {l : List UInt8} {q : Int × Int × Int} {s : ByteArray} {n : Nat} {k a : Int} (hq : q = (k, (n : Int), 0)) (hs : s.data.toList = l.take n) :
    Ending.returned (.tuple #[.agg #[.int .i64 k, .string s, .int .i64 a], .int .i64 0]) = .returned (tokR l q a) := by
  have e : s = mk (l.take n) := Go.WideShapes.bytes_inj (by rw [hs])
  subst hq
  unfold tokR
  rw [if_pos rfl, e]
  simp
theorem tokR_bad {l : List UInt8} {q : Int × Int × Int} {e a : Int} (hq : q = (0, 0, e)) (he : e ≠ 0) :
    Ending.returned (.tuple #[.agg #[.int .i64 0, .string (mk []), .int .i64 0], .int .i64 e]) = .returned (tokR l q a) := by
  subst hq
  unfold tokR
  rw [if_neg he]
theorem wlen_le (l : List UInt8) : wlen l ≤ l.length := by rw [← wordL_len]; exact wordL_le l

set_option maxHeartbeats 4000000 in
theorem rNamed_any (s : ByteArray) (at_ : Int) (w : World) (hs : s.size ≤ 65536) :
    Calls Try.prog 50 #[.string s, .int .i64 at_] w fun e w' => e = .returned (tokR s.data.toList (namedK s.data.toList) at_) ∧ Below w.heap.size w w' := by
  have hms : s.size ≤ maxLen := by unfold maxLen; omega
  have H1 := fun W => Lib.hid (rWord_any s W hms)
  have hn := wlen_le s.data.toList
  rw [← Lib.size_eq] at hn
  have hwt := wordL_take s.data.toList
  have hwl := wordL_len s.data.toList
  have hQ := namedK_open s.data.toList
  obtain ⟨q, hq⟩ : ∃ q, namedK s.data.toList = q := ⟨_, rfl⟩
  rw [hq] at hQ ⊢
  obtain ⟨n, hnn⟩ : ∃ n, wlen s.data.toList = n := ⟨_, rfl⟩
  rw [hnn] at hn hwt hwl H1
  rw [hwl] at hQ
  have hxd : (s.extract 0 n).data.toList = wordL s.data.toList := by rw [head_data, hwt]
  have hxs : (s.extract 0 n).size = n := by simp; omega
  obtain ⟨x, hx⟩ : ∃ x, s.extract 0 n = x := ⟨_, rfl⟩
  clear hq hnn
  by_cases h24 : 24 < n
  · rw [if_pos h24] at hQ
    have HQ := Lib.hid hQ
    have HX := Lib.hid hx
    have HXS := Lib.hid hxs
    have HXD := Lib.hid hxd
    clear hQ hx hxs hxd hwt hwl
    go_enter Try.func50, Try.ntmps50
    go_wp2_with (go_at_call 49; refine (H1 _).out.mono ?_; rintro e W ⟨rfl, rfl⟩)
    refine bodyPost_ret (v := .tuple #[.agg #[.int .i64 0, .string (mk []), .int .i64 0], .int .i64 6]) (by simp [results, Try.results50, go_sem]) rfl ⟨tokR_bad HQ.out (by decide), ?_⟩
    exact (Below.refl _ w).alloc (Nat.le_refl _) _
  · rw [if_neg h24] at hQ
    have hb0 : Below w.heap.size w (w.alloc (.cells #[.int .i64 0, .string (mk []), .int .i64 0] 51)) := (Below.refl _ w).alloc (Nat.le_refl _) _
    have H2 := fun W => Lib.hid (rUpper_any (s.extract 0 n) W (by rw [hxs]; omega))
    have H3 := fun W => Lib.hid (rKeyword_any (s.extract 0 n) W (by rw [hxs]; omega))
    rw [hxd] at H2 H3
    have hk : kwOr s.data.toList = ((if isKeywordL kwL (wordL s.data.toList) = true then (1 : Int) else 0), (n : Int), (0 : Int)) := by
      show ((if isKeywordL kwL (wordL s.data.toList) = true then (1 : Int) else 0), ((wordL s.data.toList).length : Int), (0 : Int)) = _
      rw [hwl]
    rw [hk] at hQ
    obtain ⟨u, hu⟩ : ∃ u, rUpperL (wordL s.data.toList) = u := ⟨_, rfl⟩
    obtain ⟨kw, hkw⟩ : ∃ k, isKeywordL kwL (wordL s.data.toList) = k := ⟨_, rfl⟩
    rw [hu] at H2 hQ
    rw [show (inK kwL (wordL s.data.toList) || isWidthL (wordL s.data.toList)) = kw from hkw] at H3
    rw [hkw] at hQ
    have HX := Lib.hid hx
    have HXS := Lib.hid hxs
    have HXD := Lib.hid hxd
    have HWT := Lib.hid hwt
    clear hx hxs hxd hwt hwl hk hu hkw
    cases u
    · rw [if_neg (by simp)] at hQ
      have HQ := Lib.hid hQ
      clear hQ
      cases kw
      all_goals
        go_enter Try.func50, Try.ntmps50
        go_wp2_with (first | (go_at_call 49; refine (H1 _).out.mono ?_; rintro e W ⟨rfl, rfl⟩) | (go_at_call 67; refine (H2 _).out.mono ?_; rintro e w1 ⟨rfl, hb1⟩) | (go_at_call 65; refine (H3 _).out.mono ?_; rintro e w2 ⟨rfl, hb2⟩; have hb12 := hb1.trans (hb2.mono hb1.size); obtain ⟨hc, hf⟩ := bcell hb12))
        refine bodyPost_ret (v := .tuple #[.agg #[.int .i64 _, .string (s.extract 0 n), .int .i64 at_], .int .i64 0]) (by simp [results, Try.results50, go_sem, hc]; rfl) rfl ⟨?_, ?_⟩
        · exact tokR_ok (by simpa using HQ.out) (by rw [HXD.out, HWT.out])
        · exact (((hb0.trans (hb12.mono (by simp))).setCell (by simp) _).setCell (by simp) _).setCell (by simp) _
    · obtain ⟨m, hm⟩ : ∃ m, wlen (s.data.toList.drop (n + 2)) = m := ⟨_, rfl⟩
      have hml := wordL_len (s.data.toList.drop (n + 2))
      have hmt := wordL_take (s.data.toList.drop (n + 2))
      have hmm := wlen_le (s.data.toList.drop (n + 2))
      rw [hm] at hml hmt hmm
      rw [List.length_drop, ← Lib.size_eq] at hmm
      by_cases hlt : n + 2 < s.size
      · have H4 := fun W => Lib.hid (rWord_any (s.extract (n + 2) s.size) W (by unfold maxLen; simp; omega))
        rw [Lib.extract_to_end, hm] at H4
        have H5 := fun W => Lib.hid (rKeyword_any (s.extract (n + 2) (n + 2 + m)) W (by simp; omega))
        have hbd : (s.extract (n + 2) (n + 2 + m)).data.toList = wordL (s.data.toList.drop (n + 2)) := by
          rw [Lib.extract_data, hmt]; simp
        rw [hbd] at H5
        obtain ⟨kb, hkb⟩ : ∃ k, isKeywordL kwL (wordL (s.data.toList.drop (n + 2))) = k := ⟨_, rfl⟩
        rw [show (inK kwL (wordL (s.data.toList.drop (n + 2))) || isWidthL (wordL (s.data.toList.drop (n + 2)))) = kb from hkb] at H5
        rw [hml, hkb, ← Lib.size_eq] at hQ
        clear hml hmt hbd hkb hm
        by_cases ht : (s.data.toList.drop n).take 2 = [58, 58]
        · rw [if_pos ⟨rfl, hlt, ht⟩] at hQ
          have d3 : ((s.extract n (n + 2)).toList == [58, 58]) = true := by
            rw [Lib.toList_data, Lib.extract_data, show n + 2 - n = 2 by omega, ht]; rfl
          by_cases hm24 : 24 < m
          · rw [if_pos hm24] at hQ
            have HQ := Lib.hid hQ
            clear hQ ht
            go_enter Try.func50, Try.ntmps50
            go_wp2_with (first | (go_at_call 49; (first | (with_reducible refine (H1 _).out.mono ?_) | (with_reducible refine (H4 _).out.mono ?_)); rintro e W ⟨rfl, rfl⟩) | (go_at_call 67; refine (H2 _).out.mono ?_; rintro e w1 ⟨rfl, hb1⟩; obtain ⟨hc, hf⟩ := bcell hb1) | (go_at_call 65; (first | (with_reducible refine (fromB (H3 _).out (by assumption)).mono ?_) | (with_reducible refine (fromB (H5 _).out (by assumption)).mono ?_)); rintro e w2 ⟨rfl, hb2⟩; clear hc hf; obtain ⟨hc, hf⟩ := bcell hb2))
            refine bodyPost_ret (v := .tuple #[.agg #[.int .i64 0, .string (mk []), .int .i64 0], .int .i64 6]) (by simp [results, Try.results50, go_sem, hc]) rfl ⟨tokR_bad HQ.out (by decide), ?_⟩
            exact (((hb0.trans (Below.mono (by assumption) (by simp))).setCell (by simp) _).setCell (by simp) _).setCell (by simp) _
          · rw [if_neg hm24] at hQ
            by_cases hm0 : 0 < m
            · cases kb
              · rw [if_pos ⟨hm0, rfl⟩] at hQ
                have HQ := Lib.hid hQ
                clear hQ ht
                go_enter Try.func50, Try.ntmps50
                go_wp2_with (first | (go_at_call 49; (first | (with_reducible refine (H1 _).out.mono ?_) | (with_reducible refine (H4 _).out.mono ?_)); rintro e W ⟨rfl, rfl⟩) | (go_at_call 67; refine (H2 _).out.mono ?_; rintro e w1 ⟨rfl, hb1⟩; obtain ⟨hc, hf⟩ := bcell hb1) | (go_at_call 65; (first | (with_reducible refine (fromB (H3 _).out (by assumption)).mono ?_) | (with_reducible refine (fromB (H5 _).out (by assumption)).mono ?_)); rintro e w2 ⟨rfl, hb2⟩; clear hc hf; obtain ⟨hc, hf⟩ := bcell hb2))
                refine bodyPost_ret (v := .tuple #[.agg #[.int .i64 0, .string (s.extract 0 (n + 2 + m)), .int .i64 at_], .int .i64 0]) (by simp [results, Try.results50, go_sem, hc]) rfl ⟨tokR_ok (n := n + 2 + m) (by simpa using HQ.out) (by rw [head_data]), ?_⟩
                exact (((hb0.trans (Below.mono (by assumption) (by simp))).setCell (by simp) _).setCell (by simp) _).setCell (by simp) _
              · rw [if_neg (by simp)] at hQ
                have HQ := Lib.hid hQ
                clear hQ ht
                cases kw
                all_goals
                  go_enter Try.func50, Try.ntmps50
                  go_wp2_with (first | (go_at_call 49; (first | (with_reducible refine (H1 _).out.mono ?_) | (with_reducible refine (H4 _).out.mono ?_)); rintro e W ⟨rfl, rfl⟩) | (go_at_call 67; refine (H2 _).out.mono ?_; rintro e w1 ⟨rfl, hb1⟩; obtain ⟨hc, hf⟩ := bcell hb1) | (go_at_call 65; (first | (with_reducible refine (fromB (H3 _).out (by assumption)).mono ?_) | (with_reducible refine (fromB (H5 _).out (by assumption)).mono ?_)); rintro e w2 ⟨rfl, hb2⟩; clear hc hf; obtain ⟨hc, hf⟩ := bcell hb2))
                  refine bodyPost_ret (v := .tuple #[.agg #[.int .i64 _, .string (s.extract 0 n), .int .i64 at_], .int .i64 0]) (by simp [results, Try.results50, go_sem, hc]; rfl) rfl ⟨tokR_ok (by simpa using HQ.out) (by rw [HXD.out, HWT.out]), ?_⟩
                  exact (((hb0.trans (Below.mono (by assumption) (by simp))).setCell (by simp) _).setCell (by simp) _).setCell (by simp) _
            · rw [if_neg (fun e => hm0 e.1)] at hQ
              have HQ := Lib.hid hQ
              clear hQ ht
              cases kw
              all_goals
                go_enter Try.func50, Try.ntmps50
                go_wp2_with (first | (go_at_call 49; (first | (with_reducible refine (H1 _).out.mono ?_) | (with_reducible refine (H4 _).out.mono ?_)); rintro e W ⟨rfl, rfl⟩) | (go_at_call 67; refine (H2 _).out.mono ?_; rintro e w1 ⟨rfl, hb1⟩; obtain ⟨hc, hf⟩ := bcell hb1) | (go_at_call 65; (first | (with_reducible refine (fromB (H3 _).out (by assumption)).mono ?_) | (with_reducible refine (fromB (H5 _).out (by assumption)).mono ?_)); rintro e w2 ⟨rfl, hb2⟩; clear hc hf; obtain ⟨hc, hf⟩ := bcell hb2))
                refine bodyPost_ret (v := .tuple #[.agg #[.int .i64 _, .string (s.extract 0 n), .int .i64 at_], .int .i64 0]) (by simp [results, Try.results50, go_sem, hc]; rfl) rfl ⟨tokR_ok (by simpa using HQ.out) (by rw [HXD.out, HWT.out]), ?_⟩
                exact (((hb0.trans (Below.mono (by assumption) (by simp))).setCell (by simp) _).setCell (by simp) _).setCell (by simp) _
        · rw [if_neg (fun e => ht e.2.2)] at hQ
          have d3 : ((s.extract n (n + 2)).toList == [58, 58]) = false := by
            rw [Lib.toList_data, Lib.extract_data, show n + 2 - n = 2 by omega]; simpa using ht
          have HQ := Lib.hid hQ
          clear hQ ht
          cases kw
          all_goals
            go_enter Try.func50, Try.ntmps50
            go_wp2_with (first | (go_at_call 49; (first | (with_reducible refine (H1 _).out.mono ?_) | (with_reducible refine (H4 _).out.mono ?_)); rintro e W ⟨rfl, rfl⟩) | (go_at_call 67; refine (H2 _).out.mono ?_; rintro e w1 ⟨rfl, hb1⟩; obtain ⟨hc, hf⟩ := bcell hb1) | (go_at_call 65; (first | (with_reducible refine (fromB (H3 _).out (by assumption)).mono ?_) | (with_reducible refine (fromB (H5 _).out (by assumption)).mono ?_)); rintro e w2 ⟨rfl, hb2⟩; clear hc hf; obtain ⟨hc, hf⟩ := bcell hb2))
            refine bodyPost_ret (v := .tuple #[.agg #[.int .i64 _, .string (s.extract 0 n), .int .i64 at_], .int .i64 0]) (by simp [results, Try.results50, go_sem, hc]; rfl) rfl ⟨tokR_ok (by simpa using HQ.out) (by rw [HXD.out, HWT.out]), ?_⟩
            exact (((hb0.trans (Below.mono (by assumption) (by simp))).setCell (by simp) _).setCell (by simp) _).setCell (by simp) _
      · rw [← Lib.size_eq, if_neg (fun e => hlt e.2.1)] at hQ
        have HQ := Lib.hid hQ
        clear hQ hm hml hmt hmm
        cases kw
        all_goals
          go_enter Try.func50, Try.ntmps50
          go_wp2_with (first | (go_at_call 49; refine (H1 _).out.mono ?_; rintro e W ⟨rfl, rfl⟩) | (go_at_call 67; refine (H2 _).out.mono ?_; rintro e w1 ⟨rfl, hb1⟩; obtain ⟨hc, hf⟩ := bcell hb1) | (go_at_call 65; refine (fromB (H3 _).out (by assumption)).mono ?_; rintro e w2 ⟨rfl, hb2⟩; clear hc hf; obtain ⟨hc, hf⟩ := bcell hb2))
          refine bodyPost_ret (v := .tuple #[.agg #[.int .i64 _, .string (s.extract 0 n), .int .i64 at_], .int .i64 0]) (by simp [results, Try.results50, go_sem, hc]; rfl) rfl ⟨tokR_ok (by simpa using HQ.out) (by rw [HXD.out, HWT.out]), ?_⟩
          exact (((hb0.trans (Below.mono (by assumption) (by simp))).setCell (by simp) _).setCell (by simp) _).setCell (by simp) _
end Go.Proofs.Ytfilmombflohpaa
