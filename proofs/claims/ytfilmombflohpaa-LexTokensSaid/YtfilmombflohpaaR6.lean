/- The reference's reading of a number. -/
import Derived.Test.YtfilmombflohpaaR5
set_option linter.unusedSimpArgs false
set_option linter.unusedVariables false
namespace Go.Proofs.Ytfilmombflohpaa
open Go.RowKit Go.ChangeMaps Go.WideMaps
set_option maxRecDepth 100000

theorem hdI_at (s : ByteArray) (k : Nat) (h : k < s.size) : hdI (s.data.toList.drop k) = (s[k].toNat : Int) := by
  rw [drop_cons s k h]; rfl
theorem hdI_out (s : ByteArray) (k : Nat) (h : s.size ≤ k) : hdI (s.data.toList.drop k) = -1 := by
  rw [List.drop_eq_nil_of_le (by rw [← Lib.size_eq]; exact h)]; rfl

/-- What a number is read as, its parts given: no dot with digits behind it, or one. -/
theorem num_plain {l : List UInt8} {n : Nat} (hn : countL isDigitI l = n) (hz : ¬ (1 < n ∧ hdI l = 48)) (hd : hdI (l.drop n) ≠ 46 ∨ countL isDigitI (l.drop (n + 1)) = 0) :
    numberK l = if isLetterI (hdI (l.drop n)) = true ∨ hdI (l.drop n) = 95 then ((0 : Int), (0 : Int), (22 : Int)) else ((2 : Int), (n : Int), (0 : Int)) := by
  have hk : decK l = false := by
    unfold decK
    rw [hn]
    rcases hd with hd | hd
    · have : (hdI (l.drop n) == 46) = false := by simpa using hd
      rw [this]; rfl
    · rw [hd]; simp
  have hs : sizeK l = n := by unfold sizeK; rw [hk, hn]; rfl
  rw [numberK_open, hn, if_neg hz, hs, hk]
  rfl
theorem num_dec {l : List UInt8} {n k : Nat} (hn : countL isDigitI l = n) (hz : ¬ (1 < n ∧ hdI l = 48)) (hd : hdI (l.drop n) = 46) (hk : countL isDigitI (l.drop (n + 1)) = k) (h0 : 0 < k) :
    numberK l = if isLetterI (hdI (l.drop (n + 1 + k))) = true ∨ hdI (l.drop (n + 1 + k)) = 95 then ((0 : Int), (0 : Int), (22 : Int)) else ((3 : Int), ((n + 1 + k : Nat) : Int), (0 : Int)) := by
  have hk' : decK l = true := by
    unfold decK
    rw [hn, hk, hd]
    simpa using h0
  have hs : sizeK l = n + 1 + k := by unfold sizeK; rw [hk', hn, hk]; rfl
  rw [numberK_open, hn, if_neg hz, hs, hk']
  rfl

set_option maxHeartbeats 8000000 in
theorem r3Number_any (s : ByteArray) (at_ : Int) (w : World) (hs : s.size ≤ 65536) (hpos : 0 < s.size) :
    Calls Try.prog 52 #[.string s, .int .i64 at_] w fun e w' => e = .returned (tokR s.data.toList (numberK s.data.toList) at_) ∧ Below w.heap.size w w' := by
  have hms : s.size ≤ maxLen := by unfold maxLen; omega
  have H1 := fun W => Lib.hid (rDigits_any s W hms)
  have hn := countL_le isDigitI s.data.toList
  rw [← Lib.size_eq] at hn
  have h00 := hdI_cons hpos
  have hb0 : ∀ o o', Below w.heap.size w ((w.alloc o).alloc o') := fun o o' => ((Below.refl _ w).alloc (Nat.le_refl _) _).alloc (by simp) _
  obtain ⟨n, hnn⟩ : ∃ n, countL isDigitI s.data.toList = n := ⟨_, rfl⟩
  rw [hnn] at hn H1
  by_cases hz : 1 < n ∧ hdI s.data.toList = 48
  · have hQ : numberK s.data.toList = ((0 : Int), (0 : Int), (22 : Int)) := by rw [numberK_open, hnn, if_pos hz]
    obtain ⟨q, hq⟩ : ∃ q, numberK s.data.toList = q := ⟨_, rfl⟩
    rw [hq] at hQ ⊢
    have HQ := Lib.hid hQ
    obtain ⟨hz1, hz2⟩ := hz
    rw [h00] at hz2
    have hz3 : ((s[0].toNat : Int) == 48) = true := by simpa using hz2
    clear hQ hq hz2 h00 hnn
    go_enter Try.func52, Try.ntmps52
    go_wp2_with (first | (go_at_call 74; refine (H1 _).out.mono ?_; rintro e W ⟨rfl, rfl⟩) | (go_at_call 64; refine (rLetter_any _ _).mono ?_; rintro e W ⟨rfl, rfl⟩))
    all_goals refine bodyPost_ret (v := .tuple #[.agg #[.int .i64 0, .string (mk []), .int .i64 0], .int .i64 22]) (by simp [results, Try.results52, go_sem]) rfl ⟨tokR_bad HQ.out (by decide), ?_⟩
    all_goals exact hb0 _ _
  · have hz1 : n ≤ 1 ∨ (1 < n ∧ ((s[0].toNat : Int) == 48) = false) := by
      rw [h00] at hz
      by_cases h : 1 < n
      · exact .inr ⟨h, by have : ¬ (s[0].toNat : Int) = 48 := fun e => hz ⟨h, e⟩; simpa using this⟩
      · exact .inl (by omega)
    by_cases hlt : n < s.size
    · have hat := hdI_at s n hlt
      have H2 := fun W => Lib.hid (rDigits_any (s.extract (n + 1) s.size) W (by unfold maxLen; simp; omega))
      rw [Lib.extract_to_end] at H2
      have hkl := countL_le isDigitI (s.data.toList.drop (n + 1))
      rw [List.length_drop, ← Lib.size_eq] at hkl
      obtain ⟨k, hk⟩ : ∃ k, countL isDigitI (s.data.toList.drop (n + 1)) = k := ⟨_, rfl⟩
      rw [hk] at H2 hkl
      by_cases h46 : (s[n].toNat : Int) = 46
      · have b46 : ((s[n].toNat : Int) == 46) = true := by simpa using h46
        by_cases hk0 : 0 < k
        · have hQ := num_dec hnn hz (hat.trans h46) hk hk0
          obtain ⟨q, hq⟩ : ∃ q, numberK s.data.toList = q := ⟨_, rfl⟩
          rw [hq] at hQ ⊢
          obtain ⟨p, hp⟩ : ∃ p, n + 1 + k = p := ⟨_, rfl⟩
          have hpw : (n : Int) + 1 + (k : Int) = (p : Int) := by omega
          have hple : p ≤ s.size := by omega
          rw [hp] at hQ
          clear hk hat h46 hnn hz h00 hq
          by_cases hps : p < s.size
          · rw [hdI_at s p hps] at hQ
            obtain ⟨b1, e1⟩ : ∃ b, isLetterI (s[p].toNat : Int) = b := ⟨_, rfl⟩
            obtain ⟨b2, e2⟩ : ∃ b, ((s[p].toNat : Int) == 95) = b := ⟨_, rfl⟩
            have hq2 : q = if b1 = true ∨ b2 = true then ((0 : Int), (0 : Int), (22 : Int)) else ((3 : Int), (p : Int), (0 : Int)) := by
              rw [hQ, ← e1, ← e2]; simp
            have HQ := Lib.hid hq2
            clear hQ hq2
            cases b1
            · cases b2
              · rcases hz1 with hz1 | ⟨hz1, hz2⟩
                all_goals
                  go_enter Try.func52, Try.ntmps52
                  go_wp2_with (first | (go_at_call 74; (first | (with_reducible refine (H1 _).out.mono ?_) | (with_reducible refine (H2 _).out.mono ?_)); rintro e W ⟨rfl, rfl⟩) | (go_at_call 64; refine (rLetter_any _ _).mono ?_; rintro e W ⟨rfl, rfl⟩))
                  all_goals refine bodyPost_ret (v := .tuple #[.agg #[.int .i64 3, .string (s.extract 0 p), .int .i64 at_], .int .i64 0]) (by simp [results, Try.results52, go_sem]) rfl ⟨tokR_ok (n := p) (by simpa using HQ.out) (by rw [head_data]), ?_⟩
                  all_goals exact hb0 _ _
              · rcases hz1 with hz1 | ⟨hz1, hz2⟩
                all_goals
                  go_enter Try.func52, Try.ntmps52
                  go_wp2_with (first | (go_at_call 74; (first | (with_reducible refine (H1 _).out.mono ?_) | (with_reducible refine (H2 _).out.mono ?_)); rintro e W ⟨rfl, rfl⟩) | (go_at_call 64; refine (rLetter_any _ _).mono ?_; rintro e W ⟨rfl, rfl⟩))
                  all_goals refine bodyPost_ret (v := .tuple #[.agg #[.int .i64 0, .string (mk []), .int .i64 0], .int .i64 22]) (by simp [results, Try.results52, go_sem]) rfl ⟨tokR_bad (by simpa using HQ.out) (by decide), ?_⟩
                  all_goals exact hb0 _ _
            · rcases hz1 with hz1 | ⟨hz1, hz2⟩
              all_goals
                go_enter Try.func52, Try.ntmps52
                go_wp2_with (first | (go_at_call 74; (first | (with_reducible refine (H1 _).out.mono ?_) | (with_reducible refine (H2 _).out.mono ?_)); rintro e W ⟨rfl, rfl⟩) | (go_at_call 64; refine (rLetter_any _ _).mono ?_; rintro e W ⟨rfl, rfl⟩))
                all_goals refine bodyPost_ret (v := .tuple #[.agg #[.int .i64 0, .string (mk []), .int .i64 0], .int .i64 22]) (by simp [results, Try.results52, go_sem]) rfl ⟨tokR_bad (by simpa using HQ.out) (by decide), ?_⟩
                all_goals exact hb0 _ _
          · rw [hdI_out s p (by omega), if_neg (by decide)] at hQ
            have HQ := Lib.hid hQ
            clear hQ
            rcases hz1 with hz1 | ⟨hz1, hz2⟩
            all_goals
              go_enter Try.func52, Try.ntmps52
              go_wp2_with (first | (go_at_call 74; (first | (with_reducible refine (H1 _).out.mono ?_) | (with_reducible refine (H2 _).out.mono ?_)); rintro e W ⟨rfl, rfl⟩) | (go_at_call 64; refine (rLetter_any _ _).mono ?_; rintro e W ⟨rfl, rfl⟩))
              all_goals refine bodyPost_ret (v := .tuple #[.agg #[.int .i64 3, .string (s.extract 0 p), .int .i64 at_], .int .i64 0]) (by simp [results, Try.results52, go_sem]) rfl ⟨tokR_ok (n := p) HQ.out (by rw [head_data]), ?_⟩
              all_goals exact hb0 _ _
        · have hQ := num_plain hnn hz (.inr (by omega))
          obtain ⟨q, hq⟩ : ∃ q, numberK s.data.toList = q := ⟨_, rfl⟩
          rw [hq] at hQ ⊢
          rw [hat, h46, if_neg (by decide)] at hQ
          have HQ := Lib.hid hQ
          have l1 : isLetterI (s[n].toNat : Int) = false := by rw [h46]; rfl
          have l2 : ((s[n].toNat : Int) == 95) = false := by rw [h46]; rfl
          obtain rfl : k = 0 := by omega
          clear hQ hk hat h46 hnn hz h00 hq hk0
          rcases hz1 with hz1 | ⟨hz1, hz2⟩
          all_goals
            go_enter Try.func52, Try.ntmps52
            go_wp2_with (first | (go_at_call 74; (first | (with_reducible refine (H1 _).out.mono ?_) | (with_reducible refine (H2 _).out.mono ?_)); rintro e W ⟨rfl, rfl⟩) | (go_at_call 64; refine (rLetter_any _ _).mono ?_; rintro e W ⟨rfl, rfl⟩))
            all_goals refine bodyPost_ret (v := .tuple #[.agg #[.int .i64 2, .string (s.extract 0 n), .int .i64 at_], .int .i64 0]) (by simp [results, Try.results52, go_sem]) rfl ⟨tokR_ok (n := n) HQ.out (by rw [head_data]), ?_⟩
            all_goals exact hb0 _ _
      · have hQ := num_plain hnn hz (.inl (by rw [hat]; exact h46))
        obtain ⟨q, hq⟩ : ∃ q, numberK s.data.toList = q := ⟨_, rfl⟩
        rw [hq] at hQ ⊢
        rw [hat] at hQ
        have b46 : ((s[n].toNat : Int) == 46) = false := by simpa using h46
        obtain ⟨b1, e1⟩ : ∃ b, isLetterI (s[n].toNat : Int) = b := ⟨_, rfl⟩
        obtain ⟨b2, e2⟩ : ∃ b, ((s[n].toNat : Int) == 95) = b := ⟨_, rfl⟩
        have hq2 : q = if b1 = true ∨ b2 = true then ((0 : Int), (0 : Int), (22 : Int)) else ((2 : Int), (n : Int), (0 : Int)) := by
          rw [hQ, ← e1, ← e2]; simp
        have HQ := Lib.hid hq2
        clear hQ hq2 hk hat h46 hnn hz h00 hq
        cases b1
        · cases b2
          · rcases hz1 with hz1 | ⟨hz1, hz2⟩
            all_goals
              go_enter Try.func52, Try.ntmps52
              go_wp2_with (first | (go_at_call 74; (first | (with_reducible refine (H1 _).out.mono ?_) | (with_reducible refine (H2 _).out.mono ?_)); rintro e W ⟨rfl, rfl⟩) | (go_at_call 64; refine (rLetter_any _ _).mono ?_; rintro e W ⟨rfl, rfl⟩))
              all_goals refine bodyPost_ret (v := .tuple #[.agg #[.int .i64 2, .string (s.extract 0 n), .int .i64 at_], .int .i64 0]) (by simp [results, Try.results52, go_sem]) rfl ⟨tokR_ok (n := n) (by simpa using HQ.out) (by rw [head_data]), ?_⟩
              all_goals exact hb0 _ _
          · rcases hz1 with hz1 | ⟨hz1, hz2⟩
            all_goals
              go_enter Try.func52, Try.ntmps52
              go_wp2_with (first | (go_at_call 74; (first | (with_reducible refine (H1 _).out.mono ?_) | (with_reducible refine (H2 _).out.mono ?_)); rintro e W ⟨rfl, rfl⟩) | (go_at_call 64; refine (rLetter_any _ _).mono ?_; rintro e W ⟨rfl, rfl⟩))
              all_goals refine bodyPost_ret (v := .tuple #[.agg #[.int .i64 0, .string (mk []), .int .i64 0], .int .i64 22]) (by simp [results, Try.results52, go_sem]) rfl ⟨tokR_bad (by simpa using HQ.out) (by decide), ?_⟩
              all_goals exact hb0 _ _
        · rcases hz1 with hz1 | ⟨hz1, hz2⟩
          all_goals
            go_enter Try.func52, Try.ntmps52
            go_wp2_with (first | (go_at_call 74; (first | (with_reducible refine (H1 _).out.mono ?_) | (with_reducible refine (H2 _).out.mono ?_)); rintro e W ⟨rfl, rfl⟩) | (go_at_call 64; refine (rLetter_any _ _).mono ?_; rintro e W ⟨rfl, rfl⟩))
            all_goals refine bodyPost_ret (v := .tuple #[.agg #[.int .i64 0, .string (mk []), .int .i64 0], .int .i64 22]) (by simp [results, Try.results52, go_sem]) rfl ⟨tokR_bad (by simpa using HQ.out) (by decide), ?_⟩
            all_goals exact hb0 _ _
    · have hQ := num_plain hnn hz (.inl (by rw [hdI_out s n (by omega)]; decide))
      obtain ⟨q, hq⟩ : ∃ q, numberK s.data.toList = q := ⟨_, rfl⟩
      rw [hq] at hQ ⊢
      rw [hdI_out s n (by omega), if_neg (by decide)] at hQ
      have HQ := Lib.hid hQ
      clear hQ hnn hz h00 hq
      rcases hz1 with hz1 | ⟨hz1, hz2⟩
      all_goals
        go_enter Try.func52, Try.ntmps52
        go_wp2_with (first | (go_at_call 74; refine (H1 _).out.mono ?_; rintro e W ⟨rfl, rfl⟩) | (go_at_call 64; refine (rLetter_any _ _).mono ?_; rintro e W ⟨rfl, rfl⟩))
        all_goals refine bodyPost_ret (v := .tuple #[.agg #[.int .i64 2, .string (s.extract 0 n), .int .i64 at_], .int .i64 0]) (by simp [results, Try.results52, go_sem]) rfl ⟨tokR_ok (n := n) HQ.out (by rw [head_data]), ?_⟩
        all_goals exact hb0 _ _
end Go.Proofs.Ytfilmombflohpaa
