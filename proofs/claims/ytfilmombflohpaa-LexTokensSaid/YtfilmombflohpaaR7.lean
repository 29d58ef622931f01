/- The reference's reading of a token. -/
import Derived.Test.YtfilmombflohpaaR6
set_option linter.unusedSimpArgs false
set_option linter.unusedVariables false
namespace Go.Proofs.Ytfilmombflohpaa
open Go.RowKit Go.ChangeMaps Go.WideMaps
set_option maxRecDepth 100000

theorem tokR_shape (l : List UInt8) (q : Int × Int × Int) (a : Int) : ∃ (x : Int) (y : ByteArray) (z e : Int), tokR l q a = .tuple #[.agg #[.int .i64 x, .string y, .int .i64 z], .int .i64 e] := by
  unfold tokR
  split
  · exact ⟨_, _, _, _, rfl⟩
  · exact ⟨_, _, _, _, rfl⟩

theorem rSignL_le (l : List UInt8) : rSignL l ≤ l.length := by
  unfold rSignL
  split
  · rename_i h
    cases l with
    | nil => exact absurd h.2 (by simp [headU])
    | cons c r => simp
  · rcases longest_one l sgL 0 with h | ⟨x, _, h1, _, h2⟩
    · rw [h]; omega
    · rw [h2]; exact h1

set_option maxHeartbeats 4000000 in
theorem rRead_any (s : ByteArray) (at_ : Int) (w : World) (hs : s.size ≤ 65536) (hpos : 0 < s.size) :
    Calls Try.prog 28 #[.string s, .int .i64 at_] w fun e w' => e = .returned (tokR s.data.toList (readK s.data.toList) at_) ∧ Below w.heap.size w w' := by
  have hms : s.size ≤ maxLen := by unfold maxLen; omega
  have H1 := fun W => Lib.hid (rWord_any s W hms)
  have H2 := fun W => Lib.hid (rNamed_any s at_ W hs)
  have H3 := fun W => Lib.hid (r3Number_any s at_ W hs hpos)
  have H4 := fun W => Lib.hid (rSign_any s W hs)
  have hb0 : Below w.heap.size w (w.alloc (.cells #[.int .i64 0, .string (mk []), .int .i64 0] 51)) := (Below.refl _ w).alloc (Nat.le_refl _) _
  have h00 := hdI_cons hpos
  have hwl := wlen_le s.data.toList
  rw [← Lib.size_eq] at hwl
  obtain ⟨n, hn⟩ : ∃ n, wlen s.data.toList = n := ⟨_, rfl⟩
  rw [hn] at H1 hwl
  by_cases hw : 0 < n
  · have hQ : readK s.data.toList = namedK s.data.toList := by unfold readK; rw [hn, if_pos hw]
    obtain ⟨x, y, z, e, hx⟩ := tokR_shape s.data.toList (namedK s.data.toList) at_
    rw [hQ, hx]
    rw [hx] at H2
    clear hQ hx hn h00
    go_enter Try.func28, Try.ntmps28
    go_wp2_with (first | (go_at_call 49; refine (H1 _).out.mono ?_; rintro e W ⟨rfl, rfl⟩) | (go_at_call 50; refine (H2 _).out.mono ?_; rintro e w1 ⟨rfl, hb1⟩; obtain ⟨hc, hf⟩ := bcell hb1))
    all_goals refine bodyPost_ret (v := .tuple #[.agg #[.int .i64 x, .string y, .int .i64 z], .int .i64 e]) (by simp [results, Try.results28, go_sem, hc]) rfl ⟨rfl, ?_⟩
    all_goals exact (((hb0.trans (Below.mono hb1 (by simp))).setCell (by simp) _).setCell (by simp) _).setCell (by simp) _
  · obtain rfl : n = 0 := by omega
    by_cases hd : isDigitI (s[0].toNat : Int) = true
    · have hQ : readK s.data.toList = numberK s.data.toList := by unfold readK; rw [hn, if_neg (by omega), h00, if_pos hd]
      obtain ⟨x, y, z, e, hx⟩ := tokR_shape s.data.toList (numberK s.data.toList) at_
      rw [hQ, hx]
      rw [hx] at H3
      clear hQ hx hn h00
      go_enter Try.func28, Try.ntmps28
      go_wp2_with (first | (go_at_call 49; refine (H1 _).out.mono ?_; rintro e W ⟨rfl, rfl⟩) | (go_at_call 51; refine (rDigit_any _ _).mono ?_; rintro e W ⟨rfl, rfl⟩) | (go_at_call 52; refine (H3 _).out.mono ?_; rintro e w1 ⟨rfl, hb1⟩; obtain ⟨hc, hf⟩ := bcell hb1))
      all_goals refine bodyPost_ret (v := .tuple #[.agg #[.int .i64 x, .string y, .int .i64 z], .int .i64 e]) (by simp [results, Try.results28, go_sem, hc]) rfl ⟨rfl, ?_⟩
      all_goals exact (((hb0.trans (Below.mono hb1 (by simp))).setCell (by simp) _).setCell (by simp) _).setCell (by simp) _
    · have hd' : isDigitI (s[0].toNat : Int) = false := by simpa using hd
      have hQ : readK s.data.toList = if rSignL s.data.toList = 0 then ((0 : Int), (0 : Int), (22 : Int)) else (4, (rSignL s.data.toList : Int), 0) := by unfold readK; rw [hn, if_neg (by omega), h00, if_neg hd]
      have hsl := rSignL_le s.data.toList
      rw [← Lib.size_eq] at hsl
      obtain ⟨q, hq⟩ : ∃ q, readK s.data.toList = q := ⟨_, rfl⟩
      obtain ⟨m, hm⟩ : ∃ m, rSignL s.data.toList = m := ⟨_, rfl⟩
      rw [hq] at hQ ⊢
      rw [hm] at hQ H4 hsl
      clear hd hq hm hn h00
      by_cases hm0 : m = 0
      · rw [if_pos hm0] at hQ
        have HQ := Lib.hid hQ
        subst hm0
        clear hQ
        go_enter Try.func28, Try.ntmps28
        go_wp2_with (first | (go_at_call 49; refine (H1 _).out.mono ?_; rintro e W ⟨rfl, rfl⟩) | (go_at_call 51; refine (rDigit_any _ _).mono ?_; rintro e W ⟨rfl, rfl⟩) | (go_at_call 53; refine (H4 _).out.mono ?_; rintro e w1 ⟨rfl, hb1⟩; obtain ⟨hc, hf⟩ := bcell hb1))
        all_goals refine bodyPost_ret (v := .tuple #[.agg #[.int .i64 0, .string (mk []), .int .i64 0], .int .i64 22]) (by simp [results, Try.results28, go_sem, hc]) rfl ⟨tokR_bad HQ.out (by decide), ?_⟩
        all_goals exact (((hb0.trans (Below.mono hb1 (by simp))).setCell (by simp) _).setCell (by simp) _).setCell (by simp) _
      · rw [if_neg hm0] at hQ
        have HQ := Lib.hid hQ
        have hmb : ((m : Int) == 0) = false := by simpa using hm0
        clear hQ hm0
        go_enter Try.func28, Try.ntmps28
        go_wp2_with (first | (go_at_call 49; refine (H1 _).out.mono ?_; rintro e W ⟨rfl, rfl⟩) | (go_at_call 51; refine (rDigit_any _ _).mono ?_; rintro e W ⟨rfl, rfl⟩) | (go_at_call 53; refine (H4 _).out.mono ?_; rintro e w1 ⟨rfl, hb1⟩; obtain ⟨hc, hf⟩ := bcell hb1))
        all_goals refine bodyPost_ret (v := .tuple #[.agg #[.int .i64 4, .string (s.extract 0 m), .int .i64 at_], .int .i64 0]) (by simp [results, Try.results28, go_sem, hc]) rfl ⟨tokR_ok (n := m) HQ.out (by rw [head_data]), ?_⟩
        all_goals exact (((hb0.trans (Below.mono hb1 (by simp))).setCell (by simp) _).setCell (by simp) _).setCell (by simp) _
end Go.Proofs.Ytfilmombflohpaa
