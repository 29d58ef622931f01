/- The reference's blanks: a space, a comment. -/
import Derived.Test.YtfilmombflohpaaR1
set_option linter.unusedSimpArgs false
set_option linter.unusedVariables false
namespace Go.Proofs.Ytfilmombflohpaa
open Go.RowKit Go.ChangeMaps Go.WideMaps
set_option maxRecDepth 100000

def isSp (c : Int) : Bool := c == 32 || c == 9 || c == 10 || c == 13
def notNl (c : Int) : Bool := c != 10
/-- A space or a comment at the start: how long; -1: a comment without an end. -/
def blankL : List UInt8 → Int
  | [] => 0
  | [c] => if isSp (c.toNat : Int) = true then 1 else 0
  | c :: d :: r =>
    if isSp (c.toNat : Int) = true then 1 else if (c.toNat : Int) ≠ 47 then 0
    else if (d.toNat : Int) = 47 then 2 + (countL notNl r : Int)
    else if (d.toNat : Int) ≠ 42 then 0
    else if Lib.index r [42, 47] = -1 then -1 else Lib.index r [42, 47] + 4

/-- Where the comment's end is, seen from place k on. -/
def endAt (l : List UInt8) (k : Nat) : Int := if Lib.index (l.drop k) [42, 47] = -1 then -1 else Lib.index (l.drop k) [42, 47] + k

theorem end_hit {s : ByteArray} {k : Nat} (h : k < s.size) (h1 : k + 1 < s.size) (e1 : (s[k].toNat : Int) = 42) (e2 : (s[k + 1].toNat : Int) = 47) : endAt s.data.toList k = k := by
  have x1 : s[k] = 42 := by rw [← UInt8.toNat_inj]; exact Int.ofNat.inj e1
  have x2 : s[k + 1] = 47 := by rw [← UInt8.toNat_inj]; exact Int.ofNat.inj e2
  unfold endAt
  rw [drop_cons s k h, drop_cons s (k + 1) h1, x1, x2]
  simp [Lib.index, List.isPrefixOf]
theorem end_step {s : ByteArray} {k : Nat} (h : k < s.size) (h1 : k + 1 < s.size) (hn : ¬ ((s[k].toNat : Int) = 42 ∧ (s[k + 1].toNat : Int) = 47)) : endAt s.data.toList k = endAt s.data.toList (k + 1) := by
  unfold endAt
  rw [drop_cons s k h]
  have hp : List.isPrefixOf [42, 47] (s[k] :: s.data.toList.drop (k + 1)) = false := by
    rw [drop_cons s (k + 1) h1, Bool.eq_false_iff]
    intro hx
    simp [List.isPrefixOf] at hx
    exact hn ⟨by rw [← hx.1]; rfl, by rw [← hx.2]; rfl⟩
  rw [Lib.index, hp]
  have hge := Lib.index_ge (s.data.toList.drop (k + 1)) [42, 47]
  by_cases hm : Lib.index (s.data.toList.drop (k + 1)) [42, 47] = -1
  · simp [hm]
  · have hb : (Lib.index (s.data.toList.drop (k + 1)) [42, 47] == -1) = false := by simpa using hm
    rw [hb, if_neg hm]
    simp only [Bool.false_eq_true, if_false]
    rw [if_neg (by omega)]
    omega
theorem end_end {s : ByteArray} {k : Nat} (h1 : s.size ≤ k + 1) : endAt s.data.toList k = -1 := by
  unfold endAt
  have hl : (s.data.toList.drop k).length ≤ 1 := by rw [List.length_drop, ← Lib.size_eq]; omega
  match s.data.toList.drop k, hl with
  | [], _ => rfl
  | [a], _ => simp [Lib.index, List.isPrefixOf]

theorem two_cons {s : ByteArray} (h : 1 < s.size) : s.data.toList = s[0] :: s[1] :: s.data.toList.drop 2 := by
  have h0 : 0 < s.size := by omega
  have e0 := drop_cons s 0 h0
  have e1 := drop_cons s 1 h
  rw [List.drop_zero] at e0
  exact e0.trans (congrArg (s[0] :: ·) e1)
theorem blank_sp {s : ByteArray} (h : 0 < s.size) (e : isSp (s[0].toNat : Int) = true) : blankL s.data.toList = 1 := by
  rw [head_cons h]
  cases hd : s.data.toList.drop 1 with
  | nil => simp [blankL, e]
  | cons d r => simp [blankL, e]
theorem blank_short {s : ByteArray} (h : s.size = 1) (e : isSp (s[0].toNat : Int) = false) : blankL s.data.toList = 0 := by
  have h0 : 0 < s.size := by omega
  rw [head_cons h0]
  have : s.data.toList.drop 1 = [] := List.drop_eq_nil_of_le (by rw [← Lib.size_eq]; omega)
  rw [this]
  simp [blankL, e]
theorem blank_no {s : ByteArray} (h : 1 < s.size) (e : isSp (s[0].toNat : Int) = false) (e1 : (s[0].toNat : Int) ≠ 47) : blankL s.data.toList = 0 := by
  rw [two_cons h]; simp only [blankL]; rw [if_neg (by rw [e]; simp), if_pos e1]
theorem blank_line {s : ByteArray} (h : 1 < s.size) (e : (s[0].toNat : Int) = 47) (e1 : (s[1].toNat : Int) = 47) : blankL s.data.toList = 2 + (countL notNl (s.data.toList.drop 2) : Int) := by
  conv => lhs; rw [two_cons h]
  simp only [blankL]; rw [if_neg (by rw [e]; decide), if_neg (by rw [e]; simp), if_pos e1]
theorem blank_slash {s : ByteArray} (h : 1 < s.size) (e : (s[0].toNat : Int) = 47) (e1 : (s[1].toNat : Int) ≠ 47) (e2 : (s[1].toNat : Int) ≠ 42) : blankL s.data.toList = 0 := by
  rw [two_cons h]
  simp only [blankL]; rw [if_neg (by rw [e]; decide), if_neg (by rw [e]; simp), if_neg e1, if_pos e2]
theorem blank_block {s : ByteArray} (h : 1 < s.size) (e : (s[0].toNat : Int) = 47) (e1 : (s[1].toNat : Int) = 42) : blankL s.data.toList = if endAt s.data.toList 2 = -1 then -1 else endAt s.data.toList 2 + 2 := by
  have hge := Lib.index_ge (s.data.toList.drop 2) [42, 47]
  have hb : blankL s.data.toList = if Lib.index (s.data.toList.drop 2) [42, 47] = -1 then -1 else Lib.index (s.data.toList.drop 2) [42, 47] + 4 := by
    conv => lhs; rw [two_cons h]
    simp only [blankL]; rw [if_neg (by rw [e]; decide), if_neg (by rw [e]; simp), if_neg (by rw [e1]; decide), if_neg (by rw [e1]; simp)]
  rw [hb]
  unfold endAt
  by_cases hm : Lib.index (s.data.toList.drop 2) [42, 47] = -1
  · simp [hm]
  · rw [if_neg hm, if_neg hm, if_neg (by omega)]
    omega

theorem sp_no {c : Int} (h1 : c ≠ 32) (h2 : c ≠ 9) (h3 : c ≠ 10) (h4 : c ≠ 13) : isSp c = false := by
  unfold isSp; simp [h1, h2, h3, h4]

set_option maxHeartbeats 2000000 in
theorem rBlank_any (s : ByteArray) (w : World) (hs : s.size ≤ 65536) :
    Calls Try.prog 27 #[.string s] w fun e w' => e = .returned (.int .i64 (blankL s.data.toList)) ∧ w = w' := by
  by_cases hz : 0 < s.size
  · have he := empty_f hz
    by_cases hsp : isSp (s[0].toNat : Int) = true
    · have HD := Lib.hid (blank_sp hz hsp)
      have h4 : (s[0].toNat : Int) = 32 ∨ (s[0].toNat : Int) = 9 ∨ (s[0].toNat : Int) = 10 ∨ (s[0].toNat : Int) = 13 := by
        unfold isSp at hsp; simp at hsp; omega
      clear hsp
      rcases h4 with h | h | h | h
      all_goals
        go_enter Try.func27, Try.ntmps27
        go_wp2
        go_ret
        exact ⟨ret_int HD.out.symm, rfl⟩
    · have hsp' : isSp (s[0].toNat : Int) = false := by simpa using hsp
      have HSP := Lib.hid hsp'
      have h4 : (s[0].toNat : Int) ≠ 32 ∧ (s[0].toNat : Int) ≠ 9 ∧ (s[0].toNat : Int) ≠ 10 ∧ (s[0].toNat : Int) ≠ 13 := by
        unfold isSp at hsp; simp at hsp; omega
      obtain ⟨m1, m2, m3, m4⟩ := h4
      have n1 : ((s[0].toNat : Int) == 32) = false := by simpa using m1
      have n2 : ((s[0].toNat : Int) == 9) = false := by simpa using m2
      have n3 : ((s[0].toNat : Int) == 10) = false := by simpa using m3
      have n4 : ((s[0].toNat : Int) == 13) = false := by simpa using m4
      clear hsp hsp' m1 m2 m3 m4
      by_cases h1 : s.size = 1
      · have HD := Lib.hid (blank_short h1 HSP.out)
        go_enter Try.func27, Try.ntmps27
        go_wp2
        all_goals go_ret
        all_goals exact ⟨ret_int HD.out.symm, rfl⟩
      · have h2 : 1 < s.size := by omega
        by_cases h47 : (s[0].toNat : Int) = 47
        · by_cases g47 : (s[1].toNat : Int) = 47
          · have HD := Lib.hid (blank_line h2 h47 g47)
            clear n1 n2 n3 n4
            go_enter Try.func27, Try.ntmps27
            go_wp2
            go_loop [3] (fun n => ∃ k : Nat, k + 2 ≤ s.size ∧ n = .int .i64 (k + 2) ∧ Hid (countL notNl (s.data.toList.drop 2) = k + countL notNl (s.data.toList.drop (k + 2)))) (fun n => s.size - (intOf n).toNat)
            case atStart => exact ⟨0, by omega, rfl, show _ = _ by simp⟩
            case round =>
              obtain ⟨k, hk, rfl, HK⟩ := hrel
              by_cases hlt : k + 2 < s.size
              · by_cases h10 : (s[k + 2].toNat : Int) = 10
                · have HE := Lib.hid (countL_step notNl s (k + 2) hlt)
                  have HR : Hid (blankL s.data.toList = (k : Int) + 2) := by
                    have h1 := HE.out
                    rw [if_neg (by rw [h10]; decide)] at h1
                    have h2 := HK.out
                    show _ = _
                    rw [HD.out]
                    omega
                  clear HE
                  go_wp2
                  all_goals go_ret
                  all_goals exact ⟨ret_int HR.out.symm, rfl⟩
                · have b10 : ((s[k + 2].toNat : Int) == 10) = false := by simpa using h10
                  have c10 : ((s[k + 2].toNat : Int) != 10) = true := by simpa using h10
                  have HE := Lib.hid (countL_step notNl s (k + 2) hlt)
                  have HN : Hid (countL notNl (s.data.toList.drop 2) = (k + 1) + countL notNl (s.data.toList.drop (k + 1 + 2))) := by
                    have h1 := HE.out
                    rw [if_pos (by unfold notNl; exact c10)] at h1
                    have h2 := HK.out
                    have h3 : k + 2 + 1 = k + 1 + 2 := by omega
                    rw [h3] at h1
                    show _ = _
                    omega
                  clear HE h10
                  go_wp2
                  all_goals go_round
                  all_goals first | exact ⟨k + 1, by omega, by go_num, HN⟩ | (simp [intOf]; omega)
              · have HR : Hid (blankL s.data.toList = (k : Int) + 2) := by
                  have h1 := countL_end notNl s (k + 2) (by omega)
                  have h2 := HK.out
                  show _ = _
                  rw [HD.out]
                  omega
                go_wp2
                all_goals go_ret
                all_goals exact ⟨ret_int HR.out.symm, rfl⟩
          · by_cases g42 : (s[1].toNat : Int) = 42
            · have HD := Lib.hid (blank_block h2 h47 g42)
              clear n1 n2 n3 n4 g47
              go_enter Try.func27, Try.ntmps27
              go_wp2
              go_loop [4] (fun n => ∃ k : Nat, k ≤ s.size ∧ n = .int .i64 k ∧ Hid (endAt s.data.toList 2 = endAt s.data.toList k)) (fun n => s.size - (intOf n).toNat)
              case atStart => exact ⟨2, by omega, rfl, show _ = _ from rfl⟩
              case round =>
                obtain ⟨k, hk, rfl, HK⟩ := hrel
                by_cases hlt : k + 1 < s.size
                · have hk0 : k < s.size := by omega
                  by_cases hc : (s[k].toNat : Int) = 42 ∧ (s[k + 1].toNat : Int) = 47
                  · have HR : Hid (blankL s.data.toList = (k : Int) + 2) := by
                      show _ = _
                      rw [HD.out, HK.out, end_hit hk0 hlt hc.1 hc.2, if_neg (by omega)]
                    obtain ⟨c1, c2⟩ := hc
                    clear HD HK
                    go_wp2
                    all_goals go_ret
                    all_goals exact ⟨ret_int HR.out.symm, rfl⟩
                  · have HN := Lib.hid (HK.out.trans (end_step hk0 hlt hc))
                    by_cases c1 : (s[k].toNat : Int) = 42
                    · have c2 : ((s[k + 1].toNat : Int) == 47) = false := by
                        have : (s[k + 1].toNat : Int) ≠ 47 := fun h => hc ⟨c1, h⟩
                        simpa using this
                      clear hc
                      go_wp2
                      all_goals go_round
                      all_goals first | exact ⟨k + 1, hk0, by go_num, HN⟩ | (simp [intOf]; omega)
                    · have c1' : ((s[k].toNat : Int) == 42) = false := by simpa using c1
                      clear hc c1
                      go_wp2
                      all_goals go_round
                      all_goals first | exact ⟨k + 1, hk0, by go_num, HN⟩ | (simp [intOf]; omega)
                · have HR : Hid (blankL s.data.toList = -1) := by
                    show _ = _
                    rw [HD.out, HK.out, end_end (by omega), if_pos rfl]
                  go_wp2
                  all_goals go_ret
                  all_goals exact ⟨ret_int HR.out.symm, rfl⟩
            · have HD := Lib.hid (blank_slash h2 h47 g47 g42)
              have b47 : ((s[1].toNat : Int) == 47) = false := by simpa using g47
              have c42 : ((s[1].toNat : Int) != 42) = true := by simpa using g42
              clear n1 n2 n3 n4 g47 g42
              go_enter Try.func27, Try.ntmps27
              go_wp2
              all_goals go_ret
              all_goals exact ⟨ret_int HD.out.symm, rfl⟩
        · have HD := Lib.hid (blank_no h2 HSP.out h47)
          have b47 : ((s[0].toNat : Int) == 47) = false := by simpa using h47
          have c47 : ((s[0].toNat : Int) != 47) = true := by simpa using h47
          clear h47
          go_enter Try.func27, Try.ntmps27
          go_wp2
          all_goals go_ret
          all_goals exact ⟨ret_int HD.out.symm, rfl⟩
  · have he := empty_t hz
    go_enter Try.func27, Try.ntmps27
    go_wp2
    go_ret
    exact ⟨ret_int (by rw [nil_t hz]; rfl), rfl⟩
end Go.Proofs.Ytfilmombflohpaa
