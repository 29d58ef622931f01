/- The reference's split at two colons. -/
import Derived.Test.YtfilmombflohpaaL23
set_option linter.unusedSimpArgs false
set_option linter.unusedVariables false
namespace Go.Proofs.Ytfilmombflohpaa
open Go.RowKit Go.ChangeMaps Go.WideMaps
set_option maxRecDepth 100000

/-- The module and the name. -/
def spA (l : List UInt8) : List UInt8 := if (Lib.cut l [58, 58]).2.2 = true then (Lib.cut l [58, 58]).1 else []
def spB (l : List UInt8) : List UInt8 := if (Lib.cut l [58, 58]).2.2 = true then (Lib.cut l [58, 58]).2.1 else l

theorem cut_hit {l : List UInt8} {k : Nat} (h : Lib.index l [58, 58] = k) : Lib.cut l [58, 58] = (l.take k, l.drop (k + 2), true) := by
  unfold Lib.cut
  rw [h, if_pos (by omega)]
  simp
theorem cut_miss {l : List UInt8} (h : Lib.index l [58, 58] = -1) : Lib.cut l [58, 58] = (l, [], false) := by
  unfold Lib.cut
  rw [h, if_neg (by omega)]

/-- Where the sign is, seen from place k on. -/
def idxAt (l : List UInt8) (k : Nat) : Int := if Lib.index (l.drop k) [58, 58] = -1 then -1 else Lib.index (l.drop k) [58, 58] + k

theorem idx_hit {s : ByteArray} {k : Nat} (h : k < s.size) (h1 : k + 1 < s.size) (e1 : (s[k].toNat : Int) = 58) (e2 : (s[k + 1].toNat : Int) = 58) (e : Lib.index s.data.toList [58, 58] = idxAt s.data.toList k) : Lib.index s.data.toList [58, 58] = k := by
  have x1 : s[k] = 58 := by rw [← UInt8.toNat_inj]; exact Int.ofNat.inj e1
  have x2 : s[k + 1] = 58 := by rw [← UInt8.toNat_inj]; exact Int.ofNat.inj e2
  rw [e]
  unfold idxAt
  rw [drop_cons s k h, drop_cons s (k + 1) h1, x1, x2]
  simp [Lib.index, List.isPrefixOf]
theorem idx_step {s : ByteArray} {k : Nat} (h : k < s.size) (h1 : k + 1 < s.size) (hn : ¬ ((s[k].toNat : Int) = 58 ∧ (s[k + 1].toNat : Int) = 58)) (e : Lib.index s.data.toList [58, 58] = idxAt s.data.toList k) : Lib.index s.data.toList [58, 58] = idxAt s.data.toList (k + 1) := by
  rw [e]
  unfold idxAt
  rw [drop_cons s k h]
  have hp : List.isPrefixOf [58, 58] (s[k] :: s.data.toList.drop (k + 1)) = false := by
    rw [drop_cons s (k + 1) h1, Bool.eq_false_iff]
    intro hx
    simp [List.isPrefixOf] at hx
    exact hn ⟨by rw [← hx.1]; rfl, by rw [← hx.2]; rfl⟩
  rw [Lib.index, hp]
  have hge := Lib.index_ge (s.data.toList.drop (k + 1)) [58, 58]
  by_cases hm : Lib.index (s.data.toList.drop (k + 1)) [58, 58] = -1
  · simp [hm]
  · have hb : (Lib.index (s.data.toList.drop (k + 1)) [58, 58] == -1) = false := by simpa using hm
    rw [hb, if_neg hm]
    simp only [Bool.false_eq_true, if_false]
    rw [if_neg (by omega)]
    omega
theorem idx_end {s : ByteArray} {k : Nat} (h1 : s.size ≤ k + 1) (e : Lib.index s.data.toList [58, 58] = idxAt s.data.toList k) : Lib.index s.data.toList [58, 58] = -1 := by
  rw [e]
  unfold idxAt
  have hl : (s.data.toList.drop k).length ≤ 1 := by rw [List.length_drop, ← Lib.size_eq]; omega
  match s.data.toList.drop k, hl with
  | [], _ => rfl
  | [a], _ => simp [Lib.index, List.isPrefixOf]

theorem ret_str2 {a b c d : ByteArray} (h : a.data.toList = c.data.toList) (k : b.data.toList = d.data.toList) : Ending.returned (.tuple #[.string a, .string b]) = .returned (.tuple #[.string c, .string d]) := by
  rw [Go.WideShapes.bytes_inj h, Go.WideShapes.bytes_inj k]

set_option maxHeartbeats 2000000 in
theorem rSplit_any (s : ByteArray) (w : World) (hs : s.size ≤ 65536) :
    Calls Try.prog 32 #[.string s] w fun e w' => e = .returned (.tuple #[.string (mk (spA s.data.toList)), .string (mk (spB s.data.toList))]) ∧ ∃ n, w.drewN n = w' := by
  go_enter Try.func32, Try.ntmps32
  go_wp2
  go_loop [4] (fun n => ∃ k : Nat, k ≤ s.size ∧ n = .int .i64 k ∧ Hid (Lib.index s.data.toList [58, 58] = idxAt s.data.toList k)) (fun n => s.size - (intOf n).toNat)
  case atStart => exact ⟨0, Nat.zero_le _, rfl, show _ = _ by unfold idxAt; rw [List.drop_zero]; split <;> simp_all⟩
  case round =>
    obtain ⟨k, hk, rfl, HK⟩ := hrel
    by_cases hlt : k + 1 < s.size
    · have hk0 : k < s.size := by omega
      by_cases hc : (s[k].toNat : Int) = 58 ∧ (s[k + 1].toNat : Int) = 58
      · have HD := Lib.hid (cut_hit (idx_hit hk0 hlt hc.1 hc.2 HK.out))
        obtain ⟨c1, c2⟩ := hc
        go_wp2
        go_region
        all_goals go_wp2
        all_goals go_ret2
        all_goals exact ⟨ret_str2 (by unfold spA; rw [HD.out, Lib.extract_data]; simp) (by unfold spB; rw [HD.out, Lib.extract_to_end]; simp), by first | exact ⟨0, rfl⟩ | exact ⟨1, rfl⟩ | exact ⟨2, rfl⟩⟩
      · have HD := Lib.hid (idx_step hk0 hlt hc HK.out)
        by_cases c1 : (s[k].toNat : Int) = 58
        · have c2 : (s[k + 1].toNat : Int) ≠ 58 := fun h => hc ⟨c1, h⟩
          clear hc
          go_wp2
          all_goals go_round
          all_goals first | exact ⟨k + 1, hk0, by go_num, HD⟩ | (simp [intOf]; omega)
        · clear hc
          go_wp2
          all_goals go_round
          all_goals first | exact ⟨k + 1, hk0, by go_num, HD⟩ | (simp [intOf]; omega)
    · have HD := Lib.hid (cut_miss (idx_end (by omega) HK.out))
      go_wp2
      go_ret2
      exact ⟨ret_str2 (by unfold spA; rw [HD.out]; rfl) (by unfold spB; rw [HD.out]; simp), 0, rfl⟩
end Go.Proofs.Ytfilmombflohpaa
