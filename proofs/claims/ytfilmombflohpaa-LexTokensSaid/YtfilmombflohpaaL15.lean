/- Position: line and column of an offset. -/
import Derived.Test.YtfilmombflohpaaL12B
set_option linter.unusedSimpArgs false
set_option linter.unusedVariables false
namespace Go.Proofs.Ytfilmombflohpaa
open Go.RowKit Go.ChangeMaps Go.WideMaps
set_option maxRecDepth 100000

theorem cells_of {w : World} {base : Nat} {e : TypeId} {size n m cap g : Nat} {xs : List Value} (h : w.ownsRow base e size (.slice (some ⟨g, 0, none⟩) m cap) n xs) (j : Nat) (u : Value) (hj : xs[j]? = some u) : w.cell? ⟨g, j, none⟩ = some u := by
  have := h.cells (g := g) rfl j u hj
  rcases Nat.eq_zero_or_pos j with rfl | h0
  · simpa [Addr.add] using this
  · simpa [Addr.add, Nat.ne_of_gt h0] using this

/-- Line and column behind these bytes. -/
def lc (l : List UInt8) : Int × Int := l.foldl (fun p c => if (c.toNat : Int) = 10 then (p.1 + 1, 1) else (p.1, p.2 + 1)) (1, 1)

theorem lc_yes {s : ByteArray} {k : Nat} {x y : Int} (h : k < s.size) (hc : (s[k].toNat : Int) = 10) (e : lc (s.data.toList.take k) = (x, y)) : lc (s.data.toList.take (k + 1)) = (x + 1, 1) := by
  have h1 : s.data.toList.take (k + 1) = s.data.toList.take k ++ [s[k]] := by
    rw [List.take_add_one, List.getElem?_eq_getElem (by simpa using h)]; rfl
  unfold lc at e ⊢
  rw [h1, List.foldl_append, e]
  simp [hc]

theorem lc_no {s : ByteArray} {k : Nat} {x y : Int} (h : k < s.size) (hc : (s[k].toNat : Int) ≠ 10) (e : lc (s.data.toList.take k) = (x, y)) : lc (s.data.toList.take (k + 1)) = (x, y + 1) := by
  have h1 : s.data.toList.take (k + 1) = s.data.toList.take k ++ [s[k]] := by
    rw [List.take_add_one, List.getElem?_eq_getElem (by simpa using h)]; rfl
  unfold lc at e ⊢
  rw [h1, List.foldl_append, e]
  simp only [List.foldl_cons, List.foldl_nil]
  rw [if_neg hc]

set_option maxHeartbeats 400000 in
theorem position_any (s : ByteArray) (m : Nat) (w : World) (hs : s.size ≤ 65536) (hm : m ≤ s.size) :
    Calls Try.prog 26 #[.string s, .int .i64 m] w fun e w' => e = .returned (.tuple #[.int .i64 (lc (s.data.toList.take m)).1, .int .i64 (lc (s.data.toList.take m)).2, .int .i64 0]) ∧ w = w' := by
  obtain ⟨X, Y, hXY⟩ : ∃ X Y, lc (s.data.toList.take m) = (X, Y) := ⟨_, _, rfl⟩
  rw [hXY]
  have HXY := Lib.hid hXY
  clear hXY
  go_enter Try.func26, Try.ntmps26
  go_wp2
  go_loop [7, 8, 9, 24] (fun a b _ n => ∃ (k : Nat) (x y : Int), k ≤ m ∧ n = .int .i64 k ∧ a = .int .i64 x ∧ b = .int .i64 y ∧ Hid (lc (s.data.toList.take k) = (x, y)) ∧ 1 ≤ x ∧ x ≤ k + 1 ∧ 1 ≤ y ∧ y ≤ k + 1) (fun _ _ _ n => m - (intOf n).toNat)
  case atStart => exact ⟨0, 1, 1, Nat.zero_le _, rfl, rfl, rfl, show _ = _ from rfl, by omega, by omega, by omega, by omega⟩
  case round =>
    obtain ⟨k, x, y, hk, rfl, rfl, rfl, hc, h1, h2, h3, h4⟩ := hrel
    by_cases hlt : k < m
    · have hks : k < s.size := by omega
      go_wp2
      · go_round
        case rel => exact ⟨k + 1, x + 1, 1, by omega, by go_num, rfl, rfl, lc_yes hks (by simpa using ‹(_ == (10 : Int)) = true›) hc.out, by omega, by omega, by omega, by omega⟩
        case measure => simp [intOf]; omega
      · go_round
        case rel => exact ⟨k + 1, x, y + 1, by omega, by go_num, rfl, rfl, lc_no hks (by simpa using ‹(_ == (10 : Int)) = false›) hc.out, by omega, by omega, by omega, by omega⟩
        case measure => simp [intOf]; omega
    · obtain rfl : k = m := by omega
      obtain ⟨rfl, rfl⟩ := Prod.mk.inj (HXY.out.symm.trans hc.out)
      go_wp2
      go_ret3
      exact ⟨rfl, rfl⟩

end Go.Proofs.Ytfilmombflohpaa
