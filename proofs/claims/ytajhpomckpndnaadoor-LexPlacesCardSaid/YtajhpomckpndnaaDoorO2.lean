/- Plain facts: the sizes of the pieces between line feeds; line and column as a fold. -/
import Derived.Test.YtajhpomckpndnaaDoorO1
set_option linter.unusedSimpArgs false
set_option linter.unusedVariables false
namespace Go.Proofs.YtajhpomckpndnaaDoor
set_option maxRecDepth 100000

def cN : List UInt8 → Nat
  | [] => 0
  | c :: r => if isNl c then cN r + 1 else cN r

theorem isNl_iff (c : UInt8) : isNl c = true ↔ c = 10 := by
  unfold isNl
  rw [decide_eq_true_iff, ← UInt8.toNat_inj]
  constructor
  · intro h; exact Int.ofNat.inj h
  · intro h; rw [h]; rfl

theorem idx_nl (c : UInt8) (r : List UInt8) (h : isNl c = true) : Lib.index (c :: r) [10] = 0 := by
  rw [(isNl_iff c).1 h]
  simp [Lib.index, List.isPrefixOf]
theorem idx_no (c : UInt8) (r : List UInt8) (h : isNl c = false) : Lib.index (c :: r) [10] = if Lib.index r [10] = -1 then -1 else Lib.index r [10] + 1 := by
  have hc : ¬ c = 10 := fun e => by rw [(isNl_iff c).2 e] at h; cases h
  have hp : List.isPrefixOf [10] (c :: r) = false := by
    rw [Bool.eq_false_iff]; intro hx; simp [List.isPrefixOf] at hx; exact hc hx.symm
  rw [Lib.index, hp]
  simp

theorem splitK_sizes : ∀ (l : List UInt8) (k : Nat), cN l ≤ k → (Lib.splitK [10] 0 k l).map (fun x => (x.length : Int) + 1) = sizesF l
  | [], 0, _ => by simp [Lib.splitK, sizesF]
  | [], k + 1, _ => by simp [Lib.splitK, sizesF, Lib.index]
  | c :: r, k, hk => by
    cases hc : isNl c
    · have hk' : cN r ≤ k := by unfold cN at hk; rw [hc] at hk; simpa using hk
      have ih := splitK_sizes r k hk'
      have hs : sizesF (c :: r) = match sizesF r with | [] => [] | z :: q => (z + 1) :: q := by
        simp only [sizesF, hc]
        cases sizesF r <;> rfl
      rw [hs, ← ih]
      cases k with
      | zero => simp [Lib.splitK]
      | succ k =>
        unfold Lib.splitK
        rw [idx_no c r hc]
        by_cases hm : Lib.index r [10] = -1
        · simp [hm]
        · have hge := Lib.index_ge r [10]
          rw [if_neg hm]
          have b1 : (Lib.index r [10] + 1 == -1) = false := by simp; omega
          have b2 : (Lib.index r [10] == -1) = false := by simpa using hm
          obtain ⟨n, hn⟩ : ∃ n : Nat, Lib.index r [10] = n := ⟨(Lib.index r [10]).toNat, by omega⟩
          rw [b1, b2, hn]
          have hn1 : ((n : Int) + 1).toNat = n + 1 := by omega
          simp [hn1]
    · cases k with
      | zero => unfold cN at hk; rw [hc] at hk; simp at hk
      | succ k =>
        have hk' : cN r ≤ k := by unfold cN at hk; rw [hc] at hk; simpa using hk
        have ih := splitK_sizes r k hk'
        unfold Lib.splitK
        rw [idx_nl c r hc]
        simp [sizesF, hc, ih]

theorem cN_le : ∀ l : List UInt8, cN l ≤ Lib.count l [10]
  | [] => by simp [cN]
  | c :: r => by
    have ih := cN_le r
    cases hc : isNl c
    · have h1 : cN (c :: r) = cN r := by simp [cN, hc]
      rw [h1]
      by_cases hm : Lib.index r [10] = -1
      · rw [Lib.count_miss hm] at ih; omega
      · have hge := Lib.index_ge r [10]
        obtain ⟨n, hn⟩ : ∃ n : Nat, Lib.index r [10] = n := ⟨(Lib.index r [10]).toNat, by omega⟩
        have h2 : Lib.index (c :: r) [10] = ((n + 1 : Nat) : Int) := by rw [idx_no c r hc, if_neg hm, hn]; simp
        rw [Lib.count_hit (by simp) h2]
        rw [Lib.count_hit (by simp) hn] at ih
        simpa using ih
    · have h1 : cN (c :: r) = cN r + 1 := by simp [cN, hc]
      have h2 : Lib.index (c :: r) [10] = ((0 : Nat) : Int) := by rw [idx_nl c r hc]; rfl
      rw [h1, Lib.count_hit (by simp) h2]
      simp
      omega

/-- The sizes of what strings.Split hands back. -/
theorem split_sizes (s : ByteArray) : (Lib.splitB ⟨#[10]⟩ 0 (Lib.countB s ⟨#[10]⟩) s).map (fun x => (x.size : Int) + 1) = sizesF s.data.toList := by
  rw [← splitK_sizes s.data.toList (Lib.count s.data.toList [10]) (cN_le _)]
  have h := Lib.splitB_data ⟨#[10]⟩ 0 (Lib.countB s ⟨#[10]⟩) s
  rw [show (⟨#[10]⟩ : ByteArray).data.toList = [10] from rfl] at h
  rw [show Lib.count s.data.toList [10] = Lib.countB s ⟨#[10]⟩ from rfl, ← h, List.map_map]
  apply List.map_congr_left
  intro x _
  show (x.size : Int) + 1 = (x.data.toList.length : Int) + 1
  rw [Lib.size_eq]
end Go.Proofs.YtajhpomckpndnaaDoor
