/- Rational numbers as the reference reads them. -/
import Derived.Test.YtojgafkkgacpkaaGreatDoorQC
import Derived.Test.YtojgafkkgacpkaaGreatDoorN64
import Derived.Test.YtojgafkkgacpkaaGreatDoorN56
set_option linter.unusedSimpArgs false
set_option linter.unusedVariables false
namespace Go.Proofs.YtojgafkkgacpkaaGreatDoor
open Go.RowKit
set_option maxRecDepth 100000

/-- A rational number as the reference reads it. -/
theorem rat_read {x : Rat} (h : FitsR x) : ReadIs (rnum x) (isNeg x.num) x.num.natAbs x.den := fun W => rReadReal_nums _ _ _ h.rat.top h.rat.bot W
theorem rat_check {x : Rat} (h : FitsR x) : CheckIs 46 (rnum x) 0 := fun W => rCheckReal_nums _ _ _ _ h.rat.top h.rat.bot W 0 h.rat.real
theorem FitsR.ql {x : Rat} (h : FitsR x) : ql x.num.natAbs < 1000 ∧ ql x.den < 1000 := ⟨by have := num_ql h.rat.top; omega, by have := num_ql h.rat.bot; omega⟩
/-- What a check says wherever MaxLen's cell is. -/
abbrev CheckM (f : Nat) (u : ByteArray) (r : Int) : Prop := ∀ W : World, MLen W → Calls Tryz.prog f #[.string u] W fun e w' => e = .returned (.int .i64 r) ∧ Below W.heap.size W w'
end Go.Proofs.YtojgafkkgacpkaaGreatDoor

namespace Go.Proofs.YtojgafkkgacpkaaGreatDoor
open Go.RowKit
set_option maxRecDepth 100000

theorem realBoth (s : ByteArray) (hs : s.size ≤ 300) :
    (∃ x : Rat, s = rnum x ∧ FitsR x ∧ CheckM 45 s 0 ∧ CheckIs 46 s 0) ∨
    (∃ r : Int, r ≠ 0 ∧ CheckM 45 s r ∧ CheckIs 46 s r) := by
  by_cases h1 : s.data.toList.count 47 = 1
  · obtain ⟨X, Y, hl, hX, hY⟩ := one_slash h1
    have hsb : s = bs (X ++ 47 :: Y) := by
      show s = ⟨(X ++ 47 :: Y).toArray⟩
      rw [← hl]
    have hlen : (X ++ 47 :: Y).length = s.size := by rw [← hl]; simp
    by_cases hr : (if checkS X = 0 then checkS Y else checkS X) = 0
    · have hx0 : checkS X = 0 := by
        by_cases h : checkS X = 0
        · exact h
        · rw [if_neg h] at hr; exact hr
      rw [if_pos hx0] at hr
      obtain ⟨sx, a, rfl, hna⟩ := check_back hx0
      obtain ⟨sy, b, rfl, hnb⟩ := check_back hr
      have hsr : s = bs (ratio sx a sy b) := hsb
      by_cases he : realE sy a b = 0
      · have hsy : sy = false := by
          unfold realE at he
          cases sy
          · rfl
          · rw [if_pos (by simp)] at he; cases he
        subst hsy
        have h2 : Rat2 sx a b := ⟨hna, hnb, he⟩
        obtain ⟨x, hf, hx, hxa, hxb⟩ := real_back h2
        refine Or.inl ⟨x, by rw [hsr, hx], hf, fun w hm => ?_, fun w => ?_⟩
        · rw [hsr]; exact CheckReal_ok h2 w hm
        · rw [hsr, hx]; exact rat_check hf w
      · refine Or.inr ⟨realE sy a b, he, fun w hm => ?_, fun w => ?_⟩
        · obtain ⟨m, hm1⟩ := hm.ml
          rw [hsr]
          exact CheckReal_nums sx sy a b hna hnb m w hm1 hm.pos _ rfl
        · rw [hsr]
          exact rCheckReal_nums sx sy a b hna hnb w _ rfl
    · refine Or.inr ⟨_, hr, fun w hm => ?_, fun w => ?_⟩
      · obtain ⟨m, hm1⟩ := hm.ml
        rw [hsb]
        refine CheckReal_err X Y hX hY (by rw [hlen]; omega) _ _ _ rfl rfl rfl ?_ m w hm1
        have h3 := checkS_is X
        have h4 := checkS_is Y
        split at hr <;> rename_i h5
        · rw [if_pos h5]; omega
        · rw [if_neg h5]; omega
      · rw [hsb]
        exact rCheckReal_err X Y hX hY (by rw [hlen]; omega) _ _ _ rfl rfl rfl hr w
  · exact Or.inr ⟨1, by decide, fun w _ => CheckReal_form s h1 w, fun w => rCheckReal_form s h1 (by omega) w⟩
end Go.Proofs.YtojgafkkgacpkaaGreatDoor

namespace Go.Proofs.YtojgafkkgacpkaaGreatDoor
open Go.RowKit
set_option maxRecDepth 100000

/-- Worlds of a law's run. -/
structure Aq (w0 : World) (w : World) : Prop where
  bl : Below w0.heap.size w0 w
  env : Env w
theorem Aq.step {w0 w w' : World} (h : Aq w0 w) (hb : Below w.heap.size w w') : Aq w0 w' :=
  ⟨h.bl.trans (hb.mono h.bl.size), h.env.same hb⟩
/-- Is one of the strings too long? -/
def longE : List ByteArray → Bool
  | [] => false
  | x :: l => if 300 < x.size then true else longE l
theorem longE_drop {l : List ByteArray} {k : Nat} (h : k < l.length) : longE (l.drop k) = if 300 < (l.getD k ⟨#[]⟩).size then true else longE (l.drop (k + 1)) := by
  rw [List.drop_eq_getElem_cons h]
  simp [longE, h]
set_option maxHeartbeats 1000000 in
theorem long_any (l : List ByteArray) (G : Nat) (w : World) (hl : l.length ≤ 8) (hG : ∀ j, j < l.length → w.cell? ⟨G, j, none⟩ = some (.string (l.getD j ⟨#[]⟩))) (r : Bool) (hr : longE l = r) :
    Calls Tryz.prog 11 #[.slice (some ⟨G, 0, none⟩) l.length l.length] w fun e w' => e = .returned (.bool r) ∧ w = w' := by
  have HR := Lib.hid (show longE (l.drop 0) = r by simpa using hr)
  have HG := Lib.hid hG
  have HD := Lib.hid (fun k => @longE_drop l k)
  have HN := Lib.hid (fun k (h : l.length ≤ k) => show longE (l.drop k) = false by rw [List.drop_eq_nil_of_le h]; rfl)
  obtain ⟨n, hn⟩ : ∃ n, l.length = n := ⟨_, rfl⟩
  rw [hn] at hl HG HD HN ⊢
  clear hG hr hn
  go_enter Tryz.func11, Tryz.ntmps11
  go_wp2
  go_loop [7] (fun x => ∃ k : Nat, k ≤ n ∧ x = .int .i64 k ∧ Hid (longE (l.drop k) = r)) (fun x => n - (intOf x).toNat)
  case atStart => exact ⟨0, Nat.zero_le _, rfl, HR⟩
  case round =>
    clear HR
    obtain ⟨k, hk, rfl, HK⟩ := hrel
    by_cases hlt : k < n
    · have hc := HG.out k hlt
      have hd := HD.out k hlt
      rw [HK.out] at hd
      obtain ⟨x, hx⟩ : ∃ x, l.getD k ⟨#[]⟩ = x := ⟨_, rfl⟩
      rw [hx] at hc hd
      by_cases h0 : 300 < x.size
      · have HE := Lib.hid (show r = true by rw [hd, if_pos h0])
        have h1 : decide ((300 : Int) < x.size) = true := by simp; omega
        clear hd hx h0
        go_wp2
        go_ret
        exact ⟨by rw [HE.out]; rfl, rfl⟩
      · have HE := Lib.hid (show longE (l.drop (k + 1)) = r by rw [hd, if_neg h0])
        have h1 : decide ((300 : Int) < x.size) = false := by simp; omega
        clear hd hx h0
        go_wp2
        go_round
        case rel => exact ⟨k + 1, by omega, by go_num, HE⟩
        case measure => simp [intOf]; omega
    · have HE := Lib.hid (show r = false by rw [← HK.out]; exact HN.out k (by omega))
      go_wp2
      go_ret
      exact ⟨by rw [HE.out]; rfl, rfl⟩
theorem long_two (x y : ByteArray) (w : World) (r : Bool) (hr : longE [x, y] = r) :
    Calls Tryz.prog 11 #[.slice (some ⟨w.heap.size, 0, none⟩) 2 2] (w.alloc (.cells #[.string x, .string y] 9)) fun e w' => e = .returned (.bool r) ∧ w.alloc (.cells #[.string x, .string y] 9) = w' :=
  long_any [x, y] w.heap.size _ (by simp) (by
    intro j hj
    match j, hj with
    | 0, _ => exact (BlockIs.new w 9 #[.string x, .string y]).at 0
    | 1, _ => exact (BlockIs.new w 9 #[.string x, .string y]).at 1) r hr
set_option maxHeartbeats 1000000 in
theorem both_same (x : ByteArray) (e : Int) (w : World) :
    Calls Tryz.prog 20 #[.string x, .int .i64 e, .string x, .int .i64 e] w fun e w' => e = .returned (.bool true) ∧ w = w' := by
  go_enter Tryz.func20, Tryz.ntmps20
  go_wp2
  go_ret
  exact ⟨rfl, rfl⟩
end Go.Proofs.YtojgafkkgacpkaaGreatDoor
