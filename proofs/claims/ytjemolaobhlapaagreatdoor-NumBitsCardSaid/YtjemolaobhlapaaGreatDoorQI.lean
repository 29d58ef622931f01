/- Too long strings; equal answers. -/
import Derived.Test.YtjemolaobhlapaaGreatDoorN56
set_option linter.unusedSimpArgs false
set_option linter.unusedVariables false
namespace Go.Proofs.YtjemolaobhlapaaGreatDoor
open Go.RowKit
set_option maxRecDepth 100000

/-- Worlds of a law's run. -/
structure Aq (w0 : World) (w : World) : Prop where
  bl : Below w0.heap.size w0 w
  env : Env w
theorem Aq.step {w0 w w' : World} (h : Aq w0 w) (hb : Below w.heap.size w w') : Aq w0 w' :=
  ⟨h.bl.trans (hb.mono h.bl.size), h.env.same hb⟩
/-- Is one of the strings too long? -/
def longE : List ByteArray → Bool
  | [] => false
  | x :: l => if 300 < x.size then true else longE l
theorem longE_drop {l : List ByteArray} {k : Nat} (h : k < l.length) : longE (l.drop k) = if 300 < (l.getD k ⟨#[]⟩).size then true else longE (l.drop (k + 1)) := by
  rw [List.drop_eq_getElem_cons h]
  simp [longE, h]
set_option maxHeartbeats 1000000 in
theorem long_any (l : List ByteArray) (G : Nat) (w : World) (hl : l.length ≤ 8) (hG : ∀ j, j < l.length → w.cell? ⟨G, j, none⟩ = some (.string (l.getD j ⟨#[]⟩))) (r : Bool) (hr : longE l = r) :
    Calls Tryz.prog 11 #[.slice (some ⟨G, 0, none⟩) l.length l.length] w fun e w' => e = .returned (.bool r) ∧ w = w' := by
  have HR := Lib.hid (show longE (l.drop 0) = r by simpa using hr)
  have HG := Lib.hid hG
  have HD := Lib.hid (fun k => @longE_drop l k)
  have HN := Lib.hid (fun k (h : l.length ≤ k) => show longE (l.drop k) = false by rw [List.drop_eq_nil_of_le h]; rfl)
  obtain ⟨n, hn⟩ : ∃ n, l.length = n := ⟨_, rfl⟩
  rw [hn] at hl HG HD HN ⊢
  clear hG hr hn
  go_enter Tryz.func11, Tryz.ntmps11
  go_wp2
  go_loop [7] (fun x => ∃ k : Nat, k ≤ n ∧ x = .int .i64 k ∧ Hid (longE (l.drop k) = r)) (fun x => n - (intOf x).toNat)
  case atStart => exact ⟨0, Nat.zero_le _, rfl, HR⟩
  case round =>
    clear HR
    obtain ⟨k, hk, rfl, HK⟩ := hrel
    by_cases hlt : k < n
    · have hc := HG.out k hlt
      have hd := HD.out k hlt
      rw [HK.out] at hd
      obtain ⟨x, hx⟩ : ∃ x, l.getD k ⟨#[]⟩ = x := ⟨_, rfl⟩
      rw [hx] at hc hd
      by_cases h0 : 300 < x.size
      · have HE := Lib.hid (show r = true by rw [hd, if_pos h0])
        have h1 : decide ((300 : Int) < x.size) = true := by simp; omega
        clear hd hx h0
        go_wp2
        go_ret
        exact ⟨by rw [HE.out]; rfl, rfl⟩
      · have HE := Lib.hid (show longE (l.drop (k + 1)) = r by rw [hd, if_neg h0])
        have h1 : decide ((300 : Int) < x.size) = false := by simp; omega
        clear hd hx h0
        go_wp2
        go_round
        case rel => exact ⟨k + 1, by omega, by go_num, HE⟩
        case measure => simp [intOf]; omega
    · have HE := Lib.hid (show r = false by rw [← HK.out]; exact HN.out k (by omega))
      go_wp2
      go_ret
      exact ⟨by rw [HE.out]; rfl, rfl⟩
theorem long_two (x y : ByteArray) (w : World) (r : Bool) (hr : longE [x, y] = r) :
    Calls Tryz.prog 11 #[.slice (some ⟨w.heap.size, 0, none⟩) 2 2] (w.alloc (.cells #[.string x, .string y] 9)) fun e w' => e = .returned (.bool r) ∧ w.alloc (.cells #[.string x, .string y] 9) = w' :=
  long_any [x, y] w.heap.size _ (by simp) (by
    intro j hj
    match j, hj with
    | 0, _ => exact (BlockIs.new w 9 #[.string x, .string y]).at 0
    | 1, _ => exact (BlockIs.new w 9 #[.string x, .string y]).at 1) r hr
set_option maxHeartbeats 1000000 in
theorem both_same (x : ByteArray) (e : Int) (w : World) :
    Calls Tryz.prog 20 #[.string x, .int .i64 e, .string x, .int .i64 e] w fun e w' => e = .returned (.bool true) ∧ w = w' := by
  go_enter Tryz.func20, Tryz.ntmps20
  go_wp2
  go_ret
  exact ⟨rfl, rfl⟩
end Go.Proofs.YtjemolaobhlapaaGreatDoor
