/- Too long strings; equal answers. -/
import Derived.Test.YtojgafkkgacpkaaGreatDoorQF
import Derived.Test.YtojgafkkgacpkaaGreatDoorN56
set_option linter.unusedSimpArgs false
set_option linter.unusedVariables false
namespace Go.Proofs.YtojgafkkgacpkaaGreatDoor
open Go.RowKit
set_option maxRecDepth 100000

/-- Worlds of a law's run. -/
structure Aq (w0 : World) (w : World) : Prop where
  bl : Below w0.heap.size w0 w
  env : Env w
theorem Aq.step {w0 w w' : World} (h : Aq w0 w) (hb : Below w.heap.size w w') : Aq w0 w' :=
  ⟨h.bl.trans (hb.mono h.bl.size), h.env.same hb⟩
/-- Is one of the strings too long? -/
def longE : List ByteArray → Bool
  | [] => false
  | x :: l => if 300 < x.size then true else longE l
theorem longE_drop {l : List ByteArray} {k : Nat} (h : k < l.length) : longE (l.drop k) = if 300 < (l.getD k ⟨#[]⟩).size then true else longE (l.drop (k + 1)) := by
  rw [List.drop_eq_getElem_cons h]
  simp [longE, h]
set_option maxHeartbeats 1000000 in
theorem long_any (l : List ByteArray) (G : Nat) (w : World) (hl : l.length ≤ 8) (hG : ∀ j, j < l.length → w.cell? ⟨G, j, none⟩ = some (.string (l.getD j ⟨#[]⟩))) (r : Bool) (hr : longE l = r) :
    Calls Tryz.prog 11 #[.slice (some ⟨G, 0, none⟩) l.length l.length] w fun e w' => e = .returned (.bool r) ∧ w = w' := by
  have HR := Lib.hid (show longE (l.drop 0) = r by simpa using hr)
  have HG := Lib.hid hG
  have HD := Lib.hid (fun k => @longE_drop l k)
  have HN := Lib.hid (fun k (h : l.length ≤ k) => show longE (l.drop k) = false by rw [List.drop_eq_nil_of_le h]; rfl)
  obtain ⟨n, hn⟩ : ∃ n, l.length = n := ⟨_, rfl⟩
  rw [hn] at hl HG HD HN ⊢
  clear hG hr hn
  go_enter Tryz.func11, Tryz.ntmps11
  go_wp2
  go_loop [7] (fun x => ∃ k : Nat, k ≤ n ∧ x = .int .i64 k ∧ Hid (longE (l.drop k) = r)) (fun x => n - (intOf x).toNat)
  case atStart => exact ⟨0, Nat.zero_le _, rfl, HR⟩
  case round =>
    clear HR
    obtain ⟨k, hk, rfl, HK⟩ := hrel
    by_cases hlt : k < n
    · have hc := HG.out k hlt
      have hd := HD.out k hlt
      rw [HK.out] at hd
      obtain ⟨x, hx⟩ : ∃ x, l.getD k ⟨#[]⟩ = x := ⟨_, rfl⟩
      rw [hx] at hc hd
      by_cases h0 : 300 < x.size
      · have HE := Lib.hid (show r = true by rw [hd, if_pos h0])
        have h1 : decide ((300 : Int) < x.size) = true := by simp; omega
        clear hd hx h0
        go_wp2
        go_ret
        exact ⟨by rw [HE.out]; rfl, rfl⟩
      · have HE := Lib.hid (show longE (l.drop (k + 1)) = r by rw [hd, if_neg h0])
        have h1 : decide ((300 : Int) < x.size) = false := by simp; omega
        clear hd hx h0
        go_wp2
        go_round
        case rel => exact ⟨k + 1, by omega, by go_num, HE⟩
        case measure => simp [intOf]; omega
    · have HE := Lib.hid (show r = false by rw [← HK.out]; exact HN.out k (by omega))
      go_wp2
      go_ret
      exact ⟨by rw [HE.out]; rfl, rfl⟩
theorem long_two (x y : ByteArray) (w : World) (r : Bool) (hr : longE [x, y] = r) :
    Calls Tryz.prog 11 #[.slice (some ⟨w.heap.size, 0, none⟩) 2 2] (w.alloc (.cells #[.string x, .string y] 9)) fun e w' => e = .returned (.bool r) ∧ w.alloc (.cells #[.string x, .string y] 9) = w' :=
  long_any [x, y] w.heap.size _ (by simp) (by
    intro j hj
    match j, hj with
    | 0, _ => exact (BlockIs.new w 9 #[.string x, .string y]).at 0
    | 1, _ => exact (BlockIs.new w 9 #[.string x, .string y]).at 1) r hr
set_option maxHeartbeats 1000000 in
theorem both_same (x : ByteArray) (e : Int) (w : World) :
    Calls Tryz.prog 20 #[.string x, .int .i64 e, .string x, .int .i64 e] w fun e w' => e = .returned (.bool true) ∧ w = w' := by
  go_enter Tryz.func20, Tryz.ntmps20
  go_wp2
  go_ret
  exact ⟨rfl, rfl⟩
end Go.Proofs.YtojgafkkgacpkaaGreatDoor

namespace Go.Proofs.YtojgafkkgacpkaaGreatDoor
open Go.RowKit
set_option maxRecDepth 1000000

abbrev OpM (f : Nat) (u v : ByteArray) (x y : Value) : Prop := ∀ W : World, MLen W → Calls Tryz.prog f #[.string u, .string v] W fun e w' => e = .returned (.tuple #[x, y]) ∧ Below W.heap.size W w'
abbrev OpIs (f : Nat) (u v : ByteArray) (x y : Value) : Prop := ∀ W : World, Calls Tryz.prog f #[.string u, .string v] W fun e w' => e = .returned (.tuple #[x, y]) ∧ Below W.heap.size W w'
set_option maxHeartbeats 40000000 in
theorem fractions_long (u v : ByteArray) (hl : longE [u, v] = true) (w : World) (he : Env w) :
    Calls Tryz.prog 4 #[.string u, .string v] w fun e w' => e = .returned (.bool true) ∧ Below w.heap.size w w' := by
  have HA := Lib.hid (show Aq w w from ⟨Below.refl _ _, he⟩)
  clear he
  have HW := Lib.hid (fun W (h : Env W) => awake_any W h)
  have HL := Lib.hid (fun W => long_two u v W true hl)
  clear hl
  go_enter Tryz.func4, Tryz.ntmps4
  go_wp2_with (first | (go_at_call 10; (with_reducible refine (HW.out _ HA.out.env).mono ?_); rintro e w6 ⟨rfl, hb6⟩; replace HA := Lib.hid (HA.out.step hb6); clear hb6) | (go_at_call 11; refine (HL.out _).mono ?_; rintro e w6 ⟨rfl, rfl⟩; replace HA := Lib.hid (HA.out.step ((Below.refl _ _).alloc (Nat.le_refl _) (.cells #[.string u, .string v] 9)))))
  go_ret
  exact ⟨rfl, HA.out.bl⟩
set_option maxHeartbeats 40000000 in
theorem fractions_same (u v : ByteArray) (hl : longE [u, v] = false) (x1 : ByteArray) (e1 : Int) (a1 : OpM 35 u v (.string x1) (.int .i64 e1)) (b1 : OpIs 36 u v (.string x1) (.int .i64 e1)) (x2 : ByteArray) (e2 : Int) (a2 : OpM 37 u v (.string x2) (.int .i64 e2)) (b2 : OpIs 38 u v (.string x2) (.int .i64 e2)) (x3 : ByteArray) (e3 : Int) (a3 : OpM 39 u v (.string x3) (.int .i64 e3)) (b3 : OpIs 40 u v (.string x3) (.int .i64 e3)) (x4 : ByteArray) (e4 : Int) (a4 : OpM 41 u v (.string x4) (.int .i64 e4)) (b4 : OpIs 42 u v (.string x4) (.int .i64 e4)) (o e5 : Int) (a5 : OpM 43 u v (.int .i64 o) (.int .i64 e5)) (b5 : OpIs 44 u v (.int .i64 o) (.int .i64 e5)) (w : World) (he : Env w) :
    Calls Tryz.prog 4 #[.string u, .string v] w fun e w' => e = .returned (.bool true) ∧ Below w.heap.size w w' := by
  have HA := Lib.hid (show Aq w w from ⟨Below.refl _ _, he⟩)
  clear he
  have HW := Lib.hid (fun W (h : Env W) => awake_any W h)
  have HL := Lib.hid (fun W => long_two u v W false hl)
  have A1 := Lib.hid a1
  have B1 := Lib.hid b1
  have A2 := Lib.hid a2
  have B2 := Lib.hid b2
  have A3 := Lib.hid a3
  have B3 := Lib.hid b3
  have A4 := Lib.hid a4
  have B4 := Lib.hid b4
  have A5 := Lib.hid a5
  have B5 := Lib.hid b5
  have H1 := Lib.hid (fun W => both_same x1 e1 W)
  have H2 := Lib.hid (fun W => both_same x2 e2 W)
  have H3 := Lib.hid (fun W => both_same x3 e3 W)
  have H4 := Lib.hid (fun W => both_same x4 e4 W)
  clear hl a1 b1 a2 b2 a3 b3 a4 b4 a5 b5
  go_enter Tryz.func4, Tryz.ntmps4
  go_wp2_with (first | (go_at_call 10; (with_reducible refine (HW.out _ HA.out.env).mono ?_); rintro e w6 ⟨rfl, hb6⟩; replace HA := Lib.hid (HA.out.step hb6); clear hb6) | (go_at_call 11; refine (HL.out _).mono ?_; rintro e w6 ⟨rfl, rfl⟩; replace HA := Lib.hid (HA.out.step ((Below.refl _ _).alloc (Nat.le_refl _) (.cells #[.string u, .string v] 9)))) | (go_at_call 35; (with_reducible refine (A1.out _ HA.out.env.ml).mono ?_); rintro e w6 ⟨rfl, hb6⟩; replace HA := Lib.hid (HA.out.step hb6); clear hb6) | (go_at_call 37; (with_reducible refine (A2.out _ HA.out.env.ml).mono ?_); rintro e w6 ⟨rfl, hb6⟩; replace HA := Lib.hid (HA.out.step hb6); clear hb6) | (go_at_call 39; (with_reducible refine (A3.out _ HA.out.env.ml).mono ?_); rintro e w6 ⟨rfl, hb6⟩; replace HA := Lib.hid (HA.out.step hb6); clear hb6) | (go_at_call 41; (with_reducible refine (A4.out _ HA.out.env.ml).mono ?_); rintro e w6 ⟨rfl, hb6⟩; replace HA := Lib.hid (HA.out.step hb6); clear hb6) | (go_at_call 43; (with_reducible refine (A5.out _ HA.out.env.ml).mono ?_); rintro e w6 ⟨rfl, hb6⟩; replace HA := Lib.hid (HA.out.step hb6); clear hb6) | (go_at_call 36; (with_reducible refine (B1.out _).mono ?_); rintro e w6 ⟨rfl, hb6⟩; replace HA := Lib.hid (HA.out.step hb6); clear hb6) | (go_at_call 38; (with_reducible refine (B2.out _).mono ?_); rintro e w6 ⟨rfl, hb6⟩; replace HA := Lib.hid (HA.out.step hb6); clear hb6) | (go_at_call 40; (with_reducible refine (B3.out _).mono ?_); rintro e w6 ⟨rfl, hb6⟩; replace HA := Lib.hid (HA.out.step hb6); clear hb6) | (go_at_call 42; (with_reducible refine (B4.out _).mono ?_); rintro e w6 ⟨rfl, hb6⟩; replace HA := Lib.hid (HA.out.step hb6); clear hb6) | (go_at_call 44; (with_reducible refine (B5.out _).mono ?_); rintro e w6 ⟨rfl, hb6⟩; replace HA := Lib.hid (HA.out.step hb6); clear hb6) | (go_at_call 20; (with_reducible refine (H1.out _).mono ?_); rintro e w6 ⟨rfl, rfl⟩) | (go_at_call 20; (with_reducible refine (H2.out _).mono ?_); rintro e w6 ⟨rfl, rfl⟩) | (go_at_call 20; (with_reducible refine (H3.out _).mono ?_); rintro e w6 ⟨rfl, rfl⟩) | (go_at_call 20; (with_reducible refine (H4.out _).mono ?_); rintro e w6 ⟨rfl, rfl⟩))
  go_ret
  exact ⟨rfl, HA.out.bl⟩
theorem fractions_any (u v : ByteArray) (w : World) (he : Env w) :
    Calls Tryz.prog 4 #[.string u, .string v] w fun e w' => e = .returned (.bool true) ∧ Below w.heap.size w w' := by
  by_cases hl : longE [u, v] = true
  · exact fractions_long u v hl w he
  have hl2 : longE [u, v] = false := by simpa using hl
  have hs : u.size ≤ 300 ∧ v.size ≤ 300 := by
    simp [longE] at hl2
    omega
  have bad : ∀ ra rb r : Int, CheckM 45 u ra → CheckM 45 v rb → CheckIs 46 u ra → CheckIs 46 v rb → (if ra = 0 then rb else ra) = r → r ≠ 0 → Calls Tryz.prog 4 #[.string u, .string v] w fun e w' => e = .returned (.bool true) ∧ Below w.heap.size w w' := by
    intro ra rb r h1 h2 h3 h4 h5 h6
    exact fractions_same u v hl2 ⟨#[]⟩ r (fun W hm => AddReal_err u v ra rb r h1 h2 h5 h6 W hm) (fun W => rAddReal_err u v ra rb r h3 h4 h5 h6 W) ⟨#[]⟩ r (fun W hm => SubReal_err u v ra rb r h1 h2 h5 h6 W hm) (fun W => rSubReal_err u v ra rb r h3 h4 h5 h6 W) ⟨#[]⟩ r (fun W hm => MulReal_err u v ra rb r h1 h2 h5 h6 W hm) (fun W => rMulReal_err u v ra rb r h3 h4 h5 h6 W) ⟨#[]⟩ r (fun W hm => DivReal_err u v ra rb r h1 h2 h5 h6 W hm) (fun W => rDivReal_err u v ra rb r h3 h4 h5 h6 W) 0 r (fun W hm => CompareReal_err u v ra rb r h1 h2 h5 h6 W hm) (fun W => rCompareReal_err u v ra rb r h3 h4 h5 h6 W) w he
  rcases realBoth u hs.1 with ⟨x, rfl, fx, cx, dx⟩ | ⟨r, h0, h1, h2⟩
  · rcases realBoth v hs.2 with ⟨y, rfl, fy, cy, dy⟩ | ⟨r, h0, h1, h2⟩
    · obtain ⟨x1, e1, h1⟩ : ∃ a b, finQ (x + y) = (a, b) := ⟨_, _, rfl⟩
      obtain ⟨x2, e2, h2⟩ : ∃ a b, finQ (x - y) = (a, b) := ⟨_, _, rfl⟩
      obtain ⟨x3, e3, h3⟩ : ∃ a b, finQ (x * y) = (a, b) := ⟨_, _, rfl⟩
      by_cases hy : y = 0
      · exact fractions_same _ _ hl2 x1 e1 (fun W hm => AddReal_rat fx fy _ rfl _ _ h1 W hm) (fun W => rAddReal_rat fx fy _ rfl _ _ h1 W) x2 e2 (fun W hm => SubReal_rat fx fy _ rfl _ _ h2 W hm) (fun W => rSubReal_rat fx fy _ rfl _ _ h2 W) x3 e3 (fun W hm => MulReal_rat fx fy _ rfl _ _ h3 W hm) (fun W => rMulReal_rat fx fy _ rfl _ _ h3 W) ⟨#[]⟩ 30 (fun W hm => DivReal_nil fx fy hy W hm) (fun W => rDivReal_nil fx fy hy W) _ 0 (fun W hm => CompareReal_rat fx fy W hm) (fun W => rCompareReal_rat fx fy W) w he
      · obtain ⟨x4, e4, h4⟩ : ∃ a b, finQ (x / y) = (a, b) := ⟨_, _, rfl⟩
        exact fractions_same _ _ hl2 x1 e1 (fun W hm => AddReal_rat fx fy _ rfl _ _ h1 W hm) (fun W => rAddReal_rat fx fy _ rfl _ _ h1 W) x2 e2 (fun W hm => SubReal_rat fx fy _ rfl _ _ h2 W hm) (fun W => rSubReal_rat fx fy _ rfl _ _ h2 W) x3 e3 (fun W hm => MulReal_rat fx fy _ rfl _ _ h3 W hm) (fun W => rMulReal_rat fx fy _ rfl _ _ h3 W) x4 e4 (fun W hm => DivReal_rat fx fy hy _ rfl _ _ h4 W hm) (fun W => rDivReal_rat fx fy hy _ rfl _ _ h4 W) _ 0 (fun W hm => CompareReal_rat fx fy W hm) (fun W => rCompareReal_rat fx fy W) w he
    · exact bad 0 r r cx h1 dx h2 (if_pos rfl) h0
  · rcases realBoth v hs.2 with ⟨y, rfl, fy, cy, dy⟩ | ⟨r2, h3, h4, h5⟩
    · exact bad r 0 r h1 cy h2 dy (if_neg h0) h0
    · exact bad r r2 r h1 h4 h2 h5 (if_neg h0) h0
end Go.Proofs.YtojgafkkgacpkaaGreatDoor
