/- The law NumRing: the walk at integers. -/
import Derived.Test.YtojgafkkgacpkaaGreatDoorN56
import Derived.Test.YtojgafkkgacpkaaGreatDoorN60
set_option linter.unusedSimpArgs false
set_option linter.unusedVariables false
namespace Go.Proofs.YtojgafkkgacpkaaGreatDoor
open Go.RowKit
set_option maxRecDepth 1000000

structure Ar (w0 : World) (w : World) : Prop where
  bl : Below w0.heap.size w0 w
  env : Env w
theorem Ar.step {w0 w w' : World} (h : Ar w0 w) (hb : Below w.heap.size w w') : Ar w0 w' :=
  ⟨h.bl.trans (hb.mono h.bl.size), h.env.same hb⟩
theorem inum_zero : inum 0 = ⟨#[48]⟩ := by kernel_rfl
theorem inum_list {x y : Int} : (inum x).toList = (inum y).toList ↔ x = y := by
  rw [Lib.toList_data, Lib.toList_data]
  constructor
  · intro h
    refine inum_inj.1 ?_
    rw [show inum x = ⟨(inum x).data⟩ from rfl, Array.toList_inj.1 h]
  · rintro rfl; rfl
theorem zero_list : (inum 0).toList = [48] := by rw [Lib.toList_data]; kernel_rfl
theorem trim_inum (z : Int) : (⟨(Lib.trimPrefix (inum z).data.toList (ByteArray.mk #[45]).data.toList).toArray⟩ : ByteArray) = inum (z.natAbs : Int) := by
  have : Lib.trimPrefix (inum z).data.toList (ByteArray.mk #[45]).data.toList = Lib.decDigits z.natAbs := by
    unfold inum; rw [bs_list]; exact trim_numeral _ _
  rw [this]
  unfold inum isNeg
  rw [decide_eq_false (by omega), Int.natAbs_natCast]; rfl
set_option maxHeartbeats 40000000 in
theorem ring_eq_zero (a b c : Int) (ha : a.natAbs < 10 ^ 41) (hb : b.natAbs < 10 ^ 41) (hc : c.natAbs < 10 ^ 41) (za : (inum a).size ≤ 41) (zb : (inum b).size ≤ 41) (zc : (inum c).size ≤ 41) (hk : a = b) (h0 : b = 0) (w : World) (he : Env w) :
    Calls Tryz.prog 8 #[.string (inum a), .string (inum b), .string (inum c)] w fun e w' => e = .returned (.bool true) ∧ Below w.heap.size w w' := by
  have HA := Lib.hid (show Ar w w from ⟨Below.refl _ _, he⟩)
  clear he
  have fa : Fits a := Fits.of ha (by decide)
  have fb : Fits b := Fits.of hb (by decide)
  have fc : Fits c := Fits.of hc (by decide)
  have hp : a.natAbs * b.natAbs < 10 ^ 82 := by have := Nat.mul_lt_mul'' ha hb; rwa [← Nat.pow_add] at this
  have hq : a.natAbs * c.natAbs < 10 ^ 82 := by have := Nat.mul_lt_mul'' ha hc; rwa [← Nat.pow_add] at this
  have e41 : (10 : Nat) ^ 41 + 10 ^ 41 + 10 ^ 41 < 10 ^ 42 := by decide
  have e82 : (10 : Nat) ^ 82 + 10 ^ 82 + 10 ^ 82 < 10 ^ 83 := by decide
  obtain ⟨P, hP⟩ : ∃ P, a * b = P := ⟨_, rfl⟩
  obtain ⟨Q, hQ⟩ : ∃ Q, a * c = Q := ⟨_, rfl⟩
  have nP : P.natAbs < 10 ^ 82 := by rw [← hP, Int.natAbs_mul]; exact hp
  have nQ : Q.natAbs < 10 ^ 82 := by rw [← hQ, Int.natAbs_mul]; exact hq
  have f1 : Fits (a + b) := Fits.of (k := 42) (by omega) (by decide)
  have f2 : Fits (b + c) := Fits.of (k := 42) (by omega) (by decide)
  have f3 : Fits (a + b + c) := Fits.of (k := 42) (by omega) (by decide)
  have f7 : Fits (a + c) := Fits.of (k := 42) (by omega) (by decide)
  have f4 : Fits P := Fits.of nP (by decide)
  have f6 : Fits Q := Fits.of nQ (by decide)
  have f5 : Fits (P + Q) := Fits.of (k := 83) (by omega) (by decide)
  have C1 := Lib.hid (fun W => Add_int fa fb _ rfl f1 W)
  have C2 := Lib.hid (fun W => Add_int fb fa (a + b) (Int.add_comm _ _) f1 W)
  have C3 := Lib.hid (fun W => Add_int fb fc _ rfl f2 W)
  have C4 := Lib.hid (fun W => Add_int f1 fc _ rfl f3 W)
  have C5 := Lib.hid (fun W => Add_int fa f2 (a + b + c) (by omega) f3 W)
  have C6 := Lib.hid (fun W => Mul_int fa fb P hP f4 W)
  have C7 := Lib.hid (fun W => Mul_int fb fa P (by rw [Int.mul_comm]; exact hP) f4 W)
  have C8 := Lib.hid (fun W => Mul_int fa f2 (P + Q) (by rw [Int.mul_add, hP, hQ]) f5 W)
  have C9 := Lib.hid (fun W => Mul_int fa fc Q hQ f6 W)
  have C10 := Lib.hid (fun W => Add_int f4 f6 _ rfl f5 W)
  have C11 := Lib.hid (fun W => Sub_int f1 fb a (by omega) fa W)
  have C12 := Lib.hid (fun W => Compare_int fa fb W)
  have C13 := Lib.hid (fun W => Compare_int fb fa W)
  have C14 := Lib.hid (fun W => Add_int fa fc _ rfl f7 W)
  have C15 := Lib.hid (fun W => Compare_int f7 f2 W)
  rw [show cmpZ a b = 0 by unfold cmpZ; repeat' split <;> first | rfl | omega] at C12
  rw [show cmpZ b a = 0 by unfold cmpZ; repeat' split <;> first | rfl | omega] at C13
  rw [show cmpZ (a + c) (b + c) = 0 by unfold cmpZ; repeat' split <;> first | rfl | omega] at C15
  have hab : ((inum a).toList == (inum b).toList) = true := by first | exact beq_iff_eq.2 (inum_list.2 (by omega)) | (rw [Bool.eq_false_iff]; intro h; have h5 := inum_list.1 (beq_iff_eq.1 h); omega)
  have hbz : ((inum b).toList == [48]) = true := by rw [← zero_list]; first | exact beq_iff_eq.2 (inum_list.2 (by omega)) | (rw [Bool.eq_false_iff]; intro h; have h5 := inum_list.1 (beq_iff_eq.1 h); omega)
  have K1 := Lib.hid (fun W => Check_any (inum a) W 0 (check_numeral fa.num))
  have d1 : decide ((41 : Int) < (inum a).size) = false := by simp; omega
  have K2 := Lib.hid (fun W => Check_any (inum b) W 0 (check_numeral fb.num))
  have d2 : decide ((41 : Int) < (inum b).size) = false := by simp; omega
  have K3 := Lib.hid (fun W => Check_any (inum c) W 0 (check_numeral fc.num))
  have d3 : decide ((41 : Int) < (inum c).size) = false := by simp; omega
  have HW := Lib.hid (fun W (h : Env W) => awake_any W h)
  clear hP hQ nP nQ hp hq e41 e82 ha hb hc za zb zc hk h0
  go_enter Tryz.func8, Tryz.ntmps8
  go_wp2_with (first | (go_at_call 10; (with_reducible refine (HW.out _ HA.out.env).mono ?_); rintro e w6 ⟨rfl, hb6⟩; replace HA := Lib.hid (HA.out.step hb6); clear hb6) | (go_at_call 12; (with_reducible refine (K1.out _).mono ?_); rintro e w6 ⟨rfl, hb6⟩; replace HA := Lib.hid (HA.out.step hb6); clear hb6) | (go_at_call 12; (with_reducible refine (K2.out _).mono ?_); rintro e w6 ⟨rfl, hb6⟩; replace HA := Lib.hid (HA.out.step hb6); clear hb6) | (go_at_call 12; (with_reducible refine (K3.out _).mono ?_); rintro e w6 ⟨rfl, hb6⟩; replace HA := Lib.hid (HA.out.step hb6); clear hb6) | (go_at_call 21; (with_reducible refine (C1.out _).mono ?_); rintro e w6 ⟨rfl, hb6⟩; replace HA := Lib.hid (HA.out.step hb6); clear hb6) | (go_at_call 21; (with_reducible refine (C2.out _).mono ?_); rintro e w6 ⟨rfl, hb6⟩; replace HA := Lib.hid (HA.out.step hb6); clear hb6) | (go_at_call 21; (with_reducible refine (C3.out _).mono ?_); rintro e w6 ⟨rfl, hb6⟩; replace HA := Lib.hid (HA.out.step hb6); clear hb6) | (go_at_call 21; (with_reducible refine (C4.out _).mono ?_); rintro e w6 ⟨rfl, hb6⟩; replace HA := Lib.hid (HA.out.step hb6); clear hb6) | (go_at_call 21; (with_reducible refine (C5.out _).mono ?_); rintro e w6 ⟨rfl, hb6⟩; replace HA := Lib.hid (HA.out.step hb6); clear hb6) | (go_at_call 25; (with_reducible refine (C6.out _).mono ?_); rintro e w6 ⟨rfl, hb6⟩; replace HA := Lib.hid (HA.out.step hb6); clear hb6) | (go_at_call 25; (with_reducible refine (C7.out _).mono ?_); rintro e w6 ⟨rfl, hb6⟩; replace HA := Lib.hid (HA.out.step hb6); clear hb6) | (go_at_call 25; (with_reducible refine (C8.out _).mono ?_); rintro e w6 ⟨rfl, hb6⟩; replace HA := Lib.hid (HA.out.step hb6); clear hb6) | (go_at_call 25; (with_reducible refine (C9.out _).mono ?_); rintro e w6 ⟨rfl, hb6⟩; replace HA := Lib.hid (HA.out.step hb6); clear hb6) | (go_at_call 21; (with_reducible refine (C10.out _).mono ?_); rintro e w6 ⟨rfl, hb6⟩; replace HA := Lib.hid (HA.out.step hb6); clear hb6) | (go_at_call 23; (with_reducible refine (C11.out _).mono ?_); rintro e w6 ⟨rfl, hb6⟩; replace HA := Lib.hid (HA.out.step hb6); clear hb6) | (go_at_call 29; (with_reducible refine (C12.out _).mono ?_); rintro e w6 ⟨rfl, hb6⟩; replace HA := Lib.hid (HA.out.step hb6); clear hb6) | (go_at_call 29; (with_reducible refine (C13.out _).mono ?_); rintro e w6 ⟨rfl, hb6⟩; replace HA := Lib.hid (HA.out.step hb6); clear hb6) | (go_at_call 21; (with_reducible refine (C14.out _).mono ?_); rintro e w6 ⟨rfl, hb6⟩; replace HA := Lib.hid (HA.out.step hb6); clear hb6) | (go_at_call 29; (with_reducible refine (C15.out _).mono ?_); rintro e w6 ⟨rfl, hb6⟩; replace HA := Lib.hid (HA.out.step hb6); clear hb6))
  go_ret
  exact ⟨rfl, HA.out.bl⟩
set_option maxHeartbeats 40000000 in
theorem ring_eq (a b c : Int) (ha : a.natAbs < 10 ^ 41) (hb : b.natAbs < 10 ^ 41) (hc : c.natAbs < 10 ^ 41) (za : (inum a).size ≤ 41) (zb : (inum b).size ≤ 41) (zc : (inum c).size ≤ 41) (hk : a = b) (h0 : b ≠ 0) (w : World) (he : Env w) :
    Calls Tryz.prog 8 #[.string (inum a), .string (inum b), .string (inum c)] w fun e w' => e = .returned (.bool true) ∧ Below w.heap.size w w' := by
  have HA := Lib.hid (show Ar w w from ⟨Below.refl _ _, he⟩)
  clear he
  have fa : Fits a := Fits.of ha (by decide)
  have fb : Fits b := Fits.of hb (by decide)
  have fc : Fits c := Fits.of hc (by decide)
  have hp : a.natAbs * b.natAbs < 10 ^ 82 := by have := Nat.mul_lt_mul'' ha hb; rwa [← Nat.pow_add] at this
  have hq : a.natAbs * c.natAbs < 10 ^ 82 := by have := Nat.mul_lt_mul'' ha hc; rwa [← Nat.pow_add] at this
  have e41 : (10 : Nat) ^ 41 + 10 ^ 41 + 10 ^ 41 < 10 ^ 42 := by decide
  have e82 : (10 : Nat) ^ 82 + 10 ^ 82 + 10 ^ 82 < 10 ^ 83 := by decide
  obtain ⟨P, hP⟩ : ∃ P, a * b = P := ⟨_, rfl⟩
  obtain ⟨Q, hQ⟩ : ∃ Q, a * c = Q := ⟨_, rfl⟩
  have nP : P.natAbs < 10 ^ 82 := by rw [← hP, Int.natAbs_mul]; exact hp
  have nQ : Q.natAbs < 10 ^ 82 := by rw [← hQ, Int.natAbs_mul]; exact hq
  have f1 : Fits (a + b) := Fits.of (k := 42) (by omega) (by decide)
  have f2 : Fits (b + c) := Fits.of (k := 42) (by omega) (by decide)
  have f3 : Fits (a + b + c) := Fits.of (k := 42) (by omega) (by decide)
  have f7 : Fits (a + c) := Fits.of (k := 42) (by omega) (by decide)
  have f4 : Fits P := Fits.of nP (by decide)
  have f6 : Fits Q := Fits.of nQ (by decide)
  have f5 : Fits (P + Q) := Fits.of (k := 83) (by omega) (by decide)
  have C1 := Lib.hid (fun W => Add_int fa fb _ rfl f1 W)
  have C2 := Lib.hid (fun W => Add_int fb fa (a + b) (Int.add_comm _ _) f1 W)
  have C3 := Lib.hid (fun W => Add_int fb fc _ rfl f2 W)
  have C4 := Lib.hid (fun W => Add_int f1 fc _ rfl f3 W)
  have C5 := Lib.hid (fun W => Add_int fa f2 (a + b + c) (by omega) f3 W)
  have C6 := Lib.hid (fun W => Mul_int fa fb P hP f4 W)
  have C7 := Lib.hid (fun W => Mul_int fb fa P (by rw [Int.mul_comm]; exact hP) f4 W)
  have C8 := Lib.hid (fun W => Mul_int fa f2 (P + Q) (by rw [Int.mul_add, hP, hQ]) f5 W)
  have C9 := Lib.hid (fun W => Mul_int fa fc Q hQ f6 W)
  have C10 := Lib.hid (fun W => Add_int f4 f6 _ rfl f5 W)
  have C11 := Lib.hid (fun W => Sub_int f1 fb a (by omega) fa W)
  have C12 := Lib.hid (fun W => Compare_int fa fb W)
  have C13 := Lib.hid (fun W => Compare_int fb fa W)
  have C14 := Lib.hid (fun W => Add_int fa fc _ rfl f7 W)
  have C15 := Lib.hid (fun W => Compare_int f7 f2 W)
  rw [show cmpZ a b = 0 by unfold cmpZ; repeat' split <;> first | rfl | omega] at C12
  rw [show cmpZ b a = 0 by unfold cmpZ; repeat' split <;> first | rfl | omega] at C13
  rw [show cmpZ (a + c) (b + c) = 0 by unfold cmpZ; repeat' split <;> first | rfl | omega] at C15
  have hab : ((inum a).toList == (inum b).toList) = true := by first | exact beq_iff_eq.2 (inum_list.2 (by omega)) | (rw [Bool.eq_false_iff]; intro h; have h5 := inum_list.1 (beq_iff_eq.1 h); omega)
  have hbz : ((inum b).toList == [48]) = false := by rw [← zero_list]; first | exact beq_iff_eq.2 (inum_list.2 (by omega)) | (rw [Bool.eq_false_iff]; intro h; have h5 := inum_list.1 (beq_iff_eq.1 h); omega)
  have K1 := Lib.hid (fun W => Check_any (inum a) W 0 (check_numeral fa.num))
  have d1 : decide ((41 : Int) < (inum a).size) = false := by simp; omega
  have K2 := Lib.hid (fun W => Check_any (inum b) W 0 (check_numeral fb.num))
  have d2 : decide ((41 : Int) < (inum b).size) = false := by simp; omega
  have K3 := Lib.hid (fun W => Check_any (inum c) W 0 (check_numeral fc.num))
  have d3 : decide ((41 : Int) < (inum c).size) = false := by simp; omega
  have HW := Lib.hid (fun W (h : Env W) => awake_any W h)
  obtain ⟨d, m, E1, m0, m1, dl, HDM⟩ := DivMod_int ha hb (by omega)
  have HDM := Lib.hid HDM
  obtain ⟨V, hV⟩ : ∃ V, b * d = V := ⟨_, rfl⟩
  rw [hV] at E1
  have nm : m.natAbs < 10 ^ 41 := by omega
  have fm : Fits m := Fits.of nm (by decide)
  have fd : Fits d := Fits.of (k := 42) (by omega) (by decide)
  have fV : Fits V := Fits.of (k := 42) (by omega) (by decide)
  have fn : Fits (b.natAbs : Int) := Fits.of (k := 41) (by omega) (by decide)
  have f0 : Fits 0 := Fits.of (k := 1) (by decide) (by decide)
  have C16 := Lib.hid (fun W => Mul_int fb fd V hV fV W)
  have C17 := Lib.hid (fun W => Add_int fV fm a E1 fa W)
  have C18 := Lib.hid (fun W => Compare_int fm f0 W)
  have C19 := Lib.hid (fun W => Compare_int fm fn W)
  have C20 := Lib.hid (fun W => Tryz.strings_TrimPrefix (inum b) ⟨#[45]⟩ W)
  rw [trim_inum] at C20
  rw [inum_zero] at C18
  rw [show cmpZ m (b.natAbs : Int) = -1 by unfold cmpZ; repeat' split <;> first | rfl | omega] at C19
  obtain ⟨L, hL⟩ : ∃ L, cmpZ m 0 = L := ⟨_, rfl⟩
  rw [hL] at C18
  have hL0 : 0 ≤ L := by rw [← hL]; unfold cmpZ; repeat' split <;> omega
  have dL : decide (0 ≤ L) = true := by simp; exact hL0
  clear E1 m0 m1 dl hV hL hL0 nm
  clear hP hQ nP nQ hp hq e41 e82 ha hb hc za zb zc hk h0
  go_enter Tryz.func8, Tryz.ntmps8
  go_wp2_with (first | (go_at_call 10; (with_reducible refine (HW.out _ HA.out.env).mono ?_); rintro e w6 ⟨rfl, hb6⟩; replace HA := Lib.hid (HA.out.step hb6); clear hb6) | (go_at_call 12; (with_reducible refine (K1.out _).mono ?_); rintro e w6 ⟨rfl, hb6⟩; replace HA := Lib.hid (HA.out.step hb6); clear hb6) | (go_at_call 12; (with_reducible refine (K2.out _).mono ?_); rintro e w6 ⟨rfl, hb6⟩; replace HA := Lib.hid (HA.out.step hb6); clear hb6) | (go_at_call 12; (with_reducible refine (K3.out _).mono ?_); rintro e w6 ⟨rfl, hb6⟩; replace HA := Lib.hid (HA.out.step hb6); clear hb6) | (go_at_call 21; (with_reducible refine (C1.out _).mono ?_); rintro e w6 ⟨rfl, hb6⟩; replace HA := Lib.hid (HA.out.step hb6); clear hb6) | (go_at_call 21; (with_reducible refine (C2.out _).mono ?_); rintro e w6 ⟨rfl, hb6⟩; replace HA := Lib.hid (HA.out.step hb6); clear hb6) | (go_at_call 21; (with_reducible refine (C3.out _).mono ?_); rintro e w6 ⟨rfl, hb6⟩; replace HA := Lib.hid (HA.out.step hb6); clear hb6) | (go_at_call 21; (with_reducible refine (C4.out _).mono ?_); rintro e w6 ⟨rfl, hb6⟩; replace HA := Lib.hid (HA.out.step hb6); clear hb6) | (go_at_call 21; (with_reducible refine (C5.out _).mono ?_); rintro e w6 ⟨rfl, hb6⟩; replace HA := Lib.hid (HA.out.step hb6); clear hb6) | (go_at_call 25; (with_reducible refine (C6.out _).mono ?_); rintro e w6 ⟨rfl, hb6⟩; replace HA := Lib.hid (HA.out.step hb6); clear hb6) | (go_at_call 25; (with_reducible refine (C7.out _).mono ?_); rintro e w6 ⟨rfl, hb6⟩; replace HA := Lib.hid (HA.out.step hb6); clear hb6) | (go_at_call 25; (with_reducible refine (C8.out _).mono ?_); rintro e w6 ⟨rfl, hb6⟩; replace HA := Lib.hid (HA.out.step hb6); clear hb6) | (go_at_call 25; (with_reducible refine (C9.out _).mono ?_); rintro e w6 ⟨rfl, hb6⟩; replace HA := Lib.hid (HA.out.step hb6); clear hb6) | (go_at_call 21; (with_reducible refine (C10.out _).mono ?_); rintro e w6 ⟨rfl, hb6⟩; replace HA := Lib.hid (HA.out.step hb6); clear hb6) | (go_at_call 23; (with_reducible refine (C11.out _).mono ?_); rintro e w6 ⟨rfl, hb6⟩; replace HA := Lib.hid (HA.out.step hb6); clear hb6) | (go_at_call 29; (with_reducible refine (C12.out _).mono ?_); rintro e w6 ⟨rfl, hb6⟩; replace HA := Lib.hid (HA.out.step hb6); clear hb6) | (go_at_call 29; (with_reducible refine (C13.out _).mono ?_); rintro e w6 ⟨rfl, hb6⟩; replace HA := Lib.hid (HA.out.step hb6); clear hb6) | (go_at_call 21; (with_reducible refine (C14.out _).mono ?_); rintro e w6 ⟨rfl, hb6⟩; replace HA := Lib.hid (HA.out.step hb6); clear hb6) | (go_at_call 29; (with_reducible refine (C15.out _).mono ?_); rintro e w6 ⟨rfl, hb6⟩; replace HA := Lib.hid (HA.out.step hb6); clear hb6) | (go_at_call 27; (with_reducible refine (HDM.out _).mono ?_); rintro e w6 ⟨rfl, hb6⟩; replace HA := Lib.hid (HA.out.step hb6); clear hb6) | (go_at_call 25; (with_reducible refine (C16.out _).mono ?_); rintro e w6 ⟨rfl, hb6⟩; replace HA := Lib.hid (HA.out.step hb6); clear hb6) | (go_at_call 21; (with_reducible refine (C17.out _).mono ?_); rintro e w6 ⟨rfl, hb6⟩; replace HA := Lib.hid (HA.out.step hb6); clear hb6) | (go_at_call 29; (with_reducible refine (C18.out _).mono ?_); rintro e w6 ⟨rfl, hb6⟩; replace HA := Lib.hid (HA.out.step hb6); clear hb6) | (go_at_call 29; (with_reducible refine (C19.out _).mono ?_); rintro e w6 ⟨rfl, hb6⟩; replace HA := Lib.hid (HA.out.step hb6); clear hb6) | (go_at_call 60; (with_reducible refine (C20.out _).mono ?_); rintro e w6 ⟨rfl, hw6⟩; rw [hw6]; clear hw6))
  go_ret
  exact ⟨rfl, HA.out.bl⟩
set_option maxHeartbeats 40000000 in
theorem ring_lt_zero (a b c : Int) (ha : a.natAbs < 10 ^ 41) (hb : b.natAbs < 10 ^ 41) (hc : c.natAbs < 10 ^ 41) (za : (inum a).size ≤ 41) (zb : (inum b).size ≤ 41) (zc : (inum c).size ≤ 41) (hk : a < b) (h0 : b = 0) (w : World) (he : Env w) :
    Calls Tryz.prog 8 #[.string (inum a), .string (inum b), .string (inum c)] w fun e w' => e = .returned (.bool true) ∧ Below w.heap.size w w' := by
  have HA := Lib.hid (show Ar w w from ⟨Below.refl _ _, he⟩)
  clear he
  have fa : Fits a := Fits.of ha (by decide)
  have fb : Fits b := Fits.of hb (by decide)
  have fc : Fits c := Fits.of hc (by decide)
  have hp : a.natAbs * b.natAbs < 10 ^ 82 := by have := Nat.mul_lt_mul'' ha hb; rwa [← Nat.pow_add] at this
  have hq : a.natAbs * c.natAbs < 10 ^ 82 := by have := Nat.mul_lt_mul'' ha hc; rwa [← Nat.pow_add] at this
  have e41 : (10 : Nat) ^ 41 + 10 ^ 41 + 10 ^ 41 < 10 ^ 42 := by decide
  have e82 : (10 : Nat) ^ 82 + 10 ^ 82 + 10 ^ 82 < 10 ^ 83 := by decide
  obtain ⟨P, hP⟩ : ∃ P, a * b = P := ⟨_, rfl⟩
  obtain ⟨Q, hQ⟩ : ∃ Q, a * c = Q := ⟨_, rfl⟩
  have nP : P.natAbs < 10 ^ 82 := by rw [← hP, Int.natAbs_mul]; exact hp
  have nQ : Q.natAbs < 10 ^ 82 := by rw [← hQ, Int.natAbs_mul]; exact hq
  have f1 : Fits (a + b) := Fits.of (k := 42) (by omega) (by decide)
  have f2 : Fits (b + c) := Fits.of (k := 42) (by omega) (by decide)
  have f3 : Fits (a + b + c) := Fits.of (k := 42) (by omega) (by decide)
  have f7 : Fits (a + c) := Fits.of (k := 42) (by omega) (by decide)
  have f4 : Fits P := Fits.of nP (by decide)
  have f6 : Fits Q := Fits.of nQ (by decide)
  have f5 : Fits (P + Q) := Fits.of (k := 83) (by omega) (by decide)
  have C1 := Lib.hid (fun W => Add_int fa fb _ rfl f1 W)
  have C2 := Lib.hid (fun W => Add_int fb fa (a + b) (Int.add_comm _ _) f1 W)
  have C3 := Lib.hid (fun W => Add_int fb fc _ rfl f2 W)
  have C4 := Lib.hid (fun W => Add_int f1 fc _ rfl f3 W)
  have C5 := Lib.hid (fun W => Add_int fa f2 (a + b + c) (by omega) f3 W)
  have C6 := Lib.hid (fun W => Mul_int fa fb P hP f4 W)
  have C7 := Lib.hid (fun W => Mul_int fb fa P (by rw [Int.mul_comm]; exact hP) f4 W)
  have C8 := Lib.hid (fun W => Mul_int fa f2 (P + Q) (by rw [Int.mul_add, hP, hQ]) f5 W)
  have C9 := Lib.hid (fun W => Mul_int fa fc Q hQ f6 W)
  have C10 := Lib.hid (fun W => Add_int f4 f6 _ rfl f5 W)
  have C11 := Lib.hid (fun W => Sub_int f1 fb a (by omega) fa W)
  have C12 := Lib.hid (fun W => Compare_int fa fb W)
  have C13 := Lib.hid (fun W => Compare_int fb fa W)
  have C14 := Lib.hid (fun W => Add_int fa fc _ rfl f7 W)
  have C15 := Lib.hid (fun W => Compare_int f7 f2 W)
  rw [show cmpZ a b = -1 by unfold cmpZ; repeat' split <;> first | rfl | omega] at C12
  rw [show cmpZ b a = 1 by unfold cmpZ; repeat' split <;> first | rfl | omega] at C13
  rw [show cmpZ (a + c) (b + c) = -1 by unfold cmpZ; repeat' split <;> first | rfl | omega] at C15
  have hab : ((inum a).toList == (inum b).toList) = false := by first | exact beq_iff_eq.2 (inum_list.2 (by omega)) | (rw [Bool.eq_false_iff]; intro h; have h5 := inum_list.1 (beq_iff_eq.1 h); omega)
  have hbz : ((inum b).toList == [48]) = true := by rw [← zero_list]; first | exact beq_iff_eq.2 (inum_list.2 (by omega)) | (rw [Bool.eq_false_iff]; intro h; have h5 := inum_list.1 (beq_iff_eq.1 h); omega)
  have K1 := Lib.hid (fun W => Check_any (inum a) W 0 (check_numeral fa.num))
  have d1 : decide ((41 : Int) < (inum a).size) = false := by simp; omega
  have K2 := Lib.hid (fun W => Check_any (inum b) W 0 (check_numeral fb.num))
  have d2 : decide ((41 : Int) < (inum b).size) = false := by simp; omega
  have K3 := Lib.hid (fun W => Check_any (inum c) W 0 (check_numeral fc.num))
  have d3 : decide ((41 : Int) < (inum c).size) = false := by simp; omega
  have HW := Lib.hid (fun W (h : Env W) => awake_any W h)
  clear hP hQ nP nQ hp hq e41 e82 ha hb hc za zb zc hk h0
  go_enter Tryz.func8, Tryz.ntmps8
  go_wp2_with (first | (go_at_call 10; (with_reducible refine (HW.out _ HA.out.env).mono ?_); rintro e w6 ⟨rfl, hb6⟩; replace HA := Lib.hid (HA.out.step hb6); clear hb6) | (go_at_call 12; (with_reducible refine (K1.out _).mono ?_); rintro e w6 ⟨rfl, hb6⟩; replace HA := Lib.hid (HA.out.step hb6); clear hb6) | (go_at_call 12; (with_reducible refine (K2.out _).mono ?_); rintro e w6 ⟨rfl, hb6⟩; replace HA := Lib.hid (HA.out.step hb6); clear hb6) | (go_at_call 12; (with_reducible refine (K3.out _).mono ?_); rintro e w6 ⟨rfl, hb6⟩; replace HA := Lib.hid (HA.out.step hb6); clear hb6) | (go_at_call 21; (with_reducible refine (C1.out _).mono ?_); rintro e w6 ⟨rfl, hb6⟩; replace HA := Lib.hid (HA.out.step hb6); clear hb6) | (go_at_call 21; (with_reducible refine (C2.out _).mono ?_); rintro e w6 ⟨rfl, hb6⟩; replace HA := Lib.hid (HA.out.step hb6); clear hb6) | (go_at_call 21; (with_reducible refine (C3.out _).mono ?_); rintro e w6 ⟨rfl, hb6⟩; replace HA := Lib.hid (HA.out.step hb6); clear hb6) | (go_at_call 21; (with_reducible refine (C4.out _).mono ?_); rintro e w6 ⟨rfl, hb6⟩; replace HA := Lib.hid (HA.out.step hb6); clear hb6) | (go_at_call 21; (with_reducible refine (C5.out _).mono ?_); rintro e w6 ⟨rfl, hb6⟩; replace HA := Lib.hid (HA.out.step hb6); clear hb6) | (go_at_call 25; (with_reducible refine (C6.out _).mono ?_); rintro e w6 ⟨rfl, hb6⟩; replace HA := Lib.hid (HA.out.step hb6); clear hb6) | (go_at_call 25; (with_reducible refine (C7.out _).mono ?_); rintro e w6 ⟨rfl, hb6⟩; replace HA := Lib.hid (HA.out.step hb6); clear hb6) | (go_at_call 25; (with_reducible refine (C8.out _).mono ?_); rintro e w6 ⟨rfl, hb6⟩; replace HA := Lib.hid (HA.out.step hb6); clear hb6) | (go_at_call 25; (with_reducible refine (C9.out _).mono ?_); rintro e w6 ⟨rfl, hb6⟩; replace HA := Lib.hid (HA.out.step hb6); clear hb6) | (go_at_call 21; (with_reducible refine (C10.out _).mono ?_); rintro e w6 ⟨rfl, hb6⟩; replace HA := Lib.hid (HA.out.step hb6); clear hb6) | (go_at_call 23; (with_reducible refine (C11.out _).mono ?_); rintro e w6 ⟨rfl, hb6⟩; replace HA := Lib.hid (HA.out.step hb6); clear hb6) | (go_at_call 29; (with_reducible refine (C12.out _).mono ?_); rintro e w6 ⟨rfl, hb6⟩; replace HA := Lib.hid (HA.out.step hb6); clear hb6) | (go_at_call 29; (with_reducible refine (C13.out _).mono ?_); rintro e w6 ⟨rfl, hb6⟩; replace HA := Lib.hid (HA.out.step hb6); clear hb6) | (go_at_call 21; (with_reducible refine (C14.out _).mono ?_); rintro e w6 ⟨rfl, hb6⟩; replace HA := Lib.hid (HA.out.step hb6); clear hb6) | (go_at_call 29; (with_reducible refine (C15.out _).mono ?_); rintro e w6 ⟨rfl, hb6⟩; replace HA := Lib.hid (HA.out.step hb6); clear hb6))
  go_ret
  exact ⟨rfl, HA.out.bl⟩
set_option maxHeartbeats 40000000 in
theorem ring_lt (a b c : Int) (ha : a.natAbs < 10 ^ 41) (hb : b.natAbs < 10 ^ 41) (hc : c.natAbs < 10 ^ 41) (za : (inum a).size ≤ 41) (zb : (inum b).size ≤ 41) (zc : (inum c).size ≤ 41) (hk : a < b) (h0 : b ≠ 0) (w : World) (he : Env w) :
    Calls Tryz.prog 8 #[.string (inum a), .string (inum b), .string (inum c)] w fun e w' => e = .returned (.bool true) ∧ Below w.heap.size w w' := by
  have HA := Lib.hid (show Ar w w from ⟨Below.refl _ _, he⟩)
  clear he
  have fa : Fits a := Fits.of ha (by decide)
  have fb : Fits b := Fits.of hb (by decide)
  have fc : Fits c := Fits.of hc (by decide)
  have hp : a.natAbs * b.natAbs < 10 ^ 82 := by have := Nat.mul_lt_mul'' ha hb; rwa [← Nat.pow_add] at this
  have hq : a.natAbs * c.natAbs < 10 ^ 82 := by have := Nat.mul_lt_mul'' ha hc; rwa [← Nat.pow_add] at this
  have e41 : (10 : Nat) ^ 41 + 10 ^ 41 + 10 ^ 41 < 10 ^ 42 := by decide
  have e82 : (10 : Nat) ^ 82 + 10 ^ 82 + 10 ^ 82 < 10 ^ 83 := by decide
  obtain ⟨P, hP⟩ : ∃ P, a * b = P := ⟨_, rfl⟩
  obtain ⟨Q, hQ⟩ : ∃ Q, a * c = Q := ⟨_, rfl⟩
  have nP : P.natAbs < 10 ^ 82 := by rw [← hP, Int.natAbs_mul]; exact hp
  have nQ : Q.natAbs < 10 ^ 82 := by rw [← hQ, Int.natAbs_mul]; exact hq
  have f1 : Fits (a + b) := Fits.of (k := 42) (by omega) (by decide)
  have f2 : Fits (b + c) := Fits.of (k := 42) (by omega) (by decide)
  have f3 : Fits (a + b + c) := Fits.of (k := 42) (by omega) (by decide)
  have f7 : Fits (a + c) := Fits.of (k := 42) (by omega) (by decide)
  have f4 : Fits P := Fits.of nP (by decide)
  have f6 : Fits Q := Fits.of nQ (by decide)
  have f5 : Fits (P + Q) := Fits.of (k := 83) (by omega) (by decide)
  have C1 := Lib.hid (fun W => Add_int fa fb _ rfl f1 W)
  have C2 := Lib.hid (fun W => Add_int fb fa (a + b) (Int.add_comm _ _) f1 W)
  have C3 := Lib.hid (fun W => Add_int fb fc _ rfl f2 W)
  have C4 := Lib.hid (fun W => Add_int f1 fc _ rfl f3 W)
  have C5 := Lib.hid (fun W => Add_int fa f2 (a + b + c) (by omega) f3 W)
  have C6 := Lib.hid (fun W => Mul_int fa fb P hP f4 W)
  have C7 := Lib.hid (fun W => Mul_int fb fa P (by rw [Int.mul_comm]; exact hP) f4 W)
  have C8 := Lib.hid (fun W => Mul_int fa f2 (P + Q) (by rw [Int.mul_add, hP, hQ]) f5 W)
  have C9 := Lib.hid (fun W => Mul_int fa fc Q hQ f6 W)
  have C10 := Lib.hid (fun W => Add_int f4 f6 _ rfl f5 W)
  have C11 := Lib.hid (fun W => Sub_int f1 fb a (by omega) fa W)
  have C12 := Lib.hid (fun W => Compare_int fa fb W)
  have C13 := Lib.hid (fun W => Compare_int fb fa W)
  have C14 := Lib.hid (fun W => Add_int fa fc _ rfl f7 W)
  have C15 := Lib.hid (fun W => Compare_int f7 f2 W)
  rw [show cmpZ a b = -1 by unfold cmpZ; repeat' split <;> first | rfl | omega] at C12
  rw [show cmpZ b a = 1 by unfold cmpZ; repeat' split <;> first | rfl | omega] at C13
  rw [show cmpZ (a + c) (b + c) = -1 by unfold cmpZ; repeat' split <;> first | rfl | omega] at C15
  have hab : ((inum a).toList == (inum b).toList) = false := by first | exact beq_iff_eq.2 (inum_list.2 (by omega)) | (rw [Bool.eq_false_iff]; intro h; have h5 := inum_list.1 (beq_iff_eq.1 h); omega)
  have hbz : ((inum b).toList == [48]) = false := by rw [← zero_list]; first | exact beq_iff_eq.2 (inum_list.2 (by omega)) | (rw [Bool.eq_false_iff]; intro h; have h5 := inum_list.1 (beq_iff_eq.1 h); omega)
  have K1 := Lib.hid (fun W => Check_any (inum a) W 0 (check_numeral fa.num))
  have d1 : decide ((41 : Int) < (inum a).size) = false := by simp; omega
  have K2 := Lib.hid (fun W => Check_any (inum b) W 0 (check_numeral fb.num))
  have d2 : decide ((41 : Int) < (inum b).size) = false := by simp; omega
  have K3 := Lib.hid (fun W => Check_any (inum c) W 0 (check_numeral fc.num))
  have d3 : decide ((41 : Int) < (inum c).size) = false := by simp; omega
  have HW := Lib.hid (fun W (h : Env W) => awake_any W h)
  obtain ⟨d, m, E1, m0, m1, dl, HDM⟩ := DivMod_int ha hb (by omega)
  have HDM := Lib.hid HDM
  obtain ⟨V, hV⟩ : ∃ V, b * d = V := ⟨_, rfl⟩
  rw [hV] at E1
  have nm : m.natAbs < 10 ^ 41 := by omega
  have fm : Fits m := Fits.of nm (by decide)
  have fd : Fits d := Fits.of (k := 42) (by omega) (by decide)
  have fV : Fits V := Fits.of (k := 42) (by omega) (by decide)
  have fn : Fits (b.natAbs : Int) := Fits.of (k := 41) (by omega) (by decide)
  have f0 : Fits 0 := Fits.of (k := 1) (by decide) (by decide)
  have C16 := Lib.hid (fun W => Mul_int fb fd V hV fV W)
  have C17 := Lib.hid (fun W => Add_int fV fm a E1 fa W)
  have C18 := Lib.hid (fun W => Compare_int fm f0 W)
  have C19 := Lib.hid (fun W => Compare_int fm fn W)
  have C20 := Lib.hid (fun W => Tryz.strings_TrimPrefix (inum b) ⟨#[45]⟩ W)
  rw [trim_inum] at C20
  rw [inum_zero] at C18
  rw [show cmpZ m (b.natAbs : Int) = -1 by unfold cmpZ; repeat' split <;> first | rfl | omega] at C19
  obtain ⟨L, hL⟩ : ∃ L, cmpZ m 0 = L := ⟨_, rfl⟩
  rw [hL] at C18
  have hL0 : 0 ≤ L := by rw [← hL]; unfold cmpZ; repeat' split <;> omega
  have dL : decide (0 ≤ L) = true := by simp; exact hL0
  clear E1 m0 m1 dl hV hL hL0 nm
  clear hP hQ nP nQ hp hq e41 e82 ha hb hc za zb zc hk h0
  go_enter Tryz.func8, Tryz.ntmps8
  go_wp2_with (first | (go_at_call 10; (with_reducible refine (HW.out _ HA.out.env).mono ?_); rintro e w6 ⟨rfl, hb6⟩; replace HA := Lib.hid (HA.out.step hb6); clear hb6) | (go_at_call 12; (with_reducible refine (K1.out _).mono ?_); rintro e w6 ⟨rfl, hb6⟩; replace HA := Lib.hid (HA.out.step hb6); clear hb6) | (go_at_call 12; (with_reducible refine (K2.out _).mono ?_); rintro e w6 ⟨rfl, hb6⟩; replace HA := Lib.hid (HA.out.step hb6); clear hb6) | (go_at_call 12; (with_reducible refine (K3.out _).mono ?_); rintro e w6 ⟨rfl, hb6⟩; replace HA := Lib.hid (HA.out.step hb6); clear hb6) | (go_at_call 21; (with_reducible refine (C1.out _).mono ?_); rintro e w6 ⟨rfl, hb6⟩; replace HA := Lib.hid (HA.out.step hb6); clear hb6) | (go_at_call 21; (with_reducible refine (C2.out _).mono ?_); rintro e w6 ⟨rfl, hb6⟩; replace HA := Lib.hid (HA.out.step hb6); clear hb6) | (go_at_call 21; (with_reducible refine (C3.out _).mono ?_); rintro e w6 ⟨rfl, hb6⟩; replace HA := Lib.hid (HA.out.step hb6); clear hb6) | (go_at_call 21; (with_reducible refine (C4.out _).mono ?_); rintro e w6 ⟨rfl, hb6⟩; replace HA := Lib.hid (HA.out.step hb6); clear hb6) | (go_at_call 21; (with_reducible refine (C5.out _).mono ?_); rintro e w6 ⟨rfl, hb6⟩; replace HA := Lib.hid (HA.out.step hb6); clear hb6) | (go_at_call 25; (with_reducible refine (C6.out _).mono ?_); rintro e w6 ⟨rfl, hb6⟩; replace HA := Lib.hid (HA.out.step hb6); clear hb6) | (go_at_call 25; (with_reducible refine (C7.out _).mono ?_); rintro e w6 ⟨rfl, hb6⟩; replace HA := Lib.hid (HA.out.step hb6); clear hb6) | (go_at_call 25; (with_reducible refine (C8.out _).mono ?_); rintro e w6 ⟨rfl, hb6⟩; replace HA := Lib.hid (HA.out.step hb6); clear hb6) | (go_at_call 25; (with_reducible refine (C9.out _).mono ?_); rintro e w6 ⟨rfl, hb6⟩; replace HA := Lib.hid (HA.out.step hb6); clear hb6) | (go_at_call 21; (with_reducible refine (C10.out _).mono ?_); rintro e w6 ⟨rfl, hb6⟩; replace HA := Lib.hid (HA.out.step hb6); clear hb6) | (go_at_call 23; (with_reducible refine (C11.out _).mono ?_); rintro e w6 ⟨rfl, hb6⟩; replace HA := Lib.hid (HA.out.step hb6); clear hb6) | (go_at_call 29; (with_reducible refine (C12.out _).mono ?_); rintro e w6 ⟨rfl, hb6⟩; replace HA := Lib.hid (HA.out.step hb6); clear hb6) | (go_at_call 29; (with_reducible refine (C13.out _).mono ?_); rintro e w6 ⟨rfl, hb6⟩; replace HA := Lib.hid (HA.out.step hb6); clear hb6) | (go_at_call 21; (with_reducible refine (C14.out _).mono ?_); rintro e w6 ⟨rfl, hb6⟩; replace HA := Lib.hid (HA.out.step hb6); clear hb6) | (go_at_call 29; (with_reducible refine (C15.out _).mono ?_); rintro e w6 ⟨rfl, hb6⟩; replace HA := Lib.hid (HA.out.step hb6); clear hb6) | (go_at_call 27; (with_reducible refine (HDM.out _).mono ?_); rintro e w6 ⟨rfl, hb6⟩; replace HA := Lib.hid (HA.out.step hb6); clear hb6) | (go_at_call 25; (with_reducible refine (C16.out _).mono ?_); rintro e w6 ⟨rfl, hb6⟩; replace HA := Lib.hid (HA.out.step hb6); clear hb6) | (go_at_call 21; (with_reducible refine (C17.out _).mono ?_); rintro e w6 ⟨rfl, hb6⟩; replace HA := Lib.hid (HA.out.step hb6); clear hb6) | (go_at_call 29; (with_reducible refine (C18.out _).mono ?_); rintro e w6 ⟨rfl, hb6⟩; replace HA := Lib.hid (HA.out.step hb6); clear hb6) | (go_at_call 29; (with_reducible refine (C19.out _).mono ?_); rintro e w6 ⟨rfl, hb6⟩; replace HA := Lib.hid (HA.out.step hb6); clear hb6) | (go_at_call 60; (with_reducible refine (C20.out _).mono ?_); rintro e w6 ⟨rfl, hw6⟩; rw [hw6]; clear hw6))
  go_ret
  exact ⟨rfl, HA.out.bl⟩
set_option maxHeartbeats 40000000 in
theorem ring_gt_zero (a b c : Int) (ha : a.natAbs < 10 ^ 41) (hb : b.natAbs < 10 ^ 41) (hc : c.natAbs < 10 ^ 41) (za : (inum a).size ≤ 41) (zb : (inum b).size ≤ 41) (zc : (inum c).size ≤ 41) (hk : b < a) (h0 : b = 0) (w : World) (he : Env w) :
    Calls Tryz.prog 8 #[.string (inum a), .string (inum b), .string (inum c)] w fun e w' => e = .returned (.bool true) ∧ Below w.heap.size w w' := by
  have HA := Lib.hid (show Ar w w from ⟨Below.refl _ _, he⟩)
  clear he
  have fa : Fits a := Fits.of ha (by decide)
  have fb : Fits b := Fits.of hb (by decide)
  have fc : Fits c := Fits.of hc (by decide)
  have hp : a.natAbs * b.natAbs < 10 ^ 82 := by have := Nat.mul_lt_mul'' ha hb; rwa [← Nat.pow_add] at this
  have hq : a.natAbs * c.natAbs < 10 ^ 82 := by have := Nat.mul_lt_mul'' ha hc; rwa [← Nat.pow_add] at this
  have e41 : (10 : Nat) ^ 41 + 10 ^ 41 + 10 ^ 41 < 10 ^ 42 := by decide
  have e82 : (10 : Nat) ^ 82 + 10 ^ 82 + 10 ^ 82 < 10 ^ 83 := by decide
  obtain ⟨P, hP⟩ : ∃ P, a * b = P := ⟨_, rfl⟩
  obtain ⟨Q, hQ⟩ : ∃ Q, a * c = Q := ⟨_, rfl⟩
  have nP : P.natAbs < 10 ^ 82 := by rw [← hP, Int.natAbs_mul]; exact hp
  have nQ : Q.natAbs < 10 ^ 82 := by rw [← hQ, Int.natAbs_mul]; exact hq
  have f1 : Fits (a + b) := Fits.of (k := 42) (by omega) (by decide)
  have f2 : Fits (b + c) := Fits.of (k := 42) (by omega) (by decide)
  have f3 : Fits (a + b + c) := Fits.of (k := 42) (by omega) (by decide)
  have f7 : Fits (a + c) := Fits.of (k := 42) (by omega) (by decide)
  have f4 : Fits P := Fits.of nP (by decide)
  have f6 : Fits Q := Fits.of nQ (by decide)
  have f5 : Fits (P + Q) := Fits.of (k := 83) (by omega) (by decide)
  have C1 := Lib.hid (fun W => Add_int fa fb _ rfl f1 W)
  have C2 := Lib.hid (fun W => Add_int fb fa (a + b) (Int.add_comm _ _) f1 W)
  have C3 := Lib.hid (fun W => Add_int fb fc _ rfl f2 W)
  have C4 := Lib.hid (fun W => Add_int f1 fc _ rfl f3 W)
  have C5 := Lib.hid (fun W => Add_int fa f2 (a + b + c) (by omega) f3 W)
  have C6 := Lib.hid (fun W => Mul_int fa fb P hP f4 W)
  have C7 := Lib.hid (fun W => Mul_int fb fa P (by rw [Int.mul_comm]; exact hP) f4 W)
  have C8 := Lib.hid (fun W => Mul_int fa f2 (P + Q) (by rw [Int.mul_add, hP, hQ]) f5 W)
  have C9 := Lib.hid (fun W => Mul_int fa fc Q hQ f6 W)
  have C10 := Lib.hid (fun W => Add_int f4 f6 _ rfl f5 W)
  have C11 := Lib.hid (fun W => Sub_int f1 fb a (by omega) fa W)
  have C12 := Lib.hid (fun W => Compare_int fa fb W)
  have C13 := Lib.hid (fun W => Compare_int fb fa W)
  have C14 := Lib.hid (fun W => Add_int fa fc _ rfl f7 W)
  have C15 := Lib.hid (fun W => Compare_int f7 f2 W)
  rw [show cmpZ a b = 1 by unfold cmpZ; repeat' split <;> first | rfl | omega] at C12
  rw [show cmpZ b a = -1 by unfold cmpZ; repeat' split <;> first | rfl | omega] at C13
  rw [show cmpZ (a + c) (b + c) = 1 by unfold cmpZ; repeat' split <;> first | rfl | omega] at C15
  have hab : ((inum a).toList == (inum b).toList) = false := by first | exact beq_iff_eq.2 (inum_list.2 (by omega)) | (rw [Bool.eq_false_iff]; intro h; have h5 := inum_list.1 (beq_iff_eq.1 h); omega)
  have hbz : ((inum b).toList == [48]) = true := by rw [← zero_list]; first | exact beq_iff_eq.2 (inum_list.2 (by omega)) | (rw [Bool.eq_false_iff]; intro h; have h5 := inum_list.1 (beq_iff_eq.1 h); omega)
  have K1 := Lib.hid (fun W => Check_any (inum a) W 0 (check_numeral fa.num))
  have d1 : decide ((41 : Int) < (inum a).size) = false := by simp; omega
  have K2 := Lib.hid (fun W => Check_any (inum b) W 0 (check_numeral fb.num))
  have d2 : decide ((41 : Int) < (inum b).size) = false := by simp; omega
  have K3 := Lib.hid (fun W => Check_any (inum c) W 0 (check_numeral fc.num))
  have d3 : decide ((41 : Int) < (inum c).size) = false := by simp; omega
  have HW := Lib.hid (fun W (h : Env W) => awake_any W h)
  clear hP hQ nP nQ hp hq e41 e82 ha hb hc za zb zc hk h0
  go_enter Tryz.func8, Tryz.ntmps8
  go_wp2_with (first | (go_at_call 10; (with_reducible refine (HW.out _ HA.out.env).mono ?_); rintro e w6 ⟨rfl, hb6⟩; replace HA := Lib.hid (HA.out.step hb6); clear hb6) | (go_at_call 12; (with_reducible refine (K1.out _).mono ?_); rintro e w6 ⟨rfl, hb6⟩; replace HA := Lib.hid (HA.out.step hb6); clear hb6) | (go_at_call 12; (with_reducible refine (K2.out _).mono ?_); rintro e w6 ⟨rfl, hb6⟩; replace HA := Lib.hid (HA.out.step hb6); clear hb6) | (go_at_call 12; (with_reducible refine (K3.out _).mono ?_); rintro e w6 ⟨rfl, hb6⟩; replace HA := Lib.hid (HA.out.step hb6); clear hb6) | (go_at_call 21; (with_reducible refine (C1.out _).mono ?_); rintro e w6 ⟨rfl, hb6⟩; replace HA := Lib.hid (HA.out.step hb6); clear hb6) | (go_at_call 21; (with_reducible refine (C2.out _).mono ?_); rintro e w6 ⟨rfl, hb6⟩; replace HA := Lib.hid (HA.out.step hb6); clear hb6) | (go_at_call 21; (with_reducible refine (C3.out _).mono ?_); rintro e w6 ⟨rfl, hb6⟩; replace HA := Lib.hid (HA.out.step hb6); clear hb6) | (go_at_call 21; (with_reducible refine (C4.out _).mono ?_); rintro e w6 ⟨rfl, hb6⟩; replace HA := Lib.hid (HA.out.step hb6); clear hb6) | (go_at_call 21; (with_reducible refine (C5.out _).mono ?_); rintro e w6 ⟨rfl, hb6⟩; replace HA := Lib.hid (HA.out.step hb6); clear hb6) | (go_at_call 25; (with_reducible refine (C6.out _).mono ?_); rintro e w6 ⟨rfl, hb6⟩; replace HA := Lib.hid (HA.out.step hb6); clear hb6) | (go_at_call 25; (with_reducible refine (C7.out _).mono ?_); rintro e w6 ⟨rfl, hb6⟩; replace HA := Lib.hid (HA.out.step hb6); clear hb6) | (go_at_call 25; (with_reducible refine (C8.out _).mono ?_); rintro e w6 ⟨rfl, hb6⟩; replace HA := Lib.hid (HA.out.step hb6); clear hb6) | (go_at_call 25; (with_reducible refine (C9.out _).mono ?_); rintro e w6 ⟨rfl, hb6⟩; replace HA := Lib.hid (HA.out.step hb6); clear hb6) | (go_at_call 21; (with_reducible refine (C10.out _).mono ?_); rintro e w6 ⟨rfl, hb6⟩; replace HA := Lib.hid (HA.out.step hb6); clear hb6) | (go_at_call 23; (with_reducible refine (C11.out _).mono ?_); rintro e w6 ⟨rfl, hb6⟩; replace HA := Lib.hid (HA.out.step hb6); clear hb6) | (go_at_call 29; (with_reducible refine (C12.out _).mono ?_); rintro e w6 ⟨rfl, hb6⟩; replace HA := Lib.hid (HA.out.step hb6); clear hb6) | (go_at_call 29; (with_reducible refine (C13.out _).mono ?_); rintro e w6 ⟨rfl, hb6⟩; replace HA := Lib.hid (HA.out.step hb6); clear hb6) | (go_at_call 21; (with_reducible refine (C14.out _).mono ?_); rintro e w6 ⟨rfl, hb6⟩; replace HA := Lib.hid (HA.out.step hb6); clear hb6) | (go_at_call 29; (with_reducible refine (C15.out _).mono ?_); rintro e w6 ⟨rfl, hb6⟩; replace HA := Lib.hid (HA.out.step hb6); clear hb6))
  go_ret
  exact ⟨rfl, HA.out.bl⟩
set_option maxHeartbeats 40000000 in
theorem ring_gt (a b c : Int) (ha : a.natAbs < 10 ^ 41) (hb : b.natAbs < 10 ^ 41) (hc : c.natAbs < 10 ^ 41) (za : (inum a).size ≤ 41) (zb : (inum b).size ≤ 41) (zc : (inum c).size ≤ 41) (hk : b < a) (h0 : b ≠ 0) (w : World) (he : Env w) :
    Calls Tryz.prog 8 #[.string (inum a), .string (inum b), .string (inum c)] w fun e w' => e = .returned (.bool true) ∧ Below w.heap.size w w' := by
  have HA := Lib.hid (show Ar w w from ⟨Below.refl _ _, he⟩)
  clear he
  have fa : Fits a := Fits.of ha (by decide)
  have fb : Fits b := Fits.of hb (by decide)
  have fc : Fits c := Fits.of hc (by decide)
  have hp : a.natAbs * b.natAbs < 10 ^ 82 := by have := Nat.mul_lt_mul'' ha hb; rwa [← Nat.pow_add] at this
  have hq : a.natAbs * c.natAbs < 10 ^ 82 := by have := Nat.mul_lt_mul'' ha hc; rwa [← Nat.pow_add] at this
  have e41 : (10 : Nat) ^ 41 + 10 ^ 41 + 10 ^ 41 < 10 ^ 42 := by decide
  have e82 : (10 : Nat) ^ 82 + 10 ^ 82 + 10 ^ 82 < 10 ^ 83 := by decide
  obtain ⟨P, hP⟩ : ∃ P, a * b = P := ⟨_, rfl⟩
  obtain ⟨Q, hQ⟩ : ∃ Q, a * c = Q := ⟨_, rfl⟩
  have nP : P.natAbs < 10 ^ 82 := by rw [← hP, Int.natAbs_mul]; exact hp
  have nQ : Q.natAbs < 10 ^ 82 := by rw [← hQ, Int.natAbs_mul]; exact hq
  have f1 : Fits (a + b) := Fits.of (k := 42) (by omega) (by decide)
  have f2 : Fits (b + c) := Fits.of (k := 42) (by omega) (by decide)
  have f3 : Fits (a + b + c) := Fits.of (k := 42) (by omega) (by decide)
  have f7 : Fits (a + c) := Fits.of (k := 42) (by omega) (by decide)
  have f4 : Fits P := Fits.of nP (by decide)
  have f6 : Fits Q := Fits.of nQ (by decide)
  have f5 : Fits (P + Q) := Fits.of (k := 83) (by omega) (by decide)
  have C1 := Lib.hid (fun W => Add_int fa fb _ rfl f1 W)
  have C2 := Lib.hid (fun W => Add_int fb fa (a + b) (Int.add_comm _ _) f1 W)
  have C3 := Lib.hid (fun W => Add_int fb fc _ rfl f2 W)
  have C4 := Lib.hid (fun W => Add_int f1 fc _ rfl f3 W)
  have C5 := Lib.hid (fun W => Add_int fa f2 (a + b + c) (by omega) f3 W)
  have C6 := Lib.hid (fun W => Mul_int fa fb P hP f4 W)
  have C7 := Lib.hid (fun W => Mul_int fb fa P (by rw [Int.mul_comm]; exact hP) f4 W)
  have C8 := Lib.hid (fun W => Mul_int fa f2 (P + Q) (by rw [Int.mul_add, hP, hQ]) f5 W)
  have C9 := Lib.hid (fun W => Mul_int fa fc Q hQ f6 W)
  have C10 := Lib.hid (fun W => Add_int f4 f6 _ rfl f5 W)
  have C11 := Lib.hid (fun W => Sub_int f1 fb a (by omega) fa W)
  have C12 := Lib.hid (fun W => Compare_int fa fb W)
  have C13 := Lib.hid (fun W => Compare_int fb fa W)
  have C14 := Lib.hid (fun W => Add_int fa fc _ rfl f7 W)
  have C15 := Lib.hid (fun W => Compare_int f7 f2 W)
  rw [show cmpZ a b = 1 by unfold cmpZ; repeat' split <;> first | rfl | omega] at C12
  rw [show cmpZ b a = -1 by unfold cmpZ; repeat' split <;> first | rfl | omega] at C13
  rw [show cmpZ (a + c) (b + c) = 1 by unfold cmpZ; repeat' split <;> first | rfl | omega] at C15
  have hab : ((inum a).toList == (inum b).toList) = false := by first | exact beq_iff_eq.2 (inum_list.2 (by omega)) | (rw [Bool.eq_false_iff]; intro h; have h5 := inum_list.1 (beq_iff_eq.1 h); omega)
  have hbz : ((inum b).toList == [48]) = false := by rw [← zero_list]; first | exact beq_iff_eq.2 (inum_list.2 (by omega)) | (rw [Bool.eq_false_iff]; intro h; have h5 := inum_list.1 (beq_iff_eq.1 h); omega)
  have K1 := Lib.hid (fun W => Check_any (inum a) W 0 (check_numeral fa.num))
  have d1 : decide ((41 : Int) < (inum a).size) = false := by simp; omega
  have K2 := Lib.hid (fun W => Check_any (inum b) W 0 (check_numeral fb.num))
  have d2 : decide ((41 : Int) < (inum b).size) = false := by simp; omega
  have K3 := Lib.hid (fun W => Check_any (inum c) W 0 (check_numeral fc.num))
  have d3 : decide ((41 : Int) < (inum c).size) = false := by simp; omega
  have HW := Lib.hid (fun W (h : Env W) => awake_any W h)
  obtain ⟨d, m, E1, m0, m1, dl, HDM⟩ := DivMod_int ha hb (by omega)
  have HDM := Lib.hid HDM
  obtain ⟨V, hV⟩ : ∃ V, b * d = V := ⟨_, rfl⟩
  rw [hV] at E1
  have nm : m.natAbs < 10 ^ 41 := by omega
  have fm : Fits m := Fits.of nm (by decide)
  have fd : Fits d := Fits.of (k := 42) (by omega) (by decide)
  have fV : Fits V := Fits.of (k := 42) (by omega) (by decide)
  have fn : Fits (b.natAbs : Int) := Fits.of (k := 41) (by omega) (by decide)
  have f0 : Fits 0 := Fits.of (k := 1) (by decide) (by decide)
  have C16 := Lib.hid (fun W => Mul_int fb fd V hV fV W)
  have C17 := Lib.hid (fun W => Add_int fV fm a E1 fa W)
  have C18 := Lib.hid (fun W => Compare_int fm f0 W)
  have C19 := Lib.hid (fun W => Compare_int fm fn W)
  have C20 := Lib.hid (fun W => Tryz.strings_TrimPrefix (inum b) ⟨#[45]⟩ W)
  rw [trim_inum] at C20
  rw [inum_zero] at C18
  rw [show cmpZ m (b.natAbs : Int) = -1 by unfold cmpZ; repeat' split <;> first | rfl | omega] at C19
  obtain ⟨L, hL⟩ : ∃ L, cmpZ m 0 = L := ⟨_, rfl⟩
  rw [hL] at C18
  have hL0 : 0 ≤ L := by rw [← hL]; unfold cmpZ; repeat' split <;> omega
  have dL : decide (0 ≤ L) = true := by simp; exact hL0
  clear E1 m0 m1 dl hV hL hL0 nm
  clear hP hQ nP nQ hp hq e41 e82 ha hb hc za zb zc hk h0
  go_enter Tryz.func8, Tryz.ntmps8
  go_wp2_with (first | (go_at_call 10; (with_reducible refine (HW.out _ HA.out.env).mono ?_); rintro e w6 ⟨rfl, hb6⟩; replace HA := Lib.hid (HA.out.step hb6); clear hb6) | (go_at_call 12; (with_reducible refine (K1.out _).mono ?_); rintro e w6 ⟨rfl, hb6⟩; replace HA := Lib.hid (HA.out.step hb6); clear hb6) | (go_at_call 12; (with_reducible refine (K2.out _).mono ?_); rintro e w6 ⟨rfl, hb6⟩; replace HA := Lib.hid (HA.out.step hb6); clear hb6) | (go_at_call 12; (with_reducible refine (K3.out _).mono ?_); rintro e w6 ⟨rfl, hb6⟩; replace HA := Lib.hid (HA.out.step hb6); clear hb6) | (go_at_call 21; (with_reducible refine (C1.out _).mono ?_); rintro e w6 ⟨rfl, hb6⟩; replace HA := Lib.hid (HA.out.step hb6); clear hb6) | (go_at_call 21; (with_reducible refine (C2.out _).mono ?_); rintro e w6 ⟨rfl, hb6⟩; replace HA := Lib.hid (HA.out.step hb6); clear hb6) | (go_at_call 21; (with_reducible refine (C3.out _).mono ?_); rintro e w6 ⟨rfl, hb6⟩; replace HA := Lib.hid (HA.out.step hb6); clear hb6) | (go_at_call 21; (with_reducible refine (C4.out _).mono ?_); rintro e w6 ⟨rfl, hb6⟩; replace HA := Lib.hid (HA.out.step hb6); clear hb6) | (go_at_call 21; (with_reducible refine (C5.out _).mono ?_); rintro e w6 ⟨rfl, hb6⟩; replace HA := Lib.hid (HA.out.step hb6); clear hb6) | (go_at_call 25; (with_reducible refine (C6.out _).mono ?_); rintro e w6 ⟨rfl, hb6⟩; replace HA := Lib.hid (HA.out.step hb6); clear hb6) | (go_at_call 25; (with_reducible refine (C7.out _).mono ?_); rintro e w6 ⟨rfl, hb6⟩; replace HA := Lib.hid (HA.out.step hb6); clear hb6) | (go_at_call 25; (with_reducible refine (C8.out _).mono ?_); rintro e w6 ⟨rfl, hb6⟩; replace HA := Lib.hid (HA.out.step hb6); clear hb6) | (go_at_call 25; (with_reducible refine (C9.out _).mono ?_); rintro e w6 ⟨rfl, hb6⟩; replace HA := Lib.hid (HA.out.step hb6); clear hb6) | (go_at_call 21; (with_reducible refine (C10.out _).mono ?_); rintro e w6 ⟨rfl, hb6⟩; replace HA := Lib.hid (HA.out.step hb6); clear hb6) | (go_at_call 23; (with_reducible refine (C11.out _).mono ?_); rintro e w6 ⟨rfl, hb6⟩; replace HA := Lib.hid (HA.out.step hb6); clear hb6) | (go_at_call 29; (with_reducible refine (C12.out _).mono ?_); rintro e w6 ⟨rfl, hb6⟩; replace HA := Lib.hid (HA.out.step hb6); clear hb6) | (go_at_call 29; (with_reducible refine (C13.out _).mono ?_); rintro e w6 ⟨rfl, hb6⟩; replace HA := Lib.hid (HA.out.step hb6); clear hb6) | (go_at_call 21; (with_reducible refine (C14.out _).mono ?_); rintro e w6 ⟨rfl, hb6⟩; replace HA := Lib.hid (HA.out.step hb6); clear hb6) | (go_at_call 29; (with_reducible refine (C15.out _).mono ?_); rintro e w6 ⟨rfl, hb6⟩; replace HA := Lib.hid (HA.out.step hb6); clear hb6) | (go_at_call 27; (with_reducible refine (HDM.out _).mono ?_); rintro e w6 ⟨rfl, hb6⟩; replace HA := Lib.hid (HA.out.step hb6); clear hb6) | (go_at_call 25; (with_reducible refine (C16.out _).mono ?_); rintro e w6 ⟨rfl, hb6⟩; replace HA := Lib.hid (HA.out.step hb6); clear hb6) | (go_at_call 21; (with_reducible refine (C17.out _).mono ?_); rintro e w6 ⟨rfl, hb6⟩; replace HA := Lib.hid (HA.out.step hb6); clear hb6) | (go_at_call 29; (with_reducible refine (C18.out _).mono ?_); rintro e w6 ⟨rfl, hb6⟩; replace HA := Lib.hid (HA.out.step hb6); clear hb6) | (go_at_call 29; (with_reducible refine (C19.out _).mono ?_); rintro e w6 ⟨rfl, hb6⟩; replace HA := Lib.hid (HA.out.step hb6); clear hb6) | (go_at_call 60; (with_reducible refine (C20.out _).mono ?_); rintro e w6 ⟨rfl, hw6⟩; rw [hw6]; clear hw6))
  go_ret
  exact ⟨rfl, HA.out.bl⟩
end Go.Proofs.YtojgafkkgacpkaaGreatDoor
