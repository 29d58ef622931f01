/- Bits: the operations that do not divide. -/
import Derived.Test.YtjemolaobhlapaaGreatDoorNG
set_option linter.unusedSimpArgs false
set_option linter.unusedVariables false
namespace Go.Proofs.YtjemolaobhlapaaGreatDoor
open Go.RowKit
set_option maxRecDepth 100000

set_option maxHeartbeats 8000000 in
theorem Bits_plain (i : Int) (F z : Nat) (hF : (Tryz.prog.funcs[F]?).map (fun fn => (fn.name == "runtime.NumGoroutine", fn.body.isNone)) = some (false, false)) (i0 : 0 ≤ i) (i1 : i < 10) (hat : ∀ w : World, (Instr.index 133 (.agg opsV) (.int .i64 i)).run Tryz.prog w = .ok (.agg #[.bool false, .func (.func F) #[] #[]]) w) (a b k : Nat) (hop : ∀ W : World, Calls Tryz.prog F #[.int .u64 a, .int .u64 b] W fun e w' => e = .returned (.int .u64 (z : Nat)) ∧ w' = W) (ha : a < 18446744073709551616) (hb : b < 18446744073709551616) (hk1 : 1 ≤ k) (hk : k ≤ 64) (hak : a ≤ ones k) (hbk : b ≤ ones k) (w : World) (ht : Tab w) (v : Nat) (hov : z < 18446744073709551616) (hv : z &&& ones k = v) :
    Calls Tryz.prog 57 #[.int .i64 i, .int .i64 k, .string (bs (numeral false a)), .string (bs (numeral false b))] w fun e w' => e = .returned (.tuple #[.string (bs (Lib.decDigits v)), .int .i64 0]) ∧ Below w.heap.size w w' := by
  obtain ⟨B, hB⟩ : ∃ B, w.heap.size = B := ⟨_, rfl⟩
  obtain ⟨W, hW⟩ : ∃ W, (w.alloc (.cells #[.int .i64 k] 3)).alloc (.cells #[.string (bs (numeral false a)), .string (bs (numeral false b))] 9) = W := ⟨_, rfl⟩
  have hP := bitsStart hB hW
  have HCK := Lib.hid (checkVectors a b k ha hb hk hak hbk (hP.1.b.at 0) hP.2)
  have HBL := Lib.hid hP.1
  have cP : W.cell? ⟨B, 0, none⟩ = some (.int .i64 k) := hP.1.b.at 0
  have HRX := Lib.hid (fun W => readNum (num_word ha) W)
  have HRY := Lib.hid (fun W => readNum (num_word hb) W)
  have HWX := Lib.hid (fun W => word_any a (num_word ha).lt30 W)
  have HWY := Lib.hid (fun W => word_any b (num_word hb).lt30 W)
  rw [Nat.mod_eq_of_lt ha] at HWX
  rw [Nat.mod_eq_of_lt hb] at HWY
  have hol := ones_lt hk
  have HM := Lib.hid (fun W => mask_any k hk W)
  have HOP := Lib.hid hop
  have HAT := Lib.hid hat
  have HFN := Lib.hid hF
  have hi1 : decide (i < 0) = false := by simp; omega
  have hi2 : decide (10 ≤ i) = false := by simp; omega
  clear hop hat hF
  have HTB := Lib.hid (fun W => bitOperations_any W)
  obtain ⟨o, ho⟩ : ∃ o, ones k = o := ⟨_, rfl⟩
  rw [ho] at HM hv hol
  have hand : bits .and .u64 (z : Int) (o : Int) = (v : Int) := by rw [bits_and_u64_nat z o hov hol, hv]
  have hv64 : v < 18446744073709551616 := by rw [← hv]; exact Nat.lt_of_le_of_lt Nat.and_le_left hov
  have HFU := Lib.hid (fun W (hb : Below B w W) => FormatUint_any v hv64 W (ht.below hb (by omega)))
  obtain ⟨x, hx2⟩ : ∃ x, bs (numeral false a) = x := ⟨_, rfl⟩
  obtain ⟨y, hy2⟩ : ∃ y, bs (numeral false b) = y := ⟨_, rfl⟩
  rw [hx2] at HRX hW ⊢
  rw [hy2] at HRY hW ⊢
  clear hx2 hy2 hv hv64 ho hov hol ht hak hbk hP ha hb
  go_enter Tryz.func57, Tryz.ntmps57
  go_wp2_with (go_at_call 79; refine HCK.out.mono ?_; rintro e w1 ⟨rfl, hb1⟩; have HB1 := Lib.hid (HBL.out.below hb1))
  clear hW
  try clear cP
  have hS0 : Sb w B k w1.drew := HB1.out.drew
  refine wp_region_held_drew (S := fun w' => Sb w B k w') (by kernel_rfl) hS0 (fun hS => ?_)
  obtain ⟨wd, hwd⟩ : ∃ wd, w1.drew = wd := ⟨_, rfl⟩
  rw [hwd] at hS hS0 ⊢
  clear hwd
  refine wpAnyH_take (i := 1) (v := .int .i64 i) rfl (by kernel_rfl) (by kernel_rfl) (by kernel_rfl) (fun _ _ _ h => h) (Or.inl ⟨by rfl, fun w' _ => by rfl⟩) hS ?_
  try simp only [A1, A2, A3, Act.put, A4, A5, A6]
  refine wpAnyH_take (i := 3) (v := .string x) rfl (by kernel_rfl) (by kernel_rfl) (by kernel_rfl) (fun _ _ _ h => h) (Or.inl ⟨by rfl, fun w' _ => by rfl⟩) hS ?_
  try simp only [A1, A2, A3, Act.put, A4, A5, A6]
  refine wpAnyH_take (i := 7) (v := .string y) rfl (by kernel_rfl) (by kernel_rfl) (by kernel_rfl) (fun _ _ _ h => h) (Or.inl ⟨by rfl, fun w' _ => by rfl⟩) hS ?_
  try simp only [A1, A2, A3, Act.put, A4, A5, A6]
  refine wpAnyH_ready (rs := [0, 11]) (by kernel_rfl) (by simp) (AllReadyH.cons rfl (fun K hK => ?_) (AllReadyH.cons rfl (fun K hK => ?_) AllReadyH.nil))
  · go_simp
    go_at_call 117
    refine (HTB.out _).mono ?_
    rintro e v0 ⟨rfl, hb0⟩
    have hS0 : Sb w B k v0 := hS.below hb0
    clear hS
    refine hK.out _ _ hS0 (fun hS => ?_)
    clear hK K
    try simp only [A1, A2, A3, Act.put, A4, A5, A6]
    refine wpAnyH_take (i := 2) (v := .agg #[.bool false, .func (.func F) #[] #[]]) rfl (by kernel_rfl) (by kernel_rfl) (by kernel_rfl) (fun _ _ _ h => h) (Or.inl ⟨by rfl, fun w' h => by go_simp; rw [HAT.out]; rfl⟩) hS ?_
    try simp only [A1, A2, A3, Act.put, A4, A5, A6]
    refine wpAnyH_ready (rs := [4, 11]) (by kernel_rfl) (by simp) (AllReadyH.cons rfl (fun K hK => ?_) (AllReadyH.cons rfl (fun K hK => ?_) AllReadyH.nil))
    · go_simp
      go_at_call 69
      refine (HRX.out _).mono ?_
      rintro e v1 ⟨rfl, hb1⟩
      have hS1 : Sb w B k v1 := hS.below hb1
      clear hS
      refine hK.out _ _ hS1 (fun hS => ?_)
      clear hK K
      try simp only [A1, A2, A3, Act.put, A4, A5, A6]
      refine wpAnyH_take (i := 5) rfl (by kernel_rfl) (by kernel_rfl) (by kernel_rfl) (fun _ _ _ h => h) (yS_field (f := limb a) (u := len a) (s := false) rfl (.tmp 42) rfl rfl) hS ?_
      try simp only [A1, A2, A3, Act.put, A4, A5, A6]
      refine wpAnyH_ready (rs := [6, 11]) (by kernel_rfl) (by simp) (AllReadyH.cons rfl (fun K hK => ?_) (AllReadyH.cons rfl (fun K hK => ?_) AllReadyH.nil))
      · go_simp
        go_at_call 72
        refine (HWX.out _).mono ?_
        rintro e v2 ⟨rfl, hb2⟩
        have hS2 : Sb w B k v2 := hS.below hb2
        clear hS
        refine hK.out _ _ hS2 (fun hS => ?_)
        clear hK K
        try simp only [A1, A2, A3, Act.put, A4, A5, A6]
        refine wpAnyH_ready (rs := [8, 11]) (by kernel_rfl) (by simp) (AllReadyH.cons rfl (fun K hK => ?_) (AllReadyH.cons rfl (fun K hK => ?_) AllReadyH.nil))
        · go_simp
          go_at_call 69
          refine (HRY.out _).mono ?_
          rintro e v3 ⟨rfl, hb3⟩
          have hS3 : Sb w B k v3 := hS.below hb3
          clear hS
          refine hK.out _ _ hS3 (fun hS => ?_)
          clear hK K
          try simp only [A1, A2, A3, Act.put, A4, A5, A6]
          refine wpAnyH_take (i := 9) rfl (by kernel_rfl) (by kernel_rfl) (by kernel_rfl) (fun _ _ _ h => h) (yS_field (f := limb b) (u := len b) (s := false) rfl (.tmp 46) rfl rfl) hS ?_
          try simp only [A1, A2, A3, Act.put, A4, A5, A6]
          refine wpAnyH_ready (rs := [10, 11]) (by kernel_rfl) (by simp) (AllReadyH.cons rfl (fun K hK => ?_) (AllReadyH.cons rfl (fun K hK => ?_) AllReadyH.nil))
          · go_simp
            go_at_call 72
            refine (HWY.out _).mono ?_
            rintro e v4 ⟨rfl, hb4⟩
            have hS4 : Sb w B k v4 := hS.below hb4
            clear hS
            refine hK.out _ _ hS4 (fun hS => ?_)
            clear hK K
            try simp only [A1, A2, A3, Act.put, A4, A5, A6]
            refine wpAnyH_ready (rs := [11]) (by kernel_rfl) (by simp) (AllReadyH.cons rfl (fun K hK => ?_) AllReadyH.nil)
            go_simp
            obtain ⟨E, hE0⟩ : ∃ E, v4.heap.size = E := ⟨_, rfl⟩
            have hE := BlockIs.new v4 132 zeroO
            have hSA : Sb w B k (v4.alloc (.cells zeroO 132)) := hS.alloc _
            obtain ⟨VA, hVA⟩ : ∃ VA, v4.alloc (.cells zeroO 132) = VA := ⟨_, rfl⟩
            have hBE : B < E := by rw [← hE0]; exact hS.b.lt
            rw [hVA] at hE hSA ⊢
            rw [hE0] at hE
            try rw [hE0]
            clear hE0 hVA
            clear hS
            refine hK.out _ _ hSA (fun hS => ?_)
            clear hK K
            try simp only [A1, A2, A3, Act.put, A4, A5, A6]
            refine wpAnyH_ready (rs := [12]) (by kernel_rfl) (by simp) (AllReadyH.cons rfl (fun K hK => ?_) AllReadyH.nil)
            rw [if_pos (by rfl)]
            refine wpB_store1 (cs := #[.bool false, .func (.func F) #[] #[]]) (.tmp 12) (.tmp 40) rfl E rfl rfl rfl hE (by kernel_rfl) ?_
            have hE1 := hE.row (#[.bool false, .func (.func F) #[] #[]] : Array Value)
            have hS6 := hS.row hBE (#[.bool false, .func (.func F) #[] #[]] : Array Value)
            clear hS
            refine hK.out _ _ hS6 (fun hS => ?_)
            clear hK K
            refine wpAnyH_take (i := 13) (v := .int .u64 a) rfl (by kernel_rfl) (by kernel_rfl) (by kernel_rfl) (fun _ _ _ h => h) (Or.inl ⟨by rfl, fun w' _ => by rfl⟩) hS ?_
            try simp only [A1, A2, A3, Act.put, A4, A5, A6]
            refine wpAnyH_take (i := 14) (v := .int .u64 b) rfl (by kernel_rfl) (by kernel_rfl) (by kernel_rfl) (fun _ _ _ h => h) (Or.inl ⟨by rfl, fun w' _ => by rfl⟩) hS ?_
            try simp only [A1, A2, A3, Act.put, A4, A5, A6]
            refine wpAnyH_done (by kernel_rfl) ?_ _
            have HE0 : (World.setRow VA E #[.bool false, .func (.func F) #[] #[]]).cell? ⟨E, 0, none⟩ = some (.bool false) := hE1.at 0
            have HS6 := Lib.hid (And.intro hS6 hE1)
            obtain ⟨WZ, hWZ⟩ : ∃ WZ, (World.setRow VA E #[.bool false, .func (.func F) #[] #[]]) = WZ := ⟨_, rfl⟩
            rw [hWZ] at HE0 HS6 ⊢
            clear hE hE1 hS hS6 hWZ
            go_wp2
            clear HE0
            have hT0 : Sb w B k WZ.drew ∧ BlockIs WZ.drew E 132 #[.bool false, .func (.func F) #[] #[]] := ⟨HS6.out.1.drew, HS6.out.2.drew⟩
            refine wp_region_held_drew (S := fun w' => Sb w B k w' ∧ BlockIs w' E 132 #[.bool false, .func (.func F) #[] #[]]) (by kernel_rfl) hT0 (fun hS => ?_)
            refine wpAnyH_take (i := 0) (v := .pointer (some ⟨E, 1, none⟩)) rfl (by kernel_rfl) (by kernel_rfl) (by kernel_rfl) (fun _ _ _ h => h) (Or.inl ⟨by rfl, fun w' h => by go_simp⟩) hS ?_
            try simp only [A1, A2, A3, Act.put, A4, A5, A6]
            refine wpAnyH_take (i := 1) (v := .func (.func F) #[] #[]) rfl (by kernel_rfl) (by kernel_rfl) (by kernel_rfl) (fun _ _ _ h => h) (Or.inl ⟨by rfl, fun w' h => by have c : w'.cell? ⟨E, 1, none⟩ = some (.func (.func F) #[] #[]) := h.2.at 1; go_simp⟩) hS ?_
            try simp only [A1, A2, A3, Act.put, A4, A5, A6]
            refine wpAnyH_take (i := 2) (v := .int .u64 a) rfl (by kernel_rfl) (by kernel_rfl) (by kernel_rfl) (fun _ _ _ h => h) (Or.inl ⟨by rfl, fun w' _ => by rfl⟩) hS ?_
            try simp only [A1, A2, A3, Act.put, A4, A5, A6]
            refine wpAnyH_take (i := 3) (v := .int .u64 b) rfl (by kernel_rfl) (by kernel_rfl) (by kernel_rfl) (fun _ _ _ h => h) (Or.inl ⟨by rfl, fun w' _ => by rfl⟩) hS ?_
            try simp only [A1, A2, A3, Act.put, A4, A5, A6]
            refine wpAnyH_take (i := 5) (v := .int .i64 k) rfl (by kernel_rfl) (by kernel_rfl) (by kernel_rfl) (fun _ _ _ h => h) (Or.inl ⟨by rfl, fun w' h => by have c : w'.cell? ⟨B, 0, none⟩ = some (.int .i64 k) := h.1.b.at 0; go_simp⟩) hS ?_
            try simp only [A1, A2, A3, Act.put, A4, A5, A6]
            refine wpAnyH_ready (rs := [4]) (by kernel_rfl) (by simp) (AllReadyH.cons rfl (fun K hK => ?_) AllReadyH.nil)
            refine wp_callT F 56 #[.tmp 57, .tmp 58] #[57, 57] rfl #[.int .u64 a, .int .u64 b] HFN.out (by kernel_rfl) (by kernel_rfl) (HOP.out _) ?_
            rintro u1 rfl
            have hT1 := hS
            clear hS
            refine hK.out _ _ hT1 (fun hS => ?_)
            clear hK K
            try simp only [A1, A2, A3, Act.put, A4, A5, A6]
            refine wpAnyH_ready (rs := [6]) (by kernel_rfl) (by simp) (AllReadyH.cons rfl (fun K hK => ?_) AllReadyH.nil)
            go_simp
            go_at_call 113
            refine (HM.out _).mono ?_
            rintro e u2 ⟨rfl, rfl⟩
            have hT2 := hS
            clear hS
            refine hK.out _ _ hT2 (fun hS => ?_)
            clear hK K
            try simp only [A1, A2, A3, Act.put, A4, A5, A6]
            refine wpAnyH_take (i := 7) (v := .int .u64 v) rfl (by kernel_rfl) (by kernel_rfl) (by kernel_rfl) (fun _ _ _ h => h) (Or.inl ⟨by rfl, fun w' h => by go_simp <;> simp only [hand]⟩) hS ?_
            try simp only [A1, A2, A3, Act.put, A4, A5, A6]
            refine wpAnyH_ready (rs := [8]) (by kernel_rfl) (by simp) (AllReadyH.cons rfl (fun K hK => ?_) AllReadyH.nil)
            go_simp
            go_at_call 59
            refine (HFU.out _ hS.1.bl).mono ?_
            rintro e u3 ⟨rfl, hbF⟩
            have hT3 := And.intro (hS.1.below hbF) (hS.2.below hbF hS.2.lt)
            clear hS
            refine hK.out _ _ hT3 (fun hS => ?_)
            clear hK K
            try simp only [A1, A2, A3, Act.put, A4, A5, A6]
            refine wpAnyH_take (i := 9) (v := .string (bs (Lib.decDigits v))) rfl (by kernel_rfl) (by kernel_rfl) (by kernel_rfl) (fun _ _ _ h => h) (Or.inl ⟨by rfl, fun w' _ => by rfl⟩) hS ?_
            try simp only [A1, A2, A3, Act.put, A4, A5, A6]
            refine wpAnyH_take (i := 10) (v := .int .i64 0) rfl (by kernel_rfl) (by kernel_rfl) (by kernel_rfl) (fun _ _ _ h => h) (Or.inl ⟨by rfl, fun w' _ => by rfl⟩) hS ?_
            try simp only [A1, A2, A3, Act.put, A4, A5, A6]
            refine wpAnyH_done (by kernel_rfl) ?_ _
            go_wp2
            go_ret2
            exact ⟨rfl, hB ▸ hT3.1.bl⟩
          · go_simp
            obtain ⟨E, hE0⟩ : ∃ E, v3.heap.size = E := ⟨_, rfl⟩
            have hE := BlockIs.new v3 132 zeroO
            have hSA : Sb w B k (v3.alloc (.cells zeroO 132)) := hS.alloc _
            obtain ⟨VA, hVA⟩ : ∃ VA, v3.alloc (.cells zeroO 132) = VA := ⟨_, rfl⟩
            have hBE : B < E := by rw [← hE0]; exact hS.b.lt
            rw [hVA] at hE hSA ⊢
            rw [hE0] at hE
            try rw [hE0]
            clear hE0 hVA
            clear hS
            refine hK.out _ _ hSA (fun hS => ?_)
            clear hK K
            try simp only [A1, A2, A3, Act.put, A4, A5, A6]
            refine wpAnyH_ready (rs := [10]) (by kernel_rfl) (by simp) (AllReadyH.cons rfl (fun K hK => ?_) AllReadyH.nil)
            go_simp
            go_at_call 72
            refine (HWY.out _).mono ?_
            rintro e v4 ⟨rfl, hb4⟩
            have hS4 : Sb w B k v4 := hS.below hb4
            replace hE := hE.below hb4 hE.lt
            clear hS
            refine hK.out _ _ hS4 (fun hS => ?_)
            clear hK K
            try simp only [A1, A2, A3, Act.put, A4, A5, A6]
            refine wpAnyH_ready (rs := [12]) (by kernel_rfl) (by simp) (AllReadyH.cons rfl (fun K hK => ?_) AllReadyH.nil)
            rw [if_pos (by rfl)]
            refine wpB_store1 (cs := #[.bool false, .func (.func F) #[] #[]]) (.tmp 12) (.tmp 40) rfl E rfl rfl rfl hE (by kernel_rfl) ?_
            have hE1 := hE.row (#[.bool false, .func (.func F) #[] #[]] : Array Value)
            have hS6 := hS.row hBE (#[.bool false, .func (.func F) #[] #[]] : Array Value)
            clear hS
            refine hK.out _ _ hS6 (fun hS => ?_)
            clear hK K
            refine wpAnyH_take (i := 13) (v := .int .u64 a) rfl (by kernel_rfl) (by kernel_rfl) (by kernel_rfl) (fun _ _ _ h => h) (Or.inl ⟨by rfl, fun w' _ => by rfl⟩) hS ?_
            try simp only [A1, A2, A3, Act.put, A4, A5, A6]
            refine wpAnyH_take (i := 14) (v := .int .u64 b) rfl (by kernel_rfl) (by kernel_rfl) (by kernel_rfl) (fun _ _ _ h => h) (Or.inl ⟨by rfl, fun w' _ => by rfl⟩) hS ?_
            try simp only [A1, A2, A3, Act.put, A4, A5, A6]
            refine wpAnyH_done (by kernel_rfl) ?_ _
            have HE0 : (World.setRow v4 E #[.bool false, .func (.func F) #[] #[]]).cell? ⟨E, 0, none⟩ = some (.bool false) := hE1.at 0
            have HS6 := Lib.hid (And.intro hS6 hE1)
            obtain ⟨WZ, hWZ⟩ : ∃ WZ, (World.setRow v4 E #[.bool false, .func (.func F) #[] #[]]) = WZ := ⟨_, rfl⟩
            rw [hWZ] at HE0 HS6 ⊢
            clear hE hE1 hS hS6 hWZ
            go_wp2
            clear HE0
            have hT0 : Sb w B k WZ.drew ∧ BlockIs WZ.drew E 132 #[.bool false, .func (.func F) #[] #[]] := ⟨HS6.out.1.drew, HS6.out.2.drew⟩
            refine wp_region_held_drew (S := fun w' => Sb w B k w' ∧ BlockIs w' E 132 #[.bool false, .func (.func F) #[] #[]]) (by kernel_rfl) hT0 (fun hS => ?_)
            refine wpAnyH_take (i := 0) (v := .pointer (some ⟨E, 1, none⟩)) rfl (by kernel_rfl) (by kernel_rfl) (by kernel_rfl) (fun _ _ _ h => h) (Or.inl ⟨by rfl, fun w' h => by go_simp⟩) hS ?_
            try simp only [A1, A2, A3, Act.put, A4, A5, A6]
            refine wpAnyH_take (i := 1) (v := .func (.func F) #[] #[]) rfl (by kernel_rfl) (by kernel_rfl) (by kernel_rfl) (fun _ _ _ h => h) (Or.inl ⟨by rfl, fun w' h => by have c : w'.cell? ⟨E, 1, none⟩ = some (.func (.func F) #[] #[]) := h.2.at 1; go_simp⟩) hS ?_
            try simp only [A1, A2, A3, Act.put, A4, A5, A6]
            refine wpAnyH_take (i := 2) (v := .int .u64 a) rfl (by kernel_rfl) (by kernel_rfl) (by kernel_rfl) (fun _ _ _ h => h) (Or.inl ⟨by rfl, fun w' _ => by rfl⟩) hS ?_
            try simp only [A1, A2, A3, Act.put, A4, A5, A6]
            refine wpAnyH_take (i := 3) (v := .int .u64 b) rfl (by kernel_rfl) (by kernel_rfl) (by kernel_rfl) (fun _ _ _ h => h) (Or.inl ⟨by rfl, fun w' _ => by rfl⟩) hS ?_
            try simp only [A1, A2, A3, Act.put, A4, A5, A6]
            refine wpAnyH_take (i := 5) (v := .int .i64 k) rfl (by kernel_rfl) (by kernel_rfl) (by kernel_rfl) (fun _ _ _ h => h) (Or.inl ⟨by rfl, fun w' h => by have c : w'.cell? ⟨B, 0, none⟩ = some (.int .i64 k) := h.1.b.at 0; go_simp⟩) hS ?_
            try simp only [A1, A2, A3, Act.put, A4, A5, A6]
            refine wpAnyH_ready (rs := [4]) (by kernel_rfl) (by simp) (AllReadyH.cons rfl (fun K hK => ?_) AllReadyH.nil)
            refine wp_callT F 56 #[.tmp 57, .tmp 58] #[57, 57] rfl #[.int .u64 a, .int .u64 b] HFN.out (by kernel_rfl) (by kernel_rfl) (HOP.out _) ?_
            rintro u1 rfl
            have hT1 := hS
            clear hS
            refine hK.out _ _ hT1 (fun hS => ?_)
            clear hK K
            try simp only [A1, A2, A3, Act.put, A4, A5, A6]
            refine wpAnyH_ready (rs := [6]) (by kernel_rfl) (by simp) (AllReadyH.cons rfl (fun K hK => ?_) AllReadyH.nil)
            go_simp
            go_at_call 113
            refine (HM.out _).mono ?_
            rintro e u2 ⟨rfl, rfl⟩
            have hT2 := hS
            clear hS
            refine hK.out _ _ hT2 (fun hS => ?_)
            clear hK K
            try simp only [A1, A2, A3, Act.put, A4, A5, A6]
            refine wpAnyH_take (i := 7) (v := .int .u64 v) rfl (by kernel_rfl) (by kernel_rfl) (by kernel_rfl) (fun _ _ _ h => h) (Or.inl ⟨by rfl, fun w' h => by go_simp <;> simp only [hand]⟩) hS ?_
            try simp only [A1, A2, A3, Act.put, A4, A5, A6]
            refine wpAnyH_ready (rs := [8]) (by kernel_rfl) (by simp) (AllReadyH.cons rfl (fun K hK => ?_) AllReadyH.nil)
            go_simp
            go_at_call 59
            refine (HFU.out _ hS.1.bl).mono ?_
            rintro e u3 ⟨rfl, hbF⟩
            have hT3 := And.intro (hS.1.below hbF) (hS.2.below hbF hS.2.lt)
            clear hS
            refine hK.out _ _ hT3 (fun hS => ?_)
            clear hK K
            try simp only [A1, A2, A3, Act.put, A4, A5, A6]
            refine wpAnyH_take (i := 9) (v := .string (bs (Lib.decDigits v))) rfl (by kernel_rfl) (by kernel_rfl) (by kernel_rfl) (fun _ _ _ h => h) (Or.inl ⟨by rfl, fun w' _ => by rfl⟩) hS ?_
            try simp only [A1, A2, A3, Act.put, A4, A5, A6]
            refine wpAnyH_take (i := 10) (v := .int .i64 0) rfl (by kernel_rfl) (by kernel_rfl) (by kernel_rfl) (fun _ _ _ h => h) (Or.inl ⟨by rfl, fun w' _ => by rfl⟩) hS ?_
            try simp only [A1, A2, A3, Act.put, A4, A5, A6]
            refine wpAnyH_done (by kernel_rfl) ?_ _
            go_wp2
            go_ret2
            exact ⟨rfl, hB ▸ hT3.1.bl⟩
        · go_simp
          obtain ⟨E, hE0⟩ : ∃ E, v2.heap.size = E := ⟨_, rfl⟩
          have hE := BlockIs.new v2 132 zeroO
          have hSA : Sb w B k (v2.alloc (.cells zeroO 132)) := hS.alloc _
          obtain ⟨VA, hVA⟩ : ∃ VA, v2.alloc (.cells zeroO 132) = VA := ⟨_, rfl⟩
          have hBE : B < E := by rw [← hE0]; exact hS.b.lt
          rw [hVA] at hE hSA ⊢
          rw [hE0] at hE
          try rw [hE0]
          clear hE0 hVA
          clear hS
          refine hK.out _ _ hSA (fun hS => ?_)
          clear hK K
          try simp only [A1, A2, A3, Act.put, A4, A5, A6]
          refine wpAnyH_ready (rs := [8]) (by kernel_rfl) (by simp) (AllReadyH.cons rfl (fun K hK => ?_) AllReadyH.nil)
          go_simp
          go_at_call 69
          refine (HRY.out _).mono ?_
          rintro e v3 ⟨rfl, hb3⟩
          have hS3 : Sb w B k v3 := hS.below hb3
          replace hE := hE.below hb3 hE.lt
          clear hS
          refine hK.out _ _ hS3 (fun hS => ?_)
          clear hK K
          try simp only [A1, A2, A3, Act.put, A4, A5, A6]
          refine wpAnyH_take (i := 9) rfl (by kernel_rfl) (by kernel_rfl) (by kernel_rfl) (fun _ _ _ h => h) (yS_field (f := limb b) (u := len b) (s := false) rfl (.tmp 46) rfl rfl) hS ?_
          try simp only [A1, A2, A3, Act.put, A4, A5, A6]
          refine wpAnyH_ready (rs := [10]) (by kernel_rfl) (by simp) (AllReadyH.cons rfl (fun K hK => ?_) AllReadyH.nil)
          go_simp
          go_at_call 72
          refine (HWY.out _).mono ?_
          rintro e v4 ⟨rfl, hb4⟩
          have hS4 : Sb w B k v4 := hS.below hb4
          replace hE := hE.below hb4 hE.lt
          clear hS
          refine hK.out _ _ hS4 (fun hS => ?_)
          clear hK K
          try simp only [A1, A2, A3, Act.put, A4, A5, A6]
          refine wpAnyH_ready (rs := [12]) (by kernel_rfl) (by simp) (AllReadyH.cons rfl (fun K hK => ?_) AllReadyH.nil)
          rw [if_pos (by rfl)]
          refine wpB_store1 (cs := #[.bool false, .func (.func F) #[] #[]]) (.tmp 12) (.tmp 40) rfl E rfl rfl rfl hE (by kernel_rfl) ?_
          have hE1 := hE.row (#[.bool false, .func (.func F) #[] #[]] : Array Value)
          have hS6 := hS.row hBE (#[.bool false, .func (.func F) #[] #[]] : Array Value)
          clear hS
          refine hK.out _ _ hS6 (fun hS => ?_)
          clear hK K
          refine wpAnyH_take (i := 13) (v := .int .u64 a) rfl (by kernel_rfl) (by kernel_rfl) (by kernel_rfl) (fun _ _ _ h => h) (Or.inl ⟨by rfl, fun w' _ => by rfl⟩) hS ?_
          try simp only [A1, A2, A3, Act.put, A4, A5, A6]
          refine wpAnyH_take (i := 14) (v := .int .u64 b) rfl (by kernel_rfl) (by kernel_rfl) (by kernel_rfl) (fun _ _ _ h => h) (Or.inl ⟨by rfl, fun w' _ => by rfl⟩) hS ?_
          try simp only [A1, A2, A3, Act.put, A4, A5, A6]
          refine wpAnyH_done (by kernel_rfl) ?_ _
          have HE0 : (World.setRow v4 E #[.bool false, .func (.func F) #[] #[]]).cell? ⟨E, 0, none⟩ = some (.bool false) := hE1.at 0
          have HS6 := Lib.hid (And.intro hS6 hE1)
          obtain ⟨WZ, hWZ⟩ : ∃ WZ, (World.setRow v4 E #[.bool false, .func (.func F) #[] #[]]) = WZ := ⟨_, rfl⟩
          rw [hWZ] at HE0 HS6 ⊢
          clear hE hE1 hS hS6 hWZ
          go_wp2
          clear HE0
          have hT0 : Sb w B k WZ.drew ∧ BlockIs WZ.drew E 132 #[.bool false, .func (.func F) #[] #[]] := ⟨HS6.out.1.drew, HS6.out.2.drew⟩
          refine wp_region_held_drew (S := fun w' => Sb w B k w' ∧ BlockIs w' E 132 #[.bool false, .func (.func F) #[] #[]]) (by kernel_rfl) hT0 (fun hS => ?_)
          refine wpAnyH_take (i := 0) (v := .pointer (some ⟨E, 1, none⟩)) rfl (by kernel_rfl) (by kernel_rfl) (by kernel_rfl) (fun _ _ _ h => h) (Or.inl ⟨by rfl, fun w' h => by go_simp⟩) hS ?_
          try simp only [A1, A2, A3, Act.put, A4, A5, A6]
          refine wpAnyH_take (i := 1) (v := .func (.func F) #[] #[]) rfl (by kernel_rfl) (by kernel_rfl) (by kernel_rfl) (fun _ _ _ h => h) (Or.inl ⟨by rfl, fun w' h => by have c : w'.cell? ⟨E, 1, none⟩ = some (.func (.func F) #[] #[]) := h.2.at 1; go_simp⟩) hS ?_
          try simp only [A1, A2, A3, Act.put, A4, A5, A6]
          refine wpAnyH_take (i := 2) (v := .int .u64 a) rfl (by kernel_rfl) (by kernel_rfl) (by kernel_rfl) (fun _ _ _ h => h) (Or.inl ⟨by rfl, fun w' _ => by rfl⟩) hS ?_
          try simp only [A1, A2, A3, Act.put, A4, A5, A6]
          refine wpAnyH_take (i := 3) (v := .int .u64 b) rfl (by kernel_rfl) (by kernel_rfl) (by kernel_rfl) (fun _ _ _ h => h) (Or.inl ⟨by rfl, fun w' _ => by rfl⟩) hS ?_
          try simp only [A1, A2, A3, Act.put, A4, A5, A6]
          refine wpAnyH_take (i := 5) (v := .int .i64 k) rfl (by kernel_rfl) (by kernel_rfl) (by kernel_rfl) (fun _ _ _ h => h) (Or.inl ⟨by rfl, fun w' h => by have c : w'.cell? ⟨B, 0, none⟩ = some (.int .i64 k) := h.1.b.at 0; go_simp⟩) hS ?_
          try simp only [A1, A2, A3, Act.put, A4, A5, A6]
          refine wpAnyH_ready (rs := [4]) (by kernel_rfl) (by simp) (AllReadyH.cons rfl (fun K hK => ?_) AllReadyH.nil)
          refine wp_callT F 56 #[.tmp 57, .tmp 58] #[57, 57] rfl #[.int .u64 a, .int .u64 b] HFN.out (by kernel_rfl) (by kernel_rfl) (HOP.out _) ?_
          rintro u1 rfl
          have hT1 := hS
          clear hS
          refine hK.out _ _ hT1 (fun hS => ?_)
          clear hK K
          try simp only [A1, A2, A3, Act.put, A4, A5, A6]
          refine wpAnyH_ready (rs := [6]) (by kernel_rfl) (by simp) (AllReadyH.cons rfl (fun K hK => ?_) AllReadyH.nil)
          go_simp
          go_at_call 113
          refine (HM.out _).mono ?_
          rintro e u2 ⟨rfl, rfl⟩
          have hT2 := hS
          clear hS
          refine hK.out _ _ hT2 (fun hS => ?_)
          clear hK K
          try simp only [A1, A2, A3, Act.put, A4, A5, A6]
          refine wpAnyH_take (i := 7) (v := .int .u64 v) rfl (by kernel_rfl) (by kernel_rfl) (by kernel_rfl) (fun _ _ _ h => h) (Or.inl ⟨by rfl, fun w' h => by go_simp <;> simp only [hand]⟩) hS ?_
          try simp only [A1, A2, A3, Act.put, A4, A5, A6]
          refine wpAnyH_ready (rs := [8]) (by kernel_rfl) (by simp) (AllReadyH.cons rfl (fun K hK => ?_) AllReadyH.nil)
          go_simp
          go_at_call 59
          refine (HFU.out _ hS.1.bl).mono ?_
          rintro e u3 ⟨rfl, hbF⟩
          have hT3 := And.intro (hS.1.below hbF) (hS.2.below hbF hS.2.lt)
          clear hS
          refine hK.out _ _ hT3 (fun hS => ?_)
          clear hK K
          try simp only [A1, A2, A3, Act.put, A4, A5, A6]
          refine wpAnyH_take (i := 9) (v := .string (bs (Lib.decDigits v))) rfl (by kernel_rfl) (by kernel_rfl) (by kernel_rfl) (fun _ _ _ h => h) (Or.inl ⟨by rfl, fun w' _ => by rfl⟩) hS ?_
          try simp only [A1, A2, A3, Act.put, A4, A5, A6]
          refine wpAnyH_take (i := 10) (v := .int .i64 0) rfl (by kernel_rfl) (by kernel_rfl) (by kernel_rfl) (fun _ _ _ h => h) (Or.inl ⟨by rfl, fun w' _ => by rfl⟩) hS ?_
          try simp only [A1, A2, A3, Act.put, A4, A5, A6]
          refine wpAnyH_done (by kernel_rfl) ?_ _
          go_wp2
          go_ret2
          exact ⟨rfl, hB ▸ hT3.1.bl⟩
      · go_simp
        obtain ⟨E, hE0⟩ : ∃ E, v1.heap.size = E := ⟨_, rfl⟩
        have hE := BlockIs.new v1 132 zeroO
        have hSA : Sb w B k (v1.alloc (.cells zeroO 132)) := hS.alloc _
        obtain ⟨VA, hVA⟩ : ∃ VA, v1.alloc (.cells zeroO 132) = VA := ⟨_, rfl⟩
        have hBE : B < E := by rw [← hE0]; exact hS.b.lt
        rw [hVA] at hE hSA ⊢
        rw [hE0] at hE
        try rw [hE0]
        clear hE0 hVA
        clear hS
        refine hK.out _ _ hSA (fun hS => ?_)
        clear hK K
        try simp only [A1, A2, A3, Act.put, A4, A5, A6]
        refine wpAnyH_ready (rs := [6]) (by kernel_rfl) (by simp) (AllReadyH.cons rfl (fun K hK => ?_) AllReadyH.nil)
        go_simp
        go_at_call 72
        refine (HWX.out _).mono ?_
        rintro e v2 ⟨rfl, hb2⟩
        have hS2 : Sb w B k v2 := hS.below hb2
        replace hE := hE.below hb2 hE.lt
        clear hS
        refine hK.out _ _ hS2 (fun hS => ?_)
        clear hK K
        try simp only [A1, A2, A3, Act.put, A4, A5, A6]
        refine wpAnyH_ready (rs := [8]) (by kernel_rfl) (by simp) (AllReadyH.cons rfl (fun K hK => ?_) AllReadyH.nil)
        go_simp
        go_at_call 69
        refine (HRY.out _).mono ?_
        rintro e v3 ⟨rfl, hb3⟩
        have hS3 : Sb w B k v3 := hS.below hb3
        replace hE := hE.below hb3 hE.lt
        clear hS
        refine hK.out _ _ hS3 (fun hS => ?_)
        clear hK K
        try simp only [A1, A2, A3, Act.put, A4, A5, A6]
        refine wpAnyH_take (i := 9) rfl (by kernel_rfl) (by kernel_rfl) (by kernel_rfl) (fun _ _ _ h => h) (yS_field (f := limb b) (u := len b) (s := false) rfl (.tmp 46) rfl rfl) hS ?_
        try simp only [A1, A2, A3, Act.put, A4, A5, A6]
        refine wpAnyH_ready (rs := [10]) (by kernel_rfl) (by simp) (AllReadyH.cons rfl (fun K hK => ?_) AllReadyH.nil)
        go_simp
        go_at_call 72
        refine (HWY.out _).mono ?_
        rintro e v4 ⟨rfl, hb4⟩
        have hS4 : Sb w B k v4 := hS.below hb4
        replace hE := hE.below hb4 hE.lt
        clear hS
        refine hK.out _ _ hS4 (fun hS => ?_)
        clear hK K
        try simp only [A1, A2, A3, Act.put, A4, A5, A6]
        refine wpAnyH_ready (rs := [12]) (by kernel_rfl) (by simp) (AllReadyH.cons rfl (fun K hK => ?_) AllReadyH.nil)
        rw [if_pos (by rfl)]
        refine wpB_store1 (cs := #[.bool false, .func (.func F) #[] #[]]) (.tmp 12) (.tmp 40) rfl E rfl rfl rfl hE (by kernel_rfl) ?_
        have hE1 := hE.row (#[.bool false, .func (.func F) #[] #[]] : Array Value)
        have hS6 := hS.row hBE (#[.bool false, .func (.func F) #[] #[]] : Array Value)
        clear hS
        refine hK.out _ _ hS6 (fun hS => ?_)
        clear hK K
        refine wpAnyH_take (i := 13) (v := .int .u64 a) rfl (by kernel_rfl) (by kernel_rfl) (by kernel_rfl) (fun _ _ _ h => h) (Or.inl ⟨by rfl, fun w' _ => by rfl⟩) hS ?_
        try simp only [A1, A2, A3, Act.put, A4, A5, A6]
        refine wpAnyH_take (i := 14) (v := .int .u64 b) rfl (by kernel_rfl) (by kernel_rfl) (by kernel_rfl) (fun _ _ _ h => h) (Or.inl ⟨by rfl, fun w' _ => by rfl⟩) hS ?_
        try simp only [A1, A2, A3, Act.put, A4, A5, A6]
        refine wpAnyH_done (by kernel_rfl) ?_ _
        have HE0 : (World.setRow v4 E #[.bool false, .func (.func F) #[] #[]]).cell? ⟨E, 0, none⟩ = some (.bool false) := hE1.at 0
        have HS6 := Lib.hid (And.intro hS6 hE1)
        obtain ⟨WZ, hWZ⟩ : ∃ WZ, (World.setRow v4 E #[.bool false, .func (.func F) #[] #[]]) = WZ := ⟨_, rfl⟩
        rw [hWZ] at HE0 HS6 ⊢
        clear hE hE1 hS hS6 hWZ
        go_wp2
        clear HE0
        have hT0 : Sb w B k WZ.drew ∧ BlockIs WZ.drew E 132 #[.bool false, .func (.func F) #[] #[]] := ⟨HS6.out.1.drew, HS6.out.2.drew⟩
        refine wp_region_held_drew (S := fun w' => Sb w B k w' ∧ BlockIs w' E 132 #[.bool false, .func (.func F) #[] #[]]) (by kernel_rfl) hT0 (fun hS => ?_)
        refine wpAnyH_take (i := 0) (v := .pointer (some ⟨E, 1, none⟩)) rfl (by kernel_rfl) (by kernel_rfl) (by kernel_rfl) (fun _ _ _ h => h) (Or.inl ⟨by rfl, fun w' h => by go_simp⟩) hS ?_
        try simp only [A1, A2, A3, Act.put, A4, A5, A6]
        refine wpAnyH_take (i := 1) (v := .func (.func F) #[] #[]) rfl (by kernel_rfl) (by kernel_rfl) (by kernel_rfl) (fun _ _ _ h => h) (Or.inl ⟨by rfl, fun w' h => by have c : w'.cell? ⟨E, 1, none⟩ = some (.func (.func F) #[] #[]) := h.2.at 1; go_simp⟩) hS ?_
        try simp only [A1, A2, A3, Act.put, A4, A5, A6]
        refine wpAnyH_take (i := 2) (v := .int .u64 a) rfl (by kernel_rfl) (by kernel_rfl) (by kernel_rfl) (fun _ _ _ h => h) (Or.inl ⟨by rfl, fun w' _ => by rfl⟩) hS ?_
        try simp only [A1, A2, A3, Act.put, A4, A5, A6]
        refine wpAnyH_take (i := 3) (v := .int .u64 b) rfl (by kernel_rfl) (by kernel_rfl) (by kernel_rfl) (fun _ _ _ h => h) (Or.inl ⟨by rfl, fun w' _ => by rfl⟩) hS ?_
        try simp only [A1, A2, A3, Act.put, A4, A5, A6]
        refine wpAnyH_take (i := 5) (v := .int .i64 k) rfl (by kernel_rfl) (by kernel_rfl) (by kernel_rfl) (fun _ _ _ h => h) (Or.inl ⟨by rfl, fun w' h => by have c : w'.cell? ⟨B, 0, none⟩ = some (.int .i64 k) := h.1.b.at 0; go_simp⟩) hS ?_
        try simp only [A1, A2, A3, Act.put, A4, A5, A6]
        refine wpAnyH_ready (rs := [4]) (by kernel_rfl) (by simp) (AllReadyH.cons rfl (fun K hK => ?_) AllReadyH.nil)
        refine wp_callT F 56 #[.tmp 57, .tmp 58] #[57, 57] rfl #[.int .u64 a, .int .u64 b] HFN.out (by kernel_rfl) (by kernel_rfl) (HOP.out _) ?_
        rintro u1 rfl
        have hT1 := hS
        clear hS
        refine hK.out _ _ hT1 (fun hS => ?_)
        clear hK K
        try simp only [A1, A2, A3, Act.put, A4, A5, A6]
        refine wpAnyH_ready (rs := [6]) (by kernel_rfl) (by simp) (AllReadyH.cons rfl (fun K hK => ?_) AllReadyH.nil)
        go_simp
        go_at_call 113
        refine (HM.out _).mono ?_
        rintro e u2 ⟨rfl, rfl⟩
        have hT2 := hS
        clear hS
        refine hK.out _ _ hT2 (fun hS => ?_)
        clear hK K
        try simp only [A1, A2, A3, Act.put, A4, A5, A6]
        refine wpAnyH_take (i := 7) (v := .int .u64 v) rfl (by kernel_rfl) (by kernel_rfl) (by kernel_rfl) (fun _ _ _ h => h) (Or.inl ⟨by rfl, fun w' h => by go_simp <;> simp only [hand]⟩) hS ?_
        try simp only [A1, A2, A3, Act.put, A4, A5, A6]
        refine wpAnyH_ready (rs := [8]) (by kernel_rfl) (by simp) (AllReadyH.cons rfl (fun K hK => ?_) AllReadyH.nil)
        go_simp
        go_at_call 59
        refine (HFU.out _ hS.1.bl).mono ?_
        rintro e u3 ⟨rfl, hbF⟩
        have hT3 := And.intro (hS.1.below hbF) (hS.2.below hbF hS.2.lt)
        clear hS
        refine hK.out _ _ hT3 (fun hS => ?_)
        clear hK K
        try simp only [A1, A2, A3, Act.put, A4, A5, A6]
        refine wpAnyH_take (i := 9) (v := .string (bs (Lib.decDigits v))) rfl (by kernel_rfl) (by kernel_rfl) (by kernel_rfl) (fun _ _ _ h => h) (Or.inl ⟨by rfl, fun w' _ => by rfl⟩) hS ?_
        try simp only [A1, A2, A3, Act.put, A4, A5, A6]
        refine wpAnyH_take (i := 10) (v := .int .i64 0) rfl (by kernel_rfl) (by kernel_rfl) (by kernel_rfl) (fun _ _ _ h => h) (Or.inl ⟨by rfl, fun w' _ => by rfl⟩) hS ?_
        try simp only [A1, A2, A3, Act.put, A4, A5, A6]
        refine wpAnyH_done (by kernel_rfl) ?_ _
        go_wp2
        go_ret2
        exact ⟨rfl, hB ▸ hT3.1.bl⟩
    · go_simp
      obtain ⟨E, hE0⟩ : ∃ E, v0.heap.size = E := ⟨_, rfl⟩
      have hE := BlockIs.new v0 132 zeroO
      have hSA : Sb w B k (v0.alloc (.cells zeroO 132)) := hS.alloc _
      obtain ⟨VA, hVA⟩ : ∃ VA, v0.alloc (.cells zeroO 132) = VA := ⟨_, rfl⟩
      have hBE : B < E := by rw [← hE0]; exact hS.b.lt
      rw [hVA] at hE hSA ⊢
      rw [hE0] at hE
      try rw [hE0]
      clear hE0 hVA
      clear hS
      refine hK.out _ _ hSA (fun hS => ?_)
      clear hK K
      try simp only [A1, A2, A3, Act.put, A4, A5, A6]
      refine wpAnyH_ready (rs := [4]) (by kernel_rfl) (by simp) (AllReadyH.cons rfl (fun K hK => ?_) AllReadyH.nil)
      go_simp
      go_at_call 69
      refine (HRX.out _).mono ?_
      rintro e v1 ⟨rfl, hb1⟩
      have hS1 : Sb w B k v1 := hS.below hb1
      replace hE := hE.below hb1 hE.lt
      clear hS
      refine hK.out _ _ hS1 (fun hS => ?_)
      clear hK K
      try simp only [A1, A2, A3, Act.put, A4, A5, A6]
      refine wpAnyH_take (i := 5) rfl (by kernel_rfl) (by kernel_rfl) (by kernel_rfl) (fun _ _ _ h => h) (yS_field (f := limb a) (u := len a) (s := false) rfl (.tmp 42) rfl rfl) hS ?_
      try simp only [A1, A2, A3, Act.put, A4, A5, A6]
      refine wpAnyH_ready (rs := [6]) (by kernel_rfl) (by simp) (AllReadyH.cons rfl (fun K hK => ?_) AllReadyH.nil)
      go_simp
      go_at_call 72
      refine (HWX.out _).mono ?_
      rintro e v2 ⟨rfl, hb2⟩
      have hS2 : Sb w B k v2 := hS.below hb2
      replace hE := hE.below hb2 hE.lt
      clear hS
      refine hK.out _ _ hS2 (fun hS => ?_)
      clear hK K
      try simp only [A1, A2, A3, Act.put, A4, A5, A6]
      refine wpAnyH_ready (rs := [8]) (by kernel_rfl) (by simp) (AllReadyH.cons rfl (fun K hK => ?_) AllReadyH.nil)
      go_simp
      go_at_call 69
      refine (HRY.out _).mono ?_
      rintro e v3 ⟨rfl, hb3⟩
      have hS3 : Sb w B k v3 := hS.below hb3
      replace hE := hE.below hb3 hE.lt
      clear hS
      refine hK.out _ _ hS3 (fun hS => ?_)
      clear hK K
      try simp only [A1, A2, A3, Act.put, A4, A5, A6]
      refine wpAnyH_take (i := 9) rfl (by kernel_rfl) (by kernel_rfl) (by kernel_rfl) (fun _ _ _ h => h) (yS_field (f := limb b) (u := len b) (s := false) rfl (.tmp 46) rfl rfl) hS ?_
      try simp only [A1, A2, A3, Act.put, A4, A5, A6]
      refine wpAnyH_ready (rs := [10]) (by kernel_rfl) (by simp) (AllReadyH.cons rfl (fun K hK => ?_) AllReadyH.nil)
      go_simp
      go_at_call 72
      refine (HWY.out _).mono ?_
      rintro e v4 ⟨rfl, hb4⟩
      have hS4 : Sb w B k v4 := hS.below hb4
      replace hE := hE.below hb4 hE.lt
      clear hS
      refine hK.out _ _ hS4 (fun hS => ?_)
      clear hK K
      try simp only [A1, A2, A3, Act.put, A4, A5, A6]
      refine wpAnyH_ready (rs := [12]) (by kernel_rfl) (by simp) (AllReadyH.cons rfl (fun K hK => ?_) AllReadyH.nil)
      rw [if_pos (by rfl)]
      refine wpB_store1 (cs := #[.bool false, .func (.func F) #[] #[]]) (.tmp 12) (.tmp 40) rfl E rfl rfl rfl hE (by kernel_rfl) ?_
      have hE1 := hE.row (#[.bool false, .func (.func F) #[] #[]] : Array Value)
      have hS6 := hS.row hBE (#[.bool false, .func (.func F) #[] #[]] : Array Value)
      clear hS
      refine hK.out _ _ hS6 (fun hS => ?_)
      clear hK K
      refine wpAnyH_take (i := 13) (v := .int .u64 a) rfl (by kernel_rfl) (by kernel_rfl) (by kernel_rfl) (fun _ _ _ h => h) (Or.inl ⟨by rfl, fun w' _ => by rfl⟩) hS ?_
      try simp only [A1, A2, A3, Act.put, A4, A5, A6]
      refine wpAnyH_take (i := 14) (v := .int .u64 b) rfl (by kernel_rfl) (by kernel_rfl) (by kernel_rfl) (fun _ _ _ h => h) (Or.inl ⟨by rfl, fun w' _ => by rfl⟩) hS ?_
      try simp only [A1, A2, A3, Act.put, A4, A5, A6]
      refine wpAnyH_done (by kernel_rfl) ?_ _
      have HE0 : (World.setRow v4 E #[.bool false, .func (.func F) #[] #[]]).cell? ⟨E, 0, none⟩ = some (.bool false) := hE1.at 0
      have HS6 := Lib.hid (And.intro hS6 hE1)
      obtain ⟨WZ, hWZ⟩ : ∃ WZ, (World.setRow v4 E #[.bool false, .func (.func F) #[] #[]]) = WZ := ⟨_, rfl⟩
      rw [hWZ] at HE0 HS6 ⊢
      clear hE hE1 hS hS6 hWZ
      go_wp2
      clear HE0
      have hT0 : Sb w B k WZ.drew ∧ BlockIs WZ.drew E 132 #[.bool false, .func (.func F) #[] #[]] := ⟨HS6.out.1.drew, HS6.out.2.drew⟩
      refine wp_region_held_drew (S := fun w' => Sb w B k w' ∧ BlockIs w' E 132 #[.bool false, .func (.func F) #[] #[]]) (by kernel_rfl) hT0 (fun hS => ?_)
      refine wpAnyH_take (i := 0) (v := .pointer (some ⟨E, 1, none⟩)) rfl (by kernel_rfl) (by kernel_rfl) (by kernel_rfl) (fun _ _ _ h => h) (Or.inl ⟨by rfl, fun w' h => by go_simp⟩) hS ?_
      try simp only [A1, A2, A3, Act.put, A4, A5, A6]
      refine wpAnyH_take (i := 1) (v := .func (.func F) #[] #[]) rfl (by kernel_rfl) (by kernel_rfl) (by kernel_rfl) (fun _ _ _ h => h) (Or.inl ⟨by rfl, fun w' h => by have c : w'.cell? ⟨E, 1, none⟩ = some (.func (.func F) #[] #[]) := h.2.at 1; go_simp⟩) hS ?_
      try simp only [A1, A2, A3, Act.put, A4, A5, A6]
      refine wpAnyH_take (i := 2) (v := .int .u64 a) rfl (by kernel_rfl) (by kernel_rfl) (by kernel_rfl) (fun _ _ _ h => h) (Or.inl ⟨by rfl, fun w' _ => by rfl⟩) hS ?_
      try simp only [A1, A2, A3, Act.put, A4, A5, A6]
      refine wpAnyH_take (i := 3) (v := .int .u64 b) rfl (by kernel_rfl) (by kernel_rfl) (by kernel_rfl) (fun _ _ _ h => h) (Or.inl ⟨by rfl, fun w' _ => by rfl⟩) hS ?_
      try simp only [A1, A2, A3, Act.put, A4, A5, A6]
      refine wpAnyH_take (i := 5) (v := .int .i64 k) rfl (by kernel_rfl) (by kernel_rfl) (by kernel_rfl) (fun _ _ _ h => h) (Or.inl ⟨by rfl, fun w' h => by have c : w'.cell? ⟨B, 0, none⟩ = some (.int .i64 k) := h.1.b.at 0; go_simp⟩) hS ?_
      try simp only [A1, A2, A3, Act.put, A4, A5, A6]
      refine wpAnyH_ready (rs := [4]) (by kernel_rfl) (by simp) (AllReadyH.cons rfl (fun K hK => ?_) AllReadyH.nil)
      refine wp_callT F 56 #[.tmp 57, .tmp 58] #[57, 57] rfl #[.int .u64 a, .int .u64 b] HFN.out (by kernel_rfl) (by kernel_rfl) (HOP.out _) ?_
      rintro u1 rfl
      have hT1 := hS
      clear hS
      refine hK.out _ _ hT1 (fun hS => ?_)
      clear hK K
      try simp only [A1, A2, A3, Act.put, A4, A5, A6]
      refine wpAnyH_ready (rs := [6]) (by kernel_rfl) (by simp) (AllReadyH.cons rfl (fun K hK => ?_) AllReadyH.nil)
      go_simp
      go_at_call 113
      refine (HM.out _).mono ?_
      rintro e u2 ⟨rfl, rfl⟩
      have hT2 := hS
      clear hS
      refine hK.out _ _ hT2 (fun hS => ?_)
      clear hK K
      try simp only [A1, A2, A3, Act.put, A4, A5, A6]
      refine wpAnyH_take (i := 7) (v := .int .u64 v) rfl (by kernel_rfl) (by kernel_rfl) (by kernel_rfl) (fun _ _ _ h => h) (Or.inl ⟨by rfl, fun w' h => by go_simp <;> simp only [hand]⟩) hS ?_
      try simp only [A1, A2, A3, Act.put, A4, A5, A6]
      refine wpAnyH_ready (rs := [8]) (by kernel_rfl) (by simp) (AllReadyH.cons rfl (fun K hK => ?_) AllReadyH.nil)
      go_simp
      go_at_call 59
      refine (HFU.out _ hS.1.bl).mono ?_
      rintro e u3 ⟨rfl, hbF⟩
      have hT3 := And.intro (hS.1.below hbF) (hS.2.below hbF hS.2.lt)
      clear hS
      refine hK.out _ _ hT3 (fun hS => ?_)
      clear hK K
      try simp only [A1, A2, A3, Act.put, A4, A5, A6]
      refine wpAnyH_take (i := 9) (v := .string (bs (Lib.decDigits v))) rfl (by kernel_rfl) (by kernel_rfl) (by kernel_rfl) (fun _ _ _ h => h) (Or.inl ⟨by rfl, fun w' _ => by rfl⟩) hS ?_
      try simp only [A1, A2, A3, Act.put, A4, A5, A6]
      refine wpAnyH_take (i := 10) (v := .int .i64 0) rfl (by kernel_rfl) (by kernel_rfl) (by kernel_rfl) (fun _ _ _ h => h) (Or.inl ⟨by rfl, fun w' _ => by rfl⟩) hS ?_
      try simp only [A1, A2, A3, Act.put, A4, A5, A6]
      refine wpAnyH_done (by kernel_rfl) ?_ _
      go_wp2
      go_ret2
      exact ⟨rfl, hB ▸ hT3.1.bl⟩
  · go_simp
    obtain ⟨E, hE0⟩ : ∃ E, wd.heap.size = E := ⟨_, rfl⟩
    have hE := BlockIs.new wd 132 zeroO
    have hSA : Sb w B k (wd.alloc (.cells zeroO 132)) := hS.alloc _
    obtain ⟨VA, hVA⟩ : ∃ VA, wd.alloc (.cells zeroO 132) = VA := ⟨_, rfl⟩
    have hBE : B < E := by rw [← hE0]; exact hS.b.lt
    rw [hVA] at hE hSA ⊢
    rw [hE0] at hE
    try rw [hE0]
    clear hE0 hVA
    clear hS
    refine hK.out _ _ hSA (fun hS => ?_)
    clear hK K
    try simp only [A1, A2, A3, Act.put, A4, A5, A6]
    refine wpAnyH_ready (rs := [0]) (by kernel_rfl) (by simp) (AllReadyH.cons rfl (fun K hK => ?_) AllReadyH.nil)
    go_simp
    go_at_call 117
    refine (HTB.out _).mono ?_
    rintro e v0 ⟨rfl, hb0⟩
    have hS0 : Sb w B k v0 := hS.below hb0
    replace hE := hE.below hb0 hE.lt
    clear hS
    refine hK.out _ _ hS0 (fun hS => ?_)
    clear hK K
    try simp only [A1, A2, A3, Act.put, A4, A5, A6]
    refine wpAnyH_take (i := 2) (v := .agg #[.bool false, .func (.func F) #[] #[]]) rfl (by kernel_rfl) (by kernel_rfl) (by kernel_rfl) (fun _ _ _ h => h) (Or.inl ⟨by rfl, fun w' h => by go_simp; rw [HAT.out]; rfl⟩) hS ?_
    try simp only [A1, A2, A3, Act.put, A4, A5, A6]
    refine wpAnyH_ready (rs := [4]) (by kernel_rfl) (by simp) (AllReadyH.cons rfl (fun K hK => ?_) AllReadyH.nil)
    go_simp
    go_at_call 69
    refine (HRX.out _).mono ?_
    rintro e v1 ⟨rfl, hb1⟩
    have hS1 : Sb w B k v1 := hS.below hb1
    replace hE := hE.below hb1 hE.lt
    clear hS
    refine hK.out _ _ hS1 (fun hS => ?_)
    clear hK K
    try simp only [A1, A2, A3, Act.put, A4, A5, A6]
    refine wpAnyH_take (i := 5) rfl (by kernel_rfl) (by kernel_rfl) (by kernel_rfl) (fun _ _ _ h => h) (yS_field (f := limb a) (u := len a) (s := false) rfl (.tmp 42) rfl rfl) hS ?_
    try simp only [A1, A2, A3, Act.put, A4, A5, A6]
    refine wpAnyH_ready (rs := [6]) (by kernel_rfl) (by simp) (AllReadyH.cons rfl (fun K hK => ?_) AllReadyH.nil)
    go_simp
    go_at_call 72
    refine (HWX.out _).mono ?_
    rintro e v2 ⟨rfl, hb2⟩
    have hS2 : Sb w B k v2 := hS.below hb2
    replace hE := hE.below hb2 hE.lt
    clear hS
    refine hK.out _ _ hS2 (fun hS => ?_)
    clear hK K
    try simp only [A1, A2, A3, Act.put, A4, A5, A6]
    refine wpAnyH_ready (rs := [8]) (by kernel_rfl) (by simp) (AllReadyH.cons rfl (fun K hK => ?_) AllReadyH.nil)
    go_simp
    go_at_call 69
    refine (HRY.out _).mono ?_
    rintro e v3 ⟨rfl, hb3⟩
    have hS3 : Sb w B k v3 := hS.below hb3
    replace hE := hE.below hb3 hE.lt
    clear hS
    refine hK.out _ _ hS3 (fun hS => ?_)
    clear hK K
    try simp only [A1, A2, A3, Act.put, A4, A5, A6]
    refine wpAnyH_take (i := 9) rfl (by kernel_rfl) (by kernel_rfl) (by kernel_rfl) (fun _ _ _ h => h) (yS_field (f := limb b) (u := len b) (s := false) rfl (.tmp 46) rfl rfl) hS ?_
    try simp only [A1, A2, A3, Act.put, A4, A5, A6]
    refine wpAnyH_ready (rs := [10]) (by kernel_rfl) (by simp) (AllReadyH.cons rfl (fun K hK => ?_) AllReadyH.nil)
    go_simp
    go_at_call 72
    refine (HWY.out _).mono ?_
    rintro e v4 ⟨rfl, hb4⟩
    have hS4 : Sb w B k v4 := hS.below hb4
    replace hE := hE.below hb4 hE.lt
    clear hS
    refine hK.out _ _ hS4 (fun hS => ?_)
    clear hK K
    try simp only [A1, A2, A3, Act.put, A4, A5, A6]
    refine wpAnyH_ready (rs := [12]) (by kernel_rfl) (by simp) (AllReadyH.cons rfl (fun K hK => ?_) AllReadyH.nil)
    rw [if_pos (by rfl)]
    refine wpB_store1 (cs := #[.bool false, .func (.func F) #[] #[]]) (.tmp 12) (.tmp 40) rfl E rfl rfl rfl hE (by kernel_rfl) ?_
    have hE1 := hE.row (#[.bool false, .func (.func F) #[] #[]] : Array Value)
    have hS6 := hS.row hBE (#[.bool false, .func (.func F) #[] #[]] : Array Value)
    clear hS
    refine hK.out _ _ hS6 (fun hS => ?_)
    clear hK K
    refine wpAnyH_take (i := 13) (v := .int .u64 a) rfl (by kernel_rfl) (by kernel_rfl) (by kernel_rfl) (fun _ _ _ h => h) (Or.inl ⟨by rfl, fun w' _ => by rfl⟩) hS ?_
    try simp only [A1, A2, A3, Act.put, A4, A5, A6]
    refine wpAnyH_take (i := 14) (v := .int .u64 b) rfl (by kernel_rfl) (by kernel_rfl) (by kernel_rfl) (fun _ _ _ h => h) (Or.inl ⟨by rfl, fun w' _ => by rfl⟩) hS ?_
    try simp only [A1, A2, A3, Act.put, A4, A5, A6]
    refine wpAnyH_done (by kernel_rfl) ?_ _
    have HE0 : (World.setRow v4 E #[.bool false, .func (.func F) #[] #[]]).cell? ⟨E, 0, none⟩ = some (.bool false) := hE1.at 0
    have HS6 := Lib.hid (And.intro hS6 hE1)
    obtain ⟨WZ, hWZ⟩ : ∃ WZ, (World.setRow v4 E #[.bool false, .func (.func F) #[] #[]]) = WZ := ⟨_, rfl⟩
    rw [hWZ] at HE0 HS6 ⊢
    clear hE hE1 hS hS6 hWZ
    go_wp2
    clear HE0
    have hT0 : Sb w B k WZ.drew ∧ BlockIs WZ.drew E 132 #[.bool false, .func (.func F) #[] #[]] := ⟨HS6.out.1.drew, HS6.out.2.drew⟩
    refine wp_region_held_drew (S := fun w' => Sb w B k w' ∧ BlockIs w' E 132 #[.bool false, .func (.func F) #[] #[]]) (by kernel_rfl) hT0 (fun hS => ?_)
    refine wpAnyH_take (i := 0) (v := .pointer (some ⟨E, 1, none⟩)) rfl (by kernel_rfl) (by kernel_rfl) (by kernel_rfl) (fun _ _ _ h => h) (Or.inl ⟨by rfl, fun w' h => by go_simp⟩) hS ?_
    try simp only [A1, A2, A3, Act.put, A4, A5, A6]
    refine wpAnyH_take (i := 1) (v := .func (.func F) #[] #[]) rfl (by kernel_rfl) (by kernel_rfl) (by kernel_rfl) (fun _ _ _ h => h) (Or.inl ⟨by rfl, fun w' h => by have c : w'.cell? ⟨E, 1, none⟩ = some (.func (.func F) #[] #[]) := h.2.at 1; go_simp⟩) hS ?_
    try simp only [A1, A2, A3, Act.put, A4, A5, A6]
    refine wpAnyH_take (i := 2) (v := .int .u64 a) rfl (by kernel_rfl) (by kernel_rfl) (by kernel_rfl) (fun _ _ _ h => h) (Or.inl ⟨by rfl, fun w' _ => by rfl⟩) hS ?_
    try simp only [A1, A2, A3, Act.put, A4, A5, A6]
    refine wpAnyH_take (i := 3) (v := .int .u64 b) rfl (by kernel_rfl) (by kernel_rfl) (by kernel_rfl) (fun _ _ _ h => h) (Or.inl ⟨by rfl, fun w' _ => by rfl⟩) hS ?_
    try simp only [A1, A2, A3, Act.put, A4, A5, A6]
    refine wpAnyH_take (i := 5) (v := .int .i64 k) rfl (by kernel_rfl) (by kernel_rfl) (by kernel_rfl) (fun _ _ _ h => h) (Or.inl ⟨by rfl, fun w' h => by have c : w'.cell? ⟨B, 0, none⟩ = some (.int .i64 k) := h.1.b.at 0; go_simp⟩) hS ?_
    try simp only [A1, A2, A3, Act.put, A4, A5, A6]
    refine wpAnyH_ready (rs := [4]) (by kernel_rfl) (by simp) (AllReadyH.cons rfl (fun K hK => ?_) AllReadyH.nil)
    refine wp_callT F 56 #[.tmp 57, .tmp 58] #[57, 57] rfl #[.int .u64 a, .int .u64 b] HFN.out (by kernel_rfl) (by kernel_rfl) (HOP.out _) ?_
    rintro u1 rfl
    have hT1 := hS
    clear hS
    refine hK.out _ _ hT1 (fun hS => ?_)
    clear hK K
    try simp only [A1, A2, A3, Act.put, A4, A5, A6]
    refine wpAnyH_ready (rs := [6]) (by kernel_rfl) (by simp) (AllReadyH.cons rfl (fun K hK => ?_) AllReadyH.nil)
    go_simp
    go_at_call 113
    refine (HM.out _).mono ?_
    rintro e u2 ⟨rfl, rfl⟩
    have hT2 := hS
    clear hS
    refine hK.out _ _ hT2 (fun hS => ?_)
    clear hK K
    try simp only [A1, A2, A3, Act.put, A4, A5, A6]
    refine wpAnyH_take (i := 7) (v := .int .u64 v) rfl (by kernel_rfl) (by kernel_rfl) (by kernel_rfl) (fun _ _ _ h => h) (Or.inl ⟨by rfl, fun w' h => by go_simp <;> simp only [hand]⟩) hS ?_
    try simp only [A1, A2, A3, Act.put, A4, A5, A6]
    refine wpAnyH_ready (rs := [8]) (by kernel_rfl) (by simp) (AllReadyH.cons rfl (fun K hK => ?_) AllReadyH.nil)
    go_simp
    go_at_call 59
    refine (HFU.out _ hS.1.bl).mono ?_
    rintro e u3 ⟨rfl, hbF⟩
    have hT3 := And.intro (hS.1.below hbF) (hS.2.below hbF hS.2.lt)
    clear hS
    refine hK.out _ _ hT3 (fun hS => ?_)
    clear hK K
    try simp only [A1, A2, A3, Act.put, A4, A5, A6]
    refine wpAnyH_take (i := 9) (v := .string (bs (Lib.decDigits v))) rfl (by kernel_rfl) (by kernel_rfl) (by kernel_rfl) (fun _ _ _ h => h) (Or.inl ⟨by rfl, fun w' _ => by rfl⟩) hS ?_
    try simp only [A1, A2, A3, Act.put, A4, A5, A6]
    refine wpAnyH_take (i := 10) (v := .int .i64 0) rfl (by kernel_rfl) (by kernel_rfl) (by kernel_rfl) (fun _ _ _ h => h) (Or.inl ⟨by rfl, fun w' _ => by rfl⟩) hS ?_
    try simp only [A1, A2, A3, Act.put, A4, A5, A6]
    refine wpAnyH_done (by kernel_rfl) ?_ _
    go_wp2
    go_ret2
    exact ⟨rfl, hB ▸ hT3.1.bl⟩
end Go.Proofs.YtjemolaobhlapaaGreatDoor
