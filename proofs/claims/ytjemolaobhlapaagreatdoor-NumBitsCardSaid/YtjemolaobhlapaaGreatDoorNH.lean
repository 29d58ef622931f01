/- Bits: division by zero. -/
import Derived.Test.YtjemolaobhlapaaGreatDoorNG
import Derived.Test.YtjemolaobhlapaaGreatDoorNGF
import Derived.Test.YtjemolaobhlapaaGreatDoorNGT
set_option linter.unusedSimpArgs false
set_option linter.unusedVariables false
namespace Go.Proofs.YtjemolaobhlapaaGreatDoor
open Go.RowKit
set_option maxRecDepth 100000

set_option maxHeartbeats 8000000 in
theorem Bits_zero (i : Int) (F : Nat) (i0 : 0 ≤ i) (i1 : i < 10) (hat : ∀ w : World, (Instr.index 133 (.agg opsV) (.int .i64 i)).run Tryz.prog w = .ok (.agg #[.bool true, .func (.func F) #[] #[]]) w) (a b k : Nat) (ha : a < 18446744073709551616) (hb : b < 18446744073709551616) (h0 : b ≤ 0) (hk1 : 1 ≤ k) (hk : k ≤ 64) (hak : a ≤ ones k) (hbk : b ≤ ones k) (w : World) :
    Calls Tryz.prog 57 #[.int .i64 i, .int .i64 k, .string (bs (numeral false a)), .string (bs (numeral false b))] w fun e w' => e = .returned (.tuple #[.string ⟨#[]⟩, .int .i64 30]) ∧ Below w.heap.size w w' := by
  have HAT := Lib.hid hat
  have hi1 : decide (i < 0) = false := by simp; omega
  have hi2 : decide (10 ≤ i) = false := by simp; omega
  clear hat
  obtain ⟨B, hB⟩ : ∃ B, w.heap.size = B := ⟨_, rfl⟩
  obtain ⟨W, hW⟩ : ∃ W, (w.alloc (.cells #[.int .i64 k] 3)).alloc (.cells #[.string (bs (numeral false a)), .string (bs (numeral false b))] 9) = W := ⟨_, rfl⟩
  have hP := bitsStart hB hW
  have HCK := Lib.hid (checkVectors a b k ha hb hk hak hbk (hP.1.b.at 0) hP.2)
  have HBL := Lib.hid hP.1
  have cP : W.cell? ⟨B, 0, none⟩ = some (.int .i64 k) := hP.1.b.at 0
  have HRX := Lib.hid (fun W => readNum (num_word ha) W)
  have HRY := Lib.hid (fun W => readNum (num_word hb) W)
  have HWX := Lib.hid (fun W => word_any a (num_word ha).lt30 W)
  have HWY := Lib.hid (fun W => word_any b (num_word hb).lt30 W)
  rw [Nat.mod_eq_of_lt ha] at HWX
  rw [Nat.mod_eq_of_lt hb] at HWY
  have HTB := Lib.hid (fun W => bitOperations_any W)
  obtain ⟨x, hx2⟩ : ∃ x, bs (numeral false a) = x := ⟨_, rfl⟩
  obtain ⟨y, hy2⟩ : ∃ y, bs (numeral false b) = y := ⟨_, rfl⟩
  rw [hx2] at HRX hW ⊢
  rw [hy2] at HRY hW ⊢
  clear hx2 hy2 hak hbk hP ha hb
  go_enter Tryz.func57, Tryz.ntmps57
  go_wp2_with (go_at_call 79; refine HCK.out.mono ?_; rintro e w1 ⟨rfl, hb1⟩; have HB1 := Lib.hid (HBL.out.below hb1))
  clear hW
  try clear cP
  have hS0 : Sb w B k w1.drew := HB1.out.drew
  refine wp_region_held_drew (S := fun w' => Sb w B k w') (by kernel_rfl) hS0 (fun hS => ?_)
  obtain ⟨wd, hwd⟩ : ∃ wd, w1.drew = wd := ⟨_, rfl⟩
  rw [hwd] at hS hS0 ⊢
  clear hwd
  refine wpAnyH_take (i := 1) (v := .int .i64 i) rfl (by kernel_rfl) (by kernel_rfl) (by kernel_rfl) (fun _ _ _ h => h) (Or.inl ⟨by rfl, fun w' _ => by rfl⟩) hS ?_
  try simp only [A1, A2, A3, Act.put, A4, A5, A6]
  refine wpAnyH_take (i := 3) (v := .string x) rfl (by kernel_rfl) (by kernel_rfl) (by kernel_rfl) (fun _ _ _ h => h) (Or.inl ⟨by rfl, fun w' _ => by rfl⟩) hS ?_
  try simp only [A1, A2, A3, Act.put, A4, A5, A6]
  refine wpAnyH_take (i := 7) (v := .string y) rfl (by kernel_rfl) (by kernel_rfl) (by kernel_rfl) (fun _ _ _ h => h) (Or.inl ⟨by rfl, fun w' _ => by rfl⟩) hS ?_
  try simp only [A1, A2, A3, Act.put, A4, A5, A6]
  refine wpAnyH_ready (rs := [0, 11]) (by kernel_rfl) (by simp) (AllReadyH.cons rfl (fun K hK => ?_) (AllReadyH.cons rfl (fun K hK => ?_) AllReadyH.nil))
  · go_simp
    go_at_call 117
    refine (HTB.out _).mono ?_
    rintro e v0 ⟨rfl, hb0⟩
    have hS0 : Sb w B k v0 := hS.below hb0
    clear hS
    refine hK.out _ _ hS0 (fun hS => ?_)
    clear hK K
    try simp only [A1, A2, A3, Act.put, A4, A5, A6]
    refine wpAnyH_take (i := 2) (v := .agg #[.bool true, .func (.func F) #[] #[]]) rfl (by kernel_rfl) (by kernel_rfl) (by kernel_rfl) (fun _ _ _ h => h) (Or.inl ⟨by rfl, fun w' h => by go_simp; rw [HAT.out]; rfl⟩) hS ?_
    try simp only [A1, A2, A3, Act.put, A4, A5, A6]
    refine wpAnyH_ready (rs := [4, 11]) (by kernel_rfl) (by simp) (AllReadyH.cons rfl (fun K hK => ?_) (AllReadyH.cons rfl (fun K hK => ?_) AllReadyH.nil))
    · go_simp
      go_at_call 69
      refine (HRX.out _).mono ?_
      rintro e v1 ⟨rfl, hb1⟩
      have hS1 : Sb w B k v1 := hS.below hb1
      clear hS
      refine hK.out _ _ hS1 (fun hS => ?_)
      clear hK K
      try simp only [A1, A2, A3, Act.put, A4, A5, A6]
      refine wpAnyH_take (i := 5) rfl (by kernel_rfl) (by kernel_rfl) (by kernel_rfl) (fun _ _ _ h => h) (yS_field (f := limb a) (u := len a) (s := false) rfl (.tmp 42) rfl rfl) hS ?_
      try simp only [A1, A2, A3, Act.put, A4, A5, A6]
      refine wpAnyH_ready (rs := [6, 11]) (by kernel_rfl) (by simp) (AllReadyH.cons rfl (fun K hK => ?_) (AllReadyH.cons rfl (fun K hK => ?_) AllReadyH.nil))
      · go_simp
        go_at_call 72
        refine (HWX.out _).mono ?_
        rintro e v2 ⟨rfl, hb2⟩
        have hS2 : Sb w B k v2 := hS.below hb2
        clear hS
        refine hK.out _ _ hS2 (fun hS => ?_)
        clear hK K
        try simp only [A1, A2, A3, Act.put, A4, A5, A6]
        refine wpAnyH_ready (rs := [8, 11]) (by kernel_rfl) (by simp) (AllReadyH.cons rfl (fun K hK => ?_) (AllReadyH.cons rfl (fun K hK => ?_) AllReadyH.nil))
        · go_simp
          go_at_call 69
          refine (HRY.out _).mono ?_
          rintro e v3 ⟨rfl, hb3⟩
          have hS3 : Sb w B k v3 := hS.below hb3
          clear hS
          refine hK.out _ _ hS3 (fun hS => ?_)
          clear hK K
          try simp only [A1, A2, A3, Act.put, A4, A5, A6]
          refine wpAnyH_take (i := 9) rfl (by kernel_rfl) (by kernel_rfl) (by kernel_rfl) (fun _ _ _ h => h) (yS_field (f := limb b) (u := len b) (s := false) rfl (.tmp 46) rfl rfl) hS ?_
          try simp only [A1, A2, A3, Act.put, A4, A5, A6]
          refine wpAnyH_ready (rs := [10, 11]) (by kernel_rfl) (by simp) (AllReadyH.cons rfl (fun K hK => ?_) (AllReadyH.cons rfl (fun K hK => ?_) AllReadyH.nil))
          · go_simp
            go_at_call 72
            refine (HWY.out _).mono ?_
            rintro e v4 ⟨rfl, hb4⟩
            have hS4 : Sb w B k v4 := hS.below hb4
            clear hS
            refine hK.out _ _ hS4 (fun hS => ?_)
            clear hK K
            try simp only [A1, A2, A3, Act.put, A4, A5, A6]
            refine wpAnyH_ready (rs := [11]) (by kernel_rfl) (by simp) (AllReadyH.cons rfl (fun K hK => ?_) AllReadyH.nil)
            go_simp
            obtain ⟨E, hE0⟩ : ∃ E, v4.heap.size = E := ⟨_, rfl⟩
            have hE := BlockIs.new v4 132 zeroO
            have hSA : Sb w B k (v4.alloc (.cells zeroO 132)) := hS.alloc _
            obtain ⟨VA, hVA⟩ : ∃ VA, v4.alloc (.cells zeroO 132) = VA := ⟨_, rfl⟩
            have hBE : B < E := by rw [← hE0]; exact hS.b.lt
            rw [hVA] at hE hSA ⊢
            rw [hE0] at hE
            try rw [hE0]
            clear hE0 hVA
            clear hS
            refine hK.out _ _ hSA (fun hS => ?_)
            clear hK K
            try simp only [A1, A2, A3, Act.put, A4, A5, A6]
            refine wpAnyH_ready (rs := [12]) (by kernel_rfl) (by simp) (AllReadyH.cons rfl (fun K hK => ?_) AllReadyH.nil)
            rw [if_pos (by rfl)]
            refine wpB_store1 (cs := #[.bool true, .func (.func F) #[] #[]]) (.tmp 12) (.tmp 40) rfl E rfl rfl rfl hE (by kernel_rfl) ?_
            have hE1 := hE.row (#[.bool true, .func (.func F) #[] #[]] : Array Value)
            have hS6 := hS.row hBE (#[.bool true, .func (.func F) #[] #[]] : Array Value)
            clear hS
            refine hK.out _ _ hS6 (fun hS => ?_)
            clear hK K
            refine wpAnyH_take (i := 13) (v := .int .u64 a) rfl (by kernel_rfl) (by kernel_rfl) (by kernel_rfl) (fun _ _ _ h => h) (Or.inl ⟨by rfl, fun w' _ => by rfl⟩) hS ?_
            try simp only [A1, A2, A3, Act.put, A4, A5, A6]
            refine wpAnyH_take (i := 14) (v := .int .u64 b) rfl (by kernel_rfl) (by kernel_rfl) (by kernel_rfl) (fun _ _ _ h => h) (Or.inl ⟨by rfl, fun w' _ => by rfl⟩) hS ?_
            try simp only [A1, A2, A3, Act.put, A4, A5, A6]
            refine wpAnyH_done (by kernel_rfl) ?_ _
            have HE0 : (World.setRow VA E #[.bool true, .func (.func F) #[] #[]]).cell? ⟨E, 0, none⟩ = some (.bool true) := hE1.at 0
            have HS6 := Lib.hid (And.intro hS6 hE1)
            obtain ⟨WZ, hWZ⟩ : ∃ WZ, (World.setRow VA E #[.bool true, .func (.func F) #[] #[]]) = WZ := ⟨_, rfl⟩
            rw [hWZ] at HE0 HS6 ⊢
            clear hE hE1 hS hS6 hWZ
            go_wp2
            go_ret2
            exact ⟨rfl, hB ▸ HS6.out.1.bl⟩
          · go_simp
            obtain ⟨E, hE0⟩ : ∃ E, v3.heap.size = E := ⟨_, rfl⟩
            have hE := BlockIs.new v3 132 zeroO
            have hSA : Sb w B k (v3.alloc (.cells zeroO 132)) := hS.alloc _
            obtain ⟨VA, hVA⟩ : ∃ VA, v3.alloc (.cells zeroO 132) = VA := ⟨_, rfl⟩
            have hBE : B < E := by rw [← hE0]; exact hS.b.lt
            rw [hVA] at hE hSA ⊢
            rw [hE0] at hE
            try rw [hE0]
            clear hE0 hVA
            clear hS
            refine hK.out _ _ hSA (fun hS => ?_)
            clear hK K
            try simp only [A1, A2, A3, Act.put, A4, A5, A6]
            refine wpAnyH_ready (rs := [10]) (by kernel_rfl) (by simp) (AllReadyH.cons rfl (fun K hK => ?_) AllReadyH.nil)
            go_simp
            go_at_call 72
            refine (HWY.out _).mono ?_
            rintro e v4 ⟨rfl, hb4⟩
            have hS4 : Sb w B k v4 := hS.below hb4
            replace hE := hE.below hb4 hE.lt
            clear hS
            refine hK.out _ _ hS4 (fun hS => ?_)
            clear hK K
            try simp only [A1, A2, A3, Act.put, A4, A5, A6]
            refine wpAnyH_ready (rs := [12]) (by kernel_rfl) (by simp) (AllReadyH.cons rfl (fun K hK => ?_) AllReadyH.nil)
            rw [if_pos (by rfl)]
            refine wpB_store1 (cs := #[.bool true, .func (.func F) #[] #[]]) (.tmp 12) (.tmp 40) rfl E rfl rfl rfl hE (by kernel_rfl) ?_
            have hE1 := hE.row (#[.bool true, .func (.func F) #[] #[]] : Array Value)
            have hS6 := hS.row hBE (#[.bool true, .func (.func F) #[] #[]] : Array Value)
            clear hS
            refine hK.out _ _ hS6 (fun hS => ?_)
            clear hK K
            refine wpAnyH_take (i := 13) (v := .int .u64 a) rfl (by kernel_rfl) (by kernel_rfl) (by kernel_rfl) (fun _ _ _ h => h) (Or.inl ⟨by rfl, fun w' _ => by rfl⟩) hS ?_
            try simp only [A1, A2, A3, Act.put, A4, A5, A6]
            refine wpAnyH_take (i := 14) (v := .int .u64 b) rfl (by kernel_rfl) (by kernel_rfl) (by kernel_rfl) (fun _ _ _ h => h) (Or.inl ⟨by rfl, fun w' _ => by rfl⟩) hS ?_
            try simp only [A1, A2, A3, Act.put, A4, A5, A6]
            refine wpAnyH_done (by kernel_rfl) ?_ _
            have HE0 : (World.setRow v4 E #[.bool true, .func (.func F) #[] #[]]).cell? ⟨E, 0, none⟩ = some (.bool true) := hE1.at 0
            have HS6 := Lib.hid (And.intro hS6 hE1)
            obtain ⟨WZ, hWZ⟩ : ∃ WZ, (World.setRow v4 E #[.bool true, .func (.func F) #[] #[]]) = WZ := ⟨_, rfl⟩
            rw [hWZ] at HE0 HS6 ⊢
            clear hE hE1 hS hS6 hWZ
            go_wp2
            go_ret2
            exact ⟨rfl, hB ▸ HS6.out.1.bl⟩
        · go_simp
          obtain ⟨E, hE0⟩ : ∃ E, v2.heap.size = E := ⟨_, rfl⟩
          have hE := BlockIs.new v2 132 zeroO
          have hSA : Sb w B k (v2.alloc (.cells zeroO 132)) := hS.alloc _
          obtain ⟨VA, hVA⟩ : ∃ VA, v2.alloc (.cells zeroO 132) = VA := ⟨_, rfl⟩
          have hBE : B < E := by rw [← hE0]; exact hS.b.lt
          rw [hVA] at hE hSA ⊢
          rw [hE0] at hE
          try rw [hE0]
          clear hE0 hVA
          clear hS
          refine hK.out _ _ hSA (fun hS => ?_)
          clear hK K
          try simp only [A1, A2, A3, Act.put, A4, A5, A6]
          refine wpAnyH_ready (rs := [8]) (by kernel_rfl) (by simp) (AllReadyH.cons rfl (fun K hK => ?_) AllReadyH.nil)
          go_simp
          go_at_call 69
          refine (HRY.out _).mono ?_
          rintro e v3 ⟨rfl, hb3⟩
          have hS3 : Sb w B k v3 := hS.below hb3
          replace hE := hE.below hb3 hE.lt
          clear hS
          refine hK.out _ _ hS3 (fun hS => ?_)
          clear hK K
          try simp only [A1, A2, A3, Act.put, A4, A5, A6]
          refine wpAnyH_take (i := 9) rfl (by kernel_rfl) (by kernel_rfl) (by kernel_rfl) (fun _ _ _ h => h) (yS_field (f := limb b) (u := len b) (s := false) rfl (.tmp 46) rfl rfl) hS ?_
          try simp only [A1, A2, A3, Act.put, A4, A5, A6]
          refine wpAnyH_ready (rs := [10]) (by kernel_rfl) (by simp) (AllReadyH.cons rfl (fun K hK => ?_) AllReadyH.nil)
          go_simp
          go_at_call 72
          refine (HWY.out _).mono ?_
          rintro e v4 ⟨rfl, hb4⟩
          have hS4 : Sb w B k v4 := hS.below hb4
          replace hE := hE.below hb4 hE.lt
          clear hS
          refine hK.out _ _ hS4 (fun hS => ?_)
          clear hK K
          try simp only [A1, A2, A3, Act.put, A4, A5, A6]
          refine wpAnyH_ready (rs := [12]) (by kernel_rfl) (by simp) (AllReadyH.cons rfl (fun K hK => ?_) AllReadyH.nil)
          rw [if_pos (by rfl)]
          refine wpB_store1 (cs := #[.bool true, .func (.func F) #[] #[]]) (.tmp 12) (.tmp 40) rfl E rfl rfl rfl hE (by kernel_rfl) ?_
          have hE1 := hE.row (#[.bool true, .func (.func F) #[] #[]] : Array Value)
          have hS6 := hS.row hBE (#[.bool true, .func (.func F) #[] #[]] : Array Value)
          clear hS
          refine hK.out _ _ hS6 (fun hS => ?_)
          clear hK K
          refine wpAnyH_take (i := 13) (v := .int .u64 a) rfl (by kernel_rfl) (by kernel_rfl) (by kernel_rfl) (fun _ _ _ h => h) (Or.inl ⟨by rfl, fun w' _ => by rfl⟩) hS ?_
          try simp only [A1, A2, A3, Act.put, A4, A5, A6]
          refine wpAnyH_take (i := 14) (v := .int .u64 b) rfl (by kernel_rfl) (by kernel_rfl) (by kernel_rfl) (fun _ _ _ h => h) (Or.inl ⟨by rfl, fun w' _ => by rfl⟩) hS ?_
          try simp only [A1, A2, A3, Act.put, A4, A5, A6]
          refine wpAnyH_done (by kernel_rfl) ?_ _
          have HE0 : (World.setRow v4 E #[.bool true, .func (.func F) #[] #[]]).cell? ⟨E, 0, none⟩ = some (.bool true) := hE1.at 0
          have HS6 := Lib.hid (And.intro hS6 hE1)
          obtain ⟨WZ, hWZ⟩ : ∃ WZ, (World.setRow v4 E #[.bool true, .func (.func F) #[] #[]]) = WZ := ⟨_, rfl⟩
          rw [hWZ] at HE0 HS6 ⊢
          clear hE hE1 hS hS6 hWZ
          go_wp2
          go_ret2
          exact ⟨rfl, hB ▸ HS6.out.1.bl⟩
      · go_simp
        obtain ⟨E, hE0⟩ : ∃ E, v1.heap.size = E := ⟨_, rfl⟩
        have hE := BlockIs.new v1 132 zeroO
        have hSA : Sb w B k (v1.alloc (.cells zeroO 132)) := hS.alloc _
        obtain ⟨VA, hVA⟩ : ∃ VA, v1.alloc (.cells zeroO 132) = VA := ⟨_, rfl⟩
        have hBE : B < E := by rw [← hE0]; exact hS.b.lt
        rw [hVA] at hE hSA ⊢
        rw [hE0] at hE
        try rw [hE0]
        clear hE0 hVA
        clear hS
        refine hK.out _ _ hSA (fun hS => ?_)
        clear hK K
        try simp only [A1, A2, A3, Act.put, A4, A5, A6]
        refine wpAnyH_ready (rs := [6]) (by kernel_rfl) (by simp) (AllReadyH.cons rfl (fun K hK => ?_) AllReadyH.nil)
        go_simp
        go_at_call 72
        refine (HWX.out _).mono ?_
        rintro e v2 ⟨rfl, hb2⟩
        have hS2 : Sb w B k v2 := hS.below hb2
        replace hE := hE.below hb2 hE.lt
        clear hS
        refine hK.out _ _ hS2 (fun hS => ?_)
        clear hK K
        try simp only [A1, A2, A3, Act.put, A4, A5, A6]
        refine wpAnyH_ready (rs := [8]) (by kernel_rfl) (by simp) (AllReadyH.cons rfl (fun K hK => ?_) AllReadyH.nil)
        go_simp
        go_at_call 69
        refine (HRY.out _).mono ?_
        rintro e v3 ⟨rfl, hb3⟩
        have hS3 : Sb w B k v3 := hS.below hb3
        replace hE := hE.below hb3 hE.lt
        clear hS
        refine hK.out _ _ hS3 (fun hS => ?_)
        clear hK K
        try simp only [A1, A2, A3, Act.put, A4, A5, A6]
        refine wpAnyH_take (i := 9) rfl (by kernel_rfl) (by kernel_rfl) (by kernel_rfl) (fun _ _ _ h => h) (yS_field (f := limb b) (u := len b) (s := false) rfl (.tmp 46) rfl rfl) hS ?_
        try simp only [A1, A2, A3, Act.put, A4, A5, A6]
        refine wpAnyH_ready (rs := [10]) (by kernel_rfl) (by simp) (AllReadyH.cons rfl (fun K hK => ?_) AllReadyH.nil)
        go_simp
        go_at_call 72
        refine (HWY.out _).mono ?_
        rintro e v4 ⟨rfl, hb4⟩
        have hS4 : Sb w B k v4 := hS.below hb4
        replace hE := hE.below hb4 hE.lt
        clear hS
        refine hK.out _ _ hS4 (fun hS => ?_)
        clear hK K
        try simp only [A1, A2, A3, Act.put, A4, A5, A6]
        refine wpAnyH_ready (rs := [12]) (by kernel_rfl) (by simp) (AllReadyH.cons rfl (fun K hK => ?_) AllReadyH.nil)
        rw [if_pos (by rfl)]
        refine wpB_store1 (cs := #[.bool true, .func (.func F) #[] #[]]) (.tmp 12) (.tmp 40) rfl E rfl rfl rfl hE (by kernel_rfl) ?_
        have hE1 := hE.row (#[.bool true, .func (.func F) #[] #[]] : Array Value)
        have hS6 := hS.row hBE (#[.bool true, .func (.func F) #[] #[]] : Array Value)
        clear hS
        refine hK.out _ _ hS6 (fun hS => ?_)
        clear hK K
        refine wpAnyH_take (i := 13) (v := .int .u64 a) rfl (by kernel_rfl) (by kernel_rfl) (by kernel_rfl) (fun _ _ _ h => h) (Or.inl ⟨by rfl, fun w' _ => by rfl⟩) hS ?_
        try simp only [A1, A2, A3, Act.put, A4, A5, A6]
        refine wpAnyH_take (i := 14) (v := .int .u64 b) rfl (by kernel_rfl) (by kernel_rfl) (by kernel_rfl) (fun _ _ _ h => h) (Or.inl ⟨by rfl, fun w' _ => by rfl⟩) hS ?_
        try simp only [A1, A2, A3, Act.put, A4, A5, A6]
        refine wpAnyH_done (by kernel_rfl) ?_ _
        have HE0 : (World.setRow v4 E #[.bool true, .func (.func F) #[] #[]]).cell? ⟨E, 0, none⟩ = some (.bool true) := hE1.at 0
        have HS6 := Lib.hid (And.intro hS6 hE1)
        obtain ⟨WZ, hWZ⟩ : ∃ WZ, (World.setRow v4 E #[.bool true, .func (.func F) #[] #[]]) = WZ := ⟨_, rfl⟩
        rw [hWZ] at HE0 HS6 ⊢
        clear hE hE1 hS hS6 hWZ
        go_wp2
        go_ret2
        exact ⟨rfl, hB ▸ HS6.out.1.bl⟩
    · go_simp
      obtain ⟨E, hE0⟩ : ∃ E, v0.heap.size = E := ⟨_, rfl⟩
      have hE := BlockIs.new v0 132 zeroO
      have hSA : Sb w B k (v0.alloc (.cells zeroO 132)) := hS.alloc _
      obtain ⟨VA, hVA⟩ : ∃ VA, v0.alloc (.cells zeroO 132) = VA := ⟨_, rfl⟩
      have hBE : B < E := by rw [← hE0]; exact hS.b.lt
      rw [hVA] at hE hSA ⊢
      rw [hE0] at hE
      try rw [hE0]
      clear hE0 hVA
      clear hS
      refine hK.out _ _ hSA (fun hS => ?_)
      clear hK K
      try simp only [A1, A2, A3, Act.put, A4, A5, A6]
      refine wpAnyH_ready (rs := [4]) (by kernel_rfl) (by simp) (AllReadyH.cons rfl (fun K hK => ?_) AllReadyH.nil)
      go_simp
      go_at_call 69
      refine (HRX.out _).mono ?_
      rintro e v1 ⟨rfl, hb1⟩
      have hS1 : Sb w B k v1 := hS.below hb1
      replace hE := hE.below hb1 hE.lt
      clear hS
      refine hK.out _ _ hS1 (fun hS => ?_)
      clear hK K
      try simp only [A1, A2, A3, Act.put, A4, A5, A6]
      refine wpAnyH_take (i := 5) rfl (by kernel_rfl) (by kernel_rfl) (by kernel_rfl) (fun _ _ _ h => h) (yS_field (f := limb a) (u := len a) (s := false) rfl (.tmp 42) rfl rfl) hS ?_
      try simp only [A1, A2, A3, Act.put, A4, A5, A6]
      refine wpAnyH_ready (rs := [6]) (by kernel_rfl) (by simp) (AllReadyH.cons rfl (fun K hK => ?_) AllReadyH.nil)
      go_simp
      go_at_call 72
      refine (HWX.out _).mono ?_
      rintro e v2 ⟨rfl, hb2⟩
      have hS2 : Sb w B k v2 := hS.below hb2
      replace hE := hE.below hb2 hE.lt
      clear hS
      refine hK.out _ _ hS2 (fun hS => ?_)
      clear hK K
      try simp only [A1, A2, A3, Act.put, A4, A5, A6]
      refine wpAnyH_ready (rs := [8]) (by kernel_rfl) (by simp) (AllReadyH.cons rfl (fun K hK => ?_) AllReadyH.nil)
      go_simp
      go_at_call 69
      refine (HRY.out _).mono ?_
      rintro e v3 ⟨rfl, hb3⟩
      have hS3 : Sb w B k v3 := hS.below hb3
      replace hE := hE.below hb3 hE.lt
      clear hS
      refine hK.out _ _ hS3 (fun hS => ?_)
      clear hK K
      try simp only [A1, A2, A3, Act.put, A4, A5, A6]
      refine wpAnyH_take (i := 9) rfl (by kernel_rfl) (by kernel_rfl) (by kernel_rfl) (fun _ _ _ h => h) (yS_field (f := limb b) (u := len b) (s := false) rfl (.tmp 46) rfl rfl) hS ?_
      try simp only [A1, A2, A3, Act.put, A4, A5, A6]
      refine wpAnyH_ready (rs := [10]) (by kernel_rfl) (by simp) (AllReadyH.cons rfl (fun K hK => ?_) AllReadyH.nil)
      go_simp
      go_at_call 72
      refine (HWY.out _).mono ?_
      rintro e v4 ⟨rfl, hb4⟩
      have hS4 : Sb w B k v4 := hS.below hb4
      replace hE := hE.below hb4 hE.lt
      clear hS
      refine hK.out _ _ hS4 (fun hS => ?_)
      clear hK K
      try simp only [A1, A2, A3, Act.put, A4, A5, A6]
      refine wpAnyH_ready (rs := [12]) (by kernel_rfl) (by simp) (AllReadyH.cons rfl (fun K hK => ?_) AllReadyH.nil)
      rw [if_pos (by rfl)]
      refine wpB_store1 (cs := #[.bool true, .func (.func F) #[] #[]]) (.tmp 12) (.tmp 40) rfl E rfl rfl rfl hE (by kernel_rfl) ?_
      have hE1 := hE.row (#[.bool true, .func (.func F) #[] #[]] : Array Value)
      have hS6 := hS.row hBE (#[.bool true, .func (.func F) #[] #[]] : Array Value)
      clear hS
      refine hK.out _ _ hS6 (fun hS => ?_)
      clear hK K
      refine wpAnyH_take (i := 13) (v := .int .u64 a) rfl (by kernel_rfl) (by kernel_rfl) (by kernel_rfl) (fun _ _ _ h => h) (Or.inl ⟨by rfl, fun w' _ => by rfl⟩) hS ?_
      try simp only [A1, A2, A3, Act.put, A4, A5, A6]
      refine wpAnyH_take (i := 14) (v := .int .u64 b) rfl (by kernel_rfl) (by kernel_rfl) (by kernel_rfl) (fun _ _ _ h => h) (Or.inl ⟨by rfl, fun w' _ => by rfl⟩) hS ?_
      try simp only [A1, A2, A3, Act.put, A4, A5, A6]
      refine wpAnyH_done (by kernel_rfl) ?_ _
      have HE0 : (World.setRow v4 E #[.bool true, .func (.func F) #[] #[]]).cell? ⟨E, 0, none⟩ = some (.bool true) := hE1.at 0
      have HS6 := Lib.hid (And.intro hS6 hE1)
      obtain ⟨WZ, hWZ⟩ : ∃ WZ, (World.setRow v4 E #[.bool true, .func (.func F) #[] #[]]) = WZ := ⟨_, rfl⟩
      rw [hWZ] at HE0 HS6 ⊢
      clear hE hE1 hS hS6 hWZ
      go_wp2
      go_ret2
      exact ⟨rfl, hB ▸ HS6.out.1.bl⟩
  · go_simp
    obtain ⟨E, hE0⟩ : ∃ E, wd.heap.size = E := ⟨_, rfl⟩
    have hE := BlockIs.new wd 132 zeroO
    have hSA : Sb w B k (wd.alloc (.cells zeroO 132)) := hS.alloc _
    obtain ⟨VA, hVA⟩ : ∃ VA, wd.alloc (.cells zeroO 132) = VA := ⟨_, rfl⟩
    have hBE : B < E := by rw [← hE0]; exact hS.b.lt
    rw [hVA] at hE hSA ⊢
    rw [hE0] at hE
    try rw [hE0]
    clear hE0 hVA
    clear hS
    refine hK.out _ _ hSA (fun hS => ?_)
    clear hK K
    try simp only [A1, A2, A3, Act.put, A4, A5, A6]
    refine wpAnyH_ready (rs := [0]) (by kernel_rfl) (by simp) (AllReadyH.cons rfl (fun K hK => ?_) AllReadyH.nil)
    go_simp
    go_at_call 117
    refine (HTB.out _).mono ?_
    rintro e v0 ⟨rfl, hb0⟩
    have hS0 : Sb w B k v0 := hS.below hb0
    replace hE := hE.below hb0 hE.lt
    clear hS
    refine hK.out _ _ hS0 (fun hS => ?_)
    clear hK K
    try simp only [A1, A2, A3, Act.put, A4, A5, A6]
    refine wpAnyH_take (i := 2) (v := .agg #[.bool true, .func (.func F) #[] #[]]) rfl (by kernel_rfl) (by kernel_rfl) (by kernel_rfl) (fun _ _ _ h => h) (Or.inl ⟨by rfl, fun w' h => by go_simp; rw [HAT.out]; rfl⟩) hS ?_
    try simp only [A1, A2, A3, Act.put, A4, A5, A6]
    refine wpAnyH_ready (rs := [4]) (by kernel_rfl) (by simp) (AllReadyH.cons rfl (fun K hK => ?_) AllReadyH.nil)
    go_simp
    go_at_call 69
    refine (HRX.out _).mono ?_
    rintro e v1 ⟨rfl, hb1⟩
    have hS1 : Sb w B k v1 := hS.below hb1
    replace hE := hE.below hb1 hE.lt
    clear hS
    refine hK.out _ _ hS1 (fun hS => ?_)
    clear hK K
    try simp only [A1, A2, A3, Act.put, A4, A5, A6]
    refine wpAnyH_take (i := 5) rfl (by kernel_rfl) (by kernel_rfl) (by kernel_rfl) (fun _ _ _ h => h) (yS_field (f := limb a) (u := len a) (s := false) rfl (.tmp 42) rfl rfl) hS ?_
    try simp only [A1, A2, A3, Act.put, A4, A5, A6]
    refine wpAnyH_ready (rs := [6]) (by kernel_rfl) (by simp) (AllReadyH.cons rfl (fun K hK => ?_) AllReadyH.nil)
    go_simp
    go_at_call 72
    refine (HWX.out _).mono ?_
    rintro e v2 ⟨rfl, hb2⟩
    have hS2 : Sb w B k v2 := hS.below hb2
    replace hE := hE.below hb2 hE.lt
    clear hS
    refine hK.out _ _ hS2 (fun hS => ?_)
    clear hK K
    try simp only [A1, A2, A3, Act.put, A4, A5, A6]
    refine wpAnyH_ready (rs := [8]) (by kernel_rfl) (by simp) (AllReadyH.cons rfl (fun K hK => ?_) AllReadyH.nil)
    go_simp
    go_at_call 69
    refine (HRY.out _).mono ?_
    rintro e v3 ⟨rfl, hb3⟩
    have hS3 : Sb w B k v3 := hS.below hb3
    replace hE := hE.below hb3 hE.lt
    clear hS
    refine hK.out _ _ hS3 (fun hS => ?_)
    clear hK K
    try simp only [A1, A2, A3, Act.put, A4, A5, A6]
    refine wpAnyH_take (i := 9) rfl (by kernel_rfl) (by kernel_rfl) (by kernel_rfl) (fun _ _ _ h => h) (yS_field (f := limb b) (u := len b) (s := false) rfl (.tmp 46) rfl rfl) hS ?_
    try simp only [A1, A2, A3, Act.put, A4, A5, A6]
    refine wpAnyH_ready (rs := [10]) (by kernel_rfl) (by simp) (AllReadyH.cons rfl (fun K hK => ?_) AllReadyH.nil)
    go_simp
    go_at_call 72
    refine (HWY.out _).mono ?_
    rintro e v4 ⟨rfl, hb4⟩
    have hS4 : Sb w B k v4 := hS.below hb4
    replace hE := hE.below hb4 hE.lt
    clear hS
    refine hK.out _ _ hS4 (fun hS => ?_)
    clear hK K
    try simp only [A1, A2, A3, Act.put, A4, A5, A6]
    refine wpAnyH_ready (rs := [12]) (by kernel_rfl) (by simp) (AllReadyH.cons rfl (fun K hK => ?_) AllReadyH.nil)
    rw [if_pos (by rfl)]
    refine wpB_store1 (cs := #[.bool true, .func (.func F) #[] #[]]) (.tmp 12) (.tmp 40) rfl E rfl rfl rfl hE (by kernel_rfl) ?_
    have hE1 := hE.row (#[.bool true, .func (.func F) #[] #[]] : Array Value)
    have hS6 := hS.row hBE (#[.bool true, .func (.func F) #[] #[]] : Array Value)
    clear hS
    refine hK.out _ _ hS6 (fun hS => ?_)
    clear hK K
    refine wpAnyH_take (i := 13) (v := .int .u64 a) rfl (by kernel_rfl) (by kernel_rfl) (by kernel_rfl) (fun _ _ _ h => h) (Or.inl ⟨by rfl, fun w' _ => by rfl⟩) hS ?_
    try simp only [A1, A2, A3, Act.put, A4, A5, A6]
    refine wpAnyH_take (i := 14) (v := .int .u64 b) rfl (by kernel_rfl) (by kernel_rfl) (by kernel_rfl) (fun _ _ _ h => h) (Or.inl ⟨by rfl, fun w' _ => by rfl⟩) hS ?_
    try simp only [A1, A2, A3, Act.put, A4, A5, A6]
    refine wpAnyH_done (by kernel_rfl) ?_ _
    have HE0 : (World.setRow v4 E #[.bool true, .func (.func F) #[] #[]]).cell? ⟨E, 0, none⟩ = some (.bool true) := hE1.at 0
    have HS6 := Lib.hid (And.intro hS6 hE1)
    obtain ⟨WZ, hWZ⟩ : ∃ WZ, (World.setRow v4 E #[.bool true, .func (.func F) #[] #[]]) = WZ := ⟨_, rfl⟩
    rw [hWZ] at HE0 HS6 ⊢
    clear hE hE1 hS hS6 hWZ
    go_wp2
    go_ret2
    exact ⟨rfl, hB ▸ HS6.out.1.bl⟩
end Go.Proofs.YtjemolaobhlapaaGreatDoor

namespace Go.Proofs.YtjemolaobhlapaaGreatDoor
open Go.RowKit
set_option maxRecDepth 100000
theorem opsAt0 (w : World) : (Instr.index 133 (.agg opsV) (.int .i64 0)).run Tryz.prog w = .ok (.agg #[.bool false, .func (.func 159) #[] #[]]) w := by kernel_rfl
theorem Bits0_ok (a b k : Nat) (ha : a < 18446744073709551616) (hb : b < 18446744073709551616) (hk1 : 1 ≤ k) (hk : k ≤ 64) (hak : a ≤ ones k) (hbk : b ≤ ones k) (w : World) (ht : Tab w) (v : Nat) (hov : opW 0 a b < 18446744073709551616) (hv : opW 0 a b &&& ones k = v) :
    Calls Tryz.prog 57 #[.int .i64 0, .int .i64 k, .string (bs (numeral false a)), .string (bs (numeral false b))] w fun e w' => e = .returned (.tuple #[.string (bs (Lib.decDigits v)), .int .i64 0]) ∧ Below w.heap.size w w' :=
  Bits_plain 0 _ _ (by kernel_rfl) (by decide) (by decide) opsAt0 a b k (fun W => op0_any a b ha hb W) ha hb hk1 hk hak hbk w ht v hov hv
theorem opsAt1 (w : World) : (Instr.index 133 (.agg opsV) (.int .i64 1)).run Tryz.prog w = .ok (.agg #[.bool false, .func (.func 160) #[] #[]]) w := by kernel_rfl
theorem Bits1_ok (a b k : Nat) (ha : a < 18446744073709551616) (hb : b < 18446744073709551616) (hk1 : 1 ≤ k) (hk : k ≤ 64) (hak : a ≤ ones k) (hbk : b ≤ ones k) (w : World) (ht : Tab w) (v : Nat) (hov : opW 1 a b < 18446744073709551616) (hv : opW 1 a b &&& ones k = v) :
    Calls Tryz.prog 57 #[.int .i64 1, .int .i64 k, .string (bs (numeral false a)), .string (bs (numeral false b))] w fun e w' => e = .returned (.tuple #[.string (bs (Lib.decDigits v)), .int .i64 0]) ∧ Below w.heap.size w w' :=
  Bits_plain 1 _ _ (by kernel_rfl) (by decide) (by decide) opsAt1 a b k (fun W => op1_any a b ha hb W) ha hb hk1 hk hak hbk w ht v hov hv
theorem opsAt2 (w : World) : (Instr.index 133 (.agg opsV) (.int .i64 2)).run Tryz.prog w = .ok (.agg #[.bool false, .func (.func 161) #[] #[]]) w := by kernel_rfl
theorem Bits2_ok (a b k : Nat) (ha : a < 18446744073709551616) (hb : b < 18446744073709551616) (hk1 : 1 ≤ k) (hk : k ≤ 64) (hak : a ≤ ones k) (hbk : b ≤ ones k) (w : World) (ht : Tab w) (v : Nat) (hov : opW 2 a b < 18446744073709551616) (hv : opW 2 a b &&& ones k = v) :
    Calls Tryz.prog 57 #[.int .i64 2, .int .i64 k, .string (bs (numeral false a)), .string (bs (numeral false b))] w fun e w' => e = .returned (.tuple #[.string (bs (Lib.decDigits v)), .int .i64 0]) ∧ Below w.heap.size w w' :=
  Bits_plain 2 _ _ (by kernel_rfl) (by decide) (by decide) opsAt2 a b k (fun W => op2_any a b ha hb W) ha hb hk1 hk hak hbk w ht v hov hv
theorem opsAt3 (w : World) : (Instr.index 133 (.agg opsV) (.int .i64 3)).run Tryz.prog w = .ok (.agg #[.bool true, .func (.func 162) #[] #[]]) w := by kernel_rfl
theorem Bits3_ok (a b k : Nat) (ha : a < 18446744073709551616) (hb : b < 18446744073709551616) (h0 : 0 < b) (hk1 : 1 ≤ k) (hk : k ≤ 64) (hak : a ≤ ones k) (hbk : b ≤ ones k) (w : World) (ht : Tab w) (v : Nat) (hov : opW 3 a b < 18446744073709551616) (hv : opW 3 a b &&& ones k = v) :
    Calls Tryz.prog 57 #[.int .i64 3, .int .i64 k, .string (bs (numeral false a)), .string (bs (numeral false b))] w fun e w' => e = .returned (.tuple #[.string (bs (Lib.decDigits v)), .int .i64 0]) ∧ Below w.heap.size w w' :=
  Bits_divides 3 _ _ (by kernel_rfl) (by decide) (by decide) opsAt3 a b k (fun W => op3_any a b ha hb h0 W) ha hb h0 hk1 hk hak hbk w ht v hov hv
theorem opsAt4 (w : World) : (Instr.index 133 (.agg opsV) (.int .i64 4)).run Tryz.prog w = .ok (.agg #[.bool true, .func (.func 163) #[] #[]]) w := by kernel_rfl
theorem Bits4_ok (a b k : Nat) (ha : a < 18446744073709551616) (hb : b < 18446744073709551616) (h0 : 0 < b) (hk1 : 1 ≤ k) (hk : k ≤ 64) (hak : a ≤ ones k) (hbk : b ≤ ones k) (w : World) (ht : Tab w) (v : Nat) (hov : opW 4 a b < 18446744073709551616) (hv : opW 4 a b &&& ones k = v) :
    Calls Tryz.prog 57 #[.int .i64 4, .int .i64 k, .string (bs (numeral false a)), .string (bs (numeral false b))] w fun e w' => e = .returned (.tuple #[.string (bs (Lib.decDigits v)), .int .i64 0]) ∧ Below w.heap.size w w' :=
  Bits_divides 4 _ _ (by kernel_rfl) (by decide) (by decide) opsAt4 a b k (fun W => op4_any a b ha hb h0 W) ha hb h0 hk1 hk hak hbk w ht v hov hv
theorem opsAt5 (w : World) : (Instr.index 133 (.agg opsV) (.int .i64 5)).run Tryz.prog w = .ok (.agg #[.bool false, .func (.func 164) #[] #[]]) w := by kernel_rfl
theorem Bits5_ok (a b k : Nat) (ha : a < 18446744073709551616) (hb : b < 18446744073709551616) (hk1 : 1 ≤ k) (hk : k ≤ 64) (hak : a ≤ ones k) (hbk : b ≤ ones k) (w : World) (ht : Tab w) (v : Nat) (hov : opW 5 a b < 18446744073709551616) (hv : opW 5 a b &&& ones k = v) :
    Calls Tryz.prog 57 #[.int .i64 5, .int .i64 k, .string (bs (numeral false a)), .string (bs (numeral false b))] w fun e w' => e = .returned (.tuple #[.string (bs (Lib.decDigits v)), .int .i64 0]) ∧ Below w.heap.size w w' :=
  Bits_plain 5 _ _ (by kernel_rfl) (by decide) (by decide) opsAt5 a b k (fun W => op5_any a b ha hb W) ha hb hk1 hk hak hbk w ht v hov hv
theorem opsAt6 (w : World) : (Instr.index 133 (.agg opsV) (.int .i64 6)).run Tryz.prog w = .ok (.agg #[.bool false, .func (.func 165) #[] #[]]) w := by kernel_rfl
theorem Bits6_ok (a b k : Nat) (ha : a < 18446744073709551616) (hb : b < 18446744073709551616) (hk1 : 1 ≤ k) (hk : k ≤ 64) (hak : a ≤ ones k) (hbk : b ≤ ones k) (w : World) (ht : Tab w) (v : Nat) (hov : opW 6 a b < 18446744073709551616) (hv : opW 6 a b &&& ones k = v) :
    Calls Tryz.prog 57 #[.int .i64 6, .int .i64 k, .string (bs (numeral false a)), .string (bs (numeral false b))] w fun e w' => e = .returned (.tuple #[.string (bs (Lib.decDigits v)), .int .i64 0]) ∧ Below w.heap.size w w' :=
  Bits_plain 6 _ _ (by kernel_rfl) (by decide) (by decide) opsAt6 a b k (fun W => op6_any a b ha hb W) ha hb hk1 hk hak hbk w ht v hov hv
theorem opsAt7 (w : World) : (Instr.index 133 (.agg opsV) (.int .i64 7)).run Tryz.prog w = .ok (.agg #[.bool false, .func (.func 166) #[] #[]]) w := by kernel_rfl
theorem Bits7_ok (a b k : Nat) (ha : a < 18446744073709551616) (hb : b < 18446744073709551616) (hk1 : 1 ≤ k) (hk : k ≤ 64) (hak : a ≤ ones k) (hbk : b ≤ ones k) (w : World) (ht : Tab w) (v : Nat) (hov : opW 7 a b < 18446744073709551616) (hv : opW 7 a b &&& ones k = v) :
    Calls Tryz.prog 57 #[.int .i64 7, .int .i64 k, .string (bs (numeral false a)), .string (bs (numeral false b))] w fun e w' => e = .returned (.tuple #[.string (bs (Lib.decDigits v)), .int .i64 0]) ∧ Below w.heap.size w w' :=
  Bits_plain 7 _ _ (by kernel_rfl) (by decide) (by decide) opsAt7 a b k (fun W => op7_any a b ha hb W) ha hb hk1 hk hak hbk w ht v hov hv
theorem opsAt8 (w : World) : (Instr.index 133 (.agg opsV) (.int .i64 8)).run Tryz.prog w = .ok (.agg #[.bool false, .func (.func 167) #[] #[]]) w := by kernel_rfl
theorem Bits8_ok (a b k : Nat) (ha : a < 18446744073709551616) (hb : b < 18446744073709551616) (hk1 : 1 ≤ k) (hk : k ≤ 64) (hak : a ≤ ones k) (hbk : b ≤ ones k) (w : World) (ht : Tab w) (v : Nat) (hov : opW 8 a b < 18446744073709551616) (hv : opW 8 a b &&& ones k = v) :
    Calls Tryz.prog 57 #[.int .i64 8, .int .i64 k, .string (bs (numeral false a)), .string (bs (numeral false b))] w fun e w' => e = .returned (.tuple #[.string (bs (Lib.decDigits v)), .int .i64 0]) ∧ Below w.heap.size w w' :=
  Bits_plain 8 _ _ (by kernel_rfl) (by decide) (by decide) opsAt8 a b k (fun W => op8_any a b ha hb W) ha hb hk1 hk hak hbk w ht v hov hv
theorem opsAt9 (w : World) : (Instr.index 133 (.agg opsV) (.int .i64 9)).run Tryz.prog w = .ok (.agg #[.bool false, .func (.func 168) #[] #[]]) w := by kernel_rfl
theorem Bits9_ok (a b k : Nat) (ha : a < 18446744073709551616) (hb : b < 18446744073709551616) (hk1 : 1 ≤ k) (hk : k ≤ 64) (hak : a ≤ ones k) (hbk : b ≤ ones k) (w : World) (ht : Tab w) (v : Nat) (hov : opW 9 a b < 18446744073709551616) (hv : opW 9 a b &&& ones k = v) :
    Calls Tryz.prog 57 #[.int .i64 9, .int .i64 k, .string (bs (numeral false a)), .string (bs (numeral false b))] w fun e w' => e = .returned (.tuple #[.string (bs (Lib.decDigits v)), .int .i64 0]) ∧ Below w.heap.size w w' :=
  Bits_plain 9 _ _ (by kernel_rfl) (by decide) (by decide) opsAt9 a b k (fun W => op9_any a b ha hb W) ha hb hk1 hk hak hbk w ht v hov hv
theorem Bits3_zero (a b k : Nat) (ha : a < 18446744073709551616) (hb : b < 18446744073709551616) (h0 : b ≤ 0) (hk1 : 1 ≤ k) (hk : k ≤ 64) (hak : a ≤ ones k) (hbk : b ≤ ones k) (w : World) :
    Calls Tryz.prog 57 #[.int .i64 3, .int .i64 k, .string (bs (numeral false a)), .string (bs (numeral false b))] w fun e w' => e = .returned (.tuple #[.string ⟨#[]⟩, .int .i64 30]) ∧ Below w.heap.size w w' :=
  Bits_zero 3 _ (by decide) (by decide) opsAt3 a b k ha hb h0 hk1 hk hak hbk w
theorem Bits4_zero (a b k : Nat) (ha : a < 18446744073709551616) (hb : b < 18446744073709551616) (h0 : b ≤ 0) (hk1 : 1 ≤ k) (hk : k ≤ 64) (hak : a ≤ ones k) (hbk : b ≤ ones k) (w : World) :
    Calls Tryz.prog 57 #[.int .i64 4, .int .i64 k, .string (bs (numeral false a)), .string (bs (numeral false b))] w fun e w' => e = .returned (.tuple #[.string ⟨#[]⟩, .int .i64 30]) ∧ Below w.heap.size w w' :=
  Bits_zero 4 _ (by decide) (by decide) opsAt4 a b k ha hb h0 hk1 hk hak hbk w
end Go.Proofs.YtjemolaobhlapaaGreatDoor
