/- Strings of fractions: Split at a slash, readFraction. -/
import Derived.Lib.SplitLaws
import Derived.Test.YtjemolaobhlapaaGreatDoorNX
set_option linter.unusedSimpArgs false
set_option linter.unusedVariables false
namespace Go.Proofs.YtjemolaobhlapaaGreatDoor
open Go.RowKit
set_option maxRecDepth 100000

theorem indexByte_app (c : UInt8) (X Y : List UInt8) (h : c ∉ X) : Lib.indexByte (X ++ c :: Y) c = X.length := by
  induction X with
  | nil => simp [Lib.indexByte]
  | cons b X ih =>
    have hb : b ≠ c := fun e => h (by simp [e])
    have ih' := ih fun hc => h (List.mem_cons_of_mem _ hc)
    rw [List.cons_append, Lib.indexByte, if_neg (by simpa using hb), ih', if_neg (by simp), List.length_cons]
    omega
theorem splitK_app (c : UInt8) (X Y : List UInt8) (h : c ∉ X) : Lib.splitK [c] 0 1 (X ++ c :: Y) = [X, Y] := by
  have hi : Lib.index (X ++ c :: Y) [c] = X.length := by rw [Lib.index_one, indexByte_app c X Y h]
  unfold Lib.splitK
  rw [if_neg (by rw [hi]; simp), hi]
  simp [Lib.splitK]
theorem count_app (c : UInt8) (X Y : List UInt8) (hX : c ∉ X) (hY : c ∉ Y) : (X ++ c :: Y).count c = 1 := by
  rw [List.count_append, List.count_cons_self, List.count_eq_zero_of_not_mem hX, List.count_eq_zero_of_not_mem hY]
theorem bytes_eq {z : ByteArray} {l : List UInt8} (h : z.data.toList = l) : z = bs l := by
  cases z
  unfold bs
  congr 1
  rw [← h]
theorem splitB_app (c : UInt8) (X Y : List UInt8) (h : c ∉ X) : Lib.splitB ⟨#[c]⟩ 0 1 (bs (X ++ c :: Y)) = [bs X, bs Y] := by
  have h1 := Lib.splitB_data ⟨#[c]⟩ 0 1 (bs (X ++ c :: Y))
  rw [bs_list, show (⟨#[c]⟩ : ByteArray).data.toList = [c] from rfl, splitK_app c X Y h] at h1
  cases hl : Lib.splitB ⟨#[c]⟩ 0 1 (bs (X ++ c :: Y)) with
  | nil => rw [hl] at h1; cases h1
  | cons z l =>
    rw [hl] at h1
    cases l with
    | nil => simp at h1
    | cons z2 l =>
      simp only [List.map_cons, List.cons.injEq, List.map_eq_nil_iff] at h1
      obtain ⟨h1, h2, rfl⟩ := h1
      rw [bytes_eq h1, bytes_eq h2]
theorem Split_any (X Y : List UInt8) (hX : 47 ∉ X) (hY : 47 ∉ Y) (hl : (X ++ 47 :: Y).length < 4294967281) (m : Int) (w : World) (hm : w.cell? ⟨0, 0, none⟩ = some (.int .i64 m)) :
    Calls Tryz.prog 104 #[.string (bs (X ++ 47 :: Y)), .string ⟨#[47]⟩] w fun e w' => e = .returned (.slice (some ⟨w.heap.size, 0, none⟩) 2 2) ∧ w' = w.alloc (.cells #[.string (bs X), .string (bs Y)] 9) := by
  have h := Tryz.strings_Split (bs (X ++ 47 :: Y)) ⟨#[47]⟩ m w (by rw [bs_size]; exact hl) hm (by decide)
  have hc : Lib.countB (bs (X ++ 47 :: Y)) ⟨#[47]⟩ = 1 := by
    unfold Lib.countB
    rw [bs_list, show (⟨#[47]⟩ : ByteArray).data.toList = [47] from rfl, Lib.count_one, count_app 47 X Y hX hY]
  rw [hc, splitB_app 47 X Y hX] at h
  exact h
theorem dig_no_slash {c : UInt8} (h : isDig c = true) : c ≠ 47 := by
  rintro rfl; exact absurd h (by decide)
theorem numeral_no_slash (s : Bool) (n : Nat) : (47 : UInt8) ∉ numeral s n := by
  unfold numeral
  rw [List.mem_append]
  rintro (h | h)
  · cases s <;> simp at h
  · exact dig_no_slash (decDigits_dig n _ h) rfl
theorem numeral_len {s : Bool} {n : Nat} (h : Lib.nDigits n ≤ 120) : (numeral s n).length ≤ 121 := numeral_short h
theorem ratio_len {s t : Bool} {a b : Nat} (ha : Lib.nDigits a ≤ 120) (hb : Lib.nDigits b ≤ 120) : (ratio s a t b).length ≤ 243 := by
  unfold ratio
  rw [List.length_append, List.length_cons]
  have := numeral_len (s := s) ha
  have := numeral_len (s := t) hb
  omega
structure Fr (w0 : World) (B : Nat) (w : World) : Prop where
  b : ∃ f u z k v y, BlockIs w B 114 (fracF f u z k v y)
  bl : Below B w0 w
theorem Fr.below {w0 : World} {B : Nat} {w w' : World} (h : Fr w0 B w) (hb : Below w.heap.size w w') : Fr w0 B w' := by
  obtain ⟨⟨f, u, z, k, v, y, h1⟩, h2⟩ := h
  exact ⟨⟨f, u, z, k, v, y, h1.below hb h1.lt⟩, h2.trans (hb.mono (by have := h1.lt; omega))⟩
theorem Fr.lt {w0 : World} {B : Nat} {w : World} (h : Fr w0 B w) : B < w.heap.size := by
  obtain ⟨⟨f, u, z, k, v, y, h1⟩, _⟩ := h
  exact h1.lt

set_option maxHeartbeats 4000000 in
theorem readFraction_any (s t : Bool) (a b : Nat) (ha : Num s a) (hb : Num t b) (m : Int) (w : World) (hm : w.cell? ⟨0, 0, none⟩ = some (.int .i64 m)) (h0 : 0 < w.heap.size) :
    Calls Tryz.prog 101 #[.string (bs (ratio s a t b))] w fun e w' => e = .returned (.agg (frac s a t b)) ∧ Below w.heap.size w w' := by
  obtain ⟨B, hB⟩ : ∃ B, w.heap.size = B := ⟨_, rfl⟩
  obtain ⟨W, hW⟩ : ∃ W, w.alloc (.cells (fracF (fun _ => 0) 0 false (fun _ => 0) 0 false) 114) = W := ⟨_, rfl⟩
  have HH := Lib.hid (show Fr w B W by
    rw [← hW, ← hB]
    exact ⟨⟨(fun _ => 0), 0, false, (fun _ => 0), 0, false, BlockIs.new _ _ _⟩, (Below.refl _ _).alloc (Nat.le_refl _) _⟩)
  have hz0 := zeroFr
  have hlen := ratio_len (s := s) (t := t) ha.short hb.short
  have HM := Lib.hid (show W.cell? ⟨0, 0, none⟩ = some (.int .i64 m) from (HH.out.bl.cell (p := ⟨0, 0, none⟩) (by rw [← hB]; exact h0)).trans hm)
  have HSP := Lib.hid (fun W hm => Split_any (numeral s a) (numeral t b) (numeral_no_slash s a) (numeral_no_slash t b) (by unfold ratio at hlen; omega) m W hm)
  have HRX := Lib.hid (fun W => readNum ha W)
  have HRY := Lib.hid (fun W => readNum hb W)
  obtain ⟨z, hz⟩ : ∃ z, bs (ratio s a t b) = z := ⟨_, rfl⟩
  rw [show bs (numeral s a ++ 47 :: numeral t b) = z from hz] at HSP
  obtain ⟨x, hx⟩ : ∃ x, bs (numeral s a) = x := ⟨_, rfl⟩
  obtain ⟨y, hy⟩ : ∃ y, bs (numeral t b) = y := ⟨_, rfl⟩
  rw [hx] at HSP HRX
  rw [hy] at HSP HRY
  rw [hz]
  clear hz hx hy ha hb hlen hm h0
  go_enter Tryz.func101, Tryz.ntmps101
  go_wp2_with fail
  refine (HSP.out W HM.out).mono ?_
  rintro e w1 ⟨rfl, rfl⟩
  obtain ⟨L, hL⟩ : ∃ L, W.heap.size = L := ⟨_, rfl⟩
  obtain ⟨W2, hW2⟩ : ∃ W2, W.alloc (.cells #[.string x, .string y] 9) = W2 := ⟨_, rfl⟩
  have HL := Lib.hid (show BlockIs W2 L 9 #[.string x, .string y] ∧ Fr w B W2 by
    rw [← hW2, ← hL]; exact ⟨BlockIs.new _ _ _, HH.out.below ((Below.refl _ _).alloc (Nat.le_refl _) _)⟩)
  rw [hL, hW2]
  clear hL hW2 HH hW
  have HT := Lib.hid (transformS_any 2 (by omega) (fun k => if k = 0 then x else y) (fun k => if k = 0 then s else t) (fun k => if k = 0 then a else b) L W2
    (by
      intro k hk
      have : k = 0 ∨ k = 1 := by omega
      rcases this with rfl | rfl
      · exact HL.out.1.at 0
      · exact HL.out.1.at 1) HL.out.1.lt
    (by
      intro k hk W
      have : k = 0 ∨ k = 1 := by omega
      rcases this with rfl | rfl
      · exact HRX.out W
      · exact HRY.out W))
  go_wp2_with fail
  refine HT.out.mono ?_
  rintro e w3 ⟨v, rfl, hown, hb3⟩
  have HF3 := Lib.hid (HL.out.2.below hb3)
  obtain ⟨g, cap, rfl, hgl, hgb, hr0, hr1⟩ := row_two (x := sigL (limb a) (len a) s) (y := sigL (limb b) (len b) t) hown (sigL_len _ _ _) (sigL_len _ _ _)
  have HB2 := Lib.hid (show B < g by have := HL.out.2.lt; omega)
  have HR := Lib.hid (And.intro hgl (And.intro hr0 hr1))
  clear hown hb3 hgl hgb hr0 hr1 HL HT HRX HRY HSP
  go_wp2
  have hT0 : Fr w B w3.drew ∧ w3.drew.rangeAt g 0 (sigL (limb a) (len a) s) ∧ w3.drew.rangeAt g 32 (sigL (limb b) (len b) t) := ⟨⟨HF3.out.b, HF3.out.bl.drew⟩, HR.out.2.1, HR.out.2.2⟩
  refine wp_region_held_drew (S := fun w' => Fr w B w' ∧ w'.rangeAt g 0 (sigL (limb a) (len a) s) ∧ w'.rangeAt g 32 (sigL (limb b) (len b) t)) (by kernel_rfl) hT0 (fun hS => ?_)
  obtain ⟨wd, hwd⟩ : ∃ wd, w3.drew = wd := ⟨_, rfl⟩
  rw [hwd] at hS hT0 ⊢
  clear hwd hT0
  refine wpAnyH_take (i := 0) (v := .slice (some ⟨g, 0, none⟩) 2 cap) rfl (by kernel_rfl) (by kernel_rfl) (by kernel_rfl) (fun _ _ _ h => h) (Or.inl ⟨by rfl, fun w' _ => by rfl⟩) hS ?_
  try simp only [A1, A2, A3, Act.put, A4, A5, A6]
  refine wpAnyH_take (i := 1) (v := .pointer (some ⟨g, 0, none⟩)) rfl (by kernel_rfl) (by kernel_rfl) (by kernel_rfl) (fun _ _ _ h => h) (Or.inl ⟨by rfl, fun w' h => by go_simp⟩) hS ?_
  try simp only [A1, A2, A3, Act.put, A4, A5, A6]
  refine wpAnyH_take (i := 2) rfl (by kernel_rfl) (by kernel_rfl) (by kernel_rfl) (fun _ _ _ h => h) (yS_range rfl (.tmp 8) rfl g 0 rfl (fun w' h => h.2.1)) hS ?_
  try simp only [A1, A2, A3, Act.put, A4, A5, A6]
  refine wpAnyH_take (i := 3) (v := .slice (some ⟨g, 0, none⟩) 2 cap) rfl (by kernel_rfl) (by kernel_rfl) (by kernel_rfl) (fun _ _ _ h => h) (Or.inl ⟨by rfl, fun w' _ => by rfl⟩) hS ?_
  try simp only [A1, A2, A3, Act.put, A4, A5, A6]
  refine wpAnyH_take (i := 4) (v := .pointer (some ⟨g, 32, none⟩)) rfl (by kernel_rfl) (by kernel_rfl) (by kernel_rfl) (fun _ _ _ h => h) (Or.inl ⟨by rfl, fun w' h => by go_simp⟩) hS ?_
  try simp only [A1, A2, A3, Act.put, A4, A5, A6]
  refine wpAnyH_take (i := 5) rfl (by kernel_rfl) (by kernel_rfl) (by kernel_rfl) (fun _ _ _ h => h) (yS_range rfl (.tmp 11) rfl g 32 rfl (fun w' h => h.2.2)) hS ?_
  try simp only [A1, A2, A3, Act.put, A4, A5, A6]
  refine wpAnyH_take (i := 6) rfl (by kernel_rfl) (by kernel_rfl) (by kernel_rfl) (fun _ _ _ h => h) (yF_build rfl (.tmp 9) (.tmp 12) rfl (f := limb a) (u := len a) (s := s) (g := limb b) (v := len b) (t := t) rfl rfl) hS ?_
  try simp only [A1, A2, A3, Act.put, A4, A5, A6]
  refine wpAnyH_ready (rs := [7]) (by kernel_rfl) (by simp) (AllReadyH.cons rfl (fun K hK => ?_) AllReadyH.nil)
  rw [if_pos (by rfl)]
  obtain ⟨_, _, _, _, _, _, hb2⟩ := hS.1.b
  refine wpF_store1 (.tmp 2) (.tmp 13) rfl B (f := limb a) (u := len a) (s := s) (g := limb b) (v := len b) (t := t) rfl rfl hb2 ?_
  have hBg := HB2.out
  have hb3 := hb2.row (fracF (limb a) (len a) s (limb b) (len b) t)
  have hS2 : Fr w B (wd.setRow B (fracF (limb a) (len a) s (limb b) (len b) t)) ∧ (wd.setRow B (fracF (limb a) (len a) s (limb b) (len b) t)).rangeAt g 0 (sigL (limb a) (len a) s) ∧ (wd.setRow B (fracF (limb a) (len a) s (limb b) (len b) t)).rangeAt g 32 (sigL (limb b) (len b) t) := ⟨⟨⟨_, _, _, _, _, _, hb3⟩, below_row hS.1.bl _ _ (by omega)⟩, range_row hS.2.1 (by omega), range_row hS.2.2 (by omega)⟩
  clear hS
  refine hK.out _ _ hS2 (fun hS => ?_)
  clear hK K hS
  refine wpAnyH_done (by kernel_rfl) ?_ _
  go_wp2
  exact bodyPost_ret (retF rfl _ _ B rfl hb3) rfl ⟨rfl, hB ▸ hS2.1.bl⟩
end Go.Proofs.YtjemolaobhlapaaGreatDoor
