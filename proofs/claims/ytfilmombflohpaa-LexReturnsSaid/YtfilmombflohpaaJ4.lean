/- spaced: is there a space between two tokens? -/
import Derived.Test.YtfilmombflohpaaJ3
import Derived.Test.YtfilmombflohpaaL25
set_option linter.unusedSimpArgs false
set_option linter.unusedVariables false
namespace Go.Proofs.Ytfilmombflohpaa
open Go.RowKit Go.ChangeMaps Go.WideMaps Go.Shelf
set_option maxRecDepth 100000

set_option maxHeartbeats 4000000 in
theorem spaced_any (hS : Spans1) (a b : Span) (kb sb : Nat) (w : World) (ha : a.text ≠ []) (hal : a.text.length ≤ 20000) (hbl : b.text.length ≤ 20000) (hk : SetAt w kb kwL) (hs : SetAt w sb sgL) (hm : ML w) :
    Calls Try.prog 44 #[scan kb sb, tokV a 0, tokV b 0] w fun e w' => e = .returned (.bool (gapB a b)) ∧ Below w.heap.size w w' := by
  obtain ⟨N, hN⟩ : ∃ N, w.heap.size = N := ⟨_, rfl⟩
  obtain ⟨W1, hW1⟩ : ∃ W', w.alloc (.cells #[.map (some kb), .map (some sb)] 58) = W' := ⟨_, rfl⟩
  obtain ⟨W2, hW2⟩ : ∃ W', W1.alloc (.cells #[.int .i64 a.kind, .string (mk a.text), .int .i64 0] 47) = W' := ⟨_, rfl⟩
  obtain ⟨W3, hW3⟩ : ∃ W', W2.alloc (.cells #[.int .i64 b.kind, .string (mk b.text), .int .i64 0] 47) = W' := ⟨_, rfl⟩
  have z1 := alloc_size hW1 hN
  have z2 := alloc_size hW2 z1
  have z3 := alloc_size hW3 z2
  have hB0 : Below N w W3 := ((alloc_below hW1 (by omega)).trans (alloc_below hW2 (by omega))).trans (alloc_below hW3 (by omega))
  have k1 : BlockIs W3 N 58 #[.map (some kb), .map (some sb)] := alloc_block hW1 hN ((alloc_below hW2 (by omega)).trans (alloc_below hW3 (by omega)))
  have k2 : BlockIs W3 (N + 1) 47 #[.int .i64 a.kind, .string (mk a.text), .int .i64 0] := alloc_block hW2 z1 (alloc_below hW3 (by omega))
  have k3 : BlockIs W3 (N + 2) 47 #[.int .i64 b.kind, .string (mk b.text), .int .i64 0] := alloc_block hW3 z2 (Below.refl _ _)
  have HD1 := fun W => Lib.hid (isDot_any a 0 W (by omega))
  have HD2 := fun W => Lib.hid (isDot_any b 0 W (by omega))
  have HN1 := fun W => Lib.hid (isNumeric_any a 0 W)
  have HN2 := fun W => Lib.hid (isNumeric_any b 0 W)
  have HO1 := fun W => Lib.hid (isOneOf_any a 0 [40, 91, 35, 33, 46] W (by omega))
  have HO2 := fun W => Lib.hid (isOneOf_any b 0 [41, 93, 44, 59, 46, 63, 91] W (by omega))
  have HMG := fun W (hW : SetAt W kb kwL ∧ SetAt W sb sgL ∧ ML W) => Lib.hid (merge_any hS a b kb sb W ha hal hbl hW.1 hW.2.1 hW.2.2)
  have HQ : Hid (gapB a b = if (isDotS a && isNumS b || isNumS a && isDotS b) = true then true else if (oneOf a aSet || oneOf b bSet) = true then mergeS a b else true) := rfl
  obtain ⟨q, hq⟩ : ∃ q, gapB a b = q := ⟨_, rfl⟩
  obtain ⟨d1, e1⟩ : ∃ q, isDotS a = q := ⟨_, rfl⟩
  obtain ⟨d2, e2⟩ : ∃ q, isDotS b = q := ⟨_, rfl⟩
  obtain ⟨n1, e3⟩ : ∃ q, isNumS a = q := ⟨_, rfl⟩
  obtain ⟨n2, e4⟩ : ∃ q, isNumS b = q := ⟨_, rfl⟩
  obtain ⟨o1, e5⟩ : ∃ q, oneOf a aSet = q := ⟨_, rfl⟩
  obtain ⟨o2, e6⟩ : ∃ q, oneOf b bSet = q := ⟨_, rfl⟩
  obtain ⟨mg, e7⟩ : ∃ q, mergeS a b = q := ⟨_, rfl⟩
  rw [hq]
  rw [hq, e1, e2, e3, e4, e5, e6, e7] at HQ
  rw [e1] at HD1
  rw [e2] at HD2
  rw [e3] at HN1
  rw [e4] at HN2
  rw [show oneOf a [40, 91, 35, 33, 46] = o1 from e5] at HO1
  rw [show oneOf b [41, 93, 44, 59, 46, 63, 91] = o2 from e6] at HO2
  rw [e7] at HMG
  dsimp only [tokV] at HD1 HD2 HN1 HN2 HO1 HO2 HMG ⊢
  have HS0 := Lib.hid (show SetAt W3 kb kwL ∧ SetAt W3 sb sgL ∧ ML W3 from ⟨hk.below hB0 (by rw [← hN]; exact hk.lt), hs.below hB0 (by rw [← hN]; exact hs.lt), hm.below hB0 (by rw [← hN]; exact hm.lt)⟩)
  obtain ⟨ka, eka⟩ : ∃ k, a.kind = k := ⟨_, rfl⟩
  obtain ⟨kc, ekc⟩ : ∃ k, b.kind = k := ⟨_, rfl⟩
  obtain ⟨ya, eya⟩ : ∃ k, mk a.text = k := ⟨_, rfl⟩
  obtain ⟨yb, eyb⟩ : ∃ k, mk b.text = k := ⟨_, rfl⟩
  rw [eka, eya] at HD1 HN1 HO1 HMG k2 hW2
  rw [ekc, eyb] at HD2 HN2 HO2 HMG k3 hW3
  rw [eka, ekc, eya, eyb]
  clear hq e1 e2 e3 e4 e5 e6 e7 eka ekc eya eyb hk hs hm ha
  have hc := Lib.hid (show ∀ W, Below W3.heap.size W3 W → (W.cell? ⟨N, 0, none⟩ = some (.map (some kb)) ∧ W.cell? ⟨N, 1, none⟩ = some (.map (some sb))) ∧ (W.cell? ⟨N + 1, 0, none⟩ = some (.int .i64 ka) ∧ W.cell? ⟨N + 1, 1, none⟩ = some (.string ya) ∧ W.cell? ⟨N + 1, 2, none⟩ = some (.int .i64 0)) ∧ (W.cell? ⟨N + 2, 0, none⟩ = some (.int .i64 kc) ∧ W.cell? ⟨N + 2, 1, none⟩ = some (.string yb) ∧ W.cell? ⟨N + 2, 2, none⟩ = some (.int .i64 0)) from by
    intro W hW
    have c1 : ∀ i, W.cell? ⟨N, i, none⟩ = _ := fun i => (hW.cell (p := ⟨N, i, none⟩) (by simp; omega)).trans (k1.at i)
    have c2 : ∀ i, W.cell? ⟨N + 1, i, none⟩ = _ := fun i => (hW.cell (p := ⟨N + 1, i, none⟩) (by simp; omega)).trans (k2.at i)
    have c3 : ∀ i, W.cell? ⟨N + 2, i, none⟩ = _ := fun i => (hW.cell (p := ⟨N + 2, i, none⟩) (by simp; omega)).trans (k3.at i)
    exact ⟨⟨c1 0, c1 1⟩, ⟨c2 0, c2 1, c2 2⟩, ⟨c3 0, c3 1, c3 2⟩⟩)
  have hb0 : Below W3.heap.size W3 W3 := Below.refl _ _
  obtain ⟨⟨_, _⟩, ⟨_, _, _⟩, ⟨_, _, _⟩⟩ := hc.out _ hb0
  go_enter Try.func44, Try.ntmps44
  go_wp2_with fail
  go_wp2_with (first | (go_at_call 69; (first | (with_reducible refine (fromB (HD1 _).out (by assumption)).mono ?_) | (with_reducible refine (fromB (HD2 _).out (by assumption)).mono ?_)); rintro e w' ⟨rfl, hb'⟩; obtain ⟨⟨_, _⟩, ⟨_, _, _⟩, ⟨_, _, _⟩⟩ := hc.out _ hb') | (go_at_call 70; (first | (with_reducible refine (fromB (HN1 _).out (by assumption)).mono ?_) | (with_reducible refine (fromB (HN2 _).out (by assumption)).mono ?_)); rintro e w' ⟨rfl, hb'⟩; obtain ⟨⟨_, _⟩, ⟨_, _, _⟩, ⟨_, _, _⟩⟩ := hc.out _ hb') | (go_at_call 71; (first | (with_reducible refine (fromB (HO1 _).out (by assumption)).mono ?_) | (with_reducible refine (fromB (HO2 _).out (by assumption)).mono ?_)); rintro e w' ⟨rfl, hb'⟩; obtain ⟨⟨_, _⟩, ⟨_, _, _⟩, ⟨_, _, _⟩⟩ := hc.out _ hb') | (go_at_call 72; refine (fromB (HMG _ ⟨HS0.out.1.below (N := W3.heap.size) (by assumption) HS0.out.1.lt, HS0.out.2.1.below (N := W3.heap.size) (by assumption) HS0.out.2.1.lt, HS0.out.2.2.below (B := W3.heap.size) (by assumption) HS0.out.2.2.lt⟩).out (by assumption)).mono ?_; rintro e w' ⟨rfl, hb'⟩; obtain ⟨⟨_, _⟩, ⟨_, _, _⟩, ⟨_, _, _⟩⟩ := hc.out _ hb'))
  all_goals go_ret
  all_goals refine ⟨ret_bool ?_, by rw [hN]; exact hB0.trans (Below.mono (B := W3.heap.size) (by assumption) (by omega))⟩
  all_goals rw [HQ.out]
  all_goals clear HD1 HD2 HN1 HN2 HO1 HO2 HMG HQ hc HS0
  all_goals simp_all
end Go.Proofs.Ytfilmombflohpaa
