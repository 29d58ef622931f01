/- Sums, differences, products and quotients of fractions. -/
import Derived.Test.YtjemolaobhlapaaGreatDoorNW
set_option linter.unusedSimpArgs false
set_option linter.unusedVariables false
namespace Go.Proofs.YtjemolaobhlapaaGreatDoor
open Go.RowKit
set_option maxRecDepth 100000

/-- Two fractions, and one to come. -/
structure Ff (w0 : World) (B : Nat) (s : Bool) (a b : Nat) (t : Bool) (c d : Nat) (w : World) : Prop where
  b0 : BlockIs w B 114 (frac s a false b)
  b1 : BlockIs w (B + 1) 114 (frac t c false d)
  b2 : ∃ f u z h v y, BlockIs w (B + 2) 114 (fracF f u z h v y)
  bl : Below B w0 w
theorem Ff.below {w0 : World} {B a b c d : Nat} {s t : Bool} {w w' : World} (h : Ff w0 B s a b t c d w) (hb : Below w.heap.size w w') : Ff w0 B s a b t c d w' := by
  obtain ⟨h0, h1, ⟨f, u, z, k, v, y, h2⟩, h3⟩ := h
  exact ⟨h0.below hb h0.lt, h1.below hb h1.lt, ⟨f, u, z, k, v, y, h2.below hb h2.lt⟩, h3.trans (hb.mono (by have := h0.lt; omega))⟩
theorem Ff.drew {w0 : World} {B a b c d : Nat} {s t : Bool} {w : World} (h : Ff w0 B s a b t c d w) : Ff w0 B s a b t c d w.drew := by
  obtain ⟨h0, h1, ⟨f, u, z, k, v, y, h2⟩, h3⟩ := h
  exact ⟨h0.drew, h1.drew, ⟨f, u, z, k, v, y, h2.drew⟩, h3.drew⟩
theorem Ff.ret {w0 : World} {B a b c d : Nat} {s t : Bool} {w : World} (h : Ff w0 B s a b t c d w) (f : Nat → Nat) (u : Nat) (z : Bool) (k : Nat → Nat) (v : Nat) (y : Bool) : Ff w0 B s a b t c d (w.setRow (B + 2) (fracF f u z k v y)) ∧ BlockIs (w.setRow (B + 2) (fracF f u z k v y)) (B + 2) 114 (fracF f u z k v y) := by
  obtain ⟨h0, h1, ⟨f', u', z', k', v', y', h2⟩, h3⟩ := h
  exact ⟨⟨h0.rowOther _ _ (by omega), h1.rowOther _ _ (by omega), ⟨f, u, z, k, v, y, h2.row _⟩, below_row h3 _ _ (by omega)⟩, h2.row _⟩
theorem Ff.start {w W : World} {B a b c d : Nat} {s t : Bool} (hB : w.heap.size = B) (hW : ((w.alloc (.cells (frac s a false b) 114)).alloc (.cells (frac t c false d) 114)).alloc (.cells (fracF (fun _ => 0) 0 false (fun _ => 0) 0 false) 114) = W) : Ff w B s a b t c d W := by
  have hs1 : (w.alloc (.cells (frac s a false b) 114)).heap.size = B + 1 := by rw [World.size_alloc, hB]
  have hs2 : ((w.alloc (.cells (frac s a false b) 114)).alloc (.cells (frac t c false d) 114)).heap.size = B + 2 := by rw [World.size_alloc, hs1]
  rw [← hW]
  refine ⟨by rw [← hB]; exact ((BlockIs.new _ _ _).alloc _).alloc _, ?_, ⟨(fun _ => 0), 0, false, (fun _ => 0), 0, false, ?_⟩, ((((Below.refl B w).alloc (by omega) _).alloc (by omega) _).alloc (by omega) _)⟩
  · have := BlockIs.new (w.alloc (.cells (frac s a false b) 114)) 114 (frac t c false d)
    rw [hs1] at this
    exact this.alloc _
  · have := BlockIs.new ((w.alloc (.cells (frac s a false b) 114)).alloc (.cells (frac t c false d) 114)) 114 (fracF (fun _ => 0) 0 false (fun _ => 0) 0 false)
    rwa [hs2] at this
theorem len14_28 {a b : Nat} (ha : a < pw 14) (hb : b < pw 14) : len a + len b ≤ 30 := by have := len_14 ha; have := len_14 hb; omega
theorem mul28 {a b : Nat} (ha : a < pw 14) (hb : b < pw 14) : a * b < pw 30 := Nat.lt_of_lt_of_le (mul_lt ha hb) pw28_30
theorem lt14_30 {a : Nat} (ha : a < pw 14) : a < pw 30 := Nat.lt_of_lt_of_le ha (pw_mono (by omega))
theorem sumS_29 {s t : Bool} {a b : Nat} (ha : a < pw 28) (hb : b < pw 28) {r : Bool} {n : Nat} (hr : sumS s t a b = (r, n)) : n < pw 29 := by
  have h29 : pw 29 = pw 28 * 1000000000 := rfl
  unfold sumS at hr
  split at hr
  · rw [Prod.mk.injEq] at hr; omega
  · split at hr
    · rw [Prod.mk.injEq] at hr; omega
    · rw [Prod.mk.injEq] at hr; omega
theorem pw28_29 : pw 28 ≤ pw 29 := pw_mono (by omega)
theorem ne_false (s : Bool) : (s != false) = s := by cases s <;> rfl

set_option maxHeartbeats 4000000 in
theorem times_frac (s t : Bool) (a b c d : Nat) (ha : a < pw 14) (hb : b < pw 14) (hc : c < pw 14) (hd : d < pw 14) (hb0 : 0 < b) (hd0 : 0 < d) (sx : Bool) (hsx : ((s != t) && !decide (a * c = 0)) = sx) (p q : Nat) (hp : (a * c) / Nat.gcd (a * c) (b * d) = p) (hq : (b * d) / Nat.gcd (a * c) (b * d) = q) (r : Bool) (hr : ((sx != false) && !decide (p = 0)) = r) (w : World) :
    Calls Tryz.prog 149 #[.agg (frac s a false b), .agg (frac t c false d)] w fun e w' => e = .returned (.agg (frac r p false q)) ∧ Below w.heap.size w w' := by
  obtain ⟨B, hB⟩ : ∃ B, w.heap.size = B := ⟨_, rfl⟩
  obtain ⟨W, hW⟩ : ∃ W, ((w.alloc (.cells (frac s a false b) 114)).alloc (.cells (frac t c false d) 114)).alloc (.cells (fracF (fun _ => 0) 0 false (fun _ => 0) 0 false) 114) = W := ⟨_, rfl⟩
  have HH := Lib.hid (Ff.start (s := s) (t := t) (a := a) (b := b) (c := c) (d := d) hB hW)
  have hz0 := zeroFr
  have H1 := Lib.hid (fun W => by_any s t a c (lt14_30 ha) (lt14_30 hc) (len14_28 ha hc) (mul28 ha hc) W sx hsx)
  have H2 := Lib.hid (fun W => by_any false false b d (lt14_30 hb) (lt14_30 hd) (len14_28 hb hd) (mul28 hb hd) W false rfl)
  have H3 := Lib.hid (fun W => lowest_any sx false (a * c) (b * d) (Nat.lt_of_lt_of_le (mul_lt ha hc) pw28_29) (Nat.mul_pos hb0 hd0) (Nat.lt_of_lt_of_le (mul_lt hb hd) pw28_29) W r p q hp hq hr)
  clear ha hb hc hd hb0 hd0 hp hq hr hsx
  go_enter Tryz.func149, Tryz.ntmps149
  go_wp2
  have hT0 : Ff w B s a b t c d W.drew := HH.out.drew
  refine wp_region_held_drew (S := Ff w B s a b t c d) (by kernel_rfl) hT0 (fun hS => ?_)
  obtain ⟨wd, hwd⟩ : ∃ wd, W.drew = wd := ⟨_, rfl⟩
  rw [hwd] at hS hT0 ⊢
  clear hwd hT0 hW
  refine wpAnyH_take (i := 0) (v := .pointer (some ⟨B, 0, none⟩)) rfl (by kernel_rfl) (by kernel_rfl) (by kernel_rfl) (fun _ _ _ h => h) (Or.inl ⟨by rfl, fun w' h => by go_simp⟩) hS ?_
  try simp only [A1, A2, A3, Act.put, A4, A5, A6]
  refine wpAnyH_take (i := 1) rfl (by kernel_rfl) (by kernel_rfl) (by kernel_rfl) (fun _ _ _ h => h) (yS_range rfl (.tmp 5) rfl (B) 0 rfl (fun w' h => frac_range0 h.b0)) hS ?_
  try simp only [A1, A2, A3, Act.put, A4, A5, A6]
  refine wpAnyH_take (i := 2) (v := .pointer (some ⟨B + 1, 0, none⟩)) rfl (by kernel_rfl) (by kernel_rfl) (by kernel_rfl) (fun _ _ _ h => h) (Or.inl ⟨by rfl, fun w' h => by go_simp⟩) hS ?_
  try simp only [A1, A2, A3, Act.put, A4, A5, A6]
  refine wpAnyH_take (i := 3) rfl (by kernel_rfl) (by kernel_rfl) (by kernel_rfl) (fun _ _ _ h => h) (yS_range rfl (.tmp 7) rfl (B + 1) 0 rfl (fun w' h => frac_range0 h.b1)) hS ?_
  try simp only [A1, A2, A3, Act.put, A4, A5, A6]
  refine wpAnyH_take (i := 5) (v := .pointer (some ⟨B, 32, none⟩)) rfl (by kernel_rfl) (by kernel_rfl) (by kernel_rfl) (fun _ _ _ h => h) (Or.inl ⟨by rfl, fun w' h => by go_simp⟩) hS ?_
  try simp only [A1, A2, A3, Act.put, A4, A5, A6]
  refine wpAnyH_take (i := 6) rfl (by kernel_rfl) (by kernel_rfl) (by kernel_rfl) (fun _ _ _ h => h) (yS_range rfl (.tmp 10) rfl (B) 32 rfl (fun w' h => frac_range1 h.b0)) hS ?_
  try simp only [A1, A2, A3, Act.put, A4, A5, A6]
  refine wpAnyH_take (i := 7) (v := .pointer (some ⟨B + 1, 32, none⟩)) rfl (by kernel_rfl) (by kernel_rfl) (by kernel_rfl) (fun _ _ _ h => h) (Or.inl ⟨by rfl, fun w' h => by go_simp⟩) hS ?_
  try simp only [A1, A2, A3, Act.put, A4, A5, A6]
  refine wpAnyH_take (i := 8) rfl (by kernel_rfl) (by kernel_rfl) (by kernel_rfl) (fun _ _ _ h => h) (yS_range rfl (.tmp 12) rfl (B + 1) 32 rfl (fun w' h => frac_range1 h.b1)) hS ?_
  try simp only [A1, A2, A3, Act.put, A4, A5, A6]
  refine wpAnyH_ready (rs := [4]) (by kernel_rfl) (by simp) (AllReadyH.cons rfl (fun K hK => ?_) AllReadyH.nil)
  rw [if_pos (by rfl)]
  refine wp_callF 84 _ _ rfl _ (by kernel_rfl) (by kernel_rfl) (R := Below (World.heap wd).size wd) (H1.out _) (fun w1 hbn => ?_)
  have hT1 := hS.below hbn
  clear hS hbn
  refine hK.out _ _ hT1 (fun hS => ?_)
  clear hK K hT1
  try simp only [A1, A2, A3, Act.put, A4, A5, A6]
  refine wpAnyH_ready (rs := [9]) (by kernel_rfl) (by simp) (AllReadyH.cons rfl (fun K hK => ?_) AllReadyH.nil)
  rw [if_pos (by rfl)]
  refine wp_callF 84 _ _ rfl _ (by kernel_rfl) (by kernel_rfl) (R := Below (World.heap w1).size w1) (H2.out _) (fun w2 hbn => ?_)
  have hT1 := hS.below hbn
  clear hS hbn
  refine hK.out _ _ hT1 (fun hS => ?_)
  clear hK K hT1
  try simp only [A1, A2, A3, Act.put, A4, A5, A6]
  refine wpAnyH_ready (rs := [10]) (by kernel_rfl) (by simp) (AllReadyH.cons rfl (fun K hK => ?_) AllReadyH.nil)
  rw [if_pos (by rfl)]
  refine wp_callF 108 _ _ rfl _ (by kernel_rfl) (by kernel_rfl) (R := Below (World.heap w2).size w2) (H3.out _) (fun w3 hbn => ?_)
  have hT1 := hS.below hbn
  clear hS hbn
  refine hK.out _ _ hT1 (fun hS => ?_)
  clear hK K hT1
  try simp only [A1, A2, A3, Act.put, A4, A5, A6]
  refine wpAnyH_ready (rs := [11]) (by kernel_rfl) (by simp) (AllReadyH.cons rfl (fun K hK => ?_) AllReadyH.nil)
  rw [if_pos (by rfl)]
  obtain ⟨_, _, _, _, _, _, hb2⟩ := hS.b2
  refine wpF_store1 (.tmp 4) (.tmp 15) rfl (B + 2) (f := limb p) (u := len p) (s := r) (g := limb q) (v := len q) (t := false) rfl rfl hb2 ?_
  have hT2 := hS.ret (limb p) (len p) r (limb q) (len q) false
  clear hS
  refine hK.out _ _ hT2.1 (fun hS => ?_)
  clear hK K hS
  refine wpAnyH_done (by kernel_rfl) ?_ _
  go_wp2
  exact bodyPost_ret (retF rfl _ _ (B + 2) rfl hT2.2) rfl ⟨rfl, hB ▸ hT2.1.bl⟩

set_option maxHeartbeats 4000000 in
theorem over_frac (s t : Bool) (a b c d : Nat) (ha : a < pw 14) (hb : b < pw 14) (hc : c < pw 14) (hd : d < pw 14) (hb0 : 0 < b) (hd0 : 0 < d) (hc0 : 0 < c) (sx : Bool) (hsx : (s && !decide (a * d = 0)) = sx) (p q : Nat) (hp : (a * d) / Nat.gcd (a * d) (b * c) = p) (hq : (b * c) / Nat.gcd (a * d) (b * c) = q) (r : Bool) (hr : ((sx != t) && !decide (p = 0)) = r) (w : World) :
    Calls Tryz.prog 150 #[.agg (frac s a false b), .agg (frac t c false d)] w fun e w' => e = .returned (.agg (frac r p false q)) ∧ Below w.heap.size w w' := by
  obtain ⟨B, hB⟩ : ∃ B, w.heap.size = B := ⟨_, rfl⟩
  obtain ⟨W, hW⟩ : ∃ W, ((w.alloc (.cells (frac s a false b) 114)).alloc (.cells (frac t c false d) 114)).alloc (.cells (fracF (fun _ => 0) 0 false (fun _ => 0) 0 false) 114) = W := ⟨_, rfl⟩
  have HH := Lib.hid (Ff.start (s := s) (t := t) (a := a) (b := b) (c := c) (d := d) hB hW)
  have hz0 := zeroFr
  have H1 := Lib.hid (fun W => by_any s false a d (lt14_30 ha) (lt14_30 hd) (len14_28 ha hd) (mul28 ha hd) W sx (by rw [ne_false]; exact hsx))
  have H2 := Lib.hid (fun W => by_any false t b c (lt14_30 hb) (lt14_30 hc) (len14_28 hb hc) (mul28 hb hc) W t (by have : b * c ≠ 0 := Nat.ne_of_gt (Nat.mul_pos hb0 hc0); cases t <;> simp [this]))
  have H3 := Lib.hid (fun W => lowest_any sx t (a * d) (b * c) (Nat.lt_of_lt_of_le (mul_lt ha hd) pw28_29) (Nat.mul_pos hb0 hc0) (Nat.lt_of_lt_of_le (mul_lt hb hc) pw28_29) W r p q hp hq hr)
  clear ha hb hc hd hb0 hd0 hc0 hp hq hr hsx
  go_enter Tryz.func150, Tryz.ntmps150
  go_wp2
  have hT0 : Ff w B s a b t c d W.drew := HH.out.drew
  refine wp_region_held_drew (S := Ff w B s a b t c d) (by kernel_rfl) hT0 (fun hS => ?_)
  obtain ⟨wd, hwd⟩ : ∃ wd, W.drew = wd := ⟨_, rfl⟩
  rw [hwd] at hS hT0 ⊢
  clear hwd hT0 hW
  refine wpAnyH_take (i := 0) (v := .pointer (some ⟨B, 0, none⟩)) rfl (by kernel_rfl) (by kernel_rfl) (by kernel_rfl) (fun _ _ _ h => h) (Or.inl ⟨by rfl, fun w' h => by go_simp⟩) hS ?_
  try simp only [A1, A2, A3, Act.put, A4, A5, A6]
  refine wpAnyH_take (i := 1) rfl (by kernel_rfl) (by kernel_rfl) (by kernel_rfl) (fun _ _ _ h => h) (yS_range rfl (.tmp 5) rfl (B) 0 rfl (fun w' h => frac_range0 h.b0)) hS ?_
  try simp only [A1, A2, A3, Act.put, A4, A5, A6]
  refine wpAnyH_take (i := 2) (v := .pointer (some ⟨B + 1, 32, none⟩)) rfl (by kernel_rfl) (by kernel_rfl) (by kernel_rfl) (fun _ _ _ h => h) (Or.inl ⟨by rfl, fun w' h => by go_simp⟩) hS ?_
  try simp only [A1, A2, A3, Act.put, A4, A5, A6]
  refine wpAnyH_take (i := 3) rfl (by kernel_rfl) (by kernel_rfl) (by kernel_rfl) (fun _ _ _ h => h) (yS_range rfl (.tmp 7) rfl (B + 1) 32 rfl (fun w' h => frac_range1 h.b1)) hS ?_
  try simp only [A1, A2, A3, Act.put, A4, A5, A6]
  refine wpAnyH_take (i := 5) (v := .pointer (some ⟨B, 32, none⟩)) rfl (by kernel_rfl) (by kernel_rfl) (by kernel_rfl) (fun _ _ _ h => h) (Or.inl ⟨by rfl, fun w' h => by go_simp⟩) hS ?_
  try simp only [A1, A2, A3, Act.put, A4, A5, A6]
  refine wpAnyH_take (i := 6) rfl (by kernel_rfl) (by kernel_rfl) (by kernel_rfl) (fun _ _ _ h => h) (yS_range rfl (.tmp 10) rfl (B) 32 rfl (fun w' h => frac_range1 h.b0)) hS ?_
  try simp only [A1, A2, A3, Act.put, A4, A5, A6]
  refine wpAnyH_take (i := 7) (v := .pointer (some ⟨B + 1, 0, none⟩)) rfl (by kernel_rfl) (by kernel_rfl) (by kernel_rfl) (fun _ _ _ h => h) (Or.inl ⟨by rfl, fun w' h => by go_simp⟩) hS ?_
  try simp only [A1, A2, A3, Act.put, A4, A5, A6]
  refine wpAnyH_take (i := 8) rfl (by kernel_rfl) (by kernel_rfl) (by kernel_rfl) (fun _ _ _ h => h) (yS_range rfl (.tmp 12) rfl (B + 1) 0 rfl (fun w' h => frac_range0 h.b1)) hS ?_
  try simp only [A1, A2, A3, Act.put, A4, A5, A6]
  refine wpAnyH_ready (rs := [4]) (by kernel_rfl) (by simp) (AllReadyH.cons rfl (fun K hK => ?_) AllReadyH.nil)
  rw [if_pos (by rfl)]
  refine wp_callF 84 _ _ rfl _ (by kernel_rfl) (by kernel_rfl) (R := Below (World.heap wd).size wd) (H1.out _) (fun w1 hbn => ?_)
  have hT1 := hS.below hbn
  clear hS hbn
  refine hK.out _ _ hT1 (fun hS => ?_)
  clear hK K hT1
  try simp only [A1, A2, A3, Act.put, A4, A5, A6]
  refine wpAnyH_ready (rs := [9]) (by kernel_rfl) (by simp) (AllReadyH.cons rfl (fun K hK => ?_) AllReadyH.nil)
  rw [if_pos (by rfl)]
  refine wp_callF 84 _ _ rfl _ (by kernel_rfl) (by kernel_rfl) (R := Below (World.heap w1).size w1) (H2.out _) (fun w2 hbn => ?_)
  have hT1 := hS.below hbn
  clear hS hbn
  refine hK.out _ _ hT1 (fun hS => ?_)
  clear hK K hT1
  try simp only [A1, A2, A3, Act.put, A4, A5, A6]
  refine wpAnyH_ready (rs := [10]) (by kernel_rfl) (by simp) (AllReadyH.cons rfl (fun K hK => ?_) AllReadyH.nil)
  rw [if_pos (by rfl)]
  refine wp_callF 108 _ _ rfl _ (by kernel_rfl) (by kernel_rfl) (R := Below (World.heap w2).size w2) (H3.out _) (fun w3 hbn => ?_)
  have hT1 := hS.below hbn
  clear hS hbn
  refine hK.out _ _ hT1 (fun hS => ?_)
  clear hK K hT1
  try simp only [A1, A2, A3, Act.put, A4, A5, A6]
  refine wpAnyH_ready (rs := [11]) (by kernel_rfl) (by simp) (AllReadyH.cons rfl (fun K hK => ?_) AllReadyH.nil)
  rw [if_pos (by rfl)]
  obtain ⟨_, _, _, _, _, _, hb2⟩ := hS.b2
  refine wpF_store1 (.tmp 4) (.tmp 15) rfl (B + 2) (f := limb p) (u := len p) (s := r) (g := limb q) (v := len q) (t := false) rfl rfl hb2 ?_
  have hT2 := hS.ret (limb p) (len p) r (limb q) (len q) false
  clear hS
  refine hK.out _ _ hT2.1 (fun hS => ?_)
  clear hK K hS
  refine wpAnyH_done (by kernel_rfl) ?_ _
  go_wp2
  exact bodyPost_ret (retF rfl _ _ (B + 2) rfl hT2.2) rfl ⟨rfl, hB ▸ hT2.1.bl⟩

set_option maxHeartbeats 4000000 in
theorem plus_frac (s t : Bool) (a b c d : Nat) (ha : a < pw 14) (hb : b < pw 14) (hc : c < pw 14) (hd : d < pw 14) (hb0 : 0 < b) (hd0 : 0 < d) (sx sy sn : Bool) (hsx : (s && !decide (a * d = 0)) = sx) (hsy : (t && !decide (c * b = 0)) = sy) (n : Nat) (hn : sumS sx sy (a * d) (c * b) = (sn, n)) (p q : Nat) (hp : n / Nat.gcd n (b * d) = p) (hq : (b * d) / Nat.gcd n (b * d) = q) (r : Bool) (hr : ((sn != false) && !decide (p = 0)) = r) (w : World) :
    Calls Tryz.prog 147 #[.agg (frac s a false b), .agg (frac t c false d)] w fun e w' => e = .returned (.agg (frac r p false q)) ∧ Below w.heap.size w w' := by
  obtain ⟨B, hB⟩ : ∃ B, w.heap.size = B := ⟨_, rfl⟩
  obtain ⟨W, hW⟩ : ∃ W, ((w.alloc (.cells (frac s a false b) 114)).alloc (.cells (frac t c false d) 114)).alloc (.cells (fracF (fun _ => 0) 0 false (fun _ => 0) 0 false) 114) = W := ⟨_, rfl⟩
  have HH := Lib.hid (Ff.start (s := s) (t := t) (a := a) (b := b) (c := c) (d := d) hB hW)
  have hz0 := zeroFr
  have H1 := Lib.hid (fun W => by_any s false a d (lt14_30 ha) (lt14_30 hd) (len14_28 ha hd) (mul28 ha hd) W sx (by rw [ne_false]; exact hsx))
  have H2 := Lib.hid (fun W => by_any t false c b (lt14_30 hc) (lt14_30 hb) (len14_28 hc hb) (mul28 hc hb) W sy (by rw [ne_false]; exact hsy))
  have H4 := Lib.hid (fun W => sum_any sx sy (a * d) (c * b) (Nat.lt_of_lt_of_le (mul_lt ha hd) pw28_29) (Nat.lt_of_lt_of_le (mul_lt hc hb) pw28_29) W sn n hn)
  have H5 := Lib.hid (fun W => by_any false false b d (lt14_30 hb) (lt14_30 hd) (len14_28 hb hd) (mul28 hb hd) W false rfl)
  have H3 := Lib.hid (fun W => lowest_any sn false n (b * d) (sumS_29 (mul_lt ha hd) (mul_lt hc hb) hn) (Nat.mul_pos hb0 hd0) (Nat.lt_of_lt_of_le (mul_lt hb hd) pw28_29) W r p q hp hq hr)
  clear ha hb hc hd hb0 hd0 hp hq hr hsx hsy hn
  go_enter Tryz.func147, Tryz.ntmps147
  go_wp2
  have hT0 : Ff w B s a b t c d W.drew := HH.out.drew
  refine wp_region_held_drew (S := Ff w B s a b t c d) (by kernel_rfl) hT0 (fun hS => ?_)
  obtain ⟨wd, hwd⟩ : ∃ wd, W.drew = wd := ⟨_, rfl⟩
  rw [hwd] at hS hT0 ⊢
  clear hwd hT0 hW
  refine wpAnyH_take (i := 0) (v := .pointer (some ⟨B, 0, none⟩)) rfl (by kernel_rfl) (by kernel_rfl) (by kernel_rfl) (fun _ _ _ h => h) (Or.inl ⟨by rfl, fun w' h => by go_simp⟩) hS ?_
  try simp only [A1, A2, A3, Act.put, A4, A5, A6]
  refine wpAnyH_take (i := 1) rfl (by kernel_rfl) (by kernel_rfl) (by kernel_rfl) (fun _ _ _ h => h) (yS_range rfl (.tmp 5) rfl (B) 0 rfl (fun w' h => frac_range0 h.b0)) hS ?_
  try simp only [A1, A2, A3, Act.put, A4, A5, A6]
  refine wpAnyH_take (i := 2) (v := .pointer (some ⟨B + 1, 32, none⟩)) rfl (by kernel_rfl) (by kernel_rfl) (by kernel_rfl) (fun _ _ _ h => h) (Or.inl ⟨by rfl, fun w' h => by go_simp⟩) hS ?_
  try simp only [A1, A2, A3, Act.put, A4, A5, A6]
  refine wpAnyH_take (i := 3) rfl (by kernel_rfl) (by kernel_rfl) (by kernel_rfl) (fun _ _ _ h => h) (yS_range rfl (.tmp 7) rfl (B + 1) 32 rfl (fun w' h => frac_range1 h.b1)) hS ?_
  try simp only [A1, A2, A3, Act.put, A4, A5, A6]
  refine wpAnyH_take (i := 5) (v := .pointer (some ⟨B + 1, 0, none⟩)) rfl (by kernel_rfl) (by kernel_rfl) (by kernel_rfl) (fun _ _ _ h => h) (Or.inl ⟨by rfl, fun w' h => by go_simp⟩) hS ?_
  try simp only [A1, A2, A3, Act.put, A4, A5, A6]
  refine wpAnyH_take (i := 6) rfl (by kernel_rfl) (by kernel_rfl) (by kernel_rfl) (fun _ _ _ h => h) (yS_range rfl (.tmp 10) rfl (B + 1) 0 rfl (fun w' h => frac_range0 h.b1)) hS ?_
  try simp only [A1, A2, A3, Act.put, A4, A5, A6]
  refine wpAnyH_take (i := 7) (v := .pointer (some ⟨B, 32, none⟩)) rfl (by kernel_rfl) (by kernel_rfl) (by kernel_rfl) (fun _ _ _ h => h) (Or.inl ⟨by rfl, fun w' h => by go_simp⟩) hS ?_
  try simp only [A1, A2, A3, Act.put, A4, A5, A6]
  refine wpAnyH_take (i := 8) rfl (by kernel_rfl) (by kernel_rfl) (by kernel_rfl) (fun _ _ _ h => h) (yS_range rfl (.tmp 12) rfl (B) 32 rfl (fun w' h => frac_range1 h.b0)) hS ?_
  try simp only [A1, A2, A3, Act.put, A4, A5, A6]
  refine wpAnyH_take (i := 11) (v := .pointer (some ⟨B, 32, none⟩)) rfl (by kernel_rfl) (by kernel_rfl) (by kernel_rfl) (fun _ _ _ h => h) (Or.inl ⟨by rfl, fun w' h => by go_simp⟩) hS ?_
  try simp only [A1, A2, A3, Act.put, A4, A5, A6]
  refine wpAnyH_take (i := 12) rfl (by kernel_rfl) (by kernel_rfl) (by kernel_rfl) (fun _ _ _ h => h) (yS_range rfl (.tmp 16) rfl (B) 32 rfl (fun w' h => frac_range1 h.b0)) hS ?_
  try simp only [A1, A2, A3, Act.put, A4, A5, A6]
  refine wpAnyH_take (i := 13) (v := .pointer (some ⟨B + 1, 32, none⟩)) rfl (by kernel_rfl) (by kernel_rfl) (by kernel_rfl) (fun _ _ _ h => h) (Or.inl ⟨by rfl, fun w' h => by go_simp⟩) hS ?_
  try simp only [A1, A2, A3, Act.put, A4, A5, A6]
  refine wpAnyH_take (i := 14) rfl (by kernel_rfl) (by kernel_rfl) (by kernel_rfl) (fun _ _ _ h => h) (yS_range rfl (.tmp 18) rfl (B + 1) 32 rfl (fun w' h => frac_range1 h.b1)) hS ?_
  try simp only [A1, A2, A3, Act.put, A4, A5, A6]
  refine wpAnyH_ready (rs := [4]) (by kernel_rfl) (by simp) (AllReadyH.cons rfl (fun K hK => ?_) AllReadyH.nil)
  rw [if_pos (by rfl)]
  refine wp_callF 84 _ _ rfl _ (by kernel_rfl) (by kernel_rfl) (R := Below (World.heap wd).size wd) (H1.out _) (fun w1 hbn => ?_)
  have hT1 := hS.below hbn
  clear hS hbn
  refine hK.out _ _ hT1 (fun hS => ?_)
  clear hK K hT1
  try simp only [A1, A2, A3, Act.put, A4, A5, A6]
  refine wpAnyH_ready (rs := [9]) (by kernel_rfl) (by simp) (AllReadyH.cons rfl (fun K hK => ?_) AllReadyH.nil)
  rw [if_pos (by rfl)]
  refine wp_callF 84 _ _ rfl _ (by kernel_rfl) (by kernel_rfl) (R := Below (World.heap w1).size w1) (H2.out _) (fun w2 hbn => ?_)
  have hT1 := hS.below hbn
  clear hS hbn
  refine hK.out _ _ hT1 (fun hS => ?_)
  clear hK K hT1
  try simp only [A1, A2, A3, Act.put, A4, A5, A6]
  refine wpAnyH_ready (rs := [10]) (by kernel_rfl) (by simp) (AllReadyH.cons rfl (fun K hK => ?_) AllReadyH.nil)
  rw [if_pos (by rfl)]
  refine wp_callF 80 _ _ rfl _ (by kernel_rfl) (by kernel_rfl) (R := Below (World.heap w2).size w2) (H4.out _) (fun w3 hbn => ?_)
  have hT1 := hS.below hbn
  clear hS hbn
  refine hK.out _ _ hT1 (fun hS => ?_)
  clear hK K hT1
  try simp only [A1, A2, A3, Act.put, A4, A5, A6]
  refine wpAnyH_ready (rs := [15]) (by kernel_rfl) (by simp) (AllReadyH.cons rfl (fun K hK => ?_) AllReadyH.nil)
  rw [if_pos (by rfl)]
  refine wp_callF 84 _ _ rfl _ (by kernel_rfl) (by kernel_rfl) (R := Below (World.heap w3).size w3) (H5.out _) (fun w4 hbn => ?_)
  have hT1 := hS.below hbn
  clear hS hbn
  refine hK.out _ _ hT1 (fun hS => ?_)
  clear hK K hT1
  try simp only [A1, A2, A3, Act.put, A4, A5, A6]
  refine wpAnyH_ready (rs := [16]) (by kernel_rfl) (by simp) (AllReadyH.cons rfl (fun K hK => ?_) AllReadyH.nil)
  rw [if_pos (by rfl)]
  refine wp_callF 108 _ _ rfl _ (by kernel_rfl) (by kernel_rfl) (R := Below (World.heap w4).size w4) (H3.out _) (fun w5 hbn => ?_)
  have hT1 := hS.below hbn
  clear hS hbn
  refine hK.out _ _ hT1 (fun hS => ?_)
  clear hK K hT1
  try simp only [A1, A2, A3, Act.put, A4, A5, A6]
  refine wpAnyH_ready (rs := [17]) (by kernel_rfl) (by simp) (AllReadyH.cons rfl (fun K hK => ?_) AllReadyH.nil)
  rw [if_pos (by rfl)]
  obtain ⟨_, _, _, _, _, _, hb2⟩ := hS.b2
  refine wpF_store1 (.tmp 4) (.tmp 21) rfl (B + 2) (f := limb p) (u := len p) (s := r) (g := limb q) (v := len q) (t := false) rfl rfl hb2 ?_
  have hT2 := hS.ret (limb p) (len p) r (limb q) (len q) false
  clear hS
  refine hK.out _ _ hT2.1 (fun hS => ?_)
  clear hK K hS
  refine wpAnyH_done (by kernel_rfl) ?_ _
  go_wp2
  exact bodyPost_ret (retF rfl _ _ (B + 2) rfl hT2.2) rfl ⟨rfl, hB ▸ hT2.1.bl⟩

set_option maxHeartbeats 4000000 in
theorem minus_frac (s t : Bool) (a b c d : Nat) (ha : a < pw 14) (hb : b < pw 14) (hc : c < pw 14) (hd : d < pw 14) (hb0 : 0 < b) (hd0 : 0 < d) (t2 sx sy sn : Bool) (ht2 : ((!t) && !decide (c = 0)) = t2) (hsx : (s && !decide (a * d = 0)) = sx) (hsy : (t2 && !decide (c * b = 0)) = sy) (n : Nat) (hn : sumS sx sy (a * d) (c * b) = (sn, n)) (p q : Nat) (hp : n / Nat.gcd n (b * d) = p) (hq : (b * d) / Nat.gcd n (b * d) = q) (r : Bool) (hr : ((sn != false) && !decide (p = 0)) = r) (w : World) :
    Calls Tryz.prog 148 #[.agg (frac s a false b), .agg (frac t c false d)] w fun e w' => e = .returned (.agg (frac r p false q)) ∧ Below w.heap.size w w' := by
  obtain ⟨B, hB⟩ : ∃ B, w.heap.size = B := ⟨_, rfl⟩
  obtain ⟨W, hW⟩ : ∃ W, ((w.alloc (.cells (frac s a false b) 114)).alloc (.cells (frac t c false d) 114)).alloc (.cells (fracF (fun _ => 0) 0 false (fun _ => 0) 0 false) 114) = W := ⟨_, rfl⟩
  have HH := Lib.hid (Ff.start (s := s) (t := t) (a := a) (b := b) (c := c) (d := d) hB hW)
  have hz0 := zeroFr
  have H1 := Lib.hid (fun W => negated_any t c (lt14_30 hc) W t2 ht2)
  have H2 := Lib.hid (fun W => plus_frac s t2 a b c d ha hb hc hd hb0 hd0 sx sy sn hsx hsy n hn p q hp hq r hr W)
  clear ha hb hc hd hb0 hd0 hp hq hr hsx hsy hn ht2
  go_enter Tryz.func148, Tryz.ntmps148
  go_wp2
  have hT0 : Ff w B s a b t c d W.drew := HH.out.drew
  refine wp_region_held_drew (S := Ff w B s a b t c d) (by kernel_rfl) hT0 (fun hS => ?_)
  obtain ⟨wd, hwd⟩ : ∃ wd, W.drew = wd := ⟨_, rfl⟩
  rw [hwd] at hS hT0 ⊢
  clear hwd hT0 hW
  refine wpAnyH_take (i := 0) rfl (by kernel_rfl) (by kernel_rfl) (by kernel_rfl) (fun _ _ _ h => h) (yF_load rfl (.tmp 2) rfl B rfl (fun w' h => h.b0)) hS ?_
  try simp only [A1, A2, A3, Act.put, A4, A5, A6]
  refine wpAnyH_take (i := 1) (v := .pointer (some ⟨B + 1, 0, none⟩)) rfl (by kernel_rfl) (by kernel_rfl) (by kernel_rfl) (fun _ _ _ h => h) (Or.inl ⟨by rfl, fun w' h => by go_simp⟩) hS ?_
  try simp only [A1, A2, A3, Act.put, A4, A5, A6]
  refine wpAnyH_take (i := 2) rfl (by kernel_rfl) (by kernel_rfl) (by kernel_rfl) (fun _ _ _ h => h) (yS_range rfl (.tmp 6) rfl (B + 1) 0 rfl (fun w' h => frac_range0 h.b1)) hS ?_
  try simp only [A1, A2, A3, Act.put, A4, A5, A6]
  refine wpAnyH_take (i := 4) (v := .pointer (some ⟨B + 1, 32, none⟩)) rfl (by kernel_rfl) (by kernel_rfl) (by kernel_rfl) (fun _ _ _ h => h) (Or.inl ⟨by rfl, fun w' h => by go_simp⟩) hS ?_
  try simp only [A1, A2, A3, Act.put, A4, A5, A6]
  refine wpAnyH_take (i := 5) rfl (by kernel_rfl) (by kernel_rfl) (by kernel_rfl) (fun _ _ _ h => h) (yS_range rfl (.tmp 9) rfl (B + 1) 32 rfl (fun w' h => frac_range1 h.b1)) hS ?_
  try simp only [A1, A2, A3, Act.put, A4, A5, A6]
  refine wpAnyH_ready (rs := [3]) (by kernel_rfl) (by simp) (AllReadyH.cons rfl (fun K hK => ?_) AllReadyH.nil)
  rw [if_pos (by rfl)]
  refine wp_callF 76 _ _ rfl _ (by kernel_rfl) (by kernel_rfl) (R := Below (World.heap wd).size wd) (H1.out _) (fun w1 hbn => ?_)
  have hT1 := hS.below hbn
  clear hS hbn
  refine hK.out _ _ hT1 (fun hS => ?_)
  clear hK K hT1
  try simp only [A1, A2, A3, Act.put, A4, A5, A6]
  refine wpAnyH_take (i := 6) rfl (by kernel_rfl) (by kernel_rfl) (by kernel_rfl) (fun _ _ _ h => h) (yF_build rfl (.tmp 8) (.tmp 10) rfl (f := limb c) (u := len c) (s := t2) (g := limb d) (v := len d) (t := false) rfl rfl) hS ?_
  try simp only [A1, A2, A3, Act.put, A4, A5, A6]
  refine wpAnyH_ready (rs := [7]) (by kernel_rfl) (by simp) (AllReadyH.cons rfl (fun K hK => ?_) AllReadyH.nil)
  rw [if_pos (by rfl)]
  refine wp_callF 147 _ _ rfl _ (by kernel_rfl) (by kernel_rfl) (R := Below (World.heap w1).size w1) (H2.out _) (fun w2 hbn => ?_)
  have hT1 := hS.below hbn
  clear hS hbn
  refine hK.out _ _ hT1 (fun hS => ?_)
  clear hK K hT1
  try simp only [A1, A2, A3, Act.put, A4, A5, A6]
  refine wpAnyH_ready (rs := [8]) (by kernel_rfl) (by simp) (AllReadyH.cons rfl (fun K hK => ?_) AllReadyH.nil)
  rw [if_pos (by rfl)]
  obtain ⟨_, _, _, _, _, _, hb2⟩ := hS.b2
  refine wpF_store1 (.tmp 4) (.tmp 12) rfl (B + 2) (f := limb p) (u := len p) (s := r) (g := limb q) (v := len q) (t := false) rfl rfl hb2 ?_
  have hT2 := hS.ret (limb p) (len p) r (limb q) (len q) false
  clear hS
  refine hK.out _ _ hT2.1 (fun hS => ?_)
  clear hK K hS
  refine wpAnyH_done (by kernel_rfl) ?_ _
  go_wp2
  exact bodyPost_ret (retF rfl _ _ (B + 2) rfl hT2.2) rfl ⟨rfl, hB ▸ hT2.1.bl⟩
end Go.Proofs.YtjemolaobhlapaaGreatDoor
