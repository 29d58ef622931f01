/- signed: negated, order, by, plus. -/
import Derived.Test.YtjemolaobhlapaaGreatDoorN18
set_option linter.unusedSimpArgs false
set_option linter.unusedVariables false
namespace Go.Proofs.YtjemolaobhlapaaGreatDoor
open Go.RowKit
set_option maxRecDepth 100000

set_option maxHeartbeats 4000000 in
theorem negated_any (s : Bool) (n : Nat) (hn : n < pw 30) (w : World) (r : Bool) (hr : ((!s) && !decide (n = 0)) = r) :
    Calls Tryz.prog 76 #[.agg (sig s n)] w fun e w' => e = .returned (.agg (sig r n)) ∧ Below w.heap.size w w' := by
  obtain ⟨B, hB⟩ : ∃ B, w.heap.size = B := ⟨_, rfl⟩
  obtain ⟨W, hW⟩ : ∃ W, (w.alloc (.cells (sig s n) 82)).alloc (.cells (sigF (fun _ => 0) 0 false) 82) = W := ⟨_, rfl⟩
  have HH := Lib.hid (show BlockIs W B 82 (sigF (limb n) (len n) s) ∧ BlockIs W (B + 1) 82 (sigF (fun _ => 0) 0 false) ∧ Below B w W by
    rw [← hW, ← hB]
    refine ⟨(BlockIs.new w _ _).alloc _, ?_, ((Below.refl _ _).alloc (Nat.le_refl _) _).alloc (by simp) _⟩
    have := BlockIs.new (w.alloc (.cells (sig s n) 82)) 82 (sigF (fun _ => 0) 0 false)
    rwa [World.size_alloc] at this)
  have HS := Lib.hid (fun W => withSign_any (!s) n hn W r hr)
  have c31 := sig_neg HH.out.1
  have hz0 := zeroS
  clear hr hn
  go_enter Tryz.func76, Tryz.ntmps76
  go_wp2_with (first | ((with_reducible refine wpSM_load (.tmp 6) B ?_ HH.out.1 ?_); rfl) | (go_at_call 130; refine (HS.out _).mono ?_; rintro e w2 ⟨rfl, hb2⟩; have HH2 := Lib.hid (And.intro (HH.out.2.1.below hb2 HH.out.2.1.lt) (HH.out.2.2.trans (hb2.mono (by have := HH.out.1.lt; omega))))) | ((with_reducible refine wpS_store (.tmp 2) (.tmp 8) (B + 1) (f := limb n) (u := len n) (s := r) ?_ ?_ HH2.out.1 ?_); rfl; rfl))
  exact bodyPost_ret (retS rfl _ _ (B + 1) rfl (HH2.out.1.row _)) rfl ⟨rfl, hB ▸ below_row HH2.out.2 _ _ (by omega)⟩

structure Sg (w0 : World) (B : Nat) (s : Bool) (a : Nat) (t : Bool) (b : Nat) (w : World) : Prop where
  b0 : BlockIs w B 82 (sigF (limb a) (len a) s)
  b1 : BlockIs w (B + 1) 82 (sigF (limb b) (len b) t)
  bl : Below B w0 w
theorem Sg.below {w0 : World} {B a b : Nat} {s t : Bool} {w w' : World} (h : Sg w0 B s a t b w) (hb : Below w.heap.size w w') : Sg w0 B s a t b w' :=
  ⟨h.b0.below hb h.b0.lt, h.b1.below hb h.b1.lt, h.bl.trans (hb.mono (by have := h.b0.lt; omega))⟩
theorem Sg.row {w0 : World} {B a b : Nat} {s t : Bool} {w : World} (h : Sg w0 B s a t b w) (cs : Array Value) : Sg w0 B s a t b (w.setRow (B + 2) cs) :=
  ⟨h.b0.rowOther _ _ (by omega), h.b1.rowOther _ _ (by omega), below_row h.bl _ _ (by omega)⟩
theorem Sg.start {w W : World} {B a b : Nat} {s t : Bool} (hB : w.heap.size = B) (hW : (w.alloc (.cells (sig s a) 82)).alloc (.cells (sig t b) 82) = W) : Sg w B s a t b W := by
  rw [← hW, ← hB]
  refine ⟨(BlockIs.new w _ _).alloc _, ?_, ((Below.refl _ _).alloc (Nat.le_refl _) _).alloc (by simp) _⟩
  have := BlockIs.new (w.alloc (.cells (sig s a) 82)) 82 (sig t b)
  rwa [World.size_alloc] at this
theorem Sg.swap {w0 : World} {B a b : Nat} {s t : Bool} {w : World} (h : Sg w0 B s a t b w) : Sg w0 B t b s a ((w.setRow B (sigF (limb b) (len b) t)).setRow (B + 1) (sigF (limb a) (len a) s)) :=
  ⟨(h.b0.row _).rowOther _ _ (by omega), (h.b1.rowOther _ _ (by omega)).row _, below_row (below_row h.bl _ _ (by omega)) _ _ (by omega)⟩

def orderS (s t : Bool) (a b : Nat) : Int := if s then (if t then cmpN b a else -1) else (if t then 1 else cmpN a b)
set_option maxHeartbeats 4000000 in
theorem order_any (s t : Bool) (a b : Nat) (ha : a < pw 30) (hb : b < pw 30) (w : World) (r : Int) (hr : orderS s t a b = r) :
    Calls Tryz.prog 90 #[.agg (sig s a), .agg (sig t b)] w fun e w' => e = .returned (.int .i64 r) ∧ Below w.heap.size w w' := by
  obtain ⟨B, hB⟩ : ∃ B, w.heap.size = B := ⟨_, rfl⟩
  obtain ⟨W, hW⟩ : ∃ W, (w.alloc (.cells (sig s a) 82)).alloc (.cells (sig t b) 82) = W := ⟨_, rfl⟩
  have HH := Lib.hid (Sg.start hB hW)
  have HR := Lib.hid hr
  have HA := Lib.hid (fun W x h => compare_any a b ha hb W x h)
  have HB := Lib.hid (fun W x h => compare_any b a hb ha W x h)
  clear hr ha hb
  have c31 := sig_neg HH.out.b0
  have d31 := sig_neg HH.out.b1
  cases s <;> cases t
  all_goals
    go_enter Tryz.func90, Tryz.ntmps90
    go_wp2_with (first | ((with_reducible refine wpSM_load (.tmp 15) (B + 1) ?_ HH.out.b1 ?_); rfl) | ((with_reducible refine wpSM_load (.tmp 14) (B + 1) ?_ HH.out.b1 ?_); rfl) | ((with_reducible refine wpSM_load (.tmp 16) B ?_ HH.out.b0 ?_); rfl) | ((with_reducible refine wpSM_load (.tmp 26) B ?_ HH.out.b0 ?_); rfl) | ((with_reducible refine wpSM_load (.tmp 28) (B + 1) ?_ HH.out.b1 ?_); rfl) | (go_at_call 70; (first | (refine (HA.out _ r HR.out).mono ?_) | (refine (HB.out _ r HR.out).mono ?_)); rintro e w2 ⟨rfl, hb2⟩; have HH2 := Lib.hid (HH.out.below hb2)))
    first | (go_ret; exact ⟨rfl, hB ▸ HH2.out.bl⟩) | (go_ret; exact ⟨ret_int HR.out, hB ▸ HH.out.bl⟩)

structure Sh (w0 : World) (B : Nat) (s : Bool) (a : Nat) (t : Bool) (b : Nat) (w : World) : Prop where
  g : Sg w0 B s a t b w
  b2 : ∃ f u q, BlockIs w (B + 2) 82 (sigF f u q)
theorem Sh.below {w0 : World} {B a b : Nat} {s t : Bool} {w w' : World} (h : Sh w0 B s a t b w) (hb : Below w.heap.size w w') : Sh w0 B s a t b w' := by
  obtain ⟨h0, f, u, q, h1⟩ := h
  exact ⟨h0.below hb, f, u, q, h1.below hb h1.lt⟩
theorem Sh.start {w W : World} {B a b : Nat} {s t : Bool} (hB : w.heap.size = B) (hW : ((w.alloc (.cells (sig s a) 82)).alloc (.cells (sig t b) 82)).alloc (.cells (sigF (fun _ => 0) 0 false) 82) = W) : Sh w B s a t b W := by
  have h := Sg.start (w := w) (s := s) (t := t) (a := a) (b := b) hB rfl
  have hs : ((w.alloc (.cells (sig s a) 82)).alloc (.cells (sig t b) 82)).heap.size = B + 2 := by rw [World.size_alloc, World.size_alloc, hB]
  rw [← hW]
  refine ⟨⟨h.b0.alloc _, h.b1.alloc _, h.bl.alloc (by omega) _⟩, (fun _ => 0), 0, false, ?_⟩
  have := BlockIs.new ((w.alloc (.cells (sig s a) 82)).alloc (.cells (sig t b) 82)) 82 (sigF (fun _ => 0) 0 false)
  rwa [hs] at this
theorem Sh.row {w0 : World} {B a b : Nat} {s t : Bool} {w : World} (h : Sh w0 B s a t b w) (f : Nat → Nat) (u : Nat) (q : Bool) : Sh w0 B s a t b (w.setRow (B + 2) (sigF f u q)) ∧ BlockIs (w.setRow (B + 2) (sigF f u q)) (B + 2) 82 (sigF f u q) := by
  obtain ⟨h0, f', u', q', h1⟩ := h
  exact ⟨⟨h0.row _, _, _, _, h1.row _⟩, h1.row _⟩
theorem Sh.ret {w0 : World} {B a b : Nat} {s t : Bool} {w : World} (h : Sh w0 B s a t b w) : Below B w0 w := h.g.bl

set_option maxHeartbeats 4000000 in
theorem by_any (s t : Bool) (a b : Nat) (ha : a < pw 30) (hb : b < pw 30) (hab : len a + len b ≤ 30) (hm : a * b < pw 30) (w : World) (r : Bool) (hr : ((s != t) && !decide (a * b = 0)) = r) :
    Calls Tryz.prog 84 #[.agg (sig s a), .agg (sig t b)] w fun e w' => e = .returned (.agg (sig r (a * b))) ∧ Below w.heap.size w w' := by
  obtain ⟨B, hB⟩ : ∃ B, w.heap.size = B := ⟨_, rfl⟩
  obtain ⟨W, hW⟩ : ∃ W, ((w.alloc (.cells (sig s a) 82)).alloc (.cells (sig t b) 82)).alloc (.cells (sigF (fun _ => 0) 0 false) 82) = W := ⟨_, rfl⟩
  have hH0 := Sh.start hB hW
  have HT := Lib.hid (fun W => times_any a b ha hb hab W)
  have HS := Lib.hid (fun W => withSign_any (s != t) (a * b) hm W r hr)
  obtain ⟨m, hm⟩ : ∃ m, a * b = m := ⟨_, rfl⟩
  rw [hm] at HT HS ⊢
  have hz0 := zeroS
  clear hr hm ha hb hab
  go_enter Tryz.func84, Tryz.ntmps84
  go_wp2
  clear hz0 hW
  have hS0 : Sh w B s a t b W.drew := ⟨⟨hH0.g.b0.drew, hH0.g.b1.drew, hH0.g.bl.drew⟩, by obtain ⟨_, f, u, q, h⟩ := hH0; exact ⟨f, u, q, h.drew⟩⟩
  refine wp_region_held_drew (S := fun w' => Sh w B s a t b w') (by kernel_rfl) hS0 (fun hS => ?_)
  refine wpAnyH_take (i := 0) (v := .pointer (some ⟨B, 31, none⟩)) rfl (by kernel_rfl) (by kernel_rfl) (by kernel_rfl) (fun _ _ _ h => h) (Or.inl ⟨by rfl, fun w' h => by go_simp⟩) hS ?_
  try simp only [A1, A2, A3, Act.put, A4, A5, A6]
  refine wpAnyH_take (i := 1) rfl (by kernel_rfl) (by kernel_rfl) (by kernel_rfl) (fun _ _ _ h => h) (ySN_load rfl (.tmp 5) rfl B rfl (fun w' h => h.g.b0)) hS ?_
  try simp only [A1, A2, A3, Act.put, A4, A5, A6]
  refine wpAnyH_take (i := 2) (v := .pointer (some ⟨B + 1, 31, none⟩)) rfl (by kernel_rfl) (by kernel_rfl) (by kernel_rfl) (fun _ _ _ h => h) (Or.inl ⟨by rfl, fun w' h => by go_simp⟩) hS ?_
  try simp only [A1, A2, A3, Act.put, A4, A5, A6]
  refine wpAnyH_take (i := 3) rfl (by kernel_rfl) (by kernel_rfl) (by kernel_rfl) (fun _ _ _ h => h) (ySN_load rfl (.tmp 7) rfl (B + 1) rfl (fun w' h => h.g.b1)) hS ?_
  try simp only [A1, A2, A3, Act.put, A4, A5, A6]
  refine wpAnyH_take (i := 4) (v := .bool (s != t)) rfl (by kernel_rfl) (by kernel_rfl) (by kernel_rfl) (fun _ _ _ h => h) (Or.inl ⟨by rfl, fun w' h => by go_simp; cases s <;> cases t <;> rfl⟩) hS ?_
  try simp only [A1, A2, A3, Act.put, A4, A5, A6]
  refine wpAnyH_take (i := 5) (v := .pointer (some ⟨B, 0, none⟩)) rfl (by kernel_rfl) (by kernel_rfl) (by kernel_rfl) (fun _ _ _ h => h) (Or.inl ⟨by rfl, fun w' h => by go_simp⟩) hS ?_
  try simp only [A1, A2, A3, Act.put, A4, A5, A6]
  refine wpAnyH_take (i := 6) rfl (by kernel_rfl) (by kernel_rfl) (by kernel_rfl) (fun _ _ _ h => h) (ySM_load rfl (.tmp 10) rfl B rfl (fun w' h => h.g.b0)) hS ?_
  try simp only [A1, A2, A3, Act.put, A4, A5, A6]
  refine wpAnyH_take (i := 7) (v := .pointer (some ⟨B + 1, 0, none⟩)) rfl (by kernel_rfl) (by kernel_rfl) (by kernel_rfl) (fun _ _ _ h => h) (Or.inl ⟨by rfl, fun w' h => by go_simp⟩) hS ?_
  try simp only [A1, A2, A3, Act.put, A4, A5, A6]
  refine wpAnyH_take (i := 8) rfl (by kernel_rfl) (by kernel_rfl) (by kernel_rfl) (fun _ _ _ h => h) (ySM_load rfl (.tmp 12) rfl (B + 1) rfl (fun w' h => h.g.b1)) hS ?_
  try simp only [A1, A2, A3, Act.put, A4, A5, A6]
  refine wpAnyH_ready (rs := [9]) (by kernel_rfl) (by simp) (AllReadyH.cons rfl (fun K hK => ?_) AllReadyH.nil)
  go_simp
  go_at_call 140
  refine (HT.out _).mono ?_
  rintro e w2 ⟨rfl, hb2⟩
  have hS2 := hS.below hb2
  clear hS
  refine hK.out _ _ hS2 (fun hS => ?_)
  clear hK K
  try simp only [A1, A2, A3, Act.put, A4, A5, A6]
  refine wpAnyH_ready (rs := [10]) (by kernel_rfl) (by simp) (AllReadyH.cons rfl (fun K hK => ?_) AllReadyH.nil)
  go_simp
  go_at_call 130
  refine (HS.out _).mono ?_
  rintro e w3 ⟨rfl, hb3⟩
  have hS3 := hS2.below hb3
  clear hS
  refine hK.out _ _ hS3 (fun hS => ?_)
  clear hK K
  try simp only [A1, A2, A3, Act.put, A4, A5, A6]
  obtain ⟨f2, u2, q2, hC3⟩ := hS3.b2
  refine wpAnyH_ready (rs := [11]) (by kernel_rfl) (by simp) (AllReadyH.cons rfl (fun K hK => ?_) AllReadyH.nil)
  rw [if_pos (by rfl)]
  refine wpS_store1 (.tmp 4) (.tmp 15) rfl (B + 2) (f := limb m) (u := len m) (s := r) rfl rfl hC3 ?_
  have hS4 := hS3.row (limb m) (len m) r
  clear hS
  refine hK.out _ _ hS4.1 (fun hS => ?_)
  clear hK K
  refine wpAnyH_done (by kernel_rfl) ?_ _
  go_wp2
  exact bodyPost_ret (retS rfl _ _ (B + 2) rfl hS4.2) rfl ⟨rfl, hB ▸ hS4.1.ret⟩
theorem Sh.dr {w0 : World} {B a b : Nat} {s t : Bool} {w : World} (h : Sh w0 B s a t b w) : Sh w0 B s a t b w.drew :=
  ⟨⟨h.g.b0.drew, h.g.b1.drew, h.g.bl.drew⟩, by obtain ⟨_, f, u, q, h⟩ := h; exact ⟨f, u, q, h.drew⟩⟩
theorem Sh.swap {w0 : World} {B a b : Nat} {s t : Bool} {w : World} (h : Sh w0 B s a t b w) : Sh w0 B t b s a ((w.setRow B (sigF (limb b) (len b) t)).setRow (B + 1) (sigF (limb a) (len a) s)) :=
  ⟨h.g.swap, by obtain ⟨_, f, u, q, h⟩ := h; exact ⟨f, u, q, (h.rowOther _ _ (by omega)).rowOther _ _ (by omega)⟩⟩
theorem Sh.half {w0 : World} {B a b : Nat} {s t : Bool} {w : World} (h : Sh w0 B s a t b w) : BlockIs (w.setRow B (sigF (limb b) (len b) t)) (B + 1) 82 (sigF (limb b) (len b) t) := h.g.b1.rowOther _ _ (by omega)

set_option maxHeartbeats 4000000 in
theorem plus_same (s : Bool) (a b : Nat) (ha : a < pw 29) (hb : b < pw 29) (w : World) (r : Bool) (hr : (s && !decide (a + b = 0)) = r) :
    Calls Tryz.prog 80 #[.agg (sig s a), .agg (sig s b)] w fun e w' => e = .returned (.agg (sig r (a + b))) ∧ Below w.heap.size w w' := by
  obtain ⟨B, hB⟩ : ∃ B, w.heap.size = B := ⟨_, rfl⟩
  obtain ⟨W, hW⟩ : ∃ W, ((w.alloc (.cells (sig s a) 82)).alloc (.cells (sig s b) 82)).alloc (.cells (sigF (fun _ => 0) 0 false) 82) = W := ⟨_, rfl⟩
  have hH0 := Sh.start hB hW
  have hm : a + b < pw 30 := by have h3 : pw 30 = pw 29 * 1000000000 := rfl; omega
  have HT := Lib.hid (fun W => plus_any a b ha hb W)
  have HS := Lib.hid (fun W => withSign_any s (a + b) hm W r hr)
  obtain ⟨m, hm2⟩ : ∃ m, a + b = m := ⟨_, rfl⟩
  rw [hm2] at HT HS ⊢
  have hz0 := zeroS
  clear hr hm2 hm ha hb
  have c31 := sig_neg hH0.g.b0
  have d31 := sig_neg hH0.g.b1
  have HH := Lib.hid hH0
  clear hH0
  cases s
  all_goals
    go_enter Tryz.func80, Tryz.ntmps80
    go_wp2
    clear hz0 hW c31 d31
  · have hS0 : Sh w B false a false b W.drew := (HH.out).dr
    refine wp_region_held_drew (S := fun w' => Sh w B false a false b w') (by kernel_rfl) hS0 (fun hS => ?_)
    refine wpAnyH_take (i := 0) (v := .pointer (some ⟨B, 31, none⟩)) rfl (by kernel_rfl) (by kernel_rfl) (by kernel_rfl) (fun _ _ _ h => h) (Or.inl ⟨by rfl, fun w' h => by go_simp⟩) hS ?_
    try simp only [A1, A2, A3, Act.put, A4, A5, A6]
    refine wpAnyH_take (i := 1) rfl (by kernel_rfl) (by kernel_rfl) (by kernel_rfl) (fun _ _ _ h => h) (ySN_load rfl (.tmp 10) rfl B rfl (fun w' h => h.g.b0)) hS ?_
    try simp only [A1, A2, A3, Act.put, A4, A5, A6]
    refine wpAnyH_take (i := 2) (v := .pointer (some ⟨B, 0, none⟩)) rfl (by kernel_rfl) (by kernel_rfl) (by kernel_rfl) (fun _ _ _ h => h) (Or.inl ⟨by rfl, fun w' h => by go_simp⟩) hS ?_
    try simp only [A1, A2, A3, Act.put, A4, A5, A6]
    refine wpAnyH_take (i := 3) rfl (by kernel_rfl) (by kernel_rfl) (by kernel_rfl) (fun _ _ _ h => h) (ySM_load rfl (.tmp 12) rfl B rfl (fun w' h => h.g.b0)) hS ?_
    try simp only [A1, A2, A3, Act.put, A4, A5, A6]
    refine wpAnyH_take (i := 4) (v := .pointer (some ⟨B + 1, 0, none⟩)) rfl (by kernel_rfl) (by kernel_rfl) (by kernel_rfl) (fun _ _ _ h => h) (Or.inl ⟨by rfl, fun w' h => by go_simp⟩) hS ?_
    try simp only [A1, A2, A3, Act.put, A4, A5, A6]
    refine wpAnyH_take (i := 5) rfl (by kernel_rfl) (by kernel_rfl) (by kernel_rfl) (fun _ _ _ h => h) (ySM_load rfl (.tmp 14) rfl (B + 1) rfl (fun w' h => h.g.b1)) hS ?_
    try simp only [A1, A2, A3, Act.put, A4, A5, A6]
    refine wpAnyH_ready (rs := [6]) (by kernel_rfl) (by simp) (AllReadyH.cons rfl (fun K hK => ?_) AllReadyH.nil)
    go_simp
    go_at_call 135
    refine (HT.out _).mono ?_
    rintro e w2 ⟨rfl, hb2⟩
    have hS2 := hS.below hb2
    clear hS
    refine hK.out _ _ hS2 (fun hS => ?_)
    clear hK K
    try simp only [A1, A2, A3, Act.put, A4, A5, A6]
    refine wpAnyH_ready (rs := [7]) (by kernel_rfl) (by simp) (AllReadyH.cons rfl (fun K hK => ?_) AllReadyH.nil)
    go_simp
    go_at_call 130
    refine (HS.out _).mono ?_
    rintro e w3 ⟨rfl, hb3⟩
    have hS3 := hS2.below hb3
    clear hS
    refine hK.out _ _ hS3 (fun hS => ?_)
    clear hK K
    try simp only [A1, A2, A3, Act.put, A4, A5, A6]
    obtain ⟨f2, u2, q2, hC3⟩ := hS3.b2
    refine wpAnyH_ready (rs := [8]) (by kernel_rfl) (by simp) (AllReadyH.cons rfl (fun K hK => ?_) AllReadyH.nil)
    rw [if_pos (by rfl)]
    refine wpS_store1 (.tmp 4) (.tmp 17) rfl (B + 2) (f := limb m) (u := len m) (s := r) rfl rfl hC3 ?_
    have hS4 := hS3.row (limb m) (len m) r
    clear hS
    refine hK.out _ _ hS4.1 (fun hS => ?_)
    clear hK K
    refine wpAnyH_done (by kernel_rfl) ?_ _
    go_wp2
    exact bodyPost_ret (retS rfl _ _ (B + 2) rfl hS4.2) rfl ⟨rfl, hB ▸ hS4.1.ret⟩
  · have hS0 : Sh w B true a true b W.drew := (HH.out).dr
    refine wp_region_held_drew (S := fun w' => Sh w B true a true b w') (by kernel_rfl) hS0 (fun hS => ?_)
    refine wpAnyH_take (i := 0) (v := .pointer (some ⟨B, 31, none⟩)) rfl (by kernel_rfl) (by kernel_rfl) (by kernel_rfl) (fun _ _ _ h => h) (Or.inl ⟨by rfl, fun w' h => by go_simp⟩) hS ?_
    try simp only [A1, A2, A3, Act.put, A4, A5, A6]
    refine wpAnyH_take (i := 1) rfl (by kernel_rfl) (by kernel_rfl) (by kernel_rfl) (fun _ _ _ h => h) (ySN_load rfl (.tmp 10) rfl B rfl (fun w' h => h.g.b0)) hS ?_
    try simp only [A1, A2, A3, Act.put, A4, A5, A6]
    refine wpAnyH_take (i := 2) (v := .pointer (some ⟨B, 0, none⟩)) rfl (by kernel_rfl) (by kernel_rfl) (by kernel_rfl) (fun _ _ _ h => h) (Or.inl ⟨by rfl, fun w' h => by go_simp⟩) hS ?_
    try simp only [A1, A2, A3, Act.put, A4, A5, A6]
    refine wpAnyH_take (i := 3) rfl (by kernel_rfl) (by kernel_rfl) (by kernel_rfl) (fun _ _ _ h => h) (ySM_load rfl (.tmp 12) rfl B rfl (fun w' h => h.g.b0)) hS ?_
    try simp only [A1, A2, A3, Act.put, A4, A5, A6]
    refine wpAnyH_take (i := 4) (v := .pointer (some ⟨B + 1, 0, none⟩)) rfl (by kernel_rfl) (by kernel_rfl) (by kernel_rfl) (fun _ _ _ h => h) (Or.inl ⟨by rfl, fun w' h => by go_simp⟩) hS ?_
    try simp only [A1, A2, A3, Act.put, A4, A5, A6]
    refine wpAnyH_take (i := 5) rfl (by kernel_rfl) (by kernel_rfl) (by kernel_rfl) (fun _ _ _ h => h) (ySM_load rfl (.tmp 14) rfl (B + 1) rfl (fun w' h => h.g.b1)) hS ?_
    try simp only [A1, A2, A3, Act.put, A4, A5, A6]
    refine wpAnyH_ready (rs := [6]) (by kernel_rfl) (by simp) (AllReadyH.cons rfl (fun K hK => ?_) AllReadyH.nil)
    go_simp
    go_at_call 135
    refine (HT.out _).mono ?_
    rintro e w2 ⟨rfl, hb2⟩
    have hS2 := hS.below hb2
    clear hS
    refine hK.out _ _ hS2 (fun hS => ?_)
    clear hK K
    try simp only [A1, A2, A3, Act.put, A4, A5, A6]
    refine wpAnyH_ready (rs := [7]) (by kernel_rfl) (by simp) (AllReadyH.cons rfl (fun K hK => ?_) AllReadyH.nil)
    go_simp
    go_at_call 130
    refine (HS.out _).mono ?_
    rintro e w3 ⟨rfl, hb3⟩
    have hS3 := hS2.below hb3
    clear hS
    refine hK.out _ _ hS3 (fun hS => ?_)
    clear hK K
    try simp only [A1, A2, A3, Act.put, A4, A5, A6]
    obtain ⟨f2, u2, q2, hC3⟩ := hS3.b2
    refine wpAnyH_ready (rs := [8]) (by kernel_rfl) (by simp) (AllReadyH.cons rfl (fun K hK => ?_) AllReadyH.nil)
    rw [if_pos (by rfl)]
    refine wpS_store1 (.tmp 4) (.tmp 17) rfl (B + 2) (f := limb m) (u := len m) (s := r) rfl rfl hC3 ?_
    have hS4 := hS3.row (limb m) (len m) r
    clear hS
    refine hK.out _ _ hS4.1 (fun hS => ?_)
    clear hK K
    refine wpAnyH_done (by kernel_rfl) ?_ _
    go_wp2
    exact bodyPost_ret (retS rfl _ _ (B + 2) rfl hS4.2) rfl ⟨rfl, hB ▸ hS4.1.ret⟩

theorem cmp_ls {a b : Nat} (h : a < b) : cmpN a b = -1 := by unfold cmpN; rw [if_neg (by omega), if_pos h]
theorem cmp_ge {a b : Nat} (h : b ≤ a) : cmpN a b = 0 ∨ cmpN a b = 1 := by
  unfold cmpN
  by_cases he : a = b
  · exact Or.inl (by rw [if_pos he])
  · exact Or.inr (by rw [if_neg he, if_neg (by omega)])
set_option maxHeartbeats 4000000 in
theorem plus_less (s : Bool) (a b : Nat) (hb : b < pw 30) (hab : a < b) (w : World) (r : Bool) (hr : ((!s) && !decide (b - a = 0)) = r) :
    Calls Tryz.prog 80 #[.agg (sig s a), .agg (sig (!s) b)] w fun e w' => e = .returned (.agg (sig r (b - a))) ∧ Below w.heap.size w w' := by
  obtain ⟨B, hB⟩ : ∃ B, w.heap.size = B := ⟨_, rfl⟩
  obtain ⟨W, hW⟩ : ∃ W, ((w.alloc (.cells (sig s a) 82)).alloc (.cells (sig (!s) b) 82)).alloc (.cells (sigF (fun _ => 0) 0 false) 82) = W := ⟨_, rfl⟩
  have hH0 := Sh.start hB hW
  have HC := Lib.hid (fun W => compare_any a b (by omega) hb W (-1) (cmp_ls hab))
  have HT := Lib.hid (fun W => minus_any b a hb (by omega) W)
  have HS := Lib.hid (fun W => withSign_any (!s) (b - a) (by omega) W r hr)
  obtain ⟨m, hm2⟩ : ∃ m, b - a = m := ⟨_, rfl⟩
  rw [hm2] at HT HS ⊢
  have hz0 := zeroS
  clear hr hm2 hab hb
  have c31 := sig_neg hH0.g.b0
  have d31 := sig_neg hH0.g.b1
  have HH := Lib.hid hH0
  clear hH0
  cases s
  all_goals
    simp only [Bool.not_false, Bool.not_true] at *
    go_enter Tryz.func80, Tryz.ntmps80
    go_wp2_with (first | ((with_reducible refine wpSM_load (.tmp 18) B ?_ HH.out.g.b0 ?_); rfl) | ((with_reducible refine wpSM_load (.tmp 20) (B + 1) ?_ HH.out.g.b1 ?_); rfl) | (go_at_call 70; refine (HC.out _).mono ?_; rintro e w1 ⟨rfl, hb1⟩; have HH2 := Lib.hid (HH.out.below hb1)) | ((with_reducible refine wpS_load (.tmp 3) (B + 1) ?_ HH2.out.g.b1 ?_); rfl) | ((with_reducible refine wpS_load (.tmp 2) B ?_ HH2.out.g.b0 ?_); rfl) | ((with_reducible refine wpS_store (.tmp 2) (.tmp 24) B (f := limb b) (u := len b) (s := true) ?_ ?_ HH2.out.g.b0 ?_); rfl; rfl) | ((with_reducible refine wpS_store (.tmp 2) (.tmp 24) B (f := limb b) (u := len b) (s := false) ?_ ?_ HH2.out.g.b0 ?_); rfl; rfl) | ((with_reducible refine wpS_store (.tmp 3) (.tmp 25) (B + 1) (f := limb a) (u := len a) (s := true) ?_ ?_ HH2.out.half ?_); rfl; rfl) | ((with_reducible refine wpS_store (.tmp 3) (.tmp 25) (B + 1) (f := limb a) (u := len a) (s := false) ?_ ?_ HH2.out.half ?_); rfl; rfl))
    clear hz0 hW c31 d31
  · have HH3 := Lib.hid HH2.out.swap
    obtain ⟨W3, hW3⟩ : ∃ W3, (w1.setRow B (sigF (limb b) (len b) true)).setRow (B + 1) (sigF (limb a) (len a) false) = W3 := ⟨_, rfl⟩
    rw [hW3] at HH3 ⊢
    clear hW3
    have hS0 : Sh w B true b false a W3.drew := (HH3.out).dr
    refine wp_region_held_drew (S := fun w' => Sh w B true b false a w') (by kernel_rfl) hS0 (fun hS => ?_)
    refine wpAnyH_take (i := 0) (v := .pointer (some ⟨B, 31, none⟩)) rfl (by kernel_rfl) (by kernel_rfl) (by kernel_rfl) (fun _ _ _ h => h) (Or.inl ⟨by rfl, fun w' h => by go_simp⟩) hS ?_
    try simp only [A1, A2, A3, Act.put, A4, A5, A6]
    refine wpAnyH_take (i := 1) rfl (by kernel_rfl) (by kernel_rfl) (by kernel_rfl) (fun _ _ _ h => h) (ySN_load rfl (.tmp 26) rfl B rfl (fun w' h => h.g.b0)) hS ?_
    try simp only [A1, A2, A3, Act.put, A4, A5, A6]
    refine wpAnyH_take (i := 2) (v := .pointer (some ⟨B, 0, none⟩)) rfl (by kernel_rfl) (by kernel_rfl) (by kernel_rfl) (fun _ _ _ h => h) (Or.inl ⟨by rfl, fun w' h => by go_simp⟩) hS ?_
    try simp only [A1, A2, A3, Act.put, A4, A5, A6]
    refine wpAnyH_take (i := 3) rfl (by kernel_rfl) (by kernel_rfl) (by kernel_rfl) (fun _ _ _ h => h) (ySM_load rfl (.tmp 28) rfl B rfl (fun w' h => h.g.b0)) hS ?_
    try simp only [A1, A2, A3, Act.put, A4, A5, A6]
    refine wpAnyH_take (i := 4) (v := .pointer (some ⟨B + 1, 0, none⟩)) rfl (by kernel_rfl) (by kernel_rfl) (by kernel_rfl) (fun _ _ _ h => h) (Or.inl ⟨by rfl, fun w' h => by go_simp⟩) hS ?_
    try simp only [A1, A2, A3, Act.put, A4, A5, A6]
    refine wpAnyH_take (i := 5) rfl (by kernel_rfl) (by kernel_rfl) (by kernel_rfl) (fun _ _ _ h => h) (ySM_load rfl (.tmp 30) rfl (B + 1) rfl (fun w' h => h.g.b1)) hS ?_
    try simp only [A1, A2, A3, Act.put, A4, A5, A6]
    refine wpAnyH_ready (rs := [6]) (by kernel_rfl) (by simp) (AllReadyH.cons rfl (fun K hK => ?_) AllReadyH.nil)
    go_simp
    go_at_call 136
    refine (HT.out _).mono ?_
    rintro e w2 ⟨rfl, hb2⟩
    have hS2 := hS.below hb2
    clear hS
    refine hK.out _ _ hS2 (fun hS => ?_)
    clear hK K
    try simp only [A1, A2, A3, Act.put, A4, A5, A6]
    refine wpAnyH_ready (rs := [7]) (by kernel_rfl) (by simp) (AllReadyH.cons rfl (fun K hK => ?_) AllReadyH.nil)
    go_simp
    go_at_call 130
    refine (HS.out _).mono ?_
    rintro e w3 ⟨rfl, hb3⟩
    have hS3 := hS2.below hb3
    clear hS
    refine hK.out _ _ hS3 (fun hS => ?_)
    clear hK K
    try simp only [A1, A2, A3, Act.put, A4, A5, A6]
    obtain ⟨f2, u2, q2, hC3⟩ := hS3.b2
    refine wpAnyH_ready (rs := [8]) (by kernel_rfl) (by simp) (AllReadyH.cons rfl (fun K hK => ?_) AllReadyH.nil)
    rw [if_pos (by rfl)]
    refine wpS_store1 (.tmp 4) (.tmp 33) rfl (B + 2) (f := limb m) (u := len m) (s := r) rfl rfl hC3 ?_
    have hS4 := hS3.row (limb m) (len m) r
    clear hS
    refine hK.out _ _ hS4.1 (fun hS => ?_)
    clear hK K
    refine wpAnyH_done (by kernel_rfl) ?_ _
    go_wp2
    exact bodyPost_ret (retS rfl _ _ (B + 2) rfl hS4.2) rfl ⟨rfl, hB ▸ hS4.1.ret⟩
  · have HH3 := Lib.hid HH2.out.swap
    obtain ⟨W3, hW3⟩ : ∃ W3, (w1.setRow B (sigF (limb b) (len b) false)).setRow (B + 1) (sigF (limb a) (len a) true) = W3 := ⟨_, rfl⟩
    rw [hW3] at HH3 ⊢
    clear hW3
    have hS0 : Sh w B false b true a W3.drew := (HH3.out).dr
    refine wp_region_held_drew (S := fun w' => Sh w B false b true a w') (by kernel_rfl) hS0 (fun hS => ?_)
    refine wpAnyH_take (i := 0) (v := .pointer (some ⟨B, 31, none⟩)) rfl (by kernel_rfl) (by kernel_rfl) (by kernel_rfl) (fun _ _ _ h => h) (Or.inl ⟨by rfl, fun w' h => by go_simp⟩) hS ?_
    try simp only [A1, A2, A3, Act.put, A4, A5, A6]
    refine wpAnyH_take (i := 1) rfl (by kernel_rfl) (by kernel_rfl) (by kernel_rfl) (fun _ _ _ h => h) (ySN_load rfl (.tmp 26) rfl B rfl (fun w' h => h.g.b0)) hS ?_
    try simp only [A1, A2, A3, Act.put, A4, A5, A6]
    refine wpAnyH_take (i := 2) (v := .pointer (some ⟨B, 0, none⟩)) rfl (by kernel_rfl) (by kernel_rfl) (by kernel_rfl) (fun _ _ _ h => h) (Or.inl ⟨by rfl, fun w' h => by go_simp⟩) hS ?_
    try simp only [A1, A2, A3, Act.put, A4, A5, A6]
    refine wpAnyH_take (i := 3) rfl (by kernel_rfl) (by kernel_rfl) (by kernel_rfl) (fun _ _ _ h => h) (ySM_load rfl (.tmp 28) rfl B rfl (fun w' h => h.g.b0)) hS ?_
    try simp only [A1, A2, A3, Act.put, A4, A5, A6]
    refine wpAnyH_take (i := 4) (v := .pointer (some ⟨B + 1, 0, none⟩)) rfl (by kernel_rfl) (by kernel_rfl) (by kernel_rfl) (fun _ _ _ h => h) (Or.inl ⟨by rfl, fun w' h => by go_simp⟩) hS ?_
    try simp only [A1, A2, A3, Act.put, A4, A5, A6]
    refine wpAnyH_take (i := 5) rfl (by kernel_rfl) (by kernel_rfl) (by kernel_rfl) (fun _ _ _ h => h) (ySM_load rfl (.tmp 30) rfl (B + 1) rfl (fun w' h => h.g.b1)) hS ?_
    try simp only [A1, A2, A3, Act.put, A4, A5, A6]
    refine wpAnyH_ready (rs := [6]) (by kernel_rfl) (by simp) (AllReadyH.cons rfl (fun K hK => ?_) AllReadyH.nil)
    go_simp
    go_at_call 136
    refine (HT.out _).mono ?_
    rintro e w2 ⟨rfl, hb2⟩
    have hS2 := hS.below hb2
    clear hS
    refine hK.out _ _ hS2 (fun hS => ?_)
    clear hK K
    try simp only [A1, A2, A3, Act.put, A4, A5, A6]
    refine wpAnyH_ready (rs := [7]) (by kernel_rfl) (by simp) (AllReadyH.cons rfl (fun K hK => ?_) AllReadyH.nil)
    go_simp
    go_at_call 130
    refine (HS.out _).mono ?_
    rintro e w3 ⟨rfl, hb3⟩
    have hS3 := hS2.below hb3
    clear hS
    refine hK.out _ _ hS3 (fun hS => ?_)
    clear hK K
    try simp only [A1, A2, A3, Act.put, A4, A5, A6]
    obtain ⟨f2, u2, q2, hC3⟩ := hS3.b2
    refine wpAnyH_ready (rs := [8]) (by kernel_rfl) (by simp) (AllReadyH.cons rfl (fun K hK => ?_) AllReadyH.nil)
    rw [if_pos (by rfl)]
    refine wpS_store1 (.tmp 4) (.tmp 33) rfl (B + 2) (f := limb m) (u := len m) (s := r) rfl rfl hC3 ?_
    have hS4 := hS3.row (limb m) (len m) r
    clear hS
    refine hK.out _ _ hS4.1 (fun hS => ?_)
    clear hK K
    refine wpAnyH_done (by kernel_rfl) ?_ _
    go_wp2
    exact bodyPost_ret (retS rfl _ _ (B + 2) rfl hS4.2) rfl ⟨rfl, hB ▸ hS4.1.ret⟩

set_option maxHeartbeats 4000000 in
theorem plus_more (s : Bool) (a b : Nat) (ha : a < pw 30) (hab : b ≤ a) (w : World) (r : Bool) (hr : (s && !decide (a - b = 0)) = r) :
    Calls Tryz.prog 80 #[.agg (sig s a), .agg (sig (!s) b)] w fun e w' => e = .returned (.agg (sig r (a - b))) ∧ Below w.heap.size w w' := by
  obtain ⟨B, hB⟩ : ∃ B, w.heap.size = B := ⟨_, rfl⟩
  obtain ⟨W, hW⟩ : ∃ W, ((w.alloc (.cells (sig s a) 82)).alloc (.cells (sig (!s) b) 82)).alloc (.cells (sigF (fun _ => 0) 0 false) 82) = W := ⟨_, rfl⟩
  have hH0 := Sh.start hB hW
  obtain ⟨c, hc⟩ : ∃ c, cmpN a b = c := ⟨_, rfl⟩
  have HC := Lib.hid (fun W => compare_any a b ha (by omega) W c hc)
  have HT := Lib.hid (fun W => minus_any a b ha hab W)
  have HS := Lib.hid (fun W => withSign_any s (a - b) (by omega) W r hr)
  have hc2 : c = 0 ∨ c = 1 := by rw [← hc]; exact cmp_ge hab
  obtain ⟨m, hm2⟩ : ∃ m, a - b = m := ⟨_, rfl⟩
  rw [hm2] at HT HS ⊢
  have hz0 := zeroS
  clear hr hm2 hab ha hc
  have c31 := sig_neg hH0.g.b0
  have d31 := sig_neg hH0.g.b1
  have HH := Lib.hid hH0
  clear hH0
  rcases hc2 with rfl | rfl <;> cases s
  all_goals
    simp only [Bool.not_false, Bool.not_true] at *
    go_enter Tryz.func80, Tryz.ntmps80
    go_wp2_with (first | ((with_reducible refine wpSM_load (.tmp 18) B ?_ HH.out.g.b0 ?_); rfl) | ((with_reducible refine wpSM_load (.tmp 20) (B + 1) ?_ HH.out.g.b1 ?_); rfl) | (go_at_call 70; refine (HC.out _).mono ?_; rintro e w1 ⟨rfl, hb1⟩; have HH2 := Lib.hid (HH.out.below hb1)))
    clear hz0 hW c31 d31
  · have hS0 : Sh w B false a true b w1.drew := (HH2.out).dr
    refine wp_region_held_drew (S := fun w' => Sh w B false a true b w') (by kernel_rfl) hS0 (fun hS => ?_)
    refine wpAnyH_take (i := 0) (v := .pointer (some ⟨B, 31, none⟩)) rfl (by kernel_rfl) (by kernel_rfl) (by kernel_rfl) (fun _ _ _ h => h) (Or.inl ⟨by rfl, fun w' h => by go_simp⟩) hS ?_
    try simp only [A1, A2, A3, Act.put, A4, A5, A6]
    refine wpAnyH_take (i := 1) rfl (by kernel_rfl) (by kernel_rfl) (by kernel_rfl) (fun _ _ _ h => h) (ySN_load rfl (.tmp 26) rfl B rfl (fun w' h => h.g.b0)) hS ?_
    try simp only [A1, A2, A3, Act.put, A4, A5, A6]
    refine wpAnyH_take (i := 2) (v := .pointer (some ⟨B, 0, none⟩)) rfl (by kernel_rfl) (by kernel_rfl) (by kernel_rfl) (fun _ _ _ h => h) (Or.inl ⟨by rfl, fun w' h => by go_simp⟩) hS ?_
    try simp only [A1, A2, A3, Act.put, A4, A5, A6]
    refine wpAnyH_take (i := 3) rfl (by kernel_rfl) (by kernel_rfl) (by kernel_rfl) (fun _ _ _ h => h) (ySM_load rfl (.tmp 28) rfl B rfl (fun w' h => h.g.b0)) hS ?_
    try simp only [A1, A2, A3, Act.put, A4, A5, A6]
    refine wpAnyH_take (i := 4) (v := .pointer (some ⟨B + 1, 0, none⟩)) rfl (by kernel_rfl) (by kernel_rfl) (by kernel_rfl) (fun _ _ _ h => h) (Or.inl ⟨by rfl, fun w' h => by go_simp⟩) hS ?_
    try simp only [A1, A2, A3, Act.put, A4, A5, A6]
    refine wpAnyH_take (i := 5) rfl (by kernel_rfl) (by kernel_rfl) (by kernel_rfl) (fun _ _ _ h => h) (ySM_load rfl (.tmp 30) rfl (B + 1) rfl (fun w' h => h.g.b1)) hS ?_
    try simp only [A1, A2, A3, Act.put, A4, A5, A6]
    refine wpAnyH_ready (rs := [6]) (by kernel_rfl) (by simp) (AllReadyH.cons rfl (fun K hK => ?_) AllReadyH.nil)
    go_simp
    go_at_call 136
    refine (HT.out _).mono ?_
    rintro e w2 ⟨rfl, hb2⟩
    have hS2 := hS.below hb2
    clear hS
    refine hK.out _ _ hS2 (fun hS => ?_)
    clear hK K
    try simp only [A1, A2, A3, Act.put, A4, A5, A6]
    refine wpAnyH_ready (rs := [7]) (by kernel_rfl) (by simp) (AllReadyH.cons rfl (fun K hK => ?_) AllReadyH.nil)
    go_simp
    go_at_call 130
    refine (HS.out _).mono ?_
    rintro e w3 ⟨rfl, hb3⟩
    have hS3 := hS2.below hb3
    clear hS
    refine hK.out _ _ hS3 (fun hS => ?_)
    clear hK K
    try simp only [A1, A2, A3, Act.put, A4, A5, A6]
    obtain ⟨f2, u2, q2, hC3⟩ := hS3.b2
    refine wpAnyH_ready (rs := [8]) (by kernel_rfl) (by simp) (AllReadyH.cons rfl (fun K hK => ?_) AllReadyH.nil)
    rw [if_pos (by rfl)]
    refine wpS_store1 (.tmp 4) (.tmp 33) rfl (B + 2) (f := limb m) (u := len m) (s := r) rfl rfl hC3 ?_
    have hS4 := hS3.row (limb m) (len m) r
    clear hS
    refine hK.out _ _ hS4.1 (fun hS => ?_)
    clear hK K
    refine wpAnyH_done (by kernel_rfl) ?_ _
    go_wp2
    exact bodyPost_ret (retS rfl _ _ (B + 2) rfl hS4.2) rfl ⟨rfl, hB ▸ hS4.1.ret⟩
  · have hS0 : Sh w B true a false b w1.drew := (HH2.out).dr
    refine wp_region_held_drew (S := fun w' => Sh w B true a false b w') (by kernel_rfl) hS0 (fun hS => ?_)
    refine wpAnyH_take (i := 0) (v := .pointer (some ⟨B, 31, none⟩)) rfl (by kernel_rfl) (by kernel_rfl) (by kernel_rfl) (fun _ _ _ h => h) (Or.inl ⟨by rfl, fun w' h => by go_simp⟩) hS ?_
    try simp only [A1, A2, A3, Act.put, A4, A5, A6]
    refine wpAnyH_take (i := 1) rfl (by kernel_rfl) (by kernel_rfl) (by kernel_rfl) (fun _ _ _ h => h) (ySN_load rfl (.tmp 26) rfl B rfl (fun w' h => h.g.b0)) hS ?_
    try simp only [A1, A2, A3, Act.put, A4, A5, A6]
    refine wpAnyH_take (i := 2) (v := .pointer (some ⟨B, 0, none⟩)) rfl (by kernel_rfl) (by kernel_rfl) (by kernel_rfl) (fun _ _ _ h => h) (Or.inl ⟨by rfl, fun w' h => by go_simp⟩) hS ?_
    try simp only [A1, A2, A3, Act.put, A4, A5, A6]
    refine wpAnyH_take (i := 3) rfl (by kernel_rfl) (by kernel_rfl) (by kernel_rfl) (fun _ _ _ h => h) (ySM_load rfl (.tmp 28) rfl B rfl (fun w' h => h.g.b0)) hS ?_
    try simp only [A1, A2, A3, Act.put, A4, A5, A6]
    refine wpAnyH_take (i := 4) (v := .pointer (some ⟨B + 1, 0, none⟩)) rfl (by kernel_rfl) (by kernel_rfl) (by kernel_rfl) (fun _ _ _ h => h) (Or.inl ⟨by rfl, fun w' h => by go_simp⟩) hS ?_
    try simp only [A1, A2, A3, Act.put, A4, A5, A6]
    refine wpAnyH_take (i := 5) rfl (by kernel_rfl) (by kernel_rfl) (by kernel_rfl) (fun _ _ _ h => h) (ySM_load rfl (.tmp 30) rfl (B + 1) rfl (fun w' h => h.g.b1)) hS ?_
    try simp only [A1, A2, A3, Act.put, A4, A5, A6]
    refine wpAnyH_ready (rs := [6]) (by kernel_rfl) (by simp) (AllReadyH.cons rfl (fun K hK => ?_) AllReadyH.nil)
    go_simp
    go_at_call 136
    refine (HT.out _).mono ?_
    rintro e w2 ⟨rfl, hb2⟩
    have hS2 := hS.below hb2
    clear hS
    refine hK.out _ _ hS2 (fun hS => ?_)
    clear hK K
    try simp only [A1, A2, A3, Act.put, A4, A5, A6]
    refine wpAnyH_ready (rs := [7]) (by kernel_rfl) (by simp) (AllReadyH.cons rfl (fun K hK => ?_) AllReadyH.nil)
    go_simp
    go_at_call 130
    refine (HS.out _).mono ?_
    rintro e w3 ⟨rfl, hb3⟩
    have hS3 := hS2.below hb3
    clear hS
    refine hK.out _ _ hS3 (fun hS => ?_)
    clear hK K
    try simp only [A1, A2, A3, Act.put, A4, A5, A6]
    obtain ⟨f2, u2, q2, hC3⟩ := hS3.b2
    refine wpAnyH_ready (rs := [8]) (by kernel_rfl) (by simp) (AllReadyH.cons rfl (fun K hK => ?_) AllReadyH.nil)
    rw [if_pos (by rfl)]
    refine wpS_store1 (.tmp 4) (.tmp 33) rfl (B + 2) (f := limb m) (u := len m) (s := r) rfl rfl hC3 ?_
    have hS4 := hS3.row (limb m) (len m) r
    clear hS
    refine hK.out _ _ hS4.1 (fun hS => ?_)
    clear hK K
    refine wpAnyH_done (by kernel_rfl) ?_ _
    go_wp2
    exact bodyPost_ret (retS rfl _ _ (B + 2) rfl hS4.2) rfl ⟨rfl, hB ▸ hS4.1.ret⟩
  · have hS0 : Sh w B false a true b w1.drew := (HH2.out).dr
    refine wp_region_held_drew (S := fun w' => Sh w B false a true b w') (by kernel_rfl) hS0 (fun hS => ?_)
    refine wpAnyH_take (i := 0) (v := .pointer (some ⟨B, 31, none⟩)) rfl (by kernel_rfl) (by kernel_rfl) (by kernel_rfl) (fun _ _ _ h => h) (Or.inl ⟨by rfl, fun w' h => by go_simp⟩) hS ?_
    try simp only [A1, A2, A3, Act.put, A4, A5, A6]
    refine wpAnyH_take (i := 1) rfl (by kernel_rfl) (by kernel_rfl) (by kernel_rfl) (fun _ _ _ h => h) (ySN_load rfl (.tmp 26) rfl B rfl (fun w' h => h.g.b0)) hS ?_
    try simp only [A1, A2, A3, Act.put, A4, A5, A6]
    refine wpAnyH_take (i := 2) (v := .pointer (some ⟨B, 0, none⟩)) rfl (by kernel_rfl) (by kernel_rfl) (by kernel_rfl) (fun _ _ _ h => h) (Or.inl ⟨by rfl, fun w' h => by go_simp⟩) hS ?_
    try simp only [A1, A2, A3, Act.put, A4, A5, A6]
    refine wpAnyH_take (i := 3) rfl (by kernel_rfl) (by kernel_rfl) (by kernel_rfl) (fun _ _ _ h => h) (ySM_load rfl (.tmp 28) rfl B rfl (fun w' h => h.g.b0)) hS ?_
    try simp only [A1, A2, A3, Act.put, A4, A5, A6]
    refine wpAnyH_take (i := 4) (v := .pointer (some ⟨B + 1, 0, none⟩)) rfl (by kernel_rfl) (by kernel_rfl) (by kernel_rfl) (fun _ _ _ h => h) (Or.inl ⟨by rfl, fun w' h => by go_simp⟩) hS ?_
    try simp only [A1, A2, A3, Act.put, A4, A5, A6]
    refine wpAnyH_take (i := 5) rfl (by kernel_rfl) (by kernel_rfl) (by kernel_rfl) (fun _ _ _ h => h) (ySM_load rfl (.tmp 30) rfl (B + 1) rfl (fun w' h => h.g.b1)) hS ?_
    try simp only [A1, A2, A3, Act.put, A4, A5, A6]
    refine wpAnyH_ready (rs := [6]) (by kernel_rfl) (by simp) (AllReadyH.cons rfl (fun K hK => ?_) AllReadyH.nil)
    go_simp
    go_at_call 136
    refine (HT.out _).mono ?_
    rintro e w2 ⟨rfl, hb2⟩
    have hS2 := hS.below hb2
    clear hS
    refine hK.out _ _ hS2 (fun hS => ?_)
    clear hK K
    try simp only [A1, A2, A3, Act.put, A4, A5, A6]
    refine wpAnyH_ready (rs := [7]) (by kernel_rfl) (by simp) (AllReadyH.cons rfl (fun K hK => ?_) AllReadyH.nil)
    go_simp
    go_at_call 130
    refine (HS.out _).mono ?_
    rintro e w3 ⟨rfl, hb3⟩
    have hS3 := hS2.below hb3
    clear hS
    refine hK.out _ _ hS3 (fun hS => ?_)
    clear hK K
    try simp only [A1, A2, A3, Act.put, A4, A5, A6]
    obtain ⟨f2, u2, q2, hC3⟩ := hS3.b2
    refine wpAnyH_ready (rs := [8]) (by kernel_rfl) (by simp) (AllReadyH.cons rfl (fun K hK => ?_) AllReadyH.nil)
    rw [if_pos (by rfl)]
    refine wpS_store1 (.tmp 4) (.tmp 33) rfl (B + 2) (f := limb m) (u := len m) (s := r) rfl rfl hC3 ?_
    have hS4 := hS3.row (limb m) (len m) r
    clear hS
    refine hK.out _ _ hS4.1 (fun hS => ?_)
    clear hK K
    refine wpAnyH_done (by kernel_rfl) ?_ _
    go_wp2
    exact bodyPost_ret (retS rfl _ _ (B + 2) rfl hS4.2) rfl ⟨rfl, hB ▸ hS4.1.ret⟩
  · have hS0 : Sh w B true a false b w1.drew := (HH2.out).dr
    refine wp_region_held_drew (S := fun w' => Sh w B true a false b w') (by kernel_rfl) hS0 (fun hS => ?_)
    refine wpAnyH_take (i := 0) (v := .pointer (some ⟨B, 31, none⟩)) rfl (by kernel_rfl) (by kernel_rfl) (by kernel_rfl) (fun _ _ _ h => h) (Or.inl ⟨by rfl, fun w' h => by go_simp⟩) hS ?_
    try simp only [A1, A2, A3, Act.put, A4, A5, A6]
    refine wpAnyH_take (i := 1) rfl (by kernel_rfl) (by kernel_rfl) (by kernel_rfl) (fun _ _ _ h => h) (ySN_load rfl (.tmp 26) rfl B rfl (fun w' h => h.g.b0)) hS ?_
    try simp only [A1, A2, A3, Act.put, A4, A5, A6]
    refine wpAnyH_take (i := 2) (v := .pointer (some ⟨B, 0, none⟩)) rfl (by kernel_rfl) (by kernel_rfl) (by kernel_rfl) (fun _ _ _ h => h) (Or.inl ⟨by rfl, fun w' h => by go_simp⟩) hS ?_
    try simp only [A1, A2, A3, Act.put, A4, A5, A6]
    refine wpAnyH_take (i := 3) rfl (by kernel_rfl) (by kernel_rfl) (by kernel_rfl) (fun _ _ _ h => h) (ySM_load rfl (.tmp 28) rfl B rfl (fun w' h => h.g.b0)) hS ?_
    try simp only [A1, A2, A3, Act.put, A4, A5, A6]
    refine wpAnyH_take (i := 4) (v := .pointer (some ⟨B + 1, 0, none⟩)) rfl (by kernel_rfl) (by kernel_rfl) (by kernel_rfl) (fun _ _ _ h => h) (Or.inl ⟨by rfl, fun w' h => by go_simp⟩) hS ?_
    try simp only [A1, A2, A3, Act.put, A4, A5, A6]
    refine wpAnyH_take (i := 5) rfl (by kernel_rfl) (by kernel_rfl) (by kernel_rfl) (fun _ _ _ h => h) (ySM_load rfl (.tmp 30) rfl (B + 1) rfl (fun w' h => h.g.b1)) hS ?_
    try simp only [A1, A2, A3, Act.put, A4, A5, A6]
    refine wpAnyH_ready (rs := [6]) (by kernel_rfl) (by simp) (AllReadyH.cons rfl (fun K hK => ?_) AllReadyH.nil)
    go_simp
    go_at_call 136
    refine (HT.out _).mono ?_
    rintro e w2 ⟨rfl, hb2⟩
    have hS2 := hS.below hb2
    clear hS
    refine hK.out _ _ hS2 (fun hS => ?_)
    clear hK K
    try simp only [A1, A2, A3, Act.put, A4, A5, A6]
    refine wpAnyH_ready (rs := [7]) (by kernel_rfl) (by simp) (AllReadyH.cons rfl (fun K hK => ?_) AllReadyH.nil)
    go_simp
    go_at_call 130
    refine (HS.out _).mono ?_
    rintro e w3 ⟨rfl, hb3⟩
    have hS3 := hS2.below hb3
    clear hS
    refine hK.out _ _ hS3 (fun hS => ?_)
    clear hK K
    try simp only [A1, A2, A3, Act.put, A4, A5, A6]
    obtain ⟨f2, u2, q2, hC3⟩ := hS3.b2
    refine wpAnyH_ready (rs := [8]) (by kernel_rfl) (by simp) (AllReadyH.cons rfl (fun K hK => ?_) AllReadyH.nil)
    rw [if_pos (by rfl)]
    refine wpS_store1 (.tmp 4) (.tmp 33) rfl (B + 2) (f := limb m) (u := len m) (s := r) rfl rfl hC3 ?_
    have hS4 := hS3.row (limb m) (len m) r
    clear hS
    refine hK.out _ _ hS4.1 (fun hS => ?_)
    clear hK K
    refine wpAnyH_done (by kernel_rfl) ?_ _
    go_wp2
    exact bodyPost_ret (retS rfl _ _ (B + 2) rfl hS4.2) rfl ⟨rfl, hB ▸ hS4.1.ret⟩
end Go.Proofs.YtjemolaobhlapaaGreatDoor
