/- readSigned, divMod. -/
import Derived.Test.YtjemolaobhlapaaGreatDoorNO
import Derived.Test.YtjemolaobhlapaaGreatDoorShelf
set_option linter.unusedSimpArgs false
set_option linter.unusedVariables false
namespace Go.Proofs.YtjemolaobhlapaaGreatDoor
open Go.RowKit
set_option maxRecDepth 100000

theorem bs_list (l : List UInt8) : (bs l).data.toList = l := rfl
theorem bs_size (l : List UInt8) : (bs l).size = l.length := rfl
/-- An optional sign, digits. -/
def signed (neg : Bool) (ds : List UInt8) : List UInt8 := (if neg then [45] else []) ++ ds
theorem numeral_signed (s : Bool) (n : Nat) : numeral s n = signed s (Lib.decDigits n) := rfl
theorem prefix_signed {neg : Bool} {ds : List UInt8} (hd : ∀ c ∈ ds, isDig c = true) : Lib.hasPrefix (signed neg ds) [45] = neg := by
  cases neg
  · cases ds with
    | nil => rfl
    | cons c l =>
      have := isDig_le (hd c List.mem_cons_self)
      simp only [signed, Lib.hasPrefix, Bool.false_eq_true, if_false, List.nil_append, List.isPrefixOf_cons_cons, Bool.and_eq_false_imp, beq_iff_eq]
      intro h
      subst h
      simp at this
  · simp [signed, Lib.hasPrefix, List.isPrefixOf]
theorem trim_signed {neg : Bool} {ds : List UInt8} (hd : ∀ c ∈ ds, isDig c = true) : Lib.trimPrefix (signed neg ds) [45] = ds := by
  unfold Lib.trimPrefix
  rw [prefix_signed hd]
  cases neg <;> rfl

set_option maxHeartbeats 4000000 in
theorem readSigned_any (neg : Bool) (ds : List UInt8) (hd : ∀ c ∈ ds, isDig c = true) (hl : ds.length ≤ 270) (w : World) (r : Bool) (hr : (neg && !decide (numOf ds = 0)) = r) :
    Calls Tryz.prog 69 #[.string (bs (signed neg ds))] w fun e w' => e = .returned (.agg (sig r (numOf ds))) ∧ Below w.heap.size w w' := by
  have hn : numOf ds < pw 30 := num_pw hd (by omega)
  have HP := Lib.hid (fun W => Tryz.strings_HasPrefix (bs (signed neg ds)) ⟨#[45]⟩ W)
  have HT := Lib.hid (fun W => Tryz.strings_TrimPrefix (bs (signed neg ds)) ⟨#[45]⟩ W)
  rw [show Lib.hasPrefix (bs (signed neg ds)).data.toList (ByteArray.mk #[45]).data.toList = neg from prefix_signed hd] at HP
  rw [show (⟨(Lib.trimPrefix (bs (signed neg ds)).data.toList (ByteArray.mk #[45]).data.toList).toArray⟩ : ByteArray) = bs ds by rw [show Lib.trimPrefix (bs (signed neg ds)).data.toList (ByteArray.mk #[45]).data.toList = ds from trim_signed hd]; rfl] at HT
  have HR := Lib.hid (fun W => readMagnitude_any (bs ds) hl hd W)
  rw [bs_list] at HR
  have HS := Lib.hid (fun W => withSign_any neg (numOf ds) hn W r hr)
  obtain ⟨n, hn2⟩ : ∃ n, numOf ds = n := ⟨_, rfl⟩
  obtain ⟨s, hs⟩ : ∃ s, bs (signed neg ds) = s := ⟨_, rfl⟩
  obtain ⟨d, hd2⟩ : ∃ d, bs ds = d := ⟨_, rfl⟩
  rw [hn2] at HR HS ⊢
  rw [hs] at HP HT ⊢
  rw [hd2] at HT HR
  clear hr hn hn2 hs hd2 hd hl
  obtain ⟨B, hB⟩ : ∃ B, w.heap.size = B := ⟨_, rfl⟩
  obtain ⟨W, hW⟩ : ∃ W, w.alloc (.cells (sigF (fun _ => 0) 0 false) 82) = W := ⟨_, rfl⟩
  have HH := Lib.hid (show BlockIs W B 82 (sigF (fun _ => 0) 0 false) ∧ Below B w W by
    rw [← hW, ← hB]
    exact ⟨BlockIs.new _ _ _, (Below.refl _ _).alloc (Nat.le_refl _) _⟩)
  have hz0 := zeroS
  go_enter Tryz.func69, Tryz.ntmps69
  go_wp2_with (first | (go_at_call 124; refine (HP.out _).mono ?_; rintro e w1 ⟨rfl, rfl⟩) | (go_at_call 60; refine (HT.out _).mono ?_; rintro e w1 ⟨rfl, rfl⟩) | (go_at_call 71; refine (HR.out _).mono ?_; rintro e w2 ⟨rfl, hb2⟩; have HH2 := Lib.hid (And.intro (HH.out.1.below hb2 HH.out.1.lt) (HH.out.2.trans (hb2.mono (by have := HH.out.1.lt; omega))))) | (go_at_call 130; refine (HS.out _).mono ?_; rintro e w3 ⟨rfl, hb3⟩; have HH3 := Lib.hid (And.intro (HH2.out.1.below hb3 HH2.out.1.lt) (HH2.out.2.trans (hb3.mono (by have := HH2.out.1.lt; omega))))) | ((with_reducible refine wpS_store (.tmp 2) (.tmp 8) B (f := limb n) (u := len n) (s := r) ?_ ?_ HH3.out.1 ?_); rfl; rfl))
  exact bodyPost_ret (retS rfl _ _ B rfl (HH3.out.1.row _)) rfl ⟨rfl, hB ▸ below_row HH3.out.2 _ _ (by omega)⟩

structure Dv (w0 : World) (B : Nat) (s : Bool) (a : Nat) (t : Bool) (b : Nat) (C q r : Nat) (w : World) : Prop where
  g : Sg w0 B s a t b w
  b2 : ∃ f u z, BlockIs w (B + 2) 82 (sigF f u z)
  b3 : ∃ f u z, BlockIs w (B + 3) 82 (sigF f u z)
  c0 : BlockIs w C 80 (magF (limb q) (len q))
  c1 : BlockIs w (C + 1) 80 (magF (limb r) (len r))
  hC : B + 4 ≤ C
structure D4 (w0 : World) (B : Nat) (s : Bool) (a : Nat) (t : Bool) (b : Nat) (w : World) : Prop where
  g : Sg w0 B s a t b w
  b2 : ∃ f u z, BlockIs w (B + 2) 82 (sigF f u z)
  b3 : ∃ f u z, BlockIs w (B + 3) 82 (sigF f u z)
theorem D4.below {w0 : World} {B a b : Nat} {s t : Bool} {w w' : World} (h : D4 w0 B s a t b w) (hb : Below w.heap.size w w') : D4 w0 B s a t b w' := by
  obtain ⟨h0, ⟨f, u, q, h1⟩, ⟨f2, u2, q2, h2⟩⟩ := h
  exact ⟨h0.below hb, ⟨f, u, q, h1.below hb h1.lt⟩, ⟨f2, u2, q2, h2.below hb h2.lt⟩⟩
theorem D4.start {w W : World} {B a b : Nat} {s t : Bool} (hB : w.heap.size = B) (hW : (((w.alloc (.cells (sig s a) 82)).alloc (.cells (sig t b) 82)).alloc (.cells (sigF (fun _ => 0) 0 false) 82)).alloc (.cells (sigF (fun _ => 0) 0 false) 82) = W) : D4 w B s a t b W := by
  have h := Sh.start (w := w) (s := s) (t := t) (a := a) (b := b) hB rfl
  have hs : (((w.alloc (.cells (sig s a) 82)).alloc (.cells (sig t b) 82)).alloc (.cells (sigF (fun _ => 0) 0 false) 82)).heap.size = B + 3 := by rw [World.size_alloc, World.size_alloc, World.size_alloc, hB]
  rw [← hW]
  refine ⟨⟨h.g.b0.alloc _, h.g.b1.alloc _, h.g.bl.alloc (by omega) _⟩, by obtain ⟨_, f, u, q, h⟩ := h; exact ⟨f, u, q, h.alloc _⟩, (fun _ => 0), 0, false, ?_⟩
  have := BlockIs.new (((w.alloc (.cells (sig s a) 82)).alloc (.cells (sig t b) 82)).alloc (.cells (sigF (fun _ => 0) 0 false) 82)) 82 (sigF (fun _ => 0) 0 false)
  rwa [hs] at this
theorem D4.full {w0 : World} {B a b : Nat} {s t : Bool} {w W : World} (h : D4 w0 B s a t b w) {C q r : Nat} (hC : w.heap.size = C) (hW : (w.alloc (.cells (magF (fun _ => 0) 0) 80)).alloc (.cells (magF (fun _ => 0) 0) 80) = W) :
    BlockIs W C 80 (magF (fun _ => 0) 0) ∧ BlockIs (W.setRow C (magF (limb q) (len q))) (C + 1) 80 (magF (fun _ => 0) 0) ∧ Dv w0 B s a t b C q r ((W.setRow C (magF (limb q) (len q))).setRow (C + 1) (magF (limb r) (len r))) := by
  obtain ⟨h0, ⟨f, u, z, h1⟩, ⟨f2, u2, z2, h2⟩⟩ := h
  have h2l := h2.lt
  have c0 : BlockIs W C 80 (magF (fun _ => 0) 0) := by rw [← hW, ← hC]; exact (BlockIs.new _ _ _).alloc _
  have c1 : BlockIs W (C + 1) 80 (magF (fun _ => 0) 0) := by
    rw [← hW, ← hC]
    have := BlockIs.new (w.alloc (.cells (magF (fun _ => 0) 0) 80)) 80 (magF (fun _ => 0) 0)
    rwa [World.size_alloc] at this
  have bl : Below B w0 W := by rw [← hW]; exact (h0.bl.alloc (by omega) _).alloc (by rw [World.size_alloc]; omega) _
  have g0 : BlockIs W B 82 (sigF (limb a) (len a) s) := by rw [← hW]; exact (h0.b0.alloc _).alloc _
  have g1 : BlockIs W (B + 1) 82 (sigF (limb b) (len b) t) := by rw [← hW]; exact (h0.b1.alloc _).alloc _
  have g2 : BlockIs W (B + 2) 82 (sigF f u z) := by rw [← hW]; exact (h1.alloc _).alloc _
  have g3 : BlockIs W (B + 3) 82 (sigF f2 u2 z2) := by rw [← hW]; exact (h2.alloc _).alloc _
  refine ⟨c0, c1.rowOther _ _ (by omega), ⟨(g0.rowOther _ _ (by omega)).rowOther _ _ (by omega), (g1.rowOther _ _ (by omega)).rowOther _ _ (by omega), below_row (below_row bl _ _ (by omega)) _ _ (by omega)⟩, ⟨_, _, _, (g2.rowOther _ _ (by omega)).rowOther _ _ (by omega)⟩, ⟨_, _, _, (g3.rowOther _ _ (by omega)).rowOther _ _ (by omega)⟩, (c0.row _).rowOther _ _ (by omega), (c1.rowOther _ _ (by omega)).row _, by omega⟩
theorem Dv.below {w0 : World} {B a b C q r : Nat} {s t : Bool} {w w' : World} (h : Dv w0 B s a t b C q r w) (hb : Below w.heap.size w w') : Dv w0 B s a t b C q r w' := by
  obtain ⟨h0, ⟨f, u, z, h1⟩, ⟨f2, u2, z2, h2⟩, h3, h4, h5⟩ := h
  exact ⟨h0.below hb, ⟨f, u, z, h1.below hb h1.lt⟩, ⟨f2, u2, z2, h2.below hb h2.lt⟩, h3.below hb h3.lt, h4.below hb h4.lt, h5⟩
theorem Dv.dr {w0 : World} {B a b C q r : Nat} {s t : Bool} {w : World} (h : Dv w0 B s a t b C q r w) : Dv w0 B s a t b C q r w.drew := by
  obtain ⟨h0, ⟨f, u, z, h1⟩, ⟨f2, u2, z2, h2⟩, h3, h4, h5⟩ := h
  exact ⟨⟨h0.b0.drew, h0.b1.drew, h0.bl.drew⟩, ⟨f, u, z, h1.drew⟩, ⟨f2, u2, z2, h2.drew⟩, h3.drew, h4.drew, h5⟩
theorem Dv.setq {w0 : World} {B a b C q r : Nat} {s t : Bool} {w : World} (h : Dv w0 B s a t b C q r w) (q' : Nat) : Dv w0 B s a t b C q' r (w.setRow C (magF (limb q') (len q'))) := by
  obtain ⟨h0, ⟨f, u, z, h1⟩, ⟨f2, u2, z2, h2⟩, h3, h4, h5⟩ := h
  exact ⟨⟨h0.b0.rowOther _ _ (by omega), h0.b1.rowOther _ _ (by omega), below_row h0.bl _ _ (by omega)⟩, ⟨f, u, z, h1.rowOther _ _ (by omega)⟩, ⟨f2, u2, z2, h2.rowOther _ _ (by omega)⟩, h3.row _, h4.rowOther _ _ (by omega), h5⟩
theorem Dv.setr {w0 : World} {B a b C q r : Nat} {s t : Bool} {w : World} (h : Dv w0 B s a t b C q r w) (q' : Nat) : Dv w0 B s a t b C q q' (w.setRow (C + 1) (magF (limb q') (len q'))) := by
  obtain ⟨h0, ⟨f, u, z, h1⟩, ⟨f2, u2, z2, h2⟩, h3, h4, h5⟩ := h
  exact ⟨⟨h0.b0.rowOther _ _ (by omega), h0.b1.rowOther _ _ (by omega), below_row h0.bl _ _ (by omega)⟩, ⟨f, u, z, h1.rowOther _ _ (by omega)⟩, ⟨f2, u2, z2, h2.rowOther _ _ (by omega)⟩, h3.rowOther _ _ (by omega), h4.row _, h5⟩
theorem Dv.out1 {w0 : World} {B a b C q r : Nat} {s t : Bool} {w : World} (h : Dv w0 B s a t b C q r w) (f : Nat → Nat) (u : Nat) (z : Bool) : Dv w0 B s a t b C q r (w.setRow (B + 2) (sigF f u z)) ∧ BlockIs (w.setRow (B + 2) (sigF f u z)) (B + 2) 82 (sigF f u z) := by
  obtain ⟨h0, ⟨f', u', z', h1⟩, ⟨f2, u2, z2, h2⟩, h3, h4, h5⟩ := h
  exact ⟨⟨h0.row _, ⟨_, _, _, h1.row _⟩, ⟨f2, u2, z2, h2.rowOther _ _ (by omega)⟩, h3.rowOther _ _ (by omega), h4.rowOther _ _ (by omega), h5⟩, h1.row _⟩
theorem Dv.out2 {w0 : World} {B a b C q r : Nat} {s t : Bool} {w : World} (h : Dv w0 B s a t b C q r w) (f : Nat → Nat) (u : Nat) (z : Bool) : Dv w0 B s a t b C q r (w.setRow (B + 3) (sigF f u z)) ∧ BlockIs (w.setRow (B + 3) (sigF f u z)) (B + 3) 82 (sigF f u z) := by
  obtain ⟨h0, ⟨f', u', z', h1⟩, ⟨f2, u2, z2, h2⟩, h3, h4, h5⟩ := h
  exact ⟨⟨⟨h0.b0.rowOther _ _ (by omega), h0.b1.rowOther _ _ (by omega), below_row h0.bl _ _ (by omega)⟩, ⟨f', u', z', h1.rowOther _ _ (by omega)⟩, ⟨_, _, _, h2.row _⟩, h3.rowOther _ _ (by omega), h4.rowOther _ _ (by omega), h5⟩, h2.row _⟩

set_option maxHeartbeats 8000000 in
theorem divMod_any (s t : Bool) (a b : Nat) (ha : a < pw 29) (hb : 0 < b) (hb2 : b < pw 29) (HDV : ∀ W, Calls Tryz.prog 142 #[.agg (mag a), .agg (mag b)] W fun e w' => e = .returned (.tuple #[.agg (mag (a / b)), .agg (mag (a % b))]) ∧ Below W.heap.size W w')
    (w : World) (q r : Nat) (z : Bool) (hq : (if (s && !decide (a % b = 0)) = true then (a / b + 1, b - a % b) else (a / b, a % b)) = (q, r)) (hz : ((s != t) && !decide (q = 0)) = z) :
    Calls Tryz.prog 88 #[.agg (sig s a), .agg (sig t b)] w fun e w' => e = .returned (.tuple #[.agg (sig z q), .agg (sig false r)]) ∧ Below w.heap.size w w' := by
  obtain ⟨B, hB⟩ : ∃ B, w.heap.size = B := ⟨_, rfl⟩
  obtain ⟨W, hW⟩ : ∃ W, (((w.alloc (.cells (sig s a) 82)).alloc (.cells (sig t b) 82)).alloc (.cells (sigF (fun _ => 0) 0 false) 82)).alloc (.cells (sigF (fun _ => 0) 0 false) 82) = W := ⟨_, rfl⟩
  have HH := Lib.hid (D4.start hB hW)
  have HV := Lib.hid HDV
  have hm : a / b ≤ a := Nat.div_le_self _ _
  have hr2 : a % b < b := Nat.mod_lt _ hb
  have h30 : pw 30 = pw 29 * 1000000000 := rfl
  have hqr : q < pw 30 ∧ r < pw 30 := by
    split at hq
    · simp only [Prod.mk.injEq] at hq; omega
    · simp only [Prod.mk.injEq] at hq; omega
  have HS := Lib.hid (fun W => withSign_any (s != t) q hqr.1 W z hz)
  have HS2 := Lib.hid (fun W => withSign_any false r hqr.2 W false rfl)
  obtain ⟨q0, hq0⟩ : ∃ q0, a / b = q0 := ⟨_, rfl⟩
  obtain ⟨r0, hr0⟩ : ∃ r0, a % b = r0 := ⟨_, rfl⟩
  rw [hq0, hr0] at HV hq
  rw [hq0] at hm
  rw [hr0] at hr2
  obtain ⟨z0, hz0⟩ : ∃ z0, decide (r0 = 0) = z0 := ⟨_, rfl⟩
  have HZ := Lib.hid (fun W => isZero_any r0 (by omega) W z0 hz0)
  rw [hz0] at hq
  have HA := Lib.hid (fun W => And.intro (plus_any q0 1 (by omega) (by rw [show pw 29 = pw 28 * 1000000000 from rfl]; have := pw_pos 28; omega) W) (minus_any b r0 (by omega) (by omega) W))
  have HO := Lib.hid (fun W => ofWord_any 1 (by omega) W)
  have hzS := zeroS
  have hzM := zeroM
  clear hz hqr hq0 hr0 hz0 h30 hm hr2 ha hb hb2 HDV
  have c31 := sig_neg HH.out.g.b0
  cases s
  · obtain ⟨rfl, rfl⟩ : q0 = q ∧ r0 = r := by simpa using hq
    clear hq HA HO HZ
    simp only [Bool.false_bne] at HS
    go_enter Tryz.func88, Tryz.ntmps88
    go_wp2_with (first | ((with_reducible refine wpSM_load (.tmp 9) B ?_ HH.out.g.b0 ?_); rfl) | ((with_reducible refine wpSM_load (.tmp 11) (B + 1) ?_ HH.out.g.b1 ?_); rfl) | (go_at_call 142; refine (HV.out _).mono ?_; rintro e w1 ⟨rfl, hb1⟩; have HH1 := Lib.hid (HH.out.below hb1); obtain ⟨C, hC⟩ : ∃ C, w1.heap.size = C := ⟨_, rfl⟩; obtain ⟨V, hV⟩ : ∃ V, (w1.alloc (.cells (magF (fun _ => 0) 0) 80)).alloc (.cells (magF (fun _ => 0) 0) 80) = V := ⟨_, rfl⟩; have HF := Lib.hid (HH1.out.full (q := q0) (r := r0) hC hV)) | ((with_reducible refine wpM_store (.tmp 6) (.tmp 14) C (f := limb q0) (u := len q0) ?_ ?_ HF.out.1 ?_); rfl; rfl) | ((with_reducible refine wpM_store (.tmp 7) (.tmp 15) (C + 1) (f := limb r0) (u := len r0) ?_ ?_ HF.out.2.1 ?_); rfl; rfl; have HD := Lib.hid HF.out.2.2; obtain ⟨U, hU⟩ : ∃ U, (V.setRow C (magF (limb q0) (len q0))).setRow (C + 1) (magF (limb r0) (len r0)) = U := ⟨_, rfl⟩; rw [hU] at HD ⊢; have e31 := sig_neg HD.out.g.b0; clear hU))
    clear hzS hzM hW hV c31 e31
    have hS0 : Dv w B false a t b C q0 r0 U.drew := HD.out.dr
    refine wp_region_held_drew (S := fun w' => Dv w B false a t b C q0 r0 w') (by kernel_rfl) hS0 (fun hS => ?_)
    refine wpAnyH_take (i := 0) (v := .pointer (some ⟨B, 31, none⟩)) rfl (by kernel_rfl) (by kernel_rfl) (by kernel_rfl) (fun _ _ _ h => h) (Or.inl ⟨by rfl, fun w' h => by go_simp⟩) hS ?_
    try simp only [A1, A2, A3, Act.put, A4, A5, A6]
    refine wpAnyH_take (i := 1) rfl (by kernel_rfl) (by kernel_rfl) (by kernel_rfl) (fun _ _ _ h => h) (ySN_load rfl (.tmp 30) rfl B rfl (fun w' h => h.g.b0)) hS ?_
    try simp only [A1, A2, A3, Act.put, A4, A5, A6]
    refine wpAnyH_take (i := 2) (v := .pointer (some ⟨B + 1, 31, none⟩)) rfl (by kernel_rfl) (by kernel_rfl) (by kernel_rfl) (fun _ _ _ h => h) (Or.inl ⟨by rfl, fun w' h => by go_simp⟩) hS ?_
    try simp only [A1, A2, A3, Act.put, A4, A5, A6]
    refine wpAnyH_take (i := 3) rfl (by kernel_rfl) (by kernel_rfl) (by kernel_rfl) (fun _ _ _ h => h) (ySN_load rfl (.tmp 32) rfl (B + 1) rfl (fun w' h => h.g.b1)) hS ?_
    try simp only [A1, A2, A3, Act.put, A4, A5, A6]
    refine wpAnyH_take (i := 4) (v := .bool t) rfl (by kernel_rfl) (by kernel_rfl) (by kernel_rfl) (fun _ _ _ h => h) (Or.inl ⟨by rfl, fun w' h => by go_simp <;> cases t <;> rfl⟩) hS ?_
    try simp only [A1, A2, A3, Act.put, A4, A5, A6]
    refine wpAnyH_take (i := 5) rfl (by kernel_rfl) (by kernel_rfl) (by kernel_rfl) (fun _ _ _ h => h) (yM_load rfl (.tmp 6) rfl C rfl (fun w' h => h.c0)) hS ?_
    try simp only [A1, A2, A3, Act.put, A4, A5, A6]
    refine wpAnyH_take (i := 7) rfl (by kernel_rfl) (by kernel_rfl) (by kernel_rfl) (fun _ _ _ h => h) (yM_load rfl (.tmp 7) rfl (C + 1) rfl (fun w' h => h.c1)) hS ?_
    try simp only [A1, A2, A3, Act.put, A4, A5, A6]
    refine wpAnyH_ready (rs := [6]) (by kernel_rfl) (by simp) (AllReadyH.cons rfl (fun K hK => ?_) AllReadyH.nil)
    go_simp
    go_at_call 130
    refine (HS.out _).mono ?_
    rintro e w7 ⟨rfl, hb7⟩
    have hS7 := hS.below hb7
    clear hS
    refine hK.out _ _ hS7 (fun hS => ?_)
    clear hK K
    try simp only [A1, A2, A3, Act.put, A4, A5, A6]
    refine wpAnyH_ready (rs := [8]) (by kernel_rfl) (by simp) (AllReadyH.cons rfl (fun K hK => ?_) AllReadyH.nil)
    go_simp
    go_at_call 130
    refine (HS2.out _).mono ?_
    rintro e w8 ⟨rfl, hb8⟩
    have hS8 := hS7.below hb8
    clear hS
    refine hK.out _ _ hS8 (fun hS => ?_)
    clear hK K
    try simp only [A1, A2, A3, Act.put, A4, A5, A6]
    obtain ⟨f2, u2, q2, hC3⟩ := hS8.b2
    refine wpAnyH_ready (rs := [9]) (by kernel_rfl) (by simp) (AllReadyH.cons rfl (fun K hK => ?_) AllReadyH.nil)
    rw [if_pos (by rfl)]
    refine wpS_store1 (.tmp 4) (.tmp 36) rfl (B + 2) (f := limb (q0)) (u := len (q0)) (s := z) rfl rfl hC3 ?_
    have hS9 := hS8.out1 (limb (q0)) (len (q0)) z
    clear hS
    refine hK.out _ _ hS9.1 (fun hS => ?_)
    clear hK K
    obtain ⟨f3, u3, q3, hC4⟩ := hS9.1.b3
    refine wpAnyH_ready (rs := [10]) (by kernel_rfl) (by simp) (AllReadyH.cons rfl (fun K hK => ?_) AllReadyH.nil)
    rw [if_pos (by rfl)]
    refine wpS_store1 (.tmp 5) (.tmp 38) rfl (B + 3) (f := limb (r0)) (u := len (r0)) (s := false) rfl rfl hC4 ?_
    have hS10 := hS9.1.out2 (limb (r0)) (len (r0)) false
    clear hS
    refine hK.out _ _ hS10.1 (fun hS => ?_)
    clear hK K
    refine wpAnyH_done (by kernel_rfl) ?_ _
    go_wp2
    exact bodyPost_ret (retSS rfl _ _ (B + 2) (B + 3) rfl rfl (hS9.2.rowOther _ _ (by omega)) hS10.2) rfl ⟨ret_two (by first | rfl | rw [HQ1.out]) (by first | rfl | rw [HR1.out]), hB ▸ hS10.1.g.bl⟩
  · simp only [Bool.true_bne] at HS
    cases z0
    · obtain ⟨rfl, rfl⟩ : q0 + 1 = q ∧ b - r0 = r := by simpa using hq
      clear hq
      go_enter Tryz.func88, Tryz.ntmps88
      go_wp2_with (first | ((with_reducible refine wpSM_load (.tmp 9) B ?_ HH.out.g.b0 ?_); rfl) | ((with_reducible refine wpSM_load (.tmp 11) (B + 1) ?_ HH.out.g.b1 ?_); rfl) | (go_at_call 142; refine (HV.out _).mono ?_; rintro e w1 ⟨rfl, hb1⟩; have HH1 := Lib.hid (HH.out.below hb1); obtain ⟨C, hC⟩ : ∃ C, w1.heap.size = C := ⟨_, rfl⟩; obtain ⟨V, hV⟩ : ∃ V, (w1.alloc (.cells (magF (fun _ => 0) 0) 80)).alloc (.cells (magF (fun _ => 0) 0) 80) = V := ⟨_, rfl⟩; have HF := Lib.hid (HH1.out.full (q := q0) (r := r0) hC hV)) | ((with_reducible refine wpM_store (.tmp 6) (.tmp 14) C (f := limb q0) (u := len q0) ?_ ?_ HF.out.1 ?_); rfl; rfl) | ((with_reducible refine wpM_store (.tmp 7) (.tmp 15) (C + 1) (f := limb r0) (u := len r0) ?_ ?_ HF.out.2.1 ?_); rfl; rfl; have HD := Lib.hid HF.out.2.2; obtain ⟨U, hU⟩ : ∃ U, (V.setRow C (magF (limb q0) (len q0))).setRow (C + 1) (magF (limb r0) (len r0)) = U := ⟨_, rfl⟩; rw [hU] at HD ⊢; have e31 := sig_neg HD.out.g.b0; clear hU) | ((with_reducible refine wpM_loadG (.tmp 7) (C + 1) ?_ ?_ HD.out.c1 ?_); rfl; rfl) | (go_at_call 86; refine (HZ.out _).mono ?_; rintro e w2 ⟨rfl, hb2⟩; have HD2 := Lib.hid (HD.out.below hb2)))
      clear hzS hzM hW hV c31 e31
      have hS0 : Dv w B true a t b C q0 r0 w2.drew := HD2.out.dr
      refine AnyTill.region (T := Till 7 8 (fun w' => BlockIs w' C 80 (magF (limb q0) (len q0))) (fun w' => BlockIs w' (C + 1) 80 (magF (limb r0) (len r0)) ∧ BlockIs w' (B + 1) 82 (sigF (limb b) (len b) t))) (by kernel_rfl) ?_
      have hS := And.intro hS0.c0 (And.intro hS0.c1 hS0.g.b1)
      refine AnyTill.take1 (i := 0) rfl rfl (by kernel_rfl) (by omega) (by omega) (by kernel_rfl) (by kernel_rfl) (by kernel_rfl) (by kernel_rfl) (fun _ _ _ h => h) (yM_load rfl (.tmp 6) rfl C rfl (fun w' h => h)) hS.1 hS.2 ?_
      try simp only [A1, A2, A3, Act.put, A4, A5, A6]
      refine AnyTill.take2 (i := 3) (v := .pointer (some ⟨B + 1, 0, none⟩)) rfl rfl (by kernel_rfl) (by omega) (by omega) (by kernel_rfl) (by kernel_rfl) (by kernel_rfl) (by kernel_rfl) (fun _ _ _ h => h) (Or.inl ⟨by rfl, fun w' h => by go_simp⟩) hS.1 hS.2 ?_
      try simp only [A1, A2, A3, Act.put, A4, A5, A6]
      refine AnyTill.take2 (i := 4) rfl rfl (by kernel_rfl) (by omega) (by omega) (by kernel_rfl) (by kernel_rfl) (by kernel_rfl) (by kernel_rfl) (fun _ _ _ h => h) (ySM_load rfl (.tmp 26) rfl (B + 1) rfl (fun w' h => h.2)) hS.1 hS.2 ?_
      try simp only [A1, A2, A3, Act.put, A4, A5, A6]
      refine AnyTill.take2 (i := 5) rfl rfl (by kernel_rfl) (by omega) (by omega) (by kernel_rfl) (by kernel_rfl) (by kernel_rfl) (by kernel_rfl) (fun _ _ _ h => h) (yM_load rfl (.tmp 7) rfl (C + 1) rfl (fun w' h => h.1)) hS.1 hS.2 ?_
      try simp only [A1, A2, A3, Act.put, A4, A5, A6]
      clear hS
      refine AnyTill.ready (i := 1) (by kernel_rfl) rfl (fun K hK => ?_)
      go_simp
      go_at_call 143
      refine (HO.out _).mono ?_
      rintro e w3 ⟨rfl, hb3⟩
      have hS3 := hS0.below hb3
      refine hK.out _ _ ⟨fun _ => hS3.c0, fun _ => ⟨hS3.c1, hS3.g.b1⟩⟩ ?_
      clear hK K
      try simp only [A1, A2, A3, Act.put, A4, A5, A6]
      refine AnyTill.ready (i := 2) (by kernel_rfl) rfl (fun K hK => ?_)
      go_simp
      go_at_call 135
      refine ((HA.out _).1).mono ?_
      rintro e w4 ⟨rfl, hb4⟩
      have hS4 := hS3.below hb4
      refine hK.out _ _ ⟨fun _ => hS4.c0, fun _ => ⟨hS4.c1, hS4.g.b1⟩⟩ ?_
      clear hK K
      try simp only [A1, A2, A3, Act.put, A4, A5, A6]
      refine AnyTill.ready (i := 6) (by kernel_rfl) rfl (fun K hK => ?_)
      go_simp
      go_at_call 136
      refine ((HA.out _).2).mono ?_
      rintro e w5 ⟨rfl, hb5⟩
      have hS5 := hS4.below hb5
      refine hK.out _ _ ⟨fun _ => hS5.c0, fun _ => ⟨hS5.c1, hS5.g.b1⟩⟩ ?_
      clear hK K
      try simp only [A1, A2, A3, Act.put, A4, A5, A6]
      refine AnyTill.ready (i := 7) (by kernel_rfl) rfl (fun K hK => ?_)
      rw [if_pos (by rfl)]
      refine wpM_store1 (.tmp 6) (.tmp 25) rfl C (f := limb (q0 + 1)) (u := len (q0 + 1)) rfl rfl hS5.c0 ?_
      have hS6 := hS5.setq (q0 + 1)
      refine hK.out _ _ ⟨fun h => absurd h (by decide), fun _ => ⟨hS6.c1, hS6.g.b1⟩⟩ ?_
      clear hK K
      refine AnyTill.ready (i := 8) (by kernel_rfl) rfl (fun K hK => ?_)
      rw [if_pos (by rfl)]
      refine wpM_store1 (.tmp 7) (.tmp 29) rfl (C + 1) (f := limb (b - r0)) (u := len (b - r0)) rfl rfl hS6.c1 ?_
      have hS7 := hS6.setr (b - r0)
      refine hK.out _ _ ⟨fun h => absurd h (by decide), fun h => absurd h (by decide)⟩ ?_
      clear hK K
      refine AnyTill.done (by kernel_rfl) ?_ _
      have HD7 := Lib.hid hS7
      obtain ⟨w6, hw6⟩ : ∃ w6, (w5.setRow C (magF (limb (q0 + 1)) (len (q0 + 1)))).setRow (C + 1) (magF (limb (b - r0)) (len (b - r0))) = w6 := ⟨_, rfl⟩
      rw [hw6] at HD7 ⊢
      clear hS3 hS4 hS5 hS6 hS7 hw6
      obtain ⟨q1, hq1⟩ : ∃ q1, q0 + 1 = q1 := ⟨_, rfl⟩
      obtain ⟨r1, hr1⟩ : ∃ r1, b - r0 = r1 := ⟨_, rfl⟩
      rw [hq1, hr1] at HD7 ⊢
      rw [hq1] at HS
      rw [hr1] at HS2
      have HR1 := Lib.hid hr1
      have HQ1 := Lib.hid hq1
      clear hq1 hr1
      go_wp2
      have hS0 : Dv w B true a t b C q1 r1 w6.drew := HD7.out.dr
      refine wp_region_held_drew (S := fun w' => Dv w B true a t b C q1 r1 w') (by kernel_rfl) hS0 (fun hS => ?_)
      refine wpAnyH_take (i := 0) (v := .pointer (some ⟨B, 31, none⟩)) rfl (by kernel_rfl) (by kernel_rfl) (by kernel_rfl) (fun _ _ _ h => h) (Or.inl ⟨by rfl, fun w' h => by go_simp⟩) hS ?_
      try simp only [A1, A2, A3, Act.put, A4, A5, A6]
      refine wpAnyH_take (i := 1) rfl (by kernel_rfl) (by kernel_rfl) (by kernel_rfl) (fun _ _ _ h => h) (ySN_load rfl (.tmp 30) rfl B rfl (fun w' h => h.g.b0)) hS ?_
      try simp only [A1, A2, A3, Act.put, A4, A5, A6]
      refine wpAnyH_take (i := 2) (v := .pointer (some ⟨B + 1, 31, none⟩)) rfl (by kernel_rfl) (by kernel_rfl) (by kernel_rfl) (fun _ _ _ h => h) (Or.inl ⟨by rfl, fun w' h => by go_simp⟩) hS ?_
      try simp only [A1, A2, A3, Act.put, A4, A5, A6]
      refine wpAnyH_take (i := 3) rfl (by kernel_rfl) (by kernel_rfl) (by kernel_rfl) (fun _ _ _ h => h) (ySN_load rfl (.tmp 32) rfl (B + 1) rfl (fun w' h => h.g.b1)) hS ?_
      try simp only [A1, A2, A3, Act.put, A4, A5, A6]
      refine wpAnyH_take (i := 4) (v := .bool (!t)) rfl (by kernel_rfl) (by kernel_rfl) (by kernel_rfl) (fun _ _ _ h => h) (Or.inl ⟨by rfl, fun w' h => by go_simp <;> cases t <;> rfl⟩) hS ?_
      try simp only [A1, A2, A3, Act.put, A4, A5, A6]
      refine wpAnyH_take (i := 5) rfl (by kernel_rfl) (by kernel_rfl) (by kernel_rfl) (fun _ _ _ h => h) (yM_load rfl (.tmp 6) rfl C rfl (fun w' h => h.c0)) hS ?_
      try simp only [A1, A2, A3, Act.put, A4, A5, A6]
      refine wpAnyH_take (i := 7) rfl (by kernel_rfl) (by kernel_rfl) (by kernel_rfl) (fun _ _ _ h => h) (yM_load rfl (.tmp 7) rfl (C + 1) rfl (fun w' h => h.c1)) hS ?_
      try simp only [A1, A2, A3, Act.put, A4, A5, A6]
      refine wpAnyH_ready (rs := [6]) (by kernel_rfl) (by simp) (AllReadyH.cons rfl (fun K hK => ?_) AllReadyH.nil)
      go_simp
      go_at_call 130
      refine (HS.out _).mono ?_
      rintro e w7 ⟨rfl, hb7⟩
      have hS7 := hS.below hb7
      clear hS
      refine hK.out _ _ hS7 (fun hS => ?_)
      clear hK K
      try simp only [A1, A2, A3, Act.put, A4, A5, A6]
      refine wpAnyH_ready (rs := [8]) (by kernel_rfl) (by simp) (AllReadyH.cons rfl (fun K hK => ?_) AllReadyH.nil)
      go_simp
      go_at_call 130
      refine (HS2.out _).mono ?_
      rintro e w8 ⟨rfl, hb8⟩
      have hS8 := hS7.below hb8
      clear hS
      refine hK.out _ _ hS8 (fun hS => ?_)
      clear hK K
      try simp only [A1, A2, A3, Act.put, A4, A5, A6]
      obtain ⟨f2, u2, q2, hC3⟩ := hS8.b2
      refine wpAnyH_ready (rs := [9]) (by kernel_rfl) (by simp) (AllReadyH.cons rfl (fun K hK => ?_) AllReadyH.nil)
      rw [if_pos (by rfl)]
      refine wpS_store1 (.tmp 4) (.tmp 36) rfl (B + 2) (f := limb (q1)) (u := len (q1)) (s := z) rfl rfl hC3 ?_
      have hS9 := hS8.out1 (limb (q1)) (len (q1)) z
      clear hS
      refine hK.out _ _ hS9.1 (fun hS => ?_)
      clear hK K
      obtain ⟨f3, u3, q3, hC4⟩ := hS9.1.b3
      refine wpAnyH_ready (rs := [10]) (by kernel_rfl) (by simp) (AllReadyH.cons rfl (fun K hK => ?_) AllReadyH.nil)
      rw [if_pos (by rfl)]
      refine wpS_store1 (.tmp 5) (.tmp 38) rfl (B + 3) (f := limb (r1)) (u := len (r1)) (s := false) rfl rfl hC4 ?_
      have hS10 := hS9.1.out2 (limb (r1)) (len (r1)) false
      clear hS
      refine hK.out _ _ hS10.1 (fun hS => ?_)
      clear hK K
      refine wpAnyH_done (by kernel_rfl) ?_ _
      go_wp2
      exact bodyPost_ret (retSS rfl _ _ (B + 2) (B + 3) rfl rfl (hS9.2.rowOther _ _ (by omega)) hS10.2) rfl ⟨ret_two (by first | rfl | rw [HQ1.out]) (by first | rfl | rw [HR1.out]), hB ▸ hS10.1.g.bl⟩
    · obtain ⟨rfl, rfl⟩ : q0 = q ∧ r0 = r := by simpa using hq
      clear hq HA HO
      go_enter Tryz.func88, Tryz.ntmps88
      go_wp2_with (first | ((with_reducible refine wpSM_load (.tmp 9) B ?_ HH.out.g.b0 ?_); rfl) | ((with_reducible refine wpSM_load (.tmp 11) (B + 1) ?_ HH.out.g.b1 ?_); rfl) | (go_at_call 142; refine (HV.out _).mono ?_; rintro e w1 ⟨rfl, hb1⟩; have HH1 := Lib.hid (HH.out.below hb1); obtain ⟨C, hC⟩ : ∃ C, w1.heap.size = C := ⟨_, rfl⟩; obtain ⟨V, hV⟩ : ∃ V, (w1.alloc (.cells (magF (fun _ => 0) 0) 80)).alloc (.cells (magF (fun _ => 0) 0) 80) = V := ⟨_, rfl⟩; have HF := Lib.hid (HH1.out.full (q := q0) (r := r0) hC hV)) | ((with_reducible refine wpM_store (.tmp 6) (.tmp 14) C (f := limb q0) (u := len q0) ?_ ?_ HF.out.1 ?_); rfl; rfl) | ((with_reducible refine wpM_store (.tmp 7) (.tmp 15) (C + 1) (f := limb r0) (u := len r0) ?_ ?_ HF.out.2.1 ?_); rfl; rfl; have HD := Lib.hid HF.out.2.2; obtain ⟨U, hU⟩ : ∃ U, (V.setRow C (magF (limb q0) (len q0))).setRow (C + 1) (magF (limb r0) (len r0)) = U := ⟨_, rfl⟩; rw [hU] at HD ⊢; have e31 := sig_neg HD.out.g.b0; clear hU) | ((with_reducible refine wpM_loadG (.tmp 7) (C + 1) ?_ ?_ HD.out.c1 ?_); rfl; rfl) | (go_at_call 86; refine (HZ.out _).mono ?_; rintro e w2 ⟨rfl, hb2⟩; have HD2 := Lib.hid (HD.out.below hb2)))
      clear hzS hzM hW hV c31 e31
      have hS0 : Dv w B true a t b C q0 r0 w2.drew := HD2.out.dr
      refine wp_region_held_drew (S := fun w' => Dv w B true a t b C q0 r0 w') (by kernel_rfl) hS0 (fun hS => ?_)
      refine wpAnyH_take (i := 0) (v := .pointer (some ⟨B, 31, none⟩)) rfl (by kernel_rfl) (by kernel_rfl) (by kernel_rfl) (fun _ _ _ h => h) (Or.inl ⟨by rfl, fun w' h => by go_simp⟩) hS ?_
      try simp only [A1, A2, A3, Act.put, A4, A5, A6]
      refine wpAnyH_take (i := 1) rfl (by kernel_rfl) (by kernel_rfl) (by kernel_rfl) (fun _ _ _ h => h) (ySN_load rfl (.tmp 30) rfl B rfl (fun w' h => h.g.b0)) hS ?_
      try simp only [A1, A2, A3, Act.put, A4, A5, A6]
      refine wpAnyH_take (i := 2) (v := .pointer (some ⟨B + 1, 31, none⟩)) rfl (by kernel_rfl) (by kernel_rfl) (by kernel_rfl) (fun _ _ _ h => h) (Or.inl ⟨by rfl, fun w' h => by go_simp⟩) hS ?_
      try simp only [A1, A2, A3, Act.put, A4, A5, A6]
      refine wpAnyH_take (i := 3) rfl (by kernel_rfl) (by kernel_rfl) (by kernel_rfl) (fun _ _ _ h => h) (ySN_load rfl (.tmp 32) rfl (B + 1) rfl (fun w' h => h.g.b1)) hS ?_
      try simp only [A1, A2, A3, Act.put, A4, A5, A6]
      refine wpAnyH_take (i := 4) (v := .bool (!t)) rfl (by kernel_rfl) (by kernel_rfl) (by kernel_rfl) (fun _ _ _ h => h) (Or.inl ⟨by rfl, fun w' h => by go_simp <;> cases t <;> rfl⟩) hS ?_
      try simp only [A1, A2, A3, Act.put, A4, A5, A6]
      refine wpAnyH_take (i := 5) rfl (by kernel_rfl) (by kernel_rfl) (by kernel_rfl) (fun _ _ _ h => h) (yM_load rfl (.tmp 6) rfl C rfl (fun w' h => h.c0)) hS ?_
      try simp only [A1, A2, A3, Act.put, A4, A5, A6]
      refine wpAnyH_take (i := 7) rfl (by kernel_rfl) (by kernel_rfl) (by kernel_rfl) (fun _ _ _ h => h) (yM_load rfl (.tmp 7) rfl (C + 1) rfl (fun w' h => h.c1)) hS ?_
      try simp only [A1, A2, A3, Act.put, A4, A5, A6]
      refine wpAnyH_ready (rs := [6]) (by kernel_rfl) (by simp) (AllReadyH.cons rfl (fun K hK => ?_) AllReadyH.nil)
      go_simp
      go_at_call 130
      refine (HS.out _).mono ?_
      rintro e w7 ⟨rfl, hb7⟩
      have hS7 := hS.below hb7
      clear hS
      refine hK.out _ _ hS7 (fun hS => ?_)
      clear hK K
      try simp only [A1, A2, A3, Act.put, A4, A5, A6]
      refine wpAnyH_ready (rs := [8]) (by kernel_rfl) (by simp) (AllReadyH.cons rfl (fun K hK => ?_) AllReadyH.nil)
      go_simp
      go_at_call 130
      refine (HS2.out _).mono ?_
      rintro e w8 ⟨rfl, hb8⟩
      have hS8 := hS7.below hb8
      clear hS
      refine hK.out _ _ hS8 (fun hS => ?_)
      clear hK K
      try simp only [A1, A2, A3, Act.put, A4, A5, A6]
      obtain ⟨f2, u2, q2, hC3⟩ := hS8.b2
      refine wpAnyH_ready (rs := [9]) (by kernel_rfl) (by simp) (AllReadyH.cons rfl (fun K hK => ?_) AllReadyH.nil)
      rw [if_pos (by rfl)]
      refine wpS_store1 (.tmp 4) (.tmp 36) rfl (B + 2) (f := limb (q0)) (u := len (q0)) (s := z) rfl rfl hC3 ?_
      have hS9 := hS8.out1 (limb (q0)) (len (q0)) z
      clear hS
      refine hK.out _ _ hS9.1 (fun hS => ?_)
      clear hK K
      obtain ⟨f3, u3, q3, hC4⟩ := hS9.1.b3
      refine wpAnyH_ready (rs := [10]) (by kernel_rfl) (by simp) (AllReadyH.cons rfl (fun K hK => ?_) AllReadyH.nil)
      rw [if_pos (by rfl)]
      refine wpS_store1 (.tmp 5) (.tmp 38) rfl (B + 3) (f := limb (r0)) (u := len (r0)) (s := false) rfl rfl hC4 ?_
      have hS10 := hS9.1.out2 (limb (r0)) (len (r0)) false
      clear hS
      refine hK.out _ _ hS10.1 (fun hS => ?_)
      clear hK K
      refine wpAnyH_done (by kernel_rfl) ?_ _
      go_wp2
      exact bodyPost_ret (retSS rfl _ _ (B + 2) (B + 3) rfl rfl (hS9.2.rowOther _ _ (by omega)) hS10.2) rfl ⟨ret_two (by first | rfl | rw [HQ1.out]) (by first | rfl | rw [HR1.out]), hB ▸ hS10.1.g.bl⟩
end Go.Proofs.YtjemolaobhlapaaGreatDoor
