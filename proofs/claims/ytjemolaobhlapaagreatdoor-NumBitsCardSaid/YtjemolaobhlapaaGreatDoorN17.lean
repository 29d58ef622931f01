/- readLimb, readMagnitude. -/
import Derived.Laws.RangeAny
import Derived.WalkSmall
import Derived.Lib.Strings
import Derived.Test.YtjemolaobhlapaaGreatDoorN14
import Derived.RangeFuncNested
import Derived.RangeFuncBound
import Derived.RangeFuncCalls
import Derived.RangeFuncLeaves
import Derived.Shelf.Abstract
import Derived.Shelf.RegionOpen
import Derived.OwnWalkIn
import Derived.TacticsInMore
import Derived.LoopNIn
import Derived.LoopIn
import Derived.Maps.AppendAt
import Derived.RangeFuncBox
set_option linter.unusedSimpArgs false
set_option linter.unusedVariables false
namespace Go.Proofs.YtjemolaobhlapaaGreatDoor
open Go.RowKit
set_option maxRecDepth 100000

theorem take_snoc (s : ByteArray) (k : Nat) (h : k < s.size) : s.data.toList.take (k + 1) = s.data.toList.take k ++ [s[k]] := by
  rw [List.take_succ_eq_append_getElem (by simpa using h)]; rfl
theorem num_snoc (s : ByteArray) (k : Nat) (h : k < s.size) : numOf (s.data.toList.take (k + 1)) = numOf (s.data.toList.take k) * 10 + (s[k].toNat - 48) := by
  rw [take_snoc s k h, numOf_snoc]
theorem dig_at {s : ByteArray} (hd : ∀ c ∈ s.data.toList, isDig c = true) (k : Nat) (h : k < s.size) : 48 ≤ s[k].toNat ∧ s[k].toNat ≤ 57 :=
  isDig_le (hd _ (by have : s[k] = s.data.toList[k]'(by simpa using h) := rfl
                     rw [this]; exact List.getElem_mem _))
theorem num_part {s : ByteArray} (hd : ∀ c ∈ s.data.toList, isDig c = true) (k : Nat) (hk : k ≤ 9) : numOf (s.data.toList.take k) < 10 ^ k := by
  have h1 := numOf_lt (l := s.data.toList.take k) fun c hc => hd c (List.mem_of_mem_take hc)
  exact Nat.lt_of_lt_of_le h1 (Nat.pow_le_pow_right (by decide) (List.length_take_le _ _))
theorem num_small {s : ByteArray} (hd : ∀ c ∈ s.data.toList, isDig c = true) (hs : s.size ≤ 9) (k : Nat) (hk : k < s.size) : numOf (s.data.toList.take k) < 100000000 := by
  have h1 := num_part hd k (by omega)
  have h2 : (10 : Nat) ^ k ≤ 10 ^ 8 := Nat.pow_le_pow_right (by decide) (by omega)
  exact Nat.lt_of_lt_of_le h1 h2

set_option maxHeartbeats 2000000 in
theorem readLimb_any (s : ByteArray) (hs : s.size ≤ 9) (hd : ∀ c ∈ s.data.toList, isDig c = true) (w : World) :
    Calls Tryz.prog 131 #[.string s] w fun e w' => e = .returned (.int .u32 (numOf s.data.toList)) ∧ Below w.heap.size w w' := by
  have HD := Lib.hid hd
  clear hd
  obtain ⟨B, hB⟩ : ∃ B, w.heap.size = B := ⟨_, rfl⟩
  have H0 : Hid ((w.iter s 0).heap[B]? = some (.stringIter s 0) ∧ Below B w (w.iter s 0)) := by
    rw [← hB]; exact ⟨World.iter_heap w s 0, (Below.refl _ _).alloc (Nat.le_refl _) _⟩
  go_enter Tryz.func131, Tryz.ntmps131
  go_wp2
  go_loopw [3, 5] (fun x _ wr => ∃ k : Nat, k ≤ s.size ∧ wr.heap[B]? = some (.stringIter s k) ∧ x = .int .u32 (numOf (s.data.toList.take k)) ∧ Hid (Below B w wr)) (fun _ _ wr => s.size - wr.iterPos B)
  case atStart => exact ⟨0, Nat.zero_le _, H0.out.1, by simp [numOf, numFrom], H0.out.2⟩
  case round =>
    clear H0
    obtain ⟨k, hk, hit, rfl, hb⟩ := hrel
    have hpos := iterPos_of hit
    by_cases hlt : k < s.size
    · obtain ⟨c, hcc⟩ : ∃ c : Nat, s[k].toNat = c := ⟨_, rfl⟩
      obtain ⟨v, hv⟩ : ∃ v, numOf (s.data.toList.take k) = v := ⟨_, rfl⟩
      have hc := dig_at HD.out k hlt
      have hvl := num_small HD.out hs k hlt
      have hn := num_snoc s k hlt
      rw [hcc] at hc hn
      rw [hv] at hvl hn ⊢
      have HN := Lib.hid hn
      have hnx : ∀ ty, (Instr.next (.pointer (some ⟨B, 0, none⟩)) true ty).run Tryz.prog wr = _ := fun ty => Lib.run_next_ascii_at wr B s k ty hit hlt (by omega)
      have hit2 := Lib.iterAt_heap wr B s k (k + 1) hit
      have hb2 := Lib.below_iterAt hb.out (k := B) (Nat.le_refl _) s (k + 1)
      obtain ⟨W1, hW1⟩ : ∃ W1, wr.iterAt B s (k + 1) = W1 := ⟨_, rfl⟩
      rw [hW1] at hnx hit2 hb2
      rw [hcc] at hnx
      have hpos2 := iterPos_of hit2
      have hmod : ((c : Int) % 256) = c := by omega
      clear hW1 hcc hv hn
      go_wp2
      go_roundw
      case rel => exact ⟨k + 1, hlt, hit2, by rw [HN.out]; congr 1; omega, hb2⟩
      case measure => rw [hpos, hpos2]; omega
    · have hnx : ∀ ty, (Instr.next (.pointer (some ⟨B, 0, none⟩)) true ty).run Tryz.prog wr = _ := fun ty => Lib.run_next_end_at wr B s k ty hit hlt
      have HE := Lib.hid (show s.data.toList.take k = s.data.toList from List.take_of_length_le (by simp; omega))
      go_wp2
      go_ret
      exact ⟨ret_int (by rw [HE.out]), hB ▸ hb.out⟩

/-! ### readMagnitude -/
theorem chunk_data (s : ByteArray) (a e : Nat) (h : a ≤ e) : (s.extract a e).data.toList = (s.data.toList.take e).drop a := by
  rw [Lib.extract_data]
  simp [List.drop_take]
theorem chunk_size (s : ByteArray) (a e : Nat) (he : e ≤ s.size) (h : e ≤ a + 9) : (s.extract a e).size ≤ 9 := by
  simp; omega
theorem low_at (n k : Nat) : low n k k = 0 := by simp [low]
/-- Two blocks of magnitudes. -/
structure St2 (w0 : World) (B : Nat) (f g : Nat → Nat) (u v : Nat) (w : World) : Prop where
  b0 : BlockIs w B 80 (magF f u)
  b1 : BlockIs w (B + 1) 80 (magF g v)
  bl : Below B w0 w
theorem St2.below {w0 : World} {B : Nat} {f g : Nat → Nat} {u v : Nat} {w w' : World} (s : St2 w0 B f g u v w) (hb : Below w.heap.size w w') : St2 w0 B f g u v w' :=
  ⟨s.b0.below hb s.b0.lt, s.b1.below hb s.b1.lt, s.bl.trans (hb.mono (by have := s.b0.lt; omega))⟩
theorem St2.drew {w0 : World} {B : Nat} {f g : Nat → Nat} {u v : Nat} {w : World} (s : St2 w0 B f g u v w) : St2 w0 B f g u v w.drew := ⟨s.b0.drew, s.b1.drew, s.bl.drew⟩
theorem St2.limb1 {w0 : World} {B : Nat} {f g : Nat → Nat} {u v : Nat} {w : World} (s : St2 w0 B f g u v w) {i x : Nat} {z : Int} (hi : i < 30) (hz : z = x) : St2 w0 B f (upd g i x) u v (w.setCell ⟨B + 1, i, none⟩ (.int .u32 z)) :=
  ⟨s.b0.other _ _ (by simp), s.b1.limb hi hz, s.bl.setCell (by simp) _⟩
theorem St2.used1 {w0 : World} {B : Nat} {f g : Nat → Nat} {u v : Nat} {w : World} (s : St2 w0 B f g u v w) {x : Nat} {z : Int} (hz : z = x) : St2 w0 B f g u x (w.setCell ⟨B + 1, 30, none⟩ (.int .i64 z)) :=
  ⟨s.b0.other _ _ (by simp), s.b1.used hz, s.bl.setCell (by simp) _⟩

set_option maxHeartbeats 4000000 in
theorem readMagnitude_any (s : ByteArray) (hs : s.size ≤ 270) (hd : ∀ c ∈ s.data.toList, isDig c = true) (w : World) :
    Calls Tryz.prog 71 #[.string s] w fun e w' => e = .returned (.agg (mag (numOf s.data.toList))) ∧ Below w.heap.size w w' := by
  have HD := Lib.hid hd
  obtain ⟨n, hn⟩ : ∃ n, numOf s.data.toList = n := ⟨_, rfl⟩
  have HN := Lib.hid hn
  have HC := Lib.hid (fun (k e : Nat) (h : e + 9 * k = s.size) => numOf_chunk (i := k) (e := e) hd (by simpa using h))
  have HP := Lib.hid (fun (k : Nat) (h : s.size ≤ 9 * k) => num_pw (i := k) hd (by simpa using h))
  rw [hn] at HC HP ⊢
  clear hd hn
  obtain ⟨B, hB⟩ : ∃ B, w.heap.size = B := ⟨_, rfl⟩
  obtain ⟨W, hW⟩ : ∃ W, (w.alloc (.cells (magF (fun _ => 0) 0) 80)).alloc (.cells (magF (fun _ => 0) 0) 80) = W := ⟨_, rfl⟩
  have H0 : Hid (St2 w B (fun _ => 0) (low n 0) 0 0 W) := by
    rw [← hW, ← hB, low_zero]
    refine ⟨(BlockIs.new w _ _).alloc _, ?_, ((Below.refl _ _).alloc (Nat.le_refl _) _).alloc (by simp) _⟩
    have := BlockIs.new (w.alloc (.cells (magF (fun _ => 0) 0) 80)) 80 (magF (fun _ => 0) 0)
    rwa [World.size_alloc] at this
  have hz0 := zeroM
  go_enter Tryz.func71, Tryz.ntmps71
  go_wp2
  clear hz0 hW
  go_loopw [4] (fun x wr => ∃ k : Nat, 9 * k < s.size + 9 ∧ x = .int .i64 ((s.size : Int) - 9 * (k : Int)) ∧ Hid (St2 w B (fun _ => 0) (low n k) 0 k wr)) (fun x _ => (intOf x).toNat)
  case atStart => exact ⟨0, by omega, by simp, H0⟩
  case round =>
    clear H0
    obtain ⟨k, hk, rfl, HW⟩ := hrel
    have hk30 : k ≤ 30 := by omega
    have c30 := (HW.out.b1.at 30).trans (magF_used _ _)
    by_cases hlt : 9 * k < s.size
    · obtain ⟨e, he⟩ : ∃ e : Nat, e + 9 * k = s.size := ⟨s.size - 9 * k, by omega⟩
      have he2 : (s.size : Int) - 9 * (k : Int) = e := by omega
      obtain ⟨d, hde⟩ : ∃ d : Nat, d = e - 9 := ⟨_, rfl⟩
      have HCH := Lib.hid (HC.out k e he)
      rw [he2]
      have hd1 : d + 9 = e ∨ (e ≤ 9 ∧ d = 0) := by omega
      have hde2 : d ≤ e := by omega
      have hd3 : (0 : Int) ≤ d := by omega
      have HRL := Lib.hid (fun W => readLimb_any (s.extract d e) (chunk_size s d e (by omega) (by omega)) (fun c hc => HD.out c (by rw [chunk_data s d e hde2] at hc; exact List.mem_of_mem_take (List.mem_of_mem_drop hc))) W)
      have HV := Lib.hid (show numOf (s.extract d e).data.toList = limb n k by rw [chunk_data s d e hde2, hde]; exact HCH.out)
      rw [HV.out] at HRL
      have HDE := Lib.hid hde
      clear hde HV
      go_wp2
      have hH0 := HW.out.drew
      refine wp_region_held_drew (S := fun w' => ∃ g, St2 w B (fun _ => 0) g 0 k w') (by kernel_rfl) ⟨_, hH0⟩ (fun hS => ?_)
      refine wpAnyH_take (i := 0) (v := .pointer (some ⟨B + 1, 30, none⟩)) rfl (by kernel_rfl) (by kernel_rfl) (by kernel_rfl) (fun _ _ _ h => h) (Or.inl ⟨by rfl, fun w' h => by go_simp⟩) hS ?_
      try simp only [A1, A2, A3, Act.put, A4, A5, A6]
      refine wpAnyH_take (i := 1) (v := .int .i64 k) rfl (by kernel_rfl) (by kernel_rfl) (by kernel_rfl) (fun _ _ _ h => h) (Or.inl ⟨by rfl, fun w' h => by obtain ⟨g, hg⟩ := h; have c := (hg.b1.at 30).trans (magF_used _ _); go_simp⟩) hS ?_
      try simp only [A1, A2, A3, Act.put, A4, A5, A6]
      refine wpAnyH_take (i := 2) (v := .string s) rfl (by kernel_rfl) (by kernel_rfl) (by kernel_rfl) (fun _ _ _ h => h) (Or.inl ⟨by rfl, fun w' _ => by rfl⟩) hS ?_
      try simp only [A1, A2, A3, Act.put, A4, A5, A6]
      refine wpAnyH_take (i := 3) (v := .int .i64 e) rfl (by kernel_rfl) (by kernel_rfl) (by kernel_rfl) (fun _ _ _ h => h) (Or.inl ⟨by rfl, fun w' _ => by rfl⟩) hS ?_
      try simp only [A1, A2, A3, Act.put, A4, A5, A6]
      refine wpAnyH_take (i := 4) (v := .int .i64 ((e : Int) - 9)) rfl (by kernel_rfl) (by kernel_rfl) (by kernel_rfl) (fun _ _ _ h => h) (Or.inl ⟨by rfl, fun w' h => by have hw := IntWalk.i64_in ((e : Int) - 9) (by omega); go_simp⟩) hS ?_
      try simp only [A1, A2, A3, Act.put, A4, A5, A6]
      refine wpAnyH_take (i := 5) (v := .int .i64 d) rfl (by kernel_rfl) (by kernel_rfl) (by kernel_rfl) (fun _ _ _ h => h) (Or.inl ⟨by rfl, fun w' h => by go_simp; split <;> omega⟩) hS ?_
      try simp only [A1, A2, A3, Act.put, A4, A5, A6]
      refine wpAnyH_take (i := 6) (v := .int .i64 e) rfl (by kernel_rfl) (by kernel_rfl) (by kernel_rfl) (fun _ _ _ h => h) (Or.inl ⟨by rfl, fun w' _ => by rfl⟩) hS ?_
      try simp only [A1, A2, A3, Act.put, A4, A5, A6]
      refine wpAnyH_take (i := 7) (v := .string (s.extract d e)) rfl (by kernel_rfl) (by kernel_rfl) (by kernel_rfl) (fun _ _ _ h => h) (Or.inl ⟨by rfl, fun w' h => by go_simp; intro hh; omega⟩) hS ?_
      try simp only [A1, A2, A3, Act.put, A4, A5, A6]
      refine wpAnyH_take (i := 9) (v := .pointer (some ⟨B + 1, 0, none⟩)) rfl (by kernel_rfl) (by kernel_rfl) (by kernel_rfl) (fun _ _ _ h => h) (Or.inl ⟨by rfl, fun w' h => by go_simp⟩) hS ?_
      try simp only [A1, A2, A3, Act.put, A4, A5, A6]
      refine wpAnyH_ready (rs := [8]) (by kernel_rfl) (by simp) (AllReadyH.cons rfl (fun K hK => ?_) AllReadyH.nil)
      go_simp
      go_at_call 131
      refine (HRL.out _).mono ?_
      rintro e w2 ⟨rfl, hb2⟩
      have hH1 := hH0.below hb2
      have hck := (hH1.b1.at k).trans ((magF_get _ _ (by omega)).trans (by rw [low_at]))
      have hfk := hH1.b1.thawed k
      clear hS
      refine hK.out _ _ ⟨_, hH1⟩ (fun hS => ?_)
      clear hK K
      try simp only [A1, A2, A3, Act.put, A4, A5, A6]
      refine wpAnyH_take (i := 10) (v := .pointer (some ⟨B + 1, k, none⟩)) rfl (by kernel_rfl) (by kernel_rfl) (by kernel_rfl) (fun _ _ _ h => h) (Or.inl ⟨by rfl, fun w' h => by go_simp; intro hh; omega⟩) hS ?_
      try simp only [A1, A2, A3, Act.put, A4, A5, A6]
      refine wpAnyH_ready (rs := [11]) (by kernel_rfl) (by simp) (AllReadyH.cons rfl (fun K hK => ?_) AllReadyH.nil)
      rw [if_pos (by rfl)]
      go_simp
      have hH2 := hH1.limb1 (i := k) (x := limb n k) (by omega) rfl
      clear hS
      refine hK.out _ _ ⟨_, hH2⟩ (fun hS => ?_)
      clear hK K hck hfk hS
      refine wpAnyH_done (by kernel_rfl) ?_ _
      have HW3 := Lib.hid hH2
      clear hH0 hH1 hH2
      obtain ⟨W3, hW3⟩ : ∃ W3, w2.setCell ⟨B + 1, k, none⟩ (.int .u32 (limb n k)) = W3 := ⟨_, rfl⟩
      rw [hW3] at HW3 ⊢
      clear hW3
      have e30 := (HW3.out.b1.at 30).trans (magF_used _ _)
      have g30 := HW3.out.b1.thawed 30
      have hes : (s.size : Int) = e + 9 * k := by omega
      clear c30
      go_wp2
      go_roundw
      case rel =>
        refine ⟨k + 1, by omega, by congr 1; omega, ?_⟩
        have := HW3.out.used1 (x := k + 1) (z := (k : Int) + 1) rfl
        rwa [low_next] at this
      case measure => simp [intOf]; omega
    · have HE := Lib.hid (HP.out k (by omega))
      have HT := Lib.hid (fun W => trimmed_any (low n k) k (fun i _ => by unfold low; split <;> first | exact limb_lt _ _ | decide) (fun i h1 _ => by unfold low; rw [if_neg (by omega)]) hk30 W)
      have HV := Lib.hid (show val (low n k) 30 = n by rw [low_all HE.out, val_limb, Nat.mod_eq_of_lt (Nat.lt_of_lt_of_le HE.out (pw_mono hk30))])
      go_wp2_with (first | ((with_reducible refine wpM_load (.tmp 3) (B + 1) ?_ HW.out.b1 ?_); rfl) | (go_at_call 132; refine (HT.out _).mono ?_; rintro e w1 ⟨rfl, hb1⟩; have HW1 := Lib.hid (HW.out.below hb1); clear hb1; rw [HV.out]) | ((with_reducible refine wpM_store (f := limb n) (u := len n) (.tmp 2) (.tmp 27) B ?_ ?_ HW1.out.b0 ?_); rfl; rfl))
      exact bodyPost_ret (retM rfl _ _ B rfl (HW1.out.b0.row _)) rfl ⟨rfl, hB ▸ below_row HW1.out.bl _ _ (by omega)⟩
end Go.Proofs.YtjemolaobhlapaaGreatDoor

namespace Go.Proofs.YtjemolaobhlapaaGreatDoor
open Go.RowKit Go.Shelf
set_option maxRecDepth 100000

attribute [local go_sem] Oper.semAt_some

theorem AbidesFrom.below {J : List UInt8 → World → Prop} {B : Nat} (h : AbidesFrom B J) {pre : List UInt8} {W W' : World} (hJ : J pre W) (hb : Below W.heap.size W W') : J pre W' :=
  h pre W W' none hJ ⟨hb.os, hb.tape, hb.output, hb.size, fun k hk _ => hb.block k hk⟩ (fun r e => by cases e)

/-- Has a digit been written when k places are left? -/
def bg (n k : Nat) : Bool := decide (0 < n / 10 ^ k)
def plc : Nat → Nat
  | 0 => 0
  | q + 1 => 10 ^ q
theorem plc_next (q : Nat) : plc (q + 1) / 10 = plc q := by
  cases q with
  | zero => rfl
  | succ r => show 10 ^ (r + 1) / 10 = 10 ^ r; rw [Nat.pow_succ]; omega
theorem plc_le {q : Nat} (h : q ≤ 9) : plc q ≤ 100000000 := by
  cases q with
  | zero => simp [plc]
  | succ r => exact Nat.le_trans (Nat.pow_le_pow_right (by decide) (show r ≤ 8 by omega)) (by decide)
theorem plc_pos (q : Nat) : 0 < plc (q + 1) := Nat.pow_pos (by decide)
theorem wrote_prefix (n k : Nat) (h : 0 < n) : wrote n k <+: Lib.decDigits n := by
  induction k with
  | zero => rw [wrote_zero h]; exact List.prefix_refl _
  | succ k ih =>
    have := wrote_next n k
    by_cases h0 : n / 10 ^ k = 0
    · have : n / 10 ^ (k + 1) = 0 := by rw [Nat.pow_succ, ← Nat.div_div_eq_div_mul, h0]
      
      unfold wrote; rw [if_pos this]; exact List.nil_prefix
    · rw [if_neg h0] at this
      rw [this] at ih
      exact (List.prefix_append _ _).trans ih
/-- One place: nothing yet, or a digit. -/
theorem place_none {n k d : Nat} (hb : bg n (k + 1) = false) (hd : n / 10 ^ k % 10 = d) (h0 : d = 0) : bg n k = false ∧ wrote n k = wrote n (k + 1) := by
  have e : n / 10 ^ (k + 1) = n / 10 ^ k / 10 := by rw [Nat.pow_succ, Nat.div_div_eq_div_mul]
  unfold bg at hb ⊢
  have h1 : n / 10 ^ k = 0 := by
    rw [e] at hb
    generalize n / 10 ^ k = q at hb hd ⊢
    simp at hb; omega
  rw [wrote_next n k, if_pos h1]
  have h2 : n / 10 ^ (k + 1) = 0 := by rw [e, h1]
  refine ⟨by simp [h1], ?_⟩
  unfold wrote; rw [if_pos h2]
theorem place_some {n k d : Nat} (hd : n / 10 ^ k % 10 = d) (h : bg n (k + 1) = true ∨ 0 < d) : bg n k = true ∧ wrote n k = wrote n (k + 1) ++ [UInt8.ofNat (48 + d)] := by
  have e : n / 10 ^ (k + 1) = n / 10 ^ k / 10 := by rw [Nat.pow_succ, Nat.div_div_eq_div_mul]
  unfold bg at h ⊢
  have h1 : n / 10 ^ k ≠ 0 := by
    rcases h with h | h
    · intro h0; rw [e, h0] at h; simp at h
    · intro h0; rw [h0] at hd; simp at hd; omega
  rw [wrote_next n k, if_neg h1, hd]
  exact ⟨by simpa using Nat.pos_of_ne_zero h1, rfl⟩
theorem wrote_len {n k d : Nat} (h : 0 < n) (e : wrote n k = wrote n (k + 1) ++ [UInt8.ofNat (48 + d)]) : (wrote n (k + 1)).length < (Lib.decDigits n).length := by
  have h1 := (wrote_prefix n k h).length_le
  rw [e, List.length_append, List.length_singleton] at h1
  omega
def encB (x : UInt8) : Array Value := #[.int .u8 (x.toNat : Int)]
theorem encB_digit {d : Nat} (h : d < 10) : encB (UInt8.ofNat (48 + d)) = #[.int .u8 (48 + (d : Int))] := by
  unfold encB; rw [digit_byte h]; rfl

theorem wpInM_load {m : Nat} {ops : Array Oper} {rest : List Oper} {a : Act} {w : World} {Q : Exit → Act → World → Prop} {d : Option Tmp} {ty : TypeId} {pos : String} {after : Array _} (x : Operand) (B : Nat) {f : Nat → Nat} {u : Nat}
    (hx : a.eval x = .pointer (some ⟨B, 0, none⟩)) (hB : BlockIs w B 80 (magF f u)) (h : wpListIn Fence.wide m Tryz.prog ops Q rest (a.put d (.agg (magF f u))) w) :
    wpListIn Fence.wide m Tryz.prog ops Q ({ dst := d, op := .load 80 x, type := ty, pos := pos, after := after, guard := none } :: rest) a w := by
  refine wpListIn_plain rfl fun K' hK' => ?_
  unfold Oper.wpIn
  refine ⟨by simp [Oper.about], ?_⟩
  rw [Oper.semAt_plain _ _ _ (by intro c hc; cases hc)]
  simp only [execOp, hx, Instr.loadAt, Instr.sureAddr, Sem.run_bind, Sem.run_pure, Result.andThen_ok, loadM hB]
  exact hK' _ _ h
theorem wpInSM_load {m : Nat} {ops : Array Oper} {rest : List Oper} {a : Act} {w : World} {Q : Exit → Act → World → Prop} {d : Option Tmp} {ty : TypeId} {pos : String} {after : Array _} (x : Operand) (B : Nat) {f : Nat → Nat} {u : Nat} {s : Bool}
    (hx : a.eval x = .pointer (some ⟨B, 0, none⟩)) (hB : BlockIs w B 82 (sigF f u s)) (h : wpListIn Fence.wide m Tryz.prog ops Q rest (a.put d (.agg (magF f u))) w) :
    wpListIn Fence.wide m Tryz.prog ops Q ({ dst := d, op := .load 80 x, type := ty, pos := pos, after := after, guard := none } :: rest) a w := by
  refine wpListIn_plain rfl fun K' hK' => ?_
  unfold Oper.wpIn
  refine ⟨by simp [Oper.about], ?_⟩
  rw [Oper.semAt_plain _ _ _ (by intro c hc; cases hc)]
  simp only [execOp, hx, Instr.loadAt, Instr.sureAddr, Sem.run_bind, Sem.run_pure, Result.andThen_ok, run_loadSM hB]
  exact hK' _ _ h

set_option maxHeartbeats 4000000 in
theorem digits1_in (m : Nat) (hm : 1 ≤ m) (l n Bm : Nat) (hn : n < pw 30) (Kp : World → World → Prop) (hKp : ∀ A C, Kp A C → BlockIs A Bm 80 (mag n) → BlockIs C Bm 80 (mag n)) (J Jx : List UInt8 → World → Prop) (W : World)
    (hE : BlockIs W Bm 80 (mag n)) (hJ : AbidesFrom W.heap.size J)
    (hY : ∀ pre x W1, J pre W1 → pre.length < (Lib.decDigits n).length → YieldAt Fence.wide (m - 1) Tryz.prog l (encB x) W1 fun e W' => (e = .returned (.bool true) ∧ J (pre ++ [x]) W' ∧ Kp W1 W') ∨ (e = .returned (.bool false) ∧ Jx (pre ++ [x]) W'))
    (h0 : J [] W) :
    CallsIn Fence.wide m Tryz.prog 193 #[.func (.yield l) #[] #[], .pointer (some ⟨Bm, 0, none⟩)] W fun e W' => (∃ v, e = .returned v) ∧ ((∃ ys, ys = Lib.decDigits n ∧ J ys W') ∨ (∃ pre, True ∧ Jx pre W')) := by
  have HY := Lib.hid hY
  have HJ := Lib.hid hJ
  have HE := Lib.hid hE
  have HK := Lib.hid hKp
  have H0 := Lib.hid h0
  clear hY hJ hE hKp h0
  obtain ⟨z, hz⟩ : ∃ z, decide (n = 0) = z := ⟨_, rfl⟩
  have HZ := Lib.hid (fun W => isZero_any n hn W z hz)
  refine callsIn_of_wp Tryz.func193 rfl trivial ?_ rfl
  simp only [Tryz.ntmps193, List.size_toArray, List.length_cons, List.length_nil, Nat.reduceAdd, Nat.reduceSub, Array.replicate_succ, Array.replicate_zero, List.push_toArray, List.append_toArray, List.nil_append, List.cons_append]
  have HZZ := Lib.hid hz
  clear hz
  cases z
  · have hpos : 0 < n := by have := HZZ.out; simp at this; omega
    gi_wp2_with (first | ((with_reducible refine wpInM_load (.tmp 1) Bm ?_ HE.out ?_); rfl) | (refine ⟨trivial, ?_⟩; gi_at_call 86; refine (callsIn_wide.2 (HZ.out _)).mono ?_; rintro e w1 ⟨rfl, hb1⟩; have HE1 := Lib.hid (HE.out.below hb1 HE.out.lt); have H1 := Lib.hid (AbidesFrom.below HJ.out H0.out hb1); clear hb1; have c30 := (HE1.out.at 30).trans (magF_used _ _); have h30 := len_30 hn))
    obtain ⟨lim, hlim⟩ : ∃ lim, len n = lim := ⟨_, rfl⟩
    have HST : Hid (wrote n (9 * lim) = [] ∧ bg n (9 * lim) = false) := by
      have h := len_lt hn
      rw [hlim, pw_ten] at h
      refine ⟨wrote_none h, ?_⟩
      unfold bg; rw [Nat.div_eq_of_lt h]; rfl
    have HZE := Lib.hid (wrote_zero hpos)
    have HL := Lib.hid (fun k d (e : wrote n k = wrote n (k + 1) ++ [UInt8.ofNat (48 + d)]) => wrote_len hpos e)
    have HLIM := Lib.hid hlim
    rw [hlim] at h30
    clear c30 hlim hn HZ HJ HE H0 HZZ
    gi_loopw [3, 4] (fun b x wr => ∃ k : Nat, k ≤ 30 ∧ x = .int .i64 ((k : Int) - 1) ∧ b = .bool (bg n (9 * k)) ∧ Hid (J (wrote n (9 * k)) wr ∧ BlockIs wr Bm 80 (mag n))) (fun _ x _ => (intOf x + 1).toNat)
    case atStart => exact ⟨lim, h30, by rw [HLIM.out], by rw [HST.out.2], by rw [HST.out.1]; exact H1.out, HE1.out⟩
    case round =>
      clear H1 HE1 HST h30
      obtain ⟨k, hk, rfl, rfl, HW⟩ := hrel
      by_cases hk0 : k = 0
      · subst hk0
        gi_wp2
        go_end0
        exact ⟨⟨_, rfl⟩, .inl ⟨_, rfl, by have := HW.out.1; rwa [Nat.mul_zero, HZE.out] at this⟩⟩
      · obtain ⟨i, rfl⟩ : ∃ i, k = i + 1 := ⟨k - 1, by omega⟩
        have hj : ((i + 1 : Nat) : Int) - 1 = i := by omega
        rw [hj]
        gi_wp2
        gi_loopw [3, 5] (fun b x wr => ∃ p : Nat, p ≤ 9 ∧ x = .int .u32 (plc p) ∧ b = .bool (bg n (9 * i + p)) ∧ Hid (J (wrote n (9 * i + p)) wr ∧ BlockIs wr Bm 80 (mag n))) (fun _ x _ => (intOf x).toNat)
        case atStart => exact ⟨9, Nat.le_refl _, rfl, rfl, HW⟩
        case round =>
          clear HW
          obtain ⟨p, hp, rfl, rfl, HW⟩ := hrel
          by_cases hp0 : p = 0
          · subst hp0
            have hpl : ((plc 0 : Nat) : Int) = 0 := rfl
            rw [hpl]
            gi_wp2
            go_roundw
            case rel => exact ⟨i, by omega, rfl, rfl, HW⟩
            case measure => simp [intOf]
          · obtain ⟨q, rfl⟩ : ∃ q, p = q + 1 := ⟨p - 1, by omega⟩
            have ci := (HW.out.2.at i).trans (magF_get _ _ (by omega))
            have hxl := limb_lt n i
            have hdg : limb n i / plc (q + 1) % 10 = n / 10 ^ (9 * i + q) % 10 := digit_place n i q (by omega)
            have hPn := plc_next q
            have hP1 := plc_pos q
            have hP2 := plc_le (q := q + 1) hp
            obtain ⟨x, hx⟩ : ∃ x, limb n i = x := ⟨_, rfl⟩
            obtain ⟨P, hP⟩ : ∃ P, plc (q + 1) = P := ⟨_, rfl⟩
            rw [hx] at ci hxl hdg
            rw [hP] at hdg hPn hP1 hP2
            obtain ⟨d, hd⟩ : ∃ d, x / P % 10 = d := ⟨_, rfl⟩
            have hd10 : d < 10 := by rw [← hd]; exact Nat.mod_lt _ (by decide)
            rw [hd] at hdg
            have hdd : (x : Int) / (P : Int) % 4294967296 % 10 = (d : Int) := by
              rw [← hd, show (x : Int) / (P : Int) = ((x / P : Nat) : Int) from rfl]
              have := Nat.div_le_self x P
              generalize x / P = y at this ⊢
              omega
            have HD := Lib.hid (hdg.symm)
            have HPN := Lib.hid hPn
            have HE10 := Lib.hid (encB_digit hd10)
            clear hx hd hdg hPn
            rw [hP]
            clear hP
            rw [show 9 * i + (q + 1) = 9 * i + q + 1 from rfl] at HW ⊢
            obtain ⟨b, hb⟩ : ∃ b, bg n (9 * i + q + 1) = b := ⟨_, rfl⟩
            rw [hb]
            by_cases hn0 : b = false ∧ d = 0
            · obtain ⟨rfl, rfl⟩ := hn0
              have HN := Lib.hid (place_none hb HD.out rfl)
              clear hb
              have hdd0 : (x : Int) / (P : Int) % 4294967296 % 10 = 0 := hdd
              clear hdd
              gi_wp2
              refine ⟨fun _ h => (by cases h), ?_⟩
              gi_wp2
              go_roundw
              case rel => exact ⟨q, by omega, by rw [← HPN.out]; rfl, by rw [HN.out.1], by rw [HN.out.2]; exact HW.out.1, HW.out.2⟩
              case measure => simp [intOf]; omega
            · have HN := Lib.hid (place_some (k := 9 * i + q) HD.out (by rw [hb]; cases b <;> simp at hn0 ⊢ <;> omega))
              have hlen := HL.out _ _ HN.out.2
              obtain ⟨fn, tmps, assign, body, hy, hR⟩ := HY.out (wrote n (9 * i + q + 1)) (UInt8.ofNat (48 + d)) wr HW.out.1 hlen
              rw [HE10.out] at hy
              have HR := Lib.hid hR
              clear hR hlen hb
              have hW2 : ∀ W', J (wrote n (9 * i + q + 1) ++ [UInt8.ofNat (48 + d)]) W' ∧ Kp wr W' → J (wrote n (9 * i + q)) W' ∧ BlockIs W' Bm 80 (mag n) := fun W' h => ⟨by rw [HN.out.2]; exact h.1, HK.out _ _ h.2 HW.out.2⟩
              have HW2 := Lib.hid hW2
              clear hW2
              cases b
              · have hd0 : 0 < d := by simp at hn0; omega
                have hdz : ((d : Int) != 0) = true := by simp; omega
                gi_wp2
                refine HR.out.mono ?_
                rintro e W3 (⟨rfl, hJ3, hk3⟩ | ⟨rfl, hJx3⟩)
                · have H3 := Lib.hid (HW2.out W3 ⟨hJ3, hk3⟩)
                  clear hJ3 hk3 hdz
                  gi_wp2
                  go_roundw
                  case rel => exact ⟨q, by omega, by rw [← HPN.out]; rfl, by rw [HN.out.1], H3⟩
                  case measure => simp [intOf]; omega
                · gi_wp2
                  refine bodyPost_ret (results_none rfl _ _ _) rfl ?_
                  exact ⟨⟨_, rfl⟩, .inr ⟨_, trivial, hJx3⟩⟩
              · gi_wp2
                refine HR.out.mono ?_
                rintro e W3 (⟨rfl, hJ3, hk3⟩ | ⟨rfl, hJx3⟩)
                · have H3 := Lib.hid (HW2.out W3 ⟨hJ3, hk3⟩)
                  clear hJ3 hk3
                  gi_wp2
                  go_roundw
                  case rel => exact ⟨q, by omega, by rw [← HPN.out]; rfl, by rw [HN.out.1], H3⟩
                  case measure => simp [intOf]; omega
                · gi_wp2
                  refine bodyPost_ret (results_none rfl _ _ _) rfl ?_
                  exact ⟨⟨_, rfl⟩, .inr ⟨_, trivial, hJx3⟩⟩
  · have hn0 : n = 0 := by have := HZZ.out; simpa using this
    subst hn0
    have HD0 := Lib.hid (show Lib.decDigits 0 = [UInt8.ofNat (48 + 0)] from decDigits_small (by decide))
    have HE10 := Lib.hid (show encB (UInt8.ofNat (48 + 0)) = #[.int .u8 48] from by rw [encB_digit (d := 0) (by decide)]; rfl)
    have hH : ∀ w1, Below W.heap.size W w1 → J [] w1 := fun w1 hb => AbidesFrom.below HJ.out H0.out hb
    have HH := Lib.hid hH
    clear hH
    gi_wp2_with (first | ((with_reducible refine wpInM_load (.tmp 1) Bm ?_ HE.out ?_); rfl) | (refine ⟨trivial, ?_⟩; gi_at_call 86; refine (callsIn_wide.2 (HZ.out _)).mono ?_; rintro e w1 ⟨rfl, hb1⟩; obtain ⟨fn, tmps, assign, body, hy, hR⟩ := HY.out [] (UInt8.ofNat (48 + 0)) w1 (HH.out w1 hb1) (by rw [HD0.out]; simp); rw [HE10.out] at hy; have HR := Lib.hid hR; clear hR hb1))
    refine HR.out.mono ?_
    rintro e W3 (⟨rfl, hJ3, _⟩ | ⟨rfl, hJx3⟩)
    · gi_wp2
      refine bodyPost_ret (results_none rfl _ _ _) rfl ?_
      exact ⟨⟨_, rfl⟩, .inl ⟨_, by rw [HD0.out]; rfl, hJ3⟩⟩
    · gi_wp2
      refine bodyPost_ret (results_none rfl _ _ _) rfl ?_
      exact ⟨⟨_, rfl⟩, .inr ⟨_, trivial, hJx3⟩⟩

theorem digits_stops (m : Nat) (hm : 1 ≤ m) (n Bm : Nat) (hn : n < pw 30) (Kp : World → World → Prop) (hKp : ∀ A C, Kp A C → BlockIs A Bm 80 (mag n) → BlockIs C Bm 80 (mag n)) (w0 : World) (hE : BlockIs w0 Bm 80 (mag n)) :
    SeqStopsK Fence.wide m Tryz.prog 193 #[.pointer (some ⟨Bm, 0, none⟩)] encB Kp (fun ys => ys = Lib.decDigits n) (fun _ => True) (Lib.decDigits n).length w0 :=
  fun l J Jx W hW hJ _ hY h0 => digits1_in m hm l n Bm hn Kp hKp J Jx W (hE.below hW hE.lt) hJ hY h0

set_option maxHeartbeats 1000000 in
theorem digits_any (n : Nat) (w : World) :
    Calls Tryz.prog 180 #[.agg (mag n)] w fun e w' => e = .returned (.func (.func 193) #[] #[.pointer (some ⟨w.heap.size, 0, none⟩)]) ∧ w' = w.alloc (.cells (mag n) 80) := by
  go_enter Tryz.func180, Tryz.ntmps180
  go_wp2
  go_ret
  exact ⟨rfl, rfl⟩
end Go.Proofs.YtjemolaobhlapaaGreatDoor

namespace Go.Proofs.YtjemolaobhlapaaGreatDoor
open Go.RowKit Go.Shelf
set_option maxRecDepth 100000

theorem infoU8 : (Tryz.prog.info? 5).map (fun i => (i.zero, i.size, i.bytes)) = some (some (.int .u8 0), 1, 1) := by kernel_rfl
/-- What a writer holds: a block with a slice that it owns. -/
def Writes (N Bw : Nat) (l : List UInt8) (W : World) : Prop := ∃ v, Boxed W Bw 184 v ∧ W.ownsRow N 5 1 v l.length (Lib.byteCells l)
/-- All blocks but the writer's and its bytes stay as they are. -/
structure KpW (Bw : Nat) (W W' : World) : Prop where
  size : W.heap.size ≤ W'.heap.size
  cells : ∀ k c t fr, W.heap[k]? = some (.cells c t fr) → k ≠ Bw → t ≠ 5 → W'.heap[k]? = some (.cells c t fr)
theorem KpW.trans {Bw : Nat} {A B C : World} (h : KpW Bw A B) (k : KpW Bw B C) : KpW Bw A C := ⟨Nat.le_trans h.size k.size, fun i c t fr he h1 h2 => k.cells i c t fr (h.cells i c t fr he h1 h2) h1 h2⟩
theorem KpW.putObj {Bw : Nat} {w : World} (W : World) (l : Nat) (o o' : Obj) (_ : w.heap.size ≤ l) (h : W.heap[l]? = some o) (ho : o.isCells = false) (_ : o.isWalk = false) : KpW Bw W (W.putObj l o') :=
  ⟨by simp, fun k c t fr he _ _ => (World.putObj_heap_other (by rintro rfl; rw [h] at he; cases he; cases ho)).trans he⟩
theorem KpW.of_below {Bw : Nat} {A B : World} (h : Below A.heap.size A B) : KpW Bw A B :=
  ⟨h.size, fun k c t fr he _ _ => (h.block k (Array.getElem?_eq_some_iff.1 he).1).trans he⟩
theorem kpW_append {N Bw : Nat} {W w2 : World} {v u : Value} {n : Nat} {xs : List Value} {tmp : Obj} (hr : W.ownsRow N 5 1 v n xs) (hg : (W.alloc tmp).grownBy w2 v.ownBlock) (hs : W.heap.size ≤ (w2.setCell ⟨Bw, 0, none⟩ u).heap.size) : KpW Bw W (w2.setCell ⟨Bw, 0, none⟩ u) := by
  refine ⟨hs, fun k c t fr he hk ht => ?_⟩
  have h1 : (W.alloc tmp).heap[k]? = W.heap[k]? := Below.heap_alloc _ _ _ (Array.getElem?_eq_some_iff.1 he).1
  have h2 : w2.heap[k]? = (W.alloc tmp).heap[k]? := by
    refine hg.block k ?_ ?_
    · simp; have := (Array.getElem?_eq_some_iff.1 he).1; omega
    · rcases hr.2 with ⟨rfl, _⟩ | ⟨g, cap, cur, rfl, _, hgb, _⟩
      · simp [Value.ownBlock]
      · intro e
        obtain rfl : k = g := by simpa [Value.ownBlock] using e
        rw [hgb] at he
        cases he
        exact ht rfl
  have h3 : (w2.setCell ⟨Bw, 0, none⟩ u).heap[k]? = w2.heap[k]? := by
    have h4 : k < w2.heap.size := by
      by_cases h : k < w2.heap.size
      · exact h
      · rw [Array.getElem?_eq_none (by omega)] at h2
        rw [h1, he] at h2
        cases h2
    exact (grownBy_setCell' w2 Bw u).block k h4 (fun e => hk (by cases e; rfl))
  rw [h3, h2, h1, he]
theorem byteCells_snoc (l : List UInt8) (c : UInt8) : Lib.byteCells (l ++ [c]) = Lib.byteCells l ++ [.int .u8 (c.toNat : Int)] := by simp [Lib.byteCells]

set_option maxHeartbeats 4000000 in
theorem digit_any (N Bw : Nat) (l : List UInt8) (c : UInt8) (w : World) (hN : N ≤ Bw) (hl : l.length ≤ 1000) (hw : Writes N Bw l w) :
    Calls Tryz.prog 179 #[.pointer (some ⟨Bw, 0, none⟩), .int .u8 (c.toNat : Int)] w fun e w' => e = .returned (.tuple #[]) ∧ Writes N Bw (l ++ [c]) w' ∧ KeepsOthers w w' ∧ Below N w w' ∧ KpW Bw w w' := by
  obtain ⟨i0, hi, hz0, hz1, hz2⟩ := info_parts infoU8
  obtain ⟨v, hv, hr⟩ := hw
  have HV := Lib.hid hv
  have HR := Lib.hid hr
  have HI := Lib.hid (And.intro hi (And.intro hz0 (And.intro hz1 hz2)))
  have hc0 := hv.cell
  have hf0 := hv.frozen
  have hlt := hv.lt
  obtain ⟨x, hx⟩ : ∃ x : Nat, c.toNat = x := ⟨_, rfl⟩
  have HX := Lib.hid hx
  rw [hx]
  clear hv hr hi hz0 hz1 hz2 hx
  go_enter Tryz.func179, Tryz.ntmps179
  go_wp2_with (at_builtin; refine wpList_append_own _ rfl _ _ 142 rfl N 5 i0 (.int .u8 0) 1 1 Tryz.underlying142 HI.out.1 HI.out.2.1 HI.out.2.2.1 HI.out.2.2.2 rfl (by decide) _ _ _ rfl (HR.out.alloc _) ⟨w.heap.size, 0, none⟩ 1 1 [.int .u8 x] rfl rfl (cell_one_new _ _ _) (by simp [Value.oneCell']) (by simp [maxLen]; omega) (by omega) (by simp; omega) ?_; intro v' w2 hown' hgrow _; obtain ⟨g', cap', rfl⟩ := ownsRow_succ hown'; obtain ⟨hv1, hv2, hr2, hk2, hb2⟩ := HV.out.appended (by decide) HR.out (by omega) hN hown' hgrow; have hc1 := hv1.cell; have hf1 := hv1.frozen)
  go_end0
  refine ⟨rfl, ⟨_, hv2, ?_⟩, hk2, hb2, kpW_append HR.out hgrow hb2.size⟩
  rw [byteCells_snoc, HX.out, List.length_append, List.length_singleton]
  exact hr2
end Go.Proofs.YtjemolaobhlapaaGreatDoor
