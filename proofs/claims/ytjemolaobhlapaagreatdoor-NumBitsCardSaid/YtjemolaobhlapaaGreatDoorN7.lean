/- compare. -/
import Derived.ChangeKeysEq
import Derived.Test.YtjemolaobhlapaaGreatDoorN4
set_option linter.unusedSimpArgs false
set_option linter.unusedVariables false
namespace Go.Proofs.YtjemolaobhlapaaGreatDoor
open Go.RowKit
set_option maxRecDepth 100000

def limbsA (f : Nat → Nat) : Array Value := (limbsL f).toArray
theorem limbsA_get (f : Nat → Nat) {i : Nat} (h : i < 30) : (limbsA f)[i]? = some (.int .u32 (f i)) := by
  unfold limbsA limbsL; simp [h]
theorem limbsL_len (f : Nat → Nat) : (limbsL f).length = 30 := by simp [limbsL]
theorem infoLL (f : Nat → Nat) : (Tryz.prog.info? 78).map (·.size) = some (limbsL f).length := by rw [limbsL_len]; exact infoL
/-- The limbs of a magnitude are loaded. -/
theorem wpL_load {ops : Array Oper} {rest : List Oper} {a : Act} {w : World} {Q : Exit → Act → World → Prop} {d : Option Tmp} {ty : TypeId} {pos : String} {after : Array _} (x : Operand) (B : Nat) {f : Nat → Nat} {u : Nat}
    (hx : a.eval x = .pointer (some ⟨B, 0, none⟩)) (hB : BlockIs w B 80 (magF f u)) (h : wpList Tryz.prog ops Q rest (a.put d (.agg (limbsA f))) w) :
    wpList Tryz.prog ops Q ({ dst := d, op := .load 78 x, type := ty, pos := pos, after := after, guard := none } :: rest) a w :=
  wpList_load_mid rfl 78 x rfl B 0 hx (limbsL f) _ hB.limbs Tryz.underlying78 rfl (infoLL f) h

theorem part_limb (f : Nat → Nat) {i : Nat} (h : i < 30) (w : World) : (_root_.Go.part 76 (limbsA f) i).run Tryz.prog w = .ok (.int .u32 (f i)) w :=
  run_part_plain w (by kernel_rfl) (limbsA_get f h)
theorem eq_limb (d : Nat) (x y : Int) (w : World) : (Op.equalIn (d + 1) 76 (.int .u32 x) (.int .u32 y)).run Tryz.prog w = .ok (x == y) w := by
  simp [Op.equalIn, run_underlying Tryz.underlying76]
theorem eq_items (d : Nat) (f g : Nat → Nat) (w : World) : ∀ is : List Nat, (∀ i ∈ is, i < 30) → (Op.eqItems (d + 1) 76 1 (limbsA f) (limbsA g) is).run Tryz.prog w = .ok (is.all fun i => f i == g i) w
  | [], _ => by simp [Op.eqItems]
  | i :: is, h => by
    have h1 := h i (by simp)
    have ih := eq_items d f g w is fun j hj => h j (by simp [hj])
    simp only [Op.eqItems, Sem.run_bind, Nat.mul_one, part_limb f h1, part_limb g h1, Result.andThen_ok, eq_limb]
    by_cases e : f i = g i
    · have : ((f i : Int) == (g i : Int)) = true := by simp [e]
      rw [this]
      simp [ih, e]
    · have : ((f i : Int) == (g i : Int)) = false := by simp; omega
      rw [this]
      simp [e]
theorem eql_limbs (a b : Nat) (ha : a < pw 30) (hb : b < pw 30) (w : World) : (Op.equalIn 10000 78 (.agg (limbsA (limb a))) (.agg (limbsA (limb b)))).run Tryz.prog w = .ok (decide (a = b)) w := by
  obtain ⟨i0, hi⟩ : ∃ i0, Tryz.prog.info? 76 = some i0 := info_of_underlying Tryz.underlying76
  have hc : Tryz.prog.cellsOf 76 = 1 := by kernel_rfl
  rw [run_equalIn_array w 9999 (n := 30) (e := 76) _ _ Tryz.underlying78 hi, hc, eq_items 9998 _ _ w (List.range 30) (fun i hi => by simpa using hi)]
  congr 1
  rw [Bool.eq_iff_iff, List.all_eq_true, decide_eq_true_iff]
  constructor
  · intro h
    exact eq_of_limbs ha hb fun i hi => by have := h i (by simpa using hi); simpa using this
  · rintro rfl i _
    simp

/-- The order of two numbers: -1, 0 or 1. -/
def cmpN (a b : Nat) : Int := if a = b then 0 else if a < b then -1 else 1

theorem cmp_top {a b M : Nat} (ha : a < pw 30) (hb : b < pw 30) (h1 : len a ≤ M) (h2 : len b ≤ M) : a / pw M = b / pw M := by
  rw [Nat.div_eq_of_lt ((lt_pw_iff ha).2 h1), Nat.div_eq_of_lt ((lt_pw_iff hb).2 h2)]
theorem cmp_low {a b : Nat} (he : ¬ a = b) {i : Nat} (h : a / pw (i + 1) = b / pw (i + 1)) (hl : limb a i = limb b i) : 0 < i ∧ a / pw (i - 1 + 1) = b / pw (i - 1 + 1) := by
  have := div_same h hl
  by_cases h0 : i = 0
  · subst h0; rw [div_first, div_first] at this; exact absurd this he
  · rw [show i - 1 + 1 = i by omega]; exact ⟨by omega, this⟩
theorem cmp_lt {a b i : Nat} (h : a / pw (i + 1) = b / pw (i + 1)) (hl : limb a i < limb b i) : cmpN a b = -1 := by
  have := lt_of_limb h hl
  unfold cmpN; rw [if_neg (by omega), if_pos this]
theorem cmp_gt {a b i : Nat} (h : a / pw (i + 1) = b / pw (i + 1)) (hl : limb b i < limb a i) : cmpN a b = 1 := by
  have := lt_of_limb h.symm hl
  unfold cmpN; rw [if_neg (by omega), if_neg (by omega)]
theorem cmp_pos {a b : Nat} (ha : a < pw 30) (hb : b < pw 30) (he : ¬ a = b) : 0 < len a ∨ 0 < len b := by
  have h1 := len_eq_zero ha
  have h2 := len_eq_zero hb
  omega

set_option maxHeartbeats 2000000 in
theorem compare_any (a b : Nat) (ha : a < pw 30) (hb : b < pw 30) (w : World) (r : Int) (hr : cmpN a b = r) :
    Calls Tryz.prog 70 #[.agg (mag a), .agg (mag b)] w fun e w' => e = .returned (.int .i64 r) ∧ Below w.heap.size w w' := by
  have HR := Lib.hid hr
  clear hr
  obtain ⟨B, hB⟩ : ∃ B, w.heap.size = B := ⟨_, rfl⟩
  obtain ⟨W, hW⟩ : ∃ W, (w.alloc (.cells (mag a) 80)).alloc (.cells (mag b) 80) = W := ⟨_, rfl⟩
  have HW : Hid (BlockIs W B 80 (magF (limb a) (len a)) ∧ BlockIs W (B + 1) 80 (magF (limb b) (len b)) ∧ Below B w W) := by
    rw [← hW, ← hB]
    refine ⟨(BlockIs.new w _ _).alloc _, ?_, ((Below.refl _ _).alloc (Nat.le_refl _) _).alloc (by simp) _⟩
    have := BlockIs.new (w.alloc (.cells (mag a) 80)) 80 (mag b)
    rwa [World.size_alloc] at this
  by_cases he : a = b
  · have h1 : (Op.equalIn 10000 78 (.agg (limbsA (limb a))) (.agg (limbsA (limb b)))).run Tryz.prog W = .ok true W := by rw [eql_limbs a b ha hb W]; simp [he]
    have H2 := Lib.hid (show cmpN a b = 0 by unfold cmpN; rw [if_pos he])
    clear he
    go_enter Tryz.func70, Tryz.ntmps70
    go_wp2_with (first | ((with_reducible refine wpL_load (.tmp 6) B ?_ HW.out.1 ?_); rfl) | ((with_reducible refine wpL_load (.tmp 8) (B + 1) ?_ HW.out.2.1 ?_); rfl))
    go_ret
    exact ⟨ret_int (by rw [← HR.out, H2.out]), by rw [hB]; exact HW.out.2.2⟩
  · have h1 : (Op.equalIn 10000 78 (.agg (limbsA (limb a))) (.agg (limbsA (limb b)))).run Tryz.prog W = .ok false W := by rw [eql_limbs a b ha hb W]; simp [he]
    have HE := Lib.hid he
    have c30 := (HW.out.1.at 30).trans (magF_used _ _)
    have d30 := (HW.out.2.1.at 30).trans (magF_used _ _)
    have la := len_30 ha
    have lb := len_30 hb
    clear he
    go_enter Tryz.func70, Tryz.ntmps70
    go_wp2_with (first | ((with_reducible refine wpL_load (.tmp 6) B ?_ HW.out.1 ?_); rfl) | ((with_reducible refine wpL_load (.tmp 8) (B + 1) ?_ HW.out.2.1 ?_); rfl))
    all_goals
      go_loopw [5] (fun x wr => ∃ i : Nat, i < 30 ∧ x = .int .i64 i ∧ Hid (a / pw (i + 1) = b / pw (i + 1)) ∧ Hid (BlockIs wr B 80 (magF (limb a) (len a)) ∧ BlockIs wr (B + 1) 80 (magF (limb b) (len b)) ∧ Below B w wr)) (fun x _ => (intOf x).toNat)
      case atStart =>
        have hp := cmp_pos ha hb HE.out
        first
          | exact ⟨len a - 1, by omega, by congr 1; omega, by rw [show len a - 1 + 1 = len a by omega]; exact cmp_top ha hb (by omega) (by omega), HW⟩
          | exact ⟨len b - 1, by omega, by congr 1; omega, by rw [show len b - 1 + 1 = len b by omega]; exact cmp_top ha hb (by omega) (by omega), HW⟩
      case round =>
        clear HW hW h1 c30 d30
        obtain ⟨i, hi, rfl, HI, HW⟩ := hrel
        have ca := (HW.out.1.at i).trans (magF_get _ _ hi)
        have cb := (HW.out.2.1.at i).trans (magF_get _ _ hi)
        obtain ⟨x, hx⟩ : ∃ x, limb a i = x := ⟨_, rfl⟩
        obtain ⟨y, hy⟩ : ∃ y, limb b i = y := ⟨_, rfl⟩
        rw [hx] at ca
        rw [hy] at cb
        have HX := Lib.hid (And.intro hx hy)
        clear hx hy
        by_cases hxy : x = y
        · subst hxy
          have HL := Lib.hid (cmp_low HE.out HI.out (HX.out.1.trans HX.out.2.symm))
          have hi0 := HL.out.1
          go_wp2
          go_quiet (fail)
          go_wp2
          go_roundw
          case rel => exact ⟨i - 1, by omega, by congr 1; omega, HL.out.2, HW.out.1.dN _, HW.out.2.1.dN _, below_dN HW.out.2.2 _⟩
          case measure => simp [intOf]; omega
        · have hxy2 : ((x : Int) == (y : Int)) = false := by simp; omega
          have hz : ∀ n, BlockIs (wr.drewN n) B 80 (magF (limb a) (len a)) ∧ BlockIs (wr.drewN n) (B + 1) 80 (magF (limb b) (len b)) ∧ Below B w (wr.drewN n) := fun n => ⟨HW.out.1.dN _, HW.out.2.1.dN _, below_dN HW.out.2.2 _⟩
          have HZ := Lib.hid hz
          clear hz
          by_cases hlt : x < y
          · have HC := Lib.hid (cmp_lt HI.out (by rw [HX.out.1, HX.out.2]; exact hlt))
            go_wp2
            go_quiet (fail)
            go_wp2
            have HW2 := Lib.hid (HZ.out nq)
            obtain ⟨W2, hW2⟩ : ∃ W', wr.drewN nq = W' := ⟨_, rfl⟩
            rw [hW2] at HW2 ⊢
            clear hW2 HZ HW ca cb
            have ca := (HW2.out.1.at i).trans ((magF_get _ _ hi).trans (by rw [HX.out.1]))
            have cb := (HW2.out.2.1.at i).trans ((magF_get _ _ hi).trans (by rw [HX.out.2]))
            go_quiet (fail)
            go_wp2
            go_ret
            exact ⟨ret_int (by rw [← HR.out, HC.out]), hB ▸ below_dN HW2.out.2.2 _⟩
          · have HC := Lib.hid (cmp_gt HI.out (by rw [HX.out.1, HX.out.2]; omega))
            go_wp2
            go_quiet (fail)
            go_wp2
            have HW2 := Lib.hid (HZ.out nq)
            obtain ⟨W2, hW2⟩ : ∃ W', wr.drewN nq = W' := ⟨_, rfl⟩
            rw [hW2] at HW2 ⊢
            clear hW2 HZ HW ca cb
            have ca := (HW2.out.1.at i).trans ((magF_get _ _ hi).trans (by rw [HX.out.1]))
            have cb := (HW2.out.2.1.at i).trans ((magF_get _ _ hi).trans (by rw [HX.out.2]))
            go_quiet (fail)
            go_wp2
            go_ret
            exact ⟨ret_int (by rw [← HR.out, HC.out]), hB ▸ below_dN HW2.out.2.2 _⟩
end Go.Proofs.YtjemolaobhlapaaGreatDoor

namespace Go.Proofs.YtjemolaobhlapaaGreatDoor
open Go.RowKit
set_option maxRecDepth 100000

/-- A sum's limbs below k, and a's from there on. -/
def mixS (a b k : Nat) : Nat → Nat := fun i => if i < k then limb (a + b) i else limb a i
theorem mixS_zero (a b : Nat) : mixS a b 0 = limb a := by funext i; simp [mixS]
theorem mixS_next (a b k : Nat) : upd (mixS a b k) k (limb (a + b) k) = mixS a b (k + 1) := by
  funext i
  unfold upd mixS
  by_cases h : i = k
  · subst h; simp
  · rw [if_neg h]
    by_cases h2 : i < k
    · rw [if_pos h2, if_pos (by omega)]
    · rw [if_neg h2, if_neg (by omega)]
theorem mixS_at (a b k : Nat) : mixS a b k k = limb a k := by simp [mixS]
theorem mixS_lt (a b k i : Nat) : mixS a b k i < 1000000000 := by unfold mixS; split <;> exact limb_lt _ _
theorem pw_big {n : Nat} (h : n < pw 29) : n < pw 30 := Nat.lt_of_lt_of_le h (pw_mono (by omega))
/-- Behind the loop all limbs are the sum's. -/
theorem mixS_end {a b k : Nat} (ha : a < pw 30) (hab : a + b < pw k) (hk : k ≤ 30) (hla : len a ≤ k) : (∀ i, k ≤ i → i < 30 → mixS a b k i = 0) ∧ val (mixS a b k) 30 = a + b := by
  have h1 : ∀ i, k ≤ i → i < 30 → mixS a b k i = 0 := by
    intro i hi _
    unfold mixS
    rw [if_neg (by omega)]
    exact limb_past ha (by omega)
  refine ⟨h1, ?_⟩
  have h2 : val (mixS a b k) 30 = val (limb (a + b)) 30 := by
    apply val_congr
    intro i hi
    unfold mixS
    by_cases h : i < k
    · rw [if_pos h]
    · rw [if_neg h, limb_past ha (by omega), limb_big (Nat.lt_of_lt_of_le hab (pw_mono (by omega)))]
  rw [h2, val_limb, Nat.mod_eq_of_lt (Nat.lt_of_lt_of_le hab (pw_mono hk))]
theorem sum_lt {a b k : Nat} (ha : a < pw 29) (hb : b < pw 29) (hla : len a ≤ k) (hlb : len b ≤ k) : a + b < pw (k + 1) := by
  have h1 := (lt_pw_iff (pw_big ha)).2 hla
  have h2 := (lt_pw_iff (pw_big hb)).2 hlb
  have := pw_pos k
  rw [pw_succ]; omega

/-- Three blocks of magnitudes are new: two arguments and a result. -/
theorem start3 (a b : Nat) (w : World) {B : Nat} (hB : w.heap.size = B) {W : World} (hW : ((w.alloc (.cells (mag a) 80)).alloc (.cells (mag b) 80)).alloc (.cells (magF (fun _ => 0) 0) 80) = W) :
    BlockIs W B 80 (magF (limb a) (len a)) ∧ BlockIs W (B + 1) 80 (magF (limb b) (len b)) ∧ BlockIs W (B + 2) 80 (magF (fun _ => 0) 0) ∧ Below B w W := by
  rw [← hW, ← hB]
  refine ⟨((BlockIs.new w _ _).alloc _).alloc _, ?_, ?_, (((Below.refl _ _).alloc (Nat.le_refl _) _).alloc (by simp) _).alloc (by simp; omega) _⟩
  · have := (BlockIs.new (w.alloc (.cells (mag a) 80)) 80 (mag b)).alloc (.cells (magF (fun _ => 0) 0) 80)
    rwa [World.size_alloc] at this
  · have := BlockIs.new ((w.alloc (.cells (mag a) 80)).alloc (.cells (mag b) 80)) 80 (magF (fun _ => 0) 0)
    rwa [World.size_alloc, World.size_alloc] at this

set_option maxHeartbeats 4000000 in
theorem plus_any (a b : Nat) (ha : a < pw 29) (hb : b < pw 29) (w : World) :
    Calls Tryz.prog 135 #[.agg (mag a), .agg (mag b)] w fun e w' => e = .returned (.agg (mag (a + b))) ∧ Below w.heap.size w w' := by
  obtain ⟨B, hB⟩ : ∃ B, w.heap.size = B := ⟨_, rfl⟩
  obtain ⟨W, hW⟩ : ∃ W, ((w.alloc (.cells (mag a) 80)).alloc (.cells (mag b) 80)).alloc (.cells (magF (fun _ => 0) 0) 80) = W := ⟨_, rfl⟩
  have HW := Lib.hid (start3 a b w hB hW)
  have c30 := (HW.out.1.at 30).trans (magF_used _ _)
  have d30 := (HW.out.2.1.at 30).trans (magF_used _ _)
  have f30 := HW.out.1.thawed 30
  have la := len_le (pw_big ha) ha
  have lb := len_le (pw_big hb) hb
  have hz0 := zeroM
  have HLA := Lib.hid (And.intro (pw_big ha) la)
  have HLB := Lib.hid (And.intro (pw_big hb) lb)
  obtain ⟨M, hM⟩ : ∃ M, (len a < len b ∧ len b = M ∨ len b ≤ len a ∧ len a = M) := by
    by_cases h : len a < len b
    · exact ⟨_, .inl ⟨h, rfl⟩⟩
    · exact ⟨_, .inr ⟨by omega, rfl⟩⟩
  have HM : Hid (len a ≤ M ∧ len b ≤ M) := by constructor <;> omega
  have hM29 : M ≤ 29 := by omega
  have HSL := Lib.hid (sum_lt ha hb HM.out.1 HM.out.2)
  have HME := Lib.hid (mixS_end (a := a) (b := b) (k := M + 1) (pw_big ha) HSL.out (by omega) (by have := HM.out; omega))
  rcases hM with ⟨hlt, hM⟩ | ⟨hlt, hM⟩
  all_goals
    rw [hM] at hlt
    first
      | rw [hM] at c30
      | rw [hM] at d30
    clear hM la lb ha hb
    go_enter Tryz.func135, Tryz.ntmps135
    go_wp2
    clear hz0 hW c30 d30 f30
    have HW2 : Hid (BlockIs (W.setCell ⟨B, 30, none⟩ (.int .i64 ((M : Int) + 1))) B 80 (magF (mixS a b 0) (M + 1)) ∧ BlockIs (W.setCell ⟨B, 30, none⟩ (.int .i64 ((M : Int) + 1))) (B + 1) 80 (magF (limb b) (len b)) ∧ BlockIs (W.setCell ⟨B, 30, none⟩ (.int .i64 ((M : Int) + 1))) (B + 2) 80 (magF (fun _ => 0) 0) ∧ Below B w (W.setCell ⟨B, 30, none⟩ (.int .i64 ((M : Int) + 1)))) :=
      ⟨by rw [mixS_zero]; exact HW.out.1.used rfl, HW.out.2.1.other _ _ (by simp), HW.out.2.2.1.other _ _ (by simp), HW.out.2.2.2.setCell (by simp) _⟩
    obtain ⟨W2, hW2⟩ : ∃ W', W.setCell ⟨B, 30, none⟩ (.int .i64 ((M : Int) + 1)) = W' := ⟨_, rfl⟩
    rw [hW2] at HW2 ⊢
    clear hW2 HW
    go_loopw [5, 17] (fun c x wr => ∃ i q : Nat, i ≤ M + 1 ∧ q ≤ 1 ∧ x = .int .i64 i ∧ c = .int .u32 q ∧ Hid (carry a b i = q) ∧ Hid (BlockIs wr B 80 (magF (mixS a b i) (M + 1)) ∧ BlockIs wr (B + 1) 80 (magF (limb b) (len b)) ∧ BlockIs wr (B + 2) 80 (magF (fun _ => 0) 0) ∧ Below B w wr)) (fun _ x _ => M + 1 - (intOf x).toNat)
    case atStart => exact ⟨0, 0, by omega, by omega, rfl, rfl, carry_zero a b, HW2⟩
    case round =>
      clear HW2
      obtain ⟨i, q, hi, hq, rfl, rfl, HC, HW⟩ := hrel
      by_cases hlt2 : i < M + 1
      · have ca := (HW.out.1.at i).trans (magF_get _ _ (by omega))
        have cb := (HW.out.2.1.at i).trans (magF_get _ _ (by omega))
        rw [mixS_at] at ca
        have fa := HW.out.1.thawed i
        obtain ⟨x, hx⟩ : ∃ x, limb a i = x := ⟨_, rfl⟩
        obtain ⟨y, hy⟩ : ∃ y, limb b i = y := ⟨_, rfl⟩
        have hxl := limb_lt a i
        have hyl := limb_lt b i
        have hs := limb_sum a b i
        have hn := carry_next a b i
        rw [HC.out] at hs hn
        rw [hx] at ca hxl hs hn
        rw [hy] at cb hyl hs hn
        have HS := Lib.hid (And.intro hs hn)
        clear hx hy hs hn
        go_wp2
        go_quiet (fail)
        go_wp2
        go_roundw
        case rel =>
          refine ⟨i + 1, (x + y + q) / 1000000000, by omega, by omega, rfl, rfl, HS.out.2, ?_, (HW.out.2.1.dN _).other _ _ (by simp), (HW.out.2.2.1.dN _).other _ _ (by simp), (below_dN HW.out.2.2.2 _).setCell (by simp) _⟩
          rw [← mixS_next, HS.out.1]
          exact (HW.out.1.dN _).limb (by omega) rfl
        case measure => simp [intOf]; omega
      · obtain rfl : i = M + 1 := by omega
        have HT := Lib.hid (fun W => trimmed_any (mixS a b (M + 1)) (M + 1) (fun k _ => mixS_lt a b _ k) HME.out.1 (by omega) W)
        go_wp2_with (first | ((with_reducible refine wpM_load (.tmp 2) B ?_ HW.out.1 ?_); rfl) | (go_at_call 132; refine (HT.out _).mono ?_; rintro e w1 ⟨rfl, hb1⟩; have HW1 := Lib.hid (show BlockIs w1 (B + 2) 80 (magF (fun _ => 0) 0) ∧ Below B w w1 from ⟨HW.out.2.2.1.below hb1 HW.out.2.2.1.lt, HW.out.2.2.2.trans (hb1.mono (by have := HW.out.2.2.1.lt; omega))⟩); clear hb1; rw [HME.out.2]) | ((with_reducible refine wpM_store (f := limb (a + b)) (u := len (a + b)) (.tmp 4) (.tmp 40) (B + 2) ?_ ?_ HW1.out.1 ?_); rfl; rfl))
        exact bodyPost_ret (retM rfl _ _ (B + 2) rfl (HW1.out.1.row _)) rfl ⟨rfl, hB ▸ below_row HW1.out.2 _ _ (by omega)⟩
end Go.Proofs.YtjemolaobhlapaaGreatDoor

namespace Go.Proofs.YtjemolaobhlapaaGreatDoor
open Go.RowKit
set_option maxRecDepth 100000

/-- A difference's limbs below k, and a's from there on. -/
def mixD (a b k : Nat) : Nat → Nat := fun i => if i < k then limb (a - b) i else limb a i
theorem mixD_zero (a b : Nat) : mixD a b 0 = limb a := by funext i; simp [mixD]
theorem mixD_next (a b k : Nat) : upd (mixD a b k) k (limb (a - b) k) = mixD a b (k + 1) := by
  funext i
  unfold upd mixD
  by_cases h : i = k
  · subst h; simp
  · rw [if_neg h]
    by_cases h2 : i < k
    · rw [if_pos h2, if_pos (by omega)]
    · rw [if_neg h2, if_neg (by omega)]
theorem mixD_at (a b k : Nat) : mixD a b k k = limb a k := by simp [mixD]
theorem mixD_lt (a b k i : Nat) : mixD a b k i < 1000000000 := by unfold mixD; split <;> exact limb_lt _ _
theorem mixD_end {a b : Nat} (ha : a < pw 30) : (∀ i, len a ≤ i → i < 30 → mixD a b (len a) i = 0) ∧ val (mixD a b (len a)) 30 = a - b := by
  have h1 : ∀ i, len a ≤ i → i < 30 → mixD a b (len a) i = 0 := by
    intro i hi _
    unfold mixD
    rw [if_neg (by omega)]
    exact limb_past ha (by omega)
  refine ⟨h1, ?_⟩
  have hl := len_lt ha
  have h2 : val (mixD a b (len a)) 30 = val (limb (a - b)) 30 := by
    apply val_congr
    intro i hi
    unfold mixD
    by_cases h : i < len a
    · rw [if_pos h]
    · rw [if_neg h, limb_past ha (by omega), limb_big (Nat.lt_of_lt_of_le (show a - b < pw (len a) by omega) (pw_mono (by omega)))]
  rw [h2, val_limb, Nat.mod_eq_of_lt (by omega)]

set_option maxHeartbeats 4000000 in
theorem minus_any (a b : Nat) (ha : a < pw 30) (hb : b ≤ a) (w : World) :
    Calls Tryz.prog 136 #[.agg (mag a), .agg (mag b)] w fun e w' => e = .returned (.agg (mag (a - b))) ∧ Below w.heap.size w w' := by
  obtain ⟨B, hB⟩ : ∃ B, w.heap.size = B := ⟨_, rfl⟩
  obtain ⟨W, hW⟩ : ∃ W, ((w.alloc (.cells (mag a) 80)).alloc (.cells (mag b) 80)).alloc (.cells (magF (fun _ => 0) 0) 80) = W := ⟨_, rfl⟩
  have hst := start3 a b w hB hW
  rw [← mixD_zero a b] at hst
  have HW := Lib.hid hst
  clear hst
  have c30 := (HW.out.1.at 30).trans (magF_used _ _)
  have h30 := len_30 ha
  have hz0 := zeroM
  have HME := Lib.hid (mixD_end (a := a) (b := b) ha)
  have HL := Lib.hid (fun i => And.intro (limb_diff a b i hb) (borrow_next a b i))
  obtain ⟨M, hM⟩ : ∃ M, len a = M := ⟨_, rfl⟩
  rw [hM] at HW HME c30 h30
  clear hM ha hb
  go_enter Tryz.func136, Tryz.ntmps136
  go_wp2
  clear hz0 c30 hW
  go_loopw [5, 10] (fun c x wr => ∃ i q : Nat, i ≤ M ∧ q ≤ 1 ∧ x = .int .i64 i ∧ c = .int .u32 q ∧ Hid (borrow a b i = q) ∧ Hid (BlockIs wr B 80 (magF (mixD a b i) M) ∧ BlockIs wr (B + 1) 80 (magF (limb b) (len b)) ∧ BlockIs wr (B + 2) 80 (magF (fun _ => 0) 0) ∧ Below B w wr)) (fun _ x _ => M - (intOf x).toNat)
  case atStart => exact ⟨0, 0, by omega, by omega, rfl, rfl, borrow_zero a b, HW⟩
  case round =>
    clear HW
    obtain ⟨i, q, hi, hq, rfl, rfl, HC, HW⟩ := hrel
    by_cases hlt2 : i < M
    · have ca := (HW.out.1.at i).trans (magF_get _ _ (by omega))
      have cb := (HW.out.2.1.at i).trans (magF_get _ _ (by omega))
      rw [mixD_at] at ca
      have fa := HW.out.1.thawed i
      obtain ⟨x, hx⟩ : ∃ x, limb a i = x := ⟨_, rfl⟩
      obtain ⟨y, hy⟩ : ∃ y, limb b i = y := ⟨_, rfl⟩
      have hxl := limb_lt a i
      have hyl := limb_lt b i
      have hs := (HL.out i).1
      have hn := (HL.out i).2
      rw [HC.out] at hs hn
      rw [hx] at ca hxl hs hn
      rw [hy] at cb hyl hs hn
      have HS := Lib.hid (And.intro hs hn)
      clear hx hy hs hn
      go_wp2
      go_quiet (fail)
      go_wp2
      go_roundw
      case rel =>
        refine ⟨i + 1, 1 - (x + 1000000000 - y - q) / 1000000000, by omega, by omega, rfl, by congr 1; omega, HS.out.2, ?_, (HW.out.2.1.dN _).other _ _ (by simp), (HW.out.2.2.1.dN _).other _ _ (by simp), (below_dN HW.out.2.2.2 _).setCell (by simp) _⟩
        rw [← mixD_next, HS.out.1]
        exact (HW.out.1.dN _).limb (by omega) (by omega)
      case measure => simp [intOf]; omega
    · obtain rfl : i = M := by omega
      have HT := Lib.hid (fun W => trimmed_any (mixD a b i) i (fun k _ => mixD_lt a b _ k) HME.out.1 (by omega) W)
      go_wp2_with (first | ((with_reducible refine wpM_load (.tmp 2) B ?_ HW.out.1 ?_); rfl) | (go_at_call 132; refine (HT.out _).mono ?_; rintro e w1 ⟨rfl, hb1⟩; have HW1 := Lib.hid (show BlockIs w1 (B + 2) 80 (magF (fun _ => 0) 0) ∧ Below B w w1 from ⟨HW.out.2.2.1.below hb1 HW.out.2.2.1.lt, HW.out.2.2.2.trans (hb1.mono (by have := HW.out.2.2.1.lt; omega))⟩); clear hb1; rw [HME.out.2]) | ((with_reducible refine wpM_store (f := limb (a - b)) (u := len (a - b)) (.tmp 4) (.tmp 35) (B + 2) ?_ ?_ HW1.out.1 ?_); rfl; rfl))
      exact bodyPost_ret (retM rfl _ _ (B + 2) rfl (HW1.out.1.row _)) rfl ⟨rfl, hB ▸ below_row HW1.out.2 _ _ (by omega)⟩
end Go.Proofs.YtjemolaobhlapaaGreatDoor
