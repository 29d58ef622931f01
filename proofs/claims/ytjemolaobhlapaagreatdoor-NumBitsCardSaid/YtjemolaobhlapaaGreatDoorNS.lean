/- divideLong. -/
import Derived.Test.YtjemolaobhlapaaGreatDoorNR
set_option linter.unusedSimpArgs false
set_option linter.unusedVariables false
namespace Go.Proofs.YtjemolaobhlapaaGreatDoor
open Go.RowKit
set_option maxRecDepth 100000

/-- Ways that meet again inside a region. -/
theorem wpAnyH_meet {P : Program} {md : Region.Mode} {ops : Array Oper} {Q : Exit → Act → World → Prop} {S : World → Prop} {n : Nat} {l : Array Bool} {a : Act} {w : World}
    (m : Nat) (L : Array Bool) (X : Act → Act → World → Prop) (key : ∀ a' w', X a a' w' → wpAnyH P md ops Q S m L a' w')
    (use : (∀ a' w', X a a' w' → wpAnyH P md ops Q S m L a' w') → wpAnyH P md ops Q S n l a w) : wpAnyH P md ops Q S n l a w := use key

/-- The blocks of divideLong. -/
structure Lg (w0 : World) (B P Q E n v D r : Nat) (q : Nat → Nat) (u : Nat) (w : World) : Prop where
  b1 : BlockIs w (B + 1) 80 (magF (limb n) (len n))
  b2 : BlockIs w (B + 2) 80 (magF (fun _ => 0) 0)
  b3 : BlockIs w (B + 3) 80 (magF (fun _ => 0) 0)
  p : BlockIs w P 80 (magF (limb r) v)
  d : BlockIs w Q 80 (magF (limb D) (len D))
  e : BlockIs w E 80 (magF q u)
  bl : Below B w0 w
  hp : B + 3 < P
  hq : B + 3 < Q
  he : B + 3 < E
  pq : P ≠ Q
  pe : P ≠ E
  qe : Q ≠ E
theorem Lg.below {w0 : World} {B P Q E n v D r : Nat} {q : Nat → Nat} {u : Nat} {w w' : World} (h : Lg w0 B P Q E n v D r q u w) (hb : Below w.heap.size w w') : Lg w0 B P Q E n v D r q u w' :=
  ⟨h.b1.below hb h.b1.lt, h.b2.below hb h.b2.lt, h.b3.below hb h.b3.lt, h.p.below hb h.p.lt, h.d.below hb h.d.lt, h.e.below hb h.e.lt, h.bl.trans (hb.mono (by have := h.b1.lt; omega)), h.hp, h.hq, h.he, h.pq, h.pe, h.qe⟩
theorem Lg.but {w0 : World} {B P Q E n v D r : Nat} {q : Nat → Nat} {u : Nat} {w w' : World} (h : Lg w0 B P Q E n v D r q u w) {r' : Nat} (hb : But w.heap.size P w w') (hp : BlockIs w' P 80 (magF (limb r') v)) : Lg w0 B P Q E n v D r' q u w' := by
  have h1 := h.hp
  exact ⟨But.keep h.b1 hb h.b1.lt (by omega), But.keep h.b2 hb h.b2.lt (by omega), But.keep h.b3 hb h.b3.lt (by omega), hp, But.keep h.d hb h.d.lt h.pq.symm, But.keep h.e hb h.e.lt h.pe.symm, hb.below h.bl (by have := h.b1.lt; omega) (by omega), h.hp, h.hq, h.he, h.pq, h.pe, h.qe⟩
theorem Lg.limb {w0 : World} {B P Q E n v D r : Nat} {q : Nat → Nat} {u : Nat} {w : World} (h : Lg w0 B P Q E n v D r q u w) {i x : Nat} {z : Int} (hi : i < 30) (hz : z = x) : Lg w0 B P Q E n v D r (upd q i x) u (w.setCell ⟨E, i, none⟩ (.int .u32 z)) := by
  have h1 := h.he
  exact ⟨h.b1.other _ _ (by simp <;> omega), h.b2.other _ _ (by simp <;> omega), h.b3.other _ _ (by simp <;> omega), h.p.other _ _ h.pe, h.d.other _ _ h.qe, h.e.limb hi hz, h.bl.setCell (by simp <;> omega) _, h.hp, h.hq, h.he, h.pq, h.pe, h.qe⟩
theorem Lg.drw {w0 : World} {B P Q E n v D r : Nat} {q : Nat → Nat} {u : Nat} {w : World} (h : Lg w0 B P Q E n v D r q u w) : Lg w0 B P Q E n v D r q u w.drew :=
  ⟨h.b1.drew, h.b2.drew, h.b3.drew, h.p.drew, h.d.drew, h.e.drew, h.bl.drew, h.hp, h.hq, h.he, h.pq, h.pe, h.qe⟩
theorem Lg.row {w0 : World} {B P Q E n v D r : Nat} {q : Nat → Nat} {u : Nat} {w : World} (h : Lg w0 B P Q E n v D r q u w) (F : Nat) (cs : Array Value) (h3 : B + 3 < F) (hp : F ≠ P) (hq : F ≠ Q) (he : F ≠ E) : Lg w0 B P Q E n v D r q u (w.setRow F cs) :=
  ⟨h.b1.rowOther _ _ (by omega), h.b2.rowOther _ _ (by omega), h.b3.rowOther _ _ (by omega), h.p.rowOther _ _ (Ne.symm hp), h.d.rowOther _ _ (Ne.symm hq), h.e.rowOther _ _ (Ne.symm he), below_row h.bl _ _ (by omega), h.hp, h.hq, h.he, h.pq, h.pe, h.qe⟩
theorem Lg.set {w0 : World} {B P Q E n v D r : Nat} {q : Nat → Nat} {u : Nat} {w : World} (h : Lg w0 B P Q E n v D r q u w) (F i : Nat) (x : Value) (h3 : B + 3 < F) (hp : F ≠ P) (hq : F ≠ Q) (he : F ≠ E) : Lg w0 B P Q E n v D r q u (w.setCell ⟨F, i, none⟩ x) :=
  ⟨h.b1.other _ _ (by simp <;> omega), h.b2.other _ _ (by simp <;> omega), h.b3.other _ _ (by simp <;> omega), h.p.other _ _ (Ne.symm hp), h.d.other _ _ (Ne.symm hq), h.e.other _ _ (Ne.symm he), h.bl.setCell (by simp <;> omega) _, h.hp, h.hq, h.he, h.pq, h.pe, h.qe⟩
theorem Lg.alloc {w0 : World} {B P Q E n v D r : Nat} {q : Nat → Nat} {u : Nat} {w : World} (h : Lg w0 B P Q E n v D r q u w) (o : Obj) : Lg w0 B P Q E n v D r q u (w.alloc o) :=
  ⟨h.b1.alloc _, h.b2.alloc _, h.b3.alloc _, h.p.alloc _, h.d.alloc _, h.e.alloc _, h.bl.alloc (by have := h.b1.lt; omega) _, h.hp, h.hq, h.he, h.pq, h.pe, h.qe⟩
/-- What is left of them at the end: the results and the quotient. -/
structure Lh (w0 : World) (B E : Nat) (f g : Nat → Nat) (x y : Nat) (q : Nat → Nat) (u : Nat) (w : World) : Prop where
  b2 : BlockIs w (B + 2) 80 (magF f x)
  b3 : BlockIs w (B + 3) 80 (magF g y)
  e : BlockIs w E 80 (magF q u)
  bl : Below B w0 w
  he : B + 3 < E
theorem Lg.lh {w0 : World} {B P Q E n v D r : Nat} {q : Nat → Nat} {u : Nat} {w : World} (h : Lg w0 B P Q E n v D r q u w) : Lh w0 B E (fun _ => 0) (fun _ => 0) 0 0 q u w := ⟨h.b2, h.b3, h.e, h.bl, h.he⟩
theorem Lh.below {w0 : World} {B E : Nat} {f g : Nat → Nat} {x y : Nat} {q : Nat → Nat} {u : Nat} {w w' : World} (h : Lh w0 B E f g x y q u w) (hb : Below w.heap.size w w') : Lh w0 B E f g x y q u w' :=
  ⟨h.b2.below hb h.b2.lt, h.b3.below hb h.b3.lt, h.e.below hb h.e.lt, h.bl.trans (hb.mono (by have := h.b2.lt; omega)), h.he⟩
theorem Lh.set2 {w0 : World} {B E : Nat} {f g : Nat → Nat} {x y : Nat} {q : Nat → Nat} {u : Nat} {w : World} (h : Lh w0 B E f g x y q u w) (f' : Nat → Nat) (x' : Nat) : Lh w0 B E f' g x' y q u (w.setRow (B + 2) (magF f' x')) :=
  ⟨h.b2.row _, h.b3.rowOther _ _ (by omega), h.e.rowOther _ _ (by have := h.he; omega), below_row h.bl _ _ (by omega), h.he⟩
theorem Lh.set3 {w0 : World} {B E : Nat} {f g : Nat → Nat} {x y : Nat} {q : Nat → Nat} {u : Nat} {w : World} (h : Lh w0 B E f g x y q u w) (f' : Nat → Nat) (x' : Nat) : Lh w0 B E f f' x x' q u (w.setRow (B + 3) (magF f' x')) :=
  ⟨h.b2.rowOther _ _ (by omega), h.b3.row _, h.e.rowOther _ _ (by have := h.he; omega), below_row h.bl _ _ (by omega), h.he⟩

/-- copy of limbs into a fresh magnitude. -/
def limbCells (r u : Nat) : List Value := (List.range u).map fun k => Value.int .u32 (Proofs.YtjemolaobhlapaaGreatDoor.limb r k)
theorem copied {r u : Nat} (hr : r < pw u) (hu : u ≤ 30) : ((magF (fun _ => 0) 0).toList.take 0 ++ limbCells r u ++ (magF (fun _ => 0) 0).toList.drop (0 + (limbCells r u).length)).toArray = magF (Proofs.YtjemolaobhlapaaGreatDoor.limb r) 0 := by
  have hlen : (limbCells r u).length = u := by simp [limbCells]
  apply Array.ext_getElem?
  intro j
  rw [List.getElem?_toArray, List.take_zero, List.nil_append, hlen, Nat.zero_add]
  have hz : (magF (fun _ => 0) 0).toList = magL (fun _ => 0) 0 := rfl
  rw [hz]
  by_cases h : j < u
  · rw [List.getElem?_append_left (by omega), magF_get _ _ (by omega)]
    simp [limbCells, h]
  · rw [List.getElem?_append_right (by omega), hlen, List.getElem?_drop, show u + (j - u) = j by omega]
    by_cases h30 : j < 30
    · rw [magL_get _ _ h30, magF_get _ _ h30, limb_big (Nat.lt_of_lt_of_le hr (pw_mono (by omega)))]
    · by_cases e : j = 30
      · subst e; rw [magL_used, magF_used]
      · rw [List.getElem?_eq_none (by rw [magL_len]; omega), Array.getElem?_eq_none (by rw [magF_size]; omega)]
theorem add_zero_block (P j : Nat) : (⟨P, 0, none⟩ : Addr).add j = ⟨P, j, none⟩ := by
  unfold Addr.add
  simp
  try omega
theorem arrL : Tryz.prog.arrayLen 78 = 30 := by kernel_rfl
theorem arrU : Tryz.prog.underlying 78 = some (.array (Tryz.prog.arrayLen 78) (Tryz.prog.elem 78)) := by kernel_rfl
theorem sizeL (w : World) : (sizeOf (Tryz.prog.elem 78)).run Tryz.prog w = .ok 1 w := by kernel_rfl
theorem run_sliceL (P u : Nat) (hu : u ≤ 30) (w : World) : (Instr.sliceAt 78 (.pointer (some ⟨P, 0, none⟩)) none (some (.int .i64 (u : Int))) none).run Tryz.prog w = .ok (.slice (some ⟨P, 0, none⟩) u 30) w := by
  rw [run_sliceAt_array_h w 78 ⟨P, 0, none⟩ arrU .i64 u (by omega) (by rw [arrL]; omega), sizeL, arrL, Result.andThen_ok]
  unfold slicedAt
  rw [Int.toNat_natCast, if_neg (by decide), Nat.zero_mul, add_zero_block, Nat.sub_zero, Nat.sub_zero]
theorem infoU : (Tryz.prog.info? 76).map (·.size) = some 1 := by kernel_rfl
theorem wp_copyL {o : Oper} {a : Act} {w : World} {K : Act → World → Prop} {Q : Exit → Act → World → Prop} (x y : Operand) (ho : o.op = .call { callee := .builtin .copy, args := #[x, y], argTypes := #[207, 207] }) (F P u r v : Nat)
    (hx : a.eval x = .slice (some ⟨F, 0, none⟩) 30 30) (hy : a.eval y = .slice (some ⟨P, 0, none⟩) u 30) (hu : u ≤ 30) (hF : BlockIs w F 80 (magF (fun _ => 0) 0)) (hP : BlockIs w P 80 (magF (Proofs.YtjemolaobhlapaaGreatDoor.limb r) v)) (hr : r < pw u)
    (h : K (a.put o.dst (.int .i64 u)) (w.setRow F (magF (Proofs.YtjemolaobhlapaaGreatDoor.limb r) 0))) : o.wp Tryz.prog a w K Q := by
  have hlen : (limbCells r u).length = u := by simp [limbCells]
  have hrun := run_copy_row (P := Tryz.prog) w 207 207 o.type 76 F 0 30 30 ⟨P, 0, none⟩ u 30 (magF (fun _ => 0) 0) 80 (limbCells r u) Tryz.underlying207 infoU hF (by rw [hlen]; exact (Nat.min_eq_left hu).symm)
    (by
      intro j z hz
      have hj : j < u := by have := (List.getElem?_eq_some_iff.1 hz).1; rwa [hlen] at this
      have := (hP.at j).trans (magF_get _ _ (by omega))
      rw [show (⟨P, 0, none⟩ : Addr).add j = ⟨P, j, none⟩ from add_zero_block P j, this, ← hz]
      simp [limbCells, hj])
    (by rw [hlen, magF_size]; omega)
    (by
      intro z hz
      simp only [limbCells, List.mem_map] at hz
      obtain ⟨k, _, rfl⟩ := hz
      rfl)
  rw [copied hr hu, hlen] at hrun
  unfold Oper.wp
  simp [execOp, ho, resolve, invoke, builtin, hx, hy, hrun, Result.andThen]
  exact h

/-- The digits from i on. -/
def mixG (c i : Nat) : Nat → Nat := fun k => if i ≤ k then Proofs.YtjemolaobhlapaaGreatDoor.limb c k else 0
theorem mixG_next (c i : Nat) : upd (mixG c (i + 1)) i (Proofs.YtjemolaobhlapaaGreatDoor.limb c i) = mixG c i := by
  funext k
  unfold upd mixG
  by_cases h : k = i
  · subst h; simp
  · rw [if_neg h]
    by_cases h2 : i ≤ k
    · rw [if_pos h2, if_pos (by omega)]
    · rw [if_neg h2, if_neg (by omega)]
theorem mixG_zero (c : Nat) : mixG c 0 = Proofs.YtjemolaobhlapaaGreatDoor.limb c := by funext k; simp [mixG]
theorem mixG_top {c i : Nat} (h : c < pw i) : mixG c i = (fun _ => 0 : Nat → Nat) := by
  funext k
  unfold mixG
  by_cases h2 : i ≤ k
  · rw [if_pos h2, limb_big (Nat.lt_of_lt_of_le h (pw_mono h2))]
  · rw [if_neg h2]

theorem len_is {D u : Nat} (h : D < pw u) (lo : pw (u - 1) ≤ D) (hu0 : 0 < u) (hu : u ≤ 30) : len D = u := by
  have h30 : D < pw 30 := Nat.lt_of_lt_of_le h (pw_mono hu)
  have h1 := len_le h30 h
  by_cases e : len D = u
  · exact e
  · have h2 := len_lt h30
    have := pw_mono (i := len D) (j := u - 1) (by omega)
    omega
/-- A call of a function, by its contract. -/
theorem wp_callF {o : Oper} {a : Act} {w : World} {K : Act → World → Prop} {Q : Exit → Act → World → Prop} (f : Nat) (xs : Array Operand) (ts : Array TypeId) (ho : o.op = .call { callee := .value (.func f), args := xs, argTypes := ts }) (vs : Array Value) (hf : (Tryz.prog.funcs[f]?).map (fun fn => (fn.name == "runtime.NumGoroutine", fn.body.isNone)) = some (false, false)) (hv : xs.map a.eval = vs) {v : Value} {R : World → Prop}
    (h : Calls Tryz.prog f vs w fun e w' => e = .returned v ∧ R w') (hk : ∀ w', R w' → K (a.put o.dst v) w') : o.wp Tryz.prog a w K Q := by
  unfold Oper.wp
  have hr : (execOp a.eval o).run Tryz.prog w = .ok (.enter f vs) w := by
    subst hv
    simp [execOp, ho, resolve, invoke, Act.eval, go_sem, callFunc, Deferred.ofValue]
    obtain ⟨fn, hfn, hx⟩ := Option.map_eq_some_iff.1 hf
    rw [Prod.mk.injEq] at hx
    have h1 : ¬ fn.name = "runtime.NumGoroutine" := by simpa using hx.1
    have h2 : ¬ fn.body = none := by
      have h3 := hx.2
      cases hb : fn.body with
      | none => rw [hb] at h3; cases h3
      | some _ => simp
    rw [hfn]
    simp [h1, h2]
  rw [hr]
  show Calls Tryz.prog f vs w _
  refine h.mono ?_
  rintro e w' ⟨rfl, hR⟩
  exact hk w' hR

theorem scale_lt (t : Nat) : 1000000000 / (t + 1) < 4294967296 := Nat.lt_of_le_of_lt (Nat.div_le_self _ _) (by decide)

set_option maxHeartbeats 8000000 in
theorem divideLong_any (m n : Nat) (hm : m < pw 29) (hn : n < pw 30) (hnm : n ≤ m) (hl : 2 ≤ len n) (w : World) :
    Calls Tryz.prog 182 #[.agg (mag m), .agg (mag n)] w fun e w' => e = .returned (.tuple #[.agg (mag (m / n)), .agg (mag (m % n))]) ∧ Below w.heap.size w w' := by
  obtain ⟨B, hB⟩ : ∃ B, w.heap.size = B := ⟨_, rfl⟩
  obtain ⟨W, hW⟩ : ∃ W, (((w.alloc (.cells (mag m) 80)).alloc (.cells (mag n) 80)).alloc (.cells (magF (fun _ => 0) 0) 80)).alloc (.cells (magF (fun _ => 0) 0) 80) = W := ⟨_, rfl⟩
  have HW := Lib.hid (st4_start m n w hB hW)
  have hz0 := zeroM
  have hm30 := pw_big hm
  have hn0 : 0 < n := by
    rcases Nat.eq_zero_or_pos n with e | e
    · subst e; rw [len_zero] at hl; omega
    · exact e
  have c30 := (HW.out.b1.at 30).trans (magF_used _ _)
  have hl30 := len_30 hn
  have ct := (HW.out.b1.at (len n - 1)).trans (magF_get _ _ (by omega))
  have ht9 := limb_lt n (len n - 1)
  have ht0 := limb_top hn hn0
  have HSL := Lib.hid (fun (s : Nat) (a : 0 < s) (b : s * (limb n (len n - 1) + 1) ≤ 1000000000) => scale_len hn0 hn a b)
  obtain ⟨t, ht⟩ : ∃ t, limb n (len n - 1) = t := ⟨_, rfl⟩
  rw [ht] at ct ht9 ht0 HSL
  have HLN := Lib.hid (show len n ≤ 29 from len_le hn (Nat.lt_of_le_of_lt hnm hm))
  have hs4 := scale_lt t
  have hs0 : 0 < 1000000000 / (t + 1) := Nat.div_pos (by omega) (by omega)
  have hsm := Nat.div_mul_le_self 1000000000 (t + 1)
  obtain ⟨s, hs⟩ : ∃ s, 1000000000 / (t + 1) = s := ⟨_, rfl⟩
  rw [hs] at hs4 hs0 hsm
  have hsi : (1000000000 : Int) / ((t : Int) + 1) = s := by rw [← hs]; rfl
  have hsw : IntKind.u64.wrap (s : Int) = s := IntWalk.u64_in _ (by omega)
  have hs5 : s ≤ 500000000 := by have : s * 2 ≤ s * (t + 1) := Nat.mul_le_mul_left _ (by omega); omega
  have HSM := Lib.hid hsm
  have hst0 := long_start hn0 hm30 hn hnm
  obtain ⟨c, hc⟩ : ∃ c, m / n = c := ⟨_, rfl⟩
  obtain ⟨r0, hr0⟩ : ∃ r, m % n = r := ⟨_, rfl⟩
  rw [hc] at hst0 ⊢
  rw [hr0]
  have HST0 := Lib.hid hst0
  have HCR := Lib.hid (And.intro hc hr0)
  clear ht hs hsm hst0 hc hr0
  go_enter Tryz.func182, Tryz.ntmps182
  go_wp2
  clear c30 ct hsi ht9
  have HOW := Lib.hid (fun W => ofWord_any s (by omega) W)
  have hs9 : s < pw 1 := by show s < 1 * 1000000000; omega
  have hs30 : s < pw 30 := Nat.lt_of_lt_of_le hs9 (pw_mono (by omega))
  have hs1 : len s ≤ 1 := len_le hs30 hs9
  have HTM := Lib.hid (fun W => times_any m s hm30 hs30 (by have := len_le hm30 hm; omega) W)
  have HTN := Lib.hid (fun W => times_any n s hn hs30 (by have := HLN.out; omega) W)
  obtain ⟨M, hM⟩ : ∃ M, m * s = M := ⟨_, rfl⟩
  obtain ⟨D, hD⟩ : ∃ D, n * s = D := ⟨_, rfl⟩
  rw [hM] at HTM
  rw [hD] at HTN
  have HMD := Lib.hid (And.intro hM hD)
  clear hM hD hs1 hs9 hs30
  have hS0 : St4 w B (limb m) (limb n) (fun _ => 0) (fun _ => 0) (len m) (len n) 0 0 W.drew := HW.out.drew
  refine wp_region_held_drew (S := St4 w B (limb m) (limb n) (fun _ => 0) (fun _ => 0) (len m) (len n) 0 0) (by kernel_rfl) hS0 (fun hS => ?_)
  obtain ⟨wd, hwd⟩ : ∃ wd, W.drew = wd := ⟨_, rfl⟩
  rw [hwd] at hS hS0 ⊢
  clear hwd hS0
  refine wpAnyH_take (i := 0) rfl (by kernel_rfl) (by kernel_rfl) (by kernel_rfl) (fun _ _ _ h => h) (yM_load rfl (.tmp 2) rfl B rfl (fun w' h => h.b0)) hS ?_
  try simp only [A1, A2, A3, Act.put, A4, A5, A6]
  refine wpAnyH_take (i := 1) (v := .int .u32 s) rfl (by kernel_rfl) (by kernel_rfl) (by kernel_rfl) (fun _ _ _ h => h) (Or.inl ⟨by rfl, fun w' _ => by rfl⟩) hS ?_
  try simp only [A1, A2, A3, Act.put, A4, A5, A6]
  refine wpAnyH_take (i := 2) (v := .int .u64 s) rfl (by kernel_rfl) (by kernel_rfl) (by kernel_rfl) (fun _ _ _ h => h) (Or.inl ⟨by rfl, fun w' _ => by go_simp⟩) hS ?_
  try simp only [A1, A2, A3, Act.put, A4, A5, A6]
  refine wpAnyH_take (i := 5) rfl (by kernel_rfl) (by kernel_rfl) (by kernel_rfl) (fun _ _ _ h => h) (yM_load rfl (.tmp 3) rfl (B + 1) rfl (fun w' h => h.b1)) hS ?_
  try simp only [A1, A2, A3, Act.put, A4, A5, A6]
  refine wpAnyH_take (i := 6) (v := .int .u32 s) rfl (by kernel_rfl) (by kernel_rfl) (by kernel_rfl) (fun _ _ _ h => h) (Or.inl ⟨by rfl, fun w' _ => by rfl⟩) hS ?_
  try simp only [A1, A2, A3, Act.put, A4, A5, A6]
  refine wpAnyH_take (i := 7) (v := .int .u64 s) rfl (by kernel_rfl) (by kernel_rfl) (by kernel_rfl) (fun _ _ _ h => h) (Or.inl ⟨by rfl, fun w' _ => by go_simp⟩) hS ?_
  try simp only [A1, A2, A3, Act.put, A4, A5, A6]
  refine wpAnyH_meet 2 #[true, true, true, true, true, true, true, true, true, true, true, true, false, false] (fun a a' W => ∃ Cp Cq, a' = (((((a.put (some 24) (.agg (mag s))).put (some 25) (.agg (mag M))).put (some 29) (.agg (mag s))).put (some 30) (.agg (mag D))).put (some 7) (.pointer (some ⟨Cp, 0, none⟩))).put (some 8) (.pointer (some ⟨Cq, 0, none⟩)) ∧ St4 w B (limb m) (limb n) (fun _ => 0) (fun _ => 0) (len m) (len n) 0 0 W ∧ BlockIs W Cp 80 (magF (fun _ => 0) 0) ∧ BlockIs W Cq 80 (magF (fun _ => 0) 0) ∧ Cp ≠ Cq ∧ B + 3 < Cp ∧ B + 3 < Cq) ?key (fun hK0 => ?use)
  case use =>
    have HK := Lib.hid hK0
    clear hK0
    refine wpAnyH_ready (rs := [3, 10, 11]) (by kernel_rfl) (by simp) (AllReadyH.cons rfl (fun K hK => ?_) (AllReadyH.cons rfl (fun K hK => ?_) (AllReadyH.cons rfl (fun K hK => ?_) AllReadyH.nil)))
    · rw [if_pos (by rfl)]
      refine wp_callF 143 _ _ rfl _ (by kernel_rfl) (by kernel_rfl) (R := Below wd.heap.size wd) (HOW.out _) (fun v0 hb0 => ?_)
      have hT := hS.below hb0
      clear hS
      refine hK.out _ _ hT (fun hS => ?_)
      clear hK K hT
      try simp only [A1, A2, A3, Act.put, A4, A5, A6]
      refine wpAnyH_ready (rs := [4, 10, 11]) (by kernel_rfl) (by simp) (AllReadyH.cons rfl (fun K hK => ?_) (AllReadyH.cons rfl (fun K hK => ?_) (AllReadyH.cons rfl (fun K hK => ?_) AllReadyH.nil)))
      · rw [if_pos (by rfl)]
        refine wp_callF 140 _ _ rfl _ (by kernel_rfl) (by kernel_rfl) (R := Below v0.heap.size v0) (HTM.out _) (fun v1 hb1 => ?_)
        have hT := hS.below hb1
        clear hS
        refine hK.out _ _ hT (fun hS => ?_)
        clear hK K hT
        try simp only [A1, A2, A3, Act.put, A4, A5, A6]
        refine wpAnyH_ready (rs := [8, 10, 11]) (by kernel_rfl) (by simp) (AllReadyH.cons rfl (fun K hK => ?_) (AllReadyH.cons rfl (fun K hK => ?_) (AllReadyH.cons rfl (fun K hK => ?_) AllReadyH.nil)))
        · rw [if_pos (by rfl)]
          refine wp_callF 143 _ _ rfl _ (by kernel_rfl) (by kernel_rfl) (R := Below v1.heap.size v1) (HOW.out _) (fun v2 hb2 => ?_)
          have hT := hS.below hb2
          clear hS
          refine hK.out _ _ hT (fun hS => ?_)
          clear hK K hT
          try simp only [A1, A2, A3, Act.put, A4, A5, A6]
          refine wpAnyH_ready (rs := [9, 10, 11]) (by kernel_rfl) (by simp) (AllReadyH.cons rfl (fun K hK => ?_) (AllReadyH.cons rfl (fun K hK => ?_) (AllReadyH.cons rfl (fun K hK => ?_) AllReadyH.nil)))
          · rw [if_pos (by rfl)]
            refine wp_callF 140 _ _ rfl _ (by kernel_rfl) (by kernel_rfl) (R := Below v2.heap.size v2) (HTN.out _) (fun v3 hb3 => ?_)
            have hT := hS.below hb3
            clear hS
            refine hK.out _ _ hT (fun hS => ?_)
            clear hK K hT
            try simp only [A1, A2, A3, Act.put, A4, A5, A6]
            refine wpAnyH_ready (rs := [10, 11]) (by kernel_rfl) (by simp) (AllReadyH.cons rfl (fun K hK => ?_) (AllReadyH.cons rfl (fun K hK => ?_) AllReadyH.nil))
            · go_simp
              obtain ⟨Cp, hCp⟩ : ∃ C, v3.heap.size = C := ⟨_, rfl⟩
              have hEp := BlockIs.new v3 80 (magF (fun _ => 0) 0)
              have hT := hS.alloc (.cells (magF (fun _ => 0) 0) 80)
              have hLp := hS.b3.lt
              rw [hCp] at hEp hLp
              obtain ⟨Vp, hVp⟩ : ∃ V, v3.alloc (.cells (magF (fun _ => 0) 0) 80) = V := ⟨_, rfl⟩
              rw [hVp] at hEp hT ⊢
              try rw [hCp]
              clear hCp hVp
              clear hS
              refine hK.out _ _ hT (fun hS => ?_)
              clear hK K hT
              try simp only [A1, A2, A3, Act.put, A4, A5, A6]
              refine wpAnyH_ready (rs := [11]) (by kernel_rfl) (by simp) (AllReadyH.cons rfl (fun K hK => ?_) AllReadyH.nil)
              go_simp
              obtain ⟨Cq, hCq⟩ : ∃ C, Vp.heap.size = C := ⟨_, rfl⟩
              have hEq := BlockIs.new Vp 80 (magF (fun _ => 0) 0)
              have hT := hS.alloc (.cells (magF (fun _ => 0) 0) 80)
              have hLq := hS.b3.lt
              rw [hCq] at hEq hLq
              have hNpq : Cp < Cq := by rw [← hCq]; exact hEp.lt
              replace hEp := hEp.alloc (.cells (magF (fun _ => 0) 0) 80)
              obtain ⟨Vq, hVq⟩ : ∃ V, Vp.alloc (.cells (magF (fun _ => 0) 0) 80) = V := ⟨_, rfl⟩
              rw [hVq] at hEq hT ⊢
              rw [hVq] at hEp
              try rw [hCq]
              clear hCq hVq
              clear hS
              refine hK.out _ _ hT (fun hS => ?_)
              clear hK K hT
              try simp only [A1, A2, A3, Act.put, A4, A5, A6]
              exact HK.out _ _ ⟨Cp, Cq, by simp only [Act.put, List.setIfInBounds_toArray, List.set_cons_zero, List.set_cons_succ], hS, hEp, hEq, by first | exact Nat.ne_of_lt hNpq | exact (Nat.ne_of_lt hNqp).symm, hLp, hLq⟩
            · go_simp
              obtain ⟨Cq, hCq⟩ : ∃ C, v3.heap.size = C := ⟨_, rfl⟩
              have hEq := BlockIs.new v3 80 (magF (fun _ => 0) 0)
              have hT := hS.alloc (.cells (magF (fun _ => 0) 0) 80)
              have hLq := hS.b3.lt
              rw [hCq] at hEq hLq
              obtain ⟨Vq, hVq⟩ : ∃ V, v3.alloc (.cells (magF (fun _ => 0) 0) 80) = V := ⟨_, rfl⟩
              rw [hVq] at hEq hT ⊢
              try rw [hCq]
              clear hCq hVq
              clear hS
              refine hK.out _ _ hT (fun hS => ?_)
              clear hK K hT
              try simp only [A1, A2, A3, Act.put, A4, A5, A6]
              refine wpAnyH_ready (rs := [10]) (by kernel_rfl) (by simp) (AllReadyH.cons rfl (fun K hK => ?_) AllReadyH.nil)
              go_simp
              obtain ⟨Cp, hCp⟩ : ∃ C, Vq.heap.size = C := ⟨_, rfl⟩
              have hEp := BlockIs.new Vq 80 (magF (fun _ => 0) 0)
              have hT := hS.alloc (.cells (magF (fun _ => 0) 0) 80)
              have hLp := hS.b3.lt
              rw [hCp] at hEp hLp
              have hNqp : Cq < Cp := by rw [← hCp]; exact hEq.lt
              replace hEq := hEq.alloc (.cells (magF (fun _ => 0) 0) 80)
              obtain ⟨Vp, hVp⟩ : ∃ V, Vq.alloc (.cells (magF (fun _ => 0) 0) 80) = V := ⟨_, rfl⟩
              rw [hVp] at hEp hT ⊢
              rw [hVp] at hEq
              try rw [hCp]
              clear hCp hVp
              clear hS
              refine hK.out _ _ hT (fun hS => ?_)
              clear hK K hT
              try simp only [A1, A2, A3, Act.put, A4, A5, A6]
              exact HK.out _ _ ⟨Cp, Cq, by simp only [Act.put, List.setIfInBounds_toArray, List.set_cons_zero, List.set_cons_succ], hS, hEp, hEq, by first | exact Nat.ne_of_lt hNpq | exact (Nat.ne_of_lt hNqp).symm, hLp, hLq⟩
          · go_simp
            obtain ⟨Cp, hCp⟩ : ∃ C, v2.heap.size = C := ⟨_, rfl⟩
            have hEp := BlockIs.new v2 80 (magF (fun _ => 0) 0)
            have hT := hS.alloc (.cells (magF (fun _ => 0) 0) 80)
            have hLp := hS.b3.lt
            rw [hCp] at hEp hLp
            obtain ⟨Vp, hVp⟩ : ∃ V, v2.alloc (.cells (magF (fun _ => 0) 0) 80) = V := ⟨_, rfl⟩
            rw [hVp] at hEp hT ⊢
            try rw [hCp]
            clear hCp hVp
            clear hS
            refine hK.out _ _ hT (fun hS => ?_)
            clear hK K hT
            try simp only [A1, A2, A3, Act.put, A4, A5, A6]
            refine wpAnyH_ready (rs := [9, 11]) (by kernel_rfl) (by simp) (AllReadyH.cons rfl (fun K hK => ?_) (AllReadyH.cons rfl (fun K hK => ?_) AllReadyH.nil))
            · rw [if_pos (by rfl)]
              refine wp_callF 140 _ _ rfl _ (by kernel_rfl) (by kernel_rfl) (R := Below Vp.heap.size Vp) (HTN.out _) (fun v3 hb3 => ?_)
              have hT := hS.below hb3
              replace hEp := hEp.below hb3 hEp.lt
              clear hS
              refine hK.out _ _ hT (fun hS => ?_)
              clear hK K hT
              try simp only [A1, A2, A3, Act.put, A4, A5, A6]
              refine wpAnyH_ready (rs := [11]) (by kernel_rfl) (by simp) (AllReadyH.cons rfl (fun K hK => ?_) AllReadyH.nil)
              go_simp
              obtain ⟨Cq, hCq⟩ : ∃ C, v3.heap.size = C := ⟨_, rfl⟩
              have hEq := BlockIs.new v3 80 (magF (fun _ => 0) 0)
              have hT := hS.alloc (.cells (magF (fun _ => 0) 0) 80)
              have hLq := hS.b3.lt
              rw [hCq] at hEq hLq
              have hNpq : Cp < Cq := by rw [← hCq]; exact hEp.lt
              replace hEp := hEp.alloc (.cells (magF (fun _ => 0) 0) 80)
              obtain ⟨Vq, hVq⟩ : ∃ V, v3.alloc (.cells (magF (fun _ => 0) 0) 80) = V := ⟨_, rfl⟩
              rw [hVq] at hEq hT ⊢
              rw [hVq] at hEp
              try rw [hCq]
              clear hCq hVq
              clear hS
              refine hK.out _ _ hT (fun hS => ?_)
              clear hK K hT
              try simp only [A1, A2, A3, Act.put, A4, A5, A6]
              exact HK.out _ _ ⟨Cp, Cq, by simp only [Act.put, List.setIfInBounds_toArray, List.set_cons_zero, List.set_cons_succ], hS, hEp, hEq, by first | exact Nat.ne_of_lt hNpq | exact (Nat.ne_of_lt hNqp).symm, hLp, hLq⟩
            · go_simp
              obtain ⟨Cq, hCq⟩ : ∃ C, Vp.heap.size = C := ⟨_, rfl⟩
              have hEq := BlockIs.new Vp 80 (magF (fun _ => 0) 0)
              have hT := hS.alloc (.cells (magF (fun _ => 0) 0) 80)
              have hLq := hS.b3.lt
              rw [hCq] at hEq hLq
              have hNpq : Cp < Cq := by rw [← hCq]; exact hEp.lt
              replace hEp := hEp.alloc (.cells (magF (fun _ => 0) 0) 80)
              obtain ⟨Vq, hVq⟩ : ∃ V, Vp.alloc (.cells (magF (fun _ => 0) 0) 80) = V := ⟨_, rfl⟩
              rw [hVq] at hEq hT ⊢
              rw [hVq] at hEp
              try rw [hCq]
              clear hCq hVq
              clear hS
              refine hK.out _ _ hT (fun hS => ?_)
              clear hK K hT
              try simp only [A1, A2, A3, Act.put, A4, A5, A6]
              refine wpAnyH_ready (rs := [9]) (by kernel_rfl) (by simp) (AllReadyH.cons rfl (fun K hK => ?_) AllReadyH.nil)
              rw [if_pos (by rfl)]
              refine wp_callF 140 _ _ rfl _ (by kernel_rfl) (by kernel_rfl) (R := Below Vq.heap.size Vq) (HTN.out _) (fun v3 hb3 => ?_)
              have hT := hS.below hb3
              replace hEp := hEp.below hb3 hEp.lt
              replace hEq := hEq.below hb3 hEq.lt
              clear hS
              refine hK.out _ _ hT (fun hS => ?_)
              clear hK K hT
              try simp only [A1, A2, A3, Act.put, A4, A5, A6]
              exact HK.out _ _ ⟨Cp, Cq, by simp only [Act.put, List.setIfInBounds_toArray, List.set_cons_zero, List.set_cons_succ], hS, hEp, hEq, by first | exact Nat.ne_of_lt hNpq | exact (Nat.ne_of_lt hNqp).symm, hLp, hLq⟩
          · go_simp
            obtain ⟨Cq, hCq⟩ : ∃ C, v2.heap.size = C := ⟨_, rfl⟩
            have hEq := BlockIs.new v2 80 (magF (fun _ => 0) 0)
            have hT := hS.alloc (.cells (magF (fun _ => 0) 0) 80)
            have hLq := hS.b3.lt
            rw [hCq] at hEq hLq
            obtain ⟨Vq, hVq⟩ : ∃ V, v2.alloc (.cells (magF (fun _ => 0) 0) 80) = V := ⟨_, rfl⟩
            rw [hVq] at hEq hT ⊢
            try rw [hCq]
            clear hCq hVq
            clear hS
            refine hK.out _ _ hT (fun hS => ?_)
            clear hK K hT
            try simp only [A1, A2, A3, Act.put, A4, A5, A6]
            refine wpAnyH_ready (rs := [9, 10]) (by kernel_rfl) (by simp) (AllReadyH.cons rfl (fun K hK => ?_) (AllReadyH.cons rfl (fun K hK => ?_) AllReadyH.nil))
            · rw [if_pos (by rfl)]
              refine wp_callF 140 _ _ rfl _ (by kernel_rfl) (by kernel_rfl) (R := Below Vq.heap.size Vq) (HTN.out _) (fun v3 hb3 => ?_)
              have hT := hS.below hb3
              replace hEq := hEq.below hb3 hEq.lt
              clear hS
              refine hK.out _ _ hT (fun hS => ?_)
              clear hK K hT
              try simp only [A1, A2, A3, Act.put, A4, A5, A6]
              refine wpAnyH_ready (rs := [10]) (by kernel_rfl) (by simp) (AllReadyH.cons rfl (fun K hK => ?_) AllReadyH.nil)
              go_simp
              obtain ⟨Cp, hCp⟩ : ∃ C, v3.heap.size = C := ⟨_, rfl⟩
              have hEp := BlockIs.new v3 80 (magF (fun _ => 0) 0)
              have hT := hS.alloc (.cells (magF (fun _ => 0) 0) 80)
              have hLp := hS.b3.lt
              rw [hCp] at hEp hLp
              have hNqp : Cq < Cp := by rw [← hCp]; exact hEq.lt
              replace hEq := hEq.alloc (.cells (magF (fun _ => 0) 0) 80)
              obtain ⟨Vp, hVp⟩ : ∃ V, v3.alloc (.cells (magF (fun _ => 0) 0) 80) = V := ⟨_, rfl⟩
              rw [hVp] at hEp hT ⊢
              rw [hVp] at hEq
              try rw [hCp]
              clear hCp hVp
              clear hS
              refine hK.out _ _ hT (fun hS => ?_)
              clear hK K hT
              try simp only [A1, A2, A3, Act.put, A4, A5, A6]
              exact HK.out _ _ ⟨Cp, Cq, by simp only [Act.put, List.setIfInBounds_toArray, List.set_cons_zero, List.set_cons_succ], hS, hEp, hEq, by first | exact Nat.ne_of_lt hNpq | exact (Nat.ne_of_lt hNqp).symm, hLp, hLq⟩
            · go_simp
              obtain ⟨Cp, hCp⟩ : ∃ C, Vq.heap.size = C := ⟨_, rfl⟩
              have hEp := BlockIs.new Vq 80 (magF (fun _ => 0) 0)
              have hT := hS.alloc (.cells (magF (fun _ => 0) 0) 80)
              have hLp := hS.b3.lt
              rw [hCp] at hEp hLp
              have hNqp : Cq < Cp := by rw [← hCp]; exact hEq.lt
              replace hEq := hEq.alloc (.cells (magF (fun _ => 0) 0) 80)
              obtain ⟨Vp, hVp⟩ : ∃ V, Vq.alloc (.cells (magF (fun _ => 0) 0) 80) = V := ⟨_, rfl⟩
              rw [hVp] at hEp hT ⊢
              rw [hVp] at hEq
              try rw [hCp]
              clear hCp hVp
              clear hS
              refine hK.out _ _ hT (fun hS => ?_)
              clear hK K hT
              try simp only [A1, A2, A3, Act.put, A4, A5, A6]
              refine wpAnyH_ready (rs := [9]) (by kernel_rfl) (by simp) (AllReadyH.cons rfl (fun K hK => ?_) AllReadyH.nil)
              rw [if_pos (by rfl)]
              refine wp_callF 140 _ _ rfl _ (by kernel_rfl) (by kernel_rfl) (R := Below Vp.heap.size Vp) (HTN.out _) (fun v3 hb3 => ?_)
              have hT := hS.below hb3
              replace hEq := hEq.below hb3 hEq.lt
              replace hEp := hEp.below hb3 hEp.lt
              clear hS
              refine hK.out _ _ hT (fun hS => ?_)
              clear hK K hT
              try simp only [A1, A2, A3, Act.put, A4, A5, A6]
              exact HK.out _ _ ⟨Cp, Cq, by simp only [Act.put, List.setIfInBounds_toArray, List.set_cons_zero, List.set_cons_succ], hS, hEp, hEq, by first | exact Nat.ne_of_lt hNpq | exact (Nat.ne_of_lt hNqp).symm, hLp, hLq⟩
        · go_simp
          obtain ⟨Cp, hCp⟩ : ∃ C, v1.heap.size = C := ⟨_, rfl⟩
          have hEp := BlockIs.new v1 80 (magF (fun _ => 0) 0)
          have hT := hS.alloc (.cells (magF (fun _ => 0) 0) 80)
          have hLp := hS.b3.lt
          rw [hCp] at hEp hLp
          obtain ⟨Vp, hVp⟩ : ∃ V, v1.alloc (.cells (magF (fun _ => 0) 0) 80) = V := ⟨_, rfl⟩
          rw [hVp] at hEp hT ⊢
          try rw [hCp]
          clear hCp hVp
          clear hS
          refine hK.out _ _ hT (fun hS => ?_)
          clear hK K hT
          try simp only [A1, A2, A3, Act.put, A4, A5, A6]
          refine wpAnyH_ready (rs := [8, 11]) (by kernel_rfl) (by simp) (AllReadyH.cons rfl (fun K hK => ?_) (AllReadyH.cons rfl (fun K hK => ?_) AllReadyH.nil))
          · rw [if_pos (by rfl)]
            refine wp_callF 143 _ _ rfl _ (by kernel_rfl) (by kernel_rfl) (R := Below Vp.heap.size Vp) (HOW.out _) (fun v2 hb2 => ?_)
            have hT := hS.below hb2
            replace hEp := hEp.below hb2 hEp.lt
            clear hS
            refine hK.out _ _ hT (fun hS => ?_)
            clear hK K hT
            try simp only [A1, A2, A3, Act.put, A4, A5, A6]
            refine wpAnyH_ready (rs := [9, 11]) (by kernel_rfl) (by simp) (AllReadyH.cons rfl (fun K hK => ?_) (AllReadyH.cons rfl (fun K hK => ?_) AllReadyH.nil))
            · rw [if_pos (by rfl)]
              refine wp_callF 140 _ _ rfl _ (by kernel_rfl) (by kernel_rfl) (R := Below v2.heap.size v2) (HTN.out _) (fun v3 hb3 => ?_)
              have hT := hS.below hb3
              replace hEp := hEp.below hb3 hEp.lt
              clear hS
              refine hK.out _ _ hT (fun hS => ?_)
              clear hK K hT
              try simp only [A1, A2, A3, Act.put, A4, A5, A6]
              refine wpAnyH_ready (rs := [11]) (by kernel_rfl) (by simp) (AllReadyH.cons rfl (fun K hK => ?_) AllReadyH.nil)
              go_simp
              obtain ⟨Cq, hCq⟩ : ∃ C, v3.heap.size = C := ⟨_, rfl⟩
              have hEq := BlockIs.new v3 80 (magF (fun _ => 0) 0)
              have hT := hS.alloc (.cells (magF (fun _ => 0) 0) 80)
              have hLq := hS.b3.lt
              rw [hCq] at hEq hLq
              have hNpq : Cp < Cq := by rw [← hCq]; exact hEp.lt
              replace hEp := hEp.alloc (.cells (magF (fun _ => 0) 0) 80)
              obtain ⟨Vq, hVq⟩ : ∃ V, v3.alloc (.cells (magF (fun _ => 0) 0) 80) = V := ⟨_, rfl⟩
              rw [hVq] at hEq hT ⊢
              rw [hVq] at hEp
              try rw [hCq]
              clear hCq hVq
              clear hS
              refine hK.out _ _ hT (fun hS => ?_)
              clear hK K hT
              try simp only [A1, A2, A3, Act.put, A4, A5, A6]
              exact HK.out _ _ ⟨Cp, Cq, by simp only [Act.put, List.setIfInBounds_toArray, List.set_cons_zero, List.set_cons_succ], hS, hEp, hEq, by first | exact Nat.ne_of_lt hNpq | exact (Nat.ne_of_lt hNqp).symm, hLp, hLq⟩
            · go_simp
              obtain ⟨Cq, hCq⟩ : ∃ C, v2.heap.size = C := ⟨_, rfl⟩
              have hEq := BlockIs.new v2 80 (magF (fun _ => 0) 0)
              have hT := hS.alloc (.cells (magF (fun _ => 0) 0) 80)
              have hLq := hS.b3.lt
              rw [hCq] at hEq hLq
              have hNpq : Cp < Cq := by rw [← hCq]; exact hEp.lt
              replace hEp := hEp.alloc (.cells (magF (fun _ => 0) 0) 80)
              obtain ⟨Vq, hVq⟩ : ∃ V, v2.alloc (.cells (magF (fun _ => 0) 0) 80) = V := ⟨_, rfl⟩
              rw [hVq] at hEq hT ⊢
              rw [hVq] at hEp
              try rw [hCq]
              clear hCq hVq
              clear hS
              refine hK.out _ _ hT (fun hS => ?_)
              clear hK K hT
              try simp only [A1, A2, A3, Act.put, A4, A5, A6]
              refine wpAnyH_ready (rs := [9]) (by kernel_rfl) (by simp) (AllReadyH.cons rfl (fun K hK => ?_) AllReadyH.nil)
              rw [if_pos (by rfl)]
              refine wp_callF 140 _ _ rfl _ (by kernel_rfl) (by kernel_rfl) (R := Below Vq.heap.size Vq) (HTN.out _) (fun v3 hb3 => ?_)
              have hT := hS.below hb3
              replace hEp := hEp.below hb3 hEp.lt
              replace hEq := hEq.below hb3 hEq.lt
              clear hS
              refine hK.out _ _ hT (fun hS => ?_)
              clear hK K hT
              try simp only [A1, A2, A3, Act.put, A4, A5, A6]
              exact HK.out _ _ ⟨Cp, Cq, by simp only [Act.put, List.setIfInBounds_toArray, List.set_cons_zero, List.set_cons_succ], hS, hEp, hEq, by first | exact Nat.ne_of_lt hNpq | exact (Nat.ne_of_lt hNqp).symm, hLp, hLq⟩
          · go_simp
            obtain ⟨Cq, hCq⟩ : ∃ C, Vp.heap.size = C := ⟨_, rfl⟩
            have hEq := BlockIs.new Vp 80 (magF (fun _ => 0) 0)
            have hT := hS.alloc (.cells (magF (fun _ => 0) 0) 80)
            have hLq := hS.b3.lt
            rw [hCq] at hEq hLq
            have hNpq : Cp < Cq := by rw [← hCq]; exact hEp.lt
            replace hEp := hEp.alloc (.cells (magF (fun _ => 0) 0) 80)
            obtain ⟨Vq, hVq⟩ : ∃ V, Vp.alloc (.cells (magF (fun _ => 0) 0) 80) = V := ⟨_, rfl⟩
            rw [hVq] at hEq hT ⊢
            rw [hVq] at hEp
            try rw [hCq]
            clear hCq hVq
            clear hS
            refine hK.out _ _ hT (fun hS => ?_)
            clear hK K hT
            try simp only [A1, A2, A3, Act.put, A4, A5, A6]
            refine wpAnyH_ready (rs := [8]) (by kernel_rfl) (by simp) (AllReadyH.cons rfl (fun K hK => ?_) AllReadyH.nil)
            rw [if_pos (by rfl)]
            refine wp_callF 143 _ _ rfl _ (by kernel_rfl) (by kernel_rfl) (R := Below Vq.heap.size Vq) (HOW.out _) (fun v2 hb2 => ?_)
            have hT := hS.below hb2
            replace hEp := hEp.below hb2 hEp.lt
            replace hEq := hEq.below hb2 hEq.lt
            clear hS
            refine hK.out _ _ hT (fun hS => ?_)
            clear hK K hT
            try simp only [A1, A2, A3, Act.put, A4, A5, A6]
            refine wpAnyH_ready (rs := [9]) (by kernel_rfl) (by simp) (AllReadyH.cons rfl (fun K hK => ?_) AllReadyH.nil)
            rw [if_pos (by rfl)]
            refine wp_callF 140 _ _ rfl _ (by kernel_rfl) (by kernel_rfl) (R := Below v2.heap.size v2) (HTN.out _) (fun v3 hb3 => ?_)
            have hT := hS.below hb3
            replace hEp := hEp.below hb3 hEp.lt
            replace hEq := hEq.below hb3 hEq.lt
            clear hS
            refine hK.out _ _ hT (fun hS => ?_)
            clear hK K hT
            try simp only [A1, A2, A3, Act.put, A4, A5, A6]
            exact HK.out _ _ ⟨Cp, Cq, by simp only [Act.put, List.setIfInBounds_toArray, List.set_cons_zero, List.set_cons_succ], hS, hEp, hEq, by first | exact Nat.ne_of_lt hNpq | exact (Nat.ne_of_lt hNqp).symm, hLp, hLq⟩
        · go_simp
          obtain ⟨Cq, hCq⟩ : ∃ C, v1.heap.size = C := ⟨_, rfl⟩
          have hEq := BlockIs.new v1 80 (magF (fun _ => 0) 0)
          have hT := hS.alloc (.cells (magF (fun _ => 0) 0) 80)
          have hLq := hS.b3.lt
          rw [hCq] at hEq hLq
          obtain ⟨Vq, hVq⟩ : ∃ V, v1.alloc (.cells (magF (fun _ => 0) 0) 80) = V := ⟨_, rfl⟩
          rw [hVq] at hEq hT ⊢
          try rw [hCq]
          clear hCq hVq
          clear hS
          refine hK.out _ _ hT (fun hS => ?_)
          clear hK K hT
          try simp only [A1, A2, A3, Act.put, A4, A5, A6]
          refine wpAnyH_ready (rs := [8, 10]) (by kernel_rfl) (by simp) (AllReadyH.cons rfl (fun K hK => ?_) (AllReadyH.cons rfl (fun K hK => ?_) AllReadyH.nil))
          · rw [if_pos (by rfl)]
            refine wp_callF 143 _ _ rfl _ (by kernel_rfl) (by kernel_rfl) (R := Below Vq.heap.size Vq) (HOW.out _) (fun v2 hb2 => ?_)
            have hT := hS.below hb2
            replace hEq := hEq.below hb2 hEq.lt
            clear hS
            refine hK.out _ _ hT (fun hS => ?_)
            clear hK K hT
            try simp only [A1, A2, A3, Act.put, A4, A5, A6]
            refine wpAnyH_ready (rs := [9, 10]) (by kernel_rfl) (by simp) (AllReadyH.cons rfl (fun K hK => ?_) (AllReadyH.cons rfl (fun K hK => ?_) AllReadyH.nil))
            · rw [if_pos (by rfl)]
              refine wp_callF 140 _ _ rfl _ (by kernel_rfl) (by kernel_rfl) (R := Below v2.heap.size v2) (HTN.out _) (fun v3 hb3 => ?_)
              have hT := hS.below hb3
              replace hEq := hEq.below hb3 hEq.lt
              clear hS
              refine hK.out _ _ hT (fun hS => ?_)
              clear hK K hT
              try simp only [A1, A2, A3, Act.put, A4, A5, A6]
              refine wpAnyH_ready (rs := [10]) (by kernel_rfl) (by simp) (AllReadyH.cons rfl (fun K hK => ?_) AllReadyH.nil)
              go_simp
              obtain ⟨Cp, hCp⟩ : ∃ C, v3.heap.size = C := ⟨_, rfl⟩
              have hEp := BlockIs.new v3 80 (magF (fun _ => 0) 0)
              have hT := hS.alloc (.cells (magF (fun _ => 0) 0) 80)
              have hLp := hS.b3.lt
              rw [hCp] at hEp hLp
              have hNqp : Cq < Cp := by rw [← hCp]; exact hEq.lt
              replace hEq := hEq.alloc (.cells (magF (fun _ => 0) 0) 80)
              obtain ⟨Vp, hVp⟩ : ∃ V, v3.alloc (.cells (magF (fun _ => 0) 0) 80) = V := ⟨_, rfl⟩
              rw [hVp] at hEp hT ⊢
              rw [hVp] at hEq
              try rw [hCp]
              clear hCp hVp
              clear hS
              refine hK.out _ _ hT (fun hS => ?_)
              clear hK K hT
              try simp only [A1, A2, A3, Act.put, A4, A5, A6]
              exact HK.out _ _ ⟨Cp, Cq, by simp only [Act.put, List.setIfInBounds_toArray, List.set_cons_zero, List.set_cons_succ], hS, hEp, hEq, by first | exact Nat.ne_of_lt hNpq | exact (Nat.ne_of_lt hNqp).symm, hLp, hLq⟩
            · go_simp
              obtain ⟨Cp, hCp⟩ : ∃ C, v2.heap.size = C := ⟨_, rfl⟩
              have hEp := BlockIs.new v2 80 (magF (fun _ => 0) 0)
              have hT := hS.alloc (.cells (magF (fun _ => 0) 0) 80)
              have hLp := hS.b3.lt
              rw [hCp] at hEp hLp
              have hNqp : Cq < Cp := by rw [← hCp]; exact hEq.lt
              replace hEq := hEq.alloc (.cells (magF (fun _ => 0) 0) 80)
              obtain ⟨Vp, hVp⟩ : ∃ V, v2.alloc (.cells (magF (fun _ => 0) 0) 80) = V := ⟨_, rfl⟩
              rw [hVp] at hEp hT ⊢
              rw [hVp] at hEq
              try rw [hCp]
              clear hCp hVp
              clear hS
              refine hK.out _ _ hT (fun hS => ?_)
              clear hK K hT
              try simp only [A1, A2, A3, Act.put, A4, A5, A6]
              refine wpAnyH_ready (rs := [9]) (by kernel_rfl) (by simp) (AllReadyH.cons rfl (fun K hK => ?_) AllReadyH.nil)
              rw [if_pos (by rfl)]
              refine wp_callF 140 _ _ rfl _ (by kernel_rfl) (by kernel_rfl) (R := Below Vp.heap.size Vp) (HTN.out _) (fun v3 hb3 => ?_)
              have hT := hS.below hb3
              replace hEq := hEq.below hb3 hEq.lt
              replace hEp := hEp.below hb3 hEp.lt
              clear hS
              refine hK.out _ _ hT (fun hS => ?_)
              clear hK K hT
              try simp only [A1, A2, A3, Act.put, A4, A5, A6]
              exact HK.out _ _ ⟨Cp, Cq, by simp only [Act.put, List.setIfInBounds_toArray, List.set_cons_zero, List.set_cons_succ], hS, hEp, hEq, by first | exact Nat.ne_of_lt hNpq | exact (Nat.ne_of_lt hNqp).symm, hLp, hLq⟩
          · go_simp
            obtain ⟨Cp, hCp⟩ : ∃ C, Vq.heap.size = C := ⟨_, rfl⟩
            have hEp := BlockIs.new Vq 80 (magF (fun _ => 0) 0)
            have hT := hS.alloc (.cells (magF (fun _ => 0) 0) 80)
            have hLp := hS.b3.lt
            rw [hCp] at hEp hLp
            have hNqp : Cq < Cp := by rw [← hCp]; exact hEq.lt
            replace hEq := hEq.alloc (.cells (magF (fun _ => 0) 0) 80)
            obtain ⟨Vp, hVp⟩ : ∃ V, Vq.alloc (.cells (magF (fun _ => 0) 0) 80) = V := ⟨_, rfl⟩
            rw [hVp] at hEp hT ⊢
            rw [hVp] at hEq
            try rw [hCp]
            clear hCp hVp
            clear hS
            refine hK.out _ _ hT (fun hS => ?_)
            clear hK K hT
            try simp only [A1, A2, A3, Act.put, A4, A5, A6]
            refine wpAnyH_ready (rs := [8]) (by kernel_rfl) (by simp) (AllReadyH.cons rfl (fun K hK => ?_) AllReadyH.nil)
            rw [if_pos (by rfl)]
            refine wp_callF 143 _ _ rfl _ (by kernel_rfl) (by kernel_rfl) (R := Below Vp.heap.size Vp) (HOW.out _) (fun v2 hb2 => ?_)
            have hT := hS.below hb2
            replace hEq := hEq.below hb2 hEq.lt
            replace hEp := hEp.below hb2 hEp.lt
            clear hS
            refine hK.out _ _ hT (fun hS => ?_)
            clear hK K hT
            try simp only [A1, A2, A3, Act.put, A4, A5, A6]
            refine wpAnyH_ready (rs := [9]) (by kernel_rfl) (by simp) (AllReadyH.cons rfl (fun K hK => ?_) AllReadyH.nil)
            rw [if_pos (by rfl)]
            refine wp_callF 140 _ _ rfl _ (by kernel_rfl) (by kernel_rfl) (R := Below v2.heap.size v2) (HTN.out _) (fun v3 hb3 => ?_)
            have hT := hS.below hb3
            replace hEq := hEq.below hb3 hEq.lt
            replace hEp := hEp.below hb3 hEp.lt
            clear hS
            refine hK.out _ _ hT (fun hS => ?_)
            clear hK K hT
            try simp only [A1, A2, A3, Act.put, A4, A5, A6]
            exact HK.out _ _ ⟨Cp, Cq, by simp only [Act.put, List.setIfInBounds_toArray, List.set_cons_zero, List.set_cons_succ], hS, hEp, hEq, by first | exact Nat.ne_of_lt hNpq | exact (Nat.ne_of_lt hNqp).symm, hLp, hLq⟩
      · go_simp
        obtain ⟨Cp, hCp⟩ : ∃ C, v0.heap.size = C := ⟨_, rfl⟩
        have hEp := BlockIs.new v0 80 (magF (fun _ => 0) 0)
        have hT := hS.alloc (.cells (magF (fun _ => 0) 0) 80)
        have hLp := hS.b3.lt
        rw [hCp] at hEp hLp
        obtain ⟨Vp, hVp⟩ : ∃ V, v0.alloc (.cells (magF (fun _ => 0) 0) 80) = V := ⟨_, rfl⟩
        rw [hVp] at hEp hT ⊢
        try rw [hCp]
        clear hCp hVp
        clear hS
        refine hK.out _ _ hT (fun hS => ?_)
        clear hK K hT
        try simp only [A1, A2, A3, Act.put, A4, A5, A6]
        refine wpAnyH_ready (rs := [4, 11]) (by kernel_rfl) (by simp) (AllReadyH.cons rfl (fun K hK => ?_) (AllReadyH.cons rfl (fun K hK => ?_) AllReadyH.nil))
        · rw [if_pos (by rfl)]
          refine wp_callF 140 _ _ rfl _ (by kernel_rfl) (by kernel_rfl) (R := Below Vp.heap.size Vp) (HTM.out _) (fun v1 hb1 => ?_)
          have hT := hS.below hb1
          replace hEp := hEp.below hb1 hEp.lt
          clear hS
          refine hK.out _ _ hT (fun hS => ?_)
          clear hK K hT
          try simp only [A1, A2, A3, Act.put, A4, A5, A6]
          refine wpAnyH_ready (rs := [8, 11]) (by kernel_rfl) (by simp) (AllReadyH.cons rfl (fun K hK => ?_) (AllReadyH.cons rfl (fun K hK => ?_) AllReadyH.nil))
          · rw [if_pos (by rfl)]
            refine wp_callF 143 _ _ rfl _ (by kernel_rfl) (by kernel_rfl) (R := Below v1.heap.size v1) (HOW.out _) (fun v2 hb2 => ?_)
            have hT := hS.below hb2
            replace hEp := hEp.below hb2 hEp.lt
            clear hS
            refine hK.out _ _ hT (fun hS => ?_)
            clear hK K hT
            try simp only [A1, A2, A3, Act.put, A4, A5, A6]
            refine wpAnyH_ready (rs := [9, 11]) (by kernel_rfl) (by simp) (AllReadyH.cons rfl (fun K hK => ?_) (AllReadyH.cons rfl (fun K hK => ?_) AllReadyH.nil))
            · rw [if_pos (by rfl)]
              refine wp_callF 140 _ _ rfl _ (by kernel_rfl) (by kernel_rfl) (R := Below v2.heap.size v2) (HTN.out _) (fun v3 hb3 => ?_)
              have hT := hS.below hb3
              replace hEp := hEp.below hb3 hEp.lt
              clear hS
              refine hK.out _ _ hT (fun hS => ?_)
              clear hK K hT
              try simp only [A1, A2, A3, Act.put, A4, A5, A6]
              refine wpAnyH_ready (rs := [11]) (by kernel_rfl) (by simp) (AllReadyH.cons rfl (fun K hK => ?_) AllReadyH.nil)
              go_simp
              obtain ⟨Cq, hCq⟩ : ∃ C, v3.heap.size = C := ⟨_, rfl⟩
              have hEq := BlockIs.new v3 80 (magF (fun _ => 0) 0)
              have hT := hS.alloc (.cells (magF (fun _ => 0) 0) 80)
              have hLq := hS.b3.lt
              rw [hCq] at hEq hLq
              have hNpq : Cp < Cq := by rw [← hCq]; exact hEp.lt
              replace hEp := hEp.alloc (.cells (magF (fun _ => 0) 0) 80)
              obtain ⟨Vq, hVq⟩ : ∃ V, v3.alloc (.cells (magF (fun _ => 0) 0) 80) = V := ⟨_, rfl⟩
              rw [hVq] at hEq hT ⊢
              rw [hVq] at hEp
              try rw [hCq]
              clear hCq hVq
              clear hS
              refine hK.out _ _ hT (fun hS => ?_)
              clear hK K hT
              try simp only [A1, A2, A3, Act.put, A4, A5, A6]
              exact HK.out _ _ ⟨Cp, Cq, by simp only [Act.put, List.setIfInBounds_toArray, List.set_cons_zero, List.set_cons_succ], hS, hEp, hEq, by first | exact Nat.ne_of_lt hNpq | exact (Nat.ne_of_lt hNqp).symm, hLp, hLq⟩
            · go_simp
              obtain ⟨Cq, hCq⟩ : ∃ C, v2.heap.size = C := ⟨_, rfl⟩
              have hEq := BlockIs.new v2 80 (magF (fun _ => 0) 0)
              have hT := hS.alloc (.cells (magF (fun _ => 0) 0) 80)
              have hLq := hS.b3.lt
              rw [hCq] at hEq hLq
              have hNpq : Cp < Cq := by rw [← hCq]; exact hEp.lt
              replace hEp := hEp.alloc (.cells (magF (fun _ => 0) 0) 80)
              obtain ⟨Vq, hVq⟩ : ∃ V, v2.alloc (.cells (magF (fun _ => 0) 0) 80) = V := ⟨_, rfl⟩
              rw [hVq] at hEq hT ⊢
              rw [hVq] at hEp
              try rw [hCq]
              clear hCq hVq
              clear hS
              refine hK.out _ _ hT (fun hS => ?_)
              clear hK K hT
              try simp only [A1, A2, A3, Act.put, A4, A5, A6]
              refine wpAnyH_ready (rs := [9]) (by kernel_rfl) (by simp) (AllReadyH.cons rfl (fun K hK => ?_) AllReadyH.nil)
              rw [if_pos (by rfl)]
              refine wp_callF 140 _ _ rfl _ (by kernel_rfl) (by kernel_rfl) (R := Below Vq.heap.size Vq) (HTN.out _) (fun v3 hb3 => ?_)
              have hT := hS.below hb3
              replace hEp := hEp.below hb3 hEp.lt
              replace hEq := hEq.below hb3 hEq.lt
              clear hS
              refine hK.out _ _ hT (fun hS => ?_)
              clear hK K hT
              try simp only [A1, A2, A3, Act.put, A4, A5, A6]
              exact HK.out _ _ ⟨Cp, Cq, by simp only [Act.put, List.setIfInBounds_toArray, List.set_cons_zero, List.set_cons_succ], hS, hEp, hEq, by first | exact Nat.ne_of_lt hNpq | exact (Nat.ne_of_lt hNqp).symm, hLp, hLq⟩
          · go_simp
            obtain ⟨Cq, hCq⟩ : ∃ C, v1.heap.size = C := ⟨_, rfl⟩
            have hEq := BlockIs.new v1 80 (magF (fun _ => 0) 0)
            have hT := hS.alloc (.cells (magF (fun _ => 0) 0) 80)
            have hLq := hS.b3.lt
            rw [hCq] at hEq hLq
            have hNpq : Cp < Cq := by rw [← hCq]; exact hEp.lt
            replace hEp := hEp.alloc (.cells (magF (fun _ => 0) 0) 80)
            obtain ⟨Vq, hVq⟩ : ∃ V, v1.alloc (.cells (magF (fun _ => 0) 0) 80) = V := ⟨_, rfl⟩
            rw [hVq] at hEq hT ⊢
            rw [hVq] at hEp
            try rw [hCq]
            clear hCq hVq
            clear hS
            refine hK.out _ _ hT (fun hS => ?_)
            clear hK K hT
            try simp only [A1, A2, A3, Act.put, A4, A5, A6]
            refine wpAnyH_ready (rs := [8]) (by kernel_rfl) (by simp) (AllReadyH.cons rfl (fun K hK => ?_) AllReadyH.nil)
            rw [if_pos (by rfl)]
            refine wp_callF 143 _ _ rfl _ (by kernel_rfl) (by kernel_rfl) (R := Below Vq.heap.size Vq) (HOW.out _) (fun v2 hb2 => ?_)
            have hT := hS.below hb2
            replace hEp := hEp.below hb2 hEp.lt
            replace hEq := hEq.below hb2 hEq.lt
            clear hS
            refine hK.out _ _ hT (fun hS => ?_)
            clear hK K hT
            try simp only [A1, A2, A3, Act.put, A4, A5, A6]
            refine wpAnyH_ready (rs := [9]) (by kernel_rfl) (by simp) (AllReadyH.cons rfl (fun K hK => ?_) AllReadyH.nil)
            rw [if_pos (by rfl)]
            refine wp_callF 140 _ _ rfl _ (by kernel_rfl) (by kernel_rfl) (R := Below v2.heap.size v2) (HTN.out _) (fun v3 hb3 => ?_)
            have hT := hS.below hb3
            replace hEp := hEp.below hb3 hEp.lt
            replace hEq := hEq.below hb3 hEq.lt
            clear hS
            refine hK.out _ _ hT (fun hS => ?_)
            clear hK K hT
            try simp only [A1, A2, A3, Act.put, A4, A5, A6]
            exact HK.out _ _ ⟨Cp, Cq, by simp only [Act.put, List.setIfInBounds_toArray, List.set_cons_zero, List.set_cons_succ], hS, hEp, hEq, by first | exact Nat.ne_of_lt hNpq | exact (Nat.ne_of_lt hNqp).symm, hLp, hLq⟩
        · go_simp
          obtain ⟨Cq, hCq⟩ : ∃ C, Vp.heap.size = C := ⟨_, rfl⟩
          have hEq := BlockIs.new Vp 80 (magF (fun _ => 0) 0)
          have hT := hS.alloc (.cells (magF (fun _ => 0) 0) 80)
          have hLq := hS.b3.lt
          rw [hCq] at hEq hLq
          have hNpq : Cp < Cq := by rw [← hCq]; exact hEp.lt
          replace hEp := hEp.alloc (.cells (magF (fun _ => 0) 0) 80)
          obtain ⟨Vq, hVq⟩ : ∃ V, Vp.alloc (.cells (magF (fun _ => 0) 0) 80) = V := ⟨_, rfl⟩
          rw [hVq] at hEq hT ⊢
          rw [hVq] at hEp
          try rw [hCq]
          clear hCq hVq
          clear hS
          refine hK.out _ _ hT (fun hS => ?_)
          clear hK K hT
          try simp only [A1, A2, A3, Act.put, A4, A5, A6]
          refine wpAnyH_ready (rs := [4]) (by kernel_rfl) (by simp) (AllReadyH.cons rfl (fun K hK => ?_) AllReadyH.nil)
          rw [if_pos (by rfl)]
          refine wp_callF 140 _ _ rfl _ (by kernel_rfl) (by kernel_rfl) (R := Below Vq.heap.size Vq) (HTM.out _) (fun v1 hb1 => ?_)
          have hT := hS.below hb1
          replace hEp := hEp.below hb1 hEp.lt
          replace hEq := hEq.below hb1 hEq.lt
          clear hS
          refine hK.out _ _ hT (fun hS => ?_)
          clear hK K hT
          try simp only [A1, A2, A3, Act.put, A4, A5, A6]
          refine wpAnyH_ready (rs := [8]) (by kernel_rfl) (by simp) (AllReadyH.cons rfl (fun K hK => ?_) AllReadyH.nil)
          rw [if_pos (by rfl)]
          refine wp_callF 143 _ _ rfl _ (by kernel_rfl) (by kernel_rfl) (R := Below v1.heap.size v1) (HOW.out _) (fun v2 hb2 => ?_)
          have hT := hS.below hb2
          replace hEp := hEp.below hb2 hEp.lt
          replace hEq := hEq.below hb2 hEq.lt
          clear hS
          refine hK.out _ _ hT (fun hS => ?_)
          clear hK K hT
          try simp only [A1, A2, A3, Act.put, A4, A5, A6]
          refine wpAnyH_ready (rs := [9]) (by kernel_rfl) (by simp) (AllReadyH.cons rfl (fun K hK => ?_) AllReadyH.nil)
          rw [if_pos (by rfl)]
          refine wp_callF 140 _ _ rfl _ (by kernel_rfl) (by kernel_rfl) (R := Below v2.heap.size v2) (HTN.out _) (fun v3 hb3 => ?_)
          have hT := hS.below hb3
          replace hEp := hEp.below hb3 hEp.lt
          replace hEq := hEq.below hb3 hEq.lt
          clear hS
          refine hK.out _ _ hT (fun hS => ?_)
          clear hK K hT
          try simp only [A1, A2, A3, Act.put, A4, A5, A6]
          exact HK.out _ _ ⟨Cp, Cq, by simp only [Act.put, List.setIfInBounds_toArray, List.set_cons_zero, List.set_cons_succ], hS, hEp, hEq, by first | exact Nat.ne_of_lt hNpq | exact (Nat.ne_of_lt hNqp).symm, hLp, hLq⟩
      · go_simp
        obtain ⟨Cq, hCq⟩ : ∃ C, v0.heap.size = C := ⟨_, rfl⟩
        have hEq := BlockIs.new v0 80 (magF (fun _ => 0) 0)
        have hT := hS.alloc (.cells (magF (fun _ => 0) 0) 80)
        have hLq := hS.b3.lt
        rw [hCq] at hEq hLq
        obtain ⟨Vq, hVq⟩ : ∃ V, v0.alloc (.cells (magF (fun _ => 0) 0) 80) = V := ⟨_, rfl⟩
        rw [hVq] at hEq hT ⊢
        try rw [hCq]
        clear hCq hVq
        clear hS
        refine hK.out _ _ hT (fun hS => ?_)
        clear hK K hT
        try simp only [A1, A2, A3, Act.put, A4, A5, A6]
        refine wpAnyH_ready (rs := [4, 10]) (by kernel_rfl) (by simp) (AllReadyH.cons rfl (fun K hK => ?_) (AllReadyH.cons rfl (fun K hK => ?_) AllReadyH.nil))
        · rw [if_pos (by rfl)]
          refine wp_callF 140 _ _ rfl _ (by kernel_rfl) (by kernel_rfl) (R := Below Vq.heap.size Vq) (HTM.out _) (fun v1 hb1 => ?_)
          have hT := hS.below hb1
          replace hEq := hEq.below hb1 hEq.lt
          clear hS
          refine hK.out _ _ hT (fun hS => ?_)
          clear hK K hT
          try simp only [A1, A2, A3, Act.put, A4, A5, A6]
          refine wpAnyH_ready (rs := [8, 10]) (by kernel_rfl) (by simp) (AllReadyH.cons rfl (fun K hK => ?_) (AllReadyH.cons rfl (fun K hK => ?_) AllReadyH.nil))
          · rw [if_pos (by rfl)]
            refine wp_callF 143 _ _ rfl _ (by kernel_rfl) (by kernel_rfl) (R := Below v1.heap.size v1) (HOW.out _) (fun v2 hb2 => ?_)
            have hT := hS.below hb2
            replace hEq := hEq.below hb2 hEq.lt
            clear hS
            refine hK.out _ _ hT (fun hS => ?_)
            clear hK K hT
            try simp only [A1, A2, A3, Act.put, A4, A5, A6]
            refine wpAnyH_ready (rs := [9, 10]) (by kernel_rfl) (by simp) (AllReadyH.cons rfl (fun K hK => ?_) (AllReadyH.cons rfl (fun K hK => ?_) AllReadyH.nil))
            · rw [if_pos (by rfl)]
              refine wp_callF 140 _ _ rfl _ (by kernel_rfl) (by kernel_rfl) (R := Below v2.heap.size v2) (HTN.out _) (fun v3 hb3 => ?_)
              have hT := hS.below hb3
              replace hEq := hEq.below hb3 hEq.lt
              clear hS
              refine hK.out _ _ hT (fun hS => ?_)
              clear hK K hT
              try simp only [A1, A2, A3, Act.put, A4, A5, A6]
              refine wpAnyH_ready (rs := [10]) (by kernel_rfl) (by simp) (AllReadyH.cons rfl (fun K hK => ?_) AllReadyH.nil)
              go_simp
              obtain ⟨Cp, hCp⟩ : ∃ C, v3.heap.size = C := ⟨_, rfl⟩
              have hEp := BlockIs.new v3 80 (magF (fun _ => 0) 0)
              have hT := hS.alloc (.cells (magF (fun _ => 0) 0) 80)
              have hLp := hS.b3.lt
              rw [hCp] at hEp hLp
              have hNqp : Cq < Cp := by rw [← hCp]; exact hEq.lt
              replace hEq := hEq.alloc (.cells (magF (fun _ => 0) 0) 80)
              obtain ⟨Vp, hVp⟩ : ∃ V, v3.alloc (.cells (magF (fun _ => 0) 0) 80) = V := ⟨_, rfl⟩
              rw [hVp] at hEp hT ⊢
              rw [hVp] at hEq
              try rw [hCp]
              clear hCp hVp
              clear hS
              refine hK.out _ _ hT (fun hS => ?_)
              clear hK K hT
              try simp only [A1, A2, A3, Act.put, A4, A5, A6]
              exact HK.out _ _ ⟨Cp, Cq, by simp only [Act.put, List.setIfInBounds_toArray, List.set_cons_zero, List.set_cons_succ], hS, hEp, hEq, by first | exact Nat.ne_of_lt hNpq | exact (Nat.ne_of_lt hNqp).symm, hLp, hLq⟩
            · go_simp
              obtain ⟨Cp, hCp⟩ : ∃ C, v2.heap.size = C := ⟨_, rfl⟩
              have hEp := BlockIs.new v2 80 (magF (fun _ => 0) 0)
              have hT := hS.alloc (.cells (magF (fun _ => 0) 0) 80)
              have hLp := hS.b3.lt
              rw [hCp] at hEp hLp
              have hNqp : Cq < Cp := by rw [← hCp]; exact hEq.lt
              replace hEq := hEq.alloc (.cells (magF (fun _ => 0) 0) 80)
              obtain ⟨Vp, hVp⟩ : ∃ V, v2.alloc (.cells (magF (fun _ => 0) 0) 80) = V := ⟨_, rfl⟩
              rw [hVp] at hEp hT ⊢
              rw [hVp] at hEq
              try rw [hCp]
              clear hCp hVp
              clear hS
              refine hK.out _ _ hT (fun hS => ?_)
              clear hK K hT
              try simp only [A1, A2, A3, Act.put, A4, A5, A6]
              refine wpAnyH_ready (rs := [9]) (by kernel_rfl) (by simp) (AllReadyH.cons rfl (fun K hK => ?_) AllReadyH.nil)
              rw [if_pos (by rfl)]
              refine wp_callF 140 _ _ rfl _ (by kernel_rfl) (by kernel_rfl) (R := Below Vp.heap.size Vp) (HTN.out _) (fun v3 hb3 => ?_)
              have hT := hS.below hb3
              replace hEq := hEq.below hb3 hEq.lt
              replace hEp := hEp.below hb3 hEp.lt
              clear hS
              refine hK.out _ _ hT (fun hS => ?_)
              clear hK K hT
              try simp only [A1, A2, A3, Act.put, A4, A5, A6]
              exact HK.out _ _ ⟨Cp, Cq, by simp only [Act.put, List.setIfInBounds_toArray, List.set_cons_zero, List.set_cons_succ], hS, hEp, hEq, by first | exact Nat.ne_of_lt hNpq | exact (Nat.ne_of_lt hNqp).symm, hLp, hLq⟩
          · go_simp
            obtain ⟨Cp, hCp⟩ : ∃ C, v1.heap.size = C := ⟨_, rfl⟩
            have hEp := BlockIs.new v1 80 (magF (fun _ => 0) 0)
            have hT := hS.alloc (.cells (magF (fun _ => 0) 0) 80)
            have hLp := hS.b3.lt
            rw [hCp] at hEp hLp
            have hNqp : Cq < Cp := by rw [← hCp]; exact hEq.lt
            replace hEq := hEq.alloc (.cells (magF (fun _ => 0) 0) 80)
            obtain ⟨Vp, hVp⟩ : ∃ V, v1.alloc (.cells (magF (fun _ => 0) 0) 80) = V := ⟨_, rfl⟩
            rw [hVp] at hEp hT ⊢
            rw [hVp] at hEq
            try rw [hCp]
            clear hCp hVp
            clear hS
            refine hK.out _ _ hT (fun hS => ?_)
            clear hK K hT
            try simp only [A1, A2, A3, Act.put, A4, A5, A6]
            refine wpAnyH_ready (rs := [8]) (by kernel_rfl) (by simp) (AllReadyH.cons rfl (fun K hK => ?_) AllReadyH.nil)
            rw [if_pos (by rfl)]
            refine wp_callF 143 _ _ rfl _ (by kernel_rfl) (by kernel_rfl) (R := Below Vp.heap.size Vp) (HOW.out _) (fun v2 hb2 => ?_)
            have hT := hS.below hb2
            replace hEq := hEq.below hb2 hEq.lt
            replace hEp := hEp.below hb2 hEp.lt
            clear hS
            refine hK.out _ _ hT (fun hS => ?_)
            clear hK K hT
            try simp only [A1, A2, A3, Act.put, A4, A5, A6]
            refine wpAnyH_ready (rs := [9]) (by kernel_rfl) (by simp) (AllReadyH.cons rfl (fun K hK => ?_) AllReadyH.nil)
            rw [if_pos (by rfl)]
            refine wp_callF 140 _ _ rfl _ (by kernel_rfl) (by kernel_rfl) (R := Below v2.heap.size v2) (HTN.out _) (fun v3 hb3 => ?_)
            have hT := hS.below hb3
            replace hEq := hEq.below hb3 hEq.lt
            replace hEp := hEp.below hb3 hEp.lt
            clear hS
            refine hK.out _ _ hT (fun hS => ?_)
            clear hK K hT
            try simp only [A1, A2, A3, Act.put, A4, A5, A6]
            exact HK.out _ _ ⟨Cp, Cq, by simp only [Act.put, List.setIfInBounds_toArray, List.set_cons_zero, List.set_cons_succ], hS, hEp, hEq, by first | exact Nat.ne_of_lt hNpq | exact (Nat.ne_of_lt hNqp).symm, hLp, hLq⟩
        · go_simp
          obtain ⟨Cp, hCp⟩ : ∃ C, Vq.heap.size = C := ⟨_, rfl⟩
          have hEp := BlockIs.new Vq 80 (magF (fun _ => 0) 0)
          have hT := hS.alloc (.cells (magF (fun _ => 0) 0) 80)
          have hLp := hS.b3.lt
          rw [hCp] at hEp hLp
          have hNqp : Cq < Cp := by rw [← hCp]; exact hEq.lt
          replace hEq := hEq.alloc (.cells (magF (fun _ => 0) 0) 80)
          obtain ⟨Vp, hVp⟩ : ∃ V, Vq.alloc (.cells (magF (fun _ => 0) 0) 80) = V := ⟨_, rfl⟩
          rw [hVp] at hEp hT ⊢
          rw [hVp] at hEq
          try rw [hCp]
          clear hCp hVp
          clear hS
          refine hK.out _ _ hT (fun hS => ?_)
          clear hK K hT
          try simp only [A1, A2, A3, Act.put, A4, A5, A6]
          refine wpAnyH_ready (rs := [4]) (by kernel_rfl) (by simp) (AllReadyH.cons rfl (fun K hK => ?_) AllReadyH.nil)
          rw [if_pos (by rfl)]
          refine wp_callF 140 _ _ rfl _ (by kernel_rfl) (by kernel_rfl) (R := Below Vp.heap.size Vp) (HTM.out _) (fun v1 hb1 => ?_)
          have hT := hS.below hb1
          replace hEq := hEq.below hb1 hEq.lt
          replace hEp := hEp.below hb1 hEp.lt
          clear hS
          refine hK.out _ _ hT (fun hS => ?_)
          clear hK K hT
          try simp only [A1, A2, A3, Act.put, A4, A5, A6]
          refine wpAnyH_ready (rs := [8]) (by kernel_rfl) (by simp) (AllReadyH.cons rfl (fun K hK => ?_) AllReadyH.nil)
          rw [if_pos (by rfl)]
          refine wp_callF 143 _ _ rfl _ (by kernel_rfl) (by kernel_rfl) (R := Below v1.heap.size v1) (HOW.out _) (fun v2 hb2 => ?_)
          have hT := hS.below hb2
          replace hEq := hEq.below hb2 hEq.lt
          replace hEp := hEp.below hb2 hEp.lt
          clear hS
          refine hK.out _ _ hT (fun hS => ?_)
          clear hK K hT
          try simp only [A1, A2, A3, Act.put, A4, A5, A6]
          refine wpAnyH_ready (rs := [9]) (by kernel_rfl) (by simp) (AllReadyH.cons rfl (fun K hK => ?_) AllReadyH.nil)
          rw [if_pos (by rfl)]
          refine wp_callF 140 _ _ rfl _ (by kernel_rfl) (by kernel_rfl) (R := Below v2.heap.size v2) (HTN.out _) (fun v3 hb3 => ?_)
          have hT := hS.below hb3
          replace hEq := hEq.below hb3 hEq.lt
          replace hEp := hEp.below hb3 hEp.lt
          clear hS
          refine hK.out _ _ hT (fun hS => ?_)
          clear hK K hT
          try simp only [A1, A2, A3, Act.put, A4, A5, A6]
          exact HK.out _ _ ⟨Cp, Cq, by simp only [Act.put, List.setIfInBounds_toArray, List.set_cons_zero, List.set_cons_succ], hS, hEp, hEq, by first | exact Nat.ne_of_lt hNpq | exact (Nat.ne_of_lt hNqp).symm, hLp, hLq⟩
    · go_simp
      obtain ⟨Cp, hCp⟩ : ∃ C, wd.heap.size = C := ⟨_, rfl⟩
      have hEp := BlockIs.new wd 80 (magF (fun _ => 0) 0)
      have hT := hS.alloc (.cells (magF (fun _ => 0) 0) 80)
      have hLp := hS.b3.lt
      rw [hCp] at hEp hLp
      obtain ⟨Vp, hVp⟩ : ∃ V, wd.alloc (.cells (magF (fun _ => 0) 0) 80) = V := ⟨_, rfl⟩
      rw [hVp] at hEp hT ⊢
      try rw [hCp]
      clear hCp hVp
      clear hS
      refine hK.out _ _ hT (fun hS => ?_)
      clear hK K hT
      try simp only [A1, A2, A3, Act.put, A4, A5, A6]
      refine wpAnyH_ready (rs := [3, 11]) (by kernel_rfl) (by simp) (AllReadyH.cons rfl (fun K hK => ?_) (AllReadyH.cons rfl (fun K hK => ?_) AllReadyH.nil))
      · rw [if_pos (by rfl)]
        refine wp_callF 143 _ _ rfl _ (by kernel_rfl) (by kernel_rfl) (R := Below Vp.heap.size Vp) (HOW.out _) (fun v0 hb0 => ?_)
        have hT := hS.below hb0
        replace hEp := hEp.below hb0 hEp.lt
        clear hS
        refine hK.out _ _ hT (fun hS => ?_)
        clear hK K hT
        try simp only [A1, A2, A3, Act.put, A4, A5, A6]
        refine wpAnyH_ready (rs := [4, 11]) (by kernel_rfl) (by simp) (AllReadyH.cons rfl (fun K hK => ?_) (AllReadyH.cons rfl (fun K hK => ?_) AllReadyH.nil))
        · rw [if_pos (by rfl)]
          refine wp_callF 140 _ _ rfl _ (by kernel_rfl) (by kernel_rfl) (R := Below v0.heap.size v0) (HTM.out _) (fun v1 hb1 => ?_)
          have hT := hS.below hb1
          replace hEp := hEp.below hb1 hEp.lt
          clear hS
          refine hK.out _ _ hT (fun hS => ?_)
          clear hK K hT
          try simp only [A1, A2, A3, Act.put, A4, A5, A6]
          refine wpAnyH_ready (rs := [8, 11]) (by kernel_rfl) (by simp) (AllReadyH.cons rfl (fun K hK => ?_) (AllReadyH.cons rfl (fun K hK => ?_) AllReadyH.nil))
          · rw [if_pos (by rfl)]
            refine wp_callF 143 _ _ rfl _ (by kernel_rfl) (by kernel_rfl) (R := Below v1.heap.size v1) (HOW.out _) (fun v2 hb2 => ?_)
            have hT := hS.below hb2
            replace hEp := hEp.below hb2 hEp.lt
            clear hS
            refine hK.out _ _ hT (fun hS => ?_)
            clear hK K hT
            try simp only [A1, A2, A3, Act.put, A4, A5, A6]
            refine wpAnyH_ready (rs := [9, 11]) (by kernel_rfl) (by simp) (AllReadyH.cons rfl (fun K hK => ?_) (AllReadyH.cons rfl (fun K hK => ?_) AllReadyH.nil))
            · rw [if_pos (by rfl)]
              refine wp_callF 140 _ _ rfl _ (by kernel_rfl) (by kernel_rfl) (R := Below v2.heap.size v2) (HTN.out _) (fun v3 hb3 => ?_)
              have hT := hS.below hb3
              replace hEp := hEp.below hb3 hEp.lt
              clear hS
              refine hK.out _ _ hT (fun hS => ?_)
              clear hK K hT
              try simp only [A1, A2, A3, Act.put, A4, A5, A6]
              refine wpAnyH_ready (rs := [11]) (by kernel_rfl) (by simp) (AllReadyH.cons rfl (fun K hK => ?_) AllReadyH.nil)
              go_simp
              obtain ⟨Cq, hCq⟩ : ∃ C, v3.heap.size = C := ⟨_, rfl⟩
              have hEq := BlockIs.new v3 80 (magF (fun _ => 0) 0)
              have hT := hS.alloc (.cells (magF (fun _ => 0) 0) 80)
              have hLq := hS.b3.lt
              rw [hCq] at hEq hLq
              have hNpq : Cp < Cq := by rw [← hCq]; exact hEp.lt
              replace hEp := hEp.alloc (.cells (magF (fun _ => 0) 0) 80)
              obtain ⟨Vq, hVq⟩ : ∃ V, v3.alloc (.cells (magF (fun _ => 0) 0) 80) = V := ⟨_, rfl⟩
              rw [hVq] at hEq hT ⊢
              rw [hVq] at hEp
              try rw [hCq]
              clear hCq hVq
              clear hS
              refine hK.out _ _ hT (fun hS => ?_)
              clear hK K hT
              try simp only [A1, A2, A3, Act.put, A4, A5, A6]
              exact HK.out _ _ ⟨Cp, Cq, by simp only [Act.put, List.setIfInBounds_toArray, List.set_cons_zero, List.set_cons_succ], hS, hEp, hEq, by first | exact Nat.ne_of_lt hNpq | exact (Nat.ne_of_lt hNqp).symm, hLp, hLq⟩
            · go_simp
              obtain ⟨Cq, hCq⟩ : ∃ C, v2.heap.size = C := ⟨_, rfl⟩
              have hEq := BlockIs.new v2 80 (magF (fun _ => 0) 0)
              have hT := hS.alloc (.cells (magF (fun _ => 0) 0) 80)
              have hLq := hS.b3.lt
              rw [hCq] at hEq hLq
              have hNpq : Cp < Cq := by rw [← hCq]; exact hEp.lt
              replace hEp := hEp.alloc (.cells (magF (fun _ => 0) 0) 80)
              obtain ⟨Vq, hVq⟩ : ∃ V, v2.alloc (.cells (magF (fun _ => 0) 0) 80) = V := ⟨_, rfl⟩
              rw [hVq] at hEq hT ⊢
              rw [hVq] at hEp
              try rw [hCq]
              clear hCq hVq
              clear hS
              refine hK.out _ _ hT (fun hS => ?_)
              clear hK K hT
              try simp only [A1, A2, A3, Act.put, A4, A5, A6]
              refine wpAnyH_ready (rs := [9]) (by kernel_rfl) (by simp) (AllReadyH.cons rfl (fun K hK => ?_) AllReadyH.nil)
              rw [if_pos (by rfl)]
              refine wp_callF 140 _ _ rfl _ (by kernel_rfl) (by kernel_rfl) (R := Below Vq.heap.size Vq) (HTN.out _) (fun v3 hb3 => ?_)
              have hT := hS.below hb3
              replace hEp := hEp.below hb3 hEp.lt
              replace hEq := hEq.below hb3 hEq.lt
              clear hS
              refine hK.out _ _ hT (fun hS => ?_)
              clear hK K hT
              try simp only [A1, A2, A3, Act.put, A4, A5, A6]
              exact HK.out _ _ ⟨Cp, Cq, by simp only [Act.put, List.setIfInBounds_toArray, List.set_cons_zero, List.set_cons_succ], hS, hEp, hEq, by first | exact Nat.ne_of_lt hNpq | exact (Nat.ne_of_lt hNqp).symm, hLp, hLq⟩
          · go_simp
            obtain ⟨Cq, hCq⟩ : ∃ C, v1.heap.size = C := ⟨_, rfl⟩
            have hEq := BlockIs.new v1 80 (magF (fun _ => 0) 0)
            have hT := hS.alloc (.cells (magF (fun _ => 0) 0) 80)
            have hLq := hS.b3.lt
            rw [hCq] at hEq hLq
            have hNpq : Cp < Cq := by rw [← hCq]; exact hEp.lt
            replace hEp := hEp.alloc (.cells (magF (fun _ => 0) 0) 80)
            obtain ⟨Vq, hVq⟩ : ∃ V, v1.alloc (.cells (magF (fun _ => 0) 0) 80) = V := ⟨_, rfl⟩
            rw [hVq] at hEq hT ⊢
            rw [hVq] at hEp
            try rw [hCq]
            clear hCq hVq
            clear hS
            refine hK.out _ _ hT (fun hS => ?_)
            clear hK K hT
            try simp only [A1, A2, A3, Act.put, A4, A5, A6]
            refine wpAnyH_ready (rs := [8]) (by kernel_rfl) (by simp) (AllReadyH.cons rfl (fun K hK => ?_) AllReadyH.nil)
            rw [if_pos (by rfl)]
            refine wp_callF 143 _ _ rfl _ (by kernel_rfl) (by kernel_rfl) (R := Below Vq.heap.size Vq) (HOW.out _) (fun v2 hb2 => ?_)
            have hT := hS.below hb2
            replace hEp := hEp.below hb2 hEp.lt
            replace hEq := hEq.below hb2 hEq.lt
            clear hS
            refine hK.out _ _ hT (fun hS => ?_)
            clear hK K hT
            try simp only [A1, A2, A3, Act.put, A4, A5, A6]
            refine wpAnyH_ready (rs := [9]) (by kernel_rfl) (by simp) (AllReadyH.cons rfl (fun K hK => ?_) AllReadyH.nil)
            rw [if_pos (by rfl)]
            refine wp_callF 140 _ _ rfl _ (by kernel_rfl) (by kernel_rfl) (R := Below v2.heap.size v2) (HTN.out _) (fun v3 hb3 => ?_)
            have hT := hS.below hb3
            replace hEp := hEp.below hb3 hEp.lt
            replace hEq := hEq.below hb3 hEq.lt
            clear hS
            refine hK.out _ _ hT (fun hS => ?_)
            clear hK K hT
            try simp only [A1, A2, A3, Act.put, A4, A5, A6]
            exact HK.out _ _ ⟨Cp, Cq, by simp only [Act.put, List.setIfInBounds_toArray, List.set_cons_zero, List.set_cons_succ], hS, hEp, hEq, by first | exact Nat.ne_of_lt hNpq | exact (Nat.ne_of_lt hNqp).symm, hLp, hLq⟩
        · go_simp
          obtain ⟨Cq, hCq⟩ : ∃ C, v0.heap.size = C := ⟨_, rfl⟩
          have hEq := BlockIs.new v0 80 (magF (fun _ => 0) 0)
          have hT := hS.alloc (.cells (magF (fun _ => 0) 0) 80)
          have hLq := hS.b3.lt
          rw [hCq] at hEq hLq
          have hNpq : Cp < Cq := by rw [← hCq]; exact hEp.lt
          replace hEp := hEp.alloc (.cells (magF (fun _ => 0) 0) 80)
          obtain ⟨Vq, hVq⟩ : ∃ V, v0.alloc (.cells (magF (fun _ => 0) 0) 80) = V := ⟨_, rfl⟩
          rw [hVq] at hEq hT ⊢
          rw [hVq] at hEp
          try rw [hCq]
          clear hCq hVq
          clear hS
          refine hK.out _ _ hT (fun hS => ?_)
          clear hK K hT
          try simp only [A1, A2, A3, Act.put, A4, A5, A6]
          refine wpAnyH_ready (rs := [4]) (by kernel_rfl) (by simp) (AllReadyH.cons rfl (fun K hK => ?_) AllReadyH.nil)
          rw [if_pos (by rfl)]
          refine wp_callF 140 _ _ rfl _ (by kernel_rfl) (by kernel_rfl) (R := Below Vq.heap.size Vq) (HTM.out _) (fun v1 hb1 => ?_)
          have hT := hS.below hb1
          replace hEp := hEp.below hb1 hEp.lt
          replace hEq := hEq.below hb1 hEq.lt
          clear hS
          refine hK.out _ _ hT (fun hS => ?_)
          clear hK K hT
          try simp only [A1, A2, A3, Act.put, A4, A5, A6]
          refine wpAnyH_ready (rs := [8]) (by kernel_rfl) (by simp) (AllReadyH.cons rfl (fun K hK => ?_) AllReadyH.nil)
          rw [if_pos (by rfl)]
          refine wp_callF 143 _ _ rfl _ (by kernel_rfl) (by kernel_rfl) (R := Below v1.heap.size v1) (HOW.out _) (fun v2 hb2 => ?_)
          have hT := hS.below hb2
          replace hEp := hEp.below hb2 hEp.lt
          replace hEq := hEq.below hb2 hEq.lt
          clear hS
          refine hK.out _ _ hT (fun hS => ?_)
          clear hK K hT
          try simp only [A1, A2, A3, Act.put, A4, A5, A6]
          refine wpAnyH_ready (rs := [9]) (by kernel_rfl) (by simp) (AllReadyH.cons rfl (fun K hK => ?_) AllReadyH.nil)
          rw [if_pos (by rfl)]
          refine wp_callF 140 _ _ rfl _ (by kernel_rfl) (by kernel_rfl) (R := Below v2.heap.size v2) (HTN.out _) (fun v3 hb3 => ?_)
          have hT := hS.below hb3
          replace hEp := hEp.below hb3 hEp.lt
          replace hEq := hEq.below hb3 hEq.lt
          clear hS
          refine hK.out _ _ hT (fun hS => ?_)
          clear hK K hT
          try simp only [A1, A2, A3, Act.put, A4, A5, A6]
          exact HK.out _ _ ⟨Cp, Cq, by simp only [Act.put, List.setIfInBounds_toArray, List.set_cons_zero, List.set_cons_succ], hS, hEp, hEq, by first | exact Nat.ne_of_lt hNpq | exact (Nat.ne_of_lt hNqp).symm, hLp, hLq⟩
      · go_simp
        obtain ⟨Cq, hCq⟩ : ∃ C, Vp.heap.size = C := ⟨_, rfl⟩
        have hEq := BlockIs.new Vp 80 (magF (fun _ => 0) 0)
        have hT := hS.alloc (.cells (magF (fun _ => 0) 0) 80)
        have hLq := hS.b3.lt
        rw [hCq] at hEq hLq
        have hNpq : Cp < Cq := by rw [← hCq]; exact hEp.lt
        replace hEp := hEp.alloc (.cells (magF (fun _ => 0) 0) 80)
        obtain ⟨Vq, hVq⟩ : ∃ V, Vp.alloc (.cells (magF (fun _ => 0) 0) 80) = V := ⟨_, rfl⟩
        rw [hVq] at hEq hT ⊢
        rw [hVq] at hEp
        try rw [hCq]
        clear hCq hVq
        clear hS
        refine hK.out _ _ hT (fun hS => ?_)
        clear hK K hT
        try simp only [A1, A2, A3, Act.put, A4, A5, A6]
        refine wpAnyH_ready (rs := [3]) (by kernel_rfl) (by simp) (AllReadyH.cons rfl (fun K hK => ?_) AllReadyH.nil)
        rw [if_pos (by rfl)]
        refine wp_callF 143 _ _ rfl _ (by kernel_rfl) (by kernel_rfl) (R := Below Vq.heap.size Vq) (HOW.out _) (fun v0 hb0 => ?_)
        have hT := hS.below hb0
        replace hEp := hEp.below hb0 hEp.lt
        replace hEq := hEq.below hb0 hEq.lt
        clear hS
        refine hK.out _ _ hT (fun hS => ?_)
        clear hK K hT
        try simp only [A1, A2, A3, Act.put, A4, A5, A6]
        refine wpAnyH_ready (rs := [4]) (by kernel_rfl) (by simp) (AllReadyH.cons rfl (fun K hK => ?_) AllReadyH.nil)
        rw [if_pos (by rfl)]
        refine wp_callF 140 _ _ rfl _ (by kernel_rfl) (by kernel_rfl) (R := Below v0.heap.size v0) (HTM.out _) (fun v1 hb1 => ?_)
        have hT := hS.below hb1
        replace hEp := hEp.below hb1 hEp.lt
        replace hEq := hEq.below hb1 hEq.lt
        clear hS
        refine hK.out _ _ hT (fun hS => ?_)
        clear hK K hT
        try simp only [A1, A2, A3, Act.put, A4, A5, A6]
        refine wpAnyH_ready (rs := [8]) (by kernel_rfl) (by simp) (AllReadyH.cons rfl (fun K hK => ?_) AllReadyH.nil)
        rw [if_pos (by rfl)]
        refine wp_callF 143 _ _ rfl _ (by kernel_rfl) (by kernel_rfl) (R := Below v1.heap.size v1) (HOW.out _) (fun v2 hb2 => ?_)
        have hT := hS.below hb2
        replace hEp := hEp.below hb2 hEp.lt
        replace hEq := hEq.below hb2 hEq.lt
        clear hS
        refine hK.out _ _ hT (fun hS => ?_)
        clear hK K hT
        try simp only [A1, A2, A3, Act.put, A4, A5, A6]
        refine wpAnyH_ready (rs := [9]) (by kernel_rfl) (by simp) (AllReadyH.cons rfl (fun K hK => ?_) AllReadyH.nil)
        rw [if_pos (by rfl)]
        refine wp_callF 140 _ _ rfl _ (by kernel_rfl) (by kernel_rfl) (R := Below v2.heap.size v2) (HTN.out _) (fun v3 hb3 => ?_)
        have hT := hS.below hb3
        replace hEp := hEp.below hb3 hEp.lt
        replace hEq := hEq.below hb3 hEq.lt
        clear hS
        refine hK.out _ _ hT (fun hS => ?_)
        clear hK K hT
        try simp only [A1, A2, A3, Act.put, A4, A5, A6]
        exact HK.out _ _ ⟨Cp, Cq, by simp only [Act.put, List.setIfInBounds_toArray, List.set_cons_zero, List.set_cons_succ], hS, hEp, hEq, by first | exact Nat.ne_of_lt hNpq | exact (Nat.ne_of_lt hNqp).symm, hLp, hLq⟩
    · go_simp
      obtain ⟨Cq, hCq⟩ : ∃ C, wd.heap.size = C := ⟨_, rfl⟩
      have hEq := BlockIs.new wd 80 (magF (fun _ => 0) 0)
      have hT := hS.alloc (.cells (magF (fun _ => 0) 0) 80)
      have hLq := hS.b3.lt
      rw [hCq] at hEq hLq
      obtain ⟨Vq, hVq⟩ : ∃ V, wd.alloc (.cells (magF (fun _ => 0) 0) 80) = V := ⟨_, rfl⟩
      rw [hVq] at hEq hT ⊢
      try rw [hCq]
      clear hCq hVq
      clear hS
      refine hK.out _ _ hT (fun hS => ?_)
      clear hK K hT
      try simp only [A1, A2, A3, Act.put, A4, A5, A6]
      refine wpAnyH_ready (rs := [3, 10]) (by kernel_rfl) (by simp) (AllReadyH.cons rfl (fun K hK => ?_) (AllReadyH.cons rfl (fun K hK => ?_) AllReadyH.nil))
      · rw [if_pos (by rfl)]
        refine wp_callF 143 _ _ rfl _ (by kernel_rfl) (by kernel_rfl) (R := Below Vq.heap.size Vq) (HOW.out _) (fun v0 hb0 => ?_)
        have hT := hS.below hb0
        replace hEq := hEq.below hb0 hEq.lt
        clear hS
        refine hK.out _ _ hT (fun hS => ?_)
        clear hK K hT
        try simp only [A1, A2, A3, Act.put, A4, A5, A6]
        refine wpAnyH_ready (rs := [4, 10]) (by kernel_rfl) (by simp) (AllReadyH.cons rfl (fun K hK => ?_) (AllReadyH.cons rfl (fun K hK => ?_) AllReadyH.nil))
        · rw [if_pos (by rfl)]
          refine wp_callF 140 _ _ rfl _ (by kernel_rfl) (by kernel_rfl) (R := Below v0.heap.size v0) (HTM.out _) (fun v1 hb1 => ?_)
          have hT := hS.below hb1
          replace hEq := hEq.below hb1 hEq.lt
          clear hS
          refine hK.out _ _ hT (fun hS => ?_)
          clear hK K hT
          try simp only [A1, A2, A3, Act.put, A4, A5, A6]
          refine wpAnyH_ready (rs := [8, 10]) (by kernel_rfl) (by simp) (AllReadyH.cons rfl (fun K hK => ?_) (AllReadyH.cons rfl (fun K hK => ?_) AllReadyH.nil))
          · rw [if_pos (by rfl)]
            refine wp_callF 143 _ _ rfl _ (by kernel_rfl) (by kernel_rfl) (R := Below v1.heap.size v1) (HOW.out _) (fun v2 hb2 => ?_)
            have hT := hS.below hb2
            replace hEq := hEq.below hb2 hEq.lt
            clear hS
            refine hK.out _ _ hT (fun hS => ?_)
            clear hK K hT
            try simp only [A1, A2, A3, Act.put, A4, A5, A6]
            refine wpAnyH_ready (rs := [9, 10]) (by kernel_rfl) (by simp) (AllReadyH.cons rfl (fun K hK => ?_) (AllReadyH.cons rfl (fun K hK => ?_) AllReadyH.nil))
            · rw [if_pos (by rfl)]
              refine wp_callF 140 _ _ rfl _ (by kernel_rfl) (by kernel_rfl) (R := Below v2.heap.size v2) (HTN.out _) (fun v3 hb3 => ?_)
              have hT := hS.below hb3
              replace hEq := hEq.below hb3 hEq.lt
              clear hS
              refine hK.out _ _ hT (fun hS => ?_)
              clear hK K hT
              try simp only [A1, A2, A3, Act.put, A4, A5, A6]
              refine wpAnyH_ready (rs := [10]) (by kernel_rfl) (by simp) (AllReadyH.cons rfl (fun K hK => ?_) AllReadyH.nil)
              go_simp
              obtain ⟨Cp, hCp⟩ : ∃ C, v3.heap.size = C := ⟨_, rfl⟩
              have hEp := BlockIs.new v3 80 (magF (fun _ => 0) 0)
              have hT := hS.alloc (.cells (magF (fun _ => 0) 0) 80)
              have hLp := hS.b3.lt
              rw [hCp] at hEp hLp
              have hNqp : Cq < Cp := by rw [← hCp]; exact hEq.lt
              replace hEq := hEq.alloc (.cells (magF (fun _ => 0) 0) 80)
              obtain ⟨Vp, hVp⟩ : ∃ V, v3.alloc (.cells (magF (fun _ => 0) 0) 80) = V := ⟨_, rfl⟩
              rw [hVp] at hEp hT ⊢
              rw [hVp] at hEq
              try rw [hCp]
              clear hCp hVp
              clear hS
              refine hK.out _ _ hT (fun hS => ?_)
              clear hK K hT
              try simp only [A1, A2, A3, Act.put, A4, A5, A6]
              exact HK.out _ _ ⟨Cp, Cq, by simp only [Act.put, List.setIfInBounds_toArray, List.set_cons_zero, List.set_cons_succ], hS, hEp, hEq, by first | exact Nat.ne_of_lt hNpq | exact (Nat.ne_of_lt hNqp).symm, hLp, hLq⟩
            · go_simp
              obtain ⟨Cp, hCp⟩ : ∃ C, v2.heap.size = C := ⟨_, rfl⟩
              have hEp := BlockIs.new v2 80 (magF (fun _ => 0) 0)
              have hT := hS.alloc (.cells (magF (fun _ => 0) 0) 80)
              have hLp := hS.b3.lt
              rw [hCp] at hEp hLp
              have hNqp : Cq < Cp := by rw [← hCp]; exact hEq.lt
              replace hEq := hEq.alloc (.cells (magF (fun _ => 0) 0) 80)
              obtain ⟨Vp, hVp⟩ : ∃ V, v2.alloc (.cells (magF (fun _ => 0) 0) 80) = V := ⟨_, rfl⟩
              rw [hVp] at hEp hT ⊢
              rw [hVp] at hEq
              try rw [hCp]
              clear hCp hVp
              clear hS
              refine hK.out _ _ hT (fun hS => ?_)
              clear hK K hT
              try simp only [A1, A2, A3, Act.put, A4, A5, A6]
              refine wpAnyH_ready (rs := [9]) (by kernel_rfl) (by simp) (AllReadyH.cons rfl (fun K hK => ?_) AllReadyH.nil)
              rw [if_pos (by rfl)]
              refine wp_callF 140 _ _ rfl _ (by kernel_rfl) (by kernel_rfl) (R := Below Vp.heap.size Vp) (HTN.out _) (fun v3 hb3 => ?_)
              have hT := hS.below hb3
              replace hEq := hEq.below hb3 hEq.lt
              replace hEp := hEp.below hb3 hEp.lt
              clear hS
              refine hK.out _ _ hT (fun hS => ?_)
              clear hK K hT
              try simp only [A1, A2, A3, Act.put, A4, A5, A6]
              exact HK.out _ _ ⟨Cp, Cq, by simp only [Act.put, List.setIfInBounds_toArray, List.set_cons_zero, List.set_cons_succ], hS, hEp, hEq, by first | exact Nat.ne_of_lt hNpq | exact (Nat.ne_of_lt hNqp).symm, hLp, hLq⟩
          · go_simp
            obtain ⟨Cp, hCp⟩ : ∃ C, v1.heap.size = C := ⟨_, rfl⟩
            have hEp := BlockIs.new v1 80 (magF (fun _ => 0) 0)
            have hT := hS.alloc (.cells (magF (fun _ => 0) 0) 80)
            have hLp := hS.b3.lt
            rw [hCp] at hEp hLp
            have hNqp : Cq < Cp := by rw [← hCp]; exact hEq.lt
            replace hEq := hEq.alloc (.cells (magF (fun _ => 0) 0) 80)
            obtain ⟨Vp, hVp⟩ : ∃ V, v1.alloc (.cells (magF (fun _ => 0) 0) 80) = V := ⟨_, rfl⟩
            rw [hVp] at hEp hT ⊢
            rw [hVp] at hEq
            try rw [hCp]
            clear hCp hVp
            clear hS
            refine hK.out _ _ hT (fun hS => ?_)
            clear hK K hT
            try simp only [A1, A2, A3, Act.put, A4, A5, A6]
            refine wpAnyH_ready (rs := [8]) (by kernel_rfl) (by simp) (AllReadyH.cons rfl (fun K hK => ?_) AllReadyH.nil)
            rw [if_pos (by rfl)]
            refine wp_callF 143 _ _ rfl _ (by kernel_rfl) (by kernel_rfl) (R := Below Vp.heap.size Vp) (HOW.out _) (fun v2 hb2 => ?_)
            have hT := hS.below hb2
            replace hEq := hEq.below hb2 hEq.lt
            replace hEp := hEp.below hb2 hEp.lt
            clear hS
            refine hK.out _ _ hT (fun hS => ?_)
            clear hK K hT
            try simp only [A1, A2, A3, Act.put, A4, A5, A6]
            refine wpAnyH_ready (rs := [9]) (by kernel_rfl) (by simp) (AllReadyH.cons rfl (fun K hK => ?_) AllReadyH.nil)
            rw [if_pos (by rfl)]
            refine wp_callF 140 _ _ rfl _ (by kernel_rfl) (by kernel_rfl) (R := Below v2.heap.size v2) (HTN.out _) (fun v3 hb3 => ?_)
            have hT := hS.below hb3
            replace hEq := hEq.below hb3 hEq.lt
            replace hEp := hEp.below hb3 hEp.lt
            clear hS
            refine hK.out _ _ hT (fun hS => ?_)
            clear hK K hT
            try simp only [A1, A2, A3, Act.put, A4, A5, A6]
            exact HK.out _ _ ⟨Cp, Cq, by simp only [Act.put, List.setIfInBounds_toArray, List.set_cons_zero, List.set_cons_succ], hS, hEp, hEq, by first | exact Nat.ne_of_lt hNpq | exact (Nat.ne_of_lt hNqp).symm, hLp, hLq⟩
        · go_simp
          obtain ⟨Cp, hCp⟩ : ∃ C, v0.heap.size = C := ⟨_, rfl⟩
          have hEp := BlockIs.new v0 80 (magF (fun _ => 0) 0)
          have hT := hS.alloc (.cells (magF (fun _ => 0) 0) 80)
          have hLp := hS.b3.lt
          rw [hCp] at hEp hLp
          have hNqp : Cq < Cp := by rw [← hCp]; exact hEq.lt
          replace hEq := hEq.alloc (.cells (magF (fun _ => 0) 0) 80)
          obtain ⟨Vp, hVp⟩ : ∃ V, v0.alloc (.cells (magF (fun _ => 0) 0) 80) = V := ⟨_, rfl⟩
          rw [hVp] at hEp hT ⊢
          rw [hVp] at hEq
          try rw [hCp]
          clear hCp hVp
          clear hS
          refine hK.out _ _ hT (fun hS => ?_)
          clear hK K hT
          try simp only [A1, A2, A3, Act.put, A4, A5, A6]
          refine wpAnyH_ready (rs := [4]) (by kernel_rfl) (by simp) (AllReadyH.cons rfl (fun K hK => ?_) AllReadyH.nil)
          rw [if_pos (by rfl)]
          refine wp_callF 140 _ _ rfl _ (by kernel_rfl) (by kernel_rfl) (R := Below Vp.heap.size Vp) (HTM.out _) (fun v1 hb1 => ?_)
          have hT := hS.below hb1
          replace hEq := hEq.below hb1 hEq.lt
          replace hEp := hEp.below hb1 hEp.lt
          clear hS
          refine hK.out _ _ hT (fun hS => ?_)
          clear hK K hT
          try simp only [A1, A2, A3, Act.put, A4, A5, A6]
          refine wpAnyH_ready (rs := [8]) (by kernel_rfl) (by simp) (AllReadyH.cons rfl (fun K hK => ?_) AllReadyH.nil)
          rw [if_pos (by rfl)]
          refine wp_callF 143 _ _ rfl _ (by kernel_rfl) (by kernel_rfl) (R := Below v1.heap.size v1) (HOW.out _) (fun v2 hb2 => ?_)
          have hT := hS.below hb2
          replace hEq := hEq.below hb2 hEq.lt
          replace hEp := hEp.below hb2 hEp.lt
          clear hS
          refine hK.out _ _ hT (fun hS => ?_)
          clear hK K hT
          try simp only [A1, A2, A3, Act.put, A4, A5, A6]
          refine wpAnyH_ready (rs := [9]) (by kernel_rfl) (by simp) (AllReadyH.cons rfl (fun K hK => ?_) AllReadyH.nil)
          rw [if_pos (by rfl)]
          refine wp_callF 140 _ _ rfl _ (by kernel_rfl) (by kernel_rfl) (R := Below v2.heap.size v2) (HTN.out _) (fun v3 hb3 => ?_)
          have hT := hS.below hb3
          replace hEq := hEq.below hb3 hEq.lt
          replace hEp := hEp.below hb3 hEp.lt
          clear hS
          refine hK.out _ _ hT (fun hS => ?_)
          clear hK K hT
          try simp only [A1, A2, A3, Act.put, A4, A5, A6]
          exact HK.out _ _ ⟨Cp, Cq, by simp only [Act.put, List.setIfInBounds_toArray, List.set_cons_zero, List.set_cons_succ], hS, hEp, hEq, by first | exact Nat.ne_of_lt hNpq | exact (Nat.ne_of_lt hNqp).symm, hLp, hLq⟩
      · go_simp
        obtain ⟨Cp, hCp⟩ : ∃ C, Vq.heap.size = C := ⟨_, rfl⟩
        have hEp := BlockIs.new Vq 80 (magF (fun _ => 0) 0)
        have hT := hS.alloc (.cells (magF (fun _ => 0) 0) 80)
        have hLp := hS.b3.lt
        rw [hCp] at hEp hLp
        have hNqp : Cq < Cp := by rw [← hCp]; exact hEq.lt
        replace hEq := hEq.alloc (.cells (magF (fun _ => 0) 0) 80)
        obtain ⟨Vp, hVp⟩ : ∃ V, Vq.alloc (.cells (magF (fun _ => 0) 0) 80) = V := ⟨_, rfl⟩
        rw [hVp] at hEp hT ⊢
        rw [hVp] at hEq
        try rw [hCp]
        clear hCp hVp
        clear hS
        refine hK.out _ _ hT (fun hS => ?_)
        clear hK K hT
        try simp only [A1, A2, A3, Act.put, A4, A5, A6]
        refine wpAnyH_ready (rs := [3]) (by kernel_rfl) (by simp) (AllReadyH.cons rfl (fun K hK => ?_) AllReadyH.nil)
        rw [if_pos (by rfl)]
        refine wp_callF 143 _ _ rfl _ (by kernel_rfl) (by kernel_rfl) (R := Below Vp.heap.size Vp) (HOW.out _) (fun v0 hb0 => ?_)
        have hT := hS.below hb0
        replace hEq := hEq.below hb0 hEq.lt
        replace hEp := hEp.below hb0 hEp.lt
        clear hS
        refine hK.out _ _ hT (fun hS => ?_)
        clear hK K hT
        try simp only [A1, A2, A3, Act.put, A4, A5, A6]
        refine wpAnyH_ready (rs := [4]) (by kernel_rfl) (by simp) (AllReadyH.cons rfl (fun K hK => ?_) AllReadyH.nil)
        rw [if_pos (by rfl)]
        refine wp_callF 140 _ _ rfl _ (by kernel_rfl) (by kernel_rfl) (R := Below v0.heap.size v0) (HTM.out _) (fun v1 hb1 => ?_)
        have hT := hS.below hb1
        replace hEq := hEq.below hb1 hEq.lt
        replace hEp := hEp.below hb1 hEp.lt
        clear hS
        refine hK.out _ _ hT (fun hS => ?_)
        clear hK K hT
        try simp only [A1, A2, A3, Act.put, A4, A5, A6]
        refine wpAnyH_ready (rs := [8]) (by kernel_rfl) (by simp) (AllReadyH.cons rfl (fun K hK => ?_) AllReadyH.nil)
        rw [if_pos (by rfl)]
        refine wp_callF 143 _ _ rfl _ (by kernel_rfl) (by kernel_rfl) (R := Below v1.heap.size v1) (HOW.out _) (fun v2 hb2 => ?_)
        have hT := hS.below hb2
        replace hEq := hEq.below hb2 hEq.lt
        replace hEp := hEp.below hb2 hEp.lt
        clear hS
        refine hK.out _ _ hT (fun hS => ?_)
        clear hK K hT
        try simp only [A1, A2, A3, Act.put, A4, A5, A6]
        refine wpAnyH_ready (rs := [9]) (by kernel_rfl) (by simp) (AllReadyH.cons rfl (fun K hK => ?_) AllReadyH.nil)
        rw [if_pos (by rfl)]
        refine wp_callF 140 _ _ rfl _ (by kernel_rfl) (by kernel_rfl) (R := Below v2.heap.size v2) (HTN.out _) (fun v3 hb3 => ?_)
        have hT := hS.below hb3
        replace hEq := hEq.below hb3 hEq.lt
        replace hEp := hEp.below hb3 hEp.lt
        clear hS
        refine hK.out _ _ hT (fun hS => ?_)
        clear hK K hT
        try simp only [A1, A2, A3, Act.put, A4, A5, A6]
        exact HK.out _ _ ⟨Cp, Cq, by simp only [Act.put, List.setIfInBounds_toArray, List.set_cons_zero, List.set_cons_succ], hS, hEp, hEq, by first | exact Nat.ne_of_lt hNpq | exact (Nat.ne_of_lt hNqp).symm, hLp, hLq⟩
  case key =>
    clear hS
    rintro a' w1 ⟨Cp, Cq, rfl, hS, hEp, hEq, hpq, hLp, hLq⟩
    try simp only [A1, A2, A3, Act.put, A4, A5, A6]
    refine wpAnyH_ready (rs := [12]) (by kernel_rfl) (by simp) (AllReadyH.cons rfl (fun K hK => ?_) AllReadyH.nil)
    rw [if_pos (by rfl)]
    refine wpM_store1 (.tmp 7) (.tmp 25) rfl (Cp) (f := limb M) (u := len M) rfl rfl hEp ?_
    have hT := hS.row Cp (magF (limb M) (len M)) hLp
    replace hEp := hEp.row (magF (limb M) (len M))
    replace hEq := hEq.rowOther Cp (magF (limb M) (len M)) (Ne.symm hpq)
    clear hS
    refine hK.out _ _ hT (fun hS => ?_)
    clear hK K
    clear hT
    refine wpAnyH_ready (rs := [13]) (by kernel_rfl) (by simp) (AllReadyH.cons rfl (fun K hK => ?_) AllReadyH.nil)
    rw [if_pos (by rfl)]
    refine wpM_store1 (.tmp 8) (.tmp 30) rfl (Cq) (f := limb D) (u := len D) rfl rfl hEq ?_
    have hT := hS.row Cq (magF (limb D) (len D)) hLq
    replace hEp := hEp.rowOther Cq (magF (limb D) (len D)) hpq
    replace hEq := hEq.row (magF (limb D) (len D))
    clear hS
    refine hK.out _ _ hT (fun hS => ?_)
    clear hK K
    clear hT
    refine wpAnyH_done (by kernel_rfl) ?_ _
    have HX := Lib.hid (And.intro hS (And.intro hEp hEq))
    obtain ⟨V, hV⟩ : ∃ V, (w1.setRow Cp (magF (limb M) (len M))).setRow Cq (magF (limb D) (len D)) = V := ⟨_, rfl⟩
    rw [hV] at HX ⊢
    clear hV hS hEp hEq hW
    obtain ⟨E, hE⟩ : ∃ E, V.heap.size = E := ⟨_, rfl⟩
    obtain ⟨U, hU⟩ : ∃ U, V.alloc (.cells (magF (fun _ => 0) 0) 80) = U := ⟨_, rfl⟩
    have HG := Lib.hid (show Lg w B Cp Cq E n (len M) D M (fun _ => 0) 0 U ∧ BlockIs U B 80 (magF (limb m) (len m)) by
      have h3 := HX.out.1.b3.lt
      have hpl := HX.out.2.1.lt
      have hql := HX.out.2.2.lt
      rw [← hU]
      refine ⟨⟨HX.out.1.b1.alloc _, HX.out.1.b2.alloc _, HX.out.1.b3.alloc _, HX.out.2.1.alloc _, HX.out.2.2.alloc _, by rw [← hE]; exact BlockIs.new _ _ _, HX.out.1.bl.alloc (by omega) _, hLp, hLq, by omega, hpq, by omega, by omega⟩, HX.out.1.b0.alloc _⟩)
    have hst := HST0.out
    obtain ⟨d, hd⟩ : ∃ d, len m = len n + d := ⟨len m - len n, by omega⟩
    have cm : U.cell? ⟨B, 30, none⟩ = some (.int .i64 (((len n + d : Nat)) : Int)) := by rw [← hd]; exact (HG.out.2.at 30).trans (magF_used _ _)
    have cn := (HG.out.1.b1.at 30).trans (magF_used _ _)
    have ce := (HG.out.1.e.at 30).trans (magF_used _ _)
    have fe := HG.out.1.e.thawed 30
    have hd28 : len n + d ≤ 29 := by rw [← hd]; exact len_le hm30 hm
    rw [show len m - len n + 1 = d + 1 by omega] at hst
    have HST := Lib.hid hst.2
    clear hst hd HX
    have hne1 := HG.out.1.he
    go_wp2
    have HG2 : Hid (Lg w B Cp Cq E n (len M) D M (fun _ => 0) (d + 1) (U.setCell ⟨E, 30, none⟩ (.int .i64 ((len n : Int) + d - len n + 1)))) := by
      have g := HG.out.1
      have hcd : ((len n : Int) + d - len n + 1) = ((d + 1 : Nat) : Int) := by omega
      exact Lib.hid ⟨g.b1.other _ _ (by simp <;> omega), g.b2.other _ _ (by simp <;> omega), g.b3.other _ _ (by simp <;> omega), g.p.other _ _ g.pe, g.d.other _ _ g.qe, g.e.used hcd, g.bl.setCell (by simp <;> omega) _, g.hp, g.hq, g.he, g.pq, g.pe, g.qe⟩
    clear HG cm cn ce fe hU
    have hsl := HSL.out s hs0 HSM.out
    have hDl : D < pw (len n) := by have := hsl.1; rw [HMD.out.2] at this; exact this
    have hDo : pw (len n - 1) ≤ D := by have := hsl.2; rw [HMD.out.2] at this; exact this
    have HLD := Lib.hid (len_is hDl hDo (by omega) hl30)
    have hMD : M < D * pw (d + 1) := by
      rw [← HMD.out.1, ← HMD.out.2, Nat.mul_right_comm]
      exact Nat.mul_lt_mul_of_pos_right HST.out.1 hs0
    have hquo : M / D = c := by rw [← HCR.out.1]; rw [← HMD.out.1, ← HMD.out.2]; exact Nat.mul_div_mul_right m n hs0
    have hrem : M % D = r0 * s := by rw [← HCR.out.2]; rw [← HMD.out.1, ← HMD.out.2]; exact Nat.mul_mod_mul_right s m n
    have HMM := Lib.hid (Nat.mod_eq_of_lt hMD)
    have HQ := Lib.hid (And.intro hquo hrem)
    have HDB := Lib.hid (And.intro hDl hDo)
    obtain ⟨v, hv⟩ : ∃ v, len M = v := ⟨_, rfl⟩
    rw [hv] at HG2
    rw [← HMM.out, ← mixG_top HST.out.2] at HG2
    clear hsl hDl hDo hMD hquo hrem hv
    go_loopw [10] (fun x wr => ∃ i : Nat, i ≤ d + 1 ∧ x = .int .i64 ((i : Int) - 1) ∧ Hid (Lg w B Cp Cq E n v D (M % (D * pw i)) (mixG c i) (d + 1) wr)) (fun x _ => (intOf x + 1).toNat)
    case atStart => exact ⟨d + 1, by omega, by first | rfl | (congr 1; omega), HG2⟩
    case round =>
      clear HG2
      obtain ⟨i, hi, rfl, HW⟩ := hrel
      by_cases h0 : i = 0
      · subst h0
        rw [mixG_zero, show D * pw 0 = D by simp [pw]] at HW
        have hlc : ∀ k, d + 1 ≤ k → k < 30 → limb c k = 0 := fun k hk _ => limb_big (Nat.lt_of_lt_of_le HST.out.2 (pw_mono hk))
        have hc30 : c < pw 30 := Nat.lt_of_lt_of_le HST.out.2 (pw_mono (by omega))
        have HTC := Lib.hid (fun W => trimmed_any (limb c) (d + 1) (fun k _ => limb_lt c k) hlc (by omega) W)
        rw [val_limb, Nat.mod_eq_of_lt hc30] at HTC
        have hRD : M % D < pw (len n) := Nat.lt_trans (Nat.mod_lt _ (Nat.lt_of_lt_of_le (pw_pos _) HDB.out.2)) HDB.out.1
        have hR30 : M % D < pw 30 := Nat.lt_of_lt_of_le hRD (pw_mono hl30)
        have HTR := Lib.hid (fun W => trimmed_any (limb (M % D)) (len n) (fun k _ => limb_lt _ k) (fun k hk _ => limb_big (Nat.lt_of_lt_of_le hRD (pw_mono hk))) hl30 W)
        rw [val_limb, Nat.mod_eq_of_lt hR30] at HTR
        have HDL := Lib.hid (fun W => divideLimb_any (M % D) s hR30 hs0 hs4 W)
        rw [show M % D / s = r0 by rw [HQ.out.2]; exact Nat.mul_div_cancel _ hs0] at HDL
        have HRD := Lib.hid hRD
        clear hlc hc30 hRD hR30
        go_wp2
        have HFC := Lib.hid HW.out.e.lt
        obtain ⟨F, hF⟩ : ∃ F, wr.heap.size = F := ⟨_, rfl⟩
        obtain ⟨V1, hV1⟩ : ∃ V', wr.alloc (.cells (magF (fun _ => 0) 0) 80) = V' := ⟨_, rfl⟩
        have HV1 := Lib.hid (show Lg w B Cp Cq E n v D (M % D) (limb c) (d + 1) V1 ∧ BlockIs V1 F 80 (magF (fun _ => 0) 0) by
          rw [← hV1, ← hF]; exact ⟨HW.out.alloc _, BlockIs.new _ _ _⟩)
        have hFp : F ≠ Cp := by rw [← hF]; exact Nat.ne_of_gt HW.out.p.lt
        have hFq : F ≠ Cq := by rw [← hF]; exact Nat.ne_of_gt HW.out.d.lt
        have hFe : F ≠ E := by rw [← hF]; exact Nat.ne_of_gt HW.out.e.lt
        have hF3 : B + 3 < F := by rw [← hF]; exact HW.out.b3.lt
        rw [hV1]
        try rw [hF]
        clear hV1 hF
        have hT0 : Lg w B Cp Cq E n v D (M % D) (limb c) (d + 1) V1.drew ∧ BlockIs V1.drew F 80 (magF (fun _ => 0) 0) := ⟨HV1.out.1.drw, HV1.out.2.drew⟩
        refine wp_region_held_drew (S := fun w' => Lg w B Cp Cq E n v D (M % D) (limb c) (d + 1) w' ∧ ∃ f x, BlockIs w' F 80 (magF f x)) (by kernel_rfl) ⟨hT0.1, _, _, hT0.2⟩ (fun hS => ?_)
        obtain ⟨wd, hwd⟩ : ∃ wd, V1.drew = wd := ⟨_, rfl⟩
        rw [hwd] at hS hT0 ⊢
        clear hwd
        refine wpAnyH_take (i := 0) (v := .pointer (some ⟨F, 0, none⟩)) rfl (by kernel_rfl) (by kernel_rfl) (by kernel_rfl) (fun _ _ _ h => h) (Or.inl ⟨by rfl, fun w' _ => by rfl⟩) hS ?_
        try simp only [A1, A2, A3, Act.put, A4, A5, A6]
        refine wpAnyH_take (i := 1) (v := .slice (some ⟨F, 0, none⟩) 30 30) rfl (by kernel_rfl) (by kernel_rfl) (by kernel_rfl) (fun _ _ _ h => h) (Or.inl ⟨by rfl, fun w' h => by go_simp⟩) hS ?_
        try simp only [A1, A2, A3, Act.put, A4, A5, A6]
        refine wpAnyH_take (i := 2) (v := .pointer (some ⟨Cp, 0, none⟩)) rfl (by kernel_rfl) (by kernel_rfl) (by kernel_rfl) (fun _ _ _ h => h) (Or.inl ⟨by rfl, fun w' _ => by rfl⟩) hS ?_
        try simp only [A1, A2, A3, Act.put, A4, A5, A6]
        refine wpAnyH_take (i := 3) (v := .pointer (some ⟨B + 1, 30, none⟩)) rfl (by kernel_rfl) (by kernel_rfl) (by kernel_rfl) (fun _ _ _ h => h) (Or.inl ⟨by rfl, fun w' h => by go_simp⟩) hS ?_
        try simp only [A1, A2, A3, Act.put, A4, A5, A6]
        refine wpAnyH_take (i := 4) (v := .int .i64 (len n)) rfl (by kernel_rfl) (by kernel_rfl) (by kernel_rfl) (fun _ _ _ h => h) (Or.inl ⟨by rfl, fun w' h => by have c := (h.1.b1.at 30).trans (magF_used _ _); go_simp⟩) hS ?_
        try simp only [A1, A2, A3, Act.put, A4, A5, A6]
        refine wpAnyH_take (i := 5) (v := .slice (some ⟨Cp, 0, none⟩) (len n) 30) rfl (by kernel_rfl) (by kernel_rfl) (by kernel_rfl) (fun _ _ _ h => h) (Or.inl ⟨by rfl, fun w' h => by go_simp; rw [run_sliceL Cp (len n) hl30]; rfl⟩) hS ?_
        try simp only [A1, A2, A3, Act.put, A4, A5, A6]
        refine wpAnyH_ready (rs := [6]) (by kernel_rfl) (by simp) (AllReadyH.cons rfl (fun K hK => ?_) AllReadyH.nil)
        rw [if_pos (by rfl)]
        refine wp_copyL (.tmp 70) (.tmp 74) rfl F Cp (len n) (M % D) v rfl rfl hl30 hT0.2 hT0.1.p HRD.out ?_
        have hT1 := And.intro (hT0.1.row F (magF (limb (M % D)) 0) hF3 hFp hFq hFe) (hT0.2.row (magF (limb (M % D)) 0))
        clear hS hT0
        refine hK.out _ _ ⟨hT1.1, _, _, hT1.2⟩ (fun hS => ?_)
        clear hK K
        refine wpAnyH_take (i := 7) (v := .pointer (some ⟨F, 30, none⟩)) rfl (by kernel_rfl) (by kernel_rfl) (by kernel_rfl) (fun _ _ _ h => h) (Or.inl ⟨by rfl, fun w' _ => by rfl⟩) hS ?_
        try simp only [A1, A2, A3, Act.put, A4, A5, A6]
        have cF := (hT1.2.at 30).trans (magF_used _ _)
        have fF := hT1.2.thawed 30
        refine wpAnyH_ready (rs := [8]) (by kernel_rfl) (by simp) (AllReadyH.cons rfl (fun K hK => ?_) AllReadyH.nil)
        go_simp
        have hT2 := And.intro (hT1.1.set F 30 (.int .i64 (len n)) hF3 hFp hFq hFe) (hT1.2.used (x := len n) rfl)
        clear hS hT1 cF fF
        refine hK.out _ _ ⟨hT2.1, _, _, hT2.2⟩ (fun hS => ?_)
        clear hK K hS
        refine wpAnyH_done (by kernel_rfl) ?_ _
        have HT2 := Lib.hid hT2
        obtain ⟨V2, hV2⟩ : ∃ V', (wd.setRow F (magF (limb (M % D)) 0)).setCell ⟨F, 30, none⟩ (.int .i64 (len n)) = V' := ⟨_, rfl⟩
        rw [hV2] at HT2 ⊢
        clear hV2 hT2
        go_wp2_with (first | ((with_reducible refine wpM_load (.tmp 12) F ?_ HT2.out.2 ?_); rfl) | (go_at_call 132; refine (HTR.out _).mono ?_; rintro e w5 ⟨rfl, hb5⟩; have HT3 := Lib.hid (And.intro (HT2.out.1.below hb5) (HT2.out.2.below hb5 HT2.out.2.lt)); clear hb5) | (go_at_call 181; refine (HDL.out _).mono ?_; rintro e w6 ⟨rfl, hb6⟩; have HT4 := Lib.hid (And.intro (HT3.out.1.below hb6) (HT3.out.2.below hb6 HT3.out.2.lt)); clear hb6) | ((with_reducible refine wpM_store (.tmp 12) (.tmp 82) F (f := limb r0) (u := len r0) ?_ ?_ HT4.out.2 ?_); rfl; rfl))
        have hU0 : Lg w B Cp Cq E n v D (M % D) (limb c) (d + 1) (World.setRow w6 F (magF (limb r0) (len r0))).drew ∧ BlockIs (World.setRow w6 F (magF (limb r0) (len r0))).drew F 80 (magF (limb r0) (len r0)) := ⟨(HT4.out.1.row F _ hF3 hFp hFq hFe).drw, (HT4.out.2.row _).drew⟩
        refine wp_region_held_drew (S := fun w' => (∃ f g x y, Lh w B E f g x y (limb c) (d + 1) w') ∧ BlockIs w' F 80 (magF (limb r0) (len r0))) (by kernel_rfl) ⟨⟨_, _, _, _, hU0.1.lh⟩, hU0.2⟩ (fun hS => ?_)
        obtain ⟨we, hwe⟩ : ∃ we, (World.setRow w6 F (magF (limb r0) (len r0))).drew = we := ⟨_, rfl⟩
        rw [hwe] at hS hU0 ⊢
        clear hwe
        refine wpAnyH_take (i := 0) (v := .agg (magF (limb c) (d + 1))) rfl (by kernel_rfl) (by kernel_rfl) (by kernel_rfl) (fun _ _ _ h => h) (yM_load rfl (.tmp 9) rfl E rfl (fun w' ⟨⟨_, _, _, _, h⟩, _⟩ => h.e)) hS ?_
        try simp only [A1, A2, A3, Act.put, A4, A5, A6]
        refine wpAnyH_take (i := 2) (v := .agg (magF (limb r0) (len r0))) rfl (by kernel_rfl) (by kernel_rfl) (by kernel_rfl) (fun _ _ _ h => h) (yM_load rfl (.tmp 12) rfl F rfl (fun w' h => h.2)) hS ?_
        try simp only [A1, A2, A3, Act.put, A4, A5, A6]
        have hX0 := hU0.1.lh
        refine wpAnyH_ready (rs := [1]) (by kernel_rfl) (by simp) (AllReadyH.cons rfl (fun K hK => ?_) AllReadyH.nil)
        go_simp
        go_at_call 132
        refine (HTC.out _).mono ?_
        rintro e w7 ⟨rfl, hb7⟩
        have hX1 := hX0.below hb7
        have hY1 := hU0.2.below hb7 hU0.2.lt
        clear hX0 hU0
        clear hS
        refine hK.out _ _ ⟨⟨_, _, _, _, hX1⟩, hY1⟩ (fun hS => ?_)
        clear hK K
        try simp only [A1, A2, A3, Act.put, A4, A5, A6]
        refine wpAnyH_ready (rs := [3]) (by kernel_rfl) (by simp) (AllReadyH.cons rfl (fun K hK => ?_) AllReadyH.nil)
        rw [if_pos (by rfl)]
        refine wpM_store1 (.tmp 4) (.tmp 85) rfl (B + 2) (f := limb c) (u := len c) rfl rfl hX1.b2 ?_
        have hX2 := hX1.set2 (limb c) (len c)
        have hY2 := hY1.rowOther (B + 2) (magF (limb c) (len c)) (by omega)
        clear hX1 hY1
        clear hS
        refine hK.out _ _ ⟨⟨_, _, _, _, hX2⟩, hY2⟩ (fun hS => ?_)
        clear hK K
        refine wpAnyH_ready (rs := [4]) (by kernel_rfl) (by simp) (AllReadyH.cons rfl (fun K hK => ?_) AllReadyH.nil)
        rw [if_pos (by rfl)]
        refine wpM_store1 (.tmp 5) (.tmp 86) rfl (B + 3) (f := limb r0) (u := len r0) rfl rfl hX2.b3 ?_
        have hX3 := hX2.set3 (limb r0) (len r0)
        have hY3 := hY2.rowOther (B + 3) (magF (limb r0) (len r0)) (by omega)
        clear hX2 hY2
        clear hS
        refine hK.out _ _ ⟨⟨_, _, _, _, hX3⟩, hY3⟩ (fun hS => ?_)
        clear hK K
        clear hS
        refine wpAnyH_done (by kernel_rfl) ?_ _
        go_wp2
        exact bodyPost_ret (retMM rfl _ _ (B + 2) (B + 3) rfl rfl hX3.b2 hX3.b3) rfl ⟨rfl, hB ▸ hX3.bl⟩
      · obtain ⟨j, rfl⟩ : ∃ j, i = j + 1 := ⟨i - 1, by omega⟩
        have hj : ((j + 1 : Nat) : Int) - 1 = j := by omega
        rw [hj]
        have hest : Est (M % (D * pw (j + 1))) D j (len n) := ⟨HDB.out.1, HDB.out.2, hl, by omega, Nat.mod_lt _ (Nat.mul_pos (Nat.lt_of_lt_of_le (pw_pos _) HDB.out.2) (pw_pos _))⟩
        have hdig : M % (D * pw (j + 1)) / (D * pw j) = limb c j := by rw [digit_next, HQ.out.1]
        have HR := Lib.hid (rest_next M D j)
        have HE := Lib.hid hest
        have HDG := Lib.hid hdig
        have HES := Lib.hid (fun W (hG : BlockIs W Cp 80 (magF (limb (M % (D * pw (j + 1)))) v)) => by
          have := estimate_any (M % (D * pw (j + 1))) D j (len n - 2) (by rw [Nat.sub_add_cancel hl]; exact hest) (by rw [Nat.sub_add_cancel hl]; exact HLD.out) v Cp W hG
          rw [hdig] at this; exact this)
        clear hest hdig
        go_wp2_with ((with_reducible refine wpM_load (.tmp 8) Cq ?_ HW.out.d ?_); rfl)
        refine (HES.out _ HW.out.p).mono ?_
        rintro e w2 ⟨g, hg9, hq1, hq2, rfl, hb⟩
        have HW2 := Lib.hid (HW.out.below hb)
        have HSU := Lib.hid (fun W (hG : BlockIs W Cp 80 (magF (limb (M % (D * pw (j + 1)))) v)) => subtract_any (M % (D * pw (j + 1))) D j (len n) g v Cp HE.out HLD.out hg9 (by rw [HDG.out]; exact hq1) (by rw [HDG.out]; exact hq2) W hG)
        have HQQ := Lib.hid (And.intro hq1 hq2)
        clear HW HES hb hq1 hq2
        by_cases hg0 : g = 0
        · subst hg0
          have hq0 : limb c j = 0 := by have := HQQ.out.1; omega
          have hlt : M % (D * pw (j + 1)) < D * pw j := by
            have := HDG.out
            rw [hq0] at this
            exact (Nat.div_eq_zero_iff_lt HE.out.pos).1 this
          have hrr : M % (D * pw (j + 1)) = M % (D * pw j) := by rw [← HR.out, Nat.mod_eq_of_lt hlt]
          rw [hrr] at HW2
          have ce := (HW2.out.e.at j).trans (magF_get _ _ (by omega))
          have fe := HW2.out.e.thawed j
          have H0 := Lib.hid hq0
          clear hq0 hlt hrr
          go_wp2_with fail
          go_roundw
          case rel =>
            refine ⟨j, by omega, by first | rfl | (congr 1; omega), ?_⟩
            rw [← mixG_next]
            exact HW2.out.limb (by omega) (by rw [H0.out]; rfl)
          case measure => simp [intOf] <;> omega
        · have hgp : 0 < g := by omega
          have b1 : decide ((0 : Int) < g) = true := by simp; omega
          go_wp2_with (first | ((with_reducible refine wpM_load (.tmp 8) Cq ?_ HW2.out.d ?_); rfl) | ((with_reducible refine wpM_loadG (.tmp 8) Cq ?_ ?_ HW2.out.d ?_); rfl; rfl))
          refine (HSU.out _ HW2.out.p).mono ?_
          rintro e w3 (⟨hdq, rfl, hrow, hbut⟩ | ⟨hdq, rfl, ⟨X, hX, hXv, hrow⟩, hbut⟩)
          · rw [HR.out] at hrow
            have HW3 := Lib.hid (HW2.out.but hbut hrow)
            have HDQ := Lib.hid (show g = limb c j by rw [hdq, HDG.out])
            have ce := (HW3.out.e.at j).trans (magF_get _ _ (by omega))
            have fe := HW3.out.e.thawed j
            clear hdq hrow hbut
            go_wp2_with fail
            go_roundw
            case rel =>
              refine ⟨j, by omega, by first | rfl | (congr 1; omega), ?_⟩
              rw [← mixG_next]
              exact HW3.out.limb (by omega) (by rw [HDQ.out])
            case measure => simp [intOf] <;> omega
          · have HW3 := Lib.hid (HW2.out.but hbut hrow)
            have HDQ := Lib.hid (show g = limb c j + 1 by rw [hdq, HDG.out])
            have HRE := Lib.hid (fun W (hG : BlockIs W Cp 80 (magF (limb X) v)) => restore_any (M % (D * pw (j + 1))) D j (len n) v Cp X HE.out HLD.out hX hXv W hG)
            clear hdq hrow hbut hX hXv
            go_wp2_with ((with_reducible refine wpM_load (.tmp 8) Cq ?_ HW3.out.d ?_); rfl)
            refine (HRE.out _ HW3.out.p).mono ?_
            rintro e w4 ⟨rfl, hrow, hbut⟩
            rw [HR.out] at hrow
            have HW4 := Lib.hid (HW3.out.but hbut hrow)
            have ce := (HW4.out.e.at j).trans (magF_get _ _ (by omega))
            have fe := HW4.out.e.thawed j
            clear hrow hbut
            go_wp2_with fail
            go_roundw
            case rel =>
              refine ⟨j, by omega, by first | rfl | (congr 1; omega), ?_⟩
              rw [← mixG_next]
              exact HW4.out.limb (by omega) (by rw [HDQ.out]; omega)
            case measure => simp [intOf] <;> omega
end Go.Proofs.YtjemolaobhlapaaGreatDoor
