/- text. -/
import Derived.Laws.MakeOwn
import Derived.Laws.EntriesVeiled
import Derived.Laws.IdiomStrings
import Derived.Test.YtjemolaobhlapaaGreatDoorN17
set_option linter.unusedSimpArgs false
set_option linter.unusedVariables false
namespace Go.Proofs.YtjemolaobhlapaaGreatDoor
open Go.RowKit Go.Shelf
set_option maxRecDepth 100000

attribute [local go_sem] Oper.semAt_some

theorem row_cell {w : World} {base n g size cap : Nat} {e : TypeId} {xs : List Value} (h : w.ownsRow base e size (.slice (some ⟨g, 0, none⟩) n cap) n xs) {i : Nat} {v : Value} (hv : xs[i]? = some v) : w.cell? ⟨g, i, none⟩ = some v := by
  rcases h.2 with ⟨h, _⟩ | ⟨g', cap', cur, h, _, hg, _, _, _, ht⟩
  · cases h
  · cases h
    have hh : w.heap[g]? = some (.cells cur e (0, 0)) := hg
    unfold World.cell?
    rw [hh]
    rw [← ht] at hv
    have : cur.toList[i]? = some v := by
      rw [List.getElem?_take] at hv
      split at hv
      · exact hv
      · cases hv
    simpa using this

theorem row_shape {w : World} {base n size : Nat} {e : TypeId} {v : Value} {xs : List Value} (h : w.ownsRow base e size v n xs) : (v = .slice none 0 0 ∧ n = 0) ∨ ∃ g cap, v = .slice (some ⟨g, 0, none⟩) n cap ∧ g < w.heap.size := by
  rcases h.2 with h | ⟨g, cap, cur, rfl, _, hg, _⟩
  · exact .inl h
  · exact .inr ⟨g, cap, rfl, (Array.getElem?_eq_some_iff.1 hg).1⟩
def bs (l : List UInt8) : ByteArray := ⟨l.toArray⟩
theorem conv_row {W : World} {N : Nat} {v : Value} {l : List UInt8} (hr : W.ownsRow N 5 1 v l.length (Lib.byteCells l)) (hl : 0 < l.length) :
    ∃ o cap, v = .slice o l.length cap ∧ (convert 142 9 v).run Tryz.prog W = .ok (.string (bs l)) W := by
  rcases row_shape hr with ⟨rfl, h0⟩ | ⟨g, cap, rfl, _⟩
  · omega
  · refine ⟨_, _, rfl, run_convert_bytes_back (P := Tryz.prog) W 142 9 5 ⟨g, 0, none⟩ cap l Tryz.underlying142 Tryz.underlying5 Tryz.underlying9 ?_⟩
    intro j hj
    have hadd : (⟨g, 0, none⟩ : Addr).add j = ⟨g, j, none⟩ := by unfold Addr.add; split <;> simp_all
    rw [hadd]
    exact row_cell hr (by simp [Lib.byteCells, hj])
/-- The numeral of an integer. -/
def numeral (s : Bool) (n : Nat) : List UInt8 := (if s then [45] else []) ++ Lib.decDigits n
theorem dec_len {n : Nat} (h : n < pw 30) : (Lib.decDigits n).length ≤ 270 := by rw [Lib.decDigits_length]; exact nDigits_le h
theorem Writes.kept {N Bw : Nat} {l : List UInt8} {W W' : World} {row : Option Nat} (h : Writes N Bw l W) (hg : W.grownBy W' row) (hr : ∀ r, row = some r → ∃ o : Obj, W.heap[r]? = some o ∧ o.isCells = false) : Writes N Bw l W' := by
  obtain ⟨v, h1, h2⟩ := h
  exact (holdsRow_own N Bw 184 5 1 (fun _ : Unit => l.length) (fun _ => Lib.byteCells l) (fun _ _ => True)) () W W' row ⟨v, h1, h2, trivial⟩ hg hr |>.imp fun v h => ⟨h.1, h.2.1⟩

def putV (Bw : Nat) : Value := .func (.func 179) #[.pointer (some ⟨Bw, 0, none⟩)] #[]
theorem text_start {w w1 : World} {B : Nat} {cs : Array Value} (h : BlockIs w1 B 82 cs) (hb : Below B w w1) {mc : Array Value} {D : Nat} (hmc : mc.size = (D + 1) * 1) (hD : D ≤ 270) {Bs : Nat} (hBs : w1.heap.size = Bs) {W3 : World}
    (hW3 : ((w1.alloc (.cells mc 5)).alloc (.cells #[.slice (some ⟨Bs, 0, none⟩) 0 (D + 1)] 184)).alloc (.cells #[putV (Bs + 1)] 185) = W3) :
    BlockIs W3 B 82 cs ∧ Writes Bs (Bs + 1) [] W3 ∧ Boxed W3 (Bs + 2) 185 (putV (Bs + 1)) ∧ Below B w W3 ∧ W3.heap.size = Bs + 3 := by
  have hlt := h.lt
  rw [← hW3]
  refine ⟨((h.alloc _).alloc _).alloc _, ⟨.slice (some ⟨Bs, 0, none⟩) 0 (D + 1), ?_, ?_⟩, ?_, ((hb.alloc (by omega) _).alloc (by simp; omega) _).alloc (by simp; omega) _, by simp [hBs]⟩
  · have := (Boxed.new (w1.alloc (.cells mc 5)) 184 (.slice (some ⟨Bs, 0, none⟩) 0 (D + 1))).alloc (.cells #[putV (Bs + 1)] 185)
    rwa [World.size_alloc, hBs] at this
  · have := World.ownsRow_made (base := Bs) (e := 5) (size := 1) w1 mc (D + 1) (by omega) (by simp [maxLen]; omega) hmc
    rw [hBs] at this
    exact (this.alloc _).alloc _
  · have := Boxed.new ((w1.alloc (.cells mc 5)).alloc (.cells #[.slice (some ⟨Bs, 0, none⟩) 0 (D + 1)] 184)) 185 (putV (Bs + 1))
    rwa [World.size_alloc, World.size_alloc, hBs] at this

/-- What text keeps: its box, its writer, its function. -/
def TextAt (w : World) (B Bs : Nat) (cs : Array Value) (l : List UInt8) (W : World) : Prop :=
  BlockIs W B 82 cs ∧ Writes Bs (Bs + 1) l W ∧ Boxed W (Bs + 2) 185 (putV (Bs + 1)) ∧ Below B w W ∧ Bs + 3 ≤ W.heap.size ∧ B < Bs
theorem TextAt.put {w : World} {B Bs : Nat} {cs : Array Value} {l l' : List UInt8} {W W' : World} (h : TextAt w B Bs cs l W) (hw : Writes Bs (Bs + 1) l' W') (hb : Below Bs W W') (hk : KpW (Bs + 1) W W') : TextAt w B Bs cs l' W' := by
  obtain ⟨h1, _, h3, h4, h5, h6⟩ := h
  exact ⟨hk.cells B _ _ _ h1 (by omega) (by decide), hw, hk.cells (Bs + 2) _ _ _ h3 (by omega) (by decide), h4.trans (hb.mono (by omega)), Nat.le_trans h5 hk.size, h6⟩

theorem TextAt.own {w : World} {B Bs D : Nat} {cs : Array Value} {l0 : List UInt8} (hB : B ≤ w.heap.size) (hD : B ≤ D) : OwnFrom D (fun (pre : List UInt8) W => TextAt w B Bs cs (l0 ++ pre) W) := by
  rintro s W W' row ⟨h1, h2, h3, h4, h5, h6⟩ hg hr
  have hr' : ∀ r, row = some r → ∃ o : Obj, W.heap[r]? = some o ∧ o.isCells = false := fun r e => (hr r e).2
  exact ⟨(grownBy_keeps_cells hg hr' h1 rfl).trans h1, h2.kept hg hr', (grownBy_keeps_cells hg hr' h3 rfl).trans h3, ownFrom_below (β := Unit) hB hD () W W' row h4 hg hr, Nat.le_trans h5 hg.size, h6⟩
theorem TextAt.alloc {w : World} {B Bs : Nat} {cs : Array Value} {l : List UInt8} {W : World} (h : TextAt w B Bs cs l W) (o : Obj) : TextAt w B Bs cs l (W.alloc o) := by
  obtain ⟨h1, ⟨v, h2, h2'⟩, h3, h4, h5, h6⟩ := h
  exact ⟨h1.alloc _, ⟨v, h2.alloc _, h2'.alloc _⟩, h3.alloc _, h4.alloc (by omega) _, by rw [World.size_alloc]; omega, h6⟩
theorem loop_kp {Bs Bm n : Nat} (hBm : Bs + 3 ≤ Bm) (A C : World) (h : KpW (Bs + 1) A C) (hb : BlockIs A Bm 80 (mag n)) : BlockIs C Bm 80 (mag n) :=
  h.cells Bm _ _ _ hb (by omega) (by decide)

set_option maxHeartbeats 4000000 in
theorem text_any (s : Bool) (n : Nat) (hn : n < pw 30) (w : World) :
    Calls Tryz.prog 134 #[.agg (sig s n)] w fun e w' => e = .returned (.string (bs (numeral s n))) ∧ Below w.heap.size w w' := by
  obtain ⟨i0, hi, hz0, hz1, hz2⟩ := info_parts infoU8
  have HI := Lib.hid (And.intro hi (And.intro hz0 (And.intro hz1 hz2)))
  have HSZ := Lib.hid (fun W => size_any n hn W)
  obtain ⟨D, hD⟩ : ∃ D, Lib.nDigits n = D := ⟨_, rfl⟩
  have hDl : D ≤ 270 := by rw [← hD]; exact nDigits_le hn
  rw [hD] at HSZ
  have HDD := Lib.hid (show (Lib.decDigits n).length = D by rw [Lib.decDigits_length]; exact hD)
  clear hi hz0 hz1 hz2 hD
  have HDG := Lib.hid (fun (Bs : Nat) (W : World) (h : Writes Bs (Bs + 1) [] W) => show Calls Tryz.prog 179 #[.pointer (some ⟨Bs + 1, 0, none⟩), .int .u8 45] W _ from digit_any Bs (Bs + 1) [] 45 W (by omega) (by simp) h)
  obtain ⟨B, hB⟩ : ∃ B, w.heap.size = B := ⟨_, rfl⟩
  have hb0 : BlockIs (w.alloc (.cells (sig s n) 82)) w.heap.size 82 (sigF (limb n) (len n) s) := BlockIs.new w _ _
  have hl0 : Below w.heap.size w (w.alloc (.cells (sig s n) 82)) := (Below.refl _ _).alloc (Nat.le_refl _) _
  obtain ⟨W, hW⟩ : ∃ W, w.alloc (.cells (sig s n) 82) = W := ⟨_, rfl⟩
  rw [hW] at hb0 hl0
  rw [hB] at hb0 hl0
  have HB0 := Lib.hid (And.intro hb0 hl0)
  clear hb0 hl0
  cases s
  all_goals
   refine (callsIn_wide (n := 5)).1 ?_
   refine callsIn_of_wp_marks Tryz.func134 rfl trivial ?_ rfl
   simp only [Tryz.ntmps134, List.size_toArray, List.length_cons, List.length_nil, Nat.reduceAdd, Nat.reduceSub, Array.replicate_succ, Array.replicate_zero, List.push_toArray, List.append_toArray, List.nil_append, List.cons_append]
   gi_wp2_with (first | ((with_reducible refine wpInSM_load (.tmp 6) B ?_ HB0.out.1 ?_); rfl) | (refine ⟨trivial, ?_⟩; gi_at_call 91; refine (callsIn_wide.2 (HSZ.out _)).mono ?_; rintro e w1 ⟨rfl, hb1⟩; have HB1 := Lib.hid (And.intro (HB0.out.1.below hb1 HB0.out.1.lt) (HB0.out.2.trans (hb1.mono (by have := HB0.out.1.lt; omega)))); obtain ⟨Bs, hBs⟩ : ∃ Bs, w1.heap.size = Bs := ⟨_, rfl⟩; obtain ⟨mc, hmc⟩ : ∃ mc, madeCells (Value.int .u8 0).cells ((D + 1) * i0.size) = mc := ⟨_, rfl⟩; have hmk : (Instr.makeSlice 142 (.int .i64 0) (.int .i64 ((D : Int) + 1))).run Tryz.prog w1 = .ok (.slice (some ⟨Bs, 0, none⟩) 0 (D + 1)) (w1.alloc (.cells mc 5)) := (run_makeSlice (P := Tryz.prog) w1 142 5 i0 (.int .u8 0) Tryz.underlying142 HI.out.1 HI.out.2.1 .i64 .i64 0 ((D : Int) + 1) (by omega) (by omega) (by rw [HI.out.2.2.1]; omega) (by rw [HI.out.2.2.2]; omega) (by omega)).trans (by rw [hBs, ← hmc]; rfl); obtain ⟨W3, hW3⟩ : ∃ W3, ((w1.alloc (.cells mc 5)).alloc (.cells #[.slice (some ⟨Bs, 0, none⟩) 0 (D + 1)] 184)).alloc (.cells #[putV (Bs + 1)] 185) = W3 := ⟨_, rfl⟩; have HW3 := Lib.hid (text_start HB1.out.1 HB1.out.2 (by rw [← hmc, size_madeCells, HI.out.2.2.1]) hDl hBs hW3); have c31 := sig_neg HW3.out.1; have cF : W3.cell? ⟨Bs + 1 + 1, 0, none⟩ = some (putV (Bs + 1)) := HW3.out.2.2.1.cell; unfold putV at hW3 cF; clear hb1 hW hmc; have HT0 := Lib.hid (show TextAt w B Bs (sigF (limb n) (len n) _) [] W3 from ⟨HW3.out.1, HW3.out.2.1, HW3.out.2.2.1, HW3.out.2.2.2.1, by rw [HW3.out.2.2.2.2]; omega, by rw [← hBs]; exact HB1.out.1.lt⟩); have HQ0 := Lib.hid (show BlockIs W3 B 82 (sigF (limb n) (len n) _) from HT0.out.1)) | ((with_reducible refine wpInSM_load (.tmp 17) B ?_ HQ.out ?_); rfl) | ((with_reducible refine wpInSM_load (.tmp 17) B ?_ HQ0.out ?_); rfl) | (refine ⟨trivial, ?_⟩; gi_at_call 180; refine (callsIn_wide.2 (digits_any n _)).mono ?_; rintro e w5 ⟨rfl, rfl⟩) | (refine ⟨trivial, ?_⟩; gi_at_call 179; refine (callsIn_wide.2 (HDG.out Bs _ HT0.out.2.1)).mono ?_; rintro e w4 ⟨rfl, hw4, _, hb4, hk4⟩; have HT := Lib.hid (HT0.out.put hw4 hb4 hk4); have HQ := Lib.hid (show BlockIs w4 B 82 (sigF (limb n) (len n) _) from HT.out.1); clear hw4 hb4 hk4))
   try clear c31 cF hW3
  · have hm := @HT0
    obtain ⟨Bm, hBm⟩ : ∃ Bm, W3.heap.size = Bm := ⟨_, rfl⟩
    have hBm3 : Bs + 3 ≤ Bm := by rw [← hBm]; exact HT0.out.2.2.2.2.1
    have hBsB : B ≤ Bs := by have : B < Bs := HT0.out.2.2.2.2.2; omega
    have hT5 := HT0.out.alloc (.cells (mag n) 80)
    have hE5 : BlockIs (W3.alloc (.cells (mag n) 80)) Bm 80 (mag n) := by rw [← hBm]; exact BlockIs.new _ _ _
    have hz5 : (W3.alloc (.cells (mag n) 80)).heap.size = Bm + 1 := by rw [World.size_alloc, hBm]
    rw [hBm]
    obtain ⟨W5, hW5⟩ : ∃ W5, W3.alloc (.cells (mag n) 80) = W5 := ⟨_, rfl⟩
    rw [hW5] at hT5 hE5 hz5 ⊢
    obtain ⟨l0, hl0⟩ : ∃ l0 : List UInt8, [] = l0 := ⟨_, rfl⟩
    have hl1 : l0.length ≤ 1 := by rw [← hl0]; simp
    have HNM := Lib.hid (show numeral false n = l0 ++ Lib.decDigits n by rw [← hl0]; rfl)
    rw [hl0] at hT5
    have HT5 := Lib.hid hT5
    have HE5 := Lib.hid hE5
    have HZ5 := Lib.hid hz5
    have hdl := dec_len hn
    have hBw : B ≤ w.heap.size := by omega
    clear hW5 hl0 hT5 hE5 hm hz5
    refine wpIn_rangeFunc_ownG rfl (by omega) (gf := 193) (lb := #[.pointer (some ⟨Bm, 0, none⟩)]) rfl trivial (enters_of Tryz.func193 (by kernel_rfl) rfl)
      (digits_stops 4 (by omega) n Bm hn (KpW (Bs + 1)) (loop_kp hBm3) W5 HE5.out) KpW.trans (fun W l o o' => KpW.putObj W l o o') (Below.refl _ _) (fun _ => rfl)
      (fun pre W => TextAt w B Bs (sigF (limb n) (len n) false) (l0 ++ pre) W) (fun _ _ _ => False) (TextAt.own hBw (by rw [HZ5.out]; omega)) (fun _ _ _ _ _ h _ _ => h.elim) (by rw [List.append_nil]; exact HT5.out)
      (fun x => { tmps := #[.agg (sig false n), .pointer (some ⟨B, 0, none⟩), .string ⟨#[]⟩, .pointer (some ⟨Bs + 1, 0, none⟩), .pointer (some ⟨Bs + 1 + 1, 0, none⟩), .int .u8 (x.toNat : Int), .pointer (some ⟨B, 0, none⟩), .agg (magF (limb n) (len n)), .int .i64 D, .int .i64 ((D : Int) + 1), .slice (some ⟨Bs, 0, none⟩) 0 (D + 1), .agg #[.slice (some ⟨Bs, 0, none⟩) 0 (D + 1)], Value.func (.func 179) #[.pointer (some ⟨Bs + 1, 0, none⟩)] #[], .pointer (some ⟨B, 31, none⟩), .bool false, undef, undef, .pointer (some ⟨B, 0, none⟩), .agg (magF (limb n) (len n)), .func (.func 193) #[] #[.pointer (some ⟨Bm, 0, none⟩)], .int .u8 (x.toNat : Int), undef, undef, undef, undef, undef, undef], defers := [] }) ?assign ?body ?done ?stop
    case assign =>
      intro l x W K hK
      dsimp only [encB]
      gi_wp2
      exact hK
    case body =>
      rintro l pre x W hT hlt
      have cF2 : W.cell? ⟨Bs + 1 + 1, 0, none⟩ = some (putV (Bs + 1)) := hT.2.2.1.cell
      unfold putV at cF2
      have HTT := Lib.hid hT
      have HDX := Lib.hid (digit_any Bs (Bs + 1) (l0 ++ pre) x W (by omega) (by rw [List.length_append]; omega) hT.2.1)
      clear hT
      gi_wp2_with (refine ⟨trivial, ?_⟩; gi_at_call 179; refine (CallsIn.inRound l (callsIn_wide.2 HDX.out)).mono ?_; rintro e W' ⟨rfl, hw, hk, hb, hkp⟩)
      exact ⟨hk.from _, hkp, by show TextAt w B Bs _ (l0 ++ (pre ++ [x])) W'; rw [← List.append_assoc]; exact HTT.out.put hw hb hkp⟩
    case done =>
      rintro Dd ys W hDd rfl hT hK
      obtain ⟨h1, ⟨v, hv, hr⟩, h3, h4, h5, h6⟩ := hT
      obtain ⟨o, cap, rfl, hcv⟩ := conv_row hr (by rw [List.length_append]; have := dec_pos n; omega)
      have hc0 := hv.cell
      obtain ⟨L, hL⟩ : ∃ L, (l0 ++ Lib.decDigits n).length = L := ⟨_, rfl⟩
      rw [hL] at hcv hc0
      have HL := Lib.hid hL
      clear hL
      have HK := Lib.hid hK
      have HB4 := Lib.hid h4
      have hDd2 : Bm + 1 ≤ Dd := by rw [← HZ5.out]; exact hDd
      clear hK hv hr h4
      gi_wp2
      refine ⟨by simp, .inl ⟨_, _, rfl, run_takeDeferred HK.out, ?_⟩⟩
      exact ⟨_, results_tmp rfl _ _ _, by rw [HNM.out]; rfl, hB ▸ HB4.out.trans (belowK_b (w := W5) (by rw [HZ5.out]; omega) W Dd _ _ (by rw [HZ5.out]; omega) HK.out rfl rfl)⟩
    case stop =>
      rintro Dd c pre W _ _ h _
      exact h.elim
  · have hm := @HT
    obtain ⟨Bm, hBm⟩ : ∃ Bm, w4.heap.size = Bm := ⟨_, rfl⟩
    have hBm3 : Bs + 3 ≤ Bm := by rw [← hBm]; exact HT.out.2.2.2.2.1
    have hBsB : B ≤ Bs := by have : B < Bs := HT.out.2.2.2.2.2; omega
    have hT5 := HT.out.alloc (.cells (mag n) 80)
    have hE5 : BlockIs (w4.alloc (.cells (mag n) 80)) Bm 80 (mag n) := by rw [← hBm]; exact BlockIs.new _ _ _
    have hz5 : (w4.alloc (.cells (mag n) 80)).heap.size = Bm + 1 := by rw [World.size_alloc, hBm]
    rw [hBm]
    obtain ⟨W5, hW5⟩ : ∃ W5, w4.alloc (.cells (mag n) 80) = W5 := ⟨_, rfl⟩
    rw [hW5] at hT5 hE5 hz5 ⊢
    obtain ⟨l0, hl0⟩ : ∃ l0 : List UInt8, ([] ++ [45]) = l0 := ⟨_, rfl⟩
    have hl1 : l0.length ≤ 1 := by rw [← hl0]; simp
    have HNM := Lib.hid (show numeral true n = l0 ++ Lib.decDigits n by rw [← hl0]; rfl)
    rw [hl0] at hT5
    have HT5 := Lib.hid hT5
    have HE5 := Lib.hid hE5
    have HZ5 := Lib.hid hz5
    have hdl := dec_len hn
    have hBw : B ≤ w.heap.size := by omega
    clear hW5 hl0 hT5 hE5 hm hz5
    refine wpIn_rangeFunc_ownG rfl (by omega) (gf := 193) (lb := #[.pointer (some ⟨Bm, 0, none⟩)]) rfl trivial (enters_of Tryz.func193 (by kernel_rfl) rfl)
      (digits_stops 4 (by omega) n Bm hn (KpW (Bs + 1)) (loop_kp hBm3) W5 HE5.out) KpW.trans (fun W l o o' => KpW.putObj W l o o') (Below.refl _ _) (fun _ => rfl)
      (fun pre W => TextAt w B Bs (sigF (limb n) (len n) true) (l0 ++ pre) W) (fun _ _ _ => False) (TextAt.own hBw (by rw [HZ5.out]; omega)) (fun _ _ _ _ _ h _ _ => h.elim) (by rw [List.append_nil]; exact HT5.out)
      (fun x => { tmps := #[.agg (sig true n), .pointer (some ⟨B, 0, none⟩), .string ⟨#[]⟩, .pointer (some ⟨Bs + 1, 0, none⟩), .pointer (some ⟨Bs + 1 + 1, 0, none⟩), .int .u8 (x.toNat : Int), .pointer (some ⟨B, 0, none⟩), .agg (magF (limb n) (len n)), .int .i64 D, .int .i64 ((D : Int) + 1), .slice (some ⟨Bs, 0, none⟩) 0 (D + 1), .agg #[.slice (some ⟨Bs, 0, none⟩) 0 (D + 1)], Value.func (.func 179) #[.pointer (some ⟨Bs + 1, 0, none⟩)] #[], .pointer (some ⟨B, 31, none⟩), .bool true, Value.func (.func 179) #[.pointer (some ⟨Bs + 1, 0, none⟩)] #[], .tuple #[], .pointer (some ⟨B, 0, none⟩), .agg (magF (limb n) (len n)), .func (.func 193) #[] #[.pointer (some ⟨Bm, 0, none⟩)], .int .u8 (x.toNat : Int), undef, undef, undef, undef, undef, undef], defers := [] }) ?assign ?body ?done ?stop
    case assign =>
      intro l x W K hK
      dsimp only [encB]
      gi_wp2
      exact hK
    case body =>
      rintro l pre x W hT hlt
      have cF2 : W.cell? ⟨Bs + 1 + 1, 0, none⟩ = some (putV (Bs + 1)) := hT.2.2.1.cell
      unfold putV at cF2
      have HTT := Lib.hid hT
      have HDX := Lib.hid (digit_any Bs (Bs + 1) (l0 ++ pre) x W (by omega) (by rw [List.length_append]; omega) hT.2.1)
      clear hT
      gi_wp2_with (refine ⟨trivial, ?_⟩; gi_at_call 179; refine (CallsIn.inRound l (callsIn_wide.2 HDX.out)).mono ?_; rintro e W' ⟨rfl, hw, hk, hb, hkp⟩)
      exact ⟨hk.from _, hkp, by show TextAt w B Bs _ (l0 ++ (pre ++ [x])) W'; rw [← List.append_assoc]; exact HTT.out.put hw hb hkp⟩
    case done =>
      rintro Dd ys W hDd rfl hT hK
      obtain ⟨h1, ⟨v, hv, hr⟩, h3, h4, h5, h6⟩ := hT
      obtain ⟨o, cap, rfl, hcv⟩ := conv_row hr (by rw [List.length_append]; have := dec_pos n; omega)
      have hc0 := hv.cell
      obtain ⟨L, hL⟩ : ∃ L, (l0 ++ Lib.decDigits n).length = L := ⟨_, rfl⟩
      rw [hL] at hcv hc0
      have HL := Lib.hid hL
      clear hL
      have HK := Lib.hid hK
      have HB4 := Lib.hid h4
      have hDd2 : Bm + 1 ≤ Dd := by rw [← HZ5.out]; exact hDd
      clear hK hv hr h4
      gi_wp2
      refine ⟨by simp, .inl ⟨_, _, rfl, run_takeDeferred HK.out, ?_⟩⟩
      exact ⟨_, results_tmp rfl _ _ _, by rw [HNM.out]; rfl, hB ▸ HB4.out.trans (belowK_b (w := W5) (by rw [HZ5.out]; omega) W Dd _ _ (by rw [HZ5.out]; omega) HK.out rfl rfl)⟩
    case stop =>
      rintro Dd c pre W _ _ h _
      exact h.elim
end Go.Proofs.YtjemolaobhlapaaGreatDoor
