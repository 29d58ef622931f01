/- PROVED: entaillaw01.NumBits returns true at every operation, width and two strings, and its arguments read afterwards as they read before; the card ties the listed tables to the program's text (Rows.NumBitsCardSaid). Conditions: those of the row as given; none is added here. -/
import Derived.Test.YtjemolaobhlapaaGreatDoorRows
import Derived.Test.YtjemolaobhlapaaGreatDoorCards
import Derived.Test.YtjemolaobhlapaaGreatDoorTie
import Derived.Test.YtjemolaobhlapaaGreatDoorTJ
import Derived.ProofKit
import Derived.LaidMore
import Derived.Lay
import Derived.OpenShut
import Derived.Stop.Joined
import Derived.SevenTiedAt
import Derived.Stop.LaidErr
import Derived.Lib.LaidTab
import Derived.Lib.SmallJoins
import Derived.ChangeSame
set_option linter.unusedSimpArgs false
set_option linter.unusedVariables false
namespace Go.Proofs.YtjemolaobhlapaaGreatDoor
open Go.ChangeShapes Go.WideShapes Go.ChangeAt Go.RowKit
open Go.ChangeMaps (open_string shut_string)

theorem case_cells : Tryz.prog.cellsOf 53 = 4 := by kernel_rfl
theorem cell_int : Tryz.prog.cellsOf 3 = 1 := by kernel_rfl
theorem cell_string : Tryz.prog.cellsOf 9 = 1 := by kernel_rfl
set_option maxRecDepth 100000 in
theorem case_open {H : Type} {enc : TypeId × Value → H} {W : World} {base : Nat} {spare : Nat → Bool} {held : Bool} {b0 : Nat} {v : Value} {d : DataW H} {ps : List MemPlace} (hval : Value.okWide Tryz.prog W .any b0 53 v) (h : DataW.Trod enc Tryz.prog W base spare held 53 v d ps) :
    ∃ (i n : Int) (x y : ByteArray), v = .agg #[.int .i64 i, .int .i64 n, .string x, .string y] ∧ d = .agg [.lit (.int .i64 i), .lit (.int .i64 n), .lit (.string x.data.toList), .lit (.string y.data.toList)] ∧ ps = [] ∧ (Lit.int .i64 i).wf = true ∧ (Lit.int .i64 n).wf = true ∧ x.size ≤ maxLen ∧ y.size ≤ maxLen := by
  obtain ⟨cs, rfl, hsz⟩ := okWide_struct Tryz.underlying53 hval
  rw [case_cells] at hsz
  obtain ⟨v0, v1, v2, v3, rfl⟩ := Go.Joins.array4 hsz
  obtain ⟨fuel, hf⟩ := h
  obtain ⟨y0, y1, y2, y3, m, hx, _, h0, h1, h2, h3⟩ := Go.Joins.trod_struct4 Tryz.underlying53 hf
  simp only [cell_int, cell_string] at h0 h1 h2 h3
  obtain ⟨i, hi, e0, w0⟩ := DataW.trod_int Tryz.underlying3 (show DataW.trod enc Tryz.prog W base spare held m 3 [v0] = some y0 from h0)
  obtain ⟨n, hn, e1, w1⟩ := DataW.trod_int Tryz.underlying3 (show DataW.trod enc Tryz.prog W base spare held m 3 [v1] = some y1 from h1)
  obtain ⟨x, hx2, e2, w2⟩ := DataW.trod_string Tryz.underlying9 (show DataW.trod enc Tryz.prog W base spare held m 9 [v2] = some y2 from h2)
  obtain ⟨y, hy, e3, w3⟩ := DataW.trod_string Tryz.underlying9 (show DataW.trod enc Tryz.prog W base spare held m 9 [v3] = some y3 from h3)
  obtain rfl : v0 = .int .i64 i := by simpa using hi
  obtain rfl : v1 = .int .i64 n := by simpa using hn
  obtain rfl : v2 = .string x := by simpa using hx2
  obtain rfl : v3 = .string y := by simpa using hy
  subst e0 e1 e2 e3
  rw [Prod.mk.injEq] at hx
  exact ⟨i, n, x, y, rfl, hx.1, by rw [hx.2]; rfl, w0, w1, w2, w3⟩
set_option maxRecDepth 100000 in
theorem case_shut {H : Type} {enc : TypeId × Value → H} {W : World} {base : Nat} {spare : Nat → Bool} {held : Bool} {i n : Int} {x y : ByteArray} (w0 : (Lit.int .i64 i).wf = true) (w1 : (Lit.int .i64 n).wf = true) (w2 : x.size ≤ maxLen) (w3 : y.size ≤ maxLen) :
    DataW.Trod enc Tryz.prog W base spare held 53 (.agg #[.int .i64 i, .int .i64 n, .string x, .string y]) (.agg [.lit (.int .i64 i), .lit (.int .i64 n), .lit (.string x.data.toList), .lit (.string y.data.toList)]) [] := by
  have hi := trod_int_mk (enc := enc) (w := W) (base := base) (spare := spare) (held := held) 0 Tryz.underlying3 w0
  have hn := trod_int_mk (enc := enc) (w := W) (base := base) (spare := spare) (held := held) 0 Tryz.underlying3 w1
  have hx : DataW.trod enc Tryz.prog W base spare held 1 9 [.string x] = some (.lit (.string x.data.toList), []) := by simp [DataW.trod, Tryz.underlying9, w2]
  have hy : DataW.trod enc Tryz.prog W base spare held 1 9 [.string y] = some (.lit (.string y.data.toList), []) := by simp [DataW.trod, Tryz.underlying9, w3]
  exact Go.Joins.shut_agg4 Tryz.underlying53 (by kernel_rfl) case_cells ⟨1, hi⟩ ⟨1, hn⟩ ⟨1, hx⟩ ⟨1, hy⟩

theorem bits_own : ownKnob Tryz.prog.godebug = none := by kernel_rfl

theorem tab_of {W : World} (hL : laidMet Tryz.prog Rows.numBitsRow.laid W) : Tab W :=
  Lib.tabIs_of_head (g := 1) (t := 195) (e := 57) (n := 20) (by kernel_rfl) (by kernel_rfl) Tryz.underlying195 Tryz.underlying57 (by kernel_rfl) (by kernel_rfl) (laidMet.tail (laidMet.tail hL))

theorem mlen_of {W : World} (h : W.ShapedOpen Tryz.prog) : MLen W := by
  obtain ⟨m, hm0⟩ := Tryz.laysM143.s1_3 W h
  have hm : W.cell? ⟨0, 0, none⟩ = some (.int .i64 m) := hm0
  refine ⟨⟨m, hm⟩, ?_⟩
  by_cases h0 : 0 < W.heap.size
  · exact h0
  · have h1 : W.heap.size = 0 := by omega
    have h2 : W.heap[0]? = none := Array.getElem?_eq_none (by omega)
    simp [World.cell?, h2] at hm

set_option maxRecDepth 100000 in
theorem bits_contract (H : Type) (enc : TypeId × Value → H) (W : World) (base : Nat) (args : Array Value) (ds gs : List (DataW H)) (before : List MemPlace)
    (hval0 : ∀ (j : Nat) t v, Tryz.f6.params[j]? = some t → args[j]? = some v → Value.okWide Tryz.prog W .any base t v)
    (hW : DataW.Whole enc Tryz.prog Tryz.f6.params.toList Rows.numBitsSpec.vars false W args.toList ds gs before) (he : Env W) :
    Calls Tryz.prog 6 args W fun e W' => ∃ v, e = .returned v ∧ Rows.numBitsSpec.post enc Tryz.prog Tryz.f6 false true false false W args v W' := by
  have hval : ∀ (j : Nat) t v, Tryz.f6.params[j]? = some t → args[j]? = some v → Value.okWide Tryz.prog W .any base t v := hval0
  have hW' := hW
  obtain ⟨p, q, hA0, hV, rfl, _, _⟩ := hW
  have hA : DataW.TrodAll enc Tryz.prog W 0 (fun _ => true) true Tryz.f6.params.toList args.toList ds p := hA0
  rw [Tryz.params6] at hA hval
  obtain ⟨v0, d0, rfl, rfl, h0⟩ := trodAll_one hA
  obtain ⟨rfl, rfl⟩ := trodVars_none hV
  obtain ⟨i, n, x, y, rfl, rfl, rfl, w0, w1, w2, w3⟩ := case_open (hval 0 53 v0 rfl rfl) h0
  clear hA0 hval0
  simp only [List.append_nil, List.nil_append] at hW'
  refine (bits_any i n x y W he).mono fun e W' ⟨he, hnx⟩ => ?_
  subst he
  exact ⟨_, rfl, _, _, _, [], [], [], hW', trodAll_mk1 (shut_bool Tryz.underlying4 true), trodAll_mk1 (case_shut w0 w1 w2 w3), rfl, hnx.frame _, fun h => by cases h⟩

set_option maxRecDepth 100000 in
theorem bits_lifted (os : Os) (started : os.Started) (H : Type) (enc : TypeId × Value → H) :
    ReturnsInHanded {} Tryz.checked os 6 .any (fun w args => (Rows.numBitsSpec.pre enc Tryz.prog Tryz.f6 Rows.numBitsRow.domain false w args ∧ laidMetH Tryz.prog Rows.numBitsRow.laid w) ∧ sizedMet enc Tryz.prog Tryz.f6 (OpenSpec.ofChange Rows.numBitsSpec) false w args)
      (Rows.numBitsSpec.post enc Tryz.prog Tryz.f6 false true false false) := by
  refine returnsInHanded_of_calls (C := Tryz.checked) bits_own started (by kernel_rfl)
    (ChangeSpec.witness_shaped (enc := enc) (C := Tryz.checked) (os := os) (X := fun w _ => laidMetH Tryz.prog Rows.numBitsRow.laid w) false (World.laidAll Tryz.prog os Rows.numBitsRow.laid) #[.agg #[.int .i64 0, .int .i64 0, .string ⟨#[]⟩, .string ⟨#[]⟩]] 8 (World.laidAll_os _ _ _)
      (World.shaped_of_ZipB (by kernel_rfl) (by kernel_rfl)) (by kernel_rfl) (by kernel_rfl) (by kernel_rfl)
      (by rw [MakeChecks.laidMetH_plain _ _ _ (by kernel_rfl)]; exact laidMet_laidAll _ (by kernel_rfl) (by kernel_rfl))) ?_
  intro w tape i _ hsh _ hok hpre _
  obtain ⟨_, _, _, fn', hfn', _, _, _, _, hval⟩ := hok
  have e : fn' = Tryz.f6 := Option.some.inj (hfn'.symm.trans Tryz.func6)
  subst e
  obtain ⟨⟨⟨ds, gs, before, hw, _⟩, hL⟩, _⟩ := hpre
  rw [MakeChecks.laidMetH_plain _ _ _ (by kernel_rfl)] at hL
  have htab2 : Tab (w.forCall tape i) := tab_of (W := (w.forCall tape i).memory) hL
  refine (bits_contract H enc (w.forCall tape i) w.heap.size i.args ds gs before hval (DataW.Whole.of_heap (w' := w.forCall tape i) (by rfl) hw) ⟨htab2, mlen_of hsh⟩).mono fun e W' ⟨v, he, hp⟩ => ?_
  subst he
  exact ChangeSpec.post_blind hp

theorem bits_holds : Rows.NumBitsSaid :=
  OpenClaim.holds_of_wide 6 Tryz.f6 rfl rfl rfl rfl rfl rfl rfl ⟨rfl, rfl, rfl, rfl, rfl⟩ rfl rfl rfl rfl rfl (by kernel_rfl) Tryz.func6 (by kernel_rfl)
    (of_decide_eq_true (by kernel_rfl)) (by unfold Func.isWrapper; first | (rw [if_pos (by decide +kernel)]; kernel_rfl) | (rw [if_neg (by decide +kernel)]; exact ⟨rfl, rfl⟩))
    (fun os started H enc _ => bits_lifted os started H enc)

theorem bits_card_holds : Rows.NumBitsCardSaid :=
  Claim7.holds_tied_plain_at .later [] [.data, .data, .data, .data, .pinned] true (true, "e7139b556e4086fd952740ece416d0302f716dc01af8d5fbb2b06789d2a7b8f6") false bits_holds (fun _ h => by cases h) (by kernel_rfl) (fun _ h => by cases h) numBits_row_tie rfl ⟨rfl, rfl⟩ (by kernel_rfl) rfl
    (fun f fn hf hfn => by
      obtain rfl : f = 6 := Option.some.inj ((show Tryz.prog.funcNamed "entail/entaillaw01.NumBits" = some 6 by kernel_rfl).symm.trans hf) |>.symm
      obtain rfl : fn = Tryz.f6 := (Option.some.inj (Tryz.func6.symm.trans hfn)).symm
      exact ⟨by kernel_rfl, fun j t ht => by
        rw [Tryz.params6] at ht
        have hm : t ∈ [53] := by simpa using Array.mem_of_getElem? ht
        have hall : ([53].all fun u => !Tryz.prog.wantsStandIn u) = true := by kernel_rfl
        exact (show Tryz.prog.wantsStandIn t = false by simpa using List.all_eq_true.1 hall t hm)⟩)
    (by kernel_rfl)
end Go.Proofs.YtjemolaobhlapaaGreatDoor
