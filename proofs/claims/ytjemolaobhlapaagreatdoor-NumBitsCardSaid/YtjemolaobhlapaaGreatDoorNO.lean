/- A region that draws its order: what is loaded early, though a store that waits for the load overwrites it. -/
import Derived.Test.YtjemolaobhlapaaGreatDoorN19
set_option linter.unusedSimpArgs false
set_option linter.unusedVariables false
namespace Go.Proofs.YtjemolaobhlapaaGreatDoor
open Go.RowKit
section
variable {P : Program} {ops : Array Oper} {Q : Exit → Act → World → Prop} {md : Region.Mode} {T : Array Bool → World → Prop}

/-- Whatever order is picked from here on; T holds of what has come up and of the world. -/
def AnyTill (P : Program) (md : Region.Mode) (ops : Array Oper) (Q : Exit → Act → World → Prop) (T : Array Bool → World → Prop) : Nat → Array Bool → Act → World → Prop
  | 0, l, a, w => Region.ready md ops l = [] ∧ Q .normal a w
  | n + 1, l, a, w => (Region.ready md ops l = [] → Q .normal a w) ∧ ∀ j ∈ Region.ready md ops l, wpOp P ops Q j (fun a' w' => T (l.setIfInBounds j true) w' ∧ AnyTill P md ops Q T n (l.setIfInBounds j true) a' w') a w

theorem AnyTill.any : ∀ (n : Nat) (l : Array Bool) (a : Act) (w : World), AnyTill P md ops Q T n l a w → wpAny P md ops Q n l a w
  | 0, _, _, _, h => h
  | n + 1, _, _, _, h => ⟨h.1, fun j hj => wpOp_mono (fun a' w' h' => AnyTill.any n _ a' w' h'.2) (h.2 j hj)⟩

theorem till_getD {l : Array Bool} {i j : Nat} (h : i ≠ j) (d : Bool) : (l.setIfInBounds i true).getD j d = l.getD j d := getD_set_ne d h

theorem AnyTill.first {i k : Nat} {S : World → Prop} {oi ok : Oper} {v : Value} (hi : ops[i]? = some oi) (hk : ops[k]? = some ok) (hwait : ∃ e ∈ ok.after, Region.binds md e = true ∧ e.on = i)
    (hT : ∀ l w, l.getD k false = false → T l w → S w) (hTi : ∀ l w, T (l.setIfInBounds i true) w → T l w)
    (hsel : ∀ (j : Nat) (o : Oper) cs b, ops[j]? = some o → o.op ≠ .select cs b) (hQ : ∀ c a w, Q (.panic c) (a.put oi.dst v) w → Q (.panic c) a w) (n : Nat) :
    ∀ (l : Array Bool) (a : Act) (w : World), l.getD k false = false → T (l.setIfInBounds i true) w →
      (∀ j oj, ops[j]? = some oj → j ≠ i → l.getD j true = false → (∀ e ∈ oj.after, Region.binds md e = true → e.on ≠ i) → oi.apart ops oj = true) →
      i ∈ Region.ready md ops l → YieldsIf P ops S oi v a → AnyTill P md ops Q T n (l.setIfInBounds i true) (a.put oi.dst v) w → AnyTill P md ops Q T (n + 1) l a w := by
  induction n with
  | zero =>
    intro l a w hkl hTw _ hr hy H
    refine ⟨fun h => by rw [h] at hr; exact absurd hr List.not_mem_nil, fun j hj => ?_⟩
    by_cases hji : j = i
    · subst hji
      exact hy.wpOp hi (hT _ _ hkl (hTi _ _ hTw)) ⟨hTw, H⟩
    · have h1 := ready_mono hj hji
      rw [H.1] at h1
      exact absurd h1 List.not_mem_nil
  | succ n ih =>
    intro l a w hkl hTw hfree hr hy H
    refine ⟨fun h => by rw [h] at hr; exact absurd hr List.not_mem_nil, fun j hj => ?_⟩
    by_cases hji : j = i
    · subst hji
      exact hy.wpOp hi (hT _ _ hkl (hTi _ _ hTw)) ⟨hTw, H⟩
    · obtain ⟨hju, oj, hoj, hall⟩ := mem_ready.1 hj
      have hiu := (mem_ready.1 hr).1
      have hun : ∀ e ∈ oj.after, Region.binds md e = true → e.on ≠ i := by
        intro e he hb heq
        have h1 := hall e he hb
        rw [heq] at h1
        by_cases hs : i < l.size
        · simp [Array.getD, hs] at h1 hiu
          rw [hiu] at h1
          cases h1
        · simp [Array.getD, hs] at h1
      have hjk : j ≠ k := by
        rintro rfl
        obtain ⟨e, he, hb, heq⟩ := hwait
        rw [hk] at hoj
        cases hoj
        exact hun e he hb heq
      have h2 := wpOp_putIf hoj (hfree j oj hoj hji hju hun) (fun cs b => hsel i oi cs b hi) (fun cs b => hsel j oj cs b hoj) hQ hy (H.2 j (ready_mono hj hji))
      have hkl' : (l.setIfInBounds j true).getD k false = false := by rw [till_getD hjk]; exact hkl
      refine wpOp_mono (fun a' w' h3 => ?_) h2
      have hc : (l.setIfInBounds i true).setIfInBounds j true = (l.setIfInBounds j true).setIfInBounds i true := Array.setIfInBounds_comm _ _ (Ne.symm hji)
      have hT' : T ((l.setIfInBounds j true).setIfInBounds i true) w' := by rw [← hc]; exact h3.2.1
      refine ⟨hTi _ _ hT', ih (l.setIfInBounds j true) a' w' hkl' hT' ?_ (ready_mono hr (Ne.symm hji)) h3.1 ?_⟩
      · intro m om hm hmi hmu hmo
        refine hfree m om hm hmi ?_ hmo
        by_cases hjm : j = m
        · subst hjm; exact hju
        · rwa [till_getD hjm] at hmu
      · rw [← hc]
        exact h3.2.2

/-- One operation may come up: it comes up. -/
theorem AnyTill.ready {i : Nat} {o : Oper} {n : Nat} {l : Array Bool} {a : Act} {w : World} (hr : Region.ready md ops l = [i]) (ho : ops[i]? = some o)
    (h : ∀ K' : Act → World → Prop, Shut (∀ a w, T (l.setIfInBounds i true) w → AnyTill P md ops Q T n (l.setIfInBounds i true) a w → K' a w) → if Region.wanted o (yielded ops a.tmps) = true then Oper.wp P o a w K' Q else K' (a.put o.dst undef) w) :
    AnyTill P md ops Q T (n + 1) l a w := by
  refine ⟨fun h0 => (by rw [hr] at h0; cases h0), fun j hj => ?_⟩
  rw [hr, List.mem_singleton] at hj
  subst hj
  exact wpOp_step ho (fun K' hK => h K' (fun a w h1 h2 => hK a w ⟨h1, h2⟩))
theorem AnyTill.done {l : Array Bool} {a : Act} {w : World} (hr : Region.ready md ops l = []) (h : Q .normal a w) : ∀ n, AnyTill P md ops Q T n l a w
  | 0 => ⟨hr, h⟩
  | _ + 1 => ⟨fun _ => h, by rw [hr]; simp⟩
theorem AnyTill.region {id : Nat} {a : Act} {w : World} (hm : P.follows .mixedOrders = true) (h : AnyTill P .any ops Q T ops.size (Array.replicate ops.size false) a w.drew) : (Code.region id ops true).wp P Q a w :=
  wp_region_any hm (AnyTill.any _ _ _ _ h)

/-- Two conditions, each till its operation comes up. -/
def Till (k1 k2 : Nat) (S1 S2 : World → Prop) (l : Array Bool) (w : World) : Prop := (l.getD k1 false = false → S1 w) ∧ (l.getD k2 false = false → S2 w)
theorem AnyTill.take1 {i k1 k2 : Nat} {S1 S2 : World → Prop} {oi ok : Oper} {v : Value} {n : Nat} {l : Array Bool} {a : Act} {w : World} (hi : ops[i]? = some oi) (hk : ops[k1]? = some ok) (hwait : (ok.after.toList.any fun e => Region.binds md e && e.on == i) = true) (hi1 : i ≠ k1) (hi2 : i ≠ k2) (hkl : l.getD k1 false = false)
    (hs : Region.noSelect ops = true) (hf : Region.free md ops l i = true) (hr : (Region.ready md ops l).contains i = true) (hQ : ∀ c a w, Q (.panic c) (a.put oi.dst v) w → Q (.panic c) a w)
    (hy : YieldsIf P ops S1 oi v a) (h1 : S1 w) (h2 : S2 w) (h : AnyTill P md ops Q (Till k1 k2 S1 S2) n (l.setIfInBounds i true) (a.put oi.dst v) w) : AnyTill P md ops Q (Till k1 k2 S1 S2) (n + 1) l a w := by
  obtain ⟨e, he, hb⟩ := List.any_eq_true.1 hwait
  rw [Bool.and_eq_true, beq_iff_eq] at hb
  exact AnyTill.first hi hk ⟨e, by simpa using he, hb.1, hb.2⟩ (fun l w hl ht => ht.1 hl) (fun l w ht => ⟨fun hl => ht.1 (by rw [till_getD hi1]; exact hl), fun hl => ht.2 (by rw [till_getD hi2]; exact hl)⟩) (Region.noSelect_spec hs) hQ n l a w hkl ⟨fun _ => h1, fun _ => h2⟩ (Region.free_spec hi hf) (by simpa using hr) hy h
theorem AnyTill.take2 {i k1 k2 : Nat} {S1 S2 : World → Prop} {oi ok : Oper} {v : Value} {n : Nat} {l : Array Bool} {a : Act} {w : World} (hi : ops[i]? = some oi) (hk : ops[k2]? = some ok) (hwait : (ok.after.toList.any fun e => Region.binds md e && e.on == i) = true) (hi1 : i ≠ k1) (hi2 : i ≠ k2) (hkl : l.getD k2 false = false)
    (hs : Region.noSelect ops = true) (hf : Region.free md ops l i = true) (hr : (Region.ready md ops l).contains i = true) (hQ : ∀ c a w, Q (.panic c) (a.put oi.dst v) w → Q (.panic c) a w)
    (hy : YieldsIf P ops S2 oi v a) (h1 : S1 w) (h2 : S2 w) (h : AnyTill P md ops Q (Till k1 k2 S1 S2) n (l.setIfInBounds i true) (a.put oi.dst v) w) : AnyTill P md ops Q (Till k1 k2 S1 S2) (n + 1) l a w := by
  obtain ⟨e, he, hb⟩ := List.any_eq_true.1 hwait
  rw [Bool.and_eq_true, beq_iff_eq] at hb
  exact AnyTill.first hi hk ⟨e, by simpa using he, hb.1, hb.2⟩ (fun l w hl ht => ht.2 hl) (fun l w ht => ⟨fun hl => ht.1 (by rw [till_getD hi1]; exact hl), fun hl => ht.2 (by rw [till_getD hi2]; exact hl)⟩) (Region.noSelect_spec hs) hQ n l a w hkl ⟨fun _ => h1, fun _ => h2⟩ (Region.free_spec hi hf) (by simpa using hr) hy h
end
end Go.Proofs.YtjemolaobhlapaaGreatDoor
