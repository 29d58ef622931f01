/- The tokens of a joined text: where they lie, and that they join to the same text. -/
import Derived.Test.YtfilmombflohpaaK1
import Derived.Test.YtfilmombflohpaaJ9
set_option linter.unusedSimpArgs false
set_option linter.unusedVariables false
namespace Go.Proofs.Ytfilmombflohpaa
open Go.RowKit Go.ChangeMaps Go.WideMaps Go.Shelf
set_option maxRecDepth 100000

/-- The tokens of a joined text. -/
def placeL : List Span → List Span
  | [] => []
  | x :: us => placeS x 0 us

/-- Tokens that lie in a text behind a place, and end with it. -/
def Lie (J : List UInt8) : Nat → List Span → Prop
  | e, [] => e = J.length
  | e, y :: ys => ∃ p : Nat, y.at_ = (p : Int) ∧ e ≤ p ∧ p ≤ e + 1 ∧ p + y.text.length ≤ J.length ∧ (J.drop p).take y.text.length = y.text ∧ Lie J (p + y.text.length) ys

theorem lie_at {J pre t r : List UInt8} (h : J = pre ++ (t ++ r)) : pre.length + t.length ≤ J.length ∧ (J.drop pre.length).take t.length = t := by
  subst h
  refine ⟨by simp only [List.length_append]; omega, ?_⟩
  rw [List.drop_left, List.take_left]

theorem lie_place (J : List UInt8) : ∀ (us : List Span) (x : Span) (k e : Nat) (pre : List UInt8), J = pre ++ (x.text ++ restL x us) → pre.length = k → e ≤ k → k ≤ e + 1 → Lie J e (placeS x k us)
  | [], x, k, e, pre, hJ, hk, h1, h2 => by
    subst hk
    obtain ⟨h3, h4⟩ := lie_at hJ
    refine ⟨pre.length, rfl, h1, h2, h3, h4, ?_⟩
    show pre.length + x.text.length = J.length
    rw [hJ]
    simp [restL]
  | u :: us, x, k, e, pre, hJ, hk, h1, h2 => by
    subst hk
    obtain ⟨h3, h4⟩ := lie_at hJ
    refine ⟨pre.length, rfl, h1, h2, h3, h4, ?_⟩
    show Lie J (pre.length + x.text.length) (placeS u (pre.length + x.text.length + if gapB x u = true then 1 else 0) us)
    by_cases hg : gapB x u = true
    · rw [if_pos hg]
      refine lie_place J us u _ _ (pre ++ x.text ++ [32]) ?_ (by simp; omega) (by omega) (by omega)
      rw [hJ]
      show pre ++ (x.text ++ ((if gapB x u = true then 32 :: u.text else u.text) ++ restL u us)) = _
      rw [if_pos hg]
      simp
    · rw [if_neg hg]
      refine lie_place J us u _ _ (pre ++ x.text) ?_ (by simp) (by omega) (by omega)
      rw [hJ]
      show pre ++ (x.text ++ ((if gapB x u = true then 32 :: u.text else u.text) ++ restL u us)) = _
      rw [if_neg hg]
      simp

theorem lie_all (xs : List Span) : Lie (joinL xs) 0 (placeL xs) := by
  cases xs with
  | nil => rfl
  | cons x us => exact lie_place _ us x 0 0 [] rfl rfl (Nat.le_refl _) (by omega)

theorem place_rest : ∀ (us : List Span) (u : Span) (k : Nat), (placeS u k us).length = us.length + 1 ∧ (∀ (i : Nat) (y x : Span), (placeS u k us)[i]? = some y → (u :: us)[i]? = some x → y.kind = x.kind ∧ y.text = x.text) ∧ (∀ y ∈ placeS u k us, y.err = 0) ∧ (placeS u k us).map checkE = (u :: us).map checkE ∧ (∀ y a b c, gapB ⟨y.kind, y.text, a, b, c⟩ u = gapB y u) ∧ (∀ y a b c, restL ⟨y.kind, y.text, a, b, c⟩ (placeS u k us) = restL y (u :: us)) ∧ joinL (placeS u k us) = joinL (u :: us)
  | [], u, k => by
    refine ⟨rfl, ?_, ?_, rfl, fun _ _ _ _ => rfl, fun _ _ _ _ => rfl, rfl⟩
    · intro i y x h1 h2
      match i, h1, h2 with
      | 0, h1, h2 =>
        obtain rfl := Option.some.inj h1
        obtain rfl := Option.some.inj h2
        exact ⟨rfl, rfl⟩
    · intro y hy
      obtain rfl : y = _ := List.mem_singleton.1 hy
      rfl
  | v :: vs, u, k => by
    obtain ⟨g, hg⟩ : ∃ g, (k + u.text.length + if gapB u v = true then 1 else 0) = g := ⟨_, rfl⟩
    have hp : placeS u k (v :: vs) = ⟨u.kind, u.text, k, (k : Int) + u.text.length, 0⟩ :: placeS v g vs := by rw [← hg]; rfl
    obtain ⟨h1, h2, h3, h4, _, h6, _⟩ := place_rest vs v g
    rw [hp]
    refine ⟨by simp [h1], ?_, ?_, ?_, fun _ _ _ _ => rfl, ?_, ?_⟩
    · intro i y x e1 e2
      match i, e1, e2 with
      | 0, e1, e2 =>
        obtain rfl := Option.some.inj e1
        obtain rfl := Option.some.inj e2
        exact ⟨rfl, rfl⟩
      | i + 1, e1, e2 => exact h2 i y x e1 e2
    · intro y hy
      rcases List.mem_cons.1 hy with rfl | hy
      · rfl
      · exact h3 y hy
    · show checkE _ :: (placeS v g vs).map checkE = checkE u :: (v :: vs).map checkE
      rw [h4]
      rfl
    · intro y a b c
      show (if gapB _ _ = true then 32 :: u.text else u.text) ++ restL ⟨u.kind, u.text, k, (k : Int) + u.text.length, 0⟩ (placeS v g vs) = (if gapB y u = true then 32 :: u.text else u.text) ++ restL u (v :: vs)
      rw [h6 u]
      rfl
    · show u.text ++ restL ⟨u.kind, u.text, k, (k : Int) + u.text.length, 0⟩ (placeS v g vs) = u.text ++ restL u (v :: vs)
      rw [h6 u]

theorem place_all (xs : List Span) : Words (placeL xs) xs ∧ (∀ y ∈ placeL xs, y.err = 0) ∧ joinV (placeL xs) = joinV xs := by
  cases xs with
  | nil =>
    refine ⟨⟨rfl, ?_⟩, ?_, rfl⟩
    · intro i y x h
      simp [placeL] at h
    · intro y hy
      simp [placeL] at hy
  | cons x us =>
    obtain ⟨h1, h2, h3, h4, _, _, h7⟩ := place_rest us x 0
    refine ⟨⟨h1, h2⟩, h3, ?_⟩
    unfold joinV
    show (if firstE ((placeS x 0 us).map checkE) = 0 then Value.tuple #[.string (mk (joinL (placeS x 0 us))), .int .i64 0] else Value.tuple #[.string (mk []), .int .i64 (firstE ((placeS x 0 us).map checkE))]) = _
    rw [h4, h7]

theorem spans_placed {xs : List Span} (hg : ∀ x ∈ xs, Good x) : spansT (mk (joinL xs)) (joinL xs) 0 = placeL xs := by
  cases xs with
  | nil => exact spans_nil _ _
  | cons x us => exact spans_join us x 0 (hg x (by simp)) (fun y hy => hg y (by simp [hy])) (Nat.le_refl _)
end Go.Proofs.Ytfilmombflohpaa
