/- The tokens of a text, as a function; the table of rules; the iterator's value. -/
import Derived.Test.YtfilmombflohpaaL9
set_option linter.unusedSimpArgs false
set_option linter.unusedVariables false
namespace Go.Proofs.Ytfilmombflohpaa
open Go.RowKit Go.ChangeMaps Go.WideMaps
set_option maxRecDepth 100000

/-- What the iterator yields: a token with its end, and an error. -/
structure Span where
  kind : Int
  text : List UInt8
  at_ : Int
  end_ : Int
  err : Int

/-- The rules, in their order: the kind of token, and how long it is, or what is wrong with it. -/
def ruleI (kw sg : List (List UInt8)) (i : Nat) (l : List UInt8) : Int × Int :=
  match i with
  | 0 => qualifiedI kw l
  | 1 => keywordI kw l
  | 2 => nameI l
  | 3 => underscoreI l
  | 4 => decimalI l
  | 5 => numberI l
  | _ => signI sg l
def kindI : Nat → Int
  | 0 => 0 | 1 => 1 | 2 => 0 | 3 => 4 | 4 => 3 | 5 => 2 | _ => 4

/-- The first rule from number i on that says something: its kind, the size, the error. -/
def firstRule (kw sg : List (List UInt8)) (l : List UInt8) : Nat → Nat → Option (Int × Int × Int)
  | 0, _ => none
  | n + 1, i =>
    if (ruleI kw sg i l).2 ≠ 0 then some (0, 0, (ruleI kw sg i l).2)
    else if 0 < (ruleI kw sg i l).1 then some (kindI i, (ruleI kw sg i l).1, 0)
    else firstRule kw sg l n (i + 1)

/-- What is yielded of a text from a place on. -/
def spansF (kw sg : List (List UInt8)) : Nat → List UInt8 → Nat → List Span
  | 0, _, _ => []
  | fuel + 1, l, at_ =>
    if (gapI l.length l).2 ≠ 0 then [⟨0, [], at_ + (gapI l.length l).1, 0, (gapI l.length l).2⟩]
    else if l.drop (gapI l.length l).1.toNat = [] then []
    else match firstRule kw sg (l.drop (gapI l.length l).1.toNat) 7 0 with
      | none => [⟨0, [], at_ + (gapI l.length l).1, 0, 22⟩]
      | some (k, n, e) =>
        if e ≠ 0 then [⟨0, [], at_ + (gapI l.length l).1, 0, e⟩]
        else ⟨k, (l.drop (gapI l.length l).1.toNat).take n.toNat, at_ + (gapI l.length l).1, at_ + (gapI l.length l).1 + n, 0⟩ ::
          spansF kw sg fuel ((l.drop (gapI l.length l).1.toNat).drop n.toNat) (at_ + (gapI l.length l).1.toNat + n.toNat)

/-- Example 1 of the chapter. -/
def ex1 : List UInt8 := [120, 32, 58, 61, 32, 77, 58, 58, 102, 40, 51, 44, 32, 49, 46, 53, 41, 59, 32, 47, 47, 32, 101, 110, 100]
theorem ex1_spans : (spansF kwL sgL 100 ex1 0).map (fun s => (s.kind, s.text, s.at_, s.end_, s.err)) =
    [(0, [120], 0, 1, 0), (4, [58, 61], 2, 4, 0), (0, [77, 58, 58, 102], 5, 9, 0), (4, [40], 9, 10, 0), (2, [51], 10, 11, 0), (4, [44], 11, 12, 0), (3, [49, 46, 53], 13, 16, 0), (4, [41], 16, 17, 0), (4, [59], 17, 18, 0)] := by
  decide +kernel

def ruleFn : Nat → Nat
  | 0 => 75 | 1 => 76 | 2 => 77 | 3 => 78 | 4 => 79 | 5 => 80 | _ => 81
/-- The table of rules in cells. -/
def ruleCells : Array Value := #[.int .i64 0, .func (.func 75) #[] #[], .int .i64 1, .func (.func 76) #[] #[], .int .i64 0, .func (.func 77) #[] #[], .int .i64 4, .func (.func 78) #[] #[], .int .i64 3, .func (.func 79) #[] #[], .int .i64 2, .func (.func 80) #[] #[], .int .i64 4, .func (.func 81) #[] #[]]

set_option maxHeartbeats 1000000 in
theorem rules_any (w : World) :
    Calls Try.prog 56 #[] w fun e w' => e = .returned (.slice (some ⟨w.heap.size, 0, none⟩) 7 7) ∧ w.alloc (.cells ruleCells 95) = w' := by
  go_enter Try.func56, Try.ntmps56
  go_wp2
  go_ret
  exact ⟨rfl, rfl⟩

set_option maxHeartbeats 1000000 in
theorem spans_any (kb sb : Nat) (s : ByteArray) (w : World) :
    Calls Try.prog 30 #[scan kb sb, .string s] w fun e w' => e = .returned (.func (.func 55) #[] #[.pointer (some ⟨w.heap.size + 1, 0, none⟩), .pointer (some ⟨w.heap.size, 0, none⟩)]) ∧
      (w.alloc (.cells #[.map (some kb), .map (some sb)] 58)).alloc (.cells #[.string s] 9) = w' := by
  go_enter Try.func30, Try.ntmps30
  go_wp2
  go_ret
  exact ⟨rfl, rfl⟩
end Go.Proofs.Ytfilmombflohpaa
