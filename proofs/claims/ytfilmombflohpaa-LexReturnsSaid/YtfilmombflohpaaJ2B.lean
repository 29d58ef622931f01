/- Two pairs of tokens compared. -/
import Derived.Test.YtfilmombflohpaaJ2
import Derived.ChangeKeysEq
set_option linter.unusedSimpArgs false
set_option linter.unusedVariables false
namespace Go.Proofs.Ytfilmombflohpaa
open Go.RowKit Go.ChangeMaps Go.WideMaps Go.Shelf
set_option maxRecDepth 100000

theorem tokEq (d : Nat) (a c e g : Int) (b f : ByteArray) (w : World) : (Op.equalIn (d + 2) 47 (.agg #[.int .i64 a, .string b, .int .i64 c]) (.agg #[.int .i64 e, .string f, .int .i64 g])).run Try.prog w = .ok (a == e && (b == f && c == g)) w := by
  simp [Op.equalIn, go_sem]
  by_cases h1 : a = e
  · cases h2 : (b == f)
    · simp [h1]
    · by_cases h3 : c = g
      · simp [h1, h3]
      · simp [h1, h3]
  · simp [h1]

theorem part0 (e : TypeId) (x0 x1 x2 x3 x4 x5 : Value) (w : World) (he : e = 47) : (part e #[x0, x1, x2, x3, x4, x5] (0 * 3)).run Try.prog w = .ok (.agg #[x0, x1, x2]) w := by subst he; kernel_rfl
theorem part1 (e : TypeId) (x0 x1 x2 x3 x4 x5 : Value) (w : World) (he : e = 47) : (part e #[x0, x1, x2, x3, x4, x5] 3).run Try.prog w = .ok (.agg #[x3, x4, x5]) w := by subst he; kernel_rfl

theorem neq_pair (a c e g a' c' e' g' : Int) (b f b' f' : ByteArray) (w : World) :
    (binOp .neq 105 (.agg #[.int .i64 a, .string b, .int .i64 c, .int .i64 e, .string f, .int .i64 g]) (.agg #[.int .i64 a', .string b', .int .i64 c', .int .i64 e', .string f', .int .i64 g'])).run Try.prog w
      = .ok (.bool (!((a == a' && (b == b' && c == c')) && (e == e' && (f == f' && g == g'))))) w := by
  obtain ⟨i0, hi, _⟩ := info_parts info49
  rw [run_neq_struct, run_equalIn_array w 9999 (n := 2) (e := 47) _ _ Try.underlying105 hi]
  rw [show Try.prog.cellsOf 47 = 3 from by kernel_rfl, show List.range 2 = [0, 1] from rfl]
  simp only [Op.eqItems, Sem.run_bind, part0 47 _ _ _ _ _ _ _ rfl, part1 47 _ _ _ _ _ _ _ rfl, Result.andThen_ok, tokEq 9997]
  cases h1 : (a == a' && (b == b' && c == c'))
  · simp
  · cases h2 : (e == e' && (f == f' && g == g'))
    · simp [part1 47 _ _ _ _ _ _ _ rfl, tokEq 9997, h2]
    · simp [part1 47 _ _ _ _ _ _ _ rfl, tokEq 9997, h2]
end Go.Proofs.Ytfilmombflohpaa
