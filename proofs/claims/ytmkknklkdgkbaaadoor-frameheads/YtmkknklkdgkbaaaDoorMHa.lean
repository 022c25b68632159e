import Derived.Test.YtmkknklkdgkbaaaDoorMGu
import Derived.Test.YtmkknklkdgkbaaaDoorMPa
import Derived.Laws.StructEq
/- Ha -/
/- Two stamps that are the same are equal. -/
namespace Go.Proofs.YtmkknklkdgkbaaaDoor
open Go.ChangeShapes Go.WideShapes Go.ChangeAt Go.RowKit
set_option maxRecDepth 20000
set_option linter.unusedVariables false
set_option linter.unusedSimpArgs false
theorem part3 (xs : Array Value) (i : Nat) (x : Int) (h : xs[i]? = some (.int .i64 x)) (w : World) : (part 3 xs i).run Tryd.prog w = .ok (.int .i64 x) w := by simp [part, go_sem, h]
theorem eqi (d : Nat) (x : Int) (w : World) : (Op.equalIn (d + 1) 3 (.int .i64 x) (.int .i64 x)).run Tryd.prog w = .ok true w := by
  rw [run_equalIn_int w d 3 .i64 .i64 x x Tryd.underlying3]; simp
theorem eq23 (a b c : Int) (w : World) : (Op.equalIn 9999 23 (.agg #[.int .i64 a, .int .i64 b, .int .i64 c]) (.agg #[.int .i64 a, .int .i64 b, .int .i64 c])).run Tryd.prog w = .ok true w := by
  rw [run_equalIn_struct w 9998 23 _ _ (by kernel_rfl) (by kernel_rfl)]
  simp only [Program.fieldsOf, Tryd.underlying23, Op.eqFields]
  rw [if_pos (by decide)]
  simp only [Sem.run_bind, part3 #[.int .i64 a, .int .i64 b, .int .i64 c] 0 a rfl, Result.andThen_ok, eqi, Bool.not_true, Bool.false_eq_true, if_false]
  rw [if_pos (by decide)]
  simp only [Sem.run_bind, part3 #[.int .i64 a, .int .i64 b, .int .i64 c] 1 b rfl, Result.andThen_ok, eqi, Bool.not_true, Bool.false_eq_true, if_false]
  rw [if_pos (by decide)]
  simp only [Sem.run_bind, part3 #[.int .i64 a, .int .i64 b, .int .i64 c] 2 c rfl, Result.andThen_ok, eqi, Bool.not_true, Bool.false_eq_true, if_false, Sem.run_pure]
theorem part23 (a b c d e : Int) (w : World) : (part 23 #[.int .i64 a, .int .i64 b, .int .i64 c, .int .i64 d, .int .i64 e] 0).run Tryd.prog w = .ok (.agg #[.int .i64 a, .int .i64 b, .int .i64 c]) w := by
  simp [part, go_sem]
theorem eq25 (a b c d e : Int) (w : World) : (Op.equalIn 10000 25 (.agg #[.int .i64 a, .int .i64 b, .int .i64 c, .int .i64 d, .int .i64 e]) (.agg #[.int .i64 a, .int .i64 b, .int .i64 c, .int .i64 d, .int .i64 e])).run Tryd.prog w = .ok true w := by
  rw [run_equalIn_struct w 9999 25 _ _ (by kernel_rfl) (by kernel_rfl)]
  simp only [Program.fieldsOf, Tryd.underlying25, Op.eqFields]
  rw [if_pos (by decide)]
  simp only [Sem.run_bind, part23, Result.andThen_ok, eq23, Bool.not_true, Bool.false_eq_true, if_false]
  rw [if_pos (by decide)]
  simp only [Sem.run_bind, part3 #[.int .i64 a, .int .i64 b, .int .i64 c, .int .i64 d, .int .i64 e] 3 d rfl, Result.andThen_ok, eqi, Bool.not_true, Bool.false_eq_true, if_false]
  rw [if_pos (by decide)]
  simp only [Sem.run_bind, part3 #[.int .i64 a, .int .i64 b, .int .i64 c, .int .i64 d, .int .i64 e] 4 e rfl, Result.andThen_ok, eqi, Bool.not_true, Bool.false_eq_true, if_false, Sem.run_pure]
end Go.Proofs.YtmkknklkdgkbaaaDoor
