/-
  What the statement MemSees answers.
-/
import Derived.Test.YtoedfbceapfimaaMn2
namespace Go.Proofs.Ytoedfbceapfimaa
open Go.RowKit
set_option linter.unusedVariables false
set_option linter.unusedSimpArgs false

theorem run_eq_ent (p : Ent) (q : Ent) (h : p = q) : ∀ wx, (binOp .eql 33 (.agg #[.string (bs p.1), .int .i64 p.2.1, .bool p.2.2.1, .string (bs p.2.2.2)]) (.agg #[.string (bs q.1), .int .i64 q.2.1, .bool q.2.2.1, .string (bs q.2.2.2)])).run Try.prog wx = .ok (.bool true) wx := fun wx => by
  rw [run_eql_struct, run_equal_ent wx p q, decide_eq_true h]; rfl

end Go.Proofs.Ytoedfbceapfimaa
