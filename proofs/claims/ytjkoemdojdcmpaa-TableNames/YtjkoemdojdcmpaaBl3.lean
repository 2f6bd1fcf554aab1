/-
  What the statement BlockSeen answers.
-/
import Derived.Test.YtjkoemdojdcmpaaMm4
namespace Go.Proofs.Ytjkoemdojdcmpaa
open Go.RowKit
set_option linter.unusedVariables false
set_option linter.unusedSimpArgs false

theorem eqS_any (p q : Ent) (wx : World) : (binOp .eql 31 (.agg #[.string (bs p.1), .int .i64 p.2.1, .bool p.2.2.1, .string (bs p.2.2.2)]) (.agg #[.string (bs q.1), .int .i64 q.2.1, .bool q.2.2.1, .string (bs q.2.2.2)])).run Try.prog wx = .ok (.bool (decide (p = q))) wx := by
  rw [run_eql_struct, run_equal_ent wx p q]; rfl
end Go.Proofs.Ytjkoemdojdcmpaa
