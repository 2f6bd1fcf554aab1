/-
  A slice of bytes from its k-th byte on: the run, and what it reads as.
-/
import Derived.Test.YtepfojlclgnicaaBxK
namespace Go.Proofs.Ytepfojlclgnicaa
open Go.RowKit
set_option linter.unusedVariables false
set_option linter.unusedSimpArgs false

theorem wpList_slY {P : Program} {w : World} {ops : Array Oper} {rest : List Oper} {o : Oper} {a : Act} {Q : Exit → Act → World → Prop} (hgd : o.guard = none) (x lo : Operand) (t : TypeId) (ht : P.underlying t = some (.slice (P.elem t)))
    (ho : o.op = .slice t x (some lo) none none) {v vl v' : Value} (hx : a.eval x = v) (hlo : a.eval lo = vl) (hrun : ∀ wx, (Instr.slice t v (some vl) none none).run P wx = .ok v' wx) (h : wpList P ops Q rest (a.put o.dst v') w) : wpList P ops Q (o :: rest) a w := by
  refine wpList_plain hgd fun K hK => ?_
  unfold Oper.wp execOp
  simp only [ho, Option.map_some, Option.map_none, hx, hlo, run_sliceAt_slice w t _ _ _ _ ht, Sem.run_bind, hrun w, Result.andThen_ok, Sem.run_pure]
  exact hK _ _ h
end Go.Proofs.Ytepfojlclgnicaa
