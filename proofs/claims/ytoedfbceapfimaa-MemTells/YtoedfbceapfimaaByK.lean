/-
  Rows of bytes of one's own, appended to; an operation in a box.
-/
import Derived.Test.YtoedfbceapfimaaBtKit
import Derived.Test.YtoedfbceapfimaaRegT
namespace Go.Proofs.Ytoedfbceapfimaa
open Go.RowKit
set_option linter.unusedVariables false
set_option linter.unusedSimpArgs false

theorem wpList_runappY {P : Program} {w w' : World} {ops : Array Oper} {rest : List Oper} {o : Oper} {a : Act} {Q : Exit → Act → World → Prop} (hgd : o.guard = none) (s x : Operand) (t : TypeId)
    (ho : o.op = .call { callee := .builtin .append, args := #[s, x], argTypes := #[t, t] }) (hty : o.type = t) {v vx v' : Value} (hs : a.eval s = v) (hx : a.eval x = vx)
    (hrun : (Builtin.append_ #[t, t] t #[v, vx]).run P w = .ok v' w') (h : wpList P ops Q rest (a.put o.dst v') w') : wpList P ops Q (o :: rest) a w := by
  refine wpList_plain hgd fun K hK => ?_
  unfold Oper.wp execOp
  simp only [ho, hty, resolve, invoke, builtin, Sem.run_bind, Sem.run_pure, Result.andThen_ok, List.map_toArray, List.map_cons, List.map_nil, hs, hx, hrun]
  exact hK _ _ h
def OpAt (w : World) (q : Nat) (o : Opn) : Prop := w.heap[q]? = some (.cells #[.string (bs o.1), .bool o.2.1, .string (bs o.2.2)] 30 (0, 0))
theorem OpAt.new (w : World) (o : Opn) : OpAt (w.alloc (.cells #[.string (bs o.1), .bool o.2.1, .string (bs o.2.2)] 30)) w.heap.size o := heap_alloc_new w _
theorem OpAt.cells {w : World} {q : Nat} {o : Opn} (h : OpAt w q o) : w.cell? ⟨q, 0, none⟩ = some (.string (bs o.1)) ∧ w.cell? ⟨q, 1, none⟩ = some (.bool o.2.1) ∧ w.cell? ⟨q, 2, none⟩ = some (.string (bs o.2.2)) := by
  refine ⟨?_, ?_, ?_⟩
  · rw [cell_of_row w q 0 _ _ (0, 0) h]; rfl
  · rw [cell_of_row w q 1 _ _ (0, 0) h]; rfl
  · rw [cell_of_row w q 2 _ _ (0, 0) h]; rfl
end Go.Proofs.Ytoedfbceapfimaa
