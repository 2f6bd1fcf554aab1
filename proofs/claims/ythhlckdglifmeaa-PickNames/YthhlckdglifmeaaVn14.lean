/-
  What Swap does.
-/
import Derived.Test.YthhlckdglifmeaaVn10
import Derived.Lib.AppendZerosOnto
import Derived.Lib.Overlaps
namespace Go.Proofs.Ythhlckdglifmeaa
open Go.RowKit
set_option linter.unusedVariables false
set_option linter.unusedSimpArgs false

def WkAt (w : World) (A : Nat) (k : Int) (u o : Value) : Prop := w.heap[A]? = some (.cells #[.int .i64 k, u, o] 31 (0, 0))
theorem WkAt.carry {w w' : World} {A : Nat} {k : Int} {u o : Value} (h : WkAt w A k u o) (hb : Below w.heap.size w w') : WkAt w' A k u o := (hb.block _ (Array.getElem?_eq_some_iff.1 h).1).trans h
theorem WkAt.new (w : World) (k : Int) (u o : Value) : WkAt (w.alloc (.cells #[.int .i64 k, u, o] 31)) w.heap.size k u o := heap_alloc_new w _
theorem WkAt.cells {w : World} {A : Nat} {k : Int} {u o : Value} (h : WkAt w A k u o) : w.cell? ⟨A, 0, none⟩ = some (.int .i64 k) ∧ w.cell? ⟨A, 1, none⟩ = some u ∧ w.cell? ⟨A, 2, none⟩ = some o :=
  ⟨by rw [cell_of_row w _ 0 _ _ (0, 0) h]; rfl, by rw [cell_of_row w _ 1 _ _ (0, 0) h]; rfl, by rw [cell_of_row w _ 2 _ _ (0, 0) h]; rfl⟩
theorem lvV_at {R : Lvs} {nx sq : Int} {lg : List UInt8} {k : Nat} (hk : k < R.length) : lvV (lvs R, nx, sq, lg) k = (R[k]).2 := by
  unfold lvV
  simp [lvs, hk]
end Go.Proofs.Ythhlckdglifmeaa
