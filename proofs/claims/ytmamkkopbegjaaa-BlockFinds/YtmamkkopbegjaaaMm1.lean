/-
  What mem.mayBe and the library's comparisons do.
-/
import Derived.Test.YtmamkkopbegjaaaBt7
import Derived.Test.YtmamkkopbegjaaaMathMm
namespace Go.Proofs.Ytmamkkopbegjaaa
open Go.RowKit
set_option linter.unusedVariables false
set_option linter.unusedSimpArgs false

theorem entOk_iff (e : Ent) : entOk e = true ↔ 1 ≤ e.1.length ∧ e.1.length ≤ 64 ∧ 1 ≤ e.2.1 ∧ e.2.1 ≤ 1099511627776 ∧ e.2.2.2.length ≤ 512 ∧ (e.2.2.1 = false ∨ e.2.2.2 = []) := by
  unfold entOk
  simp [and_assoc]

theorem lt_bs (s t : List UInt8) : Op.bytesLess (bs s).toList (bs t).toList = ltS s t := by
  rw [ByteArray.toList_eq, ByteArray.toList_eq, bs_toList, bs_toList]; rfl

def EntAt (w : World) (A : Nat) (x : Ent) : Prop := w.heap[A]? = some (.cells #[.string (bs x.1), .int .i64 x.2.1, .bool x.2.2.1, .string (bs x.2.2.2)] 29 (0, 0))
theorem EntAt.carry {w w' : World} {A : Nat} {x : Ent} (h : EntAt w A x) (hb : Below w.heap.size w w') : EntAt w' A x := (hb.block _ (Array.getElem?_eq_some_iff.1 h).1).trans h
theorem EntAt.new (w : World) (x : Ent) : EntAt (w.alloc (.cells #[.string (bs x.1), .int .i64 x.2.1, .bool x.2.2.1, .string (bs x.2.2.2)] 29)) w.heap.size x := heap_alloc_new w _
theorem EntAt.cells {w : World} {A : Nat} {x : Ent} (h : EntAt w A x) : w.cell? ⟨A, 0, none⟩ = some (.string (bs x.1)) ∧ w.cell? ⟨A, 1, none⟩ = some (.int .i64 x.2.1) ∧ w.cell? ⟨A, 2, none⟩ = some (.bool x.2.2.1) ∧ w.cell? ⟨A, 3, none⟩ = some (.string (bs x.2.2.2)) :=
  ⟨by rw [cell_of_row w _ 0 _ _ (0, 0) h]; rfl, by rw [cell_of_row w _ 1 _ _ (0, 0) h]; rfl, by rw [cell_of_row w _ 2 _ _ (0, 0) h]; rfl, by rw [cell_of_row w _ 3 _ _ (0, 0) h]; rfl⟩
end Go.Proofs.Ytmamkkopbegjaaa
