/-
  What frame's Read does: the log of some blocks.
-/
import Derived.Test.YtkhkdagdgbmdkaaFr7
namespace Go.Proofs.Ytkhkdagdgbmdkaa
open Go.RowKit
set_option linter.unusedVariables false
set_option linter.unusedSimpArgs false

/-- A variable that holds a log. -/
def LogAt (w : World) (B : Nat) (rv : Value) (k p m : Nat) : Prop := w.heap[B]? = some (.cells #[rv, .int .i64 k, .int .u32 p, .int .u32 m] 31 (0, 0))
theorem LogAt.cells {w : World} {B : Nat} {rv : Value} {k p m : Nat} (h : LogAt w B rv k p m) : w.cell? ⟨B, 0, none⟩ = some rv ∧ w.cell? ⟨B, 1, none⟩ = some (.int .i64 k) ∧ w.cell? ⟨B, 2, none⟩ = some (.int .u32 p) ∧ w.cell? ⟨B, 3, none⟩ = some (.int .u32 m) ∧ ∀ j, w.frozen? ⟨B, j, none⟩ = false := beg_cells h
theorem LogAt.lt {w : World} {B : Nat} {rv : Value} {k p m : Nat} (h : LogAt w B rv k p m) : B < w.heap.size := (Array.getElem?_eq_some_iff.1 h).1
theorem LogAt.carry {w w' : World} {B base : Nat} {rv : Value} {k p m : Nat} (h : LogAt w B rv k p m) (hb : Below base w w') (hB : B < base) (hbs : base ≤ w.heap.size) : LogAt w' B rv k p m := by
  unfold LogAt at *
  rw [hb.block B (by omega)]; exact h
theorem LogAt.other {w : World} {B : Nat} {rv : Value} {k p m : Nat} (h : LogAt w B rv k p m) (a : Addr) (v : Value) (hne : B ≠ a.block) : LogAt (w.setCell a v) B rv k p m := by
  unfold LogAt at *
  rw [heap_setCell_other w a B v hne]; exact h
end Go.Proofs.Ytkhkdagdgbmdkaa
