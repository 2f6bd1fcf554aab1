/-
  What files.Read does: a file is cut from bytes.
-/
import Derived.Test.YtmamkkopbegjaaaFiCut
namespace Go.Proofs.Ytmamkkopbegjaaa
open Go.RowKit
set_option linter.unusedVariables false
set_option linter.unusedSimpArgs false

theorem KeepT.set {w : World} {q i : Nat} {cs : Array Value} {t0 : TypeId} {u : Value} (h : w.heap[q]? = some (.cells cs t0 (0, 0))) : KeepT t0 w (w.setCell ⟨q, i, none⟩ u) := fun k ds t fr ht hk => by
  have : k ≠ q := by
    rintro rfl
    rw [h] at hk
    cases hk
    exact ht rfl
  exact (heap_setCell_other w ⟨q, i, none⟩ k u this).trans hk
end Go.Proofs.Ytmamkkopbegjaaa
