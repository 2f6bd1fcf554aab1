/-
  What files.Read does: a file is cut from bytes.
-/
import Derived.Test.YtkhkdagdgbmdkaaFiCut
namespace Go.Proofs.Ytkhkdagdgbmdkaa
open Go.RowKit
set_option linter.unusedVariables false
set_option linter.unusedSimpArgs false

theorem KeepT.trans {t0 : TypeId} {w w1 w2 : World} (h : KeepT t0 w w1) (k : KeepT t0 w1 w2) : KeepT t0 w w2 := fun i cs t fr ht hi => k i cs t fr ht (h i cs t fr ht hi)
theorem KeepT.set {w : World} {q i : Nat} {cs : Array Value} {t0 : TypeId} {u : Value} (h : w.heap[q]? = some (.cells cs t0 (0, 0))) : KeepT t0 w (w.setCell ⟨q, i, none⟩ u) := fun k ds t fr ht hk => by
  have : k ≠ q := by
    rintro rfl
    rw [h] at hk
    cases hk
    exact ht rfl
  exact (heap_setCell_other w ⟨q, i, none⟩ k u this).trans hk
end Go.Proofs.Ytkhkdagdgbmdkaa
