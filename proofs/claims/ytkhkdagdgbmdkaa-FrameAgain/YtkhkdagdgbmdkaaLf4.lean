/-
  FrameBack.
-/
import Derived.Test.YtkhkdagdgbmdkaaLf2
namespace Go.Proofs.Ytkhkdagdgbmdkaa
open Go.RowKit
set_option linter.unusedVariables false
set_option linter.unusedSimpArgs false

theorem row_all {h : Hd} {r : List UInt8} : ∀ b ∈ rowB h r, b.length = 128 := by
  intro b hb
  obtain ⟨j, hj, rfl⟩ := List.mem_iff_getElem.1 hb
  rw [rowB_get, fillB_len]
theorem rowB_small {h : Hd} {r : List UInt8} (hr : r.length ≤ 16384) : (rowB h r).length ≤ 154 := by rw [rowB_len]; exact needN_le _ hr

end Go.Proofs.Ytkhkdagdgbmdkaa
