/-
  The library's Delete of one table; what without does.
-/
import Derived.Test.YthhlckdglifmeaaVn9
namespace Go.Proofs.Ythhlckdglifmeaa
open Go.RowKit
set_option linter.unusedVariables false
set_option linter.unusedSimpArgs false

theorem sizeMv (wx : World) : (sizeOf (Try.prog.elem 26)).run Try.prog wx = .ok 5 wx := by
  rw [show Try.prog.elem 26 = 28 by kernel_rfl]
  obtain ⟨i0, hi, hz0, hz1, hz2⟩ := info_parts Try.infoMt
  simp [sizeOf, typeInfo, hi, hz1]
end Go.Proofs.Ythhlckdglifmeaa
