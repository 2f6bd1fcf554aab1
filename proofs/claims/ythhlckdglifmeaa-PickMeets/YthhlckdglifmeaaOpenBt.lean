/-
  What came in reads as bytes, as operations.
-/
import Derived.Test.YthhlckdglifmeaaRows
import Derived.WalkKit
import Derived.KernelRfl
import Derived.Test.YthhlckdglifmeaaKit
import Derived.ProofKit
import Derived.Deep.Slices
import Derived.Deep.Strs
import Derived.OpenShut
import Derived.Lib.SmallJoins
import Derived.SizedLaws
import Derived.Test.YthhlckdglifmeaaBxK
namespace Go.Proofs.Ythhlckdglifmeaa
open Go.ChangeShapes Go.WideShapes Go.ChangeAt Go.RowKit Go.Deep
set_option linter.unusedVariables false
set_option linter.unusedSimpArgs false
section
variable {H : Type} {enc : TypeId × Value → H} {W : World} {base : Nat} {spare : Nat → Bool} {held : Bool}

theorem spot_noneY {w : World} {a : Addr} {v : Value} (h : w.cell? a = some v) : ∃ b off, a = ⟨b, off, none⟩ := by
  obtain ⟨b, off, spot⟩ := a
  have := World.cell?_spot h
  have hs : spot = none := by simpa using this
  subst hs
  exact ⟨b, off, rfl⟩
end
end Go.Proofs.Ythhlckdglifmeaa
