/-
  Rows of operations and entries; what batch.mayBe, batch.Check and the document's Op and Check do.
-/
import Derived.Test.YthhlckdglifmeaaRowG
import Derived.Test.YthhlckdglifmeaaKit
import Derived.Test.YthhlckdglifmeaaMathRd
import Derived.Lib.Bytealg
import Derived.Test.YthhlckdglifmeaaRows
import Derived.WalkKit
import Derived.KernelRfl
import Derived.WalkSpells
import Derived.WalkLawsBesides
import Derived.Deep.QuietTactic
import Derived.BigQuiet
import Derived.Deep.RegionHeld3
import Derived.Lib.SliceRun
import Derived.Laws.StructEq
namespace Go.Proofs.Ythhlckdglifmeaa
open Go.RowKit
set_option linter.unusedVariables false
set_option linter.unusedSimpArgs false

theorem ret_boolB {a b : Bool} (h : a = b) : Ending.returned (.bool a) = .returned (.bool b) := by rw [h]
theorem ret_i64B {a b : Int} (h : a = b) : Ending.returned (.int .i64 a) = .returned (.int .i64 b) := by rw [h]
end Go.Proofs.Ythhlckdglifmeaa
