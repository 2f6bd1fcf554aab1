/-
  Rows of extents and of numbers, read and owned; the marks, an array of bools behind a pointer.
-/
import Derived.Test.YtmamkkopbegjaaaBase
import Derived.Test.YtmamkkopbegjaaaKit
import Derived.Test.YtmamkkopbegjaaaRegP
import Derived.Test.YtmamkkopbegjaaaGro
namespace Go.Proofs.Ytmamkkopbegjaaa
open Go.RowKit
set_option linter.unusedVariables false
set_option linter.unusedSimpArgs false

theorem grown_setCellE (w : World) (a : Addr) (u : Value) : w.grownBy (w.setCell a u) (some a.block) :=
  ⟨rfl, rfl, rfl, by simp, fun k _ hk => heap_setCell_other w a k u (fun e => hk (by simp [e]))⟩
/-! ### extents -/
/-! ### numbers -/
/-! ### marks -/
end Go.Proofs.Ytmamkkopbegjaaa
