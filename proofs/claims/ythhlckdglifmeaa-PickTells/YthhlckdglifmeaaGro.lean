/-
  Small laws of our own over the model: a row of bytes that is handed on, call by call, and appended to: what else lies in memory stays. No program is named here.
-/
import Derived.Test.YthhlckdglifmeaaReg
import Derived.Deep.AppendLies
namespace Go.Proofs.Ythhlckdglifmeaa
open Go.RowKit
set_option linter.unusedVariables false
set_option linter.unusedSimpArgs false

theorem hide {p : Prop} (h : p) : Hid p := h

section
variable {P : Program}

end
end Go.Proofs.Ythhlckdglifmeaa
