/-
  Plain mathematics of package batch: operations, their bytes, what is read of bytes. No program is named here.
-/
import Derived.Test.YtdgjinfaopkalaaKit
import Derived.Test.YtdgjinfaopkalaaMathRd
import Derived.Lib.Bytealg
namespace Go.Proofs.Ytdgjinfaopkalaa
set_option linter.unusedVariables false
set_option linter.unusedSimpArgs false

abbrev Ent := List UInt8 × Int × Bool × List UInt8
end Go.Proofs.Ytdgjinfaopkalaa
