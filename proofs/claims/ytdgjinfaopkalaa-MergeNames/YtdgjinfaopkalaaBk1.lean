/-
  What block.Common, byteOf, entryMayBe and stands, and the document's Common, Key, May and Ahead of layer 12 do.
-/
import Derived.Test.YtdgjinfaopkalaaMathMm
import Derived.Test.YtdgjinfaopkalaaMm1
import Derived.Test.YtdgjinfaopkalaaBxK
import Derived.BigQuiet
namespace Go.Proofs.Ytdgjinfaopkalaa
open Go.RowKit
set_option linter.unusedVariables false
set_option linter.unusedSimpArgs false

theorem ix_bk (s : List UInt8) (k : Nat) (h : k < s.length) (wx : World) : (Instr.index 9 (.string (bs s)) (.int .i64 k)).run Try.prog wx = .ok (.int .u8 (s[k]).toNat) wx := by
  rw [run_index_string wx 9 (bs s) .i64 k Try.underlying9, dif_pos ⟨by omega, by rw [bs_size]; omega⟩]
  rfl
end Go.Proofs.Ytdgjinfaopkalaa
