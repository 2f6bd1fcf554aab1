/-
  A closed fact on the program's table: the type of bytes.
-/
import Derived.Test.YtmihgljhahkhcaaRows
import Derived.WalkKit
import Derived.KernelRfl
namespace Go.Proofs.Ytmihgljhahkhcaa

theorem Try.infoB : (Try.prog.info? 5).map (fun i => (i.zero, i.size, i.bytes)) = some (some (.int .u8 0), 1, 1) := by kernel_rfl

end Go.Proofs.Ytmihgljhahkhcaa
