/-
  FilesTurns: the region in which all answers are held against each other.
-/
import Derived.Test.YtjjhaahlinbpdaaFiTur
import Derived.Test.YtjjhaahlinbpdaaRegF
namespace Go.Proofs.Ytjjhaahlinbpdaa
open Go.RowKit
set_option linter.unusedVariables false
set_option linter.unusedSimpArgs false

theorem calls_bool5 {P : Program} {f : FuncId} {args : Array Value} {w : World} {b r : Bool} (h : b = r) (hc : Calls P f args w fun e w' => e = .returned (.bool b) ∧ Below w.heap.size w w') : Calls P f args w fun e w' => e = .returned (.bool r) ∧ Below w.heap.size w w' := h ▸ hc
theorem calls_int5 {P : Program} {f : FuncId} {args : Array Value} {w : World} {b r : Int} (h : b = r) (hc : Calls P f args w fun e w' => e = .returned (.int .i64 b) ∧ Below w.heap.size w w') : Calls P f args w fun e w' => e = .returned (.int .i64 r) ∧ Below w.heap.size w w' := h ▸ hc
theorem keeps_below5 (w0 : World) : Keeps (fun wx => Below w0.heap.size w0 wx) := fun _ _ h hb => h.trans (hb.mono h.size)

end Go.Proofs.Ytjjhaahlinbpdaa
