/-
  Words for entries in memory (layer 11): their order, what is put, what is seen, ranges. No program is named here.
-/
import Derived.Test.YtmamkkopbegjaaaMathBt
namespace Go.Proofs.Ytmamkkopbegjaaa
open Go.RowKit
set_option linter.unusedVariables false
set_option linter.unusedSimpArgs false

def ltS (a b : List UInt8) : Bool := Op.bytesLess a b
def entOk (e : Ent) : Bool := decide (1 ≤ e.1.length) && decide (e.1.length ≤ 64) && decide (1 ≤ e.2.1) && decide (e.2.1 ≤ 1099511627776) && decide (e.2.2.2.length ≤ 512) && (!e.2.2.1 || decide (e.2.2.2 = []))
def ahdM (a b : Ent) : Bool := ltS a.1 b.1 || (decide (a.1 = b.1) && decide (b.2.1 < a.2.1))
end Go.Proofs.Ytmamkkopbegjaaa
