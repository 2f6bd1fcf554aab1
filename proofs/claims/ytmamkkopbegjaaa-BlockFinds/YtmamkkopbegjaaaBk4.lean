/-
  What block.appendEntry, bytesOf and Write do.
-/
import Derived.Test.YtmamkkopbegjaaaBk2
import Derived.Test.YtmamkkopbegjaaaEnK
namespace Go.Proofs.Ytmamkkopbegjaaa
open Go.RowKit
set_option linter.unusedVariables false
set_option linter.unusedSimpArgs false

theorem bs_drop (l : List UInt8) (i n : Nat) (hn : n = l.length) : (bs l).extract i n = bs (l.drop i) := by
  subst hn
  rw [← bs_of ((bs l).extract _ _)]
  congr 1
  simp [bs, ByteArray.data_extract, List.take_of_length_le]
theorem bs_take (l : List UInt8) (j : Nat) (hj : j ≤ l.length) : (bs l).extract 0 j = bs (l.take j) := by
  rw [← bs_of ((bs l).extract _ _)]
  congr 1
  simp [bs, ByteArray.data_extract]

end Go.Proofs.Ytmamkkopbegjaaa
