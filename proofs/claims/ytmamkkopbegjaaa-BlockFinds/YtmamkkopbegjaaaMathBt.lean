/-
  Plain mathematics of package batch: operations, their bytes, what is read of bytes. No program is named here.
-/
import Derived.Test.YtmamkkopbegjaaaMathFi3
namespace Go.Proofs.Ytmamkkopbegjaaa
set_option linter.unusedVariables false
set_option linter.unusedSimpArgs false

theorem tx_lenB (s : List UInt8) (h : s.length ≤ 1000000) : (tx s).length ≤ s.length + 10 := by
  have := sm_len_le10 (n := s.length) (by omega)
  unfold tx
  rw [List.length_append]; omega
abbrev Ent := List UInt8 × Int × Bool × List UInt8
end Go.Proofs.Ytmamkkopbegjaaa
