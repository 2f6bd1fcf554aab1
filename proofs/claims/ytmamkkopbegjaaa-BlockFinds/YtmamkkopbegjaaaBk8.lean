/-
  What block.Read and Find do.
-/
import Derived.Test.YtmamkkopbegjaaaBk7
namespace Go.Proofs.Ytmamkkopbegjaaa
open Go.RowKit
set_option linter.unusedVariables false
set_option linter.unusedSimpArgs false

theorem fd_e1 {b key : List UInt8} {seq : Int} (h : rdKE b ≠ 0) : fdE b key seq = rdKE b := by unfold fdE; rw [if_neg h]
theorem fd_e2 {b key : List UInt8} {seq : Int} (h : rdKE b = 0) (h2 : key.length < 1 ∨ 64 < key.length) : fdE b key seq = 3 := by unfold fdE; rw [if_pos h, if_pos h2]
theorem fd_e3 {b key : List UInt8} {seq : Int} (h : rdKE b = 0) (h2 : ¬ (key.length < 1 ∨ 64 < key.length)) (h3 : seq < 0 ∨ 1099511627776 < seq) : fdE b key seq = 2 := by unfold fdE; rw [if_pos h, if_neg h2, if_pos h3]
theorem fd_e4 {b key : List UInt8} {seq : Int} (h : rdKE b = 0) (h2 : ¬ (key.length < 1 ∨ 64 < key.length)) (h3 : ¬ (seq < 0 ∨ 1099511627776 < seq)) : fdE b key seq = 0 := by unfold fdE; rw [if_pos h, if_neg h2, if_neg h3]

end Go.Proofs.Ytmamkkopbegjaaa
