/-
  What the statement VersionMeets answers.
-/
import Derived.Test.YthhlckdglifmeaaVn16
import Derived.Test.YthhlckdglifmeaaRegLP
import Derived.Lib.MinMaxS
namespace Go.Proofs.Ythhlckdglifmeaa
open Go.RowKit
set_option linter.unusedVariables false
set_option linter.unusedSimpArgs false
set_option synthInstance.maxHeartbeats 400000
set_option synthInstance.maxSize 4000

def maxL (a b : List UInt8) : List UInt8 := if ltS a b then b else a
def minL (a b : List UInt8) : List UInt8 := if ltS a b || decide (a = b) then a else b
theorem max_bs (a b : List UInt8) (ts : Array TypeId) (t : TypeId) (wx : World) : (Builtin.max_ ts t #[.string (bs a), .string (bs b)]).run Try.prog wx = .ok (.string (bs (maxL a b))) wx := by
  rw [Lib.run_max_strs]
  unfold Lib.maxS maxL
  have e : ((bs a).data.toList < (bs b).data.toList) ↔ ltS a b = true := by rw [ltS_is, decide_eq_true_iff]; simp
  by_cases h : ltS a b = true
  · rw [if_pos (e.2 h), if_pos h]
  · rw [if_neg (fun q => h (e.1 q)), if_neg h]
theorem min_bs (a b : List UInt8) (ts : Array TypeId) (t : TypeId) (wx : World) : (Builtin.min_ ts t #[.string (bs a), .string (bs b)]).run Try.prog wx = .ok (.string (bs (minL a b))) wx := by
  rw [Lib.run_min_strs]
  unfold Lib.minS minL
  have e : ((bs a).data.toList < (bs b).data.toList ∨ (bs a).data.toList = (bs b).data.toList) ↔ (ltS a b || decide (a = b)) = true := by rw [ltS_is, Bool.or_eq_true, decide_eq_true_iff, decide_eq_true_iff]; simp
  by_cases h : (ltS a b || decide (a = b)) = true
  · rw [if_pos (e.2 h), if_pos h]
  · rw [if_neg (fun q => h (e.1 q)), if_neg h]
end Go.Proofs.Ythhlckdglifmeaa
