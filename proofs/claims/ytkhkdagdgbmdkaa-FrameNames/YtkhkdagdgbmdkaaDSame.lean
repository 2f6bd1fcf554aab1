/-
  What bytes.Equal and dev's samePut and Same do.
-/
import Derived.Test.YtkhkdagdgbmdkaaDTop
namespace Go.Proofs.Ytkhkdagdgbmdkaa
open Go.RowKit
set_option linter.unusedVariables false
set_option linter.unusedSimpArgs false

theorem ret_boolD {a b : Bool} (h : a = b) : Ending.returned (.bool a) = .returned (.bool b) := by rw [h]
theorem bs_beq (l m : List UInt8) : ((bs l).toList == (bs m).toList) = decide (l = m) := by
  have e : ∀ x : List UInt8, (bs x).toList = x := fun x => by rw [ByteArray.toList_eq]; simp [bs]
  rw [e, e]
  by_cases h : l = m <;> simp [h]

theorem equal_any (a b : Value) (l m : List UInt8) (w : World) (h : Rd w a l) (k : Rd w b m) :
    Calls Try.prog 27 #[a, b] w fun e w' => e = .returned (.bool (decide (l = m))) ∧ w' = w := by
  have h1 := conv_rd (P := Try.prog) 25 5 9 Try.underlying25 Try.underlying5 Try.underlying9 h
  have h2 := conv_rd (P := Try.prog) 25 5 9 Try.underlying25 Try.underlying5 Try.underlying9 k
  clear h k
  go_enter Try.func27, Try.ntmps27
  go_wp2
  go_ret
  exact ⟨ret_boolD (bs_beq l m), rfl⟩

end Go.Proofs.Ytkhkdagdgbmdkaa
