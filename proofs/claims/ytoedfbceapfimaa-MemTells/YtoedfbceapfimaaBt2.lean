/-
  What batch.appendOp, bytesOf, check and Write do.
-/
import Derived.Test.YtoedfbceapfimaaByK
namespace Go.Proofs.Ytoedfbceapfimaa
open Go.RowKit
set_option linter.unusedVariables false
set_option linter.unusedSimpArgs false

set_option maxHeartbeats 400000 in
set_option maxRecDepth 100000 in
theorem ask_bt (s : Int) (a : Option Addr) (n c : Nat) (l : List Opn) (w : World) (hrd : RdO w (.slice a n c) l) :
    Calls Try.prog 35 #[.int .i64 s, .slice a n c] w fun e w' => e = .returned (.int .i64 (askO s l)) ∧ Below w.heap.size w w' := by
  by_cases h : s < 1 ∨ 1099511627712 < s
  · have HE := hide (show askO s l = 2 by unfold askO; rw [if_pos h])
    go_enter Try.func35, Try.ntmps35
    rcases h with h | h
    · go_wp2
      go_ret
      exact ⟨ret_i64B HE.out.symm, Below.refl _ _⟩
    · have h2 : decide (s < 1) = false := by simpa using (by omega : ¬ s < 1)
      go_wp2
      go_ret
      exact ⟨ret_i64B HE.out.symm, Below.refl _ _⟩
  · have HE := hide (show askO s l = chkO l by unfold askO; rw [if_neg h])
    have h1 : decide (s < 1) = false := by simpa using (by omega : ¬ s < 1)
    have h2 : decide (1099511627712 < s) = false := by simpa using (by omega : ¬ 1099511627712 < s)
    have hc := check_bt a n c l w hrd
    rw [← HE.out] at hc
    clear hrd h HE
    generalize askO s l = x at *
    go_enter Try.func35, Try.ntmps35
    go_wp2_with fail
    refine hc.mono ?_
    rintro e w1 ⟨rfl, b1⟩
    clear hc
    go_wp2
    go_ret
    exact ⟨rfl, b1⟩

end Go.Proofs.Ytoedfbceapfimaa
