/-
  The walk of SuperTurns.
-/
import Derived.Test.YtmddobjkkladbaaL3b
namespace Go.Proofs.Ytmddobjkkladbaa
open Go.RowKit
set_option linter.unusedVariables false
set_option linter.unusedSimpArgs false

set_option maxHeartbeats 1000000 in
set_option maxRecDepth 100000 in
theorem superturns_any (gen : Nat) (w : World) (hg : gen < 4294967296) :
    Calls Try.prog 6 #[.int .u32 gen] w fun e w' => e = .returned (.bool true) ∧ Below w.heap.size w w' := by
  obtain ⟨g2, e2, hg2⟩ : ∃ g2 : Nat, ((gen : Int) + 1) % 4294967296 = g2 ∧ g2 < 4294967296 := ⟨(gen + 1) % 4294967296, by omega, by omega⟩
  have e2' : IntKind.u32.wrap ((gen : Int) + 1) = g2 := by rw [IntKind.wrap_u32']; exact e2
  have hp : gen % 2 = 0 ∧ g2 % 2 = 1 ∨ gen % 2 = 1 ∧ g2 % 2 = 0 := by omega
  go_enter Try.func6, Try.ntmps6
  go_wp2_with fail
  refine (alive3_any _).mono ?_
  rintro e w1 ⟨rfl, hb1⟩
  rcases hp with ⟨h1, h2⟩ | ⟨h1, h2⟩
  · go_wp2_with fail
    refine (swhere_any gen _ hg).mono ?_
    rw [h1]
    rintro e w2 ⟨rfl, rfl⟩
    clear h1
    go_wp2_with fail
    refine (swhere_any g2 _ hg2).mono ?_
    rw [h2]
    rintro e w3 ⟨rfl, rfl⟩
    clear h2 e2 e2' hg hg2
    go_wp2
    go_ret
    exact ⟨rfl, hb1⟩
  · go_wp2_with fail
    refine (swhere_any gen _ hg).mono ?_
    rw [h1]
    rintro e w2 ⟨rfl, rfl⟩
    clear h1
    go_wp2_with fail
    refine (swhere_any g2 _ hg2).mono ?_
    rw [h2]
    rintro e w3 ⟨rfl, rfl⟩
    clear h2 e2 e2' hg hg2
    go_wp2
    go_ret
    exact ⟨rfl, hb1⟩

end Go.Proofs.Ytmddobjkkladbaa
