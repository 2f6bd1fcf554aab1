/-
  The walk of SuperNames.
-/
import Derived.Test.YtkhkdagdgbmdkaaSNum
namespace Go.Proofs.Ytkhkdagdgbmdkaa
open Go.RowKit
set_option linter.unusedVariables false
set_option linter.unusedSimpArgs false

theorem make128 (w : World) : ∃ w2, (Instr.makeSlice 25 (.int .i64 128) (.int .i64 128)).run Try.prog w = .ok (.slice (some ⟨w.heap.size, 0, none⟩) 128 128) w2 ∧ OwB w2 w.heap.size (.slice (some ⟨w.heap.size, 0, none⟩) 128 128) (List.replicate 128 0) ∧ Below w.heap.size w w2 := by
  obtain ⟨i0, hi, hz0, hz1, hz2⟩ := info_parts Try.infoB
  obtain ⟨w2, hmake, hown2, hg2⟩ := run_make_full (P := Try.prog) w w.heap.size 25 5 i0 _ 1 Try.underlying25 hi hz0 hz1 .i64 .i64 128 (by rw [hz2]; decide) (by unfold maxLen; decide) (Nat.le_refl _)
  refine ⟨w2, hmake, ?_, (Below.refl _ _).grown hg2 (Nat.le_refl _) (fun k hk => by cases hk)⟩
  show w2.ownsRow _ _ _ _ _ _
  rw [List.length_replicate]
  have e : (madeCells (Value.int IntKind.u8 0).cells (128 * 1)).toList = u8v (List.replicate 128 0) := by
    show (madeCells #[Value.int .u8 0] (128 * 1)).toList = _
    rw [toList_madeCells_one]
    simp [u8v]
  rw [← e]
  exact hown2

end Go.Proofs.Ytkhkdagdgbmdkaa
