/-
  Words for entries in memory: a place found by comparison, what is put, got and cut out there. No program is named here.
-/
import Derived.Test.YtdgjinfaopkalaaMathMm
namespace Go.Proofs.Ytdgjinfaopkalaa
open Go.RowKit
set_option linter.unusedVariables false
set_option linter.unusedSimpArgs false

def cmpM (a b : Ent) : Int := if ltS a.1 b.1 then -1 else if ltS b.1 a.1 then 1 else if b.2.1 < a.2.1 then -1 else if a.2.1 < b.2.1 then 1 else 0
theorem cmp_neg (a b : Ent) : cmpM a b < 0 ↔ ahdM a b = true := by
  rw [ahd_iff]
  unfold cmpM
  rcases ltS_total a.1 b.1 with h | h | h
  · rw [if_pos h]; exact ⟨fun _ => .inl h, fun _ => by decide⟩
  · rw [h, ltS_irrefl]
    simp only [Bool.false_eq_true, if_false, false_or, true_and]
    by_cases h1 : b.2.1 < a.2.1
    · rw [if_pos h1]; exact ⟨fun _ => h1, fun _ => by decide⟩
    · rw [if_neg h1]
      exact ⟨fun q => by split at q <;> exact absurd q (by decide), fun q => absurd q h1⟩
  · have h1 := ltS_asymm h
    rw [if_neg (by rw [h1]; decide), if_pos h]
    refine ⟨fun q => absurd q (by decide), ?_⟩
    rintro (q | ⟨q, _⟩)
    · rw [h1] at q; cases q
    · rw [q, ltS_irrefl] at h; cases h
end Go.Proofs.Ytdgjinfaopkalaa
