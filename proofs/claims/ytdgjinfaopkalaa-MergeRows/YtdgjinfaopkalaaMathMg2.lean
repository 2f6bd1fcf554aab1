/-
  What is seen and what is left of a row in order, as parts of it. No program is named here.
-/
import Derived.Test.YtdgjinfaopkalaaMathMg
namespace Go.Proofs.Ytdgjinfaopkalaa
open Go.RowKit
set_option linter.unusedVariables false
set_option linter.unusedSimpArgs false

abbrev OrdG (l : List Ent) : Prop := l.Pairwise (fun a b => ahdM a b = true)
theorem ahd_irr (e : Ent) : ahdM e e = false := by
  cases h : ahdM e e with
  | false => rfl
  | true =>
    rcases ahd_iff.1 h with h | ⟨_, h⟩
    · rw [ltS_irrefl] at h; cases h
    · omega
theorem ahd_asy {a b : Ent} (h : ahdM a b = true) : ahdM b a = false := by
  cases k : ahdM b a with
  | false => rfl
  | true => have := ahd_trans h k; rw [ahd_irr] at this; cases this
theorem cmp_pos {a b : Ent} (h : ahdM b a = true) : ¬ cmpM a b ≤ 0 := by
  have h1 := ahd_asy h
  intro q
  have h2 : ¬ cmpM a b < 0 := fun r => by rw [(cmp_neg a b).1 r] at h1; cases h1
  have h3 : cmpM a b = 0 := by omega
  rcases ahd_iff.1 h with k | ⟨k, r⟩
  · unfold cmpM at h3
    rw [if_neg (by rw [ltS_asymm k]; decide), if_pos k] at h3
    exact absurd h3 (by decide)
  · unfold cmpM at h3
    rw [k, ltS_irrefl] at h3
    simp only [Bool.false_eq_true, if_false] at h3
    rw [if_neg (by omega), if_pos r] at h3
    exact absurd h3 (by decide)
theorem cmp_ahd {a b : Ent} (h : ahdM a b = true) : cmpM a b ≤ 0 := by have := (cmp_neg a b).2 h; omega
end Go.Proofs.Ytdgjinfaopkalaa
