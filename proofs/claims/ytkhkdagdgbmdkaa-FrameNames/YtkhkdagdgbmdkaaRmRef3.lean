/-
  What the document's own Take does.
-/
import Derived.Test.YtkhkdagdgbmdkaaRmKit
import Derived.BigQuiet
namespace Go.Proofs.Ytkhkdagdgbmdkaa
open Go.RowKit
set_option linter.unusedVariables false
set_option linter.unusedSimpArgs false

/-- How far the document's Take has come: so many whole extents, and so many blocks still to go; or all is taken. -/
def TkSt (L : List Ex) (W : Int) (i : Nat) (Z : Int) (O : List Ex) : Prop := (Z = W - manyX (L.take i) ∧ 1 ≤ Z ∧ O = L.take i) ∨ (Z = 0 ∧ cutX L W = some O)
theorem TkSt.last {L : List Ex} {W Z : Int} {i : Nat} {O : List Ex} (h : TkSt L W i Z O) (hi : i < L.length) (hz : 0 < Z) (hp : ∀ x ∈ L, 1 ≤ x.2) (hle : Z ≤ (L[i]).2) : TkSt L W (i + 1) 0 (O ++ [((L[i]).1, Z)]) := by
  rcases h with ⟨h1, h2, rfl⟩ | ⟨h1, _⟩
  · refine .inr ⟨rfl, ?_⟩
    rw [cutX_here (w := W) hi (by omega) hp (by omega), h1]
  · omega
theorem TkSt.more {L : List Ex} {W Z : Int} {i : Nat} {O : List Ex} (h : TkSt L W i Z O) (hi : i < L.length) (hz : 0 < Z) (hlt : (L[i]).2 < Z) : TkSt L W (i + 1) (Z - (L[i]).2) (O ++ [((L[i]).1, (L[i]).2)]) := by
  rcases h with ⟨h1, h2, rfl⟩ | ⟨h1, _⟩
  · refine .inl ⟨?_, by omega, ?_⟩
    · rw [take_snoc L i hi, manyX_snoc]; omega
    · rw [take_snoc L i hi]
  · omega

end Go.Proofs.Ytkhkdagdgbmdkaa
