/-
  What batch.cutNumber does.
-/
import Derived.Test.YtmamkkopbegjaaaBxK
namespace Go.Proofs.Ytmamkkopbegjaaa
open Go.RowKit
set_option linter.unusedVariables false
set_option linter.unusedSimpArgs false

theorem subX_drop {b off n c k : Nat} {l : List UInt8} (hn : n = l.length) (hc : n ≤ c) (hm : c ≤ maxLen) (hk : k ≤ n) (hkc : k ≠ c) : ∀ wx, Rd wx (.slice (some ⟨b, off, none⟩) n c) l → Rd wx (.slice (some ⟨b, off + k, none⟩) (l.drop k).length (c - k)) (l.drop k) := by
  subst hn
  have hl : (l.drop k).length = l.length - k := List.length_drop
  intro wx h
  rcases h with ⟨h, _⟩ | ⟨b', off', c', e, h1, h2, h3⟩
  · have : l.drop k = [] := by rw [h]; simp
    rw [this]
    exact .inl ⟨rfl, .inr ⟨_, _, rfl⟩⟩
  · cases e
    refine .inr ⟨b, off + k, c - k, rfl, by omega, by omega, fun j hj => ?_⟩
    rw [List.getElem_drop, Nat.add_assoc]
    exact h3 (k + j) (by omega)

end Go.Proofs.Ytmamkkopbegjaaa
