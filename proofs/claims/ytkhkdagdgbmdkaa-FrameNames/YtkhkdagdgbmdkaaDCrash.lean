/-
  What dev's Crash does.
-/
import Derived.Test.YtkhkdagdgbmdkaaDAll3
namespace Go.Proofs.Ytkhkdagdgbmdkaa
open Go.RowKit
set_option linter.unusedVariables false
set_option linter.unusedSimpArgs false

/-- A slice of bools that reads as K. -/
def RdK (w : World) (v : Value) (K : List Bool) : Prop :=
  (K = [] ∧ (v = .slice none 0 0 ∨ ∃ a c, v = .slice (some a) 0 c)) ∨
  ∃ b off c, v = .slice (some ⟨b, off, none⟩) K.length c ∧ K.length ≤ c ∧ c ≤ maxLen ∧ ∀ j, (h : j < K.length) → w.cell? ⟨b, off + j, none⟩ = some (.bool K[j])
theorem RdK.carry {w w' : World} {v : Value} {K : List Bool} (h : RdK w v K) (hb : Below w.heap.size w w') : RdK w' v K := by
  rcases h with h | ⟨b, off, c, rfl, hc, hm, hcell⟩
  · exact .inl h
  · exact .inr ⟨b, off, c, rfl, hc, hm, fun j hj => keeps_cell _ _ _ _ (hcell j hj) hb⟩
theorem RdK.at {w : World} {a : Option Addr} {n c : Nat} {K : List Bool} (h : RdK w (.slice a n c) K) (j : Nat) (hj : j < K.length) : ∃ b off, a = some ⟨b, off, none⟩ ∧ w.cell? ⟨b, off + j, none⟩ = some (.bool K[j]) := by
  rcases h with ⟨rfl, _⟩ | ⟨b, off, c', e, _, _, hc⟩
  · exact absurd hj (by simp)
  · cases e; exact ⟨b, off, rfl, hc j hj⟩
theorem RdK.form {w : World} {v : Value} {K : List Bool} (h : RdK w v K) : ∃ a c, v = .slice a K.length c := by
  rcases h with ⟨rfl, rfl | ⟨a, c, rfl⟩⟩ | ⟨b, off, c, rfl, _⟩ <;> exact ⟨_, _, rfl⟩
end Go.Proofs.Ytkhkdagdgbmdkaa
