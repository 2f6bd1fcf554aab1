/-
  What dev's Check and Many do; and the plain mathematics of acts done one by one.
-/
import Derived.Test.YtkhkdagdgbmdkaaDMap2
import Derived.Test.YtkhkdagdgbmdkaaRegD
namespace Go.Proofs.Ytkhkdagdgbmdkaa
open Go.RowKit
set_option linter.unusedVariables false
set_option linter.unusedSimpArgs false

/-- A disk of cnt blocks whose writes may be. -/
def Fine (cnt : Nat) (d : Dk) : Prop := d.1.length = 128 * cnt ∧ d.2.1.length ≤ 65536 ∧ d.2.2.length ≤ 65536 ∧ ∀ p ∈ d.2.1, putE cnt p = 0
theorem Fine.one {cnt : Nat} {d d' : Dk} {a : Ac} (h : Fine cnt d) (ha : actE cnt a = 0) (he : oneD d a = some d') : Fine cnt d' ∧ d'.2.2 = d.2.2 ++ [a] := by
  obtain ⟨h1, h2, h3, h4⟩ := h
  unfold oneD at he
  split at he
  · cases he
  · rename_i hf
    split at he
    · rename_i hs
      cases he
      refine ⟨⟨?_, by simp, by simp; omega, by simp⟩, rfl⟩
      show (setBs d.1 d.2.1).length = _
      rw [setBs_len d.1 d.2.1 d.1 rfl (fun p hp => by have := putE_ok (h4 p hp); omega)]
      exact h1
    · rename_i hs
      cases he
      have hs' : a.1 = false := by simpa using hs
      have ha' : putE cnt a.2 = 0 := by unfold actE at ha; rw [hs'] at ha; exact ha
      refine ⟨⟨h1, by simp; simp [hs'] at hf; omega, by simp; omega, fun p hp => ?_⟩, rfl⟩
      rcases List.mem_append.1 hp with h | h
      · exact h4 p h
      · rw [List.mem_singleton.1 h]; exact ha'
end Go.Proofs.Ytkhkdagdgbmdkaa
