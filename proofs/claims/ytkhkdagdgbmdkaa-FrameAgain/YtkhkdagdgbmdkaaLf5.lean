/-
  FrameTorn.
-/
import Derived.Test.YtkhkdagdgbmdkaaLf4
namespace Go.Proofs.Ytkhkdagdgbmdkaa
open Go.RowKit
set_option linter.unusedVariables false
set_option linter.unusedSimpArgs false

theorem layL_mem {l : List (List UInt8)} {at0 : Nat} {over : List (List UInt8)} {K : List Bool} (h1 : ∀ b ∈ l, b.length = 128) (h2 : ∀ b ∈ over, b.length = 128) : ∀ b ∈ layL l at0 over K, b.length = 128 := by
  intro b hb
  obtain ⟨j, hj, rfl⟩ := List.mem_iff_getElem.1 hb
  have hj' : j < l.length := by rw [layL_len] at hj; exact hj
  rw [layL_get l at0 over K j hj']
  split
  · rename_i h
    rw [List.getD, List.getElem?_eq_getElem h.2.1]
    exact h2 _ (List.getElem_mem _)
  · exact h1 _ (List.getElem_mem _)
theorem layL_chk {l : List (List UInt8)} {at0 : Nat} {over : List (List UInt8)} {K : List Bool} (h1 : chkL l = 0) (h2 : ∀ b ∈ over, b.length = 128) : chkL (layL l at0 over K) = 0 := by
  obtain ⟨a, b⟩ := chkL_ok h1
  exact chkL_of (by rw [layL_len]; exact a) (layL_mem b h2)
theorem rdE_ok {g : Nat} {l : List (List UInt8)} (h : rdE g l = 0) : g ≠ 0 ∧ chkL l = 0 := by
  unfold rdE at h
  split at h
  · cases h
  · exact ⟨by assumption, h⟩
theorem rdE_of {g : Nat} {l : List (List UInt8)} (h : g ≠ 0) (h2 : chkL l = 0) : rdE g l = 0 := by unfold rdE; rw [if_neg h, h2]
theorem rdG_ok {g : Nat} {l : List (List UInt8)} (h : rdE g l = 0) : rdG g l = ((logO g l).map (·.1), sumO (logO g l), endO 0 (logO g l), greatB g (l.drop (sumO (logO g l)))) := by
  unfold rdG; rw [if_neg (fun e => e h)]
theorem log_lt (g : Nat) (l : List (List UInt8)) : (logO g l).length ≤ sumO (logO g l) ∧ sumO (logO g l) ≤ l.length ∧ endO 0 (logO g l) < 4294967296 ∧ greatB g (l.drop (sumO (logO g l))) < 4294967296 :=
  ⟨(steps_sum g _ 1 0 l).2, (steps_sum g _ 1 0 l).1, steps_end g _ 1 0 l (by omega), great_lt g _ 0 (by omega)⟩

end Go.Proofs.Ytkhkdagdgbmdkaa
