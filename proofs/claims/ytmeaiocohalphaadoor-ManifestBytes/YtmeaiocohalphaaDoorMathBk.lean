/-
  Plain mathematics of package block (layer 12): entries as bytes, what is read of bytes, what is found. No program is named here.
-/
import Derived.Test.YtmeaiocohalphaaDoorMathVn
namespace Go.Proofs.YtmeaiocohalphaaDoor
open Go.RowKit
set_option linter.unusedVariables false
set_option linter.unusedSimpArgs false

def cutW (most : Nat) (l : List UInt8) : Option (Nat × List UInt8) :=
  match rd l with
  | none => none
  | some (n, k) => if n ≤ most then some (n, l.drop k) else none
theorem cutW_rd {most m : Nat} {l r : List UInt8} (h : cutW most l = some (m, r)) : ∃ k, rd l = some (m, k) ∧ m ≤ most ∧ r = l.drop k := by
  unfold cutW at h
  cases e : rd l with
  | none => rw [e] at h; cases h
  | some p =>
    obtain ⟨n, k⟩ := p
    rw [e] at h
    simp only at h
    by_cases hm : n ≤ most
    · rw [if_pos hm] at h
      injection h with h
      injection h with e1 e2
      subst e1 e2
      exact ⟨k, rfl, hm, rfl⟩
    · rw [if_neg hm] at h; cases h
theorem cutW_can {most n : Nat} {l r : List UInt8} (h : cutW most l = some (n, r)) : l = sm n ++ r ∧ n ≤ most := by
  obtain ⟨k, h1, h2, rfl⟩ := cutW_rd h
  exact ⟨(rd_can h1).1, h2⟩
theorem cutW_cases {most : Nat} {l : List UInt8} (h : cutW most l = none) : rd l = none ∨ ∃ m k, rd l = some (m, k) ∧ most < m := by
  unfold cutW at h
  cases e : rd l with
  | none => exact .inl rfl
  | some p =>
    obtain ⟨n, k⟩ := p
    rw [e] at h
    simp only at h
    by_cases hm : n ≤ most
    · rw [if_pos hm] at h; cases h
    · exact .inr ⟨n, k, rfl, by omega⟩
theorem ct_len {l s r : List UInt8} (h : ct l = some (s, r)) : r.length ≤ l.length ∧ s.length ≤ l.length := by
  have := congrArg List.length (ct_can h)
  unfold tx at this
  rw [List.length_append, List.length_append] at this
  omega

end Go.Proofs.YtmeaiocohalphaaDoor
