/-
  Plain mathematics: the number that a list of small bytes tells, reckoned from its end, is the one reckoned from its beginning.
-/
import Derived.Test.YtihbidkonoikkaaMath
namespace Go.Proofs.Ytihbidkonoikkaa

def hv : List UInt8 → Nat
  | [] => 0
  | c :: r => c.toNat % 128 + 128 * hv r

theorem rdGo_fits : ∀ (l : List UInt8) (i acc n k : Nat), i ≤ 9 → acc < 128 ^ i → rdGo l i acc = some (n, k) → i < k ∧ k ≤ i + l.length ∧ k ≤ 10 ∧ n < 18446744073709551616
  | [], i, acc, n, k, _, _, h => by simp [rdGo] at h
  | c :: r, i, acc, n, k, hi, ha, h => by
    rw [rdGo] at h
    split at h
    · simp at h
    · rename_i h9
      split at h
      · rename_i hge
        have hi9 : i ≠ 9 := by intro e; exact h9 ⟨e, by omega⟩
        have := rdGo_fits r (i + 1) _ n k (by omega) (acc_next ha) h
        simp only [List.length_cons]; omega
      · rename_i hlt
        split at h
        · simp at h
        · simp only [Option.some.injEq, Prod.mk.injEq] at h
          obtain ⟨rfl, rfl⟩ := h
          refine ⟨by omega, by simp only [List.length_cons]; omega, by omega, ?_⟩
          by_cases e : i = 9
          · subst e
            have h2 : c.toNat * 128 ^ 9 ≤ 1 * 128 ^ 9 := Nat.mul_le_mul_right _ (by omega)
            omega
          · have h3 : 128 ^ i ≤ 128 ^ 8 := Nat.pow_le_pow_right (by decide) (by omega)
            have h2 : c.toNat * 128 ^ i ≤ 127 * 128 ^ 8 := Nat.mul_le_mul (by omega) h3
            omega
theorem rd_fits {l : List UInt8} {n k : Nat} (h : rd l = some (n, k)) : 0 < k ∧ k ≤ l.length ∧ k ≤ 10 ∧ n < 18446744073709551616 := by
  have := rdGo_fits l 0 0 n k (by omega) (by decide) h
  omega

def ct (l : List UInt8) : Option (List UInt8 × List UInt8) :=
  match rd l with
  | none => none
  | some (n, k) => if n ≤ l.length - k then some ((l.drop k).take n, l.drop (k + n)) else none
theorem ct_none {l : List UInt8} (h : rd l = none) : ct l = none := by simp [ct, h]
theorem ct_long {l : List UInt8} {n k : Nat} (h : rd l = some (n, k)) (hn : ¬ n ≤ l.length - k) : ct l = none := by simp [ct, h, hn]
theorem ct_some {l : List UInt8} {n k : Nat} (h : rd l = some (n, k)) (hn : n ≤ l.length - k) : ct l = some ((l.drop k).take n, l.drop (k + n)) := by simp [ct, h, hn]
def tx (s : List UInt8) : List UInt8 := sm s.length ++ s
end Go.Proofs.Ytihbidkonoikkaa
