/-
  Plain mathematics: the number that a list of small bytes tells, reckoned from its end, is the one reckoned from its beginning.
-/
import Derived.Test.YtjkoemdojdcmpaaMath
namespace Go.Proofs.Ytjkoemdojdcmpaa

def hv : List UInt8 → Nat
  | [] => 0
  | c :: r => c.toNat % 128 + 128 * hv r

theorem rdGo_fits : ∀ (l : List UInt8) (i acc n k : Nat), i ≤ 9 → acc < 128 ^ i → rdGo l i acc = some (n, k) → i < k ∧ k ≤ i + l.length ∧ k ≤ 10 ∧ n < 18446744073709551616
  | [], i, acc, n, k, _, _, h => by simp [rdGo] at h
  | c :: r, i, acc, n, k, hi, ha, h => by
    rw [rdGo] at h
    split at h
    · simp at h
    · rename_i h9
      split at h
      · rename_i hge
        have hi9 : i ≠ 9 := by intro e; exact h9 ⟨e, by omega⟩
        have := rdGo_fits r (i + 1) _ n k (by omega) (acc_next ha) h
        simp only [List.length_cons]; omega
      · rename_i hlt
        split at h
        · simp at h
        · simp only [Option.some.injEq, Prod.mk.injEq] at h
          obtain ⟨rfl, rfl⟩ := h
          refine ⟨by omega, by simp only [List.length_cons]; omega, by omega, ?_⟩
          by_cases e : i = 9
          · subst e
            have h2 : c.toNat * 128 ^ 9 ≤ 1 * 128 ^ 9 := Nat.mul_le_mul_right _ (by omega)
            omega
          · have h3 : 128 ^ i ≤ 128 ^ 8 := Nat.pow_le_pow_right (by decide) (by omega)
            have h2 : c.toNat * 128 ^ i ≤ 127 * 128 ^ 8 := Nat.mul_le_mul (by omega) h3
            omega
theorem rd_fits {l : List UInt8} {n k : Nat} (h : rd l = some (n, k)) : 0 < k ∧ k ≤ l.length ∧ k ≤ 10 ∧ n < 18446744073709551616 := by
  have := rdGo_fits l 0 0 n k (by omega) (by decide) h
  omega

theorem rdGo_sm : ∀ (m : Nat) (r : List UInt8) (i acc : Nat), i ≤ 9 → m * 128 ^ i < 18446744073709551616 → (0 < i → 0 < m) → rdGo (sm m ++ r) i acc = some (acc + m * 128 ^ i, i + (sm m).length) := by
  intro m
  induction m using Nat.strongRecOn with
  | ind m ih =>
    intro r i acc hi hm h0
    by_cases hlt : m < 128
    · have e : (UInt8.ofNat m).toNat = m := by rw [UInt8.toNat_ofNat']; omega
      rw [sm_lt hlt]
      simp only [List.cons_append, List.nil_append, List.length_cons, List.length_nil]
      rw [rdGo_last (by
        rw [e]; rintro ⟨rfl, h1⟩
        have : 2 * 128 ^ 9 ≤ m * 128 ^ 9 := Nat.mul_le_mul_right _ (by omega)
        omega) (by omega) (by rw [e]; intro h; have := h0 h.2; omega), e]
    · have e : (UInt8.ofNat (m % 128 + 128)).toNat = m % 128 + 128 := by rw [UInt8.toNat_ofNat']; omega
      have hi9 : i ≠ 9 := by
        rintro rfl
        have : 128 * 128 ^ 9 ≤ m * 128 ^ 9 := Nat.mul_le_mul_right _ (by omega)
        omega
      have hp : m / 128 * 128 ^ (i + 1) + m % 128 * 128 ^ i = m * 128 ^ i := by
        rw [Nat.pow_succ, Nat.mul_comm (128 ^ i) 128, ← Nat.mul_assoc, ← Nat.add_mul]
        congr 1; omega
      rw [sm_ge (by omega), List.cons_append, rdGo_more hi9 (by omega), e, ih (m / 128) (by omega) r (i + 1) _ (by omega) (by omega) (by omega)]
      rw [show (m % 128 + 128) % 128 = m % 128 by omega]
      simp only [List.length_cons, Option.some.injEq, Prod.mk.injEq]
      omega
theorem rd_sm (n : Nat) (hn : n < 18446744073709551616) (r : List UInt8) : rd (sm n ++ r) = some (n, (sm n).length) := by
  unfold rd; rw [rdGo_sm n r 0 0 (by omega) (by omega) (by omega)]; simp

def ct (l : List UInt8) : Option (List UInt8 × List UInt8) :=
  match rd l with
  | none => none
  | some (n, k) => if n ≤ l.length - k then some ((l.drop k).take n, l.drop (k + n)) else none
theorem ct_none {l : List UInt8} (h : rd l = none) : ct l = none := by simp [ct, h]
theorem ct_long {l : List UInt8} {n k : Nat} (h : rd l = some (n, k)) (hn : ¬ n ≤ l.length - k) : ct l = none := by simp [ct, h, hn]
theorem ct_some {l : List UInt8} {n k : Nat} (h : rd l = some (n, k)) (hn : n ≤ l.length - k) : ct l = some ((l.drop k).take n, l.drop (k + n)) := by simp [ct, h, hn]
def tx (s : List UInt8) : List UInt8 := sm s.length ++ s
theorem ct_tx (s r : List UInt8) (hs : s.length < 18446744073709551616) : ct (tx s ++ r) = some (s, r) := by
  have h := rd_sm s.length hs (s ++ r)
  unfold tx
  rw [List.append_assoc]
  rw [ct_some h (by simp)]
  simp [List.drop_append]

end Go.Proofs.Ytjkoemdojdcmpaa
