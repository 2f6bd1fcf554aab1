/-
  Plain mathematics: the number that a list of small bytes tells, reckoned from its end, is the one reckoned from its beginning.
-/
import Derived.Test.YtmeaiocohalphaaDoorMath
namespace Go.Proofs.YtmeaiocohalphaaDoor

def hv : List UInt8 → Nat
  | [] => 0
  | c :: r => c.toNat % 128 + 128 * hv r

theorem hv_snoc : ∀ (p : List UInt8) (c : UInt8), hv (p ++ [c]) = hv p + c.toNat % 128 * 128 ^ p.length
  | [], c => by simp [hv]
  | x :: p, c => by
    simp only [List.cons_append, hv, hv_snoc p c, List.length_cons, Nat.pow_succ, Nat.mul_add]
    rw [show c.toNat % 128 * (128 ^ p.length * 128) = 128 * (c.toNat % 128 * 128 ^ p.length) by rw [← Nat.mul_assoc, Nat.mul_comm]]
    omega
theorem hv_lt : ∀ p : List UInt8, hv p < 128 ^ p.length
  | [] => by simp [hv]
  | x :: p => by
    have := hv_lt p
    simp only [hv, List.length_cons, Nat.pow_succ]; omega

theorem rdGo_pre : ∀ (p r : List UInt8) (i acc : Nat), (∀ x ∈ p, 128 ≤ x.toNat) → i + p.length ≤ 9 → rdGo (p ++ r) i acc = rdGo r (i + p.length) (acc + hv p * 128 ^ i)
  | [], r, i, acc, _, _ => by simp [hv]
  | x :: p, r, i, acc, h, hl => by
    simp only [List.length_cons] at hl
    rw [List.cons_append, rdGo_more (by omega) (h x (by simp)), rdGo_pre p r (i + 1) _ (fun y hy => h y (by simp [hy])) (by omega)]
    congr 1
    · simp only [List.length_cons]; omega
    · simp only [hv, Nat.pow_succ, Nat.add_mul]
      rw [show 128 * hv p * 128 ^ i = hv p * (128 ^ i * 128) by rw [Nat.mul_comm 128 (hv p), Nat.mul_assoc, Nat.mul_comm 128]]
      omega

theorem rd_split (l : List UInt8) (k : Nat) (h9 : k ≤ 9) (hk : k ≤ l.length) (hp : ∀ j, (h : j < l.length) → j < k → 128 ≤ (l[j]).toNat) : rd l = rdGo (l.drop k) k (hv (l.take k)) := by
  have e : l = l.take k ++ l.drop k := (List.take_append_drop k l).symm
  have hlen : (l.take k).length = k := by simp; omega
  unfold rd
  rw [e, rdGo_pre _ _ _ _ (by
    intro x hx
    obtain ⟨j, hj, rfl⟩ := List.mem_iff_getElem.1 hx
    rw [hlen] at hj
    simp only [List.getElem_take]
    exact hp j (by omega) hj) (by omega)]
  rw [hlen]
  simp

theorem rd_end (l : List UInt8) (h10 : l.length ≤ 10) (hp : ∀ j, (h : j < l.length) → 128 ≤ (l[j]).toNat) : rd l = none := by
  by_cases h9 : l.length ≤ 9
  · rw [rd_split l l.length h9 (Nat.le_refl _) (fun j h _ => hp j h)]; simp [rdGo]
  · rw [rd_split l 9 (by omega) (by omega) (fun j h _ => hp j h), List.drop_eq_getElem_cons (by omega), rdGo_big (by have := hp 9 (by omega); omega)]
theorem rd_ten (l : List UInt8) (h10 : 10 ≤ l.length) (hp : ∀ j, (h : j < l.length) → j < 10 → 128 ≤ (l[j]).toNat) : rd l = none := by
  rw [rd_split l 9 (by omega) (by omega) (fun j h _ => hp j h (by omega)), List.drop_eq_getElem_cons (by omega), rdGo_big (by have := hp 9 (by omega) (by omega); omega)]
theorem rd_big (l : List UInt8) (h10 : 9 < l.length) (hp : ∀ j, (h : j < l.length) → j < 9 → 128 ≤ (l[j]).toNat) (hb : 1 < (l[9]).toNat) : rd l = none := by
  rw [rd_split l 9 (by omega) (by omega) (fun j h _ => hp j h (by omega)), List.drop_eq_getElem_cons (by omega), rdGo_big hb]
theorem rd_zero (l : List UInt8) (k : Nat) (hk : k < l.length) (h9 : k ≤ 9) (h0 : 0 < k) (hp : ∀ j, (h : j < l.length) → j < k → 128 ≤ (l[j]).toNat) (hb : (l[k]).toNat = 0) : rd l = none := by
  rw [rd_split l k h9 (by omega) hp, List.drop_eq_getElem_cons hk, rdGo_zero hb h0]

def hvd (l : List UInt8) (k j : Nat) : Nat := hv ((l.take (k + 1)).drop j)
theorem hvd_top (l : List UInt8) (k : Nat) : hvd l k (k + 1) = 0 := by
  unfold hvd; rw [List.drop_eq_nil_of_le (by simp; omega)]; rfl
theorem hvd_step (l : List UInt8) (k j : Nat) (hj : j ≤ k) (hk : k < l.length) : hvd l k j = (l[j]).toNat % 128 + 128 * hvd l k (j + 1) := by
  unfold hvd; rw [List.drop_eq_getElem_cons (by simp; omega)]; simp [hv]
theorem hvd_le (l : List UInt8) (k : Nat) (hk : k < l.length) : ∀ j, j ≤ k + 1 → hvd l k j ≤ hvd l k 0
  | 0, _ => Nat.le_refl _
  | j + 1, h => by
    have := hvd_le l k hk j (by omega)
    have := hvd_step l k j (by omega) hk
    omega
theorem hvd_zero (l : List UInt8) (k : Nat) (hk : k < l.length) : hvd l k 0 = hv (l.take k) + (l[k]).toNat % 128 * 128 ^ k := by
  unfold hvd
  rw [List.drop_zero, List.take_succ_eq_append_getElem hk, hv_snoc]
  simp [Nat.min_eq_left (show k ≤ l.length by omega)]
theorem hvd_bound (l : List UInt8) (k : Nat) (hk : k < l.length) (h9 : k ≤ 9) (hb : k = 9 → (l[k]).toNat ≤ 1) : hvd l k 0 < 18446744073709551616 := by
  rw [hvd_zero l k hk]
  have h1 := hv_lt (l.take k)
  have e : (l.take k).length = k := by simp; omega
  rw [e] at h1
  by_cases h : k = 9
  · have := hb h
    subst h
    have h2 : (l[9]).toNat % 128 * 128 ^ 9 ≤ 1 * 128 ^ 9 := Nat.mul_le_mul_right _ (by omega)
    omega
  · have h3 : 128 ^ k ≤ 128 ^ 8 := Nat.pow_le_pow_right (by decide) (by omega)
    have h2 : (l[k]).toNat % 128 * 128 ^ k ≤ 127 * 128 ^ 8 := Nat.mul_le_mul (by omega) h3
    omega
theorem rd_some (l : List UInt8) (k : Nat) (hk : k < l.length) (h9 : k ≤ 9) (hp : ∀ j, (h : j < l.length) → j < k → 128 ≤ (l[j]).toNat) (hlt : (l[k]).toNat < 128)
    (hb : k = 9 → (l[k]).toNat ≤ 1) (hz : ¬ (0 < k ∧ (l[k]).toNat = 0)) : rd l = some (hvd l k 0, k + 1) := by
  rw [rd_split l k h9 (by omega) hp, List.drop_eq_getElem_cons hk, rdGo_last (by intro h; have := hb h.1; omega) hlt (by omega), hvd_zero l k hk, Nat.mod_eq_of_lt hlt]

theorem rdGo_fits : ∀ (l : List UInt8) (i acc n k : Nat), i ≤ 9 → acc < 128 ^ i → rdGo l i acc = some (n, k) → i < k ∧ k ≤ i + l.length ∧ k ≤ 10 ∧ n < 18446744073709551616
  | [], i, acc, n, k, _, _, h => by simp [rdGo] at h
  | c :: r, i, acc, n, k, hi, ha, h => by
    rw [rdGo] at h
    split at h
    · simp at h
    · rename_i h9
      split at h
      · rename_i hge
        have hi9 : i ≠ 9 := by intro e; exact h9 ⟨e, by omega⟩
        have := rdGo_fits r (i + 1) _ n k (by omega) (acc_next ha) h
        simp only [List.length_cons]; omega
      · rename_i hlt
        split at h
        · simp at h
        · simp only [Option.some.injEq, Prod.mk.injEq] at h
          obtain ⟨rfl, rfl⟩ := h
          refine ⟨by omega, by simp only [List.length_cons]; omega, by omega, ?_⟩
          by_cases e : i = 9
          · subst e
            have h2 : c.toNat * 128 ^ 9 ≤ 1 * 128 ^ 9 := Nat.mul_le_mul_right _ (by omega)
            omega
          · have h3 : 128 ^ i ≤ 128 ^ 8 := Nat.pow_le_pow_right (by decide) (by omega)
            have h2 : c.toNat * 128 ^ i ≤ 127 * 128 ^ 8 := Nat.mul_le_mul (by omega) h3
            omega
theorem rd_fits {l : List UInt8} {n k : Nat} (h : rd l = some (n, k)) : 0 < k ∧ k ≤ l.length ∧ k ≤ 10 ∧ n < 18446744073709551616 := by
  have := rdGo_fits l 0 0 n k (by omega) (by decide) h
  omega

def ct (l : List UInt8) : Option (List UInt8 × List UInt8) :=
  match rd l with
  | none => none
  | some (n, k) => if n ≤ l.length - k then some ((l.drop k).take n, l.drop (k + n)) else none
theorem ct_none {l : List UInt8} (h : rd l = none) : ct l = none := by simp [ct, h]
theorem ct_long {l : List UInt8} {n k : Nat} (h : rd l = some (n, k)) (hn : ¬ n ≤ l.length - k) : ct l = none := by simp [ct, h, hn]
theorem ct_some {l : List UInt8} {n k : Nat} (h : rd l = some (n, k)) (hn : n ≤ l.length - k) : ct l = some ((l.drop k).take n, l.drop (k + n)) := by simp [ct, h, hn]
def tx (s : List UInt8) : List UInt8 := sm s.length ++ s
end Go.Proofs.YtmeaiocohalphaaDoor
