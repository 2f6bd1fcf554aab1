/-
  Words for entries in memory (layer 11): their order, what is put, what is seen, ranges. No program is named here.
-/
import Derived.Test.YtjkoemdojdcmpaaKit
import Derived.Test.YtjkoemdojdcmpaaMathRd
import Derived.Lib.Bytealg
namespace Go.Proofs.Ytjkoemdojdcmpaa
open Go.RowKit
set_option linter.unusedVariables false
set_option linter.unusedSimpArgs false

theorem rdGo_can : ∀ (l : List UInt8) (i acc n k : Nat), i ≤ 9 → rdGo l i acc = some (n, k) → ∃ m, n = acc + m * 128 ^ i ∧ i < k ∧ k - i ≤ l.length ∧ l.take (k - i) = sm m ∧ (0 < i → 0 < m)
  | [], i, acc, n, k, _, h => by simp [rdGo] at h
  | c :: r, i, acc, n, k, hi, h => by
    have hc : c.toNat < 256 := c.toNat_lt
    unfold rdGo at h
    by_cases h1 : i = 9 ∧ 1 < c.toNat
    · rw [if_pos h1] at h; cases h
    · rw [if_neg h1] at h
      by_cases h2 : 128 ≤ c.toNat
      · rw [if_pos h2] at h
        obtain ⟨m, e1, e2, e3, e4, e5⟩ := rdGo_can r (i + 1) _ n k (by omega) h
        have hm : 0 < m := e5 (by omega)
        refine ⟨c.toNat % 128 + 128 * m, ?_, by omega, by rw [List.length_cons]; omega, ?_, fun _ => by omega⟩
        · rw [e1, Nat.pow_succ, Nat.add_mul, Nat.mul_comm 128 m, Nat.mul_assoc m 128, Nat.mul_comm 128 (128 ^ i)]
          omega
        · rw [show k - i = (k - (i + 1)) + 1 by omega, List.take_succ_cons, e4, sm_ge (by omega : 128 ≤ c.toNat % 128 + 128 * m)]
          have a1 : (c.toNat % 128 + 128 * m) % 128 + 128 = c.toNat := by omega
          have a2 : (c.toNat % 128 + 128 * m) / 128 = m := by omega
          rw [a1, a2]
          congr 1
          exact (UInt8.ofNat_toNat).symm
      · rw [if_neg h2] at h
        by_cases h3 : c.toNat = 0 ∧ 0 < i
        · rw [if_pos h3] at h; cases h
        · rw [if_neg h3] at h
          injection h with h
          injection h with e1 e2
          refine ⟨c.toNat, e1.symm, by omega, by rw [List.length_cons]; omega, ?_, fun hi => by omega⟩
          rw [show k - i = 1 by omega, sm_lt (by omega : c.toNat < 128)]
          simp
theorem rd_can {l : List UInt8} {n k : Nat} (h : rd l = some (n, k)) : l = sm n ++ l.drop k ∧ k = (sm n).length := by
  obtain ⟨m, e1, e2, e3, e4, _⟩ := rdGo_can l 0 0 n k (by omega) h
  have hm : n = m := by simpa using e1
  subst hm
  rw [Nat.sub_zero] at e3 e4
  have hk : k = (sm n).length := by rw [← e4, List.length_take]; omega
  exact ⟨by rw [← e4, List.take_append_drop], hk⟩

theorem ct_can {l s r : List UInt8} (h : ct l = some (s, r)) : l = tx s ++ r := by
  cases e : rd l with
  | none => rw [ct_none e] at h; cases h
  | some p =>
    obtain ⟨n, k⟩ := p
    by_cases hn : n ≤ l.length - k
    · rw [ct_some e hn] at h
      injection h with h
      injection h with h1 h2
      subst h1 h2
      obtain ⟨a1, a2⟩ := rd_can e
      have hl : ((l.drop k).take n).length = n := by rw [List.length_take, List.length_drop]; omega
      unfold tx
      rw [hl, List.append_assoc, ← List.drop_drop, List.take_append_drop]
      exact a1
    · rw [ct_long e hn] at h; cases h
end Go.Proofs.Ytjkoemdojdcmpaa
namespace Go.Proofs.Ytjkoemdojdcmpaa
set_option linter.unusedVariables false
set_option linter.unusedSimpArgs false

theorem tx_lenB (s : List UInt8) (h : s.length ≤ 1000000) : (tx s).length ≤ s.length + 10 := by
  have := sm_len_le10 (n := s.length) (by omega)
  unfold tx
  rw [List.length_append]; omega
abbrev Ent := List UInt8 × Int × Bool × List UInt8
end Go.Proofs.Ytjkoemdojdcmpaa
namespace Go.Proofs.Ytjkoemdojdcmpaa
open Go.RowKit
set_option linter.unusedVariables false
set_option linter.unusedSimpArgs false

def ltS (a b : List UInt8) : Bool := Op.bytesLess a b
def entOk (e : Ent) : Bool := decide (1 ≤ e.1.length) && decide (e.1.length ≤ 64) && decide (1 ≤ e.2.1) && decide (e.2.1 ≤ 1099511627776) && decide (e.2.2.2.length ≤ 512) && (!e.2.2.1 || decide (e.2.2.2 = []))
def ahdM (a b : Ent) : Bool := ltS a.1 b.1 || (decide (a.1 = b.1) && decide (b.2.1 < a.2.1))
theorem ahd_iff {a b : Ent} : ahdM a b = true ↔ ltS a.1 b.1 = true ∨ (a.1 = b.1 ∧ b.2.1 < a.2.1) := by
  unfold ahdM; simp
def ordM (l : List Ent) : Nat → Bool
  | 0 => true
  | k + 1 => ordM l k && (entOk (l.getD k ([], 0, false, [])) && (decide (k = 0) || ahdM (l.getD (k - 1) ([], 0, false, [])) (l.getD k ([], 0, false, []))))
end Go.Proofs.Ytjkoemdojdcmpaa
