/-
  Words for entries in memory (layer 11): their order, what is put, what is seen, ranges. No program is named here.
-/
import Derived.Test.YtjkoemdojdcmpaaMathFi3
namespace Go.Proofs.Ytjkoemdojdcmpaa
set_option linter.unusedVariables false
set_option linter.unusedSimpArgs false

theorem tx_lenB (s : List UInt8) (h : s.length ≤ 1000000) : (tx s).length ≤ s.length + 10 := by
  have := sm_len_le10 (n := s.length) (by omega)
  unfold tx
  rw [List.length_append]; omega
abbrev Ent := List UInt8 × Int × Bool × List UInt8
end Go.Proofs.Ytjkoemdojdcmpaa
namespace Go.Proofs.Ytjkoemdojdcmpaa
open Go.RowKit
set_option linter.unusedVariables false
set_option linter.unusedSimpArgs false

def ltS (a b : List UInt8) : Bool := Op.bytesLess a b
theorem ltS_irrefl : ∀ a : List UInt8, ltS a a = false
  | [] => rfl
  | x :: a => by
    have h := ltS_irrefl a
    unfold ltS at h ⊢
    simp [Op.bytesLess, h]
theorem u8_lt_iff {a b : UInt8} : a < b ↔ a.toNat < b.toNat := UInt8.lt_iff_toNat_lt
theorem ltS_cons (x y : UInt8) (a b : List UInt8) : ltS (x :: a) (y :: b) = true ↔ x < y ∨ (x = y ∧ ltS a b = true) := by
  unfold ltS
  simp [Op.bytesLess]
theorem ltS_trans : ∀ {a b c : List UInt8}, ltS a b = true → ltS b c = true → ltS a c = true
  | _, [], _, h, _ => by simp [ltS, Op.bytesLess] at h
  | _, _ :: _, [], _, h => by simp [ltS, Op.bytesLess] at h
  | [], _ :: _, _ :: _, _, _ => by simp [ltS, Op.bytesLess]
  | x :: a, y :: b, z :: c, h, k => by
    rw [ltS_cons] at h k ⊢
    rcases h with h | ⟨rfl, h⟩
    · rcases k with k | ⟨rfl, k⟩
      · left; rw [u8_lt_iff] at *; omega
      · exact .inl h
    · rcases k with k | ⟨rfl, k⟩
      · exact .inl k
      · exact .inr ⟨rfl, ltS_trans h k⟩
def entOk (e : Ent) : Bool := decide (1 ≤ e.1.length) && decide (e.1.length ≤ 64) && decide (1 ≤ e.2.1) && decide (e.2.1 ≤ 1099511627776) && decide (e.2.2.2.length ≤ 512) && (!e.2.2.1 || decide (e.2.2.2 = []))
def ahdM (a b : Ent) : Bool := ltS a.1 b.1 || (decide (a.1 = b.1) && decide (b.2.1 < a.2.1))
theorem ahd_iff {a b : Ent} : ahdM a b = true ↔ ltS a.1 b.1 = true ∨ (a.1 = b.1 ∧ b.2.1 < a.2.1) := by
  unfold ahdM; simp
theorem ahd_trans {a b c : Ent} (h : ahdM a b = true) (k : ahdM b c = true) : ahdM a c = true := by
  rw [ahd_iff] at *
  rcases h with h | ⟨e, h⟩
  · rcases k with k | ⟨f, k⟩
    · exact .inl (ltS_trans h k)
    · exact .inl (f ▸ h)
  · rcases k with k | ⟨f, k⟩
    · exact .inl (e ▸ k)
    · exact .inr ⟨e.trans f, by omega⟩
def inR (a b k : List UInt8) : Bool := !ltS k a && (decide (b = []) || ltS k b)
def partM (l : List Ent) (a b : List UInt8) : List Ent := l.filter fun e => inR a b e.1
end Go.Proofs.Ytjkoemdojdcmpaa
