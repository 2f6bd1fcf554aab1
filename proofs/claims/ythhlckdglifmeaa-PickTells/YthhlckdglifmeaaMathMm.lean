/-
  Words for entries in memory (layer 11): their order, what is put, what is seen, ranges. No program is named here.
-/
import Derived.Test.YthhlckdglifmeaaKit
import Derived.Test.YthhlckdglifmeaaMathRd
import Derived.Lib.Bytealg
namespace Go.Proofs.Ythhlckdglifmeaa
open Go.RowKit
set_option linter.unusedVariables false
set_option linter.unusedSimpArgs false

def ltS (a b : List UInt8) : Bool := Op.bytesLess a b
theorem ltS_irrefl : ∀ a : List UInt8, ltS a a = false
  | [] => rfl
  | x :: a => by
    have h := ltS_irrefl a
    unfold ltS at h ⊢
    simp [Op.bytesLess, h]
theorem u8_lt_iff {a b : UInt8} : a < b ↔ a.toNat < b.toNat := UInt8.lt_iff_toNat_lt
theorem ltS_cons (x y : UInt8) (a b : List UInt8) : ltS (x :: a) (y :: b) = true ↔ x < y ∨ (x = y ∧ ltS a b = true) := by
  unfold ltS
  simp [Op.bytesLess]
theorem ltS_trans : ∀ {a b c : List UInt8}, ltS a b = true → ltS b c = true → ltS a c = true
  | _, [], _, h, _ => by simp [ltS, Op.bytesLess] at h
  | _, _ :: _, [], _, h => by simp [ltS, Op.bytesLess] at h
  | [], _ :: _, _ :: _, _, _ => by simp [ltS, Op.bytesLess]
  | x :: a, y :: b, z :: c, h, k => by
    rw [ltS_cons] at h k ⊢
    rcases h with h | ⟨rfl, h⟩
    · rcases k with k | ⟨rfl, k⟩
      · left; rw [u8_lt_iff] at *; omega
      · exact .inl h
    · rcases k with k | ⟨rfl, k⟩
      · exact .inl k
      · exact .inr ⟨rfl, ltS_trans h k⟩
theorem ltS_total : ∀ (a b : List UInt8), ltS a b = true ∨ a = b ∨ ltS b a = true
  | [], [] => .inr (.inl rfl)
  | [], _ :: _ => .inl (by simp [ltS, Op.bytesLess])
  | _ :: _, [] => .inr (.inr (by simp [ltS, Op.bytesLess]))
  | x :: a, y :: b => by
    rw [ltS_cons, ltS_cons, u8_lt_iff, u8_lt_iff]
    by_cases h : x.toNat = y.toNat
    · obtain rfl : x = y := UInt8.toNat_inj.1 h
      rcases ltS_total a b with k | rfl | k
      · exact .inl (.inr ⟨rfl, k⟩)
      · exact .inr (.inl rfl)
      · exact .inr (.inr (.inr ⟨rfl, k⟩))
    · by_cases k : x.toNat < y.toNat
      · exact .inl (.inl k)
      · exact .inr (.inr (.inl (by omega)))
theorem ltS_asymm {a b : List UInt8} (h : ltS a b = true) : ltS b a = false := by
  cases k : ltS b a with
  | false => rfl
  | true => have := ltS_trans h k; rw [ltS_irrefl] at this; cases this
end Go.Proofs.Ythhlckdglifmeaa
