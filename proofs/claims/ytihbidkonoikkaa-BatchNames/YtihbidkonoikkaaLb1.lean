/-
  What the statements BatchOnly and BatchBack answer.
-/
import Derived.Test.YtihbidkonoikkaaBt6
namespace Go.Proofs.Ytihbidkonoikkaa
open Go.RowKit
set_option linter.unusedVariables false
set_option linter.unusedSimpArgs false

theorem rd_takeX {w : World} {a : Option Addr} {n c : Nat} {l : List UInt8} (h : Rd w (.slice a n c) l) (k : Nat) (hk : k ≤ l.length) : n ≤ c ∧ Rd w (.slice a k c) (l.take k) := by
  rcases h with ⟨rfl, e | ⟨x, d, e⟩⟩ | ⟨b, off, c', e, h1, h2, h3⟩
  · cases e
    obtain rfl : k = 0 := by simpa using hk
    exact ⟨Nat.le_refl _, .inl ⟨rfl, .inl rfl⟩⟩
  · cases e
    obtain rfl : k = 0 := by simpa using hk
    exact ⟨Nat.zero_le _, .inl ⟨rfl, .inr ⟨_, _, rfl⟩⟩⟩
  · cases e
    have e1 : (l.take k).length = k := by rw [List.length_take]; omega
    refine ⟨h1, .inr ⟨b, off, c, by rw [e1], by omega, h2, fun j hj => ?_⟩⟩
    rw [List.getElem_take]
    exact h3 j (by omega)
end Go.Proofs.Ytihbidkonoikkaa
