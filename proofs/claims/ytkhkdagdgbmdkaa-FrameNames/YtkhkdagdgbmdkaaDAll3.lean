/-
  What dev's Read and Many do.
-/
import Derived.Test.YtkhkdagdgbmdkaaDSame
namespace Go.Proofs.Ytkhkdagdgbmdkaa
open Go.RowKit
set_option linter.unusedVariables false
set_option linter.unusedSimpArgs false

theorem rd_sub {w : World} {a : Option Addr} {n c : Nat} {l : List UInt8} (h : Rd w (.slice a n c) l) (lo hi : Nat) (h1 : lo < hi) (h2 : hi ≤ l.length) : ∃ b off, a = some ⟨b, off, none⟩ ∧ n = l.length ∧ n ≤ c ∧ Rd w (.slice (some ⟨b, off + lo, none⟩) (hi - lo) (c - lo)) ((l.drop lo).take (hi - lo)) := by
  rcases h with ⟨rfl, _⟩ | ⟨b, off, c', e, e1, e2, hc⟩
  · simp at h2; omega
  · cases e
    refine ⟨b, off, rfl, rfl, e1, ?_⟩
    have hl : ((l.drop lo).take (hi - lo)).length = hi - lo := by rw [List.length_take, List.length_drop]; omega
    refine .inr ⟨b, off + lo, c - lo, by rw [hl], by rw [hl]; omega, by omega, fun j hj => ?_⟩
    rw [hl] at hj
    have := hc (lo + j) (by omega)
    rw [Nat.add_assoc]
    rw [this]
    simp

end Go.Proofs.Ytkhkdagdgbmdkaa
