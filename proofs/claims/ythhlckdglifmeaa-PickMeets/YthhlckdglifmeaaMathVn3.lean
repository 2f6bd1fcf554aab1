/-
  What the document's Swap is, is the program's: by puts of the document, and its count ahead.
-/
import Derived.Test.YthhlckdglifmeaaVn14
namespace Go.Proofs.Ythhlckdglifmeaa

theorem flat_setL {α : Type} : ∀ (L : List (List α)) (k : Nat) (b : List α), (h : k < L.length) → (L.set k b).flatten.length + (L[k]).length = L.flatten.length + b.length
  | x :: L, 0, b, _ => by simp; omega
  | x :: L, k + 1, b, h => by
    have := flat_setL L k b (by simpa using h)
    simp at this ⊢; omega
theorem swpL_len {L : List (List Mta)} {k : Nat} {a b : List Mta} (hk : k + 1 < L.length) : (swpL L k a b).flatten.length + (L[k]).length + (L[k + 1]).length = L.flatten.length + a.length + b.length := by
  have h1 := flat_setL L k a (by omega)
  have h2 := flat_setL (L.set k a) (k + 1) b (by simpa using hk)
  unfold swpL
  rw [List.getElem_set_ne (by omega)] at h2
  omega
end Go.Proofs.Ythhlckdglifmeaa
