/-
  Small laws of our own over the model: a region whose order is drawn and whose calls make new memory, walked once: what is known of the world is made stronger behind each call. No program is named here.
-/
import Derived.Test.YtmihgljhahkhcaaKit
import Derived.Deep.RegionHeld3
namespace Go.Proofs.Ytmihgljhahkhcaa
open Go.RowKit

theorem own_carry {w w' : World} {base : Nat} {e : TypeId} {size : Nat} {v : Value} {n : Nat} {xs : List Value} (h : w.ownsRow base e size v n xs) (hb : Below w.heap.size w w') : w'.ownsRow base e size v n xs := by
  refine ⟨h.1, ?_⟩
  rcases h.2 with h | ⟨g, cap, cur, rfl, h1, h2, h3⟩
  · exact .inl h
  · refine .inr ⟨g, cap, cur, rfl, h1, ?_, h3⟩
    rw [hb.block g (by have := Array.getElem?_eq_some_iff.1 h2; exact this.1)]
    exact h2

section
variable {P : Program} {ops : Array Oper} {Q : Exit → Act → World → Prop} {md : Region.Mode}

end
end Go.Proofs.Ytmihgljhahkhcaa
