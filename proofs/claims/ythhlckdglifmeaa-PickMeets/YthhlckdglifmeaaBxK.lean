/-
  Boxes, and bytes that stand in the world of before, or in memory of one's own.
-/
import Derived.Test.YthhlckdglifmeaaByK
namespace Go.Proofs.Ythhlckdglifmeaa
open Go.RowKit
set_option linter.unusedVariables false
set_option linter.unusedSimpArgs false

theorem belowX_drewN {B : Nat} {w w' : World} (h : Below B w w') (n : Nat) : Below B w (w'.drewN n) := ⟨h.os, h.tape, h.output, h.size, h.block⟩
theorem belowX_set {B : Nat} {W w : World} (h : Below B W w) {p : Nat} (hp : B ≤ p) (j : Nat) (v : Value) : Below B W (w.setCell ⟨p, j, none⟩ v) :=
  ⟨h.os, h.tape, h.output, by simpa using h.size, fun k hk => (heap_setCell_other w ⟨p, j, none⟩ k v (fun e : k = p => by omega)).trans (h.block k hk)⟩
theorem OwG.keep {α : Type} {sz : Nat} {ec : α → List Value} {t t0 : TypeId} {w w' : World} {base : Nat} {v : Value} {l : List α} (h : OwG sz ec t w base v l) (hk : KeepG t0 w w') (ht : t ≠ t0) : OwG sz ec t w' base v l := by
  refine ⟨h.1, ?_⟩
  rcases h.2 with h | ⟨g, cap, cur, e, h1, h2, h3⟩
  · exact .inl h
  · exact .inr ⟨g, cap, cur, e, h1, hk g _ _ _ ht h2, h3⟩
end Go.Proofs.Ythhlckdglifmeaa
