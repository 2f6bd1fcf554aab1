/-
  Boxes, and bytes that stand in the world of before, or in memory of one's own.
-/
import Derived.Test.YtdgjinfaopkalaaByK
namespace Go.Proofs.Ytdgjinfaopkalaa
open Go.RowKit
set_option linter.unusedVariables false
set_option linter.unusedSimpArgs false

theorem belowX_drewN {B : Nat} {w w' : World} (h : Below B w w') (n : Nat) : Below B w (w'.drewN n) := ⟨h.os, h.tape, h.output, h.size, h.block⟩
def Bx (w : World) (p : Nat) (t : TypeId) (cs : Array Value) : Prop := w.heap[p]? = some (.cells cs t (0, 0))
theorem belowX_set {B : Nat} {W w : World} (h : Below B W w) {p : Nat} (hp : B ≤ p) (j : Nat) (v : Value) : Below B W (w.setCell ⟨p, j, none⟩ v) :=
  ⟨h.os, h.tape, h.output, by simpa using h.size, fun k hk => (heap_setCell_other w ⟨p, j, none⟩ k v (fun e : k = p => by omega)).trans (h.block k hk)⟩
end Go.Proofs.Ytdgjinfaopkalaa
