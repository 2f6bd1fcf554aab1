/-
  Boxes, and bytes that stand in the world of before, or in memory of one's own.
-/
import Derived.Test.YtmamkkopbegjaaaByK
namespace Go.Proofs.Ytmamkkopbegjaaa
open Go.RowKit
set_option linter.unusedVariables false
set_option linter.unusedSimpArgs false

theorem belowX_drewN {B : Nat} {w w' : World} (h : Below B w w') (n : Nat) : Below B w (w'.drewN n) := ⟨h.os, h.tape, h.output, h.size, h.block⟩
theorem belowX_set {B : Nat} {W w : World} (h : Below B W w) {p : Nat} (hp : B ≤ p) (j : Nat) (v : Value) : Below B W (w.setCell ⟨p, j, none⟩ v) :=
  ⟨h.os, h.tape, h.output, by simpa using h.size, fun k hk => (heap_setCell_other w ⟨p, j, none⟩ k v (fun e : k = p => by omega)).trans (h.block k hk)⟩
theorem rd_formX {w : World} {v : Value} {l : List UInt8} (h : Rd w v l) : ∃ a c, v = .slice a l.length c := by
  rcases h with ⟨rfl, rfl | ⟨a, c, rfl⟩⟩ | ⟨b, off, c, rfl, _⟩ <;> exact ⟨_, _, rfl⟩
theorem rd_cellX {w : World} {a : Option Addr} {n c : Nat} {l : List UInt8} (h : Rd w (.slice a n c) l) (j : Nat) (hj : j < l.length) : ∃ g off, a = some ⟨g, off, none⟩ ∧ w.cell? ⟨g, off + j, none⟩ = some (.int .u8 (l[j]).toNat) := by
  rcases h with ⟨rfl, _⟩ | ⟨b, off, c', e, _, _, hc⟩
  · exact absurd hj (by simp)
  · cases e
    exact ⟨b, off, rfl, hc j hj⟩
end Go.Proofs.Ytmamkkopbegjaaa
