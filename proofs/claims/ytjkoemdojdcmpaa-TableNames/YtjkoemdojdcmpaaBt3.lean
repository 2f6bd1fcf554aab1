/-
  What batch.cutNumber does.
-/
import Derived.Test.YtjkoemdojdcmpaaByK
namespace Go.Proofs.Ytjkoemdojdcmpaa
open Go.RowKit
set_option linter.unusedVariables false
set_option linter.unusedSimpArgs false

theorem belowX_drewN {B : Nat} {w w' : World} (h : Below B w w') (n : Nat) : Below B w (w'.drewN n) := ⟨h.os, h.tape, h.output, h.size, h.block⟩
def Bx (w : World) (p : Nat) (t : TypeId) (cs : Array Value) : Prop := w.heap[p]? = some (.cells cs t (0, 0))
theorem Bx.keep {w w' : World} {p : Nat} {t t0 : TypeId} {cs : Array Value} (h : Bx w p t cs) (hk : KeepG t0 w w') (ht : t ≠ t0) : Bx w' p t cs := hk p _ _ _ ht h
theorem Bx.cell {w : World} {p : Nat} {t : TypeId} {cs : Array Value} (h : Bx w p t cs) (j : Nat) : w.cell? ⟨p, j, none⟩ = cs[j]? := cell_of_row w p j cs t (0, 0) h
theorem Bx.at {w : World} {p : Nat} {t : TypeId} {cs : Array Value} (h : Bx w p t cs) (j : Nat) {u : Value} (hu : cs[j]? = some u) : w.cell? ⟨p, j, none⟩ = some u := (h.cell j).trans hu
theorem Bx.fz {w : World} {p : Nat} {t : TypeId} {cs : Array Value} (h : Bx w p t cs) (j : Nat) : w.frozen? ⟨p, j, none⟩ = false := frozen_of_row w p j _ _ h
theorem Bx.new (w : World) (t : TypeId) (cs : Array Value) : Bx (w.alloc (.cells cs t)) w.heap.size t cs := heap_alloc_new w _
theorem Bx.put {w : World} {p : Nat} {t : TypeId} {cs : Array Value} (h : Bx w p t cs) (j : Nat) (v : Value) : Bx (w.setCell ⟨p, j, none⟩ v) p t (cs.setIfInBounds j v) := heap_setCell_same w p j cs t v h
theorem belowX_set {B : Nat} {W w : World} (h : Below B W w) {p : Nat} (hp : B ≤ p) (j : Nat) (v : Value) : Below B W (w.setCell ⟨p, j, none⟩ v) :=
  ⟨h.os, h.tape, h.output, by simpa using h.size, fun k hk => (heap_setCell_other w ⟨p, j, none⟩ k v (fun e : k = p => by omega)).trans (h.block k hk)⟩
theorem rd_formX {w : World} {v : Value} {l : List UInt8} (h : Rd w v l) : ∃ a c, v = .slice a l.length c := by
  rcases h with ⟨rfl, rfl | ⟨a, c, rfl⟩⟩ | ⟨b, off, c, rfl, _⟩ <;> exact ⟨_, _, rfl⟩
theorem rd_cellX {w : World} {a : Option Addr} {n c : Nat} {l : List UInt8} (h : Rd w (.slice a n c) l) (j : Nat) (hj : j < l.length) : ∃ g off, a = some ⟨g, off, none⟩ ∧ w.cell? ⟨g, off + j, none⟩ = some (.int .u8 (l[j]).toNat) := by
  rcases h with ⟨rfl, _⟩ | ⟨b, off, c', e, _, _, hc⟩
  · exact absurd hj (by simp)
  · cases e
    exact ⟨b, off, rfl, hc j hj⟩

theorem subX_drop {b off n c k : Nat} {l : List UInt8} (hn : n = l.length) (hc : n ≤ c) (hm : c ≤ maxLen) (hk : k ≤ n) (hkc : k ≠ c) : ∀ wx, Rd wx (.slice (some ⟨b, off, none⟩) n c) l → Rd wx (.slice (some ⟨b, off + k, none⟩) (l.drop k).length (c - k)) (l.drop k) := by
  subst hn
  have hl : (l.drop k).length = l.length - k := List.length_drop
  intro wx h
  rcases h with ⟨h, _⟩ | ⟨b', off', c', e, h1, h2, h3⟩
  · have : l.drop k = [] := by rw [h]; simp
    rw [this]
    exact .inl ⟨rfl, .inr ⟨_, _, rfl⟩⟩
  · cases e
    refine .inr ⟨b, off + k, c - k, rfl, by omega, by omega, fun j hj => ?_⟩
    rw [List.getElem_drop, Nat.add_assoc]
    exact h3 (k + j) (by omega)

end Go.Proofs.Ytjkoemdojdcmpaa
