/-
  What files.Read does: numbers, extents, files are cut from bytes.
-/
import Derived.Test.YtkhkdagdgbmdkaaMathFi3
import Derived.Test.YtkhkdagdgbmdkaaRmKit
import Derived.BigQuiet
import Derived.Test.YtkhkdagdgbmdkaaFiChk2
import Derived.Lib.AppendZerosOnto
import Derived.Lib.Overlaps
import Derived.Test.YtkhkdagdgbmdkaaMathFi
namespace Go.Proofs.Ytkhkdagdgbmdkaa
open Go.RowKit
set_option linter.unusedVariables false
set_option linter.unusedSimpArgs false

/-- Bytes that are read in a block of bytes. -/
def RdU (w : World) (v : Value) (l : List UInt8) : Prop :=
  (l = [] ∧ (v = .slice none 0 0 ∨ ∃ a c, v = .slice (some a) 0 c)) ∨
  ∃ b off c cs, v = .slice (some ⟨b, off, none⟩) l.length c ∧ l.length ≤ c ∧ c ≤ maxLen ∧ w.heap[b]? = some (.cells cs 5 (0, 0)) ∧ ∀ j, (h : j < l.length) → w.cell? ⟨b, off + j, none⟩ = some (.int .u8 (l[j]).toNat)
theorem RdU.rd {w : World} {v : Value} {l : List UInt8} (h : RdU w v l) : Rd w v l := by
  rcases h with h | ⟨b, off, c, cs, e, h1, h2, _, h3⟩
  · exact .inl h
  · exact .inr ⟨b, off, c, e, h1, h2, h3⟩
theorem RdU.carry {w w' : World} {v : Value} {l : List UInt8} (h : RdU w v l) (hb : Below w.heap.size w w') : RdU w' v l := by
  rcases h with h | ⟨b, off, c, cs, e, h1, h2, h4, h3⟩
  · exact .inl h
  · exact .inr ⟨b, off, c, cs, e, h1, h2, (hb.block b (Array.getElem?_eq_some_iff.1 h4).1).trans h4, fun j hj => by rw [hb.cell (World.block_lt_of_cell? w _ (h3 j hj))]; exact h3 j hj⟩
/-- All blocks of another type stay. -/
def KeepT (t0 : TypeId) (w w' : World) : Prop := ∀ (k : Nat) (cs : Array Value) (t : TypeId) (fr : Nat × Nat), t ≠ t0 → w.heap[k]? = some (Obj.cells cs t fr) → w'.heap[k]? = some (Obj.cells cs t fr)
/-- The end of what is read, wherever that is. -/
def SubX (v : Value) (l : List UInt8) (v' : Value) (r : List UInt8) : Prop := (∀ wx, Rd wx v l → Rd wx v' r) ∧ ∀ wx, RdU wx v l → RdU wx v' r
theorem SubX.refl (v : Value) (l : List UInt8) : SubX v l v l := ⟨fun _ h => h, fun _ h => h⟩
theorem SubX.trans {v v1 v2 : Value} {l l1 l2 : List UInt8} (h : SubX v l v1 l1) (k : SubX v1 l1 v2 l2) : SubX v l v2 l2 := ⟨fun w h' => k.1 w (h.1 w h'), fun w h' => k.2 w (h.2 w h')⟩
end Go.Proofs.Ytkhkdagdgbmdkaa
