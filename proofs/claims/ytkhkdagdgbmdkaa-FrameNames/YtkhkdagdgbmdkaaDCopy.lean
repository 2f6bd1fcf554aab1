/-
  What bytes.Clone and dev's copies do: what they answer is new memory that reads as what was handed in.
-/
import Derived.Test.YtkhkdagdgbmdkaaMathDk
import Derived.Test.YtkhkdagdgbmdkaaGro
import Derived.Test.YtkhkdagdgbmdkaaRegD
import Derived.Test.YtkhkdagdgbmdkaaBase
import Derived.Laws.OwnMore
import Derived.WalkSpells
import Derived.WalkLawsBesides
import Derived.Lib.SliceRun
namespace Go.Proofs.Ytkhkdagdgbmdkaa
open Go.RowKit
set_option linter.unusedVariables false
set_option linter.unusedSimpArgs false

theorem own_mono {w : World} {base base' : Nat} {e : TypeId} {size : Nat} {v : Value} {n : Nat} {xs : List Value} (h : w.ownsRow base e size v n xs) (hb : base' ≤ base) : w.ownsRow base' e size v n xs :=
  ⟨h.1, h.2.imp id fun ⟨g, cap, cur, h1, h2, h3⟩ => ⟨g, cap, cur, h1, Nat.le_trans hb h2, h3⟩⟩

/-- A slice of bytes of one's own (from the block base on) that reads as l. -/
def OwB (w : World) (base : Nat) (v : Value) (l : List UInt8) : Prop := w.ownsRow base 5 1 v l.length (u8v l)
theorem OwB.rd {w : World} {base : Nat} {v : Value} {l : List UInt8} (h : OwB w base v l) : Rd w v l := own_rd h
theorem OwB.form {w : World} {base : Nat} {v : Value} {l : List UInt8} (h : OwB w base v l) : ∃ a c, v = .slice a l.length c := h.rd.form
theorem OwB.carry {w w' : World} {base : Nat} {v : Value} {l : List UInt8} (h : OwB w base v l) (hb : Below w.heap.size w w') : OwB w' base v l := own_carry h hb
theorem OwB.mono {w : World} {base base' : Nat} {v : Value} {l : List UInt8} (h : OwB w base v l) (hb : base' ≤ base) : OwB w base' v l := own_mono h hb
theorem OwB.grown {w w' : World} {base g : Nat} {v : Value} {l : List UInt8} (h : OwB w base v l) (hg : w.grownBy w' (some g)) (hb : g < base) : OwB w' base v l :=
  World.ownsRow.kept h hg (by cases hv : v.ownBlock with | none => exact .inl rfl | some k => right; intro e; have := (World.ownsRow.lt h k hv).1; cases e; omega)

theorem keeps_block (k : Nat) (o : Obj) : Keeps (fun w => w.heap[k]? = some o) := fun w w' h hb => by
  show w'.heap[k]? = some o
  rw [hb.block k (Array.getElem?_eq_some_iff.1 h).1]; exact h
theorem keeps_size (k : Nat) : Keeps (fun w => k ≤ w.heap.size) := fun w w' h hb => Nat.le_trans h hb.size
theorem grown_setCell (w : World) (a : Addr) (u : Value) : w.grownBy (w.setCell a u) (some a.block) :=
  ⟨rfl, rfl, rfl, by simp, fun k _ hk => heap_setCell_other w a k u (fun e => hk (by simp [e]))⟩
theorem OwB.setCell {w : World} {base : Nat} {v : Value} {l : List UInt8} (h : OwB w base v l) (a : Addr) (u : Value) (ha : a.block < base) : OwB (w.setCell a u) base v l := h.grown (grown_setCell w a u) ha
theorem heap_alloc2 (w : World) (o o' : Obj) : ((w.alloc o).alloc o').heap[w.heap.size + 1]? = some o' := by
  have := heap_alloc_new (w.alloc o) o'
  simpa using this

theorem grown_trans {w w1 w2 : World} {r : Option Nat} (h : w.grownBy w1 r) (k : w1.grownBy w2 r) : w.grownBy w2 r :=
  ⟨k.os.trans h.os, k.tape.trans h.tape, k.output.trans h.output, Nat.le_trans h.size k.size, fun i hi hr => (k.block i (Nat.lt_of_lt_of_le hi h.size) hr).trans (h.block i hi hr)⟩
end Go.Proofs.Ytkhkdagdgbmdkaa
