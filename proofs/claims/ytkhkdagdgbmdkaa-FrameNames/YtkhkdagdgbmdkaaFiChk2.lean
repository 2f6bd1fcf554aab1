/-
  Extents that may be; those of all files; a directory's bytes; Check.
-/
import Derived.Test.YtkhkdagdgbmdkaaFiKit
import Derived.Test.YtkhkdagdgbmdkaaRmKit
import Derived.BigQuiet
namespace Go.Proofs.Ytkhkdagdgbmdkaa
open Go.RowKit
set_option linter.unusedVariables false
set_option linter.unusedSimpArgs false

/-! ### bytes -/
abbrev OwBy (w : World) (base : Nat) (v : Value) (l : List UInt8) : Prop := w.ownsRow base 5 1 v l.length (u8v l)
theorem OwBy.carry {w w' : World} {base : Nat} {v : Value} {l : List UInt8} (h : OwBy w base v l) (hb : Below w.heap.size w w') : OwBy w' base v l := own_carry h hb
/-- All rows that are no bytes stay. -/
def KeepB (w w' : World) : Prop := ∀ (k : Nat) (cs : Array Value) (t : TypeId) (fr : Nat × Nat), t ≠ 5 → w.heap[k]? = some (Obj.cells cs t fr) → w'.heap[k]? = some (Obj.cells cs t fr)
theorem KeepB.trans {w w1 w2 : World} (h : KeepB w w1) (k : KeepB w1 w2) : KeepB w w2 := fun i cs t fr ht hi => k i cs t fr ht (h i cs t fr ht hi)
theorem KeepB.refl (w : World) : KeepB w w := fun _ _ _ _ _ h => h
end Go.Proofs.Ytkhkdagdgbmdkaa
