/-
  Rows of writes and of acts of one's own, and disks of one's own.
-/
import Derived.Test.YtkhkdagdgbmdkaaDCopy
namespace Go.Proofs.Ytkhkdagdgbmdkaa
open Go.RowKit
set_option linter.unusedVariables false
set_option linter.unusedSimpArgs false

theorem own_grown {w w' : World} {base g : Nat} {e : TypeId} {s : Nat} {v : Value} {n : Nat} {xs : List Value} (h : w.ownsRow base e s v n xs) (hg : w.grownBy w' (some g)) (hb : g < base) : w'.ownsRow base e s v n xs :=
  h.kept hg (by cases hv : v.ownBlock with | none => exact .inl rfl | some k => right; intro e; have := (h.lt k hv).1; cases e; omega)
end Go.Proofs.Ytkhkdagdgbmdkaa
