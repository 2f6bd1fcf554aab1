/-
  Laws of regions whose order is drawn, besides: a call whose answer is told outright, and changes nothing that was there; what is told of one cell lasts.
-/
import Derived.Test.YtihbidkonoikkaaReg
namespace Go.Proofs.Ytihbidkonoikkaa
open Go.RowKit
set_option linter.unusedVariables false

theorem keeps_cell (a : Addr) (v : Value) : Keeps (fun w => w.cell? a = some v) := fun w w' h hb => by
  show w'.cell? a = some v
  rw [hb.cell (World.block_lt_of_cell? w _ h)]; exact h

section
variable {P : Program} {md : Region.Mode} {ops : Array Oper} {Q : Exit → Act → World → Prop}

end
end Go.Proofs.Ytihbidkonoikkaa
