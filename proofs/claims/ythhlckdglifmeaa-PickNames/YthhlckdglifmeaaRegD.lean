/-
  Laws of regions whose order is drawn, besides: a call whose answer is told outright, and changes nothing that was there; what is told of one cell lasts.
-/
import Derived.Test.YthhlckdglifmeaaReg
namespace Go.Proofs.Ythhlckdglifmeaa
open Go.RowKit
set_option linter.unusedVariables false

theorem keeps_cell (a : Addr) (v : Value) : Keeps (fun w => w.cell? a = some v) := fun w w' h hb => by
  show w'.cell? a = some v
  rw [hb.cell (World.block_lt_of_cell? w _ h)]; exact h

section
variable {P : Program} {md : Region.Mode} {ops : Array Oper} {Q : Exit → Act → World → Prop}

theorem reg_callv {S : World → Prop} (hK : Keeps S) {i : Nat} {dst : Option Tmp} {op : Op} {ty : TypeId} {pos : String} {aft : Array Edge} {gd : Option (Nat × Bool)} {fuel : Nat} {listed : Array Bool} {a : Act} {w : World} {f : FuncId} {args : Array Value} {v : Value} (hi : ops[i]? = some { dst := dst, op := op, type := ty, pos := pos, after := aft, guard := gd })
    (hr : Region.ready md ops listed = [i]) (hw : Region.wanted { dst := dst, op := op, type := ty, pos := pos, after := aft, guard := gd } (yielded ops a.tmps) = true) (hrun : (execOp a.eval { dst := dst, op := op, type := ty, pos := pos, after := aft, guard := gd }).run P w = .ok (.enter f args) w) (hS : S w)
    (hc : Calls P f args w fun e w' => e = .returned v ∧ Below w.heap.size w w')
    (h : ∀ w', S w' → wpAnyH P md ops (NoPanic Q) S fuel (listed.setIfInBounds i true) (a.put dst v) w') : wpAnyH P md ops (NoPanic Q) S (fuel + 1) listed a w := by
  refine reg_callg (R := fun v' w' => v' = v ∧ Below w.heap.size w w') hi hr hw hrun (hc.mono fun e w' ⟨h1, h2⟩ => ⟨v, h1, rfl, h2⟩) ?_
  rintro v' w' ⟨rfl, hb⟩
  have := hK _ _ hS hb
  exact ⟨this, h w' this⟩
end
section
variable {P : Program} {ops : Array Oper} {Q : Exit → Act → World → Prop} {md : Region.Mode} {S : World → Prop}
end
end Go.Proofs.Ythhlckdglifmeaa
