/-
  Regions whose order is drawn where either of two operations may come up; a region cut off from what stands behind it. No program is named here.
-/
import Derived.Test.YthhlckdglifmeaaRegP
namespace Go.Proofs.Ythhlckdglifmeaa
open Go.RowKit
set_option linter.unusedVariables false
set_option linter.unusedSimpArgs false

section
variable {P : Program} {md : Region.Mode} {ops : Array Oper} {Q : Exit → Act → World → Prop}
theorem reg_two {S : World → Prop} {i j : Nat} {fuel : Nat} {listed : Array Bool} {a : Act} {w : World} (hr : Region.ready md ops listed = [i, j])
    (h1 : wpOp P ops (NoPanic Q) i (fun a' w' => S w' ∧ wpAnyH P md ops (NoPanic Q) S fuel (listed.setIfInBounds i true) a' w') a w)
    (h2 : wpOp P ops (NoPanic Q) j (fun a' w' => S w' ∧ wpAnyH P md ops (NoPanic Q) S fuel (listed.setIfInBounds j true) a' w') a w) : wpAnyH P md ops (NoPanic Q) S (fuel + 1) listed a w := by
  refine wpAnyH_all (rs := [i, j]) hr (by simp) ?_
  intro k hk
  rcases List.mem_cons.1 hk with rfl | hk
  · exact h1
  · obtain rfl := List.mem_singleton.1 hk
    exact h2
theorem wop_run {K : Act → World → Prop} {i : Nat} {dst : Option Tmp} {op : Op} {ty : TypeId} {pos : String} {aft : Array Edge} {gd : Option (Nat × Bool)} {a : Act} {w w' : World} {v : Value} (hi : ops[i]? = some { dst := dst, op := op, type := ty, pos := pos, after := aft, guard := gd }) (hw : Region.wanted { dst := dst, op := op, type := ty, pos := pos, after := aft, guard := gd } (yielded ops a.tmps) = true)
    (hrun : (execOp a.eval { dst := dst, op := op, type := ty, pos := pos, after := aft, guard := gd }).run P w = .ok (.value v) w') (h : K (a.put dst v) w') : wpOp P ops Q i K a w := by
  unfold wpOp
  simp only [hi, hw, if_true]
  refine .inl ?_
  unfold Oper.wp
  rw [hrun]
  exact h
theorem wop_callg {K : Act → World → Prop} {i : Nat} {dst : Option Tmp} {op : Op} {ty : TypeId} {pos : String} {aft : Array Edge} {gd : Option (Nat × Bool)} {a : Act} {w : World} {f : FuncId} {args : Array Value} {R : Value → World → Prop} (hi : ops[i]? = some { dst := dst, op := op, type := ty, pos := pos, after := aft, guard := gd }) (hw : Region.wanted { dst := dst, op := op, type := ty, pos := pos, after := aft, guard := gd } (yielded ops a.tmps) = true)
    (hrun : (execOp a.eval { dst := dst, op := op, type := ty, pos := pos, after := aft, guard := gd }).run P w = .ok (.enter f args) w) (hc : Calls P f args w fun e w' => ∃ v, e = .returned v ∧ R v w') (h : ∀ v w', R v w' → K (a.put dst v) w') : wpOp P ops (NoPanic Q) i K a w := by
  unfold wpOp
  simp only [hi, hw, if_true]
  refine .inl ?_
  unfold Oper.wp
  rw [hrun]
  exact hc.mono fun e w' ⟨v, he, hv⟩ => by subst he; exact h v w' hv
end

theorem region_cut {P : Program} {id : Nat} {ops : Array Oper} {Q : Exit → Act → World → Prop} {a : Act} {w : World} {α : Type} (F : α → Act → Act) (R : α → World → Prop) (h : (Code.region id ops true).wp P (fun e a' w' => e = .normal ∧ ∃ x, a' = F x a ∧ R x w') a w) (k : ∀ x w', R x w' → Q .normal (F x a) w') : (Code.region id ops true).wp P Q a w :=
  Code.wp_mono (fun e a' w' ⟨h1, x, h2, h3⟩ => by subst h1 h2; exact k x w' h3) h

end Go.Proofs.Ythhlckdglifmeaa
