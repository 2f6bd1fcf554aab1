/-
  Rows of records that are made whole, and written record by record. No program is named here but for entries.
-/
import Derived.Test.YtjkoemdojdcmpaaSlK
import Derived.OwnWalk
namespace Go.Proofs.Ytjkoemdojdcmpaa
open Go.RowKit
set_option linter.unusedVariables false
set_option linter.unusedSimpArgs false

theorem cutY_some (a : Option Addr) (n c : Nat) (l s r : List UInt8) (w : World) (hl : l.length ≤ 1000000) (hrd : Rd w (.slice a n c) l) (h : ct l = some (s, r)) :
    Calls Try.prog 77 #[.slice a n c] w fun e w' => ∃ a2 c2, e = .returned (.tuple #[.string (bs s), .slice a2 r.length c2, .int .i64 0]) ∧ OwY w' w.heap.size (.slice a2 r.length c2) r ∧ Below w.heap.size w w' := by
  refine (ccut_any w (by omega) hrd).mono ?_
  rintro e w' ⟨v, rfl, hv, hb⟩
  obtain ⟨x, rfl, ho⟩ := cutV_form hv
  have e1 : cutT l = bs s := by unfold cutT; rw [h]
  have e2 : cutEr l = 0 := by unfold cutEr; rw [h]
  have e3 : cutR l = r := by unfold cutR; rw [h]
  rw [e3] at ho
  rw [e1, e2]
  have ho' : OwY w' w.heap.size x r := ho
  obtain ⟨a2, c2, rfl⟩ := ho'.form
  exact ⟨a2, c2, rfl, ho, hb⟩
theorem cutY_none (a : Option Addr) (n c : Nat) (l : List UInt8) (w : World) (hl : l.length ≤ 1000000) (hrd : Rd w (.slice a n c) l) (h : ct l = none) :
    Calls Try.prog 77 #[.slice a n c] w fun e w' => ∃ a2 n2 c2, e = .returned (.tuple #[.string (bs []), .slice a2 n2 c2, .int .i64 8]) ∧ Below w.heap.size w w' := by
  refine (ccut_any w (by omega) hrd).mono ?_
  rintro e w' ⟨v, rfl, hv, hb⟩
  obtain ⟨x, rfl, ho⟩ := cutV_form hv
  have e1 : cutT l = bs [] := by unfold cutT; rw [h]; rfl
  have e2 : cutEr l = 8 := by unfold cutEr; rw [h]
  rw [e1, e2]
  have ho' : OwY w' w.heap.size x (cutR l) := ho
  obtain ⟨a2, c2, rfl⟩ := ho'.form
  exact ⟨a2, _, c2, rfl, hb⟩

theorem wpList_mkY {P : Program} {w w' : World} {ops : Array Oper} {rest : List Oper} {o : Oper} {a : Act} {Q : Exit → Act → World → Prop} (hgd : o.guard = none) (x y : Operand) (t : TypeId)
    (ho : o.op = .makeSlice t x y) {vx vy v' : Value} (hx : a.eval x = vx) (hy : a.eval y = vy) (hrun : (Instr.makeSlice t vx vy).run P w = .ok v' w') (h : wpList P ops Q rest (a.put o.dst v') w') : wpList P ops Q (o :: rest) a w := by
  refine wpList_plain hgd fun K hK => ?_
  unfold Oper.wp execOp
  simp only [ho, hx, hy, Sem.run_bind, hrun, Result.andThen_ok, Sem.run_pure]
  exact hK _ _ h
end Go.Proofs.Ytjkoemdojdcmpaa
