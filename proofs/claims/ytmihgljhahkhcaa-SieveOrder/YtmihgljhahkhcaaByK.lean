/-
  Rows of bytes of one's own, appended to; an operation in a box.
-/
import Derived.Test.YtmihgljhahkhcaaRowG
import Derived.Test.YtmihgljhahkhcaaKit
import Derived.Test.YtmihgljhahkhcaaMath
import Derived.Lib.Bytealg
import Derived.Test.YtmihgljhahkhcaaRows
import Derived.Test.YtmihgljhahkhcaaBase
import Derived.WalkKit
import Derived.WalkSpells
import Derived.WalkLawsBesides
import Derived.Deep.QuietTactic
import Derived.BigQuiet
import Derived.Deep.RegionHeld3
import Derived.Lib.SliceRun
import Derived.Laws.StructEq
import Derived.Test.YtmihgljhahkhcaaReg
namespace Go.Proofs.Ytmihgljhahkhcaa
open Go.RowKit
set_option linter.unusedVariables false
set_option linter.unusedSimpArgs false

def OwY (w : World) (base : Nat) (v : Value) (l : List UInt8) : Prop := w.ownsRow base 5 1 v l.length (u8v l)
theorem OwY.rd {w : World} {base : Nat} {v : Value} {l : List UInt8} (h : OwY w base v l) : Rd w v l := own_rd h
theorem OwY.carry {w w' : World} {base : Nat} {v : Value} {l : List UInt8} (h : OwY w base v l) (hb : Below w.heap.size w w') : OwY w' base v l := own_carry h hb
theorem OwY.form {w : World} {base : Nat} {v : Value} {l : List UInt8} (h : OwY w base v l) : ∃ a c, v = .slice a l.length c := by
  rcases h.2 with ⟨rfl, hn⟩ | ⟨g, cap, cur, rfl, _⟩
  · rw [hn]; exact ⟨_, _, rfl⟩
  · exact ⟨_, _, rfl⟩
theorem OwY.nil (w : World) (base : Nat) : OwY w base (.slice none 0 0) [] := World.ownsRow_nil w base _ _
theorem keepY_of {w w' : World} {base : Nat} {v : Value} {l : List UInt8} (h : OwY w base v l) (hg : w.grownBy w' v.ownBlock) : KeepG 5 w w' := by
  intro j cs t' fr ht hj
  rw [hg.block j (Array.getElem?_eq_some_iff.1 hj).1 ?_]
  · exact hj
  · intro e
    rcases h.2 with ⟨rfl, hn⟩ | ⟨g, cap, cur, rfl, _, hg2, _⟩
    · cases e
    · cases e
      rw [hj] at hg2
      cases hg2
      exact ht rfl
theorem conv_y {w : World} {v : Value} {l : List UInt8} (h : Rd w v l) : (convert 22 9 v).run Try.prog w = .ok (.string (bs l)) w := conv_rd _ _ _ Try.underlying22 Try.underlying5 Try.underlying9 h
theorem wpList_runappY {P : Program} {w w' : World} {ops : Array Oper} {rest : List Oper} {o : Oper} {a : Act} {Q : Exit → Act → World → Prop} (hgd : o.guard = none) (s x : Operand) (t : TypeId)
    (ho : o.op = .call { callee := .builtin .append, args := #[s, x], argTypes := #[t, t] }) (hty : o.type = t) {v vx v' : Value} (hs : a.eval s = v) (hx : a.eval x = vx)
    (hrun : (Builtin.append_ #[t, t] t #[v, vx]).run P w = .ok v' w') (h : wpList P ops Q rest (a.put o.dst v') w') : wpList P ops Q (o :: rest) a w := by
  refine wpList_plain hgd fun K hK => ?_
  unfold Oper.wp execOp
  simp only [ho, hty, resolve, invoke, builtin, Sem.run_bind, Sem.run_pure, Result.andThen_ok, List.map_toArray, List.map_cons, List.map_nil, hs, hx, hrun]
  exact hK _ _ h
end Go.Proofs.Ytmihgljhahkhcaa
