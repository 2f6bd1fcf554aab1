/-
  Small laws of our own over the model: a row of bytes that is handed on, call by call, and appended to: what else lies in memory stays. No program is named here.
-/
import Derived.Test.YtkhkdagdgbmdkaaReg
import Derived.Deep.AppendLies
namespace Go.Proofs.Ytkhkdagdgbmdkaa
open Go.RowKit
set_option linter.unusedVariables false
set_option linter.unusedSimpArgs false

theorem hide {p : Prop} (h : p) : Hid p := h

/-- From w with the row v to w' with the row v': all but v's own row is as it was; v' lies where v lay, or in new memory. -/
def Gro (w : World) (v : Value) (w' : World) (v' : Value) : Prop :=
  w.grownBy w' v.ownBlock ∧ (v'.ownBlock = v.ownBlock ∨ ∀ k, v'.ownBlock = some k → w.heap.size ≤ k)
theorem Gro.refl (w : World) (v : Value) : Gro w v w v := ⟨World.grownBy.refl _ _, .inl rfl⟩
theorem Gro.trans {w w1 w2 : World} {v v1 v2 : Value} (h : Gro w v w1 v1) (k : Gro w1 v1 w2 v2) : Gro w v w2 v2 := by
  refine ⟨⟨k.1.os.trans h.1.os, k.1.tape.trans h.1.tape, k.1.output.trans h.1.output, Nat.le_trans h.1.size k.1.size, fun j hj hne => ?_⟩, ?_⟩
  · have hlt := Nat.lt_of_lt_of_le hj h.1.size
    rw [k.1.block j hlt ?_, h.1.block j hj hne]
    rcases h.2 with e | e
    · rw [e]; exact hne
    · intro he
      have := e j he.symm
      omega
  · rcases k.2 with e | e
    · rw [e]; exact h.2
    · exact .inr fun j hj => Nat.le_trans h.1.size (e j hj)
/-- Where memory is only added, ahead of a growth. -/
theorem Gro.after {w w1 w2 : World} {v v' : Value} (hb : Below w.heap.size w w1) (h : Gro w1 v w2 v') : Gro w v w2 v' := by
  refine ⟨⟨h.1.os.trans hb.os, h.1.tape.trans hb.tape, h.1.output.trans hb.output, Nat.le_trans hb.size h.1.size, fun j hj hne => ?_⟩, ?_⟩
  · rw [h.1.block j (Nat.lt_of_lt_of_le hj hb.size) hne, hb.block j hj]
  · rcases h.2 with e | e
    · exact .inl e
    · exact .inr fun j hj => Nat.le_trans hb.size (e j hj)
theorem Gro.cell {w w' : World} {v v' : Value} (h : Gro w v w' v') {a : Addr} {u : Value} (hc : w.cell? a = some u) (hne : v.ownBlock ≠ some a.block) : w'.cell? a = some u :=
  h.1.cell hc (Ne.symm hne)
section
variable {P : Program}

end
end Go.Proofs.Ytkhkdagdgbmdkaa
