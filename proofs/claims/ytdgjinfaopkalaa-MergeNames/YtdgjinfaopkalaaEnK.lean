/-
  Entries in boxes, written over; rows of entries beside them.
-/
import Derived.Test.YtdgjinfaopkalaaMm1
namespace Go.Proofs.Ytdgjinfaopkalaa
open Go.RowKit
set_option linter.unusedVariables false
set_option linter.unusedSimpArgs false

def CellsN (w : World) (b o : Nat) (x : Ent) : Prop := w.cell? ⟨b, o, none⟩ = some (.string (bs x.1)) ∧ w.cell? ⟨b, o + 1, none⟩ = some (.int .i64 x.2.1) ∧ w.cell? ⟨b, o + 2, none⟩ = some (.bool x.2.2.1) ∧ w.cell? ⟨b, o + 3, none⟩ = some (.string (bs x.2.2.2))
theorem CellsN.carry {w w' : World} {b o : Nat} {x : Ent} (h : CellsN w b o x) (hb : Below w.heap.size w w') : CellsN w' b o x := by
  have key : ∀ {i : Nat} {v : Value}, w.cell? ⟨b, i, none⟩ = some v → w'.cell? ⟨b, i, none⟩ = some v := fun {i v} k => by rw [hb.cell (World.block_lt_of_cell? w _ k)]; exact k
  exact ⟨key h.1, key h.2.1, key h.2.2.1, key h.2.2.2⟩
theorem ordM_false {l : List Ent} {k : Nat} (h : ordM l k = false) : ∀ n, k ≤ n → ordM l n = false := by
  intro n hn
  induction n with
  | zero => obtain rfl : k = 0 := by omega
            exact h
  | succ n ih =>
    by_cases e : k = n + 1
    · subst e; exact h
    · unfold ordM
      rw [ih (by omega)]; rfl
theorem ordM_next {l : List Ent} {k : Nat} (h : ordM l k = true) (hk : k < l.length) : ordM l (k + 1) = (entOk l[k] && (decide (k = 0) || ahdM (l.getD (k - 1) zeroN) l[k])) := by
  have eg : l.getD k ([], 0, false, []) = l[k] := by simp [List.getD, hk]
  conv => lhs; unfold ordM
  rw [h, eg]; rfl
end Go.Proofs.Ytdgjinfaopkalaa
