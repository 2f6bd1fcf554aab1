/-
  The chapter's examples: what 'alive' and RoomNames answer.
-/
import Derived.Test.YtjjhaahlinbpdaaRmLaw
namespace Go.Proofs.Ytjjhaahlinbpdaa
open Go.RowKit
set_option linter.unusedVariables false
set_option linter.unusedSimpArgs false

def wfB (x : Ex) : Bool := decide (-9223372036854775808 ≤ x.1) && decide (x.1 ≤ 9223372036854775807) && decide (-9223372036854775808 ≤ x.2) && decide (x.2 ≤ 9223372036854775807)
theorem wf_all {l : List Ex} (h : l.all wfB = true) : ∀ x ∈ l, wfX x := by
  rw [List.all_eq_true] at h
  intro x hx
  have := h x hx
  simp only [wfB, Bool.and_eq_true, decide_eq_true_eq] at this
  exact ⟨this.1.1.1, this.1.1.2, this.1.2, this.2⟩
/-- A literal of numbers is read as they stand. -/
theorem rdI_lit (w : World) (l : List Int) (n : Nat) (hn : n = l.length) (h : l.length ≤ 1000) (arr : Array Value) (ha : arr = (cellsI l).toArray) : RdI (w.alloc (.cells arr 3)) (.slice (some ⟨w.heap.size, 0, none⟩) n n) l := by
  subst ha hn
  refine .inr ⟨w.heap.size, 0, l.length, rfl, Nat.le_refl _, by unfold maxLen; omega, fun j hj => ?_⟩
  have := World.news_of_block (w := w.alloc (.cells (cellsI l).toArray 3)) (heap_alloc_new w _) j (.int .i64 l[j]) (by simp [cellsI, List.getElem?_eq_getElem hj])
  simpa [Addr.add_lit] using this
end Go.Proofs.Ytjjhaahlinbpdaa
