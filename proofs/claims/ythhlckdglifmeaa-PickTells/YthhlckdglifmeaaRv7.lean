/-
  What the statement's spoil does: names are written over in memory of one's own.
-/
import Derived.Test.YthhlckdglifmeaaRv3
import Derived.Test.YthhlckdglifmeaaVn14
import Derived.Test.YthhlckdglifmeaaLv8
namespace Go.Proofs.Ythhlckdglifmeaa
open Go.RowKit
set_option linter.unusedVariables false
set_option linter.unusedSimpArgs false
set_option synthInstance.maxHeartbeats 400000
set_option synthInstance.maxSize 4000

theorem OwM.setO {w : World} {base : Nat} {v : Value} {l : List Mta} (h : OwM w base v l) (g k : Nat) (s : List UInt8) : ∃ l' : List Mta, l'.length = l.length ∧ OwM (w.setCell ⟨g, k * 5, none⟩ (.string (bs s))) base v l' := by
  rcases h.2 with ⟨rfl, hn⟩ | ⟨g', cap, cur, rfl, hb, hg, hn, hm, hsz, htake⟩
  · exact ⟨l, rfl, h.1, .inl ⟨rfl, hn⟩⟩
  · by_cases e : g' = g
    · subst e
      by_cases hk : k < l.length
      · exact (OwM.setN h k hk s).1
      · refine ⟨l, rfl, h.1, .inr ⟨g', cap, cur.setIfInBounds (k * 5) (.string (bs s)), rfl, hb, heap_setCell_same w g' (k * 5) _ _ (.string (bs s)) hg, hn, hm, by simp [hsz], ?_⟩⟩
        rw [Array.toList_setIfInBounds, List.take_set_of_le (by omega)]
        exact htake
    · exact ⟨l, rfl, h.1, .inr ⟨g', cap, cur, rfl, hb, by rw [heap_setCell_other w ⟨g, k * 5, none⟩ g' _ e]; exact hg, hn, hm, hsz, htake⟩⟩
end Go.Proofs.Ythhlckdglifmeaa
