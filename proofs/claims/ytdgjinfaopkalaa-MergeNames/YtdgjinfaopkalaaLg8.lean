/-
  What the statement MergeSees answers.
-/
import Derived.Test.YtdgjinfaopkalaaMathMg4
import Derived.Test.YtdgjinfaopkalaaMg10
import Derived.Test.YtdgjinfaopkalaaMm7
import Derived.Test.YtdgjinfaopkalaaRegT
import Derived.Test.YtdgjinfaopkalaaBxK
namespace Go.Proofs.Ytdgjinfaopkalaa
open Go.RowKit
set_option linter.unusedVariables false
set_option linter.unusedSimpArgs false

theorem rdR_two {w : World} {a : Option Addr} {n c : Nat} {l : List Ent} {a' : Option Addr} {n' c' : Nat} {l' : List Ent} (h : RdN w (.slice a n c) l) (h' : RdN w (.slice a' n' c') l') : RdR (w.alloc (.cells #[.slice a n c, .slice a' n' c'] 22)) (.slice (some ⟨w.heap.size, 0, none⟩) 2 2) [(.slice a n c, l), (.slice a' n' c', l')] := by
  have hb : Below w.heap.size w (w.alloc (.cells #[.slice a n c, .slice a' n' c'] 22)) := (Below.refl _ _).alloc (Nat.le_refl _) _
  refine ⟨.inr ⟨w.heap.size, 0, 2, rfl, Nat.le_refl _, by unfold maxLen; omega, fun j hj i u hu => ?_⟩, fun p hp => ?_⟩
  · have hn := World.news_of_block (w := w.alloc (.cells #[.slice a n c, .slice a' n' c'] 22)) (heap_alloc_new w _)
    match j, hj with
    | 0, _ =>
      match i, hu with
      | 0, hu => cases hu; exact hn 0 (.slice a n c) rfl
      | i + 1, hu => simp [ecR] at hu
    | 1, _ =>
      match i, hu with
      | 0, hu => cases hu; exact hn 1 (.slice a' n' c') rfl
      | i + 1, hu => simp [ecR] at hu
    | j + 2, hj => exact absurd hj (by simp)
  · rcases List.mem_cons.1 hp with rfl | hp
    · exact h.carry hb
    · obtain rfl := List.mem_singleton.1 hp
      exact h'.carry hb
end Go.Proofs.Ytdgjinfaopkalaa
