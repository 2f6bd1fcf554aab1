/-
  Rows in order: the document's answers are the program's; what is left shows the same. No program is named here.
-/
import Derived.Test.YtdgjinfaopkalaaMathMg2
namespace Go.Proofs.Ytdgjinfaopkalaa
open Go.RowKit
set_option linter.unusedVariables false
set_option linter.unusedSimpArgs false

theorem vis_one {l : List Ent} {s : Int} {e x : Ent} (he : visG l s e = true) (hx : visG l s x = true) (hk : e.1 = x.1) : e = x := by
  unfold visG at he hx
  rw [decide_eq_true_iff] at he hx
  rw [hk, hx] at he
  cases he; rfl
end Go.Proofs.Ytdgjinfaopkalaa
