/-
  Rows in order: the document's answers are the program's; what is left shows the same. No program is named here.
-/
import Derived.Test.YtdgjinfaopkalaaMathMg2
namespace Go.Proofs.Ytdgjinfaopkalaa
open Go.RowKit
set_option linter.unusedVariables false
set_option linter.unusedSimpArgs false

theorem drp_vis {l : List Ent} (h : okM l) (o : Int) (d : Bool) : mrgG (l.filter fun e => decide (o < e.2.1)) (lseG o d l) = l.filter (lefG l o d) := by
  rw [lse_vis h, mrg_filter _ _ h.2]
  · rfl
  · intro e he hp
    have : visG l o e = false := by
      cases q : visG l o e with
      | false => rfl
      | true => have := vis_le q; rw [decide_eq_true_iff] at hp; omega
    rw [this, Bool.false_and]
end Go.Proofs.Ytdgjinfaopkalaa
