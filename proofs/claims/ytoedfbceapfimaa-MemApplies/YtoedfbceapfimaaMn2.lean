/-
  What the statement MemNames answers.
-/
import Derived.Test.YtoedfbceapfimaaMn1
namespace Go.Proofs.Ytoedfbceapfimaa
open Go.RowKit
set_option linter.unusedVariables false
set_option linter.unusedSimpArgs false

theorem apl_told (l : List Ent) (s : Int) (m : List Opn) {e0 : Int} {r : List Ent} (he : aplE l s m = e0) (hr : aplM l s m = r) (a : Option Addr) (n c : Nat) (a2 : Option Addr) (n2 c2 : Nat) (w : World) (hrd : RdN w (.slice a n c) l) (hrm : RdO w (.slice a2 n2 c2) m) :
    Calls Try.prog 8 #[.agg #[.slice a n c], .int .i64 s, .slice a2 n2 c2] w fun e w' => ∃ av nv cv, e = .returned (.tuple #[.agg #[.slice av nv cv], .int .i64 e0]) ∧ OwN w' w.heap.size (.slice av nv cv) r ∧ Below w.heap.size w w' := by
  subst he hr
  exact apply_mm a n c l s a2 n2 c2 m w hrd hrm
end Go.Proofs.Ytoedfbceapfimaa
