/-
  What the statement MemNames answers.
-/
import Derived.Test.YtoedfbceapfimaaMn1
namespace Go.Proofs.Ytoedfbceapfimaa
open Go.RowKit
set_option linter.unusedVariables false
set_option linter.unusedSimpArgs false

theorem got_told (l : List Ent) (k : List UInt8) (s : Int) {x : Ent} {b : Bool} {e0 : Int} (he : gotE l k s = e0) (hv : gotV l k s = x) (hb : gotB l k s = b) (a : Option Addr) (n c : Nat) (w : World) (hrd : RdN w (.slice a n c) l) :
    Calls Try.prog 10 #[.agg #[.slice a n c], .string (bs k), .int .i64 s] w fun e w' => e = .returned (.tuple #[.agg #[.string (bs x.1), .int .i64 x.2.1, .bool x.2.2.1, .string (bs x.2.2.2)], .bool b, .int .i64 e0]) ∧ Below w.heap.size w w' := by
  subst he hv hb
  exact get_mm a n c l k s w hrd
end Go.Proofs.Ytoedfbceapfimaa
