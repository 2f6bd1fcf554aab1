/-
  Plain mathematics of extents: which may be, which are apart, their blocks, what is free, what is taken. No program is named here.
-/
import Derived.Test.YtmeaiocohalphaaDoorKit
namespace Go.Proofs.YtmeaiocohalphaaDoor
open Go.RowKit
set_option linter.unusedVariables false
set_option linter.unusedSimpArgs false

abbrev Ex := Int × Int
def mayX (x : Ex) : Bool := decide (0 ≤ x.1) && decide (1 ≤ x.2) && decide (x.1 + x.2 ≤ 4096)
def allX (l : List Ex) : Int := if 4096 < l.length then 4 else if l.all mayX then 0 else 8
def meetX (a b : Ex) : Bool := decide (a.1 < b.1 + b.2) && decide (b.1 < a.1 + a.2)
def apX : List Ex → Bool
  | [] => true
  | x :: r => r.all (fun y => !meetX y x) && apX r
def chkX (l : List Ex) : Int := if allX l ≠ 0 then allX l else if apX l then 0 else 8
/-! ### what is free -/
/-! ### what is taken -/
end Go.Proofs.YtmeaiocohalphaaDoor
