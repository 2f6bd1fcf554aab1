/-
  Layer 5 in plain words: names, files, directories; lists of them.
-/
import Derived.Test.YtmeaiocohalphaaDoorMathRm
import Derived.Test.YtmeaiocohalphaaDoorMathRd
import Derived.Lib.Bytealg
namespace Go.Proofs.YtmeaiocohalphaaDoor
open Go.RowKit
set_option linter.unusedVariables false
set_option linter.unusedSimpArgs false

abbrev Fl := List UInt8 × List Ex
/-! ### names -/
def ltN : List UInt8 → List UInt8 → Bool
  | [], [] => false
  | [], _ :: _ => true
  | _ :: _, [] => false
  | a :: s, b :: t => decide (a < b) || ((a == b) && ltN s t)
def nameF (s : List UInt8) : Bool := decide (1 ≤ s.length) && decide (s.length ≤ 16)

/-! ### files -/
def usedF (fs : List Fl) : List Ex := fs.flatMap (·.2)
def bytX (x : Ex) : List UInt8 := sm x.1.toNat ++ sm x.2.toNat
def bytE (l : List Ex) : List UInt8 := l.flatMap bytX
def bytFl (f : Fl) : List UInt8 := tx f.1 ++ (sm f.2.length ++ bytE f.2)
def bytF (fs : List Fl) : List UInt8 := sm fs.length ++ fs.flatMap bytFl
def oneF (f : Fl) : Bool := nameF f.1 && decide (1 ≤ f.2.length) && decide (f.2.length ≤ 64)
def riseP (fs : List Fl) : Prop := fs.Pairwise fun f g => ltN f.1 g.1 = true
instance (fs : List Fl) : Decidable (riseP fs) := inferInstanceAs (Decidable (fs.Pairwise _))
def eachP (fs : List Fl) : Prop := (∀ f ∈ fs, oneF f = true) ∧ riseP fs
instance (fs : List Fl) : Decidable (eachP fs) := inferInstanceAs (Decidable (_ ∧ _))
def extP (l : List Ex) (b : Int) : Prop := chkX l = 0 ∧ ∀ x ∈ l, 34 ≤ x.1 ∧ x.1 + x.2 ≤ b
instance (l : List Ex) (b : Int) : Decidable (extP l b) := inferInstanceAs (Decidable (_ ∧ _))
def mayF (fs : List Fl) (b : Int) : Prop := fs.length ≤ 40 ∧ eachP fs ∧ extP (usedF fs) b ∧ (bytF fs).length ≤ 2048
instance (fs : List Fl) (b : Int) : Decidable (mayF fs b) := inferInstanceAs (Decidable (_ ∧ _))
def blkP (b : Int) : Prop := 34 < b ∧ b ≤ 4096
instance (b : Int) : Decidable (blkP b) := inferInstanceAs (Decidable (_ ∧ _))
def chkF (fs : List Fl) (b : Int) : Int := if ¬ blkP b then 2 else if mayF fs b then 0 else 8
end Go.Proofs.YtmeaiocohalphaaDoor
