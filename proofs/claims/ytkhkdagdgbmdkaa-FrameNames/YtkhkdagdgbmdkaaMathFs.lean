/-
  Plain mathematics of files on a disk: the words.
-/
import Derived.Test.YtkhkdagdgbmdkaaDAll3
import Derived.Test.YtkhkdagdgbmdkaaDCrash
import Derived.Test.YtkhkdagdgbmdkaaMathSp
import Derived.Test.YtkhkdagdgbmdkaaRmKit
import Derived.BigQuiet
import Derived.Test.YtkhkdagdgbmdkaaMathFi3
namespace Go.Proofs.Ytkhkdagdgbmdkaa
open Go.RowKit
set_option linter.unusedVariables false
set_option linter.unusedSimpArgs false

/-- Files on a disk: the disk, the gen, the directory, the committed one. -/
abbrev Fsd := Dk × Nat × List Fl × List Fl
def fz : Fsd := (dz, 0, [], [])
/-- The bytes of a gen's directory that last. -/
def genB (d : Dk) (gen size : Nat) : List UInt8 := (d.1.drop (128 * (2 + gen % 2 * 16))).take size
def okFs (f : Fsd) : Prop := (latestS f.1).2.2 = 0 ∧ (latestS f.1).1 = f.2.1 ∧ (∀ p ∈ f.1.2.1, 34 ≤ p.1) ∧ readE (genB f.1 f.2.1 (latestS f.1).2.1) (mny f.1) = 0 ∧ readL (genB f.1 f.2.1 (latestS f.1).2.1) (mny f.1) = f.2.2.2 ∧ chkF f.2.2.1 (mny f.1) = 0
instance (f : Fsd) : Decidable (okFs f) := inferInstanceAs (Decidable (_ ∧ _ ∧ _ ∧ _ ∧ _ ∧ _))
/-! ### on the way -/
end Go.Proofs.Ytkhkdagdgbmdkaa
