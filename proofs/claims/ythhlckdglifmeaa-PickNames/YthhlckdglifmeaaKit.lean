/-
  Small laws of our own over the model: a row of bytes that a call owns and appends to, and a slice of bytes that is read. No program is named here.
-/
import Derived.WalkKit
import Derived.Laws.BitsAllLaws
import Derived.WalkSmall
import Derived.Lib.AppendStr
import Derived.Laws.AppendOwnNone
import Derived.Laws.OwnMore
import Derived.Laws.BytesArg
import Derived.OpenShut
namespace Go.Proofs.Ythhlckdglifmeaa
open Go.RowKit

section
variable {P : Program}

def bs (l : List UInt8) : ByteArray := ⟨l.toArray⟩
@[simp] theorem bs_toList (l : List UInt8) : (bs l).data.toList = l := by simp [bs]
theorem bs_size (l : List UInt8) : (bs l).size = l.length := by show l.toArray.size = l.length; exact List.size_toArray
end
end Go.Proofs.Ythhlckdglifmeaa
