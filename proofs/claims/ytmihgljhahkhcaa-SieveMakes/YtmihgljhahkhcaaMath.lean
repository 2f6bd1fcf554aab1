/-
  Plain mathematics of package code's bytes: what the program's and the document's functions reckon, on lists of bytes. No program is named here.
-/
import Derived.WalkKit
import Derived.Laws.BitsAllLaws
namespace Go.Proofs.Ytmihgljhahkhcaa
open Go.RowKit

def u8v (l : List UInt8) : List Value := l.map fun b => Value.int .u8 b.toNat
@[simp] theorem u8v_length (l : List UInt8) : (u8v l).length = l.length := by simp [u8v]
theorem u8v_append (a b : List UInt8) : u8v (a ++ b) = u8v a ++ u8v b := by simp [u8v]

end Go.Proofs.Ytmihgljhahkhcaa
