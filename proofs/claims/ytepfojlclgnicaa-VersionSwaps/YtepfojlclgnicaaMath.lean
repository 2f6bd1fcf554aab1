/-
  Plain mathematics of package code's bytes: what the program's and the document's functions reckon, on lists of bytes. No program is named here.
-/
import Derived.WalkKit
import Derived.Laws.BitsAllLaws
namespace Go.Proofs.Ytepfojlclgnicaa
open Go.RowKit

def u8v (l : List UInt8) : List Value := l.map fun b => Value.int .u8 b.toNat
@[simp] theorem u8v_length (l : List UInt8) : (u8v l).length = l.length := by simp [u8v]
def rdGo : List UInt8 → Nat → Nat → Option (Nat × Nat)
  | [], _, _ => none
  | c :: r, i, acc =>
    if i = 9 ∧ 1 < c.toNat then none
    else if 128 ≤ c.toNat then rdGo r (i + 1) (acc + (c.toNat % 128) * 128 ^ i)
    else if c.toNat = 0 ∧ 0 < i then none
    else some (acc + c.toNat * 128 ^ i, i + 1)
def rd (l : List UInt8) : Option (Nat × Nat) := rdGo l 0 0
end Go.Proofs.Ytepfojlclgnicaa
