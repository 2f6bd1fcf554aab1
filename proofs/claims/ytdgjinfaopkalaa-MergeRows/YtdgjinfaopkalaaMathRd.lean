/-
  Plain mathematics: the number that a list of small bytes tells, reckoned from its end, is the one reckoned from its beginning.
-/
import Derived.Test.YtdgjinfaopkalaaMath
namespace Go.Proofs.Ytdgjinfaopkalaa

def hv : List UInt8 → Nat
  | [] => 0
  | c :: r => c.toNat % 128 + 128 * hv r

def ct (l : List UInt8) : Option (List UInt8 × List UInt8) :=
  match rd l with
  | none => none
  | some (n, k) => if n ≤ l.length - k then some ((l.drop k).take n, l.drop (k + n)) else none
end Go.Proofs.Ytdgjinfaopkalaa
