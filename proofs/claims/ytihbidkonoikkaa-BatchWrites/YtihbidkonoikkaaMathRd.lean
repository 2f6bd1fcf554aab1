/-
  Plain mathematics: the number that a list of small bytes tells, reckoned from its end, is the one reckoned from its beginning.
-/
import Derived.Test.YtihbidkonoikkaaMath
namespace Go.Proofs.Ytihbidkonoikkaa

def hv : List UInt8 → Nat
  | [] => 0
  | c :: r => c.toNat % 128 + 128 * hv r

def tx (s : List UInt8) : List UInt8 := sm s.length ++ s
end Go.Proofs.Ytihbidkonoikkaa
