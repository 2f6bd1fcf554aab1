/-
  What sieve.May and sieve.Make do.
-/
import Derived.Test.YthhlckdglifmeaaMathSv
import Derived.Test.YthhlckdglifmeaaBxK
import Derived.OwnWalk
import Derived.BigQuiet
namespace Go.Proofs.Ythhlckdglifmeaa
open Go.RowKit
set_option linter.unusedVariables false
set_option linter.unusedSimpArgs false

def ecT (s : List UInt8) : List Value := [.string (bs s)]
theorem ecT_len (s : List UInt8) : (ecT s).length = 1 := rfl
def RdTx (w : World) (v : Value) (l : List (List UInt8)) : Prop := RdG 1 ecT w v l
def OwTx (w : World) (base : Nat) (v : Value) (l : List (List UInt8)) : Prop := OwG 1 ecT 9 w base v l
theorem RdTx.len {w : World} {a : Option Addr} {n c : Nat} {l : List (List UInt8)} (h : RdTx w (.slice a n c) l) : n = l.length := RdG.len h
theorem OwTx.rd {w : World} {base : Nat} {v : Value} {l : List (List UInt8)} (h : OwTx w base v l) : RdTx w v l := OwG.rd ecT_len h
theorem OwTx.carry {w w' : World} {base : Nat} {v : Value} {l : List (List UInt8)} (h : OwTx w base v l) (hb : Below w.heap.size w w') : OwTx w' base v l := OwG.carry h hb
end Go.Proofs.Ythhlckdglifmeaa
