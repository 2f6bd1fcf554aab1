/-
  Layer 5 in plain words: bytes that are read as a directory.
-/
import Derived.Test.YtkhkdagdgbmdkaaMathFi
namespace Go.Proofs.Ytkhkdagdgbmdkaa
open Go.RowKit
set_option linter.unusedVariables false
set_option linter.unusedSimpArgs false

def cnum (l : List UInt8) : Option (Nat × List UInt8) := match rd l with
  | none => none
  | some (n, k) => if n ≤ 4096 then some (n, l.drop k) else none
def cext (l : List UInt8) : Option (Ex × List UInt8) := match cnum l with
  | none => none
  | some (x, r) => match cnum r with
    | none => none
    | some (y, q) => some (((x : Int), (y : Int)), q)
/-- As many, one behind the other. -/
def cexts : Nat → List UInt8 → Option (List Ex × List UInt8)
  | 0, l => some ([], l)
  | n + 1, l => match cexts n l with
    | none => none
    | some (es, r) => match cext r with
      | none => none
      | some (x, q) => some (es ++ [x], q)
def cfile (l : List UInt8) : Option (Fl × List UInt8) := match ct l with
  | none => none
  | some (s, r) => match cnum r with
    | none => none
    | some (n, q) => match cexts n q with
      | none => none
      | some (es, z) => some ((s, es), z)
def cfilN : Nat → List UInt8 → Option (List Fl × List UInt8)
  | 0, l => some ([], l)
  | n + 1, l => match cfilN n l with
    | none => none
    | some (fs, r) => match cfile r with
      | none => none
      | some (f, q) => some (fs ++ [f], q)
def cfiles (l : List UInt8) : Option (List Fl × List UInt8) := match cnum l with
  | none => none
  | some (n, r) => cfilN n r
def readE (b : List UInt8) (B : Int) : Int :=
  if ¬ blkP B then 2 else if 2048 < b.length then 3 else match cfiles b with
    | some (fs, []) => if mayF fs B then 0 else 8
    | _ => 8
def readL (b : List UInt8) (B : Int) : List Fl := if readE b B = 0 then (match cfiles b with | some (fs, _) => fs | none => []) else []
end Go.Proofs.Ytkhkdagdgbmdkaa
