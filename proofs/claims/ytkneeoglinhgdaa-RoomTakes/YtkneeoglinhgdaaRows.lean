/-
  No cell of these rows narrows 'for every input' (looked for: loops, veiled, ifaces, maps, wideKeys, modest, calm, conditions, laid).
  DERIVED. THE GIVEN ROWS OF THIS SEAT. 4 by the template 'for every input the law returns true; each argument reads behind the call as it read before'; 0 by the template 'total and deterministic' (their statements: YtkneeoglinhgdaaTotals.lean).
  GIVEN WITH THE SEED: the statements are not yours to turn. If you find one false, say at which input.
  Laid BY PROGRAM, IN A SANDBOX (cutbox-rows.mjs): the forced cells as the released guide's own fill.sh prints them over the translation 9980f48774b6ea48… (all of the seat's roots in one cut). By AI agents, Wed Nov 11 2026. No macro, syntax, notation, axiom, sorry.
-/
import Derived.Test.YtkneeoglinhgdaaChecked
import GoSem.Claim
import GoSem.ClaimJoined
import GoSem.ClaimMapViews
import Derived.JoinedTies
import Derived.KernelRfl
namespace Go.Proofs.Ytkneeoglinhgdaa
/- THE CELL 'sum', in the pinned program and in every row, IS THE sha256 OF THE DUMP (.gsa) THAT YtkneeoglinhgdaaProg.lean LOADS. Nothing in Lean hashes anything: it is a label: what it is worth is what the hold of that sum in a sandbox is worth. -/
noncomputable def Try.pinned : Pinned := { name := "ytkneeoglinhgdaa", sum := "9980f48774b6ea48e95638209a6ed8066f01b8238ec179798153112578e411e9", checked := Try.checked }
namespace Rows
def none {H : Type} : Left H := { results := [], args := [] }

/-- 'millhandlaw04.RoomNames': WHATEVER THE INPUT: true; the input reads as it did. -/
def roomNamesSpec : ChangeSpec := { name := "roomNames", fn := fun _ => fun
  | [] => { results := [.lit (.bool true)], args := [] }
  | _ => none }
def roomNamesRow : OpenClaim := { program := "ytkneeoglinhgdaa", sum := "9980f48774b6ea48e95638209a6ed8066f01b8238ec179798153112578e411e9", func := "millhand/millhandlaw04.RoomNames", spec := "roomNames", apart := false }
def RoomNamesSaid : Prop := roomNamesRow.holds Try.pinned (OpenSpec.ofChange roomNamesSpec)

/-- ITS FALSE NEIGHBOUR: 'it returns false'. Refute it at one input. -/
def roomNamesWrong : ChangeSpec := { name := "roomNames", fn := fun _ => fun
  | [] => { results := [.lit (.bool false)], args := [] }
  | _ => none }
def RoomNamesWrongFalsely : Prop := roomNamesRow.holds Try.pinned (OpenSpec.ofChange roomNamesWrong)

/-- 'millhandlaw04.RoomTakes': WHATEVER THE INPUT: true; the input reads as it did. -/
def roomTakesSpec : ChangeSpec := { name := "roomTakes", fn := fun _ => fun
  | [d1, d2, d3, d4] => { results := [.lit (.bool true)], args := [d1, d2, d3, d4] }
  | _ => none }
def roomTakesRow : OpenClaim := { program := "ytkneeoglinhgdaa", sum := "9980f48774b6ea48e95638209a6ed8066f01b8238ec179798153112578e411e9", func := "millhand/millhandlaw04.RoomTakes", spec := "roomTakes", apart := false }
def RoomTakesSaid : Prop := roomTakesRow.holds Try.pinned (OpenSpec.ofChange roomTakesSpec)

/-- ITS FALSE NEIGHBOUR: 'it returns false'. Refute it at one input. -/
def roomTakesWrong : ChangeSpec := { name := "roomTakes", fn := fun _ => fun
  | [d1, d2, d3, d4] => { results := [.lit (.bool false)], args := [d1, d2, d3, d4] }
  | _ => none }
def RoomTakesWrongFalsely : Prop := roomTakesRow.holds Try.pinned (OpenSpec.ofChange roomTakesWrong)

/-- 'millhandlaw04.RoomFree': WHATEVER THE INPUT: true; the input reads as it did. -/
def roomFreeSpec : ChangeSpec := { name := "roomFree", fn := fun _ => fun
  | [d1, d2, d3] => { results := [.lit (.bool true)], args := [d1, d2, d3] }
  | _ => none }
def roomFreeRow : OpenClaim := { program := "ytkneeoglinhgdaa", sum := "9980f48774b6ea48e95638209a6ed8066f01b8238ec179798153112578e411e9", func := "millhand/millhandlaw04.RoomFree", spec := "roomFree", apart := false }
def RoomFreeSaid : Prop := roomFreeRow.holds Try.pinned (OpenSpec.ofChange roomFreeSpec)

/-- ITS FALSE NEIGHBOUR: 'it returns false'. Refute it at one input. -/
def roomFreeWrong : ChangeSpec := { name := "roomFree", fn := fun _ => fun
  | [d1, d2, d3] => { results := [.lit (.bool false)], args := [d1, d2, d3] }
  | _ => none }
def RoomFreeWrongFalsely : Prop := roomFreeRow.holds Try.pinned (OpenSpec.ofChange roomFreeWrong)

/-- 'millhandlaw04.RoomTake': WHATEVER THE INPUT: true; the input reads as it did. -/
def roomTakeSpec : ChangeSpec := { name := "roomTake", fn := fun _ => fun
  | [d1, d2, d3, d4] => { results := [.lit (.bool true)], args := [d1, d2, d3, d4] }
  | _ => none }
def roomTakeRow : OpenClaim := { program := "ytkneeoglinhgdaa", sum := "9980f48774b6ea48e95638209a6ed8066f01b8238ec179798153112578e411e9", func := "millhand/millhandlaw04.RoomTake", spec := "roomTake", apart := false }
def RoomTakeSaid : Prop := roomTakeRow.holds Try.pinned (OpenSpec.ofChange roomTakeSpec)

/-- ITS FALSE NEIGHBOUR: 'it returns false'. Refute it at one input. -/
def roomTakeWrong : ChangeSpec := { name := "roomTake", fn := fun _ => fun
  | [d1, d2, d3, d4] => { results := [.lit (.bool false)], args := [d1, d2, d3, d4] }
  | _ => none }
def RoomTakeWrongFalsely : Prop := roomTakeRow.holds Try.pinned (OpenSpec.ofChange roomTakeWrong)

/- THE SECOND FORM. 'bulk': how many values and letters a reading holds, each counted each time it is reached (what is shared counts as often as it is met; a slice's spare places count too). A statement '..UptoSaid' is the law's where the arguments, and the package variables that the reading takes, are together of bulk at most 1048576: NARROWER than '..Said'. Prove '..Said' where nothing that the law and all that it calls make is longer than what came in: it says more and counts as full. Else prove '..UptoSaid'. A law counts once. -/
mutual
def uptoBulk {H : Type} : DataW H → Nat
  | .lit (.string bytes) => bytes.length + 1
  | .lit _ => 1
  | .nil => 1
  | .ptr d => uptoBulk d + 1
  | .slice elems spare => uptoBulkAll elems + uptoBulkAll spare + 1
  | .agg parts => uptoBulkAll parts + 1
  | .iface _ d => uptoBulk d + 1
  | .map entries => uptoBulkEntries entries + 1
  | .held _ => 1
def uptoBulkAll {H : Type} : List (DataW H) → Nat
  | [] => 0
  | d :: r => uptoBulk d + uptoBulkAll r
def uptoBulkEntries {H : Type} : List (Lit × DataW H) → Nat
  | [] => 0
  | x :: r => uptoBulkEntry x + uptoBulkEntries r
def uptoBulkEntry {H : Type} : Lit × DataW H → Nat
  | (.string bytes, d) => bytes.length + uptoBulk d + 1
  | (_, d) => uptoBulk d + 1
 end
def uptoSmall : (H : Type) → List (DataW H) → Bool := fun _ ds => decide (uptoBulkAll ds ≤ 1048576)
def OpenSpec.upto (s : _root_.Go.ChangeSpec) : _root_.Go.OpenSpec := { _root_.Go.OpenSpec.ofChange s with cond := some uptoSmall }

/-- 'millhandlaw04.RoomNames', WHERE WHAT IT READS IS OF BULK AT MOST 1048576: true; the input reads as it did. -/
def roomNamesUptoRow : OpenClaim := { program := "ytkneeoglinhgdaa", sum := "9980f48774b6ea48e95638209a6ed8066f01b8238ec179798153112578e411e9", func := "millhand/millhandlaw04.RoomNames", spec := "roomNames", apart := false, narrowed := true }
def RoomNamesUptoSaid : Prop := roomNamesUptoRow.holds Try.pinned (OpenSpec.upto roomNamesSpec)

/-- 'millhandlaw04.RoomTakes', WHERE WHAT IT READS IS OF BULK AT MOST 1048576: true; the input reads as it did. -/
def roomTakesUptoRow : OpenClaim := { program := "ytkneeoglinhgdaa", sum := "9980f48774b6ea48e95638209a6ed8066f01b8238ec179798153112578e411e9", func := "millhand/millhandlaw04.RoomTakes", spec := "roomTakes", apart := false, narrowed := true }
def RoomTakesUptoSaid : Prop := roomTakesUptoRow.holds Try.pinned (OpenSpec.upto roomTakesSpec)

/-- 'millhandlaw04.RoomFree', WHERE WHAT IT READS IS OF BULK AT MOST 1048576: true; the input reads as it did. -/
def roomFreeUptoRow : OpenClaim := { program := "ytkneeoglinhgdaa", sum := "9980f48774b6ea48e95638209a6ed8066f01b8238ec179798153112578e411e9", func := "millhand/millhandlaw04.RoomFree", spec := "roomFree", apart := false, narrowed := true }
def RoomFreeUptoSaid : Prop := roomFreeUptoRow.holds Try.pinned (OpenSpec.upto roomFreeSpec)

/-- 'millhandlaw04.RoomTake', WHERE WHAT IT READS IS OF BULK AT MOST 1048576: true; the input reads as it did. -/
def roomTakeUptoRow : OpenClaim := { program := "ytkneeoglinhgdaa", sum := "9980f48774b6ea48e95638209a6ed8066f01b8238ec179798153112578e411e9", func := "millhand/millhandlaw04.RoomTake", spec := "roomTake", apart := false, narrowed := true }
def RoomTakeUptoSaid : Prop := roomTakeUptoRow.holds Try.pinned (OpenSpec.upto roomTakeSpec)

end Rows
end Go.Proofs.Ytkneeoglinhgdaa
