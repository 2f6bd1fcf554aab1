/-
  No cell of these rows narrows 'for every input' (looked for: loops, veiled, ifaces, maps, wideKeys, modest, calm, conditions, laid).
  DERIVED. THE GIVEN ROWS OF THIS SEAT. 6 by the template 'for every input the law returns true; each argument reads behind the call as it read before'; 0 by the template 'total and deterministic' (their statements: YtjjhaahlinbpdaaTotals.lean).
  GIVEN WITH THE SEED: the statements are not yours to turn. If you find one false, say at which input.
  Laid BY PROGRAM, IN A SANDBOX (cutbox-rows.mjs): the forced cells as the released guide's own fill.sh prints them over the translation 3b1424f422c88c22… (all of the seat's roots in one cut). By AI agents, Wed Nov 11 2026. No macro, syntax, notation, axiom, sorry.
-/
import Derived.Test.YtjjhaahlinbpdaaChecked
import GoSem.Claim
import GoSem.ClaimJoined
import GoSem.ClaimMapViews
import Derived.JoinedTies
import Derived.KernelRfl
namespace Go.Proofs.Ytjjhaahlinbpdaa
/- THE CELL 'sum', in the pinned program and in every row, IS THE sha256 OF THE DUMP (.gsa) THAT YtjjhaahlinbpdaaProg.lean LOADS. Nothing in Lean hashes anything: it is a label: what it is worth is what the hold of that sum in a sandbox is worth. -/
noncomputable def Try.pinned : Pinned := { name := "ytjjhaahlinbpdaa", sum := "3b1424f422c88c2228a13718fac6e1b338924e0106c23beb96805a7902c8f98b", checked := Try.checked }
namespace Rows
def none {H : Type} : Left H := { results := [], args := [] }

/-- 'millhandlaw05.FilesNames': WHATEVER THE INPUT: true; the input reads as it did. -/
def filesNamesSpec : ChangeSpec := { name := "filesNames", fn := fun _ => fun
  | [] => { results := [.lit (.bool true)], args := [] }
  | _ => none }
def filesNamesRow : OpenClaim := { program := "ytjjhaahlinbpdaa", sum := "3b1424f422c88c2228a13718fac6e1b338924e0106c23beb96805a7902c8f98b", func := "millhand/millhandlaw05.FilesNames", spec := "filesNames", inPlace := ["internal/bytealg.abigen_runtime_cmpstring", "slices.overlaps[millhand/api.File]"], unfollowed := true, recurses := true, apart := false }
def FilesNamesSaid : Prop := filesNamesRow.holds Try.pinned (OpenSpec.ofChange filesNamesSpec)

/-- ITS FALSE NEIGHBOUR: 'it returns false'. Refute it at one input. -/
def filesNamesWrong : ChangeSpec := { name := "filesNames", fn := fun _ => fun
  | [] => { results := [.lit (.bool false)], args := [] }
  | _ => none }
def FilesNamesWrongFalsely : Prop := filesNamesRow.holds Try.pinned (OpenSpec.ofChange filesNamesWrong)

/-- 'millhandlaw05.FilesTurns': WHATEVER THE INPUT: true; the input reads as it did. -/
def filesTurnsSpec : ChangeSpec := { name := "filesTurns", fn := fun _ => fun
  | [d1, d2, d3, d4, d5] => { results := [.lit (.bool true)], args := [d1, d2, d3, d4, d5] }
  | _ => none }
def filesTurnsRow : OpenClaim := { program := "ytjjhaahlinbpdaa", sum := "3b1424f422c88c2228a13718fac6e1b338924e0106c23beb96805a7902c8f98b", func := "millhand/millhandlaw05.FilesTurns", spec := "filesTurns", inPlace := ["internal/bytealg.abigen_runtime_cmpstring", "slices.overlaps[millhand/api.File]"], unfollowed := true, recurses := true, apart := false }
def FilesTurnsSaid : Prop := filesTurnsRow.holds Try.pinned (OpenSpec.ofChange filesTurnsSpec)

/-- ITS FALSE NEIGHBOUR: 'it returns false'. Refute it at one input. -/
def filesTurnsWrong : ChangeSpec := { name := "filesTurns", fn := fun _ => fun
  | [d1, d2, d3, d4, d5] => { results := [.lit (.bool false)], args := [d1, d2, d3, d4, d5] }
  | _ => none }
def FilesTurnsWrongFalsely : Prop := filesTurnsRow.holds Try.pinned (OpenSpec.ofChange filesTurnsWrong)

/-- 'millhandlaw05.FilesBytes': WHATEVER THE INPUT: true; the input reads as it did. -/
def filesBytesSpec : ChangeSpec := { name := "filesBytes", fn := fun _ => fun
  | [d1, d2, d3] => { results := [.lit (.bool true)], args := [d1, d2, d3] }
  | _ => none }
def filesBytesRow : OpenClaim := { program := "ytjjhaahlinbpdaa", sum := "3b1424f422c88c2228a13718fac6e1b338924e0106c23beb96805a7902c8f98b", func := "millhand/millhandlaw05.FilesBytes", spec := "filesBytes", apart := false }
def FilesBytesSaid : Prop := filesBytesRow.holds Try.pinned (OpenSpec.ofChange filesBytesSpec)

/-- ITS FALSE NEIGHBOUR: 'it returns false'. Refute it at one input. -/
def filesBytesWrong : ChangeSpec := { name := "filesBytes", fn := fun _ => fun
  | [d1, d2, d3] => { results := [.lit (.bool false)], args := [d1, d2, d3] }
  | _ => none }
def FilesBytesWrongFalsely : Prop := filesBytesRow.holds Try.pinned (OpenSpec.ofChange filesBytesWrong)

/-- 'millhandlaw05.FilesFind': WHATEVER THE INPUT: true; the input reads as it did. -/
def filesFindSpec : ChangeSpec := { name := "filesFind", fn := fun _ => fun
  | [d1, d2, d3, d4, d5] => { results := [.lit (.bool true)], args := [d1, d2, d3, d4, d5] }
  | _ => none }
def filesFindRow : OpenClaim := { program := "ytjjhaahlinbpdaa", sum := "3b1424f422c88c2228a13718fac6e1b338924e0106c23beb96805a7902c8f98b", func := "millhand/millhandlaw05.FilesFind", spec := "filesFind", inPlace := ["internal/bytealg.abigen_runtime_cmpstring", "slices.overlaps[millhand/api.File]"], unfollowed := true, recurses := true, apart := false }
def FilesFindSaid : Prop := filesFindRow.holds Try.pinned (OpenSpec.ofChange filesFindSpec)

/-- ITS FALSE NEIGHBOUR: 'it returns false'. Refute it at one input. -/
def filesFindWrong : ChangeSpec := { name := "filesFind", fn := fun _ => fun
  | [d1, d2, d3, d4, d5] => { results := [.lit (.bool false)], args := [d1, d2, d3, d4, d5] }
  | _ => none }
def FilesFindWrongFalsely : Prop := filesFindRow.holds Try.pinned (OpenSpec.ofChange filesFindWrong)

/-- 'millhandlaw05.FilesApart': WHATEVER THE INPUT: true; the input reads as it did. -/
def filesApartSpec : ChangeSpec := { name := "filesApart", fn := fun _ => fun
  | [d1, d2, d3, d4] => { results := [.lit (.bool true)], args := [d1, d2, d3, d4] }
  | _ => none }
def filesApartRow : OpenClaim := { program := "ytjjhaahlinbpdaa", sum := "3b1424f422c88c2228a13718fac6e1b338924e0106c23beb96805a7902c8f98b", func := "millhand/millhandlaw05.FilesApart", spec := "filesApart", inPlace := ["internal/bytealg.abigen_runtime_cmpstring", "slices.overlaps[millhand/api.File]"], unfollowed := true, recurses := true, apart := false }
def FilesApartSaid : Prop := filesApartRow.holds Try.pinned (OpenSpec.ofChange filesApartSpec)

/-- ITS FALSE NEIGHBOUR: 'it returns false'. Refute it at one input. -/
def filesApartWrong : ChangeSpec := { name := "filesApart", fn := fun _ => fun
  | [d1, d2, d3, d4] => { results := [.lit (.bool false)], args := [d1, d2, d3, d4] }
  | _ => none }
def FilesApartWrongFalsely : Prop := filesApartRow.holds Try.pinned (OpenSpec.ofChange filesApartWrong)

/-- 'millhandlaw05.FilesBack': WHATEVER THE INPUT: true; the input reads as it did. -/
def filesBackSpec : ChangeSpec := { name := "filesBack", fn := fun _ => fun
  | [d1, d2, d3] => { results := [.lit (.bool true)], args := [d1, d2, d3] }
  | _ => none }
def filesBackRow : OpenClaim := { program := "ytjjhaahlinbpdaa", sum := "3b1424f422c88c2228a13718fac6e1b338924e0106c23beb96805a7902c8f98b", func := "millhand/millhandlaw05.FilesBack", spec := "filesBack", inPlace := ["internal/bytealg.abigen_runtime_cmpstring", "slices.overlaps[millhand/api.File]"], unfollowed := true, recurses := true, apart := false }
def FilesBackSaid : Prop := filesBackRow.holds Try.pinned (OpenSpec.ofChange filesBackSpec)

/-- ITS FALSE NEIGHBOUR: 'it returns false'. Refute it at one input. -/
def filesBackWrong : ChangeSpec := { name := "filesBack", fn := fun _ => fun
  | [d1, d2, d3] => { results := [.lit (.bool false)], args := [d1, d2, d3] }
  | _ => none }
def FilesBackWrongFalsely : Prop := filesBackRow.holds Try.pinned (OpenSpec.ofChange filesBackWrong)

/- THE SECOND FORM. 'bulk': how many values and letters a reading holds, each counted each time it is reached (what is shared counts as often as it is met; a slice's spare places count too). A statement '..UptoSaid' is the law's where the arguments, and the package variables that the reading takes, are together of bulk at most 1048576: NARROWER than '..Said'. Prove '..Said' where nothing that the law and all that it calls make is longer than what came in: it says more and counts as full. Else prove '..UptoSaid'. A law counts once. -/
mutual
def uptoBulk {H : Type} : DataW H → Nat
  | .lit (.string bytes) => bytes.length + 1
  | .lit _ => 1
  | .nil => 1
  | .ptr d => uptoBulk d + 1
  | .slice elems spare => uptoBulkAll elems + uptoBulkAll spare + 1
  | .agg parts => uptoBulkAll parts + 1
  | .iface _ d => uptoBulk d + 1
  | .map entries => uptoBulkEntries entries + 1
  | .held _ => 1
def uptoBulkAll {H : Type} : List (DataW H) → Nat
  | [] => 0
  | d :: r => uptoBulk d + uptoBulkAll r
def uptoBulkEntries {H : Type} : List (Lit × DataW H) → Nat
  | [] => 0
  | x :: r => uptoBulkEntry x + uptoBulkEntries r
def uptoBulkEntry {H : Type} : Lit × DataW H → Nat
  | (.string bytes, d) => bytes.length + uptoBulk d + 1
  | (_, d) => uptoBulk d + 1
 end
def uptoSmall : (H : Type) → List (DataW H) → Bool := fun _ ds => decide (uptoBulkAll ds ≤ 1048576)
def OpenSpec.upto (s : _root_.Go.ChangeSpec) : _root_.Go.OpenSpec := { _root_.Go.OpenSpec.ofChange s with cond := some uptoSmall }

/-- 'millhandlaw05.FilesNames', WHERE WHAT IT READS IS OF BULK AT MOST 1048576: true; the input reads as it did. -/
def filesNamesUptoRow : OpenClaim := { program := "ytjjhaahlinbpdaa", sum := "3b1424f422c88c2228a13718fac6e1b338924e0106c23beb96805a7902c8f98b", func := "millhand/millhandlaw05.FilesNames", spec := "filesNames", inPlace := ["internal/bytealg.abigen_runtime_cmpstring", "slices.overlaps[millhand/api.File]"], unfollowed := true, recurses := true, apart := false, narrowed := true }
def FilesNamesUptoSaid : Prop := filesNamesUptoRow.holds Try.pinned (OpenSpec.upto filesNamesSpec)

/-- 'millhandlaw05.FilesTurns', WHERE WHAT IT READS IS OF BULK AT MOST 1048576: true; the input reads as it did. -/
def filesTurnsUptoRow : OpenClaim := { program := "ytjjhaahlinbpdaa", sum := "3b1424f422c88c2228a13718fac6e1b338924e0106c23beb96805a7902c8f98b", func := "millhand/millhandlaw05.FilesTurns", spec := "filesTurns", inPlace := ["internal/bytealg.abigen_runtime_cmpstring", "slices.overlaps[millhand/api.File]"], unfollowed := true, recurses := true, apart := false, narrowed := true }
def FilesTurnsUptoSaid : Prop := filesTurnsUptoRow.holds Try.pinned (OpenSpec.upto filesTurnsSpec)

/-- 'millhandlaw05.FilesBytes', WHERE WHAT IT READS IS OF BULK AT MOST 1048576: true; the input reads as it did. -/
def filesBytesUptoRow : OpenClaim := { program := "ytjjhaahlinbpdaa", sum := "3b1424f422c88c2228a13718fac6e1b338924e0106c23beb96805a7902c8f98b", func := "millhand/millhandlaw05.FilesBytes", spec := "filesBytes", apart := false, narrowed := true }
def FilesBytesUptoSaid : Prop := filesBytesUptoRow.holds Try.pinned (OpenSpec.upto filesBytesSpec)

/-- 'millhandlaw05.FilesFind', WHERE WHAT IT READS IS OF BULK AT MOST 1048576: true; the input reads as it did. -/
def filesFindUptoRow : OpenClaim := { program := "ytjjhaahlinbpdaa", sum := "3b1424f422c88c2228a13718fac6e1b338924e0106c23beb96805a7902c8f98b", func := "millhand/millhandlaw05.FilesFind", spec := "filesFind", inPlace := ["internal/bytealg.abigen_runtime_cmpstring", "slices.overlaps[millhand/api.File]"], unfollowed := true, recurses := true, apart := false, narrowed := true }
def FilesFindUptoSaid : Prop := filesFindUptoRow.holds Try.pinned (OpenSpec.upto filesFindSpec)

/-- 'millhandlaw05.FilesApart', WHERE WHAT IT READS IS OF BULK AT MOST 1048576: true; the input reads as it did. -/
def filesApartUptoRow : OpenClaim := { program := "ytjjhaahlinbpdaa", sum := "3b1424f422c88c2228a13718fac6e1b338924e0106c23beb96805a7902c8f98b", func := "millhand/millhandlaw05.FilesApart", spec := "filesApart", inPlace := ["internal/bytealg.abigen_runtime_cmpstring", "slices.overlaps[millhand/api.File]"], unfollowed := true, recurses := true, apart := false, narrowed := true }
def FilesApartUptoSaid : Prop := filesApartUptoRow.holds Try.pinned (OpenSpec.upto filesApartSpec)

/-- 'millhandlaw05.FilesBack', WHERE WHAT IT READS IS OF BULK AT MOST 1048576: true; the input reads as it did. -/
def filesBackUptoRow : OpenClaim := { program := "ytjjhaahlinbpdaa", sum := "3b1424f422c88c2228a13718fac6e1b338924e0106c23beb96805a7902c8f98b", func := "millhand/millhandlaw05.FilesBack", spec := "filesBack", inPlace := ["internal/bytealg.abigen_runtime_cmpstring", "slices.overlaps[millhand/api.File]"], unfollowed := true, recurses := true, apart := false, narrowed := true }
def FilesBackUptoSaid : Prop := filesBackUptoRow.holds Try.pinned (OpenSpec.upto filesBackSpec)

end Rows
end Go.Proofs.Ytjjhaahlinbpdaa
