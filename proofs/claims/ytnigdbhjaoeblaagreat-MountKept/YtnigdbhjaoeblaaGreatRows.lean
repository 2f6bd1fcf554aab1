/-
  No cell of these rows narrows 'for every input' (looked for: loops, veiled, ifaces, maps, wideKeys, modest, calm, conditions, laid).
  DERIVED. THE GIVEN ROWS OF THIS SEAT. 10 by the template 'for every input the law returns true; each argument reads behind the call as it read before'; 0 by the template 'total and deterministic' (their statements: YtnigdbhjaoeblaaGreatTotals.lean).
  GIVEN WITH THE SEED: the statements are not yours to turn. If you find one false, say at which input.
  Laid BY PROGRAM, IN A SANDBOX (cutbox-rows.mjs): the forced cells as the released guide's own fill.sh prints them over the translation 43ff93b8b11b39d4… (all of the seat's roots in one cut). By AI agents, Wed Nov 11 2026. No macro, syntax, notation, axiom, sorry.
-/
import Derived.Test.YtnigdbhjaoeblaaGreatChecked
import GoSem.Claim
import GoSem.ClaimJoined
import GoSem.ClaimMapViews
import Derived.JoinedTies
import Derived.KernelRfl
namespace Go.Proofs.YtnigdbhjaoeblaaGreat
/- THE CELL 'sum', in the pinned program and in every row, IS THE sha256 OF THE DUMP (.gsa) THAT YtnigdbhjaoeblaaGreatProg.lean LOADS. Nothing in Lean hashes anything: it is a label: what it is worth is what the hold of that sum in a sandbox is worth. -/
noncomputable def Tryz.pinned : Pinned := { name := "ytnigdbhjaoeblaagreat", sum := "43ff93b8b11b39d46738427238d2aa1f09a4878102816b91bf0cec104017e640", checked := Tryz.checked }
namespace Rows
def none {H : Type} : Left H := { results := [], args := [] }

/-- 'millhandlaw06.FsNames': WHATEVER THE INPUT: true; the input reads as it did. -/
def fsNamesSpec : ChangeSpec := { name := "fsNames", fn := fun _ => fun
  | [] => { results := [.lit (.bool true)], args := [] }
  | _ => none }
def fsNamesRow : OpenClaim := { program := "ytnigdbhjaoeblaagreat", sum := "43ff93b8b11b39d46738427238d2aa1f09a4878102816b91bf0cec104017e640", func := "millhand/millhandlaw06.FsNames", spec := "fsNames", inPlace := ["internal/bytealg.abigen_runtime_cmpstring", "slices.overlaps[millhand/api.File]"], unfollowed := true, recurses := true, apart := false }
def FsNamesSaid : Prop := fsNamesRow.holds Tryz.pinned (OpenSpec.ofChange fsNamesSpec)

/-- ITS FALSE NEIGHBOUR: 'it returns false'. Refute it at one input. -/
def fsNamesWrong : ChangeSpec := { name := "fsNames", fn := fun _ => fun
  | [] => { results := [.lit (.bool false)], args := [] }
  | _ => none }
def FsNamesWrongFalsely : Prop := fsNamesRow.holds Tryz.pinned (OpenSpec.ofChange fsNamesWrong)

/-- 'millhandlaw06.FsTurns': WHATEVER THE INPUT: true; the input reads as it did. -/
def fsTurnsSpec : ChangeSpec := { name := "fsTurns", fn := fun _ => fun
  | [d1, d2, d3, d4] => { results := [.lit (.bool true)], args := [d1, d2, d3, d4] }
  | _ => none }
def fsTurnsRow : OpenClaim := { program := "ytnigdbhjaoeblaagreat", sum := "43ff93b8b11b39d46738427238d2aa1f09a4878102816b91bf0cec104017e640", func := "millhand/millhandlaw06.FsTurns", spec := "fsTurns", inPlace := ["internal/bytealg.abigen_runtime_cmpstring", "slices.overlaps[millhand/api.File]"], unfollowed := true, recurses := true, apart := false }
def FsTurnsSaid : Prop := fsTurnsRow.holds Tryz.pinned (OpenSpec.ofChange fsTurnsSpec)

/-- ITS FALSE NEIGHBOUR: 'it returns false'. Refute it at one input. -/
def fsTurnsWrong : ChangeSpec := { name := "fsTurns", fn := fun _ => fun
  | [d1, d2, d3, d4] => { results := [.lit (.bool false)], args := [d1, d2, d3, d4] }
  | _ => none }
def FsTurnsWrongFalsely : Prop := fsTurnsRow.holds Tryz.pinned (OpenSpec.ofChange fsTurnsWrong)

/-- 'millhandlaw06.FsBlocks': WHATEVER THE INPUT: true; the input reads as it did. -/
def fsBlocksSpec : ChangeSpec := { name := "fsBlocks", fn := fun _ => fun
  | [d1, d2, d3, d4] => { results := [.lit (.bool true)], args := [d1, d2, d3, d4] }
  | _ => none }
def fsBlocksRow : OpenClaim := { program := "ytnigdbhjaoeblaagreat", sum := "43ff93b8b11b39d46738427238d2aa1f09a4878102816b91bf0cec104017e640", func := "millhand/millhandlaw06.FsBlocks", spec := "fsBlocks", inPlace := ["internal/bytealg.abigen_runtime_cmpstring"], unfollowed := true, recurses := true, apart := false }
def FsBlocksSaid : Prop := fsBlocksRow.holds Tryz.pinned (OpenSpec.ofChange fsBlocksSpec)

/-- ITS FALSE NEIGHBOUR: 'it returns false'. Refute it at one input. -/
def fsBlocksWrong : ChangeSpec := { name := "fsBlocks", fn := fun _ => fun
  | [d1, d2, d3, d4] => { results := [.lit (.bool false)], args := [d1, d2, d3, d4] }
  | _ => none }
def FsBlocksWrongFalsely : Prop := fsBlocksRow.holds Tryz.pinned (OpenSpec.ofChange fsBlocksWrong)

/-- 'millhandlaw06.FsMade': WHATEVER THE INPUT: true; the input reads as it did. -/
def fsMadeSpec : ChangeSpec := { name := "fsMade", fn := fun _ => fun
  | [d1, d2, d3, d4] => { results := [.lit (.bool true)], args := [d1, d2, d3, d4] }
  | _ => none }
def fsMadeRow : OpenClaim := { program := "ytnigdbhjaoeblaagreat", sum := "43ff93b8b11b39d46738427238d2aa1f09a4878102816b91bf0cec104017e640", func := "millhand/millhandlaw06.FsMade", spec := "fsMade", inPlace := ["internal/bytealg.abigen_runtime_cmpstring", "slices.overlaps[millhand/api.File]"], unfollowed := true, recurses := true, apart := false }
def FsMadeSaid : Prop := fsMadeRow.holds Tryz.pinned (OpenSpec.ofChange fsMadeSpec)

/-- ITS FALSE NEIGHBOUR: 'it returns false'. Refute it at one input. -/
def fsMadeWrong : ChangeSpec := { name := "fsMade", fn := fun _ => fun
  | [d1, d2, d3, d4] => { results := [.lit (.bool false)], args := [d1, d2, d3, d4] }
  | _ => none }
def FsMadeWrongFalsely : Prop := fsMadeRow.holds Tryz.pinned (OpenSpec.ofChange fsMadeWrong)

/-- 'millhandlaw07.MountNames': WHATEVER THE INPUT: true; the input reads as it did. -/
def mountNamesSpec : ChangeSpec := { name := "mountNames", fn := fun _ => fun
  | [] => { results := [.lit (.bool true)], args := [] }
  | _ => none }
def mountNamesRow : OpenClaim := { program := "ytnigdbhjaoeblaagreat", sum := "43ff93b8b11b39d46738427238d2aa1f09a4878102816b91bf0cec104017e640", func := "millhand/millhandlaw07.MountNames", spec := "mountNames", inPlace := ["internal/bytealg.abigen_runtime_cmpstring", "slices.overlaps[millhand/api.File]"], unfollowed := true, recurses := true, apart := false }
def MountNamesSaid : Prop := mountNamesRow.holds Tryz.pinned (OpenSpec.ofChange mountNamesSpec)

/-- ITS FALSE NEIGHBOUR: 'it returns false'. Refute it at one input. -/
def mountNamesWrong : ChangeSpec := { name := "mountNames", fn := fun _ => fun
  | [] => { results := [.lit (.bool false)], args := [] }
  | _ => none }
def MountNamesWrongFalsely : Prop := mountNamesRow.holds Tryz.pinned (OpenSpec.ofChange mountNamesWrong)

/-- 'millhandlaw07.MountFails': WHATEVER THE INPUT: true; the input reads as it did. -/
def mountFailsSpec : ChangeSpec := { name := "mountFails", fn := fun _ => fun
  | [d1, d2, d3, d4] => { results := [.lit (.bool true)], args := [d1, d2, d3, d4] }
  | _ => none }
def mountFailsRow : OpenClaim := { program := "ytnigdbhjaoeblaagreat", sum := "43ff93b8b11b39d46738427238d2aa1f09a4878102816b91bf0cec104017e640", func := "millhand/millhandlaw07.MountFails", spec := "mountFails", unfollowed := true, recurses := true, apart := false }
def MountFailsSaid : Prop := mountFailsRow.holds Tryz.pinned (OpenSpec.ofChange mountFailsSpec)

/-- ITS FALSE NEIGHBOUR: 'it returns false'. Refute it at one input. -/
def mountFailsWrong : ChangeSpec := { name := "mountFails", fn := fun _ => fun
  | [d1, d2, d3, d4] => { results := [.lit (.bool false)], args := [d1, d2, d3, d4] }
  | _ => none }
def MountFailsWrongFalsely : Prop := mountFailsRow.holds Tryz.pinned (OpenSpec.ofChange mountFailsWrong)

/-- 'millhandlaw07.MountKept': WHATEVER THE INPUT: true; the input reads as it did. -/
def mountKeptSpec : ChangeSpec := { name := "mountKept", fn := fun _ => fun
  | [d1, d2] => { results := [.lit (.bool true)], args := [d1, d2] }
  | _ => none }
def mountKeptRow : OpenClaim := { program := "ytnigdbhjaoeblaagreat", sum := "43ff93b8b11b39d46738427238d2aa1f09a4878102816b91bf0cec104017e640", func := "millhand/millhandlaw07.MountKept", spec := "mountKept", inPlace := ["internal/bytealg.abigen_runtime_cmpstring", "slices.overlaps[millhand/api.File]"], unfollowed := true, recurses := true, apart := false }
def MountKeptSaid : Prop := mountKeptRow.holds Tryz.pinned (OpenSpec.ofChange mountKeptSpec)

/-- ITS FALSE NEIGHBOUR: 'it returns false'. Refute it at one input. -/
def mountKeptWrong : ChangeSpec := { name := "mountKept", fn := fun _ => fun
  | [d1, d2] => { results := [.lit (.bool false)], args := [d1, d2] }
  | _ => none }
def MountKeptWrongFalsely : Prop := mountKeptRow.holds Tryz.pinned (OpenSpec.ofChange mountKeptWrong)

/-- 'millhandlaw07.MountTorn': WHATEVER THE INPUT: true; the input reads as it did. -/
def mountTornSpec : ChangeSpec := { name := "mountTorn", fn := fun _ => fun
  | [d1, d2, d3, d4] => { results := [.lit (.bool true)], args := [d1, d2, d3, d4] }
  | _ => none }
def mountTornRow : OpenClaim := { program := "ytnigdbhjaoeblaagreat", sum := "43ff93b8b11b39d46738427238d2aa1f09a4878102816b91bf0cec104017e640", func := "millhand/millhandlaw07.MountTorn", spec := "mountTorn", inPlace := ["internal/bytealg.abigen_runtime_cmpstring", "slices.overlaps[millhand/api.File]"], unfollowed := true, recurses := true, apart := false }
def MountTornSaid : Prop := mountTornRow.holds Tryz.pinned (OpenSpec.ofChange mountTornSpec)

/-- ITS FALSE NEIGHBOUR: 'it returns false'. Refute it at one input. -/
def mountTornWrong : ChangeSpec := { name := "mountTorn", fn := fun _ => fun
  | [d1, d2, d3, d4] => { results := [.lit (.bool false)], args := [d1, d2, d3, d4] }
  | _ => none }
def MountTornWrongFalsely : Prop := mountTornRow.holds Tryz.pinned (OpenSpec.ofChange mountTornWrong)

/-- 'millhandlaw07.MountDays': WHATEVER THE INPUT: true; the input reads as it did. -/
def mountDaysSpec : ChangeSpec := { name := "mountDays", fn := fun _ => fun
  | [d1, d2, d3] => { results := [.lit (.bool true)], args := [d1, d2, d3] }
  | _ => none }
def mountDaysRow : OpenClaim := { program := "ytnigdbhjaoeblaagreat", sum := "43ff93b8b11b39d46738427238d2aa1f09a4878102816b91bf0cec104017e640", func := "millhand/millhandlaw07.MountDays", spec := "mountDays", inPlace := ["internal/bytealg.abigen_runtime_cmpstring", "slices.overlaps[millhand/api.File]"], unfollowed := true, recurses := true, apart := false }
def MountDaysSaid : Prop := mountDaysRow.holds Tryz.pinned (OpenSpec.ofChange mountDaysSpec)

/-- ITS FALSE NEIGHBOUR: 'it returns false'. Refute it at one input. -/
def mountDaysWrong : ChangeSpec := { name := "mountDays", fn := fun _ => fun
  | [d1, d2, d3] => { results := [.lit (.bool false)], args := [d1, d2, d3] }
  | _ => none }
def MountDaysWrongFalsely : Prop := mountDaysRow.holds Tryz.pinned (OpenSpec.ofChange mountDaysWrong)

/-- 'millhandtop.TopFiles': WHATEVER THE INPUT: true; the input reads as it did. -/
def topFilesSpec : ChangeSpec := { name := "topFiles", fn := fun _ => fun
  | [d1, d2] => { results := [.lit (.bool true)], args := [d1, d2] }
  | _ => none }
def topFilesRow : OpenClaim := { program := "ytnigdbhjaoeblaagreat", sum := "43ff93b8b11b39d46738427238d2aa1f09a4878102816b91bf0cec104017e640", func := "millhand/millhandtop.TopFiles", spec := "topFiles", inPlace := ["internal/bytealg.abigen_runtime_cmpstring", "slices.overlaps[millhand/api.File]"], unfollowed := true, recurses := true, apart := false }
def TopFilesSaid : Prop := topFilesRow.holds Tryz.pinned (OpenSpec.ofChange topFilesSpec)

/-- ITS FALSE NEIGHBOUR: 'it returns false'. Refute it at one input. -/
def topFilesWrong : ChangeSpec := { name := "topFiles", fn := fun _ => fun
  | [d1, d2] => { results := [.lit (.bool false)], args := [d1, d2] }
  | _ => none }
def TopFilesWrongFalsely : Prop := topFilesRow.holds Tryz.pinned (OpenSpec.ofChange topFilesWrong)

/- THE SECOND FORM. 'bulk': how many values and letters a reading holds, each counted each time it is reached (what is shared counts as often as it is met; a slice's spare places count too). A statement '..UptoSaid' is the law's where the arguments, and the package variables that the reading takes, are together of bulk at most 1048576: NARROWER than '..Said'. Prove '..Said' where nothing that the law and all that it calls make is longer than what came in: it says more and counts as full. Else prove '..UptoSaid'. A law counts once. -/
mutual
def uptoBulk {H : Type} : DataW H → Nat
  | .lit (.string bytes) => bytes.length + 1
  | .lit _ => 1
  | .nil => 1
  | .ptr d => uptoBulk d + 1
  | .slice elems spare => uptoBulkAll elems + uptoBulkAll spare + 1
  | .agg parts => uptoBulkAll parts + 1
  | .iface _ d => uptoBulk d + 1
  | .map entries => uptoBulkEntries entries + 1
  | .held _ => 1
def uptoBulkAll {H : Type} : List (DataW H) → Nat
  | [] => 0
  | d :: r => uptoBulk d + uptoBulkAll r
def uptoBulkEntries {H : Type} : List (Lit × DataW H) → Nat
  | [] => 0
  | x :: r => uptoBulkEntry x + uptoBulkEntries r
def uptoBulkEntry {H : Type} : Lit × DataW H → Nat
  | (.string bytes, d) => bytes.length + uptoBulk d + 1
  | (_, d) => uptoBulk d + 1
 end
def uptoSmall : (H : Type) → List (DataW H) → Bool := fun _ ds => decide (uptoBulkAll ds ≤ 1048576)
def OpenSpec.upto (s : _root_.Go.ChangeSpec) : _root_.Go.OpenSpec := { _root_.Go.OpenSpec.ofChange s with cond := some uptoSmall }

/-- 'millhandlaw06.FsNames', WHERE WHAT IT READS IS OF BULK AT MOST 1048576: true; the input reads as it did. -/
def fsNamesUptoRow : OpenClaim := { program := "ytnigdbhjaoeblaagreat", sum := "43ff93b8b11b39d46738427238d2aa1f09a4878102816b91bf0cec104017e640", func := "millhand/millhandlaw06.FsNames", spec := "fsNames", inPlace := ["internal/bytealg.abigen_runtime_cmpstring", "slices.overlaps[millhand/api.File]"], unfollowed := true, recurses := true, apart := false, narrowed := true }
def FsNamesUptoSaid : Prop := fsNamesUptoRow.holds Tryz.pinned (OpenSpec.upto fsNamesSpec)

/-- 'millhandlaw06.FsTurns', WHERE WHAT IT READS IS OF BULK AT MOST 1048576: true; the input reads as it did. -/
def fsTurnsUptoRow : OpenClaim := { program := "ytnigdbhjaoeblaagreat", sum := "43ff93b8b11b39d46738427238d2aa1f09a4878102816b91bf0cec104017e640", func := "millhand/millhandlaw06.FsTurns", spec := "fsTurns", inPlace := ["internal/bytealg.abigen_runtime_cmpstring", "slices.overlaps[millhand/api.File]"], unfollowed := true, recurses := true, apart := false, narrowed := true }
def FsTurnsUptoSaid : Prop := fsTurnsUptoRow.holds Tryz.pinned (OpenSpec.upto fsTurnsSpec)

/-- 'millhandlaw06.FsBlocks', WHERE WHAT IT READS IS OF BULK AT MOST 1048576: true; the input reads as it did. -/
def fsBlocksUptoRow : OpenClaim := { program := "ytnigdbhjaoeblaagreat", sum := "43ff93b8b11b39d46738427238d2aa1f09a4878102816b91bf0cec104017e640", func := "millhand/millhandlaw06.FsBlocks", spec := "fsBlocks", inPlace := ["internal/bytealg.abigen_runtime_cmpstring"], unfollowed := true, recurses := true, apart := false, narrowed := true }
def FsBlocksUptoSaid : Prop := fsBlocksUptoRow.holds Tryz.pinned (OpenSpec.upto fsBlocksSpec)

/-- 'millhandlaw06.FsMade', WHERE WHAT IT READS IS OF BULK AT MOST 1048576: true; the input reads as it did. -/
def fsMadeUptoRow : OpenClaim := { program := "ytnigdbhjaoeblaagreat", sum := "43ff93b8b11b39d46738427238d2aa1f09a4878102816b91bf0cec104017e640", func := "millhand/millhandlaw06.FsMade", spec := "fsMade", inPlace := ["internal/bytealg.abigen_runtime_cmpstring", "slices.overlaps[millhand/api.File]"], unfollowed := true, recurses := true, apart := false, narrowed := true }
def FsMadeUptoSaid : Prop := fsMadeUptoRow.holds Tryz.pinned (OpenSpec.upto fsMadeSpec)

/-- 'millhandlaw07.MountNames', WHERE WHAT IT READS IS OF BULK AT MOST 1048576: true; the input reads as it did. -/
def mountNamesUptoRow : OpenClaim := { program := "ytnigdbhjaoeblaagreat", sum := "43ff93b8b11b39d46738427238d2aa1f09a4878102816b91bf0cec104017e640", func := "millhand/millhandlaw07.MountNames", spec := "mountNames", inPlace := ["internal/bytealg.abigen_runtime_cmpstring", "slices.overlaps[millhand/api.File]"], unfollowed := true, recurses := true, apart := false, narrowed := true }
def MountNamesUptoSaid : Prop := mountNamesUptoRow.holds Tryz.pinned (OpenSpec.upto mountNamesSpec)

/-- 'millhandlaw07.MountFails', WHERE WHAT IT READS IS OF BULK AT MOST 1048576: true; the input reads as it did. -/
def mountFailsUptoRow : OpenClaim := { program := "ytnigdbhjaoeblaagreat", sum := "43ff93b8b11b39d46738427238d2aa1f09a4878102816b91bf0cec104017e640", func := "millhand/millhandlaw07.MountFails", spec := "mountFails", unfollowed := true, recurses := true, apart := false, narrowed := true }
def MountFailsUptoSaid : Prop := mountFailsUptoRow.holds Tryz.pinned (OpenSpec.upto mountFailsSpec)

/-- 'millhandlaw07.MountKept', WHERE WHAT IT READS IS OF BULK AT MOST 1048576: true; the input reads as it did. -/
def mountKeptUptoRow : OpenClaim := { program := "ytnigdbhjaoeblaagreat", sum := "43ff93b8b11b39d46738427238d2aa1f09a4878102816b91bf0cec104017e640", func := "millhand/millhandlaw07.MountKept", spec := "mountKept", inPlace := ["internal/bytealg.abigen_runtime_cmpstring", "slices.overlaps[millhand/api.File]"], unfollowed := true, recurses := true, apart := false, narrowed := true }
def MountKeptUptoSaid : Prop := mountKeptUptoRow.holds Tryz.pinned (OpenSpec.upto mountKeptSpec)

/-- 'millhandlaw07.MountTorn', WHERE WHAT IT READS IS OF BULK AT MOST 1048576: true; the input reads as it did. -/
def mountTornUptoRow : OpenClaim := { program := "ytnigdbhjaoeblaagreat", sum := "43ff93b8b11b39d46738427238d2aa1f09a4878102816b91bf0cec104017e640", func := "millhand/millhandlaw07.MountTorn", spec := "mountTorn", inPlace := ["internal/bytealg.abigen_runtime_cmpstring", "slices.overlaps[millhand/api.File]"], unfollowed := true, recurses := true, apart := false, narrowed := true }
def MountTornUptoSaid : Prop := mountTornUptoRow.holds Tryz.pinned (OpenSpec.upto mountTornSpec)

/-- 'millhandlaw07.MountDays', WHERE WHAT IT READS IS OF BULK AT MOST 1048576: true; the input reads as it did. -/
def mountDaysUptoRow : OpenClaim := { program := "ytnigdbhjaoeblaagreat", sum := "43ff93b8b11b39d46738427238d2aa1f09a4878102816b91bf0cec104017e640", func := "millhand/millhandlaw07.MountDays", spec := "mountDays", inPlace := ["internal/bytealg.abigen_runtime_cmpstring", "slices.overlaps[millhand/api.File]"], unfollowed := true, recurses := true, apart := false, narrowed := true }
def MountDaysUptoSaid : Prop := mountDaysUptoRow.holds Tryz.pinned (OpenSpec.upto mountDaysSpec)

/-- 'millhandtop.TopFiles', WHERE WHAT IT READS IS OF BULK AT MOST 1048576: true; the input reads as it did. -/
def topFilesUptoRow : OpenClaim := { program := "ytnigdbhjaoeblaagreat", sum := "43ff93b8b11b39d46738427238d2aa1f09a4878102816b91bf0cec104017e640", func := "millhand/millhandtop.TopFiles", spec := "topFiles", inPlace := ["internal/bytealg.abigen_runtime_cmpstring", "slices.overlaps[millhand/api.File]"], unfollowed := true, recurses := true, apart := false, narrowed := true }
def TopFilesUptoSaid : Prop := topFilesUptoRow.holds Tryz.pinned (OpenSpec.upto topFilesSpec)

end Rows
end Go.Proofs.YtnigdbhjaoeblaaGreat
