/-
  NARROWER THAN 'FOR EVERY INPUT', by the rows' own cells (each row's printed sentence says how): ManifestNames: laid · ManifestFiles: laid · ManifestBack: laid · ManifestKeeps: laid · ManifestTorn: laid.
  DERIVED. THE GIVEN ROWS OF THIS SEAT. 5 by the template 'for every input the law returns true; each argument reads behind the call as it read before'; 0 by the template 'total and deterministic' (their statements: YtmeaiocohalphaaGreatDoorTotals.lean).
  GIVEN WITH THE SEED: the statements are not yours to turn. If you find one false, say at which input.
  Laid BY PROGRAM, IN A SANDBOX (cutbox-rows.mjs): the forced cells as the released guide's own fill.sh prints them over the translation 3df3ec87c3fe30d3… (all of the seat's roots in one cut). By AI agents, Wed Nov 11 2026. No macro, syntax, notation, axiom, sorry.
-/
import Derived.Test.YtmeaiocohalphaaGreatDoorChecked
import GoSem.Claim
import GoSem.ClaimJoined
import GoSem.ClaimMapViews
import Derived.JoinedTies
import Derived.KernelRfl
namespace Go.Proofs.YtmeaiocohalphaaGreatDoor
/- THE CELL 'sum', in the pinned program and in every row, IS THE sha256 OF THE DUMP (.gsa) THAT YtmeaiocohalphaaGreatDoorProg.lean LOADS. Nothing in Lean hashes anything: it is a label: what it is worth is what the hold of that sum in a sandbox is worth. -/
noncomputable def Tryz.pinned : Pinned := { name := "ytmeaiocohalphaagreatdoor", sum := "3df3ec87c3fe30d3701298a08b2a92907464f9db54fae5ce5371d072a29c5af7", checked := Tryz.checked }
namespace Rows
def none {H : Type} : Left H := { results := [], args := [] }

/- WHAT THE LISTED PACKAGE-LEVEL VARIABLES READ AS WHEN THE CALL BEGINS. Each datum BY PROGRAM (the guide's laid-datum.mjs) off the statement by which the dump's own 'gosem.cut.vars' lays the variable. In a bare row this is a premise. The card (YtmeaiocohalphaaGreatDoorCards.lean) ties it to the program's text. -/
def laid_bytes_ErrTooLarge {H : Type} : DataW H := .iface "*errors.errorString" (.ptr (.agg [.lit (.string [98, 121, 116, 101, 115, 46, 66, 117, 102, 102, 101, 114, 58, 32, 116, 111, 111, 32, 108, 97, 114, 103, 101])]))

/-- 'millhandlaw17.ManifestNames': WHATEVER THE INPUT: true; the input reads as it did. -/
def manifestNamesSpec : ChangeSpec := { name := "manifestNames", fn := fun _ => fun
  | [] => { results := [.lit (.bool true)], args := [] }
  | _ => none }
def manifestNamesRow : OpenClaim := { program := "ytmeaiocohalphaagreatdoor", sum := "3df3ec87c3fe30d3701298a08b2a92907464f9db54fae5ce5371d072a29c5af7", func := "millhand/millhandlaw17.ManifestNames", spec := "manifestNames", inPlace := ["internal/bytealg.abigen_runtime_cmpstring", "slices.overlaps[millhand/api.File]", "internal/bytealg.MakeNoZero"], unfollowed := true, recurses := true, named := ["bytes.ErrTooLarge"], apart := false, laid := [("bytes.ErrTooLarge", laid_bytes_ErrTooLarge)] }
def ManifestNamesSaid : Prop := manifestNamesRow.holds Tryz.pinned (OpenSpec.ofChange manifestNamesSpec)

/-- ITS FALSE NEIGHBOUR: 'it returns false'. Refute it at one input. -/
def manifestNamesWrong : ChangeSpec := { name := "manifestNames", fn := fun _ => fun
  | [] => { results := [.lit (.bool false)], args := [] }
  | _ => none }
def ManifestNamesWrongFalsely : Prop := manifestNamesRow.holds Tryz.pinned (OpenSpec.ofChange manifestNamesWrong)

/-- 'millhandlaw17.ManifestFiles': WHATEVER THE INPUT: true; the input reads as it did. -/
def manifestFilesSpec : ChangeSpec := { name := "manifestFiles", fn := fun _ => fun
  | [d1, d2, d3, d4, d5] => { results := [.lit (.bool true)], args := [d1, d2, d3, d4, d5] }
  | _ => none }
def manifestFilesRow : OpenClaim := { program := "ytmeaiocohalphaagreatdoor", sum := "3df3ec87c3fe30d3701298a08b2a92907464f9db54fae5ce5371d072a29c5af7", func := "millhand/millhandlaw17.ManifestFiles", spec := "manifestFiles", inPlace := ["internal/bytealg.abigen_runtime_cmpstring", "slices.overlaps[millhand/api.File]", "internal/bytealg.MakeNoZero"], unfollowed := true, recurses := true, named := ["bytes.ErrTooLarge"], apart := false, laid := [("bytes.ErrTooLarge", laid_bytes_ErrTooLarge)] }
def ManifestFilesSaid : Prop := manifestFilesRow.holds Tryz.pinned (OpenSpec.ofChange manifestFilesSpec)

/-- ITS FALSE NEIGHBOUR: 'it returns false'. Refute it at one input. -/
def manifestFilesWrong : ChangeSpec := { name := "manifestFiles", fn := fun _ => fun
  | [d1, d2, d3, d4, d5] => { results := [.lit (.bool false)], args := [d1, d2, d3, d4, d5] }
  | _ => none }
def ManifestFilesWrongFalsely : Prop := manifestFilesRow.holds Tryz.pinned (OpenSpec.ofChange manifestFilesWrong)

/-- 'millhandlaw17.ManifestBack': WHATEVER THE INPUT: true; the input reads as it did. -/
def manifestBackSpec : ChangeSpec := { name := "manifestBack", fn := fun _ => fun
  | [d1, d2] => { results := [.lit (.bool true)], args := [d1, d2] }
  | _ => none }
def manifestBackRow : OpenClaim := { program := "ytmeaiocohalphaagreatdoor", sum := "3df3ec87c3fe30d3701298a08b2a92907464f9db54fae5ce5371d072a29c5af7", func := "millhand/millhandlaw17.ManifestBack", spec := "manifestBack", inPlace := ["internal/bytealg.abigen_runtime_cmpstring", "slices.overlaps[millhand/api.File]", "internal/bytealg.MakeNoZero"], unfollowed := true, recurses := true, named := ["bytes.ErrTooLarge"], apart := false, laid := [("bytes.ErrTooLarge", laid_bytes_ErrTooLarge)] }
def ManifestBackSaid : Prop := manifestBackRow.holds Tryz.pinned (OpenSpec.ofChange manifestBackSpec)

/-- ITS FALSE NEIGHBOUR: 'it returns false'. Refute it at one input. -/
def manifestBackWrong : ChangeSpec := { name := "manifestBack", fn := fun _ => fun
  | [d1, d2] => { results := [.lit (.bool false)], args := [d1, d2] }
  | _ => none }
def ManifestBackWrongFalsely : Prop := manifestBackRow.holds Tryz.pinned (OpenSpec.ofChange manifestBackWrong)

/-- 'millhandlaw17.ManifestKeeps': WHATEVER THE INPUT: true; the input reads as it did. -/
def manifestKeepsSpec : ChangeSpec := { name := "manifestKeeps", fn := fun _ => fun
  | [d1, d2, d3, d4] => { results := [.lit (.bool true)], args := [d1, d2, d3, d4] }
  | _ => none }
def manifestKeepsRow : OpenClaim := { program := "ytmeaiocohalphaagreatdoor", sum := "3df3ec87c3fe30d3701298a08b2a92907464f9db54fae5ce5371d072a29c5af7", func := "millhand/millhandlaw17.ManifestKeeps", spec := "manifestKeeps", inPlace := ["internal/bytealg.abigen_runtime_cmpstring", "slices.overlaps[millhand/api.File]", "internal/bytealg.MakeNoZero"], unfollowed := true, recurses := true, named := ["bytes.ErrTooLarge"], apart := false, laid := [("bytes.ErrTooLarge", laid_bytes_ErrTooLarge)] }
def ManifestKeepsSaid : Prop := manifestKeepsRow.holds Tryz.pinned (OpenSpec.ofChange manifestKeepsSpec)

/-- ITS FALSE NEIGHBOUR: 'it returns false'. Refute it at one input. -/
def manifestKeepsWrong : ChangeSpec := { name := "manifestKeeps", fn := fun _ => fun
  | [d1, d2, d3, d4] => { results := [.lit (.bool false)], args := [d1, d2, d3, d4] }
  | _ => none }
def ManifestKeepsWrongFalsely : Prop := manifestKeepsRow.holds Tryz.pinned (OpenSpec.ofChange manifestKeepsWrong)

/-- 'millhandlaw17.ManifestTorn': WHATEVER THE INPUT: true; the input reads as it did. -/
def manifestTornSpec : ChangeSpec := { name := "manifestTorn", fn := fun _ => fun
  | [d1, d2, d3, d4] => { results := [.lit (.bool true)], args := [d1, d2, d3, d4] }
  | _ => none }
def manifestTornRow : OpenClaim := { program := "ytmeaiocohalphaagreatdoor", sum := "3df3ec87c3fe30d3701298a08b2a92907464f9db54fae5ce5371d072a29c5af7", func := "millhand/millhandlaw17.ManifestTorn", spec := "manifestTorn", inPlace := ["internal/bytealg.abigen_runtime_cmpstring", "slices.overlaps[millhand/api.File]", "internal/bytealg.MakeNoZero"], unfollowed := true, recurses := true, named := ["bytes.ErrTooLarge"], apart := false, laid := [("bytes.ErrTooLarge", laid_bytes_ErrTooLarge)] }
def ManifestTornSaid : Prop := manifestTornRow.holds Tryz.pinned (OpenSpec.ofChange manifestTornSpec)

/-- ITS FALSE NEIGHBOUR: 'it returns false'. Refute it at one input. -/
def manifestTornWrong : ChangeSpec := { name := "manifestTorn", fn := fun _ => fun
  | [d1, d2, d3, d4] => { results := [.lit (.bool false)], args := [d1, d2, d3, d4] }
  | _ => none }
def ManifestTornWrongFalsely : Prop := manifestTornRow.holds Tryz.pinned (OpenSpec.ofChange manifestTornWrong)

/- THE SECOND FORM. 'bulk': how many values and letters a reading holds, each counted each time it is reached (what is shared counts as often as it is met; a slice's spare places count too). A statement '..UptoSaid' is the law's where the arguments, and the package variables that the reading takes, are together of bulk at most 1048576: NARROWER than '..Said'. Prove '..Said' where nothing that the law and all that it calls make is longer than what came in: it says more and counts as full. Else prove '..UptoSaid'. A law counts once. -/
mutual
def uptoBulk {H : Type} : DataW H → Nat
  | .lit (.string bytes) => bytes.length + 1
  | .lit _ => 1
  | .nil => 1
  | .ptr d => uptoBulk d + 1
  | .slice elems spare => uptoBulkAll elems + uptoBulkAll spare + 1
  | .agg parts => uptoBulkAll parts + 1
  | .iface _ d => uptoBulk d + 1
  | .map entries => uptoBulkEntries entries + 1
  | .held _ => 1
def uptoBulkAll {H : Type} : List (DataW H) → Nat
  | [] => 0
  | d :: r => uptoBulk d + uptoBulkAll r
def uptoBulkEntries {H : Type} : List (Lit × DataW H) → Nat
  | [] => 0
  | x :: r => uptoBulkEntry x + uptoBulkEntries r
def uptoBulkEntry {H : Type} : Lit × DataW H → Nat
  | (.string bytes, d) => bytes.length + uptoBulk d + 1
  | (_, d) => uptoBulk d + 1
 end
def uptoSmall : (H : Type) → List (DataW H) → Bool := fun _ ds => decide (uptoBulkAll ds ≤ 1048576)
def OpenSpec.upto (s : _root_.Go.ChangeSpec) : _root_.Go.OpenSpec := { _root_.Go.OpenSpec.ofChange s with cond := some uptoSmall }

/-- 'millhandlaw17.ManifestNames', WHERE WHAT IT READS IS OF BULK AT MOST 1048576: true; the input reads as it did. -/
def manifestNamesUptoRow : OpenClaim := { program := "ytmeaiocohalphaagreatdoor", sum := "3df3ec87c3fe30d3701298a08b2a92907464f9db54fae5ce5371d072a29c5af7", func := "millhand/millhandlaw17.ManifestNames", spec := "manifestNames", inPlace := ["internal/bytealg.abigen_runtime_cmpstring", "slices.overlaps[millhand/api.File]", "internal/bytealg.MakeNoZero"], unfollowed := true, recurses := true, named := ["bytes.ErrTooLarge"], apart := false, laid := [("bytes.ErrTooLarge", laid_bytes_ErrTooLarge)], narrowed := true }
def ManifestNamesUptoSaid : Prop := manifestNamesUptoRow.holds Tryz.pinned (OpenSpec.upto manifestNamesSpec)

/-- 'millhandlaw17.ManifestFiles', WHERE WHAT IT READS IS OF BULK AT MOST 1048576: true; the input reads as it did. -/
def manifestFilesUptoRow : OpenClaim := { program := "ytmeaiocohalphaagreatdoor", sum := "3df3ec87c3fe30d3701298a08b2a92907464f9db54fae5ce5371d072a29c5af7", func := "millhand/millhandlaw17.ManifestFiles", spec := "manifestFiles", inPlace := ["internal/bytealg.abigen_runtime_cmpstring", "slices.overlaps[millhand/api.File]", "internal/bytealg.MakeNoZero"], unfollowed := true, recurses := true, named := ["bytes.ErrTooLarge"], apart := false, laid := [("bytes.ErrTooLarge", laid_bytes_ErrTooLarge)], narrowed := true }
def ManifestFilesUptoSaid : Prop := manifestFilesUptoRow.holds Tryz.pinned (OpenSpec.upto manifestFilesSpec)

/-- 'millhandlaw17.ManifestBack', WHERE WHAT IT READS IS OF BULK AT MOST 1048576: true; the input reads as it did. -/
def manifestBackUptoRow : OpenClaim := { program := "ytmeaiocohalphaagreatdoor", sum := "3df3ec87c3fe30d3701298a08b2a92907464f9db54fae5ce5371d072a29c5af7", func := "millhand/millhandlaw17.ManifestBack", spec := "manifestBack", inPlace := ["internal/bytealg.abigen_runtime_cmpstring", "slices.overlaps[millhand/api.File]", "internal/bytealg.MakeNoZero"], unfollowed := true, recurses := true, named := ["bytes.ErrTooLarge"], apart := false, laid := [("bytes.ErrTooLarge", laid_bytes_ErrTooLarge)], narrowed := true }
def ManifestBackUptoSaid : Prop := manifestBackUptoRow.holds Tryz.pinned (OpenSpec.upto manifestBackSpec)

/-- 'millhandlaw17.ManifestKeeps', WHERE WHAT IT READS IS OF BULK AT MOST 1048576: true; the input reads as it did. -/
def manifestKeepsUptoRow : OpenClaim := { program := "ytmeaiocohalphaagreatdoor", sum := "3df3ec87c3fe30d3701298a08b2a92907464f9db54fae5ce5371d072a29c5af7", func := "millhand/millhandlaw17.ManifestKeeps", spec := "manifestKeeps", inPlace := ["internal/bytealg.abigen_runtime_cmpstring", "slices.overlaps[millhand/api.File]", "internal/bytealg.MakeNoZero"], unfollowed := true, recurses := true, named := ["bytes.ErrTooLarge"], apart := false, laid := [("bytes.ErrTooLarge", laid_bytes_ErrTooLarge)], narrowed := true }
def ManifestKeepsUptoSaid : Prop := manifestKeepsUptoRow.holds Tryz.pinned (OpenSpec.upto manifestKeepsSpec)

/-- 'millhandlaw17.ManifestTorn', WHERE WHAT IT READS IS OF BULK AT MOST 1048576: true; the input reads as it did. -/
def manifestTornUptoRow : OpenClaim := { program := "ytmeaiocohalphaagreatdoor", sum := "3df3ec87c3fe30d3701298a08b2a92907464f9db54fae5ce5371d072a29c5af7", func := "millhand/millhandlaw17.ManifestTorn", spec := "manifestTorn", inPlace := ["internal/bytealg.abigen_runtime_cmpstring", "slices.overlaps[millhand/api.File]", "internal/bytealg.MakeNoZero"], unfollowed := true, recurses := true, named := ["bytes.ErrTooLarge"], apart := false, laid := [("bytes.ErrTooLarge", laid_bytes_ErrTooLarge)], narrowed := true }
def ManifestTornUptoSaid : Prop := manifestTornUptoRow.holds Tryz.pinned (OpenSpec.upto manifestTornSpec)

end Rows
end Go.Proofs.YtmeaiocohalphaaGreatDoor
