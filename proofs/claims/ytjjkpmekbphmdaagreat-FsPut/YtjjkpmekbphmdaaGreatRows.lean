/-
  No cell of these rows narrows 'for every input' (looked for: loops, veiled, ifaces, maps, wideKeys, modest, calm, conditions, laid).
  DERIVED. THE GIVEN ROWS OF THIS SEAT. 6 by the template 'for every input the law returns true; each argument reads behind the call as it read before'; 0 by the template 'total and deterministic' (their statements: YtjjkpmekbphmdaaGreatTotals.lean).
  GIVEN WITH THE SEED: the statements are not yours to turn. If you find one false, say at which input.
  Laid BY PROGRAM, IN A SANDBOX (cutbox-rows.mjs): the forced cells as the released guide's own fill.sh prints them over the translation 5d159ae268fe0b42… (all of the seat's roots in one cut). By AI agents, Wed Nov 11 2026. No macro, syntax, notation, axiom, sorry.
-/
import Derived.Test.YtjjkpmekbphmdaaGreatChecked
import GoSem.Claim
import GoSem.ClaimJoined
import GoSem.ClaimMapViews
import Derived.JoinedTies
import Derived.KernelRfl
namespace Go.Proofs.YtjjkpmekbphmdaaGreat
/- THE CELL 'sum', in the pinned program and in every row, IS THE sha256 OF THE DUMP (.gsa) THAT YtjjkpmekbphmdaaGreatProg.lean LOADS. Nothing in Lean hashes anything: it is a label: what it is worth is what the hold of that sum in a sandbox is worth. -/
noncomputable def Tryz.pinned : Pinned := { name := "ytjjkpmekbphmdaagreat", sum := "5d159ae268fe0b42b8d2b97fa5f7f653b06203fd7ee1993be9abba5ef3d028c8", checked := Tryz.checked }
namespace Rows
def none {H : Type} : Left H := { results := [], args := [] }

/-- 'millhandlaw06.FsNames': WHATEVER THE INPUT: true; the input reads as it did. -/
def fsNamesSpec : ChangeSpec := { name := "fsNames", fn := fun _ => fun
  | [] => { results := [.lit (.bool true)], args := [] }
  | _ => none }
def fsNamesRow : OpenClaim := { program := "ytjjkpmekbphmdaagreat", sum := "5d159ae268fe0b42b8d2b97fa5f7f653b06203fd7ee1993be9abba5ef3d028c8", func := "millhand/millhandlaw06.FsNames", spec := "fsNames", inPlace := ["internal/bytealg.abigen_runtime_cmpstring", "slices.overlaps[millhand/api.File]"], unfollowed := true, recurses := true, apart := false }
def FsNamesSaid : Prop := fsNamesRow.holds Tryz.pinned (OpenSpec.ofChange fsNamesSpec)

/-- ITS FALSE NEIGHBOUR: 'it returns false'. Refute it at one input. -/
def fsNamesWrong : ChangeSpec := { name := "fsNames", fn := fun _ => fun
  | [] => { results := [.lit (.bool false)], args := [] }
  | _ => none }
def FsNamesWrongFalsely : Prop := fsNamesRow.holds Tryz.pinned (OpenSpec.ofChange fsNamesWrong)

/-- 'millhandlaw06.FsTurns': WHATEVER THE INPUT: true; the input reads as it did. -/
def fsTurnsSpec : ChangeSpec := { name := "fsTurns", fn := fun _ => fun
  | [d1, d2, d3, d4] => { results := [.lit (.bool true)], args := [d1, d2, d3, d4] }
  | _ => none }
def fsTurnsRow : OpenClaim := { program := "ytjjkpmekbphmdaagreat", sum := "5d159ae268fe0b42b8d2b97fa5f7f653b06203fd7ee1993be9abba5ef3d028c8", func := "millhand/millhandlaw06.FsTurns", spec := "fsTurns", inPlace := ["internal/bytealg.abigen_runtime_cmpstring", "slices.overlaps[millhand/api.File]"], unfollowed := true, recurses := true, apart := false }
def FsTurnsSaid : Prop := fsTurnsRow.holds Tryz.pinned (OpenSpec.ofChange fsTurnsSpec)

/-- ITS FALSE NEIGHBOUR: 'it returns false'. Refute it at one input. -/
def fsTurnsWrong : ChangeSpec := { name := "fsTurns", fn := fun _ => fun
  | [d1, d2, d3, d4] => { results := [.lit (.bool false)], args := [d1, d2, d3, d4] }
  | _ => none }
def FsTurnsWrongFalsely : Prop := fsTurnsRow.holds Tryz.pinned (OpenSpec.ofChange fsTurnsWrong)

/-- 'millhandlaw06.FsBlocks': WHATEVER THE INPUT: true; the input reads as it did. -/
def fsBlocksSpec : ChangeSpec := { name := "fsBlocks", fn := fun _ => fun
  | [d1, d2, d3, d4] => { results := [.lit (.bool true)], args := [d1, d2, d3, d4] }
  | _ => none }
def fsBlocksRow : OpenClaim := { program := "ytjjkpmekbphmdaagreat", sum := "5d159ae268fe0b42b8d2b97fa5f7f653b06203fd7ee1993be9abba5ef3d028c8", func := "millhand/millhandlaw06.FsBlocks", spec := "fsBlocks", inPlace := ["internal/bytealg.abigen_runtime_cmpstring"], unfollowed := true, recurses := true, apart := false }
def FsBlocksSaid : Prop := fsBlocksRow.holds Tryz.pinned (OpenSpec.ofChange fsBlocksSpec)

/-- ITS FALSE NEIGHBOUR: 'it returns false'. Refute it at one input. -/
def fsBlocksWrong : ChangeSpec := { name := "fsBlocks", fn := fun _ => fun
  | [d1, d2, d3, d4] => { results := [.lit (.bool false)], args := [d1, d2, d3, d4] }
  | _ => none }
def FsBlocksWrongFalsely : Prop := fsBlocksRow.holds Tryz.pinned (OpenSpec.ofChange fsBlocksWrong)

/-- 'millhandlaw06.FsPut': WHATEVER THE INPUT: true; the input reads as it did. -/
def fsPutSpec : ChangeSpec := { name := "fsPut", fn := fun _ => fun
  | [d1, d2, d3, d4] => { results := [.lit (.bool true)], args := [d1, d2, d3, d4] }
  | _ => none }
def fsPutRow : OpenClaim := { program := "ytjjkpmekbphmdaagreat", sum := "5d159ae268fe0b42b8d2b97fa5f7f653b06203fd7ee1993be9abba5ef3d028c8", func := "millhand/millhandlaw06.FsPut", spec := "fsPut", inPlace := ["internal/bytealg.abigen_runtime_cmpstring", "slices.overlaps[millhand/api.File]"], unfollowed := true, recurses := true, apart := false }
def FsPutSaid : Prop := fsPutRow.holds Tryz.pinned (OpenSpec.ofChange fsPutSpec)

/-- ITS FALSE NEIGHBOUR: 'it returns false'. Refute it at one input. -/
def fsPutWrong : ChangeSpec := { name := "fsPut", fn := fun _ => fun
  | [d1, d2, d3, d4] => { results := [.lit (.bool false)], args := [d1, d2, d3, d4] }
  | _ => none }
def FsPutWrongFalsely : Prop := fsPutRow.holds Tryz.pinned (OpenSpec.ofChange fsPutWrong)

/-- 'millhandlaw06.FsMade': WHATEVER THE INPUT: true; the input reads as it did. -/
def fsMadeSpec : ChangeSpec := { name := "fsMade", fn := fun _ => fun
  | [d1, d2, d3, d4] => { results := [.lit (.bool true)], args := [d1, d2, d3, d4] }
  | _ => none }
def fsMadeRow : OpenClaim := { program := "ytjjkpmekbphmdaagreat", sum := "5d159ae268fe0b42b8d2b97fa5f7f653b06203fd7ee1993be9abba5ef3d028c8", func := "millhand/millhandlaw06.FsMade", spec := "fsMade", inPlace := ["internal/bytealg.abigen_runtime_cmpstring", "slices.overlaps[millhand/api.File]"], unfollowed := true, recurses := true, apart := false }
def FsMadeSaid : Prop := fsMadeRow.holds Tryz.pinned (OpenSpec.ofChange fsMadeSpec)

/-- ITS FALSE NEIGHBOUR: 'it returns false'. Refute it at one input. -/
def fsMadeWrong : ChangeSpec := { name := "fsMade", fn := fun _ => fun
  | [d1, d2, d3, d4] => { results := [.lit (.bool false)], args := [d1, d2, d3, d4] }
  | _ => none }
def FsMadeWrongFalsely : Prop := fsMadeRow.holds Tryz.pinned (OpenSpec.ofChange fsMadeWrong)

/-- 'millhandlaw06.FsCommit': WHATEVER THE INPUT: true; the input reads as it did. -/
def fsCommitSpec : ChangeSpec := { name := "fsCommit", fn := fun _ => fun
  | [d] => { results := [.lit (.bool true)], args := [d] }
  | _ => none }
def fsCommitRow : OpenClaim := { program := "ytjjkpmekbphmdaagreat", sum := "5d159ae268fe0b42b8d2b97fa5f7f653b06203fd7ee1993be9abba5ef3d028c8", func := "millhand/millhandlaw06.FsCommit", spec := "fsCommit", inPlace := ["internal/bytealg.abigen_runtime_cmpstring", "slices.overlaps[millhand/api.File]"], unfollowed := true, recurses := true, apart := false }
def FsCommitSaid : Prop := fsCommitRow.holds Tryz.pinned (OpenSpec.ofChange fsCommitSpec)

/-- ITS FALSE NEIGHBOUR: 'it returns false'. Refute it at one input. -/
def fsCommitWrong : ChangeSpec := { name := "fsCommit", fn := fun _ => fun
  | [d] => { results := [.lit (.bool false)], args := [d] }
  | _ => none }
def FsCommitWrongFalsely : Prop := fsCommitRow.holds Tryz.pinned (OpenSpec.ofChange fsCommitWrong)

/- THE SECOND FORM. 'bulk': how many values and letters a reading holds, each counted each time it is reached (what is shared counts as often as it is met; a slice's spare places count too). A statement '..UptoSaid' is the law's where the arguments, and the package variables that the reading takes, are together of bulk at most 1048576: NARROWER than '..Said'. Prove '..Said' where nothing that the law and all that it calls make is longer than what came in: it says more and counts as full. Else prove '..UptoSaid'. A law counts once. -/
mutual
def uptoBulk {H : Type} : DataW H → Nat
  | .lit (.string bytes) => bytes.length + 1
  | .lit _ => 1
  | .nil => 1
  | .ptr d => uptoBulk d + 1
  | .slice elems spare => uptoBulkAll elems + uptoBulkAll spare + 1
  | .agg parts => uptoBulkAll parts + 1
  | .iface _ d => uptoBulk d + 1
  | .map entries => uptoBulkEntries entries + 1
  | .held _ => 1
def uptoBulkAll {H : Type} : List (DataW H) → Nat
  | [] => 0
  | d :: r => uptoBulk d + uptoBulkAll r
def uptoBulkEntries {H : Type} : List (Lit × DataW H) → Nat
  | [] => 0
  | x :: r => uptoBulkEntry x + uptoBulkEntries r
def uptoBulkEntry {H : Type} : Lit × DataW H → Nat
  | (.string bytes, d) => bytes.length + uptoBulk d + 1
  | (_, d) => uptoBulk d + 1
 end
def uptoSmall : (H : Type) → List (DataW H) → Bool := fun _ ds => decide (uptoBulkAll ds ≤ 1048576)
def OpenSpec.upto (s : _root_.Go.ChangeSpec) : _root_.Go.OpenSpec := { _root_.Go.OpenSpec.ofChange s with cond := some uptoSmall }

/-- 'millhandlaw06.FsNames', WHERE WHAT IT READS IS OF BULK AT MOST 1048576: true; the input reads as it did. -/
def fsNamesUptoRow : OpenClaim := { program := "ytjjkpmekbphmdaagreat", sum := "5d159ae268fe0b42b8d2b97fa5f7f653b06203fd7ee1993be9abba5ef3d028c8", func := "millhand/millhandlaw06.FsNames", spec := "fsNames", inPlace := ["internal/bytealg.abigen_runtime_cmpstring", "slices.overlaps[millhand/api.File]"], unfollowed := true, recurses := true, apart := false, narrowed := true }
def FsNamesUptoSaid : Prop := fsNamesUptoRow.holds Tryz.pinned (OpenSpec.upto fsNamesSpec)

/-- 'millhandlaw06.FsTurns', WHERE WHAT IT READS IS OF BULK AT MOST 1048576: true; the input reads as it did. -/
def fsTurnsUptoRow : OpenClaim := { program := "ytjjkpmekbphmdaagreat", sum := "5d159ae268fe0b42b8d2b97fa5f7f653b06203fd7ee1993be9abba5ef3d028c8", func := "millhand/millhandlaw06.FsTurns", spec := "fsTurns", inPlace := ["internal/bytealg.abigen_runtime_cmpstring", "slices.overlaps[millhand/api.File]"], unfollowed := true, recurses := true, apart := false, narrowed := true }
def FsTurnsUptoSaid : Prop := fsTurnsUptoRow.holds Tryz.pinned (OpenSpec.upto fsTurnsSpec)

/-- 'millhandlaw06.FsBlocks', WHERE WHAT IT READS IS OF BULK AT MOST 1048576: true; the input reads as it did. -/
def fsBlocksUptoRow : OpenClaim := { program := "ytjjkpmekbphmdaagreat", sum := "5d159ae268fe0b42b8d2b97fa5f7f653b06203fd7ee1993be9abba5ef3d028c8", func := "millhand/millhandlaw06.FsBlocks", spec := "fsBlocks", inPlace := ["internal/bytealg.abigen_runtime_cmpstring"], unfollowed := true, recurses := true, apart := false, narrowed := true }
def FsBlocksUptoSaid : Prop := fsBlocksUptoRow.holds Tryz.pinned (OpenSpec.upto fsBlocksSpec)

/-- 'millhandlaw06.FsPut', WHERE WHAT IT READS IS OF BULK AT MOST 1048576: true; the input reads as it did. -/
def fsPutUptoRow : OpenClaim := { program := "ytjjkpmekbphmdaagreat", sum := "5d159ae268fe0b42b8d2b97fa5f7f653b06203fd7ee1993be9abba5ef3d028c8", func := "millhand/millhandlaw06.FsPut", spec := "fsPut", inPlace := ["internal/bytealg.abigen_runtime_cmpstring", "slices.overlaps[millhand/api.File]"], unfollowed := true, recurses := true, apart := false, narrowed := true }
def FsPutUptoSaid : Prop := fsPutUptoRow.holds Tryz.pinned (OpenSpec.upto fsPutSpec)

/-- 'millhandlaw06.FsMade', WHERE WHAT IT READS IS OF BULK AT MOST 1048576: true; the input reads as it did. -/
def fsMadeUptoRow : OpenClaim := { program := "ytjjkpmekbphmdaagreat", sum := "5d159ae268fe0b42b8d2b97fa5f7f653b06203fd7ee1993be9abba5ef3d028c8", func := "millhand/millhandlaw06.FsMade", spec := "fsMade", inPlace := ["internal/bytealg.abigen_runtime_cmpstring", "slices.overlaps[millhand/api.File]"], unfollowed := true, recurses := true, apart := false, narrowed := true }
def FsMadeUptoSaid : Prop := fsMadeUptoRow.holds Tryz.pinned (OpenSpec.upto fsMadeSpec)

/-- 'millhandlaw06.FsCommit', WHERE WHAT IT READS IS OF BULK AT MOST 1048576: true; the input reads as it did. -/
def fsCommitUptoRow : OpenClaim := { program := "ytjjkpmekbphmdaagreat", sum := "5d159ae268fe0b42b8d2b97fa5f7f653b06203fd7ee1993be9abba5ef3d028c8", func := "millhand/millhandlaw06.FsCommit", spec := "fsCommit", inPlace := ["internal/bytealg.abigen_runtime_cmpstring", "slices.overlaps[millhand/api.File]"], unfollowed := true, recurses := true, apart := false, narrowed := true }
def FsCommitUptoSaid : Prop := fsCommitUptoRow.holds Tryz.pinned (OpenSpec.upto fsCommitSpec)

end Rows
end Go.Proofs.YtjjkpmekbphmdaaGreat
