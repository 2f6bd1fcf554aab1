/-
  No cell of these rows narrows 'for every input' (looked for: loops, veiled, ifaces, maps, wideKeys, modest, calm, conditions, laid).
  DERIVED. THE GIVEN ROWS OF THIS SEAT. 6 by the template 'for every input the law returns true; each argument reads behind the call as it read before'; 0 by the template 'total and deterministic' (their statements: YtmcgkhjhdickoaaTotals.lean).
  GIVEN WITH THE SEED: the statements are not yours to turn. If you find one false, say at which input.
  Laid BY PROGRAM, IN A SANDBOX (cutbox-rows.mjs): the forced cells as the released guide's own fill.sh prints them over the translation 3ff9c634cf3f443b… (all of the seat's roots in one cut). By AI agents, Wed Nov 11 2026. No macro, syntax, notation, axiom, sorry.
-/
import Derived.Test.YtmcgkhjhdickoaaChecked
import GoSem.Claim
import GoSem.ClaimJoined
import GoSem.ClaimMapViews
import Derived.JoinedTies
import Derived.KernelRfl
namespace Go.Proofs.Ytmcgkhjhdickoaa
/- THE CELL 'sum', in the pinned program and in every row, IS THE sha256 OF THE DUMP (.gsa) THAT YtmcgkhjhdickoaaProg.lean LOADS. Nothing in Lean hashes anything: it is a label: what it is worth is what the hold of that sum in a sandbox is worth. -/
noncomputable def Try.pinned : Pinned := { name := "ytmcgkhjhdickoaa", sum := "3ff9c634cf3f443bfa1975e58cb4fb52d3bae25c01bb251388faa4722d0f6415", checked := Try.checked }
namespace Rows
def none {H : Type} : Left H := { results := [], args := [] }

/-- 'millhandlaw02.DevNames': WHATEVER THE INPUT: true; the input reads as it did. -/
def devNamesSpec : ChangeSpec := { name := "devNames", fn := fun _ => fun
  | [] => { results := [.lit (.bool true)], args := [] }
  | _ => none }
def devNamesRow : OpenClaim := { program := "ytmcgkhjhdickoaa", sum := "3ff9c634cf3f443bfa1975e58cb4fb52d3bae25c01bb251388faa4722d0f6415", func := "millhand/millhandlaw02.DevNames", spec := "devNames", unfollowed := true, recurses := true, apart := false }
def DevNamesSaid : Prop := devNamesRow.holds Try.pinned (OpenSpec.ofChange devNamesSpec)

/-- ITS FALSE NEIGHBOUR: 'it returns false'. Refute it at one input. -/
def devNamesWrong : ChangeSpec := { name := "devNames", fn := fun _ => fun
  | [] => { results := [.lit (.bool false)], args := [] }
  | _ => none }
def DevNamesWrongFalsely : Prop := devNamesRow.holds Try.pinned (OpenSpec.ofChange devNamesWrong)

/-- 'millhandlaw02.DevBlocks': WHATEVER THE INPUT: true; the input reads as it did. -/
def devBlocksSpec : ChangeSpec := { name := "devBlocks", fn := fun _ => fun
  | [d1, d2, d3] => { results := [.lit (.bool true)], args := [d1, d2, d3] }
  | _ => none }
def devBlocksRow : OpenClaim := { program := "ytmcgkhjhdickoaa", sum := "3ff9c634cf3f443bfa1975e58cb4fb52d3bae25c01bb251388faa4722d0f6415", func := "millhand/millhandlaw02.DevBlocks", spec := "devBlocks", unfollowed := true, recurses := true, apart := false }
def DevBlocksSaid : Prop := devBlocksRow.holds Try.pinned (OpenSpec.ofChange devBlocksSpec)

/-- ITS FALSE NEIGHBOUR: 'it returns false'. Refute it at one input. -/
def devBlocksWrong : ChangeSpec := { name := "devBlocks", fn := fun _ => fun
  | [d1, d2, d3] => { results := [.lit (.bool false)], args := [d1, d2, d3] }
  | _ => none }
def DevBlocksWrongFalsely : Prop := devBlocksRow.holds Try.pinned (OpenSpec.ofChange devBlocksWrong)

/-- 'millhandlaw02.DevActs': WHATEVER THE INPUT: true; the input reads as it did. -/
def devActsSpec : ChangeSpec := { name := "devActs", fn := fun _ => fun
  | [d1, d2, d3, d4] => { results := [.lit (.bool true)], args := [d1, d2, d3, d4] }
  | _ => none }
def devActsRow : OpenClaim := { program := "ytmcgkhjhdickoaa", sum := "3ff9c634cf3f443bfa1975e58cb4fb52d3bae25c01bb251388faa4722d0f6415", func := "millhand/millhandlaw02.DevActs", spec := "devActs", apart := false }
def DevActsSaid : Prop := devActsRow.holds Try.pinned (OpenSpec.ofChange devActsSpec)

/-- ITS FALSE NEIGHBOUR: 'it returns false'. Refute it at one input. -/
def devActsWrong : ChangeSpec := { name := "devActs", fn := fun _ => fun
  | [d1, d2, d3, d4] => { results := [.lit (.bool false)], args := [d1, d2, d3, d4] }
  | _ => none }
def DevActsWrongFalsely : Prop := devActsRow.holds Try.pinned (OpenSpec.ofChange devActsWrong)

/-- 'millhandlaw02.DevLast': WHATEVER THE INPUT: true; the input reads as it did. -/
def devLastSpec : ChangeSpec := { name := "devLast", fn := fun _ => fun
  | [d1, d2, d3, d4] => { results := [.lit (.bool true)], args := [d1, d2, d3, d4] }
  | _ => none }
def devLastRow : OpenClaim := { program := "ytmcgkhjhdickoaa", sum := "3ff9c634cf3f443bfa1975e58cb4fb52d3bae25c01bb251388faa4722d0f6415", func := "millhand/millhandlaw02.DevLast", spec := "devLast", unfollowed := true, recurses := true, apart := false }
def DevLastSaid : Prop := devLastRow.holds Try.pinned (OpenSpec.ofChange devLastSpec)

/-- ITS FALSE NEIGHBOUR: 'it returns false'. Refute it at one input. -/
def devLastWrong : ChangeSpec := { name := "devLast", fn := fun _ => fun
  | [d1, d2, d3, d4] => { results := [.lit (.bool false)], args := [d1, d2, d3, d4] }
  | _ => none }
def DevLastWrongFalsely : Prop := devLastRow.holds Try.pinned (OpenSpec.ofChange devLastWrong)

/-- 'millhandlaw02.DevCrash': WHATEVER THE INPUT: true; the input reads as it did. -/
def devCrashSpec : ChangeSpec := { name := "devCrash", fn := fun _ => fun
  | [d1, d2] => { results := [.lit (.bool true)], args := [d1, d2] }
  | _ => none }
def devCrashRow : OpenClaim := { program := "ytmcgkhjhdickoaa", sum := "3ff9c634cf3f443bfa1975e58cb4fb52d3bae25c01bb251388faa4722d0f6415", func := "millhand/millhandlaw02.DevCrash", spec := "devCrash", apart := false }
def DevCrashSaid : Prop := devCrashRow.holds Try.pinned (OpenSpec.ofChange devCrashSpec)

/-- ITS FALSE NEIGHBOUR: 'it returns false'. Refute it at one input. -/
def devCrashWrong : ChangeSpec := { name := "devCrash", fn := fun _ => fun
  | [d1, d2] => { results := [.lit (.bool false)], args := [d1, d2] }
  | _ => none }
def DevCrashWrongFalsely : Prop := devCrashRow.holds Try.pinned (OpenSpec.ofChange devCrashWrong)

/-- 'millhandlaw02.DevAgain': WHATEVER THE INPUT: true; the input reads as it did. -/
def devAgainSpec : ChangeSpec := { name := "devAgain", fn := fun _ => fun
  | [d1, d2, d3] => { results := [.lit (.bool true)], args := [d1, d2, d3] }
  | _ => none }
def devAgainRow : OpenClaim := { program := "ytmcgkhjhdickoaa", sum := "3ff9c634cf3f443bfa1975e58cb4fb52d3bae25c01bb251388faa4722d0f6415", func := "millhand/millhandlaw02.DevAgain", spec := "devAgain", unfollowed := true, recurses := true, apart := false }
def DevAgainSaid : Prop := devAgainRow.holds Try.pinned (OpenSpec.ofChange devAgainSpec)

/-- ITS FALSE NEIGHBOUR: 'it returns false'. Refute it at one input. -/
def devAgainWrong : ChangeSpec := { name := "devAgain", fn := fun _ => fun
  | [d1, d2, d3] => { results := [.lit (.bool false)], args := [d1, d2, d3] }
  | _ => none }
def DevAgainWrongFalsely : Prop := devAgainRow.holds Try.pinned (OpenSpec.ofChange devAgainWrong)

/- THE SECOND FORM. 'bulk': how many values and letters a reading holds, each counted each time it is reached (what is shared counts as often as it is met; a slice's spare places count too). A statement '..UptoSaid' is the law's where the arguments, and the package variables that the reading takes, are together of bulk at most 1048576: NARROWER than '..Said'. Prove '..Said' where nothing that the law and all that it calls make is longer than what came in: it says more and counts as full. Else prove '..UptoSaid'. A law counts once. -/
mutual
def uptoBulk {H : Type} : DataW H → Nat
  | .lit (.string bytes) => bytes.length + 1
  | .lit _ => 1
  | .nil => 1
  | .ptr d => uptoBulk d + 1
  | .slice elems spare => uptoBulkAll elems + uptoBulkAll spare + 1
  | .agg parts => uptoBulkAll parts + 1
  | .iface _ d => uptoBulk d + 1
  | .map entries => uptoBulkEntries entries + 1
  | .held _ => 1
def uptoBulkAll {H : Type} : List (DataW H) → Nat
  | [] => 0
  | d :: r => uptoBulk d + uptoBulkAll r
def uptoBulkEntries {H : Type} : List (Lit × DataW H) → Nat
  | [] => 0
  | x :: r => uptoBulkEntry x + uptoBulkEntries r
def uptoBulkEntry {H : Type} : Lit × DataW H → Nat
  | (.string bytes, d) => bytes.length + uptoBulk d + 1
  | (_, d) => uptoBulk d + 1
 end
def uptoSmall : (H : Type) → List (DataW H) → Bool := fun _ ds => decide (uptoBulkAll ds ≤ 1048576)
def OpenSpec.upto (s : _root_.Go.ChangeSpec) : _root_.Go.OpenSpec := { _root_.Go.OpenSpec.ofChange s with cond := some uptoSmall }

/-- 'millhandlaw02.DevNames', WHERE WHAT IT READS IS OF BULK AT MOST 1048576: true; the input reads as it did. -/
def devNamesUptoRow : OpenClaim := { program := "ytmcgkhjhdickoaa", sum := "3ff9c634cf3f443bfa1975e58cb4fb52d3bae25c01bb251388faa4722d0f6415", func := "millhand/millhandlaw02.DevNames", spec := "devNames", unfollowed := true, recurses := true, apart := false, narrowed := true }
def DevNamesUptoSaid : Prop := devNamesUptoRow.holds Try.pinned (OpenSpec.upto devNamesSpec)

/-- 'millhandlaw02.DevBlocks', WHERE WHAT IT READS IS OF BULK AT MOST 1048576: true; the input reads as it did. -/
def devBlocksUptoRow : OpenClaim := { program := "ytmcgkhjhdickoaa", sum := "3ff9c634cf3f443bfa1975e58cb4fb52d3bae25c01bb251388faa4722d0f6415", func := "millhand/millhandlaw02.DevBlocks", spec := "devBlocks", unfollowed := true, recurses := true, apart := false, narrowed := true }
def DevBlocksUptoSaid : Prop := devBlocksUptoRow.holds Try.pinned (OpenSpec.upto devBlocksSpec)

/-- 'millhandlaw02.DevActs', WHERE WHAT IT READS IS OF BULK AT MOST 1048576: true; the input reads as it did. -/
def devActsUptoRow : OpenClaim := { program := "ytmcgkhjhdickoaa", sum := "3ff9c634cf3f443bfa1975e58cb4fb52d3bae25c01bb251388faa4722d0f6415", func := "millhand/millhandlaw02.DevActs", spec := "devActs", apart := false, narrowed := true }
def DevActsUptoSaid : Prop := devActsUptoRow.holds Try.pinned (OpenSpec.upto devActsSpec)

/-- 'millhandlaw02.DevLast', WHERE WHAT IT READS IS OF BULK AT MOST 1048576: true; the input reads as it did. -/
def devLastUptoRow : OpenClaim := { program := "ytmcgkhjhdickoaa", sum := "3ff9c634cf3f443bfa1975e58cb4fb52d3bae25c01bb251388faa4722d0f6415", func := "millhand/millhandlaw02.DevLast", spec := "devLast", unfollowed := true, recurses := true, apart := false, narrowed := true }
def DevLastUptoSaid : Prop := devLastUptoRow.holds Try.pinned (OpenSpec.upto devLastSpec)

/-- 'millhandlaw02.DevCrash', WHERE WHAT IT READS IS OF BULK AT MOST 1048576: true; the input reads as it did. -/
def devCrashUptoRow : OpenClaim := { program := "ytmcgkhjhdickoaa", sum := "3ff9c634cf3f443bfa1975e58cb4fb52d3bae25c01bb251388faa4722d0f6415", func := "millhand/millhandlaw02.DevCrash", spec := "devCrash", apart := false, narrowed := true }
def DevCrashUptoSaid : Prop := devCrashUptoRow.holds Try.pinned (OpenSpec.upto devCrashSpec)

/-- 'millhandlaw02.DevAgain', WHERE WHAT IT READS IS OF BULK AT MOST 1048576: true; the input reads as it did. -/
def devAgainUptoRow : OpenClaim := { program := "ytmcgkhjhdickoaa", sum := "3ff9c634cf3f443bfa1975e58cb4fb52d3bae25c01bb251388faa4722d0f6415", func := "millhand/millhandlaw02.DevAgain", spec := "devAgain", unfollowed := true, recurses := true, apart := false, narrowed := true }
def DevAgainUptoSaid : Prop := devAgainUptoRow.holds Try.pinned (OpenSpec.upto devAgainSpec)

end Rows
end Go.Proofs.Ytmcgkhjhdickoaa
