/-
  DERIVED. GIVEN WITH THE SEED: THE CARDS: each row of YtmeaiocohalphaaGreatDoorRows.lean that lists a variable, with what it lists TIED to the program's text (the seventh form; the later family's looks); each row that meets fmt, with fmt's text TOLD by the authors' own Lean function (tested against real Go, not proved from fmt's source: count such statements apart). THE CARD IS WHAT COUNTS. Prove the row's statement (the work); the ties are given (YtmeaiocohalphaaGreatDoorTie.lean); close each card by the builder's one call (the guide's Derived/Test/ToyasCard.lean, 'card_holds'). Laid BY PROGRAM, IN A SANDBOX (cutbox-door.mjs). By AI agents, Wed Nov 11 2026. No macro, syntax, notation, axiom, sorry.
-/
import Derived.Test.YtmeaiocohalphaaGreatDoorRows
import GoSem.ClaimSeven
namespace Go.Proofs.YtmeaiocohalphaaGreatDoor
namespace Rows

/-- THE TIED CARD OF 'millhandlaw17.ManifestNames'. -/
def manifestNamesCard : Claim7 := { stood := { row := manifestNamesRow, standIns := [], harness := (true, "581c6db76f91f75c708d26140192d3eda1c528d6a4154157ee80a4c4180a8ae1"), looks := false }, kinds := [], alts := [], laidByText := true, laidKinds := [.sentinel], laidTests := true, laidLooks := .later }
def ManifestNamesCardSaid : Prop := Claim7.holds Tryz.pinned (.plain (OpenSpec.ofChange manifestNamesSpec)) manifestNamesCard

/-- THE TIED CARD OF 'millhandlaw17.ManifestFiles'. -/
def manifestFilesCard : Claim7 := { stood := { row := manifestFilesRow, standIns := [], harness := (true, "581c6db76f91f75c708d26140192d3eda1c528d6a4154157ee80a4c4180a8ae1"), looks := false }, kinds := [], alts := [], laidByText := true, laidKinds := [.sentinel], laidTests := true, laidLooks := .later }
def ManifestFilesCardSaid : Prop := Claim7.holds Tryz.pinned (.plain (OpenSpec.ofChange manifestFilesSpec)) manifestFilesCard

/-- THE TIED CARD OF 'millhandlaw17.ManifestBack'. -/
def manifestBackCard : Claim7 := { stood := { row := manifestBackRow, standIns := [], harness := (true, "581c6db76f91f75c708d26140192d3eda1c528d6a4154157ee80a4c4180a8ae1"), looks := false }, kinds := [], alts := [], laidByText := true, laidKinds := [.sentinel], laidTests := true, laidLooks := .later }
def ManifestBackCardSaid : Prop := Claim7.holds Tryz.pinned (.plain (OpenSpec.ofChange manifestBackSpec)) manifestBackCard

/-- THE TIED CARD OF 'millhandlaw17.ManifestKeeps'. -/
def manifestKeepsCard : Claim7 := { stood := { row := manifestKeepsRow, standIns := [], harness := (true, "581c6db76f91f75c708d26140192d3eda1c528d6a4154157ee80a4c4180a8ae1"), looks := false }, kinds := [], alts := [], laidByText := true, laidKinds := [.sentinel], laidTests := true, laidLooks := .later }
def ManifestKeepsCardSaid : Prop := Claim7.holds Tryz.pinned (.plain (OpenSpec.ofChange manifestKeepsSpec)) manifestKeepsCard

/-- THE TIED CARD OF 'millhandlaw17.ManifestTorn'. -/
def manifestTornCard : Claim7 := { stood := { row := manifestTornRow, standIns := [], harness := (true, "581c6db76f91f75c708d26140192d3eda1c528d6a4154157ee80a4c4180a8ae1"), looks := false }, kinds := [], alts := [], laidByText := true, laidKinds := [.sentinel], laidTests := true, laidLooks := .later }
def ManifestTornCardSaid : Prop := Claim7.holds Tryz.pinned (.plain (OpenSpec.ofChange manifestTornSpec)) manifestTornCard

/-- THE SECOND FORM's CARD OF 'millhandlaw17.ManifestNames'. -/
def manifestNamesUptoCard : Claim7 := { stood := { row := manifestNamesUptoRow, standIns := [], harness := (true, "581c6db76f91f75c708d26140192d3eda1c528d6a4154157ee80a4c4180a8ae1"), looks := false }, kinds := [], alts := [], laidByText := true, laidKinds := [.sentinel], laidTests := true, laidLooks := .later }
def ManifestNamesUptoCardSaid : Prop := Claim7.holds Tryz.pinned (.plain (OpenSpec.upto manifestNamesSpec)) manifestNamesUptoCard

/-- THE SECOND FORM's CARD OF 'millhandlaw17.ManifestFiles'. -/
def manifestFilesUptoCard : Claim7 := { stood := { row := manifestFilesUptoRow, standIns := [], harness := (true, "581c6db76f91f75c708d26140192d3eda1c528d6a4154157ee80a4c4180a8ae1"), looks := false }, kinds := [], alts := [], laidByText := true, laidKinds := [.sentinel], laidTests := true, laidLooks := .later }
def ManifestFilesUptoCardSaid : Prop := Claim7.holds Tryz.pinned (.plain (OpenSpec.upto manifestFilesSpec)) manifestFilesUptoCard

/-- THE SECOND FORM's CARD OF 'millhandlaw17.ManifestBack'. -/
def manifestBackUptoCard : Claim7 := { stood := { row := manifestBackUptoRow, standIns := [], harness := (true, "581c6db76f91f75c708d26140192d3eda1c528d6a4154157ee80a4c4180a8ae1"), looks := false }, kinds := [], alts := [], laidByText := true, laidKinds := [.sentinel], laidTests := true, laidLooks := .later }
def ManifestBackUptoCardSaid : Prop := Claim7.holds Tryz.pinned (.plain (OpenSpec.upto manifestBackSpec)) manifestBackUptoCard

/-- THE SECOND FORM's CARD OF 'millhandlaw17.ManifestKeeps'. -/
def manifestKeepsUptoCard : Claim7 := { stood := { row := manifestKeepsUptoRow, standIns := [], harness := (true, "581c6db76f91f75c708d26140192d3eda1c528d6a4154157ee80a4c4180a8ae1"), looks := false }, kinds := [], alts := [], laidByText := true, laidKinds := [.sentinel], laidTests := true, laidLooks := .later }
def ManifestKeepsUptoCardSaid : Prop := Claim7.holds Tryz.pinned (.plain (OpenSpec.upto manifestKeepsSpec)) manifestKeepsUptoCard

/-- THE SECOND FORM's CARD OF 'millhandlaw17.ManifestTorn'. -/
def manifestTornUptoCard : Claim7 := { stood := { row := manifestTornUptoRow, standIns := [], harness := (true, "581c6db76f91f75c708d26140192d3eda1c528d6a4154157ee80a4c4180a8ae1"), looks := false }, kinds := [], alts := [], laidByText := true, laidKinds := [.sentinel], laidTests := true, laidLooks := .later }
def ManifestTornUptoCardSaid : Prop := Claim7.holds Tryz.pinned (.plain (OpenSpec.upto manifestTornSpec)) manifestTornUptoCard
end Rows
end Go.Proofs.YtmeaiocohalphaaGreatDoor
