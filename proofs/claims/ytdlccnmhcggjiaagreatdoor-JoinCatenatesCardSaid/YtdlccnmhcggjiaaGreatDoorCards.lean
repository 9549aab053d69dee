/-
  DERIVED. GIVEN WITH THE SEED: THE CARDS: each row of YtdlccnmhcggjiaaGreatDoorRows.lean that lists a variable, with what it lists TIED to the program's text (the seventh form; the later family's looks); each row that meets fmt, with fmt's text TOLD by the authors' own Lean function (tested against real Go, not proved from fmt's source: count such statements apart). THE CARD IS WHAT COUNTS. Prove the row's statement (the work); the ties are given (YtdlccnmhcggjiaaGreatDoorTie.lean); close each card by the builder's one call (the guide's Derived/Test/ToyasCard.lean, 'card_holds'). Laid BY PROGRAM, IN A SANDBOX (cutbox-door.mjs). By AI agents, Wed Nov 11 2026. No macro, syntax, notation, axiom, sorry.
-/
import Derived.Test.YtdlccnmhcggjiaaGreatDoorRows
import GoSem.ClaimSeven
namespace Go.Proofs.YtdlccnmhcggjiaaGreatDoor
namespace Rows

/-- THE TIED CARD OF 'typeballlaw10.JoinCatenates'. -/
def joinCatenatesCard : Claim7 := { stood := { row := joinCatenatesRow, standIns := [], harness := (true, "1c871b12f76e43cf174844aa0d42c2d6cf54e24086fa0727a8cf50046eaa4101"), looks := false }, kinds := [], alts := [], laidByText := true, laidKinds := [.data, .pinned], laidTests := true, laidLooks := .later }
def JoinCatenatesCardSaid : Prop := Claim7.holds Tryz.pinned (.plain (OpenSpec.ofChange joinCatenatesSpec)) joinCatenatesCard

/-- THE TIED CARD OF 'typeballlaw10.JoinLaminates'. -/
def joinLaminatesCard : Claim7 := { stood := { row := joinLaminatesRow, standIns := [], harness := (true, "1c871b12f76e43cf174844aa0d42c2d6cf54e24086fa0727a8cf50046eaa4101"), looks := false }, kinds := [], alts := [], laidByText := true, laidKinds := [.data, .pinned], laidTests := true, laidLooks := .later }
def JoinLaminatesCardSaid : Prop := Claim7.holds Tryz.pinned (.plain (OpenSpec.ofChange joinLaminatesSpec)) joinLaminatesCard

/-- THE TIED CARD OF 'typeballlaw11.IndexTakes'. -/
def indexTakesCard : Claim7 := { stood := { row := indexTakesRow, standIns := [], harness := (true, "1c871b12f76e43cf174844aa0d42c2d6cf54e24086fa0727a8cf50046eaa4101"), looks := false }, kinds := [], alts := [], laidByText := true, laidKinds := [.data, .pinned], laidTests := true, laidLooks := .later }
def IndexTakesCardSaid : Prop := Claim7.holds Tryz.pinned (.plain (OpenSpec.ofChange indexTakesSpec)) indexTakesCard

/-- THE TIED CARD OF 'typeballlaw11.IndexSets'. -/
def indexSetsCard : Claim7 := { stood := { row := indexSetsRow, standIns := [], harness := (true, "1c871b12f76e43cf174844aa0d42c2d6cf54e24086fa0727a8cf50046eaa4101"), looks := false }, kinds := [], alts := [], laidByText := true, laidKinds := [.data, .pinned], laidTests := true, laidLooks := .later }
def IndexSetsCardSaid : Prop := Claim7.holds Tryz.pinned (.plain (OpenSpec.ofChange indexSetsSpec)) indexSetsCard

/-- THE TIED CARD OF 'typeballlaw11.IndexBack'. -/
def indexBackCard : Claim7 := { stood := { row := indexBackRow, standIns := [], harness := (true, "1c871b12f76e43cf174844aa0d42c2d6cf54e24086fa0727a8cf50046eaa4101"), looks := false }, kinds := [], alts := [], laidByText := true, laidKinds := [.data, .pinned], laidTests := true, laidLooks := .later }
def IndexBackCardSaid : Prop := Claim7.holds Tryz.pinned (.plain (OpenSpec.ofChange indexBackSpec)) indexBackCard

/-- THE SECOND FORM's CARD OF 'typeballlaw10.JoinCatenates'. -/
def joinCatenatesUptoCard : Claim7 := { stood := { row := joinCatenatesUptoRow, standIns := [], harness := (true, "1c871b12f76e43cf174844aa0d42c2d6cf54e24086fa0727a8cf50046eaa4101"), looks := false }, kinds := [], alts := [], laidByText := true, laidKinds := [.data, .pinned], laidTests := true, laidLooks := .later }
def JoinCatenatesUptoCardSaid : Prop := Claim7.holds Tryz.pinned (.plain (OpenSpec.upto joinCatenatesSpec)) joinCatenatesUptoCard

/-- THE SECOND FORM's CARD OF 'typeballlaw10.JoinLaminates'. -/
def joinLaminatesUptoCard : Claim7 := { stood := { row := joinLaminatesUptoRow, standIns := [], harness := (true, "1c871b12f76e43cf174844aa0d42c2d6cf54e24086fa0727a8cf50046eaa4101"), looks := false }, kinds := [], alts := [], laidByText := true, laidKinds := [.data, .pinned], laidTests := true, laidLooks := .later }
def JoinLaminatesUptoCardSaid : Prop := Claim7.holds Tryz.pinned (.plain (OpenSpec.upto joinLaminatesSpec)) joinLaminatesUptoCard

/-- THE SECOND FORM's CARD OF 'typeballlaw11.IndexTakes'. -/
def indexTakesUptoCard : Claim7 := { stood := { row := indexTakesUptoRow, standIns := [], harness := (true, "1c871b12f76e43cf174844aa0d42c2d6cf54e24086fa0727a8cf50046eaa4101"), looks := false }, kinds := [], alts := [], laidByText := true, laidKinds := [.data, .pinned], laidTests := true, laidLooks := .later }
def IndexTakesUptoCardSaid : Prop := Claim7.holds Tryz.pinned (.plain (OpenSpec.upto indexTakesSpec)) indexTakesUptoCard

/-- THE SECOND FORM's CARD OF 'typeballlaw11.IndexSets'. -/
def indexSetsUptoCard : Claim7 := { stood := { row := indexSetsUptoRow, standIns := [], harness := (true, "1c871b12f76e43cf174844aa0d42c2d6cf54e24086fa0727a8cf50046eaa4101"), looks := false }, kinds := [], alts := [], laidByText := true, laidKinds := [.data, .pinned], laidTests := true, laidLooks := .later }
def IndexSetsUptoCardSaid : Prop := Claim7.holds Tryz.pinned (.plain (OpenSpec.upto indexSetsSpec)) indexSetsUptoCard

/-- THE SECOND FORM's CARD OF 'typeballlaw11.IndexBack'. -/
def indexBackUptoCard : Claim7 := { stood := { row := indexBackUptoRow, standIns := [], harness := (true, "1c871b12f76e43cf174844aa0d42c2d6cf54e24086fa0727a8cf50046eaa4101"), looks := false }, kinds := [], alts := [], laidByText := true, laidKinds := [.data, .pinned], laidTests := true, laidLooks := .later }
def IndexBackUptoCardSaid : Prop := Claim7.holds Tryz.pinned (.plain (OpenSpec.upto indexBackSpec)) indexBackUptoCard
end Rows
end Go.Proofs.YtdlccnmhcggjiaaGreatDoor
