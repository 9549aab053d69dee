/-
  DERIVED. GIVEN WITH THE SEED: THE CARDS: each row of YtifnamlgkooacaaGreatDoorRows.lean that lists a variable, with what it lists TIED to the program's text (the seventh form; the later family's looks); each row that meets fmt, with fmt's text TOLD by the authors' own Lean function (tested against real Go, not proved from fmt's source: count such statements apart). THE CARD IS WHAT COUNTS. Prove the row's statement (the work); the ties are given (YtifnamlgkooacaaGreatDoorTie.lean); close each card by the builder's one call (the guide's Derived/Test/ToyasCard.lean, 'card_holds'). Laid BY PROGRAM, IN A SANDBOX (cutbox-door.mjs). By AI agents, Wed Nov 11 2026. No macro, syntax, notation, axiom, sorry.
-/
import Derived.Test.YtifnamlgkooacaaGreatDoorRows
import GoSem.ClaimSeven
namespace Go.Proofs.YtifnamlgkooacaaGreatDoor
namespace Rows

/-- THE TIED CARD OF 'typeballlaw10.JoinCatenates'. -/
def joinCatenatesCard : Claim7 := { stood := { row := joinCatenatesRow, standIns := [], harness := (true, "0a0427f650fd3fcac7d94210804ec23c6b9f598bdc0e49e7400952a1e91cad84"), looks := false }, kinds := [], alts := [], laidByText := true, laidKinds := [.data, .pinned], laidTests := true, laidLooks := .later }
def JoinCatenatesCardSaid : Prop := Claim7.holds Tryz.pinned (.plain (OpenSpec.ofChange joinCatenatesSpec)) joinCatenatesCard

/-- THE TIED CARD OF 'typeballlaw10.JoinLaminates'. -/
def joinLaminatesCard : Claim7 := { stood := { row := joinLaminatesRow, standIns := [], harness := (true, "0a0427f650fd3fcac7d94210804ec23c6b9f598bdc0e49e7400952a1e91cad84"), looks := false }, kinds := [], alts := [], laidByText := true, laidKinds := [.data, .pinned], laidTests := true, laidLooks := .later }
def JoinLaminatesCardSaid : Prop := Claim7.holds Tryz.pinned (.plain (OpenSpec.ofChange joinLaminatesSpec)) joinLaminatesCard

/-- THE TIED CARD OF 'typeballlaw10.JoinBack'. -/
def joinBackCard : Claim7 := { stood := { row := joinBackRow, standIns := [], harness := (true, "0a0427f650fd3fcac7d94210804ec23c6b9f598bdc0e49e7400952a1e91cad84"), looks := false }, kinds := [], alts := [], laidByText := true, laidKinds := [.data, .pinned], laidTests := true, laidLooks := .later }
def JoinBackCardSaid : Prop := Claim7.holds Tryz.pinned (.plain (OpenSpec.ofChange joinBackSpec)) joinBackCard

/-- THE SECOND FORM's CARD OF 'typeballlaw10.JoinCatenates'. -/
def joinCatenatesUptoCard : Claim7 := { stood := { row := joinCatenatesUptoRow, standIns := [], harness := (true, "0a0427f650fd3fcac7d94210804ec23c6b9f598bdc0e49e7400952a1e91cad84"), looks := false }, kinds := [], alts := [], laidByText := true, laidKinds := [.data, .pinned], laidTests := true, laidLooks := .later }
def JoinCatenatesUptoCardSaid : Prop := Claim7.holds Tryz.pinned (.plain (OpenSpec.upto joinCatenatesSpec)) joinCatenatesUptoCard

/-- THE SECOND FORM's CARD OF 'typeballlaw10.JoinLaminates'. -/
def joinLaminatesUptoCard : Claim7 := { stood := { row := joinLaminatesUptoRow, standIns := [], harness := (true, "0a0427f650fd3fcac7d94210804ec23c6b9f598bdc0e49e7400952a1e91cad84"), looks := false }, kinds := [], alts := [], laidByText := true, laidKinds := [.data, .pinned], laidTests := true, laidLooks := .later }
def JoinLaminatesUptoCardSaid : Prop := Claim7.holds Tryz.pinned (.plain (OpenSpec.upto joinLaminatesSpec)) joinLaminatesUptoCard

/-- THE SECOND FORM's CARD OF 'typeballlaw10.JoinBack'. -/
def joinBackUptoCard : Claim7 := { stood := { row := joinBackUptoRow, standIns := [], harness := (true, "0a0427f650fd3fcac7d94210804ec23c6b9f598bdc0e49e7400952a1e91cad84"), looks := false }, kinds := [], alts := [], laidByText := true, laidKinds := [.data, .pinned], laidTests := true, laidLooks := .later }
def JoinBackUptoCardSaid : Prop := Claim7.holds Tryz.pinned (.plain (OpenSpec.upto joinBackSpec)) joinBackUptoCard
end Rows
end Go.Proofs.YtifnamlgkooacaaGreatDoor
