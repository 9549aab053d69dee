/-
  DERIVED. GIVEN WITH THE SEED: THE CARDS: each row of YtpmcbnliogjknaaGreatDoorRows.lean that lists a variable, with what it lists TIED to the program's text (the seventh form; the later family's looks); each row that meets fmt, with fmt's text TOLD by the authors' own Lean function (tested against real Go, not proved from fmt's source: count such statements apart). THE CARD IS WHAT COUNTS. Prove the row's statement (the work); the ties are given (YtpmcbnliogjknaaGreatDoorTie.lean); close each card by the builder's one call (the guide's Derived/Test/ToyasCard.lean, 'card_holds'). Laid BY PROGRAM, IN A SANDBOX (cutbox-door.mjs). By AI agents, Wed Nov 11 2026. No macro, syntax, notation, axiom, sorry.
-/
import Derived.Test.YtpmcbnliogjknaaGreatDoorRows
import GoSem.ClaimSeven
namespace Go.Proofs.YtpmcbnliogjknaaGreatDoor
namespace Rows

/-- THE TIED CARD OF 'typeballlaw09.CutParts'. -/
def cutPartsCard : Claim7 := { stood := { row := cutPartsRow, standIns := [], harness := (true, "b8e2248f7eb7388217249b196a35b80d51e7c6a23749d11791301414192f7b39"), looks := false }, kinds := [], alts := [], laidByText := true, laidKinds := [.data, .pinned], laidTests := true, laidLooks := .later }
def CutPartsCardSaid : Prop := Claim7.holds Tryz.pinned (.plain (OpenSpec.ofChange cutPartsSpec)) cutPartsCard

/-- THE TIED CARD OF 'typeballlaw09.CutMasks'. -/
def cutMasksCard : Claim7 := { stood := { row := cutMasksRow, standIns := [], harness := (true, "b8e2248f7eb7388217249b196a35b80d51e7c6a23749d11791301414192f7b39"), looks := false }, kinds := [], alts := [], laidByText := true, laidKinds := [.data, .pinned], laidTests := true, laidLooks := .later }
def CutMasksCardSaid : Prop := Claim7.holds Tryz.pinned (.plain (OpenSpec.ofChange cutMasksSpec)) cutMasksCard

/-- THE TIED CARD OF 'typeballlaw09.CutBack'. -/
def cutBackCard : Claim7 := { stood := { row := cutBackRow, standIns := [], harness := (true, "b8e2248f7eb7388217249b196a35b80d51e7c6a23749d11791301414192f7b39"), looks := false }, kinds := [], alts := [], laidByText := true, laidKinds := [.data, .pinned], laidTests := true, laidLooks := .later }
def CutBackCardSaid : Prop := Claim7.holds Tryz.pinned (.plain (OpenSpec.ofChange cutBackSpec)) cutBackCard

/-- THE SECOND FORM's CARD OF 'typeballlaw09.CutParts'. -/
def cutPartsUptoCard : Claim7 := { stood := { row := cutPartsUptoRow, standIns := [], harness := (true, "b8e2248f7eb7388217249b196a35b80d51e7c6a23749d11791301414192f7b39"), looks := false }, kinds := [], alts := [], laidByText := true, laidKinds := [.data, .pinned], laidTests := true, laidLooks := .later }
def CutPartsUptoCardSaid : Prop := Claim7.holds Tryz.pinned (.plain (OpenSpec.upto cutPartsSpec)) cutPartsUptoCard

/-- THE SECOND FORM's CARD OF 'typeballlaw09.CutMasks'. -/
def cutMasksUptoCard : Claim7 := { stood := { row := cutMasksUptoRow, standIns := [], harness := (true, "b8e2248f7eb7388217249b196a35b80d51e7c6a23749d11791301414192f7b39"), looks := false }, kinds := [], alts := [], laidByText := true, laidKinds := [.data, .pinned], laidTests := true, laidLooks := .later }
def CutMasksUptoCardSaid : Prop := Claim7.holds Tryz.pinned (.plain (OpenSpec.upto cutMasksSpec)) cutMasksUptoCard

/-- THE SECOND FORM's CARD OF 'typeballlaw09.CutBack'. -/
def cutBackUptoCard : Claim7 := { stood := { row := cutBackUptoRow, standIns := [], harness := (true, "b8e2248f7eb7388217249b196a35b80d51e7c6a23749d11791301414192f7b39"), looks := false }, kinds := [], alts := [], laidByText := true, laidKinds := [.data, .pinned], laidTests := true, laidLooks := .later }
def CutBackUptoCardSaid : Prop := Claim7.holds Tryz.pinned (.plain (OpenSpec.upto cutBackSpec)) cutBackUptoCard
end Rows
end Go.Proofs.YtpmcbnliogjknaaGreatDoor
