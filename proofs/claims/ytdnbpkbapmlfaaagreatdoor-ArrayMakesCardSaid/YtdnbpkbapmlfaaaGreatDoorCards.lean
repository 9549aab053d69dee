/-
  DERIVED. GIVEN WITH THE SEED: THE CARDS: each row of YtdnbpkbapmlfaaaGreatDoorRows.lean that lists a variable, with what it lists TIED to the program's text (the seventh form; the later family's looks); each row that meets fmt, with fmt's text TOLD by the authors' own Lean function (tested against real Go, not proved from fmt's source: count such statements apart). THE CARD IS WHAT COUNTS. Prove the row's statement (the work); the ties are given (YtdnbpkbapmlfaaaGreatDoorTie.lean); close each card by the builder's one call (the guide's Derived/Test/ToyasCard.lean, 'card_holds'). Laid BY PROGRAM, IN A SANDBOX (cutbox-door.mjs). By AI agents, Wed Nov 11 2026. No macro, syntax, notation, axiom, sorry.
-/
import Derived.Test.YtdnbpkbapmlfaaaGreatDoorRows
import GoSem.ClaimSeven
namespace Go.Proofs.YtdnbpkbapmlfaaaGreatDoor
namespace Rows

/-- THE TIED CARD OF 'typeballlaw04.DeciReads'. -/
def deciReadsCard : Claim7 := { stood := { row := deciReadsRow, standIns := [], harness := (true, "854f47a290e185d50cf9dbe7e2ff11ac6d910b58404057040b6686108a09929a"), looks := true }, kinds := [], alts := [], laidByText := true, laidKinds := [.data, .data, .data, .data, .sentinel, .sentinel, .pinned], laidTests := true, laidLooks := .later }
def DeciReadsCardSaid : Prop := Claim7.holds Tryz.pinned (.plain (OpenSpec.ofChange deciReadsSpec)) deciReadsCard

/-- THE TIED CARD OF 'typeballlaw04.DeciBack'. -/
def deciBackCard : Claim7 := { stood := { row := deciBackRow, standIns := [], harness := (true, "854f47a290e185d50cf9dbe7e2ff11ac6d910b58404057040b6686108a09929a"), looks := true }, kinds := [], alts := [], laidByText := true, laidKinds := [.data, .data, .data, .data, .sentinel, .sentinel, .pinned], laidTests := true, laidLooks := .later }
def DeciBackCardSaid : Prop := Claim7.holds Tryz.pinned (.plain (OpenSpec.ofChange deciBackSpec)) deciBackCard

/-- THE TIED CARD OF 'typeballlaw06.ArrayMakes'. -/
def arrayMakesCard : Claim7 := { stood := { row := arrayMakesRow, standIns := [], harness := (true, "854f47a290e185d50cf9dbe7e2ff11ac6d910b58404057040b6686108a09929a"), looks := true }, kinds := [], alts := [], laidByText := true, laidKinds := [.data, .pinned], laidTests := true, laidLooks := .later }
def ArrayMakesCardSaid : Prop := Claim7.holds Tryz.pinned (.plain (OpenSpec.ofChange arrayMakesSpec)) arrayMakesCard

/-- THE TIED CARD OF 'typeballlaw06.ArrayPicks'. -/
def arrayPicksCard : Claim7 := { stood := { row := arrayPicksRow, standIns := [], harness := (true, "854f47a290e185d50cf9dbe7e2ff11ac6d910b58404057040b6686108a09929a"), looks := true }, kinds := [], alts := [], laidByText := true, laidKinds := [.data, .pinned], laidTests := true, laidLooks := .later }
def ArrayPicksCardSaid : Prop := Claim7.holds Tryz.pinned (.plain (OpenSpec.ofChange arrayPicksSpec)) arrayPicksCard

/-- THE TIED CARD OF 'typeballlaw06.ArraySames'. -/
def arraySamesCard : Claim7 := { stood := { row := arraySamesRow, standIns := [], harness := (true, "854f47a290e185d50cf9dbe7e2ff11ac6d910b58404057040b6686108a09929a"), looks := true }, kinds := [], alts := [], laidByText := true, laidKinds := [.data, .pinned], laidTests := true, laidLooks := .later }
def ArraySamesCardSaid : Prop := Claim7.holds Tryz.pinned (.plain (OpenSpec.ofChange arraySamesSpec)) arraySamesCard

/-- THE SECOND FORM's CARD OF 'typeballlaw04.DeciReads'. -/
def deciReadsUptoCard : Claim7 := { stood := { row := deciReadsUptoRow, standIns := [], harness := (true, "854f47a290e185d50cf9dbe7e2ff11ac6d910b58404057040b6686108a09929a"), looks := true }, kinds := [], alts := [], laidByText := true, laidKinds := [.data, .data, .data, .data, .sentinel, .sentinel, .pinned], laidTests := true, laidLooks := .later }
def DeciReadsUptoCardSaid : Prop := Claim7.holds Tryz.pinned (.plain (OpenSpec.upto deciReadsSpec)) deciReadsUptoCard

/-- THE SECOND FORM's CARD OF 'typeballlaw04.DeciBack'. -/
def deciBackUptoCard : Claim7 := { stood := { row := deciBackUptoRow, standIns := [], harness := (true, "854f47a290e185d50cf9dbe7e2ff11ac6d910b58404057040b6686108a09929a"), looks := true }, kinds := [], alts := [], laidByText := true, laidKinds := [.data, .data, .data, .data, .sentinel, .sentinel, .pinned], laidTests := true, laidLooks := .later }
def DeciBackUptoCardSaid : Prop := Claim7.holds Tryz.pinned (.plain (OpenSpec.upto deciBackSpec)) deciBackUptoCard

/-- THE SECOND FORM's CARD OF 'typeballlaw06.ArrayMakes'. -/
def arrayMakesUptoCard : Claim7 := { stood := { row := arrayMakesUptoRow, standIns := [], harness := (true, "854f47a290e185d50cf9dbe7e2ff11ac6d910b58404057040b6686108a09929a"), looks := true }, kinds := [], alts := [], laidByText := true, laidKinds := [.data, .pinned], laidTests := true, laidLooks := .later }
def ArrayMakesUptoCardSaid : Prop := Claim7.holds Tryz.pinned (.plain (OpenSpec.upto arrayMakesSpec)) arrayMakesUptoCard

/-- THE SECOND FORM's CARD OF 'typeballlaw06.ArrayPicks'. -/
def arrayPicksUptoCard : Claim7 := { stood := { row := arrayPicksUptoRow, standIns := [], harness := (true, "854f47a290e185d50cf9dbe7e2ff11ac6d910b58404057040b6686108a09929a"), looks := true }, kinds := [], alts := [], laidByText := true, laidKinds := [.data, .pinned], laidTests := true, laidLooks := .later }
def ArrayPicksUptoCardSaid : Prop := Claim7.holds Tryz.pinned (.plain (OpenSpec.upto arrayPicksSpec)) arrayPicksUptoCard

/-- THE SECOND FORM's CARD OF 'typeballlaw06.ArraySames'. -/
def arraySamesUptoCard : Claim7 := { stood := { row := arraySamesUptoRow, standIns := [], harness := (true, "854f47a290e185d50cf9dbe7e2ff11ac6d910b58404057040b6686108a09929a"), looks := true }, kinds := [], alts := [], laidByText := true, laidKinds := [.data, .pinned], laidTests := true, laidLooks := .later }
def ArraySamesUptoCardSaid : Prop := Claim7.holds Tryz.pinned (.plain (OpenSpec.upto arraySamesSpec)) arraySamesUptoCard
end Rows
end Go.Proofs.YtdnbpkbapmlfaaaGreatDoor
