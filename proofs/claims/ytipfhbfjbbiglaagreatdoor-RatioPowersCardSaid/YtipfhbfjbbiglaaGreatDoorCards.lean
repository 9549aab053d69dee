/-
  DERIVED. GIVEN WITH THE SEED: THE CARDS: each row of YtipfhbfjbbiglaaGreatDoorRows.lean that lists a variable, with what it lists TIED to the program's text (the seventh form; the later family's looks); each row that meets fmt, with fmt's text TOLD by the authors' own Lean function (tested against real Go, not proved from fmt's source: count such statements apart). THE CARD IS WHAT COUNTS. Prove the row's statement (the work); the ties are given (YtipfhbfjbbiglaaGreatDoorTie.lean); close each card by the builder's one call (the guide's Derived/Test/ToyasCard.lean, 'card_holds'). Laid BY PROGRAM, IN A SANDBOX (cutbox-door.mjs). By AI agents, Wed Nov 11 2026. No macro, syntax, notation, axiom, sorry.
-/
import Derived.Test.YtipfhbfjbbiglaaGreatDoorRows
import GoSem.ClaimSeven
namespace Go.Proofs.YtipfhbfjbbiglaaGreatDoor
namespace Rows

/-- THE TIED CARD OF 'typeballlaw03.RatioMakes'. -/
def ratioMakesCard : Claim7 := { stood := { row := ratioMakesRow, standIns := [], harness := (true, "d160b9ea3e4f20fd462d36bd4da68172c319896973f02a368c259cc2f7da741a"), looks := true }, kinds := [], alts := [], laidByText := true, laidKinds := [.data, .pinned], laidTests := true, laidLooks := .later }
def RatioMakesCardSaid : Prop := Claim7.holds Tryz.pinned (.plain (OpenSpec.ofChange ratioMakesSpec)) ratioMakesCard

/-- THE TIED CARD OF 'typeballlaw03.RatioTells'. -/
def ratioTellsCard : Claim7 := { stood := { row := ratioTellsRow, standIns := [], harness := (true, "d160b9ea3e4f20fd462d36bd4da68172c319896973f02a368c259cc2f7da741a"), looks := true }, kinds := [], alts := [], laidByText := true, laidKinds := [.data, .pinned], laidTests := true, laidLooks := .later }
def RatioTellsCardSaid : Prop := Claim7.holds Tryz.pinned (.plain (OpenSpec.ofChange ratioTellsSpec)) ratioTellsCard

/-- THE TIED CARD OF 'typeballlaw03.RatioReckons'. -/
def ratioReckonsCard : Claim7 := { stood := { row := ratioReckonsRow, standIns := [], harness := (true, "d160b9ea3e4f20fd462d36bd4da68172c319896973f02a368c259cc2f7da741a"), looks := true }, kinds := [], alts := [], laidByText := true, laidKinds := [.data, .pinned], laidTests := true, laidLooks := .later }
def RatioReckonsCardSaid : Prop := Claim7.holds Tryz.pinned (.plain (OpenSpec.ofChange ratioReckonsSpec)) ratioReckonsCard

/-- THE TIED CARD OF 'typeballlaw03.RatioBack'. -/
def ratioBackCard : Claim7 := { stood := { row := ratioBackRow, standIns := [], harness := (true, "d160b9ea3e4f20fd462d36bd4da68172c319896973f02a368c259cc2f7da741a"), looks := true }, kinds := [], alts := [], laidByText := true, laidKinds := [.data, .pinned], laidTests := true, laidLooks := .later }
def RatioBackCardSaid : Prop := Claim7.holds Tryz.pinned (.plain (OpenSpec.ofChange ratioBackSpec)) ratioBackCard

/-- THE TIED CARD OF 'typeballlaw03.RatioRests'. -/
def ratioRestsCard : Claim7 := { stood := { row := ratioRestsRow, standIns := [], harness := (true, "d160b9ea3e4f20fd462d36bd4da68172c319896973f02a368c259cc2f7da741a"), looks := true }, kinds := [], alts := [], laidByText := true, laidKinds := [.data, .pinned], laidTests := true, laidLooks := .later }
def RatioRestsCardSaid : Prop := Claim7.holds Tryz.pinned (.plain (OpenSpec.ofChange ratioRestsSpec)) ratioRestsCard

/-- THE TIED CARD OF 'typeballlaw03.RatioPowers'. -/
def ratioPowersCard : Claim7 := { stood := { row := ratioPowersRow, standIns := [], harness := (true, "d160b9ea3e4f20fd462d36bd4da68172c319896973f02a368c259cc2f7da741a"), looks := true }, kinds := [], alts := [], laidByText := true, laidKinds := [.data, .pinned], laidTests := true, laidLooks := .later }
def RatioPowersCardSaid : Prop := Claim7.holds Tryz.pinned (.plain (OpenSpec.ofChange ratioPowersSpec)) ratioPowersCard

/-- THE TIED CARD OF 'typeballlaw04.DeciReads'. -/
def deciReadsCard : Claim7 := { stood := { row := deciReadsRow, standIns := [], harness := (true, "d160b9ea3e4f20fd462d36bd4da68172c319896973f02a368c259cc2f7da741a"), looks := true }, kinds := [], alts := [], laidByText := true, laidKinds := [.data, .data, .data, .data, .sentinel, .sentinel, .pinned], laidTests := true, laidLooks := .later }
def DeciReadsCardSaid : Prop := Claim7.holds Tryz.pinned (.plain (OpenSpec.ofChange deciReadsSpec)) deciReadsCard

/-- THE TIED CARD OF 'typeballlaw04.DeciShows'. -/
def deciShowsCard : Claim7 := { stood := { row := deciShowsRow, standIns := [], harness := (true, "d160b9ea3e4f20fd462d36bd4da68172c319896973f02a368c259cc2f7da741a"), looks := true }, kinds := [], alts := [], laidByText := true, laidKinds := [.data, .pinned], laidTests := true, laidLooks := .later }
def DeciShowsCardSaid : Prop := Claim7.holds Tryz.pinned (.plain (OpenSpec.ofChange deciShowsSpec)) deciShowsCard

/-- THE TIED CARD OF 'typeballlaw04.DeciBack'. -/
def deciBackCard : Claim7 := { stood := { row := deciBackRow, standIns := [], harness := (true, "d160b9ea3e4f20fd462d36bd4da68172c319896973f02a368c259cc2f7da741a"), looks := true }, kinds := [], alts := [], laidByText := true, laidKinds := [.data, .data, .data, .data, .sentinel, .sentinel, .pinned], laidTests := true, laidLooks := .later }
def DeciBackCardSaid : Prop := Claim7.holds Tryz.pinned (.plain (OpenSpec.ofChange deciBackSpec)) deciBackCard

/-- THE SECOND FORM's CARD OF 'typeballlaw03.RatioMakes'. -/
def ratioMakesUptoCard : Claim7 := { stood := { row := ratioMakesUptoRow, standIns := [], harness := (true, "d160b9ea3e4f20fd462d36bd4da68172c319896973f02a368c259cc2f7da741a"), looks := true }, kinds := [], alts := [], laidByText := true, laidKinds := [.data, .pinned], laidTests := true, laidLooks := .later }
def RatioMakesUptoCardSaid : Prop := Claim7.holds Tryz.pinned (.plain (OpenSpec.upto ratioMakesSpec)) ratioMakesUptoCard

/-- THE SECOND FORM's CARD OF 'typeballlaw03.RatioTells'. -/
def ratioTellsUptoCard : Claim7 := { stood := { row := ratioTellsUptoRow, standIns := [], harness := (true, "d160b9ea3e4f20fd462d36bd4da68172c319896973f02a368c259cc2f7da741a"), looks := true }, kinds := [], alts := [], laidByText := true, laidKinds := [.data, .pinned], laidTests := true, laidLooks := .later }
def RatioTellsUptoCardSaid : Prop := Claim7.holds Tryz.pinned (.plain (OpenSpec.upto ratioTellsSpec)) ratioTellsUptoCard

/-- THE SECOND FORM's CARD OF 'typeballlaw03.RatioReckons'. -/
def ratioReckonsUptoCard : Claim7 := { stood := { row := ratioReckonsUptoRow, standIns := [], harness := (true, "d160b9ea3e4f20fd462d36bd4da68172c319896973f02a368c259cc2f7da741a"), looks := true }, kinds := [], alts := [], laidByText := true, laidKinds := [.data, .pinned], laidTests := true, laidLooks := .later }
def RatioReckonsUptoCardSaid : Prop := Claim7.holds Tryz.pinned (.plain (OpenSpec.upto ratioReckonsSpec)) ratioReckonsUptoCard

/-- THE SECOND FORM's CARD OF 'typeballlaw03.RatioBack'. -/
def ratioBackUptoCard : Claim7 := { stood := { row := ratioBackUptoRow, standIns := [], harness := (true, "d160b9ea3e4f20fd462d36bd4da68172c319896973f02a368c259cc2f7da741a"), looks := true }, kinds := [], alts := [], laidByText := true, laidKinds := [.data, .pinned], laidTests := true, laidLooks := .later }
def RatioBackUptoCardSaid : Prop := Claim7.holds Tryz.pinned (.plain (OpenSpec.upto ratioBackSpec)) ratioBackUptoCard

/-- THE SECOND FORM's CARD OF 'typeballlaw03.RatioRests'. -/
def ratioRestsUptoCard : Claim7 := { stood := { row := ratioRestsUptoRow, standIns := [], harness := (true, "d160b9ea3e4f20fd462d36bd4da68172c319896973f02a368c259cc2f7da741a"), looks := true }, kinds := [], alts := [], laidByText := true, laidKinds := [.data, .pinned], laidTests := true, laidLooks := .later }
def RatioRestsUptoCardSaid : Prop := Claim7.holds Tryz.pinned (.plain (OpenSpec.upto ratioRestsSpec)) ratioRestsUptoCard

/-- THE SECOND FORM's CARD OF 'typeballlaw03.RatioPowers'. -/
def ratioPowersUptoCard : Claim7 := { stood := { row := ratioPowersUptoRow, standIns := [], harness := (true, "d160b9ea3e4f20fd462d36bd4da68172c319896973f02a368c259cc2f7da741a"), looks := true }, kinds := [], alts := [], laidByText := true, laidKinds := [.data, .pinned], laidTests := true, laidLooks := .later }
def RatioPowersUptoCardSaid : Prop := Claim7.holds Tryz.pinned (.plain (OpenSpec.upto ratioPowersSpec)) ratioPowersUptoCard

/-- THE SECOND FORM's CARD OF 'typeballlaw04.DeciReads'. -/
def deciReadsUptoCard : Claim7 := { stood := { row := deciReadsUptoRow, standIns := [], harness := (true, "d160b9ea3e4f20fd462d36bd4da68172c319896973f02a368c259cc2f7da741a"), looks := true }, kinds := [], alts := [], laidByText := true, laidKinds := [.data, .data, .data, .data, .sentinel, .sentinel, .pinned], laidTests := true, laidLooks := .later }
def DeciReadsUptoCardSaid : Prop := Claim7.holds Tryz.pinned (.plain (OpenSpec.upto deciReadsSpec)) deciReadsUptoCard

/-- THE SECOND FORM's CARD OF 'typeballlaw04.DeciShows'. -/
def deciShowsUptoCard : Claim7 := { stood := { row := deciShowsUptoRow, standIns := [], harness := (true, "d160b9ea3e4f20fd462d36bd4da68172c319896973f02a368c259cc2f7da741a"), looks := true }, kinds := [], alts := [], laidByText := true, laidKinds := [.data, .pinned], laidTests := true, laidLooks := .later }
def DeciShowsUptoCardSaid : Prop := Claim7.holds Tryz.pinned (.plain (OpenSpec.upto deciShowsSpec)) deciShowsUptoCard

/-- THE SECOND FORM's CARD OF 'typeballlaw04.DeciBack'. -/
def deciBackUptoCard : Claim7 := { stood := { row := deciBackUptoRow, standIns := [], harness := (true, "d160b9ea3e4f20fd462d36bd4da68172c319896973f02a368c259cc2f7da741a"), looks := true }, kinds := [], alts := [], laidByText := true, laidKinds := [.data, .data, .data, .data, .sentinel, .sentinel, .pinned], laidTests := true, laidLooks := .later }
def DeciBackUptoCardSaid : Prop := Claim7.holds Tryz.pinned (.plain (OpenSpec.upto deciBackSpec)) deciBackUptoCard
end Rows
end Go.Proofs.YtipfhbfjbbiglaaGreatDoor
