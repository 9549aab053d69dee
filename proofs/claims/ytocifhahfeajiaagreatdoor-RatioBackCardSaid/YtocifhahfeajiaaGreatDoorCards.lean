/-
  DERIVED. GIVEN WITH THE SEED: THE CARDS: each row of YtocifhahfeajiaaGreatDoorRows.lean that lists a variable, with what it lists TIED to the program's text (the seventh form; the later family's looks); each row that meets fmt, with fmt's text TOLD by the authors' own Lean function (tested against real Go, not proved from fmt's source: count such statements apart). THE CARD IS WHAT COUNTS. Prove the row's statement (the work); the ties are given (YtocifhahfeajiaaGreatDoorTie.lean); close each card by the builder's one call (the guide's Derived/Test/ToyasCard.lean, 'card_holds'). Laid BY PROGRAM, IN A SANDBOX (cutbox-door.mjs). By AI agents, Wed Nov 11 2026. No macro, syntax, notation, axiom, sorry.
-/
import Derived.Test.YtocifhahfeajiaaGreatDoorRows
import GoSem.ClaimSeven
namespace Go.Proofs.YtocifhahfeajiaaGreatDoor
namespace Rows

/-- THE TIED CARD OF 'typeballlaw03.RatioBack'. -/
def ratioBackCard : Claim7 := { stood := { row := ratioBackRow, standIns := [], harness := (true, "acf8b2df4081b9a63adc7f5ab2e0e533621a672c9659356f508dc8bf37e1c0e8"), looks := true }, kinds := [], alts := [], laidByText := true, laidKinds := [.data, .pinned], laidTests := true, laidLooks := .later }
def RatioBackCardSaid : Prop := Claim7.holds Tryz.pinned (.plain (OpenSpec.ofChange ratioBackSpec)) ratioBackCard

/-- THE TIED CARD OF 'typeballlaw04.DeciReads'. -/
def deciReadsCard : Claim7 := { stood := { row := deciReadsRow, standIns := [], harness := (true, "acf8b2df4081b9a63adc7f5ab2e0e533621a672c9659356f508dc8bf37e1c0e8"), looks := true }, kinds := [], alts := [], laidByText := true, laidKinds := [.data, .data, .data, .data, .sentinel, .sentinel, .pinned], laidTests := true, laidLooks := .later }
def DeciReadsCardSaid : Prop := Claim7.holds Tryz.pinned (.plain (OpenSpec.ofChange deciReadsSpec)) deciReadsCard

/-- THE TIED CARD OF 'typeballlaw04.DeciShows'. -/
def deciShowsCard : Claim7 := { stood := { row := deciShowsRow, standIns := [], harness := (true, "acf8b2df4081b9a63adc7f5ab2e0e533621a672c9659356f508dc8bf37e1c0e8"), looks := true }, kinds := [], alts := [], laidByText := true, laidKinds := [.data, .pinned], laidTests := true, laidLooks := .later }
def DeciShowsCardSaid : Prop := Claim7.holds Tryz.pinned (.plain (OpenSpec.ofChange deciShowsSpec)) deciShowsCard

/-- THE TIED CARD OF 'typeballlaw04.DeciBack'. -/
def deciBackCard : Claim7 := { stood := { row := deciBackRow, standIns := [], harness := (true, "acf8b2df4081b9a63adc7f5ab2e0e533621a672c9659356f508dc8bf37e1c0e8"), looks := true }, kinds := [], alts := [], laidByText := true, laidKinds := [.data, .data, .data, .data, .sentinel, .sentinel, .pinned], laidTests := true, laidLooks := .later }
def DeciBackCardSaid : Prop := Claim7.holds Tryz.pinned (.plain (OpenSpec.ofChange deciBackSpec)) deciBackCard

/-- THE SECOND FORM's CARD OF 'typeballlaw03.RatioBack'. -/
def ratioBackUptoCard : Claim7 := { stood := { row := ratioBackUptoRow, standIns := [], harness := (true, "acf8b2df4081b9a63adc7f5ab2e0e533621a672c9659356f508dc8bf37e1c0e8"), looks := true }, kinds := [], alts := [], laidByText := true, laidKinds := [.data, .pinned], laidTests := true, laidLooks := .later }
def RatioBackUptoCardSaid : Prop := Claim7.holds Tryz.pinned (.plain (OpenSpec.upto ratioBackSpec)) ratioBackUptoCard

/-- THE SECOND FORM's CARD OF 'typeballlaw04.DeciReads'. -/
def deciReadsUptoCard : Claim7 := { stood := { row := deciReadsUptoRow, standIns := [], harness := (true, "acf8b2df4081b9a63adc7f5ab2e0e533621a672c9659356f508dc8bf37e1c0e8"), looks := true }, kinds := [], alts := [], laidByText := true, laidKinds := [.data, .data, .data, .data, .sentinel, .sentinel, .pinned], laidTests := true, laidLooks := .later }
def DeciReadsUptoCardSaid : Prop := Claim7.holds Tryz.pinned (.plain (OpenSpec.upto deciReadsSpec)) deciReadsUptoCard

/-- THE SECOND FORM's CARD OF 'typeballlaw04.DeciShows'. -/
def deciShowsUptoCard : Claim7 := { stood := { row := deciShowsUptoRow, standIns := [], harness := (true, "acf8b2df4081b9a63adc7f5ab2e0e533621a672c9659356f508dc8bf37e1c0e8"), looks := true }, kinds := [], alts := [], laidByText := true, laidKinds := [.data, .pinned], laidTests := true, laidLooks := .later }
def DeciShowsUptoCardSaid : Prop := Claim7.holds Tryz.pinned (.plain (OpenSpec.upto deciShowsSpec)) deciShowsUptoCard

/-- THE SECOND FORM's CARD OF 'typeballlaw04.DeciBack'. -/
def deciBackUptoCard : Claim7 := { stood := { row := deciBackUptoRow, standIns := [], harness := (true, "acf8b2df4081b9a63adc7f5ab2e0e533621a672c9659356f508dc8bf37e1c0e8"), looks := true }, kinds := [], alts := [], laidByText := true, laidKinds := [.data, .data, .data, .data, .sentinel, .sentinel, .pinned], laidTests := true, laidLooks := .later }
def DeciBackUptoCardSaid : Prop := Claim7.holds Tryz.pinned (.plain (OpenSpec.upto deciBackSpec)) deciBackUptoCard
end Rows
end Go.Proofs.YtocifhahfeajiaaGreatDoor
