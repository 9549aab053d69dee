/-
  DERIVED. GIVEN WITH THE SEED: THE CARDS: each row of YtdmmenaejkpnjaaGreatDoorRows.lean that lists a variable, with what it lists TIED to the program's text (the seventh form; the later family's looks); each row that meets fmt, with fmt's text TOLD by the authors' own Lean function (tested against real Go, not proved from fmt's source: count such statements apart). THE CARD IS WHAT COUNTS. Prove the row's statement (the work); the ties are given (YtdmmenaejkpnjaaGreatDoorTie.lean); close each card by the builder's one call (the guide's Derived/Test/ToyasCard.lean, 'card_holds'). Laid BY PROGRAM, IN A SANDBOX (cutbox-door.mjs). By AI agents, Wed Nov 11 2026. No macro, syntax, notation, axiom, sorry.
-/
import Derived.Test.YtdmmenaejkpnjaaGreatDoorRows
import GoSem.ClaimSeven
namespace Go.Proofs.YtdmmenaejkpnjaaGreatDoor
namespace Rows

/-- THE TIED CARD OF 'typeballlaw11.IndexSets'. -/
def indexSetsCard : Claim7 := { stood := { row := indexSetsRow, standIns := [], harness := (true, "9a310933a43cfadca16bf7fda1cf3398c0876ef4f0783082fffa6fd22a2962bf"), looks := false }, kinds := [], alts := [], laidByText := true, laidKinds := [.data, .pinned], laidTests := true, laidLooks := .later }
def IndexSetsCardSaid : Prop := Claim7.holds Tryz.pinned (.plain (OpenSpec.ofChange indexSetsSpec)) indexSetsCard

/-- THE TIED CARD OF 'typeballlaw13.DyadTwos'. -/
def dyadTwosCard : Claim7 := { stood := { row := dyadTwosRow, standIns := [], harness := (true, "9a310933a43cfadca16bf7fda1cf3398c0876ef4f0783082fffa6fd22a2962bf"), looks := false }, kinds := [], alts := [], laidByText := true, laidKinds := [.data, .pinned], laidTests := true, laidLooks := .later }
def DyadTwosCardSaid : Prop := Claim7.holds Tryz.pinned (.plain (OpenSpec.ofChange dyadTwosSpec)) dyadTwosCard

/-- THE TIED CARD OF 'typeballlaw14.PervadeOnes'. -/
def pervadeOnesCard : Claim7 := { stood := { row := pervadeOnesRow, standIns := [], harness := (true, "9a310933a43cfadca16bf7fda1cf3398c0876ef4f0783082fffa6fd22a2962bf"), looks := false }, kinds := [], alts := [], laidByText := true, laidKinds := [.data, .pinned], laidTests := true, laidLooks := .later }
def PervadeOnesCardSaid : Prop := Claim7.holds Tryz.pinned (.plain (OpenSpec.ofChange pervadeOnesSpec)) pervadeOnesCard

/-- THE TIED CARD OF 'typeballlaw14.PervadeTwos'. -/
def pervadeTwosCard : Claim7 := { stood := { row := pervadeTwosRow, standIns := [], harness := (true, "9a310933a43cfadca16bf7fda1cf3398c0876ef4f0783082fffa6fd22a2962bf"), looks := false }, kinds := [], alts := [], laidByText := true, laidKinds := [.data, .pinned], laidTests := true, laidLooks := .later }
def PervadeTwosCardSaid : Prop := Claim7.holds Tryz.pinned (.plain (OpenSpec.ofChange pervadeTwosSpec)) pervadeTwosCard

/-- THE TIED CARD OF 'typeballlaw14.PervadeFits'. -/
def pervadeFitsCard : Claim7 := { stood := { row := pervadeFitsRow, standIns := [], harness := (true, "9a310933a43cfadca16bf7fda1cf3398c0876ef4f0783082fffa6fd22a2962bf"), looks := false }, kinds := [], alts := [], laidByText := true, laidKinds := [.data, .pinned], laidTests := true, laidLooks := .later }
def PervadeFitsCardSaid : Prop := Claim7.holds Tryz.pinned (.plain (OpenSpec.ofChange pervadeFitsSpec)) pervadeFitsCard

/-- THE SECOND FORM's CARD OF 'typeballlaw11.IndexSets'. -/
def indexSetsUptoCard : Claim7 := { stood := { row := indexSetsUptoRow, standIns := [], harness := (true, "9a310933a43cfadca16bf7fda1cf3398c0876ef4f0783082fffa6fd22a2962bf"), looks := false }, kinds := [], alts := [], laidByText := true, laidKinds := [.data, .pinned], laidTests := true, laidLooks := .later }
def IndexSetsUptoCardSaid : Prop := Claim7.holds Tryz.pinned (.plain (OpenSpec.upto indexSetsSpec)) indexSetsUptoCard

/-- THE SECOND FORM's CARD OF 'typeballlaw13.DyadTwos'. -/
def dyadTwosUptoCard : Claim7 := { stood := { row := dyadTwosUptoRow, standIns := [], harness := (true, "9a310933a43cfadca16bf7fda1cf3398c0876ef4f0783082fffa6fd22a2962bf"), looks := false }, kinds := [], alts := [], laidByText := true, laidKinds := [.data, .pinned], laidTests := true, laidLooks := .later }
def DyadTwosUptoCardSaid : Prop := Claim7.holds Tryz.pinned (.plain (OpenSpec.upto dyadTwosSpec)) dyadTwosUptoCard

/-- THE SECOND FORM's CARD OF 'typeballlaw14.PervadeOnes'. -/
def pervadeOnesUptoCard : Claim7 := { stood := { row := pervadeOnesUptoRow, standIns := [], harness := (true, "9a310933a43cfadca16bf7fda1cf3398c0876ef4f0783082fffa6fd22a2962bf"), looks := false }, kinds := [], alts := [], laidByText := true, laidKinds := [.data, .pinned], laidTests := true, laidLooks := .later }
def PervadeOnesUptoCardSaid : Prop := Claim7.holds Tryz.pinned (.plain (OpenSpec.upto pervadeOnesSpec)) pervadeOnesUptoCard

/-- THE SECOND FORM's CARD OF 'typeballlaw14.PervadeTwos'. -/
def pervadeTwosUptoCard : Claim7 := { stood := { row := pervadeTwosUptoRow, standIns := [], harness := (true, "9a310933a43cfadca16bf7fda1cf3398c0876ef4f0783082fffa6fd22a2962bf"), looks := false }, kinds := [], alts := [], laidByText := true, laidKinds := [.data, .pinned], laidTests := true, laidLooks := .later }
def PervadeTwosUptoCardSaid : Prop := Claim7.holds Tryz.pinned (.plain (OpenSpec.upto pervadeTwosSpec)) pervadeTwosUptoCard

/-- THE SECOND FORM's CARD OF 'typeballlaw14.PervadeFits'. -/
def pervadeFitsUptoCard : Claim7 := { stood := { row := pervadeFitsUptoRow, standIns := [], harness := (true, "9a310933a43cfadca16bf7fda1cf3398c0876ef4f0783082fffa6fd22a2962bf"), looks := false }, kinds := [], alts := [], laidByText := true, laidKinds := [.data, .pinned], laidTests := true, laidLooks := .later }
def PervadeFitsUptoCardSaid : Prop := Claim7.holds Tryz.pinned (.plain (OpenSpec.upto pervadeFitsSpec)) pervadeFitsUptoCard
end Rows
end Go.Proofs.YtdmmenaejkpnjaaGreatDoor
