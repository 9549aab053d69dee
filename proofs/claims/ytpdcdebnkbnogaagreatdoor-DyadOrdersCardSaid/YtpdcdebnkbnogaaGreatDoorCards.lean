/-
  DERIVED. GIVEN WITH THE SEED: THE CARDS: each row of YtpdcdebnkbnogaaGreatDoorRows.lean that lists a variable, with what it lists TIED to the program's text (the seventh form; the later family's looks); each row that meets fmt, with fmt's text TOLD by the authors' own Lean function (tested against real Go, not proved from fmt's source: count such statements apart). THE CARD IS WHAT COUNTS. Prove the row's statement (the work); the ties are given (YtpdcdebnkbnogaaGreatDoorTie.lean); close each card by the builder's one call (the guide's Derived/Test/ToyasCard.lean, 'card_holds'). Laid BY PROGRAM, IN A SANDBOX (cutbox-door.mjs). By AI agents, Wed Nov 11 2026. No macro, syntax, notation, axiom, sorry.
-/
import Derived.Test.YtpdcdebnkbnogaaGreatDoorRows
import GoSem.ClaimSeven
namespace Go.Proofs.YtpdcdebnkbnogaaGreatDoor
namespace Rows

/-- THE TIED CARD OF 'typeballlaw11.IndexSets'. -/
def indexSetsCard : Claim7 := { stood := { row := indexSetsRow, standIns := [], harness := (true, "16400accbdcf9f9fb3afb9bcd2ed2a752ac7d339f4a66e1af39c04fe4bc9d459"), looks := false }, kinds := [], alts := [], laidByText := true, laidKinds := [.data, .pinned], laidTests := true, laidLooks := .later }
def IndexSetsCardSaid : Prop := Claim7.holds Tryz.pinned (.plain (OpenSpec.ofChange indexSetsSpec)) indexSetsCard

/-- THE TIED CARD OF 'typeballlaw13.DyadTwos'. -/
def dyadTwosCard : Claim7 := { stood := { row := dyadTwosRow, standIns := [], harness := (true, "16400accbdcf9f9fb3afb9bcd2ed2a752ac7d339f4a66e1af39c04fe4bc9d459"), looks := false }, kinds := [], alts := [], laidByText := true, laidKinds := [.data, .pinned], laidTests := true, laidLooks := .later }
def DyadTwosCardSaid : Prop := Claim7.holds Tryz.pinned (.plain (OpenSpec.ofChange dyadTwosSpec)) dyadTwosCard

/-- THE TIED CARD OF 'typeballlaw13.DyadOrders'. -/
def dyadOrdersCard : Claim7 := { stood := { row := dyadOrdersRow, standIns := [], harness := (true, "16400accbdcf9f9fb3afb9bcd2ed2a752ac7d339f4a66e1af39c04fe4bc9d459"), looks := false }, kinds := [], alts := [], laidByText := true, laidKinds := [.data, .pinned], laidTests := true, laidLooks := .later }
def DyadOrdersCardSaid : Prop := Claim7.holds Tryz.pinned (.plain (OpenSpec.ofChange dyadOrdersSpec)) dyadOrdersCard

/-- THE TIED CARD OF 'typeballlaw13.DyadTurned'. -/
def dyadTurnedCard : Claim7 := { stood := { row := dyadTurnedRow, standIns := [], harness := (true, "16400accbdcf9f9fb3afb9bcd2ed2a752ac7d339f4a66e1af39c04fe4bc9d459"), looks := false }, kinds := [], alts := [], laidByText := true, laidKinds := [.data, .pinned], laidTests := true, laidLooks := .later }
def DyadTurnedCardSaid : Prop := Claim7.holds Tryz.pinned (.plain (OpenSpec.ofChange dyadTurnedSpec)) dyadTurnedCard

/-- THE TIED CARD OF 'typeballlaw13.DyadPowers'. -/
def dyadPowersCard : Claim7 := { stood := { row := dyadPowersRow, standIns := [], harness := (true, "16400accbdcf9f9fb3afb9bcd2ed2a752ac7d339f4a66e1af39c04fe4bc9d459"), looks := false }, kinds := [], alts := [], laidByText := true, laidKinds := [.data, .pinned], laidTests := true, laidLooks := .later }
def DyadPowersCardSaid : Prop := Claim7.holds Tryz.pinned (.plain (OpenSpec.ofChange dyadPowersSpec)) dyadPowersCard

/-- THE SECOND FORM's CARD OF 'typeballlaw11.IndexSets'. -/
def indexSetsUptoCard : Claim7 := { stood := { row := indexSetsUptoRow, standIns := [], harness := (true, "16400accbdcf9f9fb3afb9bcd2ed2a752ac7d339f4a66e1af39c04fe4bc9d459"), looks := false }, kinds := [], alts := [], laidByText := true, laidKinds := [.data, .pinned], laidTests := true, laidLooks := .later }
def IndexSetsUptoCardSaid : Prop := Claim7.holds Tryz.pinned (.plain (OpenSpec.upto indexSetsSpec)) indexSetsUptoCard

/-- THE SECOND FORM's CARD OF 'typeballlaw13.DyadTwos'. -/
def dyadTwosUptoCard : Claim7 := { stood := { row := dyadTwosUptoRow, standIns := [], harness := (true, "16400accbdcf9f9fb3afb9bcd2ed2a752ac7d339f4a66e1af39c04fe4bc9d459"), looks := false }, kinds := [], alts := [], laidByText := true, laidKinds := [.data, .pinned], laidTests := true, laidLooks := .later }
def DyadTwosUptoCardSaid : Prop := Claim7.holds Tryz.pinned (.plain (OpenSpec.upto dyadTwosSpec)) dyadTwosUptoCard

/-- THE SECOND FORM's CARD OF 'typeballlaw13.DyadOrders'. -/
def dyadOrdersUptoCard : Claim7 := { stood := { row := dyadOrdersUptoRow, standIns := [], harness := (true, "16400accbdcf9f9fb3afb9bcd2ed2a752ac7d339f4a66e1af39c04fe4bc9d459"), looks := false }, kinds := [], alts := [], laidByText := true, laidKinds := [.data, .pinned], laidTests := true, laidLooks := .later }
def DyadOrdersUptoCardSaid : Prop := Claim7.holds Tryz.pinned (.plain (OpenSpec.upto dyadOrdersSpec)) dyadOrdersUptoCard

/-- THE SECOND FORM's CARD OF 'typeballlaw13.DyadTurned'. -/
def dyadTurnedUptoCard : Claim7 := { stood := { row := dyadTurnedUptoRow, standIns := [], harness := (true, "16400accbdcf9f9fb3afb9bcd2ed2a752ac7d339f4a66e1af39c04fe4bc9d459"), looks := false }, kinds := [], alts := [], laidByText := true, laidKinds := [.data, .pinned], laidTests := true, laidLooks := .later }
def DyadTurnedUptoCardSaid : Prop := Claim7.holds Tryz.pinned (.plain (OpenSpec.upto dyadTurnedSpec)) dyadTurnedUptoCard

/-- THE SECOND FORM's CARD OF 'typeballlaw13.DyadPowers'. -/
def dyadPowersUptoCard : Claim7 := { stood := { row := dyadPowersUptoRow, standIns := [], harness := (true, "16400accbdcf9f9fb3afb9bcd2ed2a752ac7d339f4a66e1af39c04fe4bc9d459"), looks := false }, kinds := [], alts := [], laidByText := true, laidKinds := [.data, .pinned], laidTests := true, laidLooks := .later }
def DyadPowersUptoCardSaid : Prop := Claim7.holds Tryz.pinned (.plain (OpenSpec.upto dyadPowersSpec)) dyadPowersUptoCard
end Rows
end Go.Proofs.YtpdcdebnkbnogaaGreatDoor
