/-
  DERIVED. GIVEN WITH THE SEED: THE CARDS: each row of YtageaamioljocaaDoorRows.lean that lists a variable, with what it lists TIED to the program's text (the seventh form; the later family's looks); each row that meets fmt, with fmt's text TOLD by the authors' own Lean function (tested against real Go, not proved from fmt's source: count such statements apart). THE CARD IS WHAT COUNTS. Prove the row's statement (the work); the ties are given (YtageaamioljocaaDoorTie.lean); close each card by the builder's one call (the guide's Derived/Test/ToyasCard.lean, 'card_holds'). Laid BY PROGRAM, IN A SANDBOX (cutbox-door.mjs). By AI agents, Wed Nov 11 2026. No macro, syntax, notation, axiom, sorry.
-/
import Derived.Test.YtageaamioljocaaDoorRows
import GoSem.ClaimSeven
namespace Go.Proofs.YtageaamioljocaaDoor
namespace Rows

/-- THE TIED CARD OF 'typeballlaw02.WholeProducts'. -/
def wholeProductsCard : Claim7 := { stood := { row := wholeProductsRow, standIns := [], harness := (true, "11ab64fde9f32bc97f8dcd94eb05696c5ec16b22c26780d4ac0f5a721e99324c"), looks := false }, kinds := [], alts := [], laidByText := true, laidKinds := [.data, .pinned], laidTests := true, laidLooks := .later }
def WholeProductsCardSaid : Prop := Claim7.holds Tryd.pinned (.plain (OpenSpec.ofChange wholeProductsSpec)) wholeProductsCard

/-- THE TIED CARD OF 'typeballlaw02.WholeFloors'. -/
def wholeFloorsCard : Claim7 := { stood := { row := wholeFloorsRow, standIns := [], harness := (true, "11ab64fde9f32bc97f8dcd94eb05696c5ec16b22c26780d4ac0f5a721e99324c"), looks := false }, kinds := [], alts := [], laidByText := true, laidKinds := [.data, .pinned], laidTests := true, laidLooks := .later }
def WholeFloorsCardSaid : Prop := Claim7.holds Tryd.pinned (.plain (OpenSpec.ofChange wholeFloorsSpec)) wholeFloorsCard

/-- THE SECOND FORM's CARD OF 'typeballlaw02.WholeProducts'. -/
def wholeProductsUptoCard : Claim7 := { stood := { row := wholeProductsUptoRow, standIns := [], harness := (true, "11ab64fde9f32bc97f8dcd94eb05696c5ec16b22c26780d4ac0f5a721e99324c"), looks := false }, kinds := [], alts := [], laidByText := true, laidKinds := [.data, .pinned], laidTests := true, laidLooks := .later }
def WholeProductsUptoCardSaid : Prop := Claim7.holds Tryd.pinned (.plain (OpenSpec.upto wholeProductsSpec)) wholeProductsUptoCard

/-- THE SECOND FORM's CARD OF 'typeballlaw02.WholeFloors'. -/
def wholeFloorsUptoCard : Claim7 := { stood := { row := wholeFloorsUptoRow, standIns := [], harness := (true, "11ab64fde9f32bc97f8dcd94eb05696c5ec16b22c26780d4ac0f5a721e99324c"), looks := false }, kinds := [], alts := [], laidByText := true, laidKinds := [.data, .pinned], laidTests := true, laidLooks := .later }
def WholeFloorsUptoCardSaid : Prop := Claim7.holds Tryd.pinned (.plain (OpenSpec.upto wholeFloorsSpec)) wholeFloorsUptoCard
end Rows
end Go.Proofs.YtageaamioljocaaDoor
