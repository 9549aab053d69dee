/-
  DERIVED. GIVEN WITH THE SEED: THE CARDS: each row of YtnpoakaffafdiaaGreatDoorRows.lean that lists a variable, with what it lists TIED to the program's text (the seventh form; the later family's looks); each row that meets fmt, with fmt's text TOLD by the authors' own Lean function (tested against real Go, not proved from fmt's source: count such statements apart). THE CARD IS WHAT COUNTS. Prove the row's statement (the work); the ties are given (YtnpoakaffafdiaaGreatDoorTie.lean); close each card by the builder's one call (the guide's Derived/Test/ToyasCard.lean, 'card_holds'). Laid BY PROGRAM, IN A SANDBOX (cutbox-door.mjs). By AI agents, Wed Nov 11 2026. No macro, syntax, notation, axiom, sorry.
-/
import Derived.Test.YtnpoakaffafdiaaGreatDoorRows
import GoSem.ClaimSeven
namespace Go.Proofs.YtnpoakaffafdiaaGreatDoor
namespace Rows

/-- THE TIED CARD OF 'typeballlaw11.IndexTakes'. -/
def indexTakesCard : Claim7 := { stood := { row := indexTakesRow, standIns := [], harness := (true, "e878149a943e81a249baf5e6c1bf1eccc9aacf445ce6e4eb02ee7d685bea8e37"), looks := false }, kinds := [], alts := [], laidByText := true, laidKinds := [.data, .pinned], laidTests := true, laidLooks := .later }
def IndexTakesCardSaid : Prop := Claim7.holds Tryz.pinned (.plain (OpenSpec.ofChange indexTakesSpec)) indexTakesCard

/-- THE TIED CARD OF 'typeballlaw11.IndexSets'. -/
def indexSetsCard : Claim7 := { stood := { row := indexSetsRow, standIns := [], harness := (true, "e878149a943e81a249baf5e6c1bf1eccc9aacf445ce6e4eb02ee7d685bea8e37"), looks := false }, kinds := [], alts := [], laidByText := true, laidKinds := [.data, .pinned], laidTests := true, laidLooks := .later }
def IndexSetsCardSaid : Prop := Claim7.holds Tryz.pinned (.plain (OpenSpec.ofChange indexSetsSpec)) indexSetsCard

/-- THE TIED CARD OF 'typeballlaw11.IndexBack'. -/
def indexBackCard : Claim7 := { stood := { row := indexBackRow, standIns := [], harness := (true, "e878149a943e81a249baf5e6c1bf1eccc9aacf445ce6e4eb02ee7d685bea8e37"), looks := false }, kinds := [], alts := [], laidByText := true, laidKinds := [.data, .pinned], laidTests := true, laidLooks := .later }
def IndexBackCardSaid : Prop := Claim7.holds Tryz.pinned (.plain (OpenSpec.ofChange indexBackSpec)) indexBackCard

/-- THE TIED CARD OF 'typeballlaw12.MonoOnes'. -/
def monoOnesCard : Claim7 := { stood := { row := monoOnesRow, standIns := [], harness := (true, "e878149a943e81a249baf5e6c1bf1eccc9aacf445ce6e4eb02ee7d685bea8e37"), looks := false }, kinds := [], alts := [], laidByText := true, laidKinds := [.data, .pinned], laidTests := true, laidLooks := .later }
def MonoOnesCardSaid : Prop := Claim7.holds Tryz.pinned (.plain (OpenSpec.ofChange monoOnesSpec)) monoOnesCard

/-- THE TIED CARD OF 'typeballlaw12.MonoBack'. -/
def monoBackCard : Claim7 := { stood := { row := monoBackRow, standIns := [], harness := (true, "e878149a943e81a249baf5e6c1bf1eccc9aacf445ce6e4eb02ee7d685bea8e37"), looks := false }, kinds := [], alts := [], laidByText := true, laidKinds := [.data, .pinned], laidTests := true, laidLooks := .later }
def MonoBackCardSaid : Prop := Claim7.holds Tryz.pinned (.plain (OpenSpec.ofChange monoBackSpec)) monoBackCard

/-- THE SECOND FORM's CARD OF 'typeballlaw11.IndexTakes'. -/
def indexTakesUptoCard : Claim7 := { stood := { row := indexTakesUptoRow, standIns := [], harness := (true, "e878149a943e81a249baf5e6c1bf1eccc9aacf445ce6e4eb02ee7d685bea8e37"), looks := false }, kinds := [], alts := [], laidByText := true, laidKinds := [.data, .pinned], laidTests := true, laidLooks := .later }
def IndexTakesUptoCardSaid : Prop := Claim7.holds Tryz.pinned (.plain (OpenSpec.upto indexTakesSpec)) indexTakesUptoCard

/-- THE SECOND FORM's CARD OF 'typeballlaw11.IndexSets'. -/
def indexSetsUptoCard : Claim7 := { stood := { row := indexSetsUptoRow, standIns := [], harness := (true, "e878149a943e81a249baf5e6c1bf1eccc9aacf445ce6e4eb02ee7d685bea8e37"), looks := false }, kinds := [], alts := [], laidByText := true, laidKinds := [.data, .pinned], laidTests := true, laidLooks := .later }
def IndexSetsUptoCardSaid : Prop := Claim7.holds Tryz.pinned (.plain (OpenSpec.upto indexSetsSpec)) indexSetsUptoCard

/-- THE SECOND FORM's CARD OF 'typeballlaw11.IndexBack'. -/
def indexBackUptoCard : Claim7 := { stood := { row := indexBackUptoRow, standIns := [], harness := (true, "e878149a943e81a249baf5e6c1bf1eccc9aacf445ce6e4eb02ee7d685bea8e37"), looks := false }, kinds := [], alts := [], laidByText := true, laidKinds := [.data, .pinned], laidTests := true, laidLooks := .later }
def IndexBackUptoCardSaid : Prop := Claim7.holds Tryz.pinned (.plain (OpenSpec.upto indexBackSpec)) indexBackUptoCard

/-- THE SECOND FORM's CARD OF 'typeballlaw12.MonoOnes'. -/
def monoOnesUptoCard : Claim7 := { stood := { row := monoOnesUptoRow, standIns := [], harness := (true, "e878149a943e81a249baf5e6c1bf1eccc9aacf445ce6e4eb02ee7d685bea8e37"), looks := false }, kinds := [], alts := [], laidByText := true, laidKinds := [.data, .pinned], laidTests := true, laidLooks := .later }
def MonoOnesUptoCardSaid : Prop := Claim7.holds Tryz.pinned (.plain (OpenSpec.upto monoOnesSpec)) monoOnesUptoCard

/-- THE SECOND FORM's CARD OF 'typeballlaw12.MonoBack'. -/
def monoBackUptoCard : Claim7 := { stood := { row := monoBackUptoRow, standIns := [], harness := (true, "e878149a943e81a249baf5e6c1bf1eccc9aacf445ce6e4eb02ee7d685bea8e37"), looks := false }, kinds := [], alts := [], laidByText := true, laidKinds := [.data, .pinned], laidTests := true, laidLooks := .later }
def MonoBackUptoCardSaid : Prop := Claim7.holds Tryz.pinned (.plain (OpenSpec.upto monoBackSpec)) monoBackUptoCard
end Rows
end Go.Proofs.YtnpoakaffafdiaaGreatDoor
