/-
  DERIVED. GIVEN WITH THE SEED: THE CARDS: each row of YtkljpofljkgkdaaGreatDoorRows.lean that lists a variable, with what it lists TIED to the program's text (the seventh form; the later family's looks); each row that meets fmt, with fmt's text TOLD by the authors' own Lean function (tested against real Go, not proved from fmt's source: count such statements apart). THE CARD IS WHAT COUNTS. Prove the row's statement (the work); the ties are given (YtkljpofljkgkdaaGreatDoorTie.lean); close each card by the builder's one call (the guide's Derived/Test/ToyasCard.lean, 'card_holds'). Laid BY PROGRAM, IN A SANDBOX (cutbox-door.mjs). By AI agents, Wed Nov 11 2026. No macro, syntax, notation, axiom, sorry.
-/
import Derived.Test.YtkljpofljkgkdaaGreatDoorRows
import GoSem.ClaimSeven
namespace Go.Proofs.YtkljpofljkgkdaaGreatDoor
namespace Rows

/-- THE TIED CARD OF 'typeballlaw08.MoldShapes'. -/
def moldShapesCard : Claim7 := { stood := { row := moldShapesRow, standIns := [], harness := (true, "b5ca1987813b00c1d0dd5ab042445946cf1afc9abaf633e413d41f7cfb899155"), looks := false }, kinds := [], alts := [], laidByText := true, laidKinds := [.data, .pinned], laidTests := true, laidLooks := .later }
def MoldShapesCardSaid : Prop := Claim7.holds Tryz.pinned (.plain (OpenSpec.ofChange moldShapesSpec)) moldShapesCard

/-- THE TIED CARD OF 'typeballlaw08.MoldTurns'. -/
def moldTurnsCard : Claim7 := { stood := { row := moldTurnsRow, standIns := [], harness := (true, "b5ca1987813b00c1d0dd5ab042445946cf1afc9abaf633e413d41f7cfb899155"), looks := false }, kinds := [], alts := [], laidByText := true, laidKinds := [.data, .pinned], laidTests := true, laidLooks := .later }
def MoldTurnsCardSaid : Prop := Claim7.holds Tryz.pinned (.plain (OpenSpec.ofChange moldTurnsSpec)) moldTurnsCard

/-- THE TIED CARD OF 'typeballlaw08.MoldAxes'. -/
def moldAxesCard : Claim7 := { stood := { row := moldAxesRow, standIns := [], harness := (true, "b5ca1987813b00c1d0dd5ab042445946cf1afc9abaf633e413d41f7cfb899155"), looks := false }, kinds := [], alts := [], laidByText := true, laidKinds := [.data, .pinned], laidTests := true, laidLooks := .later }
def MoldAxesCardSaid : Prop := Claim7.holds Tryz.pinned (.plain (OpenSpec.ofChange moldAxesSpec)) moldAxesCard

/-- THE TIED CARD OF 'typeballlaw08.MoldBack'. -/
def moldBackCard : Claim7 := { stood := { row := moldBackRow, standIns := [], harness := (true, "b5ca1987813b00c1d0dd5ab042445946cf1afc9abaf633e413d41f7cfb899155"), looks := false }, kinds := [], alts := [], laidByText := true, laidKinds := [.data, .pinned], laidTests := true, laidLooks := .later }
def MoldBackCardSaid : Prop := Claim7.holds Tryz.pinned (.plain (OpenSpec.ofChange moldBackSpec)) moldBackCard

/-- THE TIED CARD OF 'typeballlaw08.MoldRavel'. -/
def moldRavelCard : Claim7 := { stood := { row := moldRavelRow, standIns := [], harness := (true, "b5ca1987813b00c1d0dd5ab042445946cf1afc9abaf633e413d41f7cfb899155"), looks := false }, kinds := [], alts := [], laidByText := true, laidKinds := [.data, .pinned], laidTests := true, laidLooks := .later }
def MoldRavelCardSaid : Prop := Claim7.holds Tryz.pinned (.plain (OpenSpec.ofChange moldRavelSpec)) moldRavelCard

/-- THE SECOND FORM's CARD OF 'typeballlaw08.MoldShapes'. -/
def moldShapesUptoCard : Claim7 := { stood := { row := moldShapesUptoRow, standIns := [], harness := (true, "b5ca1987813b00c1d0dd5ab042445946cf1afc9abaf633e413d41f7cfb899155"), looks := false }, kinds := [], alts := [], laidByText := true, laidKinds := [.data, .pinned], laidTests := true, laidLooks := .later }
def MoldShapesUptoCardSaid : Prop := Claim7.holds Tryz.pinned (.plain (OpenSpec.upto moldShapesSpec)) moldShapesUptoCard

/-- THE SECOND FORM's CARD OF 'typeballlaw08.MoldTurns'. -/
def moldTurnsUptoCard : Claim7 := { stood := { row := moldTurnsUptoRow, standIns := [], harness := (true, "b5ca1987813b00c1d0dd5ab042445946cf1afc9abaf633e413d41f7cfb899155"), looks := false }, kinds := [], alts := [], laidByText := true, laidKinds := [.data, .pinned], laidTests := true, laidLooks := .later }
def MoldTurnsUptoCardSaid : Prop := Claim7.holds Tryz.pinned (.plain (OpenSpec.upto moldTurnsSpec)) moldTurnsUptoCard

/-- THE SECOND FORM's CARD OF 'typeballlaw08.MoldAxes'. -/
def moldAxesUptoCard : Claim7 := { stood := { row := moldAxesUptoRow, standIns := [], harness := (true, "b5ca1987813b00c1d0dd5ab042445946cf1afc9abaf633e413d41f7cfb899155"), looks := false }, kinds := [], alts := [], laidByText := true, laidKinds := [.data, .pinned], laidTests := true, laidLooks := .later }
def MoldAxesUptoCardSaid : Prop := Claim7.holds Tryz.pinned (.plain (OpenSpec.upto moldAxesSpec)) moldAxesUptoCard

/-- THE SECOND FORM's CARD OF 'typeballlaw08.MoldBack'. -/
def moldBackUptoCard : Claim7 := { stood := { row := moldBackUptoRow, standIns := [], harness := (true, "b5ca1987813b00c1d0dd5ab042445946cf1afc9abaf633e413d41f7cfb899155"), looks := false }, kinds := [], alts := [], laidByText := true, laidKinds := [.data, .pinned], laidTests := true, laidLooks := .later }
def MoldBackUptoCardSaid : Prop := Claim7.holds Tryz.pinned (.plain (OpenSpec.upto moldBackSpec)) moldBackUptoCard

/-- THE SECOND FORM's CARD OF 'typeballlaw08.MoldRavel'. -/
def moldRavelUptoCard : Claim7 := { stood := { row := moldRavelUptoRow, standIns := [], harness := (true, "b5ca1987813b00c1d0dd5ab042445946cf1afc9abaf633e413d41f7cfb899155"), looks := false }, kinds := [], alts := [], laidByText := true, laidKinds := [.data, .pinned], laidTests := true, laidLooks := .later }
def MoldRavelUptoCardSaid : Prop := Claim7.holds Tryz.pinned (.plain (OpenSpec.upto moldRavelSpec)) moldRavelUptoCard
end Rows
end Go.Proofs.YtkljpofljkgkdaaGreatDoor
