/-
  DERIVED. GIVEN WITH THE SEED: THE CARDS: each row of YtphabhddmdpkmaaDoorRows.lean that lists a variable, with what it lists TIED to the program's text (the seventh form; the later family's looks); each row that meets fmt, with fmt's text TOLD by the authors' own Lean function (tested against real Go, not proved from fmt's source: count such statements apart). THE CARD IS WHAT COUNTS. Prove the row's statement (the work); the ties are given (YtphabhddmdpkmaaDoorTie.lean); close each card by the builder's one call (the guide's Derived/Test/ToyasCard.lean, 'card_holds'). Laid BY PROGRAM, IN A SANDBOX (cutbox-door.mjs). By AI agents, Wed Nov 11 2026. No macro, syntax, notation, axiom, sorry.
-/
import Derived.Test.YtphabhddmdpkmaaDoorRows
import GoSem.ClaimSeven
namespace Go.Proofs.YtphabhddmdpkmaaDoor
namespace Rows

/-- THE TIED CARD OF 'typeballlaw06.ArrayBuilds'. -/
def arrayBuildsCard : Claim7 := { stood := { row := arrayBuildsRow, standIns := [], harness := (true, "b01fcf8c3d6870328ee822039dda202d0e8172c31eac580ca06b0a040bc19237"), looks := false }, kinds := [], alts := [], laidByText := true, laidKinds := [.data, .pinned], laidTests := true, laidLooks := .later }
def ArrayBuildsCardSaid : Prop := Claim7.holds Tryd.pinned (.plain (OpenSpec.ofChange arrayBuildsSpec)) arrayBuildsCard

/-- THE SECOND FORM's CARD OF 'typeballlaw06.ArrayBuilds'. -/
def arrayBuildsUptoCard : Claim7 := { stood := { row := arrayBuildsUptoRow, standIns := [], harness := (true, "b01fcf8c3d6870328ee822039dda202d0e8172c31eac580ca06b0a040bc19237"), looks := false }, kinds := [], alts := [], laidByText := true, laidKinds := [.data, .pinned], laidTests := true, laidLooks := .later }
def ArrayBuildsUptoCardSaid : Prop := Claim7.holds Tryd.pinned (.plain (OpenSpec.upto arrayBuildsSpec)) arrayBuildsUptoCard
end Rows
end Go.Proofs.YtphabhddmdpkmaaDoor
