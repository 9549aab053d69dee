/-
  No cell of these rows narrows 'for every input' (looked for: loops, veiled, ifaces, maps, wideKeys, modest, calm, conditions, laid).
  DERIVED. THE GIVEN ROWS OF THIS SEAT. 3 by the template 'for every input the law returns true; each argument reads behind the call as it read before'; 0 by the template 'total and deterministic' (their statements: YtgpcfncolhmgfaaTotals.lean).
  GIVEN WITH THE SEED: the statements are not yours to turn. If you find one false, say at which input.
  Laid BY PROGRAM, IN A SANDBOX (cutbox-rows.mjs): the forced cells as the released guide's own fill.sh prints them over the translation 1318eb8aa2a1d418… (all of the seat's roots in one cut). By AI agents, Wed Nov 11 2026. No macro, syntax, notation, axiom, sorry.
-/
import Derived.Test.YtgpcfncolhmgfaaChecked
import GoSem.Claim
import GoSem.ClaimJoined
import GoSem.ClaimMapViews
import Derived.JoinedTies
import Derived.KernelRfl
namespace Go.Proofs.Ytgpcfncolhmgfaa
/- THE CELL 'sum', in the pinned program and in every row, IS THE sha256 OF THE DUMP (.gsa) THAT YtgpcfncolhmgfaaProg.lean LOADS. Nothing in Lean hashes anything: it is a label: what it is worth is what the hold of that sum in a sandbox is worth. -/
noncomputable def Try.pinned : Pinned := { name := "ytgpcfncolhmgfaa", sum := "1318eb8aa2a1d4180347473a320522dc0ffd101c090557ac481cbbe22a73c178", checked := Try.checked }
namespace Rows
def none {H : Type} : Left H := { results := [], args := [] }

/-- 'typeballlaw07.ShapePlaces': WHATEVER THE INPUT: true; the input reads as it did. -/
def shapePlacesSpec : ChangeSpec := { name := "shapePlaces", fn := fun _ => fun
  | [d] => { results := [.lit (.bool true)], args := [d] }
  | _ => none }
def shapePlacesRow : OpenClaim := { program := "ytgpcfncolhmgfaa", sum := "1318eb8aa2a1d4180347473a320522dc0ffd101c090557ac481cbbe22a73c178", func := "typeball/typeballlaw07.ShapePlaces", spec := "shapePlaces", unfollowed := true, recurses := true, apart := false }
def ShapePlacesSaid : Prop := shapePlacesRow.holds Try.pinned (OpenSpec.ofChange shapePlacesSpec)

/-- ITS FALSE NEIGHBOUR: 'it returns false'. Refute it at one input. -/
def shapePlacesWrong : ChangeSpec := { name := "shapePlaces", fn := fun _ => fun
  | [d] => { results := [.lit (.bool false)], args := [d] }
  | _ => none }
def ShapePlacesWrongFalsely : Prop := shapePlacesRow.holds Try.pinned (OpenSpec.ofChange shapePlacesWrong)

/-- 'typeballlaw07.ShapeMisses': WHATEVER THE INPUT: true; the input reads as it did. -/
def shapeMissesSpec : ChangeSpec := { name := "shapeMisses", fn := fun _ => fun
  | [d1, d2, d3] => { results := [.lit (.bool true)], args := [d1, d2, d3] }
  | _ => none }
def shapeMissesRow : OpenClaim := { program := "ytgpcfncolhmgfaa", sum := "1318eb8aa2a1d4180347473a320522dc0ffd101c090557ac481cbbe22a73c178", func := "typeball/typeballlaw07.ShapeMisses", spec := "shapeMisses", apart := false }
def ShapeMissesSaid : Prop := shapeMissesRow.holds Try.pinned (OpenSpec.ofChange shapeMissesSpec)

/-- ITS FALSE NEIGHBOUR: 'it returns false'. Refute it at one input. -/
def shapeMissesWrong : ChangeSpec := { name := "shapeMisses", fn := fun _ => fun
  | [d1, d2, d3] => { results := [.lit (.bool false)], args := [d1, d2, d3] }
  | _ => none }
def ShapeMissesWrongFalsely : Prop := shapeMissesRow.holds Try.pinned (OpenSpec.ofChange shapeMissesWrong)

/-- 'typeballlaw07.ShapeAxes': WHATEVER THE INPUT: true; the input reads as it did. -/
def shapeAxesSpec : ChangeSpec := { name := "shapeAxes", fn := fun _ => fun
  | [d1, d2, d3, d4] => { results := [.lit (.bool true)], args := [d1, d2, d3, d4] }
  | _ => none }
def shapeAxesRow : OpenClaim := { program := "ytgpcfncolhmgfaa", sum := "1318eb8aa2a1d4180347473a320522dc0ffd101c090557ac481cbbe22a73c178", func := "typeball/typeballlaw07.ShapeAxes", spec := "shapeAxes", apart := false }
def ShapeAxesSaid : Prop := shapeAxesRow.holds Try.pinned (OpenSpec.ofChange shapeAxesSpec)

/-- ITS FALSE NEIGHBOUR: 'it returns false'. Refute it at one input. -/
def shapeAxesWrong : ChangeSpec := { name := "shapeAxes", fn := fun _ => fun
  | [d1, d2, d3, d4] => { results := [.lit (.bool false)], args := [d1, d2, d3, d4] }
  | _ => none }
def ShapeAxesWrongFalsely : Prop := shapeAxesRow.holds Try.pinned (OpenSpec.ofChange shapeAxesWrong)

/- THE SECOND FORM. 'bulk': how many values and letters a reading holds, each counted each time it is reached (what is shared counts as often as it is met; a slice's spare places count too). A statement '..UptoSaid' is the law's where the arguments, and the package variables that the reading takes, are together of bulk at most 1048576: NARROWER than '..Said'. Prove '..Said' where nothing that the law and all that it calls make is longer than what came in: it says more and counts as full. Else prove '..UptoSaid'. A law counts once. -/
mutual
def uptoBulk {H : Type} : DataW H → Nat
  | .lit (.string bytes) => bytes.length + 1
  | .lit _ => 1
  | .nil => 1
  | .ptr d => uptoBulk d + 1
  | .slice elems spare => uptoBulkAll elems + uptoBulkAll spare + 1
  | .agg parts => uptoBulkAll parts + 1
  | .iface _ d => uptoBulk d + 1
  | .map entries => uptoBulkEntries entries + 1
  | .held _ => 1
def uptoBulkAll {H : Type} : List (DataW H) → Nat
  | [] => 0
  | d :: r => uptoBulk d + uptoBulkAll r
def uptoBulkEntries {H : Type} : List (Lit × DataW H) → Nat
  | [] => 0
  | x :: r => uptoBulkEntry x + uptoBulkEntries r
def uptoBulkEntry {H : Type} : Lit × DataW H → Nat
  | (.string bytes, d) => bytes.length + uptoBulk d + 1
  | (_, d) => uptoBulk d + 1
 end
def uptoSmall : (H : Type) → List (DataW H) → Bool := fun _ ds => decide (uptoBulkAll ds ≤ 1048576)
def OpenSpec.upto (s : _root_.Go.ChangeSpec) : _root_.Go.OpenSpec := { _root_.Go.OpenSpec.ofChange s with cond := some uptoSmall }

/-- 'typeballlaw07.ShapePlaces', WHERE WHAT IT READS IS OF BULK AT MOST 1048576: true; the input reads as it did. -/
def shapePlacesUptoRow : OpenClaim := { program := "ytgpcfncolhmgfaa", sum := "1318eb8aa2a1d4180347473a320522dc0ffd101c090557ac481cbbe22a73c178", func := "typeball/typeballlaw07.ShapePlaces", spec := "shapePlaces", unfollowed := true, recurses := true, apart := false, narrowed := true }
def ShapePlacesUptoSaid : Prop := shapePlacesUptoRow.holds Try.pinned (OpenSpec.upto shapePlacesSpec)

/-- 'typeballlaw07.ShapeMisses', WHERE WHAT IT READS IS OF BULK AT MOST 1048576: true; the input reads as it did. -/
def shapeMissesUptoRow : OpenClaim := { program := "ytgpcfncolhmgfaa", sum := "1318eb8aa2a1d4180347473a320522dc0ffd101c090557ac481cbbe22a73c178", func := "typeball/typeballlaw07.ShapeMisses", spec := "shapeMisses", apart := false, narrowed := true }
def ShapeMissesUptoSaid : Prop := shapeMissesUptoRow.holds Try.pinned (OpenSpec.upto shapeMissesSpec)

/-- 'typeballlaw07.ShapeAxes', WHERE WHAT IT READS IS OF BULK AT MOST 1048576: true; the input reads as it did. -/
def shapeAxesUptoRow : OpenClaim := { program := "ytgpcfncolhmgfaa", sum := "1318eb8aa2a1d4180347473a320522dc0ffd101c090557ac481cbbe22a73c178", func := "typeball/typeballlaw07.ShapeAxes", spec := "shapeAxes", apart := false, narrowed := true }
def ShapeAxesUptoSaid : Prop := shapeAxesUptoRow.holds Try.pinned (OpenSpec.upto shapeAxesSpec)

end Rows
end Go.Proofs.Ytgpcfncolhmgfaa
