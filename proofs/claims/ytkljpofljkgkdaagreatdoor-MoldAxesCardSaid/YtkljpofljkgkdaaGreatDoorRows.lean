/-
  NARROWER THAN 'FOR EVERY INPUT', by the rows' own cells (each row's printed sentence says how): MoldShapes: laid · MoldTurns: laid · MoldAxes: laid · MoldBack: laid · MoldRavel: laid.
  DERIVED. THE GIVEN ROWS OF THIS SEAT. 5 by the template 'for every input the law returns true; each argument reads behind the call as it read before'; 0 by the template 'total and deterministic' (their statements: YtkljpofljkgkdaaGreatDoorTotals.lean).
  GIVEN WITH THE SEED: the statements are not yours to turn. If you find one false, say at which input.
  Laid BY PROGRAM, IN A SANDBOX (cutbox-rows.mjs): the forced cells as the released guide's own fill.sh prints them over the translation 8398e14963c502b7… (all of the seat's roots in one cut). By AI agents, Wed Nov 11 2026. No macro, syntax, notation, axiom, sorry.
-/
import Derived.Test.YtkljpofljkgkdaaGreatDoorChecked
import GoSem.PinnedTables
import GoSem.Claim
import GoSem.ClaimJoined
import GoSem.ClaimMapViews
import Derived.JoinedTies
import Derived.KernelRfl
namespace Go.Proofs.YtkljpofljkgkdaaGreatDoor
/- THE CELL 'sum', in the pinned program and in every row, IS THE sha256 OF THE DUMP (.gsa) THAT YtkljpofljkgkdaaGreatDoorProg.lean LOADS. Nothing in Lean hashes anything: it is a label: what it is worth is what the hold of that sum in a sandbox is worth. -/
noncomputable def Tryz.pinned : Pinned := { name := "ytkljpofljkgkdaagreatdoor", sum := "8398e14963c502b721ab88d0e15f049e2ad14e1ccd9940082bc42f1c1455d5b1", checked := Tryz.checked }
namespace Rows
def none {H : Type} : Left H := { results := [], args := [] }

/- WHAT THE LISTED PACKAGE-LEVEL VARIABLES READ AS WHEN THE CALL BEGINS. Each datum BY PROGRAM (the guide's laid-datum.mjs) off the statement by which the dump's own 'gosem.cut.vars' lays the variable. In a bare row this is a premise. The card (YtkljpofljkgkdaaGreatDoorCards.lean) ties it to the program's text. -/
def laid_unicode_utf8_acceptRanges {H : Type} : DataW H := .agg [.agg [.lit (.int .u8 128), .lit (.int .u8 191)], .agg [.lit (.int .u8 160), .lit (.int .u8 191)], .agg [.lit (.int .u8 128), .lit (.int .u8 159)], .agg [.lit (.int .u8 144), .lit (.int .u8 191)], .agg [.lit (.int .u8 128), .lit (.int .u8 143)], .agg [.lit (.int .u8 0), .lit (.int .u8 0)], .agg [.lit (.int .u8 0), .lit (.int .u8 0)], .agg [.lit (.int .u8 0), .lit (.int .u8 0)], .agg [.lit (.int .u8 0), .lit (.int .u8 0)], .agg [.lit (.int .u8 0), .lit (.int .u8 0)], .agg [.lit (.int .u8 0), .lit (.int .u8 0)], .agg [.lit (.int .u8 0), .lit (.int .u8 0)], .agg [.lit (.int .u8 0), .lit (.int .u8 0)], .agg [.lit (.int .u8 0), .lit (.int .u8 0)], .agg [.lit (.int .u8 0), .lit (.int .u8 0)], .agg [.lit (.int .u8 0), .lit (.int .u8 0)]]
/-- One of Go's own tables, pinned by name: the form's constant. -/
def laid_unicode_utf8_first : DataW Unit := Go.Pinned.utf8First

/-- 'typeballlaw08.MoldShapes': WHATEVER THE INPUT: true; the input reads as it did. -/
def moldShapesSpec : ChangeSpec := { name := "moldShapes", fn := fun _ => fun
  | [d1, d2, d3] => { results := [.lit (.bool true)], args := [d1, d2, d3] }
  | _ => none }
def moldShapesRow : OpenClaim := { program := "ytkljpofljkgkdaagreatdoor", sum := "8398e14963c502b721ab88d0e15f049e2ad14e1ccd9940082bc42f1c1455d5b1", func := "typeball/typeballlaw08.MoldShapes", spec := "moldShapes", inPlace := ["internal/bytealg.IndexByteString", "internal/bytealg.IndexString"], unfollowed := true, recurses := true, named := ["math/bits.overflowError", "unicode/utf8.first", "unicode/utf8.acceptRanges", "internal/bytealg.MaxLen"], apart := false, laid := [("unicode/utf8.acceptRanges", laid_unicode_utf8_acceptRanges), ("unicode/utf8.first", laid_unicode_utf8_first)] }
def MoldShapesSaid : Prop := moldShapesRow.holds Tryz.pinned (OpenSpec.ofChange moldShapesSpec)

/-- ITS FALSE NEIGHBOUR: 'it returns false'. Refute it at one input. -/
def moldShapesWrong : ChangeSpec := { name := "moldShapes", fn := fun _ => fun
  | [d1, d2, d3] => { results := [.lit (.bool false)], args := [d1, d2, d3] }
  | _ => none }
def MoldShapesWrongFalsely : Prop := moldShapesRow.holds Tryz.pinned (OpenSpec.ofChange moldShapesWrong)

/-- 'typeballlaw08.MoldTurns': WHATEVER THE INPUT: true; the input reads as it did. -/
def moldTurnsSpec : ChangeSpec := { name := "moldTurns", fn := fun _ => fun
  | [d1, d2, d3] => { results := [.lit (.bool true)], args := [d1, d2, d3] }
  | _ => none }
def moldTurnsRow : OpenClaim := { program := "ytkljpofljkgkdaagreatdoor", sum := "8398e14963c502b721ab88d0e15f049e2ad14e1ccd9940082bc42f1c1455d5b1", func := "typeball/typeballlaw08.MoldTurns", spec := "moldTurns", inPlace := ["internal/bytealg.IndexByteString", "internal/bytealg.IndexString"], unfollowed := true, recurses := true, named := ["math/bits.overflowError", "unicode/utf8.first", "unicode/utf8.acceptRanges", "internal/bytealg.MaxLen"], apart := false, laid := [("unicode/utf8.acceptRanges", laid_unicode_utf8_acceptRanges), ("unicode/utf8.first", laid_unicode_utf8_first)] }
def MoldTurnsSaid : Prop := moldTurnsRow.holds Tryz.pinned (OpenSpec.ofChange moldTurnsSpec)

/-- ITS FALSE NEIGHBOUR: 'it returns false'. Refute it at one input. -/
def moldTurnsWrong : ChangeSpec := { name := "moldTurns", fn := fun _ => fun
  | [d1, d2, d3] => { results := [.lit (.bool false)], args := [d1, d2, d3] }
  | _ => none }
def MoldTurnsWrongFalsely : Prop := moldTurnsRow.holds Tryz.pinned (OpenSpec.ofChange moldTurnsWrong)

/-- 'typeballlaw08.MoldAxes': WHATEVER THE INPUT: true; the input reads as it did. -/
def moldAxesSpec : ChangeSpec := { name := "moldAxes", fn := fun _ => fun
  | [d1, d2, d3] => { results := [.lit (.bool true)], args := [d1, d2, d3] }
  | _ => none }
def moldAxesRow : OpenClaim := { program := "ytkljpofljkgkdaagreatdoor", sum := "8398e14963c502b721ab88d0e15f049e2ad14e1ccd9940082bc42f1c1455d5b1", func := "typeball/typeballlaw08.MoldAxes", spec := "moldAxes", inPlace := ["internal/bytealg.IndexByteString", "internal/bytealg.IndexString"], unfollowed := true, recurses := true, named := ["math/bits.overflowError", "unicode/utf8.first", "unicode/utf8.acceptRanges", "internal/bytealg.MaxLen"], apart := false, laid := [("unicode/utf8.acceptRanges", laid_unicode_utf8_acceptRanges), ("unicode/utf8.first", laid_unicode_utf8_first)] }
def MoldAxesSaid : Prop := moldAxesRow.holds Tryz.pinned (OpenSpec.ofChange moldAxesSpec)

/-- ITS FALSE NEIGHBOUR: 'it returns false'. Refute it at one input. -/
def moldAxesWrong : ChangeSpec := { name := "moldAxes", fn := fun _ => fun
  | [d1, d2, d3] => { results := [.lit (.bool false)], args := [d1, d2, d3] }
  | _ => none }
def MoldAxesWrongFalsely : Prop := moldAxesRow.holds Tryz.pinned (OpenSpec.ofChange moldAxesWrong)

/-- 'typeballlaw08.MoldBack': WHATEVER THE INPUT: true; the input reads as it did. -/
def moldBackSpec : ChangeSpec := { name := "moldBack", fn := fun _ => fun
  | [d1, d2] => { results := [.lit (.bool true)], args := [d1, d2] }
  | _ => none }
def moldBackRow : OpenClaim := { program := "ytkljpofljkgkdaagreatdoor", sum := "8398e14963c502b721ab88d0e15f049e2ad14e1ccd9940082bc42f1c1455d5b1", func := "typeball/typeballlaw08.MoldBack", spec := "moldBack", inPlace := ["internal/bytealg.IndexByteString", "internal/bytealg.IndexString"], unfollowed := true, recurses := true, named := ["math/bits.overflowError", "unicode/utf8.first", "unicode/utf8.acceptRanges", "internal/bytealg.MaxLen"], apart := false, laid := [("unicode/utf8.acceptRanges", laid_unicode_utf8_acceptRanges), ("unicode/utf8.first", laid_unicode_utf8_first)] }
def MoldBackSaid : Prop := moldBackRow.holds Tryz.pinned (OpenSpec.ofChange moldBackSpec)

/-- ITS FALSE NEIGHBOUR: 'it returns false'. Refute it at one input. -/
def moldBackWrong : ChangeSpec := { name := "moldBack", fn := fun _ => fun
  | [d1, d2] => { results := [.lit (.bool false)], args := [d1, d2] }
  | _ => none }
def MoldBackWrongFalsely : Prop := moldBackRow.holds Tryz.pinned (OpenSpec.ofChange moldBackWrong)

/-- 'typeballlaw08.MoldRavel': WHATEVER THE INPUT: true; the input reads as it did. -/
def moldRavelSpec : ChangeSpec := { name := "moldRavel", fn := fun _ => fun
  | [d] => { results := [.lit (.bool true)], args := [d] }
  | _ => none }
def moldRavelRow : OpenClaim := { program := "ytkljpofljkgkdaagreatdoor", sum := "8398e14963c502b721ab88d0e15f049e2ad14e1ccd9940082bc42f1c1455d5b1", func := "typeball/typeballlaw08.MoldRavel", spec := "moldRavel", inPlace := ["internal/bytealg.IndexByteString", "internal/bytealg.IndexString"], unfollowed := true, recurses := true, named := ["math/bits.overflowError", "unicode/utf8.first", "unicode/utf8.acceptRanges", "internal/bytealg.MaxLen"], apart := false, laid := [("unicode/utf8.acceptRanges", laid_unicode_utf8_acceptRanges), ("unicode/utf8.first", laid_unicode_utf8_first)] }
def MoldRavelSaid : Prop := moldRavelRow.holds Tryz.pinned (OpenSpec.ofChange moldRavelSpec)

/-- ITS FALSE NEIGHBOUR: 'it returns false'. Refute it at one input. -/
def moldRavelWrong : ChangeSpec := { name := "moldRavel", fn := fun _ => fun
  | [d] => { results := [.lit (.bool false)], args := [d] }
  | _ => none }
def MoldRavelWrongFalsely : Prop := moldRavelRow.holds Tryz.pinned (OpenSpec.ofChange moldRavelWrong)

/- THE SECOND FORM. 'bulk': how many values and letters a reading holds, each counted each time it is reached (what is shared counts as often as it is met; a slice's spare places count too). A statement '..UptoSaid' is the law's where the arguments, and the package variables that the reading takes, are together of bulk at most 1048576: NARROWER than '..Said'. Prove '..Said' where nothing that the law and all that it calls make is longer than what came in: it says more and counts as full. Else prove '..UptoSaid'. A law counts once. -/
mutual
def uptoBulk {H : Type} : DataW H → Nat
  | .lit (.string bytes) => bytes.length + 1
  | .lit _ => 1
  | .nil => 1
  | .ptr d => uptoBulk d + 1
  | .slice elems spare => uptoBulkAll elems + uptoBulkAll spare + 1
  | .agg parts => uptoBulkAll parts + 1
  | .iface _ d => uptoBulk d + 1
  | .map entries => uptoBulkEntries entries + 1
  | .held _ => 1
def uptoBulkAll {H : Type} : List (DataW H) → Nat
  | [] => 0
  | d :: r => uptoBulk d + uptoBulkAll r
def uptoBulkEntries {H : Type} : List (Lit × DataW H) → Nat
  | [] => 0
  | x :: r => uptoBulkEntry x + uptoBulkEntries r
def uptoBulkEntry {H : Type} : Lit × DataW H → Nat
  | (.string bytes, d) => bytes.length + uptoBulk d + 1
  | (_, d) => uptoBulk d + 1
 end
def uptoSmall : (H : Type) → List (DataW H) → Bool := fun _ ds => decide (uptoBulkAll ds ≤ 1048576)
def OpenSpec.upto (s : _root_.Go.ChangeSpec) : _root_.Go.OpenSpec := { _root_.Go.OpenSpec.ofChange s with cond := some uptoSmall }

/-- 'typeballlaw08.MoldShapes', WHERE WHAT IT READS IS OF BULK AT MOST 1048576: true; the input reads as it did. -/
def moldShapesUptoRow : OpenClaim := { program := "ytkljpofljkgkdaagreatdoor", sum := "8398e14963c502b721ab88d0e15f049e2ad14e1ccd9940082bc42f1c1455d5b1", func := "typeball/typeballlaw08.MoldShapes", spec := "moldShapes", inPlace := ["internal/bytealg.IndexByteString", "internal/bytealg.IndexString"], unfollowed := true, recurses := true, named := ["math/bits.overflowError", "unicode/utf8.first", "unicode/utf8.acceptRanges", "internal/bytealg.MaxLen"], apart := false, laid := [("unicode/utf8.acceptRanges", laid_unicode_utf8_acceptRanges), ("unicode/utf8.first", laid_unicode_utf8_first)], narrowed := true }
def MoldShapesUptoSaid : Prop := moldShapesUptoRow.holds Tryz.pinned (OpenSpec.upto moldShapesSpec)

/-- 'typeballlaw08.MoldTurns', WHERE WHAT IT READS IS OF BULK AT MOST 1048576: true; the input reads as it did. -/
def moldTurnsUptoRow : OpenClaim := { program := "ytkljpofljkgkdaagreatdoor", sum := "8398e14963c502b721ab88d0e15f049e2ad14e1ccd9940082bc42f1c1455d5b1", func := "typeball/typeballlaw08.MoldTurns", spec := "moldTurns", inPlace := ["internal/bytealg.IndexByteString", "internal/bytealg.IndexString"], unfollowed := true, recurses := true, named := ["math/bits.overflowError", "unicode/utf8.first", "unicode/utf8.acceptRanges", "internal/bytealg.MaxLen"], apart := false, laid := [("unicode/utf8.acceptRanges", laid_unicode_utf8_acceptRanges), ("unicode/utf8.first", laid_unicode_utf8_first)], narrowed := true }
def MoldTurnsUptoSaid : Prop := moldTurnsUptoRow.holds Tryz.pinned (OpenSpec.upto moldTurnsSpec)

/-- 'typeballlaw08.MoldAxes', WHERE WHAT IT READS IS OF BULK AT MOST 1048576: true; the input reads as it did. -/
def moldAxesUptoRow : OpenClaim := { program := "ytkljpofljkgkdaagreatdoor", sum := "8398e14963c502b721ab88d0e15f049e2ad14e1ccd9940082bc42f1c1455d5b1", func := "typeball/typeballlaw08.MoldAxes", spec := "moldAxes", inPlace := ["internal/bytealg.IndexByteString", "internal/bytealg.IndexString"], unfollowed := true, recurses := true, named := ["math/bits.overflowError", "unicode/utf8.first", "unicode/utf8.acceptRanges", "internal/bytealg.MaxLen"], apart := false, laid := [("unicode/utf8.acceptRanges", laid_unicode_utf8_acceptRanges), ("unicode/utf8.first", laid_unicode_utf8_first)], narrowed := true }
def MoldAxesUptoSaid : Prop := moldAxesUptoRow.holds Tryz.pinned (OpenSpec.upto moldAxesSpec)

/-- 'typeballlaw08.MoldBack', WHERE WHAT IT READS IS OF BULK AT MOST 1048576: true; the input reads as it did. -/
def moldBackUptoRow : OpenClaim := { program := "ytkljpofljkgkdaagreatdoor", sum := "8398e14963c502b721ab88d0e15f049e2ad14e1ccd9940082bc42f1c1455d5b1", func := "typeball/typeballlaw08.MoldBack", spec := "moldBack", inPlace := ["internal/bytealg.IndexByteString", "internal/bytealg.IndexString"], unfollowed := true, recurses := true, named := ["math/bits.overflowError", "unicode/utf8.first", "unicode/utf8.acceptRanges", "internal/bytealg.MaxLen"], apart := false, laid := [("unicode/utf8.acceptRanges", laid_unicode_utf8_acceptRanges), ("unicode/utf8.first", laid_unicode_utf8_first)], narrowed := true }
def MoldBackUptoSaid : Prop := moldBackUptoRow.holds Tryz.pinned (OpenSpec.upto moldBackSpec)

/-- 'typeballlaw08.MoldRavel', WHERE WHAT IT READS IS OF BULK AT MOST 1048576: true; the input reads as it did. -/
def moldRavelUptoRow : OpenClaim := { program := "ytkljpofljkgkdaagreatdoor", sum := "8398e14963c502b721ab88d0e15f049e2ad14e1ccd9940082bc42f1c1455d5b1", func := "typeball/typeballlaw08.MoldRavel", spec := "moldRavel", inPlace := ["internal/bytealg.IndexByteString", "internal/bytealg.IndexString"], unfollowed := true, recurses := true, named := ["math/bits.overflowError", "unicode/utf8.first", "unicode/utf8.acceptRanges", "internal/bytealg.MaxLen"], apart := false, laid := [("unicode/utf8.acceptRanges", laid_unicode_utf8_acceptRanges), ("unicode/utf8.first", laid_unicode_utf8_first)], narrowed := true }
def MoldRavelUptoSaid : Prop := moldRavelUptoRow.holds Tryz.pinned (OpenSpec.upto moldRavelSpec)

end Rows
end Go.Proofs.YtkljpofljkgkdaaGreatDoor
