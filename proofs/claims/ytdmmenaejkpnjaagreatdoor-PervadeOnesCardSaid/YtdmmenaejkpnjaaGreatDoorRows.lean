/-
  NARROWER THAN 'FOR EVERY INPUT', by the rows' own cells (each row's printed sentence says how): IndexSets: laid · DyadTwos: laid · PervadeOnes: laid · PervadeTwos: laid · PervadeFits: laid.
  DERIVED. THE GIVEN ROWS OF THIS SEAT. 5 by the template 'for every input the law returns true; each argument reads behind the call as it read before'; 0 by the template 'total and deterministic' (their statements: YtdmmenaejkpnjaaGreatDoorTotals.lean).
  GIVEN WITH THE SEED: the statements are not yours to turn. If you find one false, say at which input.
  Laid BY PROGRAM, IN A SANDBOX (cutbox-rows.mjs): the forced cells as the released guide's own fill.sh prints them over the translation 2229381b58ccdce8… (all of the seat's roots in one cut). By AI agents, Wed Nov 11 2026. No macro, syntax, notation, axiom, sorry.
-/
import Derived.Test.YtdmmenaejkpnjaaGreatDoorChecked
import GoSem.PinnedTables
import GoSem.Claim
import GoSem.ClaimJoined
import GoSem.ClaimMapViews
import Derived.JoinedTies
import Derived.KernelRfl
namespace Go.Proofs.YtdmmenaejkpnjaaGreatDoor
/- THE CELL 'sum', in the pinned program and in every row, IS THE sha256 OF THE DUMP (.gsa) THAT YtdmmenaejkpnjaaGreatDoorProg.lean LOADS. Nothing in Lean hashes anything: it is a label: what it is worth is what the hold of that sum in a sandbox is worth. -/
noncomputable def Tryz.pinned : Pinned := { name := "ytdmmenaejkpnjaagreatdoor", sum := "2229381b58ccdce8ceea5aba5b438a06a452dacfe9164dfc11ef967caeabeea1", checked := Tryz.checked }
namespace Rows
def none {H : Type} : Left H := { results := [], args := [] }

/- WHAT THE LISTED PACKAGE-LEVEL VARIABLES READ AS WHEN THE CALL BEGINS. Each datum BY PROGRAM (the guide's laid-datum.mjs) off the statement by which the dump's own 'gosem.cut.vars' lays the variable. In a bare row this is a premise. The card (YtdmmenaejkpnjaaGreatDoorCards.lean) ties it to the program's text. -/
def laid_unicode_utf8_acceptRanges {H : Type} : DataW H := .agg [.agg [.lit (.int .u8 128), .lit (.int .u8 191)], .agg [.lit (.int .u8 160), .lit (.int .u8 191)], .agg [.lit (.int .u8 128), .lit (.int .u8 159)], .agg [.lit (.int .u8 144), .lit (.int .u8 191)], .agg [.lit (.int .u8 128), .lit (.int .u8 143)], .agg [.lit (.int .u8 0), .lit (.int .u8 0)], .agg [.lit (.int .u8 0), .lit (.int .u8 0)], .agg [.lit (.int .u8 0), .lit (.int .u8 0)], .agg [.lit (.int .u8 0), .lit (.int .u8 0)], .agg [.lit (.int .u8 0), .lit (.int .u8 0)], .agg [.lit (.int .u8 0), .lit (.int .u8 0)], .agg [.lit (.int .u8 0), .lit (.int .u8 0)], .agg [.lit (.int .u8 0), .lit (.int .u8 0)], .agg [.lit (.int .u8 0), .lit (.int .u8 0)], .agg [.lit (.int .u8 0), .lit (.int .u8 0)], .agg [.lit (.int .u8 0), .lit (.int .u8 0)]]
/-- One of Go's own tables, pinned by name: the form's constant. -/
def laid_unicode_utf8_first : DataW Unit := Go.Pinned.utf8First

/-- 'typeballlaw11.IndexSets': WHATEVER THE INPUT: true; the input reads as it did. -/
def indexSetsSpec : ChangeSpec := { name := "indexSets", fn := fun _ => fun
  | [d1, d2, d3] => { results := [.lit (.bool true)], args := [d1, d2, d3] }
  | _ => none }
def indexSetsRow : OpenClaim := { program := "ytdmmenaejkpnjaagreatdoor", sum := "2229381b58ccdce8ceea5aba5b438a06a452dacfe9164dfc11ef967caeabeea1", func := "typeball/typeballlaw11.IndexSets", spec := "indexSets", inPlace := ["internal/bytealg.IndexByteString", "internal/bytealg.IndexString"], named := ["math/bits.overflowError", "unicode/utf8.first", "unicode/utf8.acceptRanges", "internal/bytealg.MaxLen"], apart := false, laid := [("unicode/utf8.acceptRanges", laid_unicode_utf8_acceptRanges), ("unicode/utf8.first", laid_unicode_utf8_first)] }
def IndexSetsSaid : Prop := indexSetsRow.holds Tryz.pinned (OpenSpec.ofChange indexSetsSpec)

/-- ITS FALSE NEIGHBOUR: 'it returns false'. Refute it at one input. -/
def indexSetsWrong : ChangeSpec := { name := "indexSets", fn := fun _ => fun
  | [d1, d2, d3] => { results := [.lit (.bool false)], args := [d1, d2, d3] }
  | _ => none }
def IndexSetsWrongFalsely : Prop := indexSetsRow.holds Tryz.pinned (OpenSpec.ofChange indexSetsWrong)

/-- 'typeballlaw13.DyadTwos': WHATEVER THE INPUT: true; the input reads as it did. -/
def dyadTwosSpec : ChangeSpec := { name := "dyadTwos", fn := fun _ => fun
  | [d1, d2, d3, d4] => { results := [.lit (.bool true)], args := [d1, d2, d3, d4] }
  | _ => none }
def dyadTwosRow : OpenClaim := { program := "ytdmmenaejkpnjaagreatdoor", sum := "2229381b58ccdce8ceea5aba5b438a06a452dacfe9164dfc11ef967caeabeea1", func := "typeball/typeballlaw13.DyadTwos", spec := "dyadTwos", inPlace := ["internal/bytealg.IndexByteString", "internal/bytealg.IndexString"], named := ["math/bits.overflowError", "unicode/utf8.first", "unicode/utf8.acceptRanges", "internal/bytealg.MaxLen"], apart := false, laid := [("unicode/utf8.acceptRanges", laid_unicode_utf8_acceptRanges), ("unicode/utf8.first", laid_unicode_utf8_first)] }
def DyadTwosSaid : Prop := dyadTwosRow.holds Tryz.pinned (OpenSpec.ofChange dyadTwosSpec)

/-- ITS FALSE NEIGHBOUR: 'it returns false'. Refute it at one input. -/
def dyadTwosWrong : ChangeSpec := { name := "dyadTwos", fn := fun _ => fun
  | [d1, d2, d3, d4] => { results := [.lit (.bool false)], args := [d1, d2, d3, d4] }
  | _ => none }
def DyadTwosWrongFalsely : Prop := dyadTwosRow.holds Tryz.pinned (OpenSpec.ofChange dyadTwosWrong)

/-- 'typeballlaw14.PervadeOnes': WHATEVER THE INPUT: true; the input reads as it did. -/
def pervadeOnesSpec : ChangeSpec := { name := "pervadeOnes", fn := fun _ => fun
  | [d1, d2, d3] => { results := [.lit (.bool true)], args := [d1, d2, d3] }
  | _ => none }
def pervadeOnesRow : OpenClaim := { program := "ytdmmenaejkpnjaagreatdoor", sum := "2229381b58ccdce8ceea5aba5b438a06a452dacfe9164dfc11ef967caeabeea1", func := "typeball/typeballlaw14.PervadeOnes", spec := "pervadeOnes", inPlace := ["internal/bytealg.IndexByteString", "internal/bytealg.IndexString"], unfollowed := true, recurses := true, named := ["math/bits.overflowError", "unicode/utf8.first", "unicode/utf8.acceptRanges", "internal/bytealg.MaxLen"], apart := false, laid := [("unicode/utf8.acceptRanges", laid_unicode_utf8_acceptRanges), ("unicode/utf8.first", laid_unicode_utf8_first)] }
def PervadeOnesSaid : Prop := pervadeOnesRow.holds Tryz.pinned (OpenSpec.ofChange pervadeOnesSpec)

/-- ITS FALSE NEIGHBOUR: 'it returns false'. Refute it at one input. -/
def pervadeOnesWrong : ChangeSpec := { name := "pervadeOnes", fn := fun _ => fun
  | [d1, d2, d3] => { results := [.lit (.bool false)], args := [d1, d2, d3] }
  | _ => none }
def PervadeOnesWrongFalsely : Prop := pervadeOnesRow.holds Tryz.pinned (OpenSpec.ofChange pervadeOnesWrong)

/-- 'typeballlaw14.PervadeTwos': WHATEVER THE INPUT: true; the input reads as it did. -/
def pervadeTwosSpec : ChangeSpec := { name := "pervadeTwos", fn := fun _ => fun
  | [d1, d2, d3] => { results := [.lit (.bool true)], args := [d1, d2, d3] }
  | _ => none }
def pervadeTwosRow : OpenClaim := { program := "ytdmmenaejkpnjaagreatdoor", sum := "2229381b58ccdce8ceea5aba5b438a06a452dacfe9164dfc11ef967caeabeea1", func := "typeball/typeballlaw14.PervadeTwos", spec := "pervadeTwos", inPlace := ["internal/bytealg.IndexByteString", "internal/bytealg.IndexString"], unfollowed := true, recurses := true, named := ["math/bits.overflowError", "unicode/utf8.first", "unicode/utf8.acceptRanges", "internal/bytealg.MaxLen"], apart := false, laid := [("unicode/utf8.acceptRanges", laid_unicode_utf8_acceptRanges), ("unicode/utf8.first", laid_unicode_utf8_first)] }
def PervadeTwosSaid : Prop := pervadeTwosRow.holds Tryz.pinned (OpenSpec.ofChange pervadeTwosSpec)

/-- ITS FALSE NEIGHBOUR: 'it returns false'. Refute it at one input. -/
def pervadeTwosWrong : ChangeSpec := { name := "pervadeTwos", fn := fun _ => fun
  | [d1, d2, d3] => { results := [.lit (.bool false)], args := [d1, d2, d3] }
  | _ => none }
def PervadeTwosWrongFalsely : Prop := pervadeTwosRow.holds Tryz.pinned (OpenSpec.ofChange pervadeTwosWrong)

/-- 'typeballlaw14.PervadeFits': WHATEVER THE INPUT: true; the input reads as it did. -/
def pervadeFitsSpec : ChangeSpec := { name := "pervadeFits", fn := fun _ => fun
  | [d1, d2] => { results := [.lit (.bool true)], args := [d1, d2] }
  | _ => none }
def pervadeFitsRow : OpenClaim := { program := "ytdmmenaejkpnjaagreatdoor", sum := "2229381b58ccdce8ceea5aba5b438a06a452dacfe9164dfc11ef967caeabeea1", func := "typeball/typeballlaw14.PervadeFits", spec := "pervadeFits", inPlace := ["internal/bytealg.IndexByteString", "internal/bytealg.IndexString"], unfollowed := true, recurses := true, named := ["math/bits.overflowError", "unicode/utf8.first", "unicode/utf8.acceptRanges", "internal/bytealg.MaxLen"], apart := false, laid := [("unicode/utf8.acceptRanges", laid_unicode_utf8_acceptRanges), ("unicode/utf8.first", laid_unicode_utf8_first)] }
def PervadeFitsSaid : Prop := pervadeFitsRow.holds Tryz.pinned (OpenSpec.ofChange pervadeFitsSpec)

/-- ITS FALSE NEIGHBOUR: 'it returns false'. Refute it at one input. -/
def pervadeFitsWrong : ChangeSpec := { name := "pervadeFits", fn := fun _ => fun
  | [d1, d2] => { results := [.lit (.bool false)], args := [d1, d2] }
  | _ => none }
def PervadeFitsWrongFalsely : Prop := pervadeFitsRow.holds Tryz.pinned (OpenSpec.ofChange pervadeFitsWrong)

/- THE SECOND FORM. 'bulk': how many values and letters a reading holds, each counted each time it is reached (what is shared counts as often as it is met; a slice's spare places count too). A statement '..UptoSaid' is the law's where the arguments, and the package variables that the reading takes, are together of bulk at most 1048576: NARROWER than '..Said'. Prove '..Said' where nothing that the law and all that it calls make is longer than what came in: it says more and counts as full. Else prove '..UptoSaid'. A law counts once. -/
mutual
def uptoBulk {H : Type} : DataW H → Nat
  | .lit (.string bytes) => bytes.length + 1
  | .lit _ => 1
  | .nil => 1
  | .ptr d => uptoBulk d + 1
  | .slice elems spare => uptoBulkAll elems + uptoBulkAll spare + 1
  | .agg parts => uptoBulkAll parts + 1
  | .iface _ d => uptoBulk d + 1
  | .map entries => uptoBulkEntries entries + 1
  | .held _ => 1
def uptoBulkAll {H : Type} : List (DataW H) → Nat
  | [] => 0
  | d :: r => uptoBulk d + uptoBulkAll r
def uptoBulkEntries {H : Type} : List (Lit × DataW H) → Nat
  | [] => 0
  | x :: r => uptoBulkEntry x + uptoBulkEntries r
def uptoBulkEntry {H : Type} : Lit × DataW H → Nat
  | (.string bytes, d) => bytes.length + uptoBulk d + 1
  | (_, d) => uptoBulk d + 1
 end
def uptoSmall : (H : Type) → List (DataW H) → Bool := fun _ ds => decide (uptoBulkAll ds ≤ 1048576)
def OpenSpec.upto (s : _root_.Go.ChangeSpec) : _root_.Go.OpenSpec := { _root_.Go.OpenSpec.ofChange s with cond := some uptoSmall }

/-- 'typeballlaw11.IndexSets', WHERE WHAT IT READS IS OF BULK AT MOST 1048576: true; the input reads as it did. -/
def indexSetsUptoRow : OpenClaim := { program := "ytdmmenaejkpnjaagreatdoor", sum := "2229381b58ccdce8ceea5aba5b438a06a452dacfe9164dfc11ef967caeabeea1", func := "typeball/typeballlaw11.IndexSets", spec := "indexSets", inPlace := ["internal/bytealg.IndexByteString", "internal/bytealg.IndexString"], named := ["math/bits.overflowError", "unicode/utf8.first", "unicode/utf8.acceptRanges", "internal/bytealg.MaxLen"], apart := false, laid := [("unicode/utf8.acceptRanges", laid_unicode_utf8_acceptRanges), ("unicode/utf8.first", laid_unicode_utf8_first)], narrowed := true }
def IndexSetsUptoSaid : Prop := indexSetsUptoRow.holds Tryz.pinned (OpenSpec.upto indexSetsSpec)

/-- 'typeballlaw13.DyadTwos', WHERE WHAT IT READS IS OF BULK AT MOST 1048576: true; the input reads as it did. -/
def dyadTwosUptoRow : OpenClaim := { program := "ytdmmenaejkpnjaagreatdoor", sum := "2229381b58ccdce8ceea5aba5b438a06a452dacfe9164dfc11ef967caeabeea1", func := "typeball/typeballlaw13.DyadTwos", spec := "dyadTwos", inPlace := ["internal/bytealg.IndexByteString", "internal/bytealg.IndexString"], named := ["math/bits.overflowError", "unicode/utf8.first", "unicode/utf8.acceptRanges", "internal/bytealg.MaxLen"], apart := false, laid := [("unicode/utf8.acceptRanges", laid_unicode_utf8_acceptRanges), ("unicode/utf8.first", laid_unicode_utf8_first)], narrowed := true }
def DyadTwosUptoSaid : Prop := dyadTwosUptoRow.holds Tryz.pinned (OpenSpec.upto dyadTwosSpec)

/-- 'typeballlaw14.PervadeOnes', WHERE WHAT IT READS IS OF BULK AT MOST 1048576: true; the input reads as it did. -/
def pervadeOnesUptoRow : OpenClaim := { program := "ytdmmenaejkpnjaagreatdoor", sum := "2229381b58ccdce8ceea5aba5b438a06a452dacfe9164dfc11ef967caeabeea1", func := "typeball/typeballlaw14.PervadeOnes", spec := "pervadeOnes", inPlace := ["internal/bytealg.IndexByteString", "internal/bytealg.IndexString"], unfollowed := true, recurses := true, named := ["math/bits.overflowError", "unicode/utf8.first", "unicode/utf8.acceptRanges", "internal/bytealg.MaxLen"], apart := false, laid := [("unicode/utf8.acceptRanges", laid_unicode_utf8_acceptRanges), ("unicode/utf8.first", laid_unicode_utf8_first)], narrowed := true }
def PervadeOnesUptoSaid : Prop := pervadeOnesUptoRow.holds Tryz.pinned (OpenSpec.upto pervadeOnesSpec)

/-- 'typeballlaw14.PervadeTwos', WHERE WHAT IT READS IS OF BULK AT MOST 1048576: true; the input reads as it did. -/
def pervadeTwosUptoRow : OpenClaim := { program := "ytdmmenaejkpnjaagreatdoor", sum := "2229381b58ccdce8ceea5aba5b438a06a452dacfe9164dfc11ef967caeabeea1", func := "typeball/typeballlaw14.PervadeTwos", spec := "pervadeTwos", inPlace := ["internal/bytealg.IndexByteString", "internal/bytealg.IndexString"], unfollowed := true, recurses := true, named := ["math/bits.overflowError", "unicode/utf8.first", "unicode/utf8.acceptRanges", "internal/bytealg.MaxLen"], apart := false, laid := [("unicode/utf8.acceptRanges", laid_unicode_utf8_acceptRanges), ("unicode/utf8.first", laid_unicode_utf8_first)], narrowed := true }
def PervadeTwosUptoSaid : Prop := pervadeTwosUptoRow.holds Tryz.pinned (OpenSpec.upto pervadeTwosSpec)

/-- 'typeballlaw14.PervadeFits', WHERE WHAT IT READS IS OF BULK AT MOST 1048576: true; the input reads as it did. -/
def pervadeFitsUptoRow : OpenClaim := { program := "ytdmmenaejkpnjaagreatdoor", sum := "2229381b58ccdce8ceea5aba5b438a06a452dacfe9164dfc11ef967caeabeea1", func := "typeball/typeballlaw14.PervadeFits", spec := "pervadeFits", inPlace := ["internal/bytealg.IndexByteString", "internal/bytealg.IndexString"], unfollowed := true, recurses := true, named := ["math/bits.overflowError", "unicode/utf8.first", "unicode/utf8.acceptRanges", "internal/bytealg.MaxLen"], apart := false, laid := [("unicode/utf8.acceptRanges", laid_unicode_utf8_acceptRanges), ("unicode/utf8.first", laid_unicode_utf8_first)], narrowed := true }
def PervadeFitsUptoSaid : Prop := pervadeFitsUptoRow.holds Tryz.pinned (OpenSpec.upto pervadeFitsSpec)

end Rows
end Go.Proofs.YtdmmenaejkpnjaaGreatDoor
