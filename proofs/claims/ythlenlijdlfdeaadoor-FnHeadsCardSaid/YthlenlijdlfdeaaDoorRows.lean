/-
  NARROWER THAN 'FOR EVERY INPUT', by the rows' own cells (each row's printed sentence says how): FnHeads: laid · FnExactHeadersFault: laid · FnExactPackHeaders: laid · FnExactReadHeaders: laid · FnExactJoinHeader: laid · FnExactSetHeader: laid · FnExactDropHeader: laid.
  DERIVED. THE GIVEN ROWS OF THIS SEAT. 7 by the template 'for every input the law returns true; each argument reads behind the call as it read before'; 0 by the template 'total and deterministic' (their statements: YthlenlijdlfdeaaDoorTotals.lean).
  GIVEN WITH THE SEED: the statements are not yours to turn. If you find one false, say at which input.
  Laid BY PROGRAM, IN A SANDBOX (cutbox-rows.mjs): the forced cells as the released guide's own fill.sh prints them over the translation 49ac600ac70d038e… (all of the seat's roots in one cut). By AI agents, Wed Nov 11 2026. No macro, syntax, notation, axiom, sorry.
-/
import Derived.Test.YthlenlijdlfdeaaDoorChecked
import GoSem.PinnedTables
import GoSem.Claim
import GoSem.ClaimJoined
import GoSem.ClaimMapViews
import Derived.JoinedTies
import Derived.KernelRfl
namespace Go.Proofs.YthlenlijdlfdeaaDoor
/- THE CELL 'sum', in the pinned program and in every row, IS THE sha256 OF THE DUMP (.gsa) THAT YthlenlijdlfdeaaDoorProg.lean LOADS. Nothing in Lean hashes anything: it is a label: what it is worth is what the hold of that sum in a sandbox is worth. -/
noncomputable def Tryd.pinned : Pinned := { name := "ythlenlijdlfdeaadoor", sum := "49ac600ac70d038e6492938caed1179cf8c94a9e27350c44ef715aa4d5c7e991", checked := Tryd.checked }
namespace Rows
def none {H : Type} : Left H := { results := [], args := [] }

/- WHAT THE LISTED PACKAGE-LEVEL VARIABLES READ AS WHEN THE CALL BEGINS. Each datum BY PROGRAM (the guide's laid-datum.mjs) off the statement by which the dump's own 'gosem.cut.vars' lays the variable. In a bare row this is a premise. The card (YthlenlijdlfdeaaDoorCards.lean) ties it to the program's text. -/
def laid_unicode_utf8_acceptRanges {H : Type} : DataW H := .agg [.agg [.lit (.int .u8 128), .lit (.int .u8 191)], .agg [.lit (.int .u8 160), .lit (.int .u8 191)], .agg [.lit (.int .u8 128), .lit (.int .u8 159)], .agg [.lit (.int .u8 144), .lit (.int .u8 191)], .agg [.lit (.int .u8 128), .lit (.int .u8 143)], .agg [.lit (.int .u8 0), .lit (.int .u8 0)], .agg [.lit (.int .u8 0), .lit (.int .u8 0)], .agg [.lit (.int .u8 0), .lit (.int .u8 0)], .agg [.lit (.int .u8 0), .lit (.int .u8 0)], .agg [.lit (.int .u8 0), .lit (.int .u8 0)], .agg [.lit (.int .u8 0), .lit (.int .u8 0)], .agg [.lit (.int .u8 0), .lit (.int .u8 0)], .agg [.lit (.int .u8 0), .lit (.int .u8 0)], .agg [.lit (.int .u8 0), .lit (.int .u8 0)], .agg [.lit (.int .u8 0), .lit (.int .u8 0)], .agg [.lit (.int .u8 0), .lit (.int .u8 0)]]
def laid_loop_example_g00665_impl_wordBytes {H : Type} : DataW H := .agg [.lit (.bool false), .lit (.bool false), .lit (.bool false), .lit (.bool false), .lit (.bool false), .lit (.bool false), .lit (.bool false), .lit (.bool false), .lit (.bool false), .lit (.bool false), .lit (.bool false), .lit (.bool false), .lit (.bool false), .lit (.bool false), .lit (.bool false), .lit (.bool false), .lit (.bool false), .lit (.bool false), .lit (.bool false), .lit (.bool false), .lit (.bool false), .lit (.bool false), .lit (.bool false), .lit (.bool false), .lit (.bool false), .lit (.bool false), .lit (.bool false), .lit (.bool false), .lit (.bool false), .lit (.bool false), .lit (.bool false), .lit (.bool false), .lit (.bool false), .lit (.bool true), .lit (.bool false), .lit (.bool true), .lit (.bool true), .lit (.bool true), .lit (.bool true), .lit (.bool true), .lit (.bool false), .lit (.bool false), .lit (.bool true), .lit (.bool true), .lit (.bool false), .lit (.bool true), .lit (.bool true), .lit (.bool false), .lit (.bool true), .lit (.bool true), .lit (.bool true), .lit (.bool true), .lit (.bool true), .lit (.bool true), .lit (.bool true), .lit (.bool true), .lit (.bool true), .lit (.bool true), .lit (.bool false), .lit (.bool false), .lit (.bool false), .lit (.bool false), .lit (.bool false), .lit (.bool false), .lit (.bool false), .lit (.bool true), .lit (.bool true), .lit (.bool true), .lit (.bool true), .lit (.bool true), .lit (.bool true), .lit (.bool true), .lit (.bool true), .lit (.bool true), .lit (.bool true), .lit (.bool true), .lit (.bool true), .lit (.bool true), .lit (.bool true), .lit (.bool true), .lit (.bool true), .lit (.bool true), .lit (.bool true), .lit (.bool true), .lit (.bool true), .lit (.bool true), .lit (.bool true), .lit (.bool true), .lit (.bool true), .lit (.bool true), .lit (.bool true), .lit (.bool false), .lit (.bool false), .lit (.bool false), .lit (.bool true), .lit (.bool true), .lit (.bool false), .lit (.bool true), .lit (.bool true), .lit (.bool true), .lit (.bool true), .lit (.bool true), .lit (.bool true), .lit (.bool true), .lit (.bool true), .lit (.bool true), .lit (.bool true), .lit (.bool true), .lit (.bool true), .lit (.bool true), .lit (.bool true), .lit (.bool true), .lit (.bool true), .lit (.bool true), .lit (.bool true), .lit (.bool true), .lit (.bool true), .lit (.bool true), .lit (.bool true), .lit (.bool true), .lit (.bool true), .lit (.bool true), .lit (.bool true), .lit (.bool false), .lit (.bool true), .lit (.bool false), .lit (.bool true), .lit (.bool false)]
/-- One of Go's own tables, pinned by name: the form's constant. -/
def laid_unicode_utf8_first : DataW Unit := Go.Pinned.utf8First

/-- 'laws.FnHeads': WHATEVER THE INPUT: true; the input reads as it did. -/
def fnHeadsSpec : ChangeSpec := { name := "fnHeads", vars := ["loop.example/g00665/impl.wordBytes"], fn := fun _ => fun
  | [d, g1] => { results := [.lit (.bool true)], args := [d], vars := [g1] }
  | _ => none }
def fnHeadsRow : OpenClaim := { program := "ythlenlijdlfdeaadoor", sum := "49ac600ac70d038e6492938caed1179cf8c94a9e27350c44ef715aa4d5c7e991", func := "loop.example/g00665/laws.FnHeads", spec := "fnHeads", inPlace := ["internal/bytealg.IndexByteString", "internal/bytealg.IndexString", "slices.overlaps[loop.example/g00665/impl.Header]", "internal/abi.NoEscape", "internal/bytealg.MakeNoZero"], named := ["loop.example/g00665/impl.wordBytes", "unicode/utf8.first", "unicode/utf8.acceptRanges", "internal/bytealg.MaxLen"], apart := false, laid := [("unicode/utf8.acceptRanges", laid_unicode_utf8_acceptRanges), ("loop.example/g00665/impl.wordBytes", laid_loop_example_g00665_impl_wordBytes), ("unicode/utf8.first", laid_unicode_utf8_first)] }
def FnHeadsSaid : Prop := fnHeadsRow.holds Tryd.pinned (OpenSpec.ofChange fnHeadsSpec)

/-- ITS FALSE NEIGHBOUR: 'it returns false'. Refute it at one input. -/
def fnHeadsWrong : ChangeSpec := { name := "fnHeads", vars := ["loop.example/g00665/impl.wordBytes"], fn := fun _ => fun
  | [d, g1] => { results := [.lit (.bool false)], args := [d], vars := [g1] }
  | _ => none }
def FnHeadsWrongFalsely : Prop := fnHeadsRow.holds Tryd.pinned (OpenSpec.ofChange fnHeadsWrong)

/-- 'laws.FnExactHeadersFault': WHATEVER THE INPUT: true; the input reads as it did. -/
def fnExactHeadersFaultSpec : ChangeSpec := { name := "fnExactHeadersFault", vars := ["loop.example/g00665/impl.wordBytes"], fn := fun _ => fun
  | [d, g1] => { results := [.lit (.bool true)], args := [d], vars := [g1] }
  | _ => none }
def fnExactHeadersFaultRow : OpenClaim := { program := "ythlenlijdlfdeaadoor", sum := "49ac600ac70d038e6492938caed1179cf8c94a9e27350c44ef715aa4d5c7e991", func := "loop.example/g00665/laws.FnExactHeadersFault", spec := "fnExactHeadersFault", inPlace := ["internal/bytealg.IndexByteString", "internal/bytealg.IndexString"], named := ["loop.example/g00665/impl.wordBytes", "unicode/utf8.first", "unicode/utf8.acceptRanges", "internal/bytealg.MaxLen"], apart := false, laid := [("unicode/utf8.acceptRanges", laid_unicode_utf8_acceptRanges), ("loop.example/g00665/impl.wordBytes", laid_loop_example_g00665_impl_wordBytes), ("unicode/utf8.first", laid_unicode_utf8_first)] }
def FnExactHeadersFaultSaid : Prop := fnExactHeadersFaultRow.holds Tryd.pinned (OpenSpec.ofChange fnExactHeadersFaultSpec)

/-- ITS FALSE NEIGHBOUR: 'it returns false'. Refute it at one input. -/
def fnExactHeadersFaultWrong : ChangeSpec := { name := "fnExactHeadersFault", vars := ["loop.example/g00665/impl.wordBytes"], fn := fun _ => fun
  | [d, g1] => { results := [.lit (.bool false)], args := [d], vars := [g1] }
  | _ => none }
def FnExactHeadersFaultWrongFalsely : Prop := fnExactHeadersFaultRow.holds Tryd.pinned (OpenSpec.ofChange fnExactHeadersFaultWrong)

/-- 'laws.FnExactPackHeaders': WHATEVER THE INPUT: true; the input reads as it did. -/
def fnExactPackHeadersSpec : ChangeSpec := { name := "fnExactPackHeaders", vars := ["loop.example/g00665/impl.wordBytes"], fn := fun _ => fun
  | [d, g1] => { results := [.lit (.bool true)], args := [d], vars := [g1] }
  | _ => none }
def fnExactPackHeadersRow : OpenClaim := { program := "ythlenlijdlfdeaadoor", sum := "49ac600ac70d038e6492938caed1179cf8c94a9e27350c44ef715aa4d5c7e991", func := "loop.example/g00665/laws.FnExactPackHeaders", spec := "fnExactPackHeaders", inPlace := ["internal/bytealg.IndexByteString", "internal/bytealg.IndexString"], named := ["loop.example/g00665/impl.wordBytes", "unicode/utf8.first", "unicode/utf8.acceptRanges", "internal/bytealg.MaxLen"], apart := false, laid := [("unicode/utf8.acceptRanges", laid_unicode_utf8_acceptRanges), ("loop.example/g00665/impl.wordBytes", laid_loop_example_g00665_impl_wordBytes), ("unicode/utf8.first", laid_unicode_utf8_first)] }
def FnExactPackHeadersSaid : Prop := fnExactPackHeadersRow.holds Tryd.pinned (OpenSpec.ofChange fnExactPackHeadersSpec)

/-- ITS FALSE NEIGHBOUR: 'it returns false'. Refute it at one input. -/
def fnExactPackHeadersWrong : ChangeSpec := { name := "fnExactPackHeaders", vars := ["loop.example/g00665/impl.wordBytes"], fn := fun _ => fun
  | [d, g1] => { results := [.lit (.bool false)], args := [d], vars := [g1] }
  | _ => none }
def FnExactPackHeadersWrongFalsely : Prop := fnExactPackHeadersRow.holds Tryd.pinned (OpenSpec.ofChange fnExactPackHeadersWrong)

/-- 'laws.FnExactReadHeaders': WHATEVER THE INPUT: true; the input reads as it did. -/
def fnExactReadHeadersSpec : ChangeSpec := { name := "fnExactReadHeaders", vars := ["loop.example/g00665/impl.wordBytes"], fn := fun _ => fun
  | [d, g1] => { results := [.lit (.bool true)], args := [d], vars := [g1] }
  | _ => none }
def fnExactReadHeadersRow : OpenClaim := { program := "ythlenlijdlfdeaadoor", sum := "49ac600ac70d038e6492938caed1179cf8c94a9e27350c44ef715aa4d5c7e991", func := "loop.example/g00665/laws.FnExactReadHeaders", spec := "fnExactReadHeaders", inPlace := ["internal/bytealg.IndexByteString", "internal/bytealg.IndexString"], named := ["internal/bytealg.MaxLen", "unicode/utf8.first", "unicode/utf8.acceptRanges", "loop.example/g00665/impl.wordBytes"], apart := false, laid := [("unicode/utf8.acceptRanges", laid_unicode_utf8_acceptRanges), ("loop.example/g00665/impl.wordBytes", laid_loop_example_g00665_impl_wordBytes), ("unicode/utf8.first", laid_unicode_utf8_first)] }
def FnExactReadHeadersSaid : Prop := fnExactReadHeadersRow.holds Tryd.pinned (OpenSpec.ofChange fnExactReadHeadersSpec)

/-- ITS FALSE NEIGHBOUR: 'it returns false'. Refute it at one input. -/
def fnExactReadHeadersWrong : ChangeSpec := { name := "fnExactReadHeaders", vars := ["loop.example/g00665/impl.wordBytes"], fn := fun _ => fun
  | [d, g1] => { results := [.lit (.bool false)], args := [d], vars := [g1] }
  | _ => none }
def FnExactReadHeadersWrongFalsely : Prop := fnExactReadHeadersRow.holds Tryd.pinned (OpenSpec.ofChange fnExactReadHeadersWrong)

/-- 'laws.FnExactJoinHeader': WHATEVER THE INPUT: true; the input reads as it did. -/
def fnExactJoinHeaderSpec : ChangeSpec := { name := "fnExactJoinHeader", vars := ["loop.example/g00665/impl.wordBytes"], fn := fun _ => fun
  | [d1, d2, g1] => { results := [.lit (.bool true)], args := [d1, d2], vars := [g1] }
  | _ => none }
def fnExactJoinHeaderRow : OpenClaim := { program := "ythlenlijdlfdeaadoor", sum := "49ac600ac70d038e6492938caed1179cf8c94a9e27350c44ef715aa4d5c7e991", func := "loop.example/g00665/laws.FnExactJoinHeader", spec := "fnExactJoinHeader", inPlace := ["internal/bytealg.IndexByteString", "internal/bytealg.IndexString", "internal/abi.NoEscape", "internal/bytealg.MakeNoZero"], named := ["loop.example/g00665/impl.wordBytes", "unicode/utf8.first", "unicode/utf8.acceptRanges", "internal/bytealg.MaxLen"], apart := false, laid := [("unicode/utf8.acceptRanges", laid_unicode_utf8_acceptRanges), ("loop.example/g00665/impl.wordBytes", laid_loop_example_g00665_impl_wordBytes), ("unicode/utf8.first", laid_unicode_utf8_first)] }
def FnExactJoinHeaderSaid : Prop := fnExactJoinHeaderRow.holds Tryd.pinned (OpenSpec.ofChange fnExactJoinHeaderSpec)

/-- ITS FALSE NEIGHBOUR: 'it returns false'. Refute it at one input. -/
def fnExactJoinHeaderWrong : ChangeSpec := { name := "fnExactJoinHeader", vars := ["loop.example/g00665/impl.wordBytes"], fn := fun _ => fun
  | [d1, d2, g1] => { results := [.lit (.bool false)], args := [d1, d2], vars := [g1] }
  | _ => none }
def FnExactJoinHeaderWrongFalsely : Prop := fnExactJoinHeaderRow.holds Tryd.pinned (OpenSpec.ofChange fnExactJoinHeaderWrong)

/-- 'laws.FnExactSetHeader': WHATEVER THE INPUT: true; the input reads as it did. -/
def fnExactSetHeaderSpec : ChangeSpec := { name := "fnExactSetHeader", vars := ["loop.example/g00665/impl.wordBytes"], fn := fun _ => fun
  | [d1, d2, d3, g1] => { results := [.lit (.bool true)], args := [d1, d2, d3], vars := [g1] }
  | _ => none }
def fnExactSetHeaderRow : OpenClaim := { program := "ythlenlijdlfdeaadoor", sum := "49ac600ac70d038e6492938caed1179cf8c94a9e27350c44ef715aa4d5c7e991", func := "loop.example/g00665/laws.FnExactSetHeader", spec := "fnExactSetHeader", inPlace := ["internal/bytealg.IndexByteString", "internal/bytealg.IndexString", "slices.overlaps[loop.example/g00665/impl.Header]"], named := ["loop.example/g00665/impl.wordBytes", "unicode/utf8.first", "unicode/utf8.acceptRanges", "internal/bytealg.MaxLen"], apart := false, laid := [("unicode/utf8.acceptRanges", laid_unicode_utf8_acceptRanges), ("loop.example/g00665/impl.wordBytes", laid_loop_example_g00665_impl_wordBytes), ("unicode/utf8.first", laid_unicode_utf8_first)] }
def FnExactSetHeaderSaid : Prop := fnExactSetHeaderRow.holds Tryd.pinned (OpenSpec.ofChange fnExactSetHeaderSpec)

/-- ITS FALSE NEIGHBOUR: 'it returns false'. Refute it at one input. -/
def fnExactSetHeaderWrong : ChangeSpec := { name := "fnExactSetHeader", vars := ["loop.example/g00665/impl.wordBytes"], fn := fun _ => fun
  | [d1, d2, d3, g1] => { results := [.lit (.bool false)], args := [d1, d2, d3], vars := [g1] }
  | _ => none }
def FnExactSetHeaderWrongFalsely : Prop := fnExactSetHeaderRow.holds Tryd.pinned (OpenSpec.ofChange fnExactSetHeaderWrong)

/-- 'laws.FnExactDropHeader': WHATEVER THE INPUT: true; the input reads as it did. -/
def fnExactDropHeaderSpec : ChangeSpec := { name := "fnExactDropHeader", vars := ["loop.example/g00665/impl.wordBytes"], fn := fun _ => fun
  | [d1, d2, g1] => { results := [.lit (.bool true)], args := [d1, d2], vars := [g1] }
  | _ => none }
def fnExactDropHeaderRow : OpenClaim := { program := "ythlenlijdlfdeaadoor", sum := "49ac600ac70d038e6492938caed1179cf8c94a9e27350c44ef715aa4d5c7e991", func := "loop.example/g00665/laws.FnExactDropHeader", spec := "fnExactDropHeader", inPlace := ["internal/bytealg.IndexByteString", "internal/bytealg.IndexString"], named := ["loop.example/g00665/impl.wordBytes", "unicode/utf8.first", "unicode/utf8.acceptRanges", "internal/bytealg.MaxLen"], apart := false, laid := [("unicode/utf8.acceptRanges", laid_unicode_utf8_acceptRanges), ("loop.example/g00665/impl.wordBytes", laid_loop_example_g00665_impl_wordBytes), ("unicode/utf8.first", laid_unicode_utf8_first)] }
def FnExactDropHeaderSaid : Prop := fnExactDropHeaderRow.holds Tryd.pinned (OpenSpec.ofChange fnExactDropHeaderSpec)

/-- ITS FALSE NEIGHBOUR: 'it returns false'. Refute it at one input. -/
def fnExactDropHeaderWrong : ChangeSpec := { name := "fnExactDropHeader", vars := ["loop.example/g00665/impl.wordBytes"], fn := fun _ => fun
  | [d1, d2, g1] => { results := [.lit (.bool false)], args := [d1, d2], vars := [g1] }
  | _ => none }
def FnExactDropHeaderWrongFalsely : Prop := fnExactDropHeaderRow.holds Tryd.pinned (OpenSpec.ofChange fnExactDropHeaderWrong)

/- THE SECOND FORM. 'bulk': how many values and letters a reading holds, each counted each time it is reached (what is shared counts as often as it is met; a slice's spare places count too). A statement '..UptoSaid' is the law's where the arguments, and the package variables that the reading takes, are together of bulk at most 1048576: NARROWER than '..Said'. Prove '..Said' where nothing that the law and all that it calls make is longer than what came in: it says more and counts as full. Else prove '..UptoSaid'. A law counts once. -/
mutual
def uptoBulk {H : Type} : DataW H → Nat
  | .lit (.string bytes) => bytes.length + 1
  | .lit _ => 1
  | .nil => 1
  | .ptr d => uptoBulk d + 1
  | .slice elems spare => uptoBulkAll elems + uptoBulkAll spare + 1
  | .agg parts => uptoBulkAll parts + 1
  | .iface _ d => uptoBulk d + 1
  | .map entries => uptoBulkEntries entries + 1
  | .held _ => 1
def uptoBulkAll {H : Type} : List (DataW H) → Nat
  | [] => 0
  | d :: r => uptoBulk d + uptoBulkAll r
def uptoBulkEntries {H : Type} : List (Lit × DataW H) → Nat
  | [] => 0
  | x :: r => uptoBulkEntry x + uptoBulkEntries r
def uptoBulkEntry {H : Type} : Lit × DataW H → Nat
  | (.string bytes, d) => bytes.length + uptoBulk d + 1
  | (_, d) => uptoBulk d + 1
 end
def uptoSmall : (H : Type) → List (DataW H) → Bool := fun _ ds => decide (uptoBulkAll ds ≤ 1048576)
def OpenSpec.upto (s : _root_.Go.ChangeSpec) : _root_.Go.OpenSpec := { _root_.Go.OpenSpec.ofChange s with cond := some uptoSmall }

/-- 'laws.FnHeads', WHERE WHAT IT READS IS OF BULK AT MOST 1048576: true; the input reads as it did. -/
def fnHeadsUptoRow : OpenClaim := { program := "ythlenlijdlfdeaadoor", sum := "49ac600ac70d038e6492938caed1179cf8c94a9e27350c44ef715aa4d5c7e991", func := "loop.example/g00665/laws.FnHeads", spec := "fnHeads", inPlace := ["internal/bytealg.IndexByteString", "internal/bytealg.IndexString", "slices.overlaps[loop.example/g00665/impl.Header]", "internal/abi.NoEscape", "internal/bytealg.MakeNoZero"], named := ["loop.example/g00665/impl.wordBytes", "unicode/utf8.first", "unicode/utf8.acceptRanges", "internal/bytealg.MaxLen"], apart := false, laid := [("unicode/utf8.acceptRanges", laid_unicode_utf8_acceptRanges), ("loop.example/g00665/impl.wordBytes", laid_loop_example_g00665_impl_wordBytes), ("unicode/utf8.first", laid_unicode_utf8_first)], narrowed := true }
def FnHeadsUptoSaid : Prop := fnHeadsUptoRow.holds Tryd.pinned (OpenSpec.upto fnHeadsSpec)

/-- 'laws.FnExactHeadersFault', WHERE WHAT IT READS IS OF BULK AT MOST 1048576: true; the input reads as it did. -/
def fnExactHeadersFaultUptoRow : OpenClaim := { program := "ythlenlijdlfdeaadoor", sum := "49ac600ac70d038e6492938caed1179cf8c94a9e27350c44ef715aa4d5c7e991", func := "loop.example/g00665/laws.FnExactHeadersFault", spec := "fnExactHeadersFault", inPlace := ["internal/bytealg.IndexByteString", "internal/bytealg.IndexString"], named := ["loop.example/g00665/impl.wordBytes", "unicode/utf8.first", "unicode/utf8.acceptRanges", "internal/bytealg.MaxLen"], apart := false, laid := [("unicode/utf8.acceptRanges", laid_unicode_utf8_acceptRanges), ("loop.example/g00665/impl.wordBytes", laid_loop_example_g00665_impl_wordBytes), ("unicode/utf8.first", laid_unicode_utf8_first)], narrowed := true }
def FnExactHeadersFaultUptoSaid : Prop := fnExactHeadersFaultUptoRow.holds Tryd.pinned (OpenSpec.upto fnExactHeadersFaultSpec)

/-- 'laws.FnExactPackHeaders', WHERE WHAT IT READS IS OF BULK AT MOST 1048576: true; the input reads as it did. -/
def fnExactPackHeadersUptoRow : OpenClaim := { program := "ythlenlijdlfdeaadoor", sum := "49ac600ac70d038e6492938caed1179cf8c94a9e27350c44ef715aa4d5c7e991", func := "loop.example/g00665/laws.FnExactPackHeaders", spec := "fnExactPackHeaders", inPlace := ["internal/bytealg.IndexByteString", "internal/bytealg.IndexString"], named := ["loop.example/g00665/impl.wordBytes", "unicode/utf8.first", "unicode/utf8.acceptRanges", "internal/bytealg.MaxLen"], apart := false, laid := [("unicode/utf8.acceptRanges", laid_unicode_utf8_acceptRanges), ("loop.example/g00665/impl.wordBytes", laid_loop_example_g00665_impl_wordBytes), ("unicode/utf8.first", laid_unicode_utf8_first)], narrowed := true }
def FnExactPackHeadersUptoSaid : Prop := fnExactPackHeadersUptoRow.holds Tryd.pinned (OpenSpec.upto fnExactPackHeadersSpec)

/-- 'laws.FnExactReadHeaders', WHERE WHAT IT READS IS OF BULK AT MOST 1048576: true; the input reads as it did. -/
def fnExactReadHeadersUptoRow : OpenClaim := { program := "ythlenlijdlfdeaadoor", sum := "49ac600ac70d038e6492938caed1179cf8c94a9e27350c44ef715aa4d5c7e991", func := "loop.example/g00665/laws.FnExactReadHeaders", spec := "fnExactReadHeaders", inPlace := ["internal/bytealg.IndexByteString", "internal/bytealg.IndexString"], named := ["internal/bytealg.MaxLen", "unicode/utf8.first", "unicode/utf8.acceptRanges", "loop.example/g00665/impl.wordBytes"], apart := false, laid := [("unicode/utf8.acceptRanges", laid_unicode_utf8_acceptRanges), ("loop.example/g00665/impl.wordBytes", laid_loop_example_g00665_impl_wordBytes), ("unicode/utf8.first", laid_unicode_utf8_first)], narrowed := true }
def FnExactReadHeadersUptoSaid : Prop := fnExactReadHeadersUptoRow.holds Tryd.pinned (OpenSpec.upto fnExactReadHeadersSpec)

/-- 'laws.FnExactJoinHeader', WHERE WHAT IT READS IS OF BULK AT MOST 1048576: true; the input reads as it did. -/
def fnExactJoinHeaderUptoRow : OpenClaim := { program := "ythlenlijdlfdeaadoor", sum := "49ac600ac70d038e6492938caed1179cf8c94a9e27350c44ef715aa4d5c7e991", func := "loop.example/g00665/laws.FnExactJoinHeader", spec := "fnExactJoinHeader", inPlace := ["internal/bytealg.IndexByteString", "internal/bytealg.IndexString", "internal/abi.NoEscape", "internal/bytealg.MakeNoZero"], named := ["loop.example/g00665/impl.wordBytes", "unicode/utf8.first", "unicode/utf8.acceptRanges", "internal/bytealg.MaxLen"], apart := false, laid := [("unicode/utf8.acceptRanges", laid_unicode_utf8_acceptRanges), ("loop.example/g00665/impl.wordBytes", laid_loop_example_g00665_impl_wordBytes), ("unicode/utf8.first", laid_unicode_utf8_first)], narrowed := true }
def FnExactJoinHeaderUptoSaid : Prop := fnExactJoinHeaderUptoRow.holds Tryd.pinned (OpenSpec.upto fnExactJoinHeaderSpec)

/-- 'laws.FnExactSetHeader', WHERE WHAT IT READS IS OF BULK AT MOST 1048576: true; the input reads as it did. -/
def fnExactSetHeaderUptoRow : OpenClaim := { program := "ythlenlijdlfdeaadoor", sum := "49ac600ac70d038e6492938caed1179cf8c94a9e27350c44ef715aa4d5c7e991", func := "loop.example/g00665/laws.FnExactSetHeader", spec := "fnExactSetHeader", inPlace := ["internal/bytealg.IndexByteString", "internal/bytealg.IndexString", "slices.overlaps[loop.example/g00665/impl.Header]"], named := ["loop.example/g00665/impl.wordBytes", "unicode/utf8.first", "unicode/utf8.acceptRanges", "internal/bytealg.MaxLen"], apart := false, laid := [("unicode/utf8.acceptRanges", laid_unicode_utf8_acceptRanges), ("loop.example/g00665/impl.wordBytes", laid_loop_example_g00665_impl_wordBytes), ("unicode/utf8.first", laid_unicode_utf8_first)], narrowed := true }
def FnExactSetHeaderUptoSaid : Prop := fnExactSetHeaderUptoRow.holds Tryd.pinned (OpenSpec.upto fnExactSetHeaderSpec)

/-- 'laws.FnExactDropHeader', WHERE WHAT IT READS IS OF BULK AT MOST 1048576: true; the input reads as it did. -/
def fnExactDropHeaderUptoRow : OpenClaim := { program := "ythlenlijdlfdeaadoor", sum := "49ac600ac70d038e6492938caed1179cf8c94a9e27350c44ef715aa4d5c7e991", func := "loop.example/g00665/laws.FnExactDropHeader", spec := "fnExactDropHeader", inPlace := ["internal/bytealg.IndexByteString", "internal/bytealg.IndexString"], named := ["loop.example/g00665/impl.wordBytes", "unicode/utf8.first", "unicode/utf8.acceptRanges", "internal/bytealg.MaxLen"], apart := false, laid := [("unicode/utf8.acceptRanges", laid_unicode_utf8_acceptRanges), ("loop.example/g00665/impl.wordBytes", laid_loop_example_g00665_impl_wordBytes), ("unicode/utf8.first", laid_unicode_utf8_first)], narrowed := true }
def FnExactDropHeaderUptoSaid : Prop := fnExactDropHeaderUptoRow.holds Tryd.pinned (OpenSpec.upto fnExactDropHeaderSpec)

end Rows
end Go.Proofs.YthlenlijdlfdeaaDoor
