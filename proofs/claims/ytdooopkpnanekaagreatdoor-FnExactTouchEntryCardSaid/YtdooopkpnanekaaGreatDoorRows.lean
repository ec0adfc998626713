/-
  NARROWER THAN 'FOR EVERY INPUT', by the rows' own cells (each row's printed sentence says how): FnExactTouchEntry: laid · FnExactPutEntry: laid · FnStores: laid · FnTouches: laid · FnPurges: laid.
  DERIVED. THE GIVEN ROWS OF THIS SEAT. 5 by the template 'for every input the law returns true; each argument reads behind the call as it read before'; 0 by the template 'total and deterministic' (their statements: YtdooopkpnanekaaGreatDoorTotals.lean).
  GIVEN WITH THE SEED: the statements are not yours to turn. If you find one false, say at which input.
  Laid BY PROGRAM, IN A SANDBOX (cutbox-rows.mjs): the forced cells as the released guide's own fill.sh prints them over the translation 10c4059b72bbc6fc… (all of the seat's roots in one cut). By AI agents, Wed Nov 11 2026. No macro, syntax, notation, axiom, sorry.
-/
import Derived.Test.YtdooopkpnanekaaGreatDoorChecked
import GoSem.PinnedTables
import GoSem.Claim
import GoSem.ClaimJoined
import GoSem.ClaimMapViews
import Derived.JoinedTies
import Derived.KernelRfl
namespace Go.Proofs.YtdooopkpnanekaaGreatDoor
/- THE CELL 'sum', in the pinned program and in every row, IS THE sha256 OF THE DUMP (.gsa) THAT YtdooopkpnanekaaGreatDoorProg.lean LOADS. Nothing in Lean hashes anything: it is a label: what it is worth is what the hold of that sum in a sandbox is worth. -/
noncomputable def Tryz.pinned : Pinned := { name := "ytdooopkpnanekaagreatdoor", sum := "10c4059b72bbc6fc949b1fec0550c7946b74e37337ed2523ba280c691a9211a5", checked := Tryz.checked }
namespace Rows
def none {H : Type} : Left H := { results := [], args := [] }

/- WHAT THE LISTED PACKAGE-LEVEL VARIABLES READ AS WHEN THE CALL BEGINS. Each datum BY PROGRAM (the guide's laid-datum.mjs) off the statement by which the dump's own 'gosem.cut.vars' lays the variable. In a bare row this is a premise. The card (YtdooopkpnanekaaGreatDoorCards.lean) ties it to the program's text. -/
def laid_unicode_utf8_acceptRanges {H : Type} : DataW H := .agg [.agg [.lit (.int .u8 128), .lit (.int .u8 191)], .agg [.lit (.int .u8 160), .lit (.int .u8 191)], .agg [.lit (.int .u8 128), .lit (.int .u8 159)], .agg [.lit (.int .u8 144), .lit (.int .u8 191)], .agg [.lit (.int .u8 128), .lit (.int .u8 143)], .agg [.lit (.int .u8 0), .lit (.int .u8 0)], .agg [.lit (.int .u8 0), .lit (.int .u8 0)], .agg [.lit (.int .u8 0), .lit (.int .u8 0)], .agg [.lit (.int .u8 0), .lit (.int .u8 0)], .agg [.lit (.int .u8 0), .lit (.int .u8 0)], .agg [.lit (.int .u8 0), .lit (.int .u8 0)], .agg [.lit (.int .u8 0), .lit (.int .u8 0)], .agg [.lit (.int .u8 0), .lit (.int .u8 0)], .agg [.lit (.int .u8 0), .lit (.int .u8 0)], .agg [.lit (.int .u8 0), .lit (.int .u8 0)], .agg [.lit (.int .u8 0), .lit (.int .u8 0)]]
def laid_loop_example_g00665_impl_wordBytes {H : Type} : DataW H := .agg [.lit (.bool false), .lit (.bool false), .lit (.bool false), .lit (.bool false), .lit (.bool false), .lit (.bool false), .lit (.bool false), .lit (.bool false), .lit (.bool false), .lit (.bool false), .lit (.bool false), .lit (.bool false), .lit (.bool false), .lit (.bool false), .lit (.bool false), .lit (.bool false), .lit (.bool false), .lit (.bool false), .lit (.bool false), .lit (.bool false), .lit (.bool false), .lit (.bool false), .lit (.bool false), .lit (.bool false), .lit (.bool false), .lit (.bool false), .lit (.bool false), .lit (.bool false), .lit (.bool false), .lit (.bool false), .lit (.bool false), .lit (.bool false), .lit (.bool false), .lit (.bool true), .lit (.bool false), .lit (.bool true), .lit (.bool true), .lit (.bool true), .lit (.bool true), .lit (.bool true), .lit (.bool false), .lit (.bool false), .lit (.bool true), .lit (.bool true), .lit (.bool false), .lit (.bool true), .lit (.bool true), .lit (.bool false), .lit (.bool true), .lit (.bool true), .lit (.bool true), .lit (.bool true), .lit (.bool true), .lit (.bool true), .lit (.bool true), .lit (.bool true), .lit (.bool true), .lit (.bool true), .lit (.bool false), .lit (.bool false), .lit (.bool false), .lit (.bool false), .lit (.bool false), .lit (.bool false), .lit (.bool false), .lit (.bool true), .lit (.bool true), .lit (.bool true), .lit (.bool true), .lit (.bool true), .lit (.bool true), .lit (.bool true), .lit (.bool true), .lit (.bool true), .lit (.bool true), .lit (.bool true), .lit (.bool true), .lit (.bool true), .lit (.bool true), .lit (.bool true), .lit (.bool true), .lit (.bool true), .lit (.bool true), .lit (.bool true), .lit (.bool true), .lit (.bool true), .lit (.bool true), .lit (.bool true), .lit (.bool true), .lit (.bool true), .lit (.bool true), .lit (.bool false), .lit (.bool false), .lit (.bool false), .lit (.bool true), .lit (.bool true), .lit (.bool false), .lit (.bool true), .lit (.bool true), .lit (.bool true), .lit (.bool true), .lit (.bool true), .lit (.bool true), .lit (.bool true), .lit (.bool true), .lit (.bool true), .lit (.bool true), .lit (.bool true), .lit (.bool true), .lit (.bool true), .lit (.bool true), .lit (.bool true), .lit (.bool true), .lit (.bool true), .lit (.bool true), .lit (.bool true), .lit (.bool true), .lit (.bool true), .lit (.bool true), .lit (.bool true), .lit (.bool true), .lit (.bool true), .lit (.bool true), .lit (.bool false), .lit (.bool true), .lit (.bool false), .lit (.bool true), .lit (.bool false)]
/-- One of Go's own tables, pinned by name: the form's constant. -/
def laid_unicode_utf8_first : DataW Unit := Go.Pinned.utf8First

/-- 'laws.FnExactTouchEntry': WHATEVER THE INPUT: true; the input reads as it did. -/
def fnExactTouchEntrySpec : ChangeSpec := { name := "fnExactTouchEntry", vars := ["loop.example/g00665/impl.wordBytes"], fn := fun _ => fun
  | [d1, d2, g1] => { results := [.lit (.bool true)], args := [d1, d2], vars := [g1] }
  | _ => none }
def fnExactTouchEntryRow : OpenClaim := { program := "ytdooopkpnanekaagreatdoor", sum := "10c4059b72bbc6fc949b1fec0550c7946b74e37337ed2523ba280c691a9211a5", func := "loop.example/g00665/laws.FnExactTouchEntry", spec := "fnExactTouchEntry", inPlace := ["internal/bytealg.IndexByteString", "internal/bytealg.IndexString", "slices.overlaps[*loop.example/g00665/impl.Entry]"], unfollowed := true, recurses := true, named := ["loop.example/g00665/impl.wordBytes", "unicode/utf8.first", "unicode/utf8.acceptRanges", "internal/bytealg.MaxLen"], apart := false, laid := [("unicode/utf8.acceptRanges", laid_unicode_utf8_acceptRanges), ("loop.example/g00665/impl.wordBytes", laid_loop_example_g00665_impl_wordBytes), ("unicode/utf8.first", laid_unicode_utf8_first)] }
def FnExactTouchEntrySaid : Prop := fnExactTouchEntryRow.holds Tryz.pinned (OpenSpec.ofChange fnExactTouchEntrySpec)

/-- ITS FALSE NEIGHBOUR: 'it returns false'. Refute it at one input. -/
def fnExactTouchEntryWrong : ChangeSpec := { name := "fnExactTouchEntry", vars := ["loop.example/g00665/impl.wordBytes"], fn := fun _ => fun
  | [d1, d2, g1] => { results := [.lit (.bool false)], args := [d1, d2], vars := [g1] }
  | _ => none }
def FnExactTouchEntryWrongFalsely : Prop := fnExactTouchEntryRow.holds Tryz.pinned (OpenSpec.ofChange fnExactTouchEntryWrong)

/-- 'laws.FnExactPutEntry': WHATEVER THE INPUT: true; the input reads as it did. -/
def fnExactPutEntrySpec : ChangeSpec := { name := "fnExactPutEntry", vars := ["loop.example/g00665/impl.wordBytes"], fn := fun _ => fun
  | [d1, d2, g1] => { results := [.lit (.bool true)], args := [d1, d2], vars := [g1] }
  | _ => none }
def fnExactPutEntryRow : OpenClaim := { program := "ytdooopkpnanekaagreatdoor", sum := "10c4059b72bbc6fc949b1fec0550c7946b74e37337ed2523ba280c691a9211a5", func := "loop.example/g00665/laws.FnExactPutEntry", spec := "fnExactPutEntry", inPlace := ["internal/bytealg.IndexByteString", "internal/bytealg.IndexString", "slices.overlaps[*loop.example/g00665/impl.Entry]"], unfollowed := true, recurses := true, named := ["loop.example/g00665/impl.wordBytes", "unicode/utf8.first", "unicode/utf8.acceptRanges", "internal/bytealg.MaxLen"], apart := false, laid := [("unicode/utf8.acceptRanges", laid_unicode_utf8_acceptRanges), ("loop.example/g00665/impl.wordBytes", laid_loop_example_g00665_impl_wordBytes), ("unicode/utf8.first", laid_unicode_utf8_first)] }
def FnExactPutEntrySaid : Prop := fnExactPutEntryRow.holds Tryz.pinned (OpenSpec.ofChange fnExactPutEntrySpec)

/-- ITS FALSE NEIGHBOUR: 'it returns false'. Refute it at one input. -/
def fnExactPutEntryWrong : ChangeSpec := { name := "fnExactPutEntry", vars := ["loop.example/g00665/impl.wordBytes"], fn := fun _ => fun
  | [d1, d2, g1] => { results := [.lit (.bool false)], args := [d1, d2], vars := [g1] }
  | _ => none }
def FnExactPutEntryWrongFalsely : Prop := fnExactPutEntryRow.holds Tryz.pinned (OpenSpec.ofChange fnExactPutEntryWrong)

/-- 'laws.FnStores': WHATEVER THE INPUT: true; the input reads as it did. -/
def fnStoresSpec : ChangeSpec := { name := "fnStores", vars := ["loop.example/g00665/impl.wordBytes"], fn := fun _ => fun
  | [d, g1] => { results := [.lit (.bool true)], args := [d], vars := [g1] }
  | _ => none }
def fnStoresRow : OpenClaim := { program := "ytdooopkpnanekaagreatdoor", sum := "10c4059b72bbc6fc949b1fec0550c7946b74e37337ed2523ba280c691a9211a5", func := "loop.example/g00665/laws.FnStores", spec := "fnStores", inPlace := ["internal/bytealg.IndexByteString", "internal/bytealg.IndexString", "slices.overlaps[*loop.example/g00665/impl.Entry]"], unfollowed := true, recurses := true, named := ["loop.example/g00665/impl.wordBytes", "unicode/utf8.first", "unicode/utf8.acceptRanges", "internal/bytealg.MaxLen"], apart := false, laid := [("unicode/utf8.acceptRanges", laid_unicode_utf8_acceptRanges), ("loop.example/g00665/impl.wordBytes", laid_loop_example_g00665_impl_wordBytes), ("unicode/utf8.first", laid_unicode_utf8_first)] }
def FnStoresSaid : Prop := fnStoresRow.holds Tryz.pinned (OpenSpec.ofChange fnStoresSpec)

/-- ITS FALSE NEIGHBOUR: 'it returns false'. Refute it at one input. -/
def fnStoresWrong : ChangeSpec := { name := "fnStores", vars := ["loop.example/g00665/impl.wordBytes"], fn := fun _ => fun
  | [d, g1] => { results := [.lit (.bool false)], args := [d], vars := [g1] }
  | _ => none }
def FnStoresWrongFalsely : Prop := fnStoresRow.holds Tryz.pinned (OpenSpec.ofChange fnStoresWrong)

/-- 'laws.FnTouches': WHATEVER THE INPUT: true; the input reads as it did. -/
def fnTouchesSpec : ChangeSpec := { name := "fnTouches", vars := ["loop.example/g00665/impl.wordBytes"], fn := fun _ => fun
  | [d, g1] => { results := [.lit (.bool true)], args := [d], vars := [g1] }
  | _ => none }
def fnTouchesRow : OpenClaim := { program := "ytdooopkpnanekaagreatdoor", sum := "10c4059b72bbc6fc949b1fec0550c7946b74e37337ed2523ba280c691a9211a5", func := "loop.example/g00665/laws.FnTouches", spec := "fnTouches", inPlace := ["internal/bytealg.IndexByteString", "internal/bytealg.IndexString", "slices.overlaps[*loop.example/g00665/impl.Entry]"], unfollowed := true, recurses := true, named := ["loop.example/g00665/impl.wordBytes", "unicode/utf8.first", "unicode/utf8.acceptRanges", "internal/bytealg.MaxLen"], apart := false, laid := [("unicode/utf8.acceptRanges", laid_unicode_utf8_acceptRanges), ("loop.example/g00665/impl.wordBytes", laid_loop_example_g00665_impl_wordBytes), ("unicode/utf8.first", laid_unicode_utf8_first)] }
def FnTouchesSaid : Prop := fnTouchesRow.holds Tryz.pinned (OpenSpec.ofChange fnTouchesSpec)

/-- ITS FALSE NEIGHBOUR: 'it returns false'. Refute it at one input. -/
def fnTouchesWrong : ChangeSpec := { name := "fnTouches", vars := ["loop.example/g00665/impl.wordBytes"], fn := fun _ => fun
  | [d, g1] => { results := [.lit (.bool false)], args := [d], vars := [g1] }
  | _ => none }
def FnTouchesWrongFalsely : Prop := fnTouchesRow.holds Tryz.pinned (OpenSpec.ofChange fnTouchesWrong)

/-- 'laws.FnPurges': WHATEVER THE INPUT: true; the input reads as it did. -/
def fnPurgesSpec : ChangeSpec := { name := "fnPurges", vars := ["loop.example/g00665/impl.wordBytes"], fn := fun _ => fun
  | [d, g1] => { results := [.lit (.bool true)], args := [d], vars := [g1] }
  | _ => none }
def fnPurgesRow : OpenClaim := { program := "ytdooopkpnanekaagreatdoor", sum := "10c4059b72bbc6fc949b1fec0550c7946b74e37337ed2523ba280c691a9211a5", func := "loop.example/g00665/laws.FnPurges", spec := "fnPurges", inPlace := ["internal/bytealg.IndexByteString", "internal/bytealg.IndexString"], unfollowed := true, recurses := true, named := ["loop.example/g00665/impl.wordBytes", "unicode/utf8.first", "unicode/utf8.acceptRanges", "internal/bytealg.MaxLen"], apart := false, laid := [("unicode/utf8.acceptRanges", laid_unicode_utf8_acceptRanges), ("loop.example/g00665/impl.wordBytes", laid_loop_example_g00665_impl_wordBytes), ("unicode/utf8.first", laid_unicode_utf8_first)] }
def FnPurgesSaid : Prop := fnPurgesRow.holds Tryz.pinned (OpenSpec.ofChange fnPurgesSpec)

/-- ITS FALSE NEIGHBOUR: 'it returns false'. Refute it at one input. -/
def fnPurgesWrong : ChangeSpec := { name := "fnPurges", vars := ["loop.example/g00665/impl.wordBytes"], fn := fun _ => fun
  | [d, g1] => { results := [.lit (.bool false)], args := [d], vars := [g1] }
  | _ => none }
def FnPurgesWrongFalsely : Prop := fnPurgesRow.holds Tryz.pinned (OpenSpec.ofChange fnPurgesWrong)

/- THE SECOND FORM. 'bulk': how many values and letters a reading holds, each counted each time it is reached (what is shared counts as often as it is met; a slice's spare places count too). A statement '..UptoSaid' is the law's where the arguments, and the package variables that the reading takes, are together of bulk at most 1048576: NARROWER than '..Said'. Prove '..Said' where nothing that the law and all that it calls make is longer than what came in: it says more and counts as full. Else prove '..UptoSaid'. A law counts once. -/
mutual
def uptoBulk {H : Type} : DataW H → Nat
  | .lit (.string bytes) => bytes.length + 1
  | .lit _ => 1
  | .nil => 1
  | .ptr d => uptoBulk d + 1
  | .slice elems spare => uptoBulkAll elems + uptoBulkAll spare + 1
  | .agg parts => uptoBulkAll parts + 1
  | .iface _ d => uptoBulk d + 1
  | .map entries => uptoBulkEntries entries + 1
  | .held _ => 1
def uptoBulkAll {H : Type} : List (DataW H) → Nat
  | [] => 0
  | d :: r => uptoBulk d + uptoBulkAll r
def uptoBulkEntries {H : Type} : List (Lit × DataW H) → Nat
  | [] => 0
  | x :: r => uptoBulkEntry x + uptoBulkEntries r
def uptoBulkEntry {H : Type} : Lit × DataW H → Nat
  | (.string bytes, d) => bytes.length + uptoBulk d + 1
  | (_, d) => uptoBulk d + 1
 end
def uptoSmall : (H : Type) → List (DataW H) → Bool := fun _ ds => decide (uptoBulkAll ds ≤ 1048576)
def OpenSpec.upto (s : _root_.Go.ChangeSpec) : _root_.Go.OpenSpec := { _root_.Go.OpenSpec.ofChange s with cond := some uptoSmall }

/-- 'laws.FnExactTouchEntry', WHERE WHAT IT READS IS OF BULK AT MOST 1048576: true; the input reads as it did. -/
def fnExactTouchEntryUptoRow : OpenClaim := { program := "ytdooopkpnanekaagreatdoor", sum := "10c4059b72bbc6fc949b1fec0550c7946b74e37337ed2523ba280c691a9211a5", func := "loop.example/g00665/laws.FnExactTouchEntry", spec := "fnExactTouchEntry", inPlace := ["internal/bytealg.IndexByteString", "internal/bytealg.IndexString", "slices.overlaps[*loop.example/g00665/impl.Entry]"], unfollowed := true, recurses := true, named := ["loop.example/g00665/impl.wordBytes", "unicode/utf8.first", "unicode/utf8.acceptRanges", "internal/bytealg.MaxLen"], apart := false, laid := [("unicode/utf8.acceptRanges", laid_unicode_utf8_acceptRanges), ("loop.example/g00665/impl.wordBytes", laid_loop_example_g00665_impl_wordBytes), ("unicode/utf8.first", laid_unicode_utf8_first)], narrowed := true }
def FnExactTouchEntryUptoSaid : Prop := fnExactTouchEntryUptoRow.holds Tryz.pinned (OpenSpec.upto fnExactTouchEntrySpec)

/-- 'laws.FnExactPutEntry', WHERE WHAT IT READS IS OF BULK AT MOST 1048576: true; the input reads as it did. -/
def fnExactPutEntryUptoRow : OpenClaim := { program := "ytdooopkpnanekaagreatdoor", sum := "10c4059b72bbc6fc949b1fec0550c7946b74e37337ed2523ba280c691a9211a5", func := "loop.example/g00665/laws.FnExactPutEntry", spec := "fnExactPutEntry", inPlace := ["internal/bytealg.IndexByteString", "internal/bytealg.IndexString", "slices.overlaps[*loop.example/g00665/impl.Entry]"], unfollowed := true, recurses := true, named := ["loop.example/g00665/impl.wordBytes", "unicode/utf8.first", "unicode/utf8.acceptRanges", "internal/bytealg.MaxLen"], apart := false, laid := [("unicode/utf8.acceptRanges", laid_unicode_utf8_acceptRanges), ("loop.example/g00665/impl.wordBytes", laid_loop_example_g00665_impl_wordBytes), ("unicode/utf8.first", laid_unicode_utf8_first)], narrowed := true }
def FnExactPutEntryUptoSaid : Prop := fnExactPutEntryUptoRow.holds Tryz.pinned (OpenSpec.upto fnExactPutEntrySpec)

/-- 'laws.FnStores', WHERE WHAT IT READS IS OF BULK AT MOST 1048576: true; the input reads as it did. -/
def fnStoresUptoRow : OpenClaim := { program := "ytdooopkpnanekaagreatdoor", sum := "10c4059b72bbc6fc949b1fec0550c7946b74e37337ed2523ba280c691a9211a5", func := "loop.example/g00665/laws.FnStores", spec := "fnStores", inPlace := ["internal/bytealg.IndexByteString", "internal/bytealg.IndexString", "slices.overlaps[*loop.example/g00665/impl.Entry]"], unfollowed := true, recurses := true, named := ["loop.example/g00665/impl.wordBytes", "unicode/utf8.first", "unicode/utf8.acceptRanges", "internal/bytealg.MaxLen"], apart := false, laid := [("unicode/utf8.acceptRanges", laid_unicode_utf8_acceptRanges), ("loop.example/g00665/impl.wordBytes", laid_loop_example_g00665_impl_wordBytes), ("unicode/utf8.first", laid_unicode_utf8_first)], narrowed := true }
def FnStoresUptoSaid : Prop := fnStoresUptoRow.holds Tryz.pinned (OpenSpec.upto fnStoresSpec)

/-- 'laws.FnTouches', WHERE WHAT IT READS IS OF BULK AT MOST 1048576: true; the input reads as it did. -/
def fnTouchesUptoRow : OpenClaim := { program := "ytdooopkpnanekaagreatdoor", sum := "10c4059b72bbc6fc949b1fec0550c7946b74e37337ed2523ba280c691a9211a5", func := "loop.example/g00665/laws.FnTouches", spec := "fnTouches", inPlace := ["internal/bytealg.IndexByteString", "internal/bytealg.IndexString", "slices.overlaps[*loop.example/g00665/impl.Entry]"], unfollowed := true, recurses := true, named := ["loop.example/g00665/impl.wordBytes", "unicode/utf8.first", "unicode/utf8.acceptRanges", "internal/bytealg.MaxLen"], apart := false, laid := [("unicode/utf8.acceptRanges", laid_unicode_utf8_acceptRanges), ("loop.example/g00665/impl.wordBytes", laid_loop_example_g00665_impl_wordBytes), ("unicode/utf8.first", laid_unicode_utf8_first)], narrowed := true }
def FnTouchesUptoSaid : Prop := fnTouchesUptoRow.holds Tryz.pinned (OpenSpec.upto fnTouchesSpec)

/-- 'laws.FnPurges', WHERE WHAT IT READS IS OF BULK AT MOST 1048576: true; the input reads as it did. -/
def fnPurgesUptoRow : OpenClaim := { program := "ytdooopkpnanekaagreatdoor", sum := "10c4059b72bbc6fc949b1fec0550c7946b74e37337ed2523ba280c691a9211a5", func := "loop.example/g00665/laws.FnPurges", spec := "fnPurges", inPlace := ["internal/bytealg.IndexByteString", "internal/bytealg.IndexString"], unfollowed := true, recurses := true, named := ["loop.example/g00665/impl.wordBytes", "unicode/utf8.first", "unicode/utf8.acceptRanges", "internal/bytealg.MaxLen"], apart := false, laid := [("unicode/utf8.acceptRanges", laid_unicode_utf8_acceptRanges), ("loop.example/g00665/impl.wordBytes", laid_loop_example_g00665_impl_wordBytes), ("unicode/utf8.first", laid_unicode_utf8_first)], narrowed := true }
def FnPurgesUptoSaid : Prop := fnPurgesUptoRow.holds Tryz.pinned (OpenSpec.upto fnPurgesSpec)

end Rows
end Go.Proofs.YtdooopkpnanekaaGreatDoor
