/-
  NARROWER THAN 'FOR EVERY INPUT', by the rows' own cells (each row's printed sentence says how): FnExactItemFault: laid · FnExactParseItems: laid · FnExactItemsText: laid · FnExactFindItem: laid.
  DERIVED. THE GIVEN ROWS OF THIS SEAT. 4 by the template 'for every input the law returns true; each argument reads behind the call as it read before'; 0 by the template 'total and deterministic' (their statements: YtibomkcbopkpkaiDoorTotals.lean).
  GIVEN WITH THE SEED: the statements are not yours to turn. If you find one false, say at which input.
  Laid BY PROGRAM, IN A SANDBOX (cutbox-rows.mjs): the forced cells as the released guide's own fill.sh prints them over the translation 476c92c623dc6475… (all of the seat's roots in one cut). By AI agents, Wed Nov 11 2026. No macro, syntax, notation, axiom, sorry.
-/
import Derived.Test.YtibomkcbopkpkaiDoorChecked
import GoSem.PinnedTables
import GoSem.Claim
import GoSem.ClaimJoined
import GoSem.ClaimMapViews
import Derived.JoinedTies
import Derived.KernelRfl
namespace Go.Proofs.YtibomkcbopkpkaiDoor
/- THE CELL 'sum', in the pinned program and in every row, IS THE sha256 OF THE DUMP (.gsa) THAT YtibomkcbopkpkaiDoorProg.lean LOADS. Nothing in Lean hashes anything: it is a label: what it is worth is what the hold of that sum in a sandbox is worth. -/
noncomputable def Tryd.pinned : Pinned := { name := "ytibomkcbopkpkaidoor", sum := "476c92c623dc64752ce24c4c47ba2e056950cf7e9ebe0a35c43086f3dcb20002", checked := Tryd.checked }
namespace Rows
def none {H : Type} : Left H := { results := [], args := [] }

/- WHAT THE LISTED PACKAGE-LEVEL VARIABLES READ AS WHEN THE CALL BEGINS. Each datum BY PROGRAM (the guide's laid-datum.mjs) off the statement by which the dump's own 'gosem.cut.vars' lays the variable. In a bare row this is a premise. The card (YtibomkcbopkpkaiDoorCards.lean) ties it to the program's text. -/
def laid_loop_example_g00665_impl_wordBytes {H : Type} : DataW H := .agg [.lit (.bool false), .lit (.bool false), .lit (.bool false), .lit (.bool false), .lit (.bool false), .lit (.bool false), .lit (.bool false), .lit (.bool false), .lit (.bool false), .lit (.bool false), .lit (.bool false), .lit (.bool false), .lit (.bool false), .lit (.bool false), .lit (.bool false), .lit (.bool false), .lit (.bool false), .lit (.bool false), .lit (.bool false), .lit (.bool false), .lit (.bool false), .lit (.bool false), .lit (.bool false), .lit (.bool false), .lit (.bool false), .lit (.bool false), .lit (.bool false), .lit (.bool false), .lit (.bool false), .lit (.bool false), .lit (.bool false), .lit (.bool false), .lit (.bool false), .lit (.bool true), .lit (.bool false), .lit (.bool true), .lit (.bool true), .lit (.bool true), .lit (.bool true), .lit (.bool true), .lit (.bool false), .lit (.bool false), .lit (.bool true), .lit (.bool true), .lit (.bool false), .lit (.bool true), .lit (.bool true), .lit (.bool false), .lit (.bool true), .lit (.bool true), .lit (.bool true), .lit (.bool true), .lit (.bool true), .lit (.bool true), .lit (.bool true), .lit (.bool true), .lit (.bool true), .lit (.bool true), .lit (.bool false), .lit (.bool false), .lit (.bool false), .lit (.bool false), .lit (.bool false), .lit (.bool false), .lit (.bool false), .lit (.bool true), .lit (.bool true), .lit (.bool true), .lit (.bool true), .lit (.bool true), .lit (.bool true), .lit (.bool true), .lit (.bool true), .lit (.bool true), .lit (.bool true), .lit (.bool true), .lit (.bool true), .lit (.bool true), .lit (.bool true), .lit (.bool true), .lit (.bool true), .lit (.bool true), .lit (.bool true), .lit (.bool true), .lit (.bool true), .lit (.bool true), .lit (.bool true), .lit (.bool true), .lit (.bool true), .lit (.bool true), .lit (.bool true), .lit (.bool false), .lit (.bool false), .lit (.bool false), .lit (.bool true), .lit (.bool true), .lit (.bool false), .lit (.bool true), .lit (.bool true), .lit (.bool true), .lit (.bool true), .lit (.bool true), .lit (.bool true), .lit (.bool true), .lit (.bool true), .lit (.bool true), .lit (.bool true), .lit (.bool true), .lit (.bool true), .lit (.bool true), .lit (.bool true), .lit (.bool true), .lit (.bool true), .lit (.bool true), .lit (.bool true), .lit (.bool true), .lit (.bool true), .lit (.bool true), .lit (.bool true), .lit (.bool true), .lit (.bool true), .lit (.bool true), .lit (.bool true), .lit (.bool false), .lit (.bool true), .lit (.bool false), .lit (.bool true), .lit (.bool false)]
def laid_unicode_utf8_acceptRanges {H : Type} : DataW H := .agg [.agg [.lit (.int .u8 128), .lit (.int .u8 191)], .agg [.lit (.int .u8 160), .lit (.int .u8 191)], .agg [.lit (.int .u8 128), .lit (.int .u8 159)], .agg [.lit (.int .u8 144), .lit (.int .u8 191)], .agg [.lit (.int .u8 128), .lit (.int .u8 143)], .agg [.lit (.int .u8 0), .lit (.int .u8 0)], .agg [.lit (.int .u8 0), .lit (.int .u8 0)], .agg [.lit (.int .u8 0), .lit (.int .u8 0)], .agg [.lit (.int .u8 0), .lit (.int .u8 0)], .agg [.lit (.int .u8 0), .lit (.int .u8 0)], .agg [.lit (.int .u8 0), .lit (.int .u8 0)], .agg [.lit (.int .u8 0), .lit (.int .u8 0)], .agg [.lit (.int .u8 0), .lit (.int .u8 0)], .agg [.lit (.int .u8 0), .lit (.int .u8 0)], .agg [.lit (.int .u8 0), .lit (.int .u8 0)], .agg [.lit (.int .u8 0), .lit (.int .u8 0)]]
/-- One of Go's own tables, pinned by name: the form's constant. -/
def laid_unicode_utf8_first : DataW Unit := Go.Pinned.utf8First

/-- 'laws.FnExactItemFault': WHATEVER THE INPUT: true; the input reads as it did. -/
def fnExactItemFaultSpec : ChangeSpec := { name := "fnExactItemFault", vars := ["loop.example/g00665/impl.wordBytes"], fn := fun _ => fun
  | [d, g1] => { results := [.lit (.bool true)], args := [d], vars := [g1] }
  | _ => none }
def fnExactItemFaultRow : OpenClaim := { program := "ytibomkcbopkpkaidoor", sum := "476c92c623dc64752ce24c4c47ba2e056950cf7e9ebe0a35c43086f3dcb20002", func := "loop.example/g00665/laws.FnExactItemFault", spec := "fnExactItemFault", named := ["loop.example/g00665/impl.wordBytes"], apart := false, laid := [("loop.example/g00665/impl.wordBytes", laid_loop_example_g00665_impl_wordBytes)] }
def FnExactItemFaultSaid : Prop := fnExactItemFaultRow.holds Tryd.pinned (OpenSpec.ofChange fnExactItemFaultSpec)

/-- ITS FALSE NEIGHBOUR: 'it returns false'. Refute it at one input. -/
def fnExactItemFaultWrong : ChangeSpec := { name := "fnExactItemFault", vars := ["loop.example/g00665/impl.wordBytes"], fn := fun _ => fun
  | [d, g1] => { results := [.lit (.bool false)], args := [d], vars := [g1] }
  | _ => none }
def FnExactItemFaultWrongFalsely : Prop := fnExactItemFaultRow.holds Tryd.pinned (OpenSpec.ofChange fnExactItemFaultWrong)

/-- 'laws.FnExactParseItems': WHATEVER THE INPUT: true; the input reads as it did. -/
def fnExactParseItemsSpec : ChangeSpec := { name := "fnExactParseItems", vars := ["loop.example/g00665/impl.wordBytes"], fn := fun _ => fun
  | [d, g1] => { results := [.lit (.bool true)], args := [d], vars := [g1] }
  | _ => none }
def fnExactParseItemsRow : OpenClaim := { program := "ytibomkcbopkpkaidoor", sum := "476c92c623dc64752ce24c4c47ba2e056950cf7e9ebe0a35c43086f3dcb20002", func := "loop.example/g00665/laws.FnExactParseItems", spec := "fnExactParseItems", inPlace := ["internal/bytealg.IndexByteString", "internal/bytealg.IndexString"], unfollowed := true, recurses := true, named := ["unicode/utf8.first", "unicode/utf8.acceptRanges", "internal/bytealg.MaxLen", "loop.example/g00665/impl.wordBytes"], apart := false, laid := [("unicode/utf8.acceptRanges", laid_unicode_utf8_acceptRanges), ("loop.example/g00665/impl.wordBytes", laid_loop_example_g00665_impl_wordBytes), ("unicode/utf8.first", laid_unicode_utf8_first)] }
def FnExactParseItemsSaid : Prop := fnExactParseItemsRow.holds Tryd.pinned (OpenSpec.ofChange fnExactParseItemsSpec)

/-- ITS FALSE NEIGHBOUR: 'it returns false'. Refute it at one input. -/
def fnExactParseItemsWrong : ChangeSpec := { name := "fnExactParseItems", vars := ["loop.example/g00665/impl.wordBytes"], fn := fun _ => fun
  | [d, g1] => { results := [.lit (.bool false)], args := [d], vars := [g1] }
  | _ => none }
def FnExactParseItemsWrongFalsely : Prop := fnExactParseItemsRow.holds Tryd.pinned (OpenSpec.ofChange fnExactParseItemsWrong)

/-- 'laws.FnExactItemsText': WHATEVER THE INPUT: true; the input reads as it did. -/
def fnExactItemsTextSpec : ChangeSpec := { name := "fnExactItemsText", vars := ["loop.example/g00665/impl.wordBytes"], fn := fun _ => fun
  | [d, g1] => { results := [.lit (.bool true)], args := [d], vars := [g1] }
  | _ => none }
def fnExactItemsTextRow : OpenClaim := { program := "ytibomkcbopkpkaidoor", sum := "476c92c623dc64752ce24c4c47ba2e056950cf7e9ebe0a35c43086f3dcb20002", func := "loop.example/g00665/laws.FnExactItemsText", spec := "fnExactItemsText", inPlace := ["internal/abi.NoEscape", "internal/bytealg.MakeNoZero"], named := ["loop.example/g00665/impl.wordBytes"], apart := false, laid := [("loop.example/g00665/impl.wordBytes", laid_loop_example_g00665_impl_wordBytes)] }
def FnExactItemsTextSaid : Prop := fnExactItemsTextRow.holds Tryd.pinned (OpenSpec.ofChange fnExactItemsTextSpec)

/-- ITS FALSE NEIGHBOUR: 'it returns false'. Refute it at one input. -/
def fnExactItemsTextWrong : ChangeSpec := { name := "fnExactItemsText", vars := ["loop.example/g00665/impl.wordBytes"], fn := fun _ => fun
  | [d, g1] => { results := [.lit (.bool false)], args := [d], vars := [g1] }
  | _ => none }
def FnExactItemsTextWrongFalsely : Prop := fnExactItemsTextRow.holds Tryd.pinned (OpenSpec.ofChange fnExactItemsTextWrong)

/-- 'laws.FnExactFindItem': WHATEVER THE INPUT: true; the input reads as it did. -/
def fnExactFindItemSpec : ChangeSpec := { name := "fnExactFindItem", vars := ["loop.example/g00665/impl.wordBytes"], fn := fun _ => fun
  | [d1, d2, g1] => { results := [.lit (.bool true)], args := [d1, d2], vars := [g1] }
  | _ => none }
def fnExactFindItemRow : OpenClaim := { program := "ytibomkcbopkpkaidoor", sum := "476c92c623dc64752ce24c4c47ba2e056950cf7e9ebe0a35c43086f3dcb20002", func := "loop.example/g00665/laws.FnExactFindItem", spec := "fnExactFindItem", named := ["loop.example/g00665/impl.wordBytes"], apart := false, laid := [("loop.example/g00665/impl.wordBytes", laid_loop_example_g00665_impl_wordBytes)] }
def FnExactFindItemSaid : Prop := fnExactFindItemRow.holds Tryd.pinned (OpenSpec.ofChange fnExactFindItemSpec)

/-- ITS FALSE NEIGHBOUR: 'it returns false'. Refute it at one input. -/
def fnExactFindItemWrong : ChangeSpec := { name := "fnExactFindItem", vars := ["loop.example/g00665/impl.wordBytes"], fn := fun _ => fun
  | [d1, d2, g1] => { results := [.lit (.bool false)], args := [d1, d2], vars := [g1] }
  | _ => none }
def FnExactFindItemWrongFalsely : Prop := fnExactFindItemRow.holds Tryd.pinned (OpenSpec.ofChange fnExactFindItemWrong)

/- THE SECOND FORM. 'bulk': how many values and letters a reading holds, each counted each time it is reached (what is shared counts as often as it is met; a slice's spare places count too). A statement '..UptoSaid' is the law's where the arguments, and the package variables that the reading takes, are together of bulk at most 1048576: NARROWER than '..Said'. Prove '..Said' where nothing that the law and all that it calls make is longer than what came in: it says more and counts as full. Else prove '..UptoSaid'. A law counts once. -/
mutual
def uptoBulk {H : Type} : DataW H → Nat
  | .lit (.string bytes) => bytes.length + 1
  | .lit _ => 1
  | .nil => 1
  | .ptr d => uptoBulk d + 1
  | .slice elems spare => uptoBulkAll elems + uptoBulkAll spare + 1
  | .agg parts => uptoBulkAll parts + 1
  | .iface _ d => uptoBulk d + 1
  | .map entries => uptoBulkEntries entries + 1
  | .held _ => 1
def uptoBulkAll {H : Type} : List (DataW H) → Nat
  | [] => 0
  | d :: r => uptoBulk d + uptoBulkAll r
def uptoBulkEntries {H : Type} : List (Lit × DataW H) → Nat
  | [] => 0
  | x :: r => uptoBulkEntry x + uptoBulkEntries r
def uptoBulkEntry {H : Type} : Lit × DataW H → Nat
  | (.string bytes, d) => bytes.length + uptoBulk d + 1
  | (_, d) => uptoBulk d + 1
 end
def uptoSmall : (H : Type) → List (DataW H) → Bool := fun _ ds => decide (uptoBulkAll ds ≤ 1048576)
def OpenSpec.upto (s : _root_.Go.ChangeSpec) : _root_.Go.OpenSpec := { _root_.Go.OpenSpec.ofChange s with cond := some uptoSmall }

/-- 'laws.FnExactItemFault', WHERE WHAT IT READS IS OF BULK AT MOST 1048576: true; the input reads as it did. -/
def fnExactItemFaultUptoRow : OpenClaim := { program := "ytibomkcbopkpkaidoor", sum := "476c92c623dc64752ce24c4c47ba2e056950cf7e9ebe0a35c43086f3dcb20002", func := "loop.example/g00665/laws.FnExactItemFault", spec := "fnExactItemFault", named := ["loop.example/g00665/impl.wordBytes"], apart := false, laid := [("loop.example/g00665/impl.wordBytes", laid_loop_example_g00665_impl_wordBytes)], narrowed := true }
def FnExactItemFaultUptoSaid : Prop := fnExactItemFaultUptoRow.holds Tryd.pinned (OpenSpec.upto fnExactItemFaultSpec)

/-- 'laws.FnExactParseItems', WHERE WHAT IT READS IS OF BULK AT MOST 1048576: true; the input reads as it did. -/
def fnExactParseItemsUptoRow : OpenClaim := { program := "ytibomkcbopkpkaidoor", sum := "476c92c623dc64752ce24c4c47ba2e056950cf7e9ebe0a35c43086f3dcb20002", func := "loop.example/g00665/laws.FnExactParseItems", spec := "fnExactParseItems", inPlace := ["internal/bytealg.IndexByteString", "internal/bytealg.IndexString"], unfollowed := true, recurses := true, named := ["unicode/utf8.first", "unicode/utf8.acceptRanges", "internal/bytealg.MaxLen", "loop.example/g00665/impl.wordBytes"], apart := false, laid := [("unicode/utf8.acceptRanges", laid_unicode_utf8_acceptRanges), ("loop.example/g00665/impl.wordBytes", laid_loop_example_g00665_impl_wordBytes), ("unicode/utf8.first", laid_unicode_utf8_first)], narrowed := true }
def FnExactParseItemsUptoSaid : Prop := fnExactParseItemsUptoRow.holds Tryd.pinned (OpenSpec.upto fnExactParseItemsSpec)

/-- 'laws.FnExactItemsText', WHERE WHAT IT READS IS OF BULK AT MOST 1048576: true; the input reads as it did. -/
def fnExactItemsTextUptoRow : OpenClaim := { program := "ytibomkcbopkpkaidoor", sum := "476c92c623dc64752ce24c4c47ba2e056950cf7e9ebe0a35c43086f3dcb20002", func := "loop.example/g00665/laws.FnExactItemsText", spec := "fnExactItemsText", inPlace := ["internal/abi.NoEscape", "internal/bytealg.MakeNoZero"], named := ["loop.example/g00665/impl.wordBytes"], apart := false, laid := [("loop.example/g00665/impl.wordBytes", laid_loop_example_g00665_impl_wordBytes)], narrowed := true }
def FnExactItemsTextUptoSaid : Prop := fnExactItemsTextUptoRow.holds Tryd.pinned (OpenSpec.upto fnExactItemsTextSpec)

/-- 'laws.FnExactFindItem', WHERE WHAT IT READS IS OF BULK AT MOST 1048576: true; the input reads as it did. -/
def fnExactFindItemUptoRow : OpenClaim := { program := "ytibomkcbopkpkaidoor", sum := "476c92c623dc64752ce24c4c47ba2e056950cf7e9ebe0a35c43086f3dcb20002", func := "loop.example/g00665/laws.FnExactFindItem", spec := "fnExactFindItem", named := ["loop.example/g00665/impl.wordBytes"], apart := false, laid := [("loop.example/g00665/impl.wordBytes", laid_loop_example_g00665_impl_wordBytes)], narrowed := true }
def FnExactFindItemUptoSaid : Prop := fnExactFindItemUptoRow.holds Tryd.pinned (OpenSpec.upto fnExactFindItemSpec)

end Rows
end Go.Proofs.YtibomkcbopkpkaiDoor
