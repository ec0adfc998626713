/-
  DERIVED. GIVEN WITH THE SEED: THE CARDS: each row of YtolkgnnjocmkdaaGreatDoorRows.lean that lists a variable, with what it lists TIED to the program's text (the seventh form; the later family's looks); each row that meets fmt, with fmt's text TOLD by the authors' own Lean function (tested against real Go, not proved from fmt's source: count such statements apart). THE CARD IS WHAT COUNTS. Prove the row's statement (the work); the ties are given (YtolkgnnjocmkdaaGreatDoorTie.lean); close each card by the builder's one call (the guide's Derived/Test/ToyasCard.lean, 'card_holds'). Laid BY PROGRAM, IN A SANDBOX (cutbox-door.mjs). By AI agents, Wed Nov 11 2026. No macro, syntax, notation, axiom, sorry.
-/
import Derived.Test.YtolkgnnjocmkdaaGreatDoorRows
import GoSem.ClaimSeven
namespace Go.Proofs.YtolkgnnjocmkdaaGreatDoor
namespace Rows

/-- THE TIED CARD OF 'laws.FnExactFetchFor'. -/
def fnExactFetchForCard : Claim7 := { stood := { row := fnExactFetchForRow, standIns := [], harness := (true, "145cad20ace1f69fe7fe0dc893a4aa752e569cc4a26619aed64d70cade35095e"), looks := true }, kinds := [], alts := [], laidByText := true, laidKinds := [.data, .data, .sentinel, .sentinel, .sentinel, .sentinel, .pinned], laidTests := true, laidLooks := .later }
def FnExactFetchForCardSaid : Prop := Claim7.holds Tryz.pinned (.plain (OpenSpec.ofChange fnExactFetchForSpec)) fnExactFetchForCard

/-- THE TIED CARD OF 'laws.FnExactEntryFrom'. -/
def fnExactEntryFromCard : Claim7 := { stood := { row := fnExactEntryFromRow, standIns := [], harness := (true, "145cad20ace1f69fe7fe0dc893a4aa752e569cc4a26619aed64d70cade35095e"), looks := true }, kinds := [], alts := [], laidByText := true, laidKinds := [.data, .data, .data, .data, .handle, .data, .sentinel, .sentinel, .sentinel, .sentinel, .pinned], laidTests := true, laidLooks := .later }
def FnExactEntryFromCardSaid : Prop := Claim7.holds Tryz.pinned (.plain (OpenSpec.ofChange fnExactEntryFromSpec)) fnExactEntryFromCard

/-- THE TIED CARD OF 'laws.FnExactMergeEntry'. -/
def fnExactMergeEntryCard : Claim7 := { stood := { row := fnExactMergeEntryRow, standIns := [], harness := (true, "145cad20ace1f69fe7fe0dc893a4aa752e569cc4a26619aed64d70cade35095e"), looks := true }, kinds := [], alts := [], laidByText := true, laidKinds := [.data, .data, .data, .data, .handle, .data, .sentinel, .sentinel, .sentinel, .sentinel, .pinned], laidTests := true, laidLooks := .later }
def FnExactMergeEntryCardSaid : Prop := Claim7.holds Tryz.pinned (.plain (OpenSpec.ofChange fnExactMergeEntrySpec)) fnExactMergeEntryCard

/-- THE TIED CARD OF 'laws.FnMerges'. -/
def fnMergesCard : Claim7 := { stood := { row := fnMergesRow, standIns := [], harness := (true, "145cad20ace1f69fe7fe0dc893a4aa752e569cc4a26619aed64d70cade35095e"), looks := true }, kinds := [], alts := [], laidByText := true, laidKinds := [.data, .data, .data, .data, .handle, .data, .sentinel, .sentinel, .sentinel, .sentinel, .pinned], laidTests := true, laidLooks := .later }
def FnMergesCardSaid : Prop := Claim7.holds Tryz.pinned (.plain (OpenSpec.ofChange fnMergesSpec)) fnMergesCard

/-- THE TIED CARD OF 'laws.FnFetches'. -/
def fnFetchesCard : Claim7 := { stood := { row := fnFetchesRow, standIns := [], harness := (true, "145cad20ace1f69fe7fe0dc893a4aa752e569cc4a26619aed64d70cade35095e"), looks := true }, kinds := [], alts := [], laidByText := true, laidKinds := [.data, .data, .sentinel, .sentinel, .sentinel, .sentinel, .pinned], laidTests := true, laidLooks := .later }
def FnFetchesCardSaid : Prop := Claim7.holds Tryz.pinned (.plain (OpenSpec.ofChange fnFetchesSpec)) fnFetchesCard

/-- THE SECOND FORM's CARD OF 'laws.FnExactFetchFor'. -/
def fnExactFetchForUptoCard : Claim7 := { stood := { row := fnExactFetchForUptoRow, standIns := [], harness := (true, "145cad20ace1f69fe7fe0dc893a4aa752e569cc4a26619aed64d70cade35095e"), looks := true }, kinds := [], alts := [], laidByText := true, laidKinds := [.data, .data, .sentinel, .sentinel, .sentinel, .sentinel, .pinned], laidTests := true, laidLooks := .later }
def FnExactFetchForUptoCardSaid : Prop := Claim7.holds Tryz.pinned (.plain (OpenSpec.upto fnExactFetchForSpec)) fnExactFetchForUptoCard

/-- THE SECOND FORM's CARD OF 'laws.FnExactEntryFrom'. -/
def fnExactEntryFromUptoCard : Claim7 := { stood := { row := fnExactEntryFromUptoRow, standIns := [], harness := (true, "145cad20ace1f69fe7fe0dc893a4aa752e569cc4a26619aed64d70cade35095e"), looks := true }, kinds := [], alts := [], laidByText := true, laidKinds := [.data, .data, .data, .data, .handle, .data, .sentinel, .sentinel, .sentinel, .sentinel, .pinned], laidTests := true, laidLooks := .later }
def FnExactEntryFromUptoCardSaid : Prop := Claim7.holds Tryz.pinned (.plain (OpenSpec.upto fnExactEntryFromSpec)) fnExactEntryFromUptoCard

/-- THE SECOND FORM's CARD OF 'laws.FnExactMergeEntry'. -/
def fnExactMergeEntryUptoCard : Claim7 := { stood := { row := fnExactMergeEntryUptoRow, standIns := [], harness := (true, "145cad20ace1f69fe7fe0dc893a4aa752e569cc4a26619aed64d70cade35095e"), looks := true }, kinds := [], alts := [], laidByText := true, laidKinds := [.data, .data, .data, .data, .handle, .data, .sentinel, .sentinel, .sentinel, .sentinel, .pinned], laidTests := true, laidLooks := .later }
def FnExactMergeEntryUptoCardSaid : Prop := Claim7.holds Tryz.pinned (.plain (OpenSpec.upto fnExactMergeEntrySpec)) fnExactMergeEntryUptoCard

/-- THE SECOND FORM's CARD OF 'laws.FnMerges'. -/
def fnMergesUptoCard : Claim7 := { stood := { row := fnMergesUptoRow, standIns := [], harness := (true, "145cad20ace1f69fe7fe0dc893a4aa752e569cc4a26619aed64d70cade35095e"), looks := true }, kinds := [], alts := [], laidByText := true, laidKinds := [.data, .data, .data, .data, .handle, .data, .sentinel, .sentinel, .sentinel, .sentinel, .pinned], laidTests := true, laidLooks := .later }
def FnMergesUptoCardSaid : Prop := Claim7.holds Tryz.pinned (.plain (OpenSpec.upto fnMergesSpec)) fnMergesUptoCard

/-- THE SECOND FORM's CARD OF 'laws.FnFetches'. -/
def fnFetchesUptoCard : Claim7 := { stood := { row := fnFetchesUptoRow, standIns := [], harness := (true, "145cad20ace1f69fe7fe0dc893a4aa752e569cc4a26619aed64d70cade35095e"), looks := true }, kinds := [], alts := [], laidByText := true, laidKinds := [.data, .data, .sentinel, .sentinel, .sentinel, .sentinel, .pinned], laidTests := true, laidLooks := .later }
def FnFetchesUptoCardSaid : Prop := Claim7.holds Tryz.pinned (.plain (OpenSpec.upto fnFetchesSpec)) fnFetchesUptoCard
end Rows
end Go.Proofs.YtolkgnnjocmkdaaGreatDoor
