/-
  DERIVED. GIVEN WITH THE SEED: THE CARDS: each row of YtibomkcbopkpkaiDoorRows.lean that lists a variable, with what it lists TIED to the program's text (the seventh form; the later family's looks); each row that meets fmt, with fmt's text TOLD by the authors' own Lean function (tested against real Go, not proved from fmt's source: count such statements apart). THE CARD IS WHAT COUNTS. Prove the row's statement (the work); the ties are given (YtibomkcbopkpkaiDoorTie.lean); close each card by the builder's one call (the guide's Derived/Test/ToyasCard.lean, 'card_holds'). Laid BY PROGRAM, IN A SANDBOX (cutbox-door.mjs). By AI agents, Wed Nov 11 2026. No macro, syntax, notation, axiom, sorry.
-/
import Derived.Test.YtibomkcbopkpkaiDoorRows
import GoSem.ClaimSeven
namespace Go.Proofs.YtibomkcbopkpkaiDoor
namespace Rows

/-- THE TIED CARD OF 'laws.FnExactItemFault'. -/
def fnExactItemFaultCard : Claim7 := { stood := { row := fnExactItemFaultRow, standIns := [], harness := (true, "8d8b6de8d49453cdfee10b47a66c3d48fbf4aab4acaac982c244c9eb0483b1a6"), looks := false }, kinds := [], alts := [], laidByText := true, laidKinds := [.data], laidTests := true, laidLooks := .later }
def FnExactItemFaultCardSaid : Prop := Claim7.holds Tryd.pinned (.plain (OpenSpec.ofChange fnExactItemFaultSpec)) fnExactItemFaultCard

/-- THE TIED CARD OF 'laws.FnExactParseItems'. -/
def fnExactParseItemsCard : Claim7 := { stood := { row := fnExactParseItemsRow, standIns := [], harness := (true, "8d8b6de8d49453cdfee10b47a66c3d48fbf4aab4acaac982c244c9eb0483b1a6"), looks := false }, kinds := [], alts := [], laidByText := true, laidKinds := [.data, .data, .pinned], laidTests := true, laidLooks := .later }
def FnExactParseItemsCardSaid : Prop := Claim7.holds Tryd.pinned (.plain (OpenSpec.ofChange fnExactParseItemsSpec)) fnExactParseItemsCard

/-- THE TIED CARD OF 'laws.FnExactItemsText'. -/
def fnExactItemsTextCard : Claim7 := { stood := { row := fnExactItemsTextRow, standIns := [], harness := (true, "8d8b6de8d49453cdfee10b47a66c3d48fbf4aab4acaac982c244c9eb0483b1a6"), looks := false }, kinds := [], alts := [], laidByText := true, laidKinds := [.data], laidTests := true, laidLooks := .later }
def FnExactItemsTextCardSaid : Prop := Claim7.holds Tryd.pinned (.plain (OpenSpec.ofChange fnExactItemsTextSpec)) fnExactItemsTextCard

/-- THE TIED CARD OF 'laws.FnExactFindItem'. -/
def fnExactFindItemCard : Claim7 := { stood := { row := fnExactFindItemRow, standIns := [], harness := (true, "8d8b6de8d49453cdfee10b47a66c3d48fbf4aab4acaac982c244c9eb0483b1a6"), looks := false }, kinds := [], alts := [], laidByText := true, laidKinds := [.data], laidTests := true, laidLooks := .later }
def FnExactFindItemCardSaid : Prop := Claim7.holds Tryd.pinned (.plain (OpenSpec.ofChange fnExactFindItemSpec)) fnExactFindItemCard

/-- THE SECOND FORM's CARD OF 'laws.FnExactItemFault'. -/
def fnExactItemFaultUptoCard : Claim7 := { stood := { row := fnExactItemFaultUptoRow, standIns := [], harness := (true, "8d8b6de8d49453cdfee10b47a66c3d48fbf4aab4acaac982c244c9eb0483b1a6"), looks := false }, kinds := [], alts := [], laidByText := true, laidKinds := [.data], laidTests := true, laidLooks := .later }
def FnExactItemFaultUptoCardSaid : Prop := Claim7.holds Tryd.pinned (.plain (OpenSpec.upto fnExactItemFaultSpec)) fnExactItemFaultUptoCard

/-- THE SECOND FORM's CARD OF 'laws.FnExactParseItems'. -/
def fnExactParseItemsUptoCard : Claim7 := { stood := { row := fnExactParseItemsUptoRow, standIns := [], harness := (true, "8d8b6de8d49453cdfee10b47a66c3d48fbf4aab4acaac982c244c9eb0483b1a6"), looks := false }, kinds := [], alts := [], laidByText := true, laidKinds := [.data, .data, .pinned], laidTests := true, laidLooks := .later }
def FnExactParseItemsUptoCardSaid : Prop := Claim7.holds Tryd.pinned (.plain (OpenSpec.upto fnExactParseItemsSpec)) fnExactParseItemsUptoCard

/-- THE SECOND FORM's CARD OF 'laws.FnExactItemsText'. -/
def fnExactItemsTextUptoCard : Claim7 := { stood := { row := fnExactItemsTextUptoRow, standIns := [], harness := (true, "8d8b6de8d49453cdfee10b47a66c3d48fbf4aab4acaac982c244c9eb0483b1a6"), looks := false }, kinds := [], alts := [], laidByText := true, laidKinds := [.data], laidTests := true, laidLooks := .later }
def FnExactItemsTextUptoCardSaid : Prop := Claim7.holds Tryd.pinned (.plain (OpenSpec.upto fnExactItemsTextSpec)) fnExactItemsTextUptoCard

/-- THE SECOND FORM's CARD OF 'laws.FnExactFindItem'. -/
def fnExactFindItemUptoCard : Claim7 := { stood := { row := fnExactFindItemUptoRow, standIns := [], harness := (true, "8d8b6de8d49453cdfee10b47a66c3d48fbf4aab4acaac982c244c9eb0483b1a6"), looks := false }, kinds := [], alts := [], laidByText := true, laidKinds := [.data], laidTests := true, laidLooks := .later }
def FnExactFindItemUptoCardSaid : Prop := Claim7.holds Tryd.pinned (.plain (OpenSpec.upto fnExactFindItemSpec)) fnExactFindItemUptoCard
end Rows
end Go.Proofs.YtibomkcbopkpkaiDoor
