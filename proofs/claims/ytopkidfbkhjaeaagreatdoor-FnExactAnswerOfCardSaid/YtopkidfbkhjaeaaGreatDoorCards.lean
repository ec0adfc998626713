/-
  DERIVED. GIVEN WITH THE SEED: THE CARDS: each row of YtopkidfbkhjaeaaGreatDoorRows.lean that lists a variable, with what it lists TIED to the program's text (the seventh form; the later family's looks); each row that meets fmt, with fmt's text TOLD by the authors' own Lean function (tested against real Go, not proved from fmt's source: count such statements apart). THE CARD IS WHAT COUNTS. Prove the row's statement (the work); the ties are given (YtopkidfbkhjaeaaGreatDoorTie.lean); close each card by the builder's one call (the guide's Derived/Test/ToyasCard.lean, 'card_holds'). Laid BY PROGRAM, IN A SANDBOX (cutbox-door.mjs). By AI agents, Wed Nov 11 2026. No macro, syntax, notation, axiom, sorry.
-/
import Derived.Test.YtopkidfbkhjaeaaGreatDoorRows
import GoSem.ClaimSeven
namespace Go.Proofs.YtopkidfbkhjaeaaGreatDoor
namespace Rows

/-- THE TIED CARD OF 'laws.FnExactRelayOf'. -/
def fnExactRelayOfCard : Claim7 := { stood := { row := fnExactRelayOfRow, standIns := [], harness := (true, "c2e1562a40436821afa00c9f29ec142ca20c0bcfebe2f80f4de8e40731240820"), looks := true }, kinds := [], alts := [], laidByText := true, laidKinds := [.data, .data, .sentinel, .sentinel, .sentinel, .sentinel, .pinned], laidTests := true, laidLooks := .later }
def FnExactRelayOfCardSaid : Prop := Claim7.holds Tryz.pinned (.plain (OpenSpec.ofChange fnExactRelayOfSpec)) fnExactRelayOfCard

/-- THE TIED CARD OF 'laws.FnExactFetchFor'. -/
def fnExactFetchForCard : Claim7 := { stood := { row := fnExactFetchForRow, standIns := [], harness := (true, "c2e1562a40436821afa00c9f29ec142ca20c0bcfebe2f80f4de8e40731240820"), looks := true }, kinds := [], alts := [], laidByText := true, laidKinds := [.data, .data, .sentinel, .sentinel, .sentinel, .sentinel, .pinned], laidTests := true, laidLooks := .later }
def FnExactFetchForCardSaid : Prop := Claim7.holds Tryz.pinned (.plain (OpenSpec.ofChange fnExactFetchForSpec)) fnExactFetchForCard

/-- THE TIED CARD OF 'laws.FnExactEntryFrom'. -/
def fnExactEntryFromCard : Claim7 := { stood := { row := fnExactEntryFromRow, standIns := [], harness := (true, "c2e1562a40436821afa00c9f29ec142ca20c0bcfebe2f80f4de8e40731240820"), looks := true }, kinds := [], alts := [], laidByText := true, laidKinds := [.data, .data, .data, .data, .handle, .data, .sentinel, .sentinel, .sentinel, .sentinel, .pinned], laidTests := true, laidLooks := .later }
def FnExactEntryFromCardSaid : Prop := Claim7.holds Tryz.pinned (.plain (OpenSpec.ofChange fnExactEntryFromSpec)) fnExactEntryFromCard

/-- THE TIED CARD OF 'laws.FnExactAnswerOf'. -/
def fnExactAnswerOfCard : Claim7 := { stood := { row := fnExactAnswerOfRow, standIns := [], harness := (true, "c2e1562a40436821afa00c9f29ec142ca20c0bcfebe2f80f4de8e40731240820"), looks := true }, kinds := [], alts := [], laidByText := true, laidKinds := [.data, .data, .data, .data, .data, .pinned], laidTests := true, laidLooks := .later }
def FnExactAnswerOfCardSaid : Prop := Claim7.holds Tryz.pinned (.plain (OpenSpec.ofChange fnExactAnswerOfSpec)) fnExactAnswerOfCard

/-- THE SECOND FORM's CARD OF 'laws.FnExactRelayOf'. -/
def fnExactRelayOfUptoCard : Claim7 := { stood := { row := fnExactRelayOfUptoRow, standIns := [], harness := (true, "c2e1562a40436821afa00c9f29ec142ca20c0bcfebe2f80f4de8e40731240820"), looks := true }, kinds := [], alts := [], laidByText := true, laidKinds := [.data, .data, .sentinel, .sentinel, .sentinel, .sentinel, .pinned], laidTests := true, laidLooks := .later }
def FnExactRelayOfUptoCardSaid : Prop := Claim7.holds Tryz.pinned (.plain (OpenSpec.upto fnExactRelayOfSpec)) fnExactRelayOfUptoCard

/-- THE SECOND FORM's CARD OF 'laws.FnExactFetchFor'. -/
def fnExactFetchForUptoCard : Claim7 := { stood := { row := fnExactFetchForUptoRow, standIns := [], harness := (true, "c2e1562a40436821afa00c9f29ec142ca20c0bcfebe2f80f4de8e40731240820"), looks := true }, kinds := [], alts := [], laidByText := true, laidKinds := [.data, .data, .sentinel, .sentinel, .sentinel, .sentinel, .pinned], laidTests := true, laidLooks := .later }
def FnExactFetchForUptoCardSaid : Prop := Claim7.holds Tryz.pinned (.plain (OpenSpec.upto fnExactFetchForSpec)) fnExactFetchForUptoCard

/-- THE SECOND FORM's CARD OF 'laws.FnExactEntryFrom'. -/
def fnExactEntryFromUptoCard : Claim7 := { stood := { row := fnExactEntryFromUptoRow, standIns := [], harness := (true, "c2e1562a40436821afa00c9f29ec142ca20c0bcfebe2f80f4de8e40731240820"), looks := true }, kinds := [], alts := [], laidByText := true, laidKinds := [.data, .data, .data, .data, .handle, .data, .sentinel, .sentinel, .sentinel, .sentinel, .pinned], laidTests := true, laidLooks := .later }
def FnExactEntryFromUptoCardSaid : Prop := Claim7.holds Tryz.pinned (.plain (OpenSpec.upto fnExactEntryFromSpec)) fnExactEntryFromUptoCard

/-- THE SECOND FORM's CARD OF 'laws.FnExactAnswerOf'. -/
def fnExactAnswerOfUptoCard : Claim7 := { stood := { row := fnExactAnswerOfUptoRow, standIns := [], harness := (true, "c2e1562a40436821afa00c9f29ec142ca20c0bcfebe2f80f4de8e40731240820"), looks := true }, kinds := [], alts := [], laidByText := true, laidKinds := [.data, .data, .data, .data, .data, .pinned], laidTests := true, laidLooks := .later }
def FnExactAnswerOfUptoCardSaid : Prop := Claim7.holds Tryz.pinned (.plain (OpenSpec.upto fnExactAnswerOfSpec)) fnExactAnswerOfUptoCard
end Rows
end Go.Proofs.YtopkidfbkhjaeaaGreatDoor
