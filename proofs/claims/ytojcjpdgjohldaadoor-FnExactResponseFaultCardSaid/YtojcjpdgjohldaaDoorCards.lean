/-
  DERIVED. GIVEN WITH THE SEED: THE CARDS: each row of YtojcjpdgjohldaaDoorRows.lean that lists a variable, with what it lists TIED to the program's text (the seventh form; the later family's looks); each row that meets fmt, with fmt's text TOLD by the authors' own Lean function (tested against real Go, not proved from fmt's source: count such statements apart). THE CARD IS WHAT COUNTS. Prove the row's statement (the work); the ties are given (YtojcjpdgjohldaaDoorTie.lean); close each card by the builder's one call (the guide's Derived/Test/ToyasCard.lean, 'card_holds'). Laid BY PROGRAM, IN A SANDBOX (cutbox-door.mjs). By AI agents, Wed Nov 11 2026. No macro, syntax, notation, axiom, sorry.
-/
import Derived.Test.YtojcjpdgjohldaaDoorRows
import GoSem.ClaimSeven
namespace Go.Proofs.YtojcjpdgjohldaaDoor
namespace Rows

/-- THE TIED CARD OF 'laws.FnExactRequestFault'. -/
def fnExactRequestFaultCard : Claim7 := { stood := { row := fnExactRequestFaultRow, standIns := [], harness := (true, "7bc21b476fec5ef70d2c9477c42c11148e52282d82ca51b82f2e8fb5d2112e8d"), looks := true }, kinds := [], alts := [], laidByText := true, laidKinds := [.data, .data, .sentinel, .sentinel, .sentinel, .sentinel, .pinned], laidTests := true, laidLooks := .later }
def FnExactRequestFaultCardSaid : Prop := Claim7.holds Tryd.pinned (.plain (OpenSpec.ofChange fnExactRequestFaultSpec)) fnExactRequestFaultCard

/-- THE TIED CARD OF 'laws.FnExactResponseFault'. -/
def fnExactResponseFaultCard : Claim7 := { stood := { row := fnExactResponseFaultRow, standIns := [], harness := (true, "7bc21b476fec5ef70d2c9477c42c11148e52282d82ca51b82f2e8fb5d2112e8d"), looks := true }, kinds := [], alts := [], laidByText := true, laidKinds := [.data, .data, .sentinel, .sentinel, .sentinel, .sentinel, .pinned], laidTests := true, laidLooks := .later }
def FnExactResponseFaultCardSaid : Prop := Claim7.holds Tryd.pinned (.plain (OpenSpec.ofChange fnExactResponseFaultSpec)) fnExactResponseFaultCard

/-- THE SECOND FORM's CARD OF 'laws.FnExactRequestFault'. -/
def fnExactRequestFaultUptoCard : Claim7 := { stood := { row := fnExactRequestFaultUptoRow, standIns := [], harness := (true, "7bc21b476fec5ef70d2c9477c42c11148e52282d82ca51b82f2e8fb5d2112e8d"), looks := true }, kinds := [], alts := [], laidByText := true, laidKinds := [.data, .data, .sentinel, .sentinel, .sentinel, .sentinel, .pinned], laidTests := true, laidLooks := .later }
def FnExactRequestFaultUptoCardSaid : Prop := Claim7.holds Tryd.pinned (.plain (OpenSpec.upto fnExactRequestFaultSpec)) fnExactRequestFaultUptoCard

/-- THE SECOND FORM's CARD OF 'laws.FnExactResponseFault'. -/
def fnExactResponseFaultUptoCard : Claim7 := { stood := { row := fnExactResponseFaultUptoRow, standIns := [], harness := (true, "7bc21b476fec5ef70d2c9477c42c11148e52282d82ca51b82f2e8fb5d2112e8d"), looks := true }, kinds := [], alts := [], laidByText := true, laidKinds := [.data, .data, .sentinel, .sentinel, .sentinel, .sentinel, .pinned], laidTests := true, laidLooks := .later }
def FnExactResponseFaultUptoCardSaid : Prop := Claim7.holds Tryd.pinned (.plain (OpenSpec.upto fnExactResponseFaultSpec)) fnExactResponseFaultUptoCard
end Rows
end Go.Proofs.YtojcjpdgjohldaaDoor
