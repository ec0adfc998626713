/-
  DERIVED. GIVEN WITH THE SEED: THE CARDS: each row of YthiiaefdobpjhaaGreatDoorRows.lean that lists a variable, with what it lists TIED to the program's text (the seventh form; the later family's looks); each row that meets fmt, with fmt's text TOLD by the authors' own Lean function (tested against real Go, not proved from fmt's source: count such statements apart). THE CARD IS WHAT COUNTS. Prove the row's statement (the work); the ties are given (YthiiaefdobpjhaaGreatDoorTie.lean); close each card by the builder's one call (the guide's Derived/Test/ToyasCard.lean, 'card_holds'). Laid BY PROGRAM, IN A SANDBOX (cutbox-door.mjs). By AI agents, Wed Nov 11 2026. No macro, syntax, notation, axiom, sorry.
-/
import Derived.Test.YthiiaefdobpjhaaGreatDoorRows
import GoSem.ClaimSeven
namespace Go.Proofs.YthiiaefdobpjhaaGreatDoor
namespace Rows

/-- THE TIED CARD OF 'laws.FnExactEventFault'. -/
def fnExactEventFaultCard : Claim7 := { stood := { row := fnExactEventFaultRow, standIns := [], harness := (true, "bc6497b8653ee0c2606c03e5fe022daf874f54faa3a754f411a719e867fd1f45"), looks := true }, kinds := [], alts := [], laidByText := true, laidKinds := [.data, .data, .sentinel, .sentinel, .sentinel, .sentinel, .pinned], laidTests := true, laidLooks := .later }
def FnExactEventFaultCardSaid : Prop := Claim7.holds Tryz.pinned (.plain (OpenSpec.ofChange fnExactEventFaultSpec)) fnExactEventFaultCard

/-- THE SECOND FORM's CARD OF 'laws.FnExactEventFault'. -/
def fnExactEventFaultUptoCard : Claim7 := { stood := { row := fnExactEventFaultUptoRow, standIns := [], harness := (true, "bc6497b8653ee0c2606c03e5fe022daf874f54faa3a754f411a719e867fd1f45"), looks := true }, kinds := [], alts := [], laidByText := true, laidKinds := [.data, .data, .sentinel, .sentinel, .sentinel, .sentinel, .pinned], laidTests := true, laidLooks := .later }
def FnExactEventFaultUptoCardSaid : Prop := Claim7.holds Tryz.pinned (.plain (OpenSpec.upto fnExactEventFaultSpec)) fnExactEventFaultUptoCard
end Rows
end Go.Proofs.YthiiaefdobpjhaaGreatDoor
