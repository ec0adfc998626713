/-
  DERIVED. GIVEN WITH THE SEED: THE CARDS: each row of YtlbagfaiiileoaaDoorRows.lean that lists a variable, with what it lists TIED to the program's text (the seventh form; the later family's looks); each row that meets fmt, with fmt's text TOLD by the authors' own Lean function (tested against real Go, not proved from fmt's source: count such statements apart). THE CARD IS WHAT COUNTS. Prove the row's statement (the work); the ties are given (YtlbagfaiiileoaaDoorTie.lean); close each card by the builder's one call (the guide's Derived/Test/ToyasCard.lean, 'card_holds'). Laid BY PROGRAM, IN A SANDBOX (cutbox-door.mjs). By AI agents, Wed Nov 11 2026. No macro, syntax, notation, axiom, sorry.
-/
import Derived.Test.YtlbagfaiiileoaaDoorRows
import GoSem.ClaimSeven
namespace Go.Proofs.YtlbagfaiiileoaaDoor
namespace Rows

/-- THE TIED CARD OF 'laws.FnExactConfigFault'. -/
def fnExactConfigFaultCard : Claim7 := { stood := { row := fnExactConfigFaultRow, standIns := [], harness := (true, "057872207197c8a740eddae7c534f7d9dcbc0309e477a23cd59056489113f302"), looks := false }, kinds := [], alts := [], laidByText := true, laidKinds := [.data, .data, .pinned], laidTests := true, laidLooks := .later }
def FnExactConfigFaultCardSaid : Prop := Claim7.holds Tryd.pinned (.plain (OpenSpec.ofChange fnExactConfigFaultSpec)) fnExactConfigFaultCard

/-- THE SECOND FORM's CARD OF 'laws.FnExactConfigFault'. -/
def fnExactConfigFaultUptoCard : Claim7 := { stood := { row := fnExactConfigFaultUptoRow, standIns := [], harness := (true, "057872207197c8a740eddae7c534f7d9dcbc0309e477a23cd59056489113f302"), looks := false }, kinds := [], alts := [], laidByText := true, laidKinds := [.data, .data, .pinned], laidTests := true, laidLooks := .later }
def FnExactConfigFaultUptoCardSaid : Prop := Claim7.holds Tryd.pinned (.plain (OpenSpec.upto fnExactConfigFaultSpec)) fnExactConfigFaultUptoCard
end Rows
end Go.Proofs.YtlbagfaiiileoaaDoor
