/-
  DERIVED. GIVEN WITH THE SEED: THE CARDS: each row of YtkchefbhpbpanaaGreatDoorRows.lean that lists a variable, with what it lists TIED to the program's text (the seventh form; the later family's looks); each row that meets fmt, with fmt's text TOLD by the authors' own Lean function (tested against real Go, not proved from fmt's source: count such statements apart). THE CARD IS WHAT COUNTS. Prove the row's statement (the work); the ties are given (YtkchefbhpbpanaaGreatDoorTie.lean); close each card by the builder's one call (the guide's Derived/Test/ToyasCard.lean, 'card_holds'). Laid BY PROGRAM, IN A SANDBOX (cutbox-door.mjs). By AI agents, Wed Nov 11 2026. No macro, syntax, notation, axiom, sorry.
-/
import Derived.Test.YtkchefbhpbpanaaGreatDoorRows
import GoSem.ClaimSeven
namespace Go.Proofs.YtkchefbhpbpanaaGreatDoor
namespace Rows

/-- THE TIED CARD OF 'laws.FnExactJoinFlight'. -/
def fnExactJoinFlightCard : Claim7 := { stood := { row := fnExactJoinFlightRow, standIns := [], harness := (true, "eb70053fa137dc5416f28cb6f448701c25175be5d09a66005b85615bc2656791"), looks := true }, kinds := [], alts := [], laidByText := true, laidKinds := [.data, .data, .sentinel, .sentinel, .sentinel, .sentinel, .pinned], laidTests := true, laidLooks := .later }
def FnExactJoinFlightCardSaid : Prop := Claim7.holds Tryz.pinned (.plain (OpenSpec.ofChange fnExactJoinFlightSpec)) fnExactJoinFlightCard

/-- THE TIED CARD OF 'laws.FnExactExpireWaiters'. -/
def fnExactExpireWaitersCard : Claim7 := { stood := { row := fnExactExpireWaitersRow, standIns := [], harness := (true, "eb70053fa137dc5416f28cb6f448701c25175be5d09a66005b85615bc2656791"), looks := true }, kinds := [], alts := [], laidByText := true, laidKinds := [.data, .data, .sentinel, .sentinel, .sentinel, .sentinel, .pinned], laidTests := true, laidLooks := .later }
def FnExactExpireWaitersCardSaid : Prop := Claim7.holds Tryz.pinned (.plain (OpenSpec.ofChange fnExactExpireWaitersSpec)) fnExactExpireWaitersCard

/-- THE TIED CARD OF 'laws.FnFlights'. -/
def fnFlightsCard : Claim7 := { stood := { row := fnFlightsRow, standIns := [], harness := (true, "eb70053fa137dc5416f28cb6f448701c25175be5d09a66005b85615bc2656791"), looks := true }, kinds := [], alts := [], laidByText := true, laidKinds := [.data, .data, .sentinel, .sentinel, .sentinel, .sentinel, .pinned], laidTests := true, laidLooks := .later }
def FnFlightsCardSaid : Prop := Claim7.holds Tryz.pinned (.plain (OpenSpec.ofChange fnFlightsSpec)) fnFlightsCard

/-- THE TIED CARD OF 'laws.FnFinds'. -/
def fnFindsCard : Claim7 := { stood := { row := fnFindsRow, standIns := [], harness := (true, "eb70053fa137dc5416f28cb6f448701c25175be5d09a66005b85615bc2656791"), looks := true }, kinds := [], alts := [], laidByText := true, laidKinds := [.data, .data, .sentinel, .sentinel, .sentinel, .sentinel, .pinned], laidTests := true, laidLooks := .later }
def FnFindsCardSaid : Prop := Claim7.holds Tryz.pinned (.plain (OpenSpec.ofChange fnFindsSpec)) fnFindsCard

/-- THE SECOND FORM's CARD OF 'laws.FnExactJoinFlight'. -/
def fnExactJoinFlightUptoCard : Claim7 := { stood := { row := fnExactJoinFlightUptoRow, standIns := [], harness := (true, "eb70053fa137dc5416f28cb6f448701c25175be5d09a66005b85615bc2656791"), looks := true }, kinds := [], alts := [], laidByText := true, laidKinds := [.data, .data, .sentinel, .sentinel, .sentinel, .sentinel, .pinned], laidTests := true, laidLooks := .later }
def FnExactJoinFlightUptoCardSaid : Prop := Claim7.holds Tryz.pinned (.plain (OpenSpec.upto fnExactJoinFlightSpec)) fnExactJoinFlightUptoCard

/-- THE SECOND FORM's CARD OF 'laws.FnExactExpireWaiters'. -/
def fnExactExpireWaitersUptoCard : Claim7 := { stood := { row := fnExactExpireWaitersUptoRow, standIns := [], harness := (true, "eb70053fa137dc5416f28cb6f448701c25175be5d09a66005b85615bc2656791"), looks := true }, kinds := [], alts := [], laidByText := true, laidKinds := [.data, .data, .sentinel, .sentinel, .sentinel, .sentinel, .pinned], laidTests := true, laidLooks := .later }
def FnExactExpireWaitersUptoCardSaid : Prop := Claim7.holds Tryz.pinned (.plain (OpenSpec.upto fnExactExpireWaitersSpec)) fnExactExpireWaitersUptoCard

/-- THE SECOND FORM's CARD OF 'laws.FnFlights'. -/
def fnFlightsUptoCard : Claim7 := { stood := { row := fnFlightsUptoRow, standIns := [], harness := (true, "eb70053fa137dc5416f28cb6f448701c25175be5d09a66005b85615bc2656791"), looks := true }, kinds := [], alts := [], laidByText := true, laidKinds := [.data, .data, .sentinel, .sentinel, .sentinel, .sentinel, .pinned], laidTests := true, laidLooks := .later }
def FnFlightsUptoCardSaid : Prop := Claim7.holds Tryz.pinned (.plain (OpenSpec.upto fnFlightsSpec)) fnFlightsUptoCard

/-- THE SECOND FORM's CARD OF 'laws.FnFinds'. -/
def fnFindsUptoCard : Claim7 := { stood := { row := fnFindsUptoRow, standIns := [], harness := (true, "eb70053fa137dc5416f28cb6f448701c25175be5d09a66005b85615bc2656791"), looks := true }, kinds := [], alts := [], laidByText := true, laidKinds := [.data, .data, .sentinel, .sentinel, .sentinel, .sentinel, .pinned], laidTests := true, laidLooks := .later }
def FnFindsUptoCardSaid : Prop := Claim7.holds Tryz.pinned (.plain (OpenSpec.upto fnFindsSpec)) fnFindsUptoCard
end Rows
end Go.Proofs.YtkchefbhpbpanaaGreatDoor
