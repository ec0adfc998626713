/-
  DERIVED. GIVEN WITH THE SEED: THE CARDS: each row of YtgejegmilkmiiaaGreatDoorRows.lean that lists a variable, with what it lists TIED to the program's text (the seventh form; the later family's looks); each row that meets fmt, with fmt's text TOLD by the authors' own Lean function (tested against real Go, not proved from fmt's source: count such statements apart). THE CARD IS WHAT COUNTS. Prove the row's statement (the work); the ties are given (YtgejegmilkmiiaaGreatDoorTie.lean); close each card by the builder's one call (the guide's Derived/Test/ToyasCard.lean, 'card_holds'). Laid BY PROGRAM, IN A SANDBOX (cutbox-door.mjs). By AI agents, Wed Nov 11 2026. No macro, syntax, notation, axiom, sorry.
-/
import Derived.Test.YtgejegmilkmiiaaGreatDoorRows
import GoSem.ClaimSeven
namespace Go.Proofs.YtgejegmilkmiiaaGreatDoor
namespace Rows

/-- THE TIED CARD OF 'laws.FnFlights'. -/
def fnFlightsCard : Claim7 := { stood := { row := fnFlightsRow, standIns := [], harness := (true, "ee11061839e196ac4a9179995159b666c6241ba68f7a50a475fcbaa8dcce723e"), looks := true }, kinds := [], alts := [], laidByText := true, laidKinds := [.data, .data, .sentinel, .sentinel, .sentinel, .sentinel, .pinned], laidTests := true, laidLooks := .later }
def FnFlightsCardSaid : Prop := Claim7.holds Tryz.pinned (.plain (OpenSpec.ofChange fnFlightsSpec)) fnFlightsCard

/-- THE TIED CARD OF 'laws.FnFinds'. -/
def fnFindsCard : Claim7 := { stood := { row := fnFindsRow, standIns := [], harness := (true, "ee11061839e196ac4a9179995159b666c6241ba68f7a50a475fcbaa8dcce723e"), looks := true }, kinds := [], alts := [], laidByText := true, laidKinds := [.data, .data, .sentinel, .sentinel, .sentinel, .sentinel, .pinned], laidTests := true, laidLooks := .later }
def FnFindsCardSaid : Prop := Claim7.holds Tryz.pinned (.plain (OpenSpec.ofChange fnFindsSpec)) fnFindsCard

/-- THE TIED CARD OF 'laws.FnExactFlightFault'. -/
def fnExactFlightFaultCard : Claim7 := { stood := { row := fnExactFlightFaultRow, standIns := [], harness := (true, "ee11061839e196ac4a9179995159b666c6241ba68f7a50a475fcbaa8dcce723e"), looks := true }, kinds := [], alts := [], laidByText := true, laidKinds := [.data, .data, .sentinel, .sentinel, .sentinel, .sentinel, .pinned], laidTests := true, laidLooks := .later }
def FnExactFlightFaultCardSaid : Prop := Claim7.holds Tryz.pinned (.plain (OpenSpec.ofChange fnExactFlightFaultSpec)) fnExactFlightFaultCard

/-- THE TIED CARD OF 'laws.FnExactFlightsFault'. -/
def fnExactFlightsFaultCard : Claim7 := { stood := { row := fnExactFlightsFaultRow, standIns := [], harness := (true, "ee11061839e196ac4a9179995159b666c6241ba68f7a50a475fcbaa8dcce723e"), looks := true }, kinds := [], alts := [], laidByText := true, laidKinds := [.data, .data, .sentinel, .sentinel, .sentinel, .sentinel, .pinned], laidTests := true, laidLooks := .later }
def FnExactFlightsFaultCardSaid : Prop := Claim7.holds Tryz.pinned (.plain (OpenSpec.ofChange fnExactFlightsFaultSpec)) fnExactFlightsFaultCard

/-- THE TIED CARD OF 'laws.FnExactFlightOf'. -/
def fnExactFlightOfCard : Claim7 := { stood := { row := fnExactFlightOfRow, standIns := [], harness := (true, "ee11061839e196ac4a9179995159b666c6241ba68f7a50a475fcbaa8dcce723e"), looks := true }, kinds := [], alts := [], laidByText := true, laidKinds := [.data, .data, .sentinel, .sentinel, .sentinel, .sentinel, .pinned], laidTests := true, laidLooks := .later }
def FnExactFlightOfCardSaid : Prop := Claim7.holds Tryz.pinned (.plain (OpenSpec.ofChange fnExactFlightOfSpec)) fnExactFlightOfCard

/-- THE TIED CARD OF 'laws.FnExactFlightBy'. -/
def fnExactFlightByCard : Claim7 := { stood := { row := fnExactFlightByRow, standIns := [], harness := (true, "ee11061839e196ac4a9179995159b666c6241ba68f7a50a475fcbaa8dcce723e"), looks := true }, kinds := [], alts := [], laidByText := true, laidKinds := [.data, .data, .sentinel, .sentinel, .sentinel, .sentinel, .pinned], laidTests := true, laidLooks := .later }
def FnExactFlightByCardSaid : Prop := Claim7.holds Tryz.pinned (.plain (OpenSpec.ofChange fnExactFlightBySpec)) fnExactFlightByCard

/-- THE TIED CARD OF 'laws.FnExactJoinFlight'. -/
def fnExactJoinFlightCard : Claim7 := { stood := { row := fnExactJoinFlightRow, standIns := [], harness := (true, "ee11061839e196ac4a9179995159b666c6241ba68f7a50a475fcbaa8dcce723e"), looks := true }, kinds := [], alts := [], laidByText := true, laidKinds := [.data, .data, .sentinel, .sentinel, .sentinel, .sentinel, .pinned], laidTests := true, laidLooks := .later }
def FnExactJoinFlightCardSaid : Prop := Claim7.holds Tryz.pinned (.plain (OpenSpec.ofChange fnExactJoinFlightSpec)) fnExactJoinFlightCard

/-- THE TIED CARD OF 'laws.FnExactExpireWaiters'. -/
def fnExactExpireWaitersCard : Claim7 := { stood := { row := fnExactExpireWaitersRow, standIns := [], harness := (true, "ee11061839e196ac4a9179995159b666c6241ba68f7a50a475fcbaa8dcce723e"), looks := true }, kinds := [], alts := [], laidByText := true, laidKinds := [.data, .data, .sentinel, .sentinel, .sentinel, .sentinel, .pinned], laidTests := true, laidLooks := .later }
def FnExactExpireWaitersCardSaid : Prop := Claim7.holds Tryz.pinned (.plain (OpenSpec.ofChange fnExactExpireWaitersSpec)) fnExactExpireWaitersCard

/-- THE SECOND FORM's CARD OF 'laws.FnFlights'. -/
def fnFlightsUptoCard : Claim7 := { stood := { row := fnFlightsUptoRow, standIns := [], harness := (true, "ee11061839e196ac4a9179995159b666c6241ba68f7a50a475fcbaa8dcce723e"), looks := true }, kinds := [], alts := [], laidByText := true, laidKinds := [.data, .data, .sentinel, .sentinel, .sentinel, .sentinel, .pinned], laidTests := true, laidLooks := .later }
def FnFlightsUptoCardSaid : Prop := Claim7.holds Tryz.pinned (.plain (OpenSpec.upto fnFlightsSpec)) fnFlightsUptoCard

/-- THE SECOND FORM's CARD OF 'laws.FnFinds'. -/
def fnFindsUptoCard : Claim7 := { stood := { row := fnFindsUptoRow, standIns := [], harness := (true, "ee11061839e196ac4a9179995159b666c6241ba68f7a50a475fcbaa8dcce723e"), looks := true }, kinds := [], alts := [], laidByText := true, laidKinds := [.data, .data, .sentinel, .sentinel, .sentinel, .sentinel, .pinned], laidTests := true, laidLooks := .later }
def FnFindsUptoCardSaid : Prop := Claim7.holds Tryz.pinned (.plain (OpenSpec.upto fnFindsSpec)) fnFindsUptoCard

/-- THE SECOND FORM's CARD OF 'laws.FnExactFlightFault'. -/
def fnExactFlightFaultUptoCard : Claim7 := { stood := { row := fnExactFlightFaultUptoRow, standIns := [], harness := (true, "ee11061839e196ac4a9179995159b666c6241ba68f7a50a475fcbaa8dcce723e"), looks := true }, kinds := [], alts := [], laidByText := true, laidKinds := [.data, .data, .sentinel, .sentinel, .sentinel, .sentinel, .pinned], laidTests := true, laidLooks := .later }
def FnExactFlightFaultUptoCardSaid : Prop := Claim7.holds Tryz.pinned (.plain (OpenSpec.upto fnExactFlightFaultSpec)) fnExactFlightFaultUptoCard

/-- THE SECOND FORM's CARD OF 'laws.FnExactFlightsFault'. -/
def fnExactFlightsFaultUptoCard : Claim7 := { stood := { row := fnExactFlightsFaultUptoRow, standIns := [], harness := (true, "ee11061839e196ac4a9179995159b666c6241ba68f7a50a475fcbaa8dcce723e"), looks := true }, kinds := [], alts := [], laidByText := true, laidKinds := [.data, .data, .sentinel, .sentinel, .sentinel, .sentinel, .pinned], laidTests := true, laidLooks := .later }
def FnExactFlightsFaultUptoCardSaid : Prop := Claim7.holds Tryz.pinned (.plain (OpenSpec.upto fnExactFlightsFaultSpec)) fnExactFlightsFaultUptoCard

/-- THE SECOND FORM's CARD OF 'laws.FnExactFlightOf'. -/
def fnExactFlightOfUptoCard : Claim7 := { stood := { row := fnExactFlightOfUptoRow, standIns := [], harness := (true, "ee11061839e196ac4a9179995159b666c6241ba68f7a50a475fcbaa8dcce723e"), looks := true }, kinds := [], alts := [], laidByText := true, laidKinds := [.data, .data, .sentinel, .sentinel, .sentinel, .sentinel, .pinned], laidTests := true, laidLooks := .later }
def FnExactFlightOfUptoCardSaid : Prop := Claim7.holds Tryz.pinned (.plain (OpenSpec.upto fnExactFlightOfSpec)) fnExactFlightOfUptoCard

/-- THE SECOND FORM's CARD OF 'laws.FnExactFlightBy'. -/
def fnExactFlightByUptoCard : Claim7 := { stood := { row := fnExactFlightByUptoRow, standIns := [], harness := (true, "ee11061839e196ac4a9179995159b666c6241ba68f7a50a475fcbaa8dcce723e"), looks := true }, kinds := [], alts := [], laidByText := true, laidKinds := [.data, .data, .sentinel, .sentinel, .sentinel, .sentinel, .pinned], laidTests := true, laidLooks := .later }
def FnExactFlightByUptoCardSaid : Prop := Claim7.holds Tryz.pinned (.plain (OpenSpec.upto fnExactFlightBySpec)) fnExactFlightByUptoCard

/-- THE SECOND FORM's CARD OF 'laws.FnExactJoinFlight'. -/
def fnExactJoinFlightUptoCard : Claim7 := { stood := { row := fnExactJoinFlightUptoRow, standIns := [], harness := (true, "ee11061839e196ac4a9179995159b666c6241ba68f7a50a475fcbaa8dcce723e"), looks := true }, kinds := [], alts := [], laidByText := true, laidKinds := [.data, .data, .sentinel, .sentinel, .sentinel, .sentinel, .pinned], laidTests := true, laidLooks := .later }
def FnExactJoinFlightUptoCardSaid : Prop := Claim7.holds Tryz.pinned (.plain (OpenSpec.upto fnExactJoinFlightSpec)) fnExactJoinFlightUptoCard

/-- THE SECOND FORM's CARD OF 'laws.FnExactExpireWaiters'. -/
def fnExactExpireWaitersUptoCard : Claim7 := { stood := { row := fnExactExpireWaitersUptoRow, standIns := [], harness := (true, "ee11061839e196ac4a9179995159b666c6241ba68f7a50a475fcbaa8dcce723e"), looks := true }, kinds := [], alts := [], laidByText := true, laidKinds := [.data, .data, .sentinel, .sentinel, .sentinel, .sentinel, .pinned], laidTests := true, laidLooks := .later }
def FnExactExpireWaitersUptoCardSaid : Prop := Claim7.holds Tryz.pinned (.plain (OpenSpec.upto fnExactExpireWaitersSpec)) fnExactExpireWaitersUptoCard
end Rows
end Go.Proofs.YtgejegmilkmiiaaGreatDoor
