/-
  DERIVED. GIVEN WITH THE SEED: THE CARDS: each row of YthlenlijdlfdeaaDoorRows.lean that lists a variable, with what it lists TIED to the program's text (the seventh form; the later family's looks); each row that meets fmt, with fmt's text TOLD by the authors' own Lean function (tested against real Go, not proved from fmt's source: count such statements apart). THE CARD IS WHAT COUNTS. Prove the row's statement (the work); the ties are given (YthlenlijdlfdeaaDoorTie.lean); close each card by the builder's one call (the guide's Derived/Test/ToyasCard.lean, 'card_holds'). Laid BY PROGRAM, IN A SANDBOX (cutbox-door.mjs). By AI agents, Wed Nov 11 2026. No macro, syntax, notation, axiom, sorry.
-/
import Derived.Test.YthlenlijdlfdeaaDoorRows
import GoSem.ClaimSeven
namespace Go.Proofs.YthlenlijdlfdeaaDoor
namespace Rows

/-- THE TIED CARD OF 'laws.FnHeads'. -/
def fnHeadsCard : Claim7 := { stood := { row := fnHeadsRow, standIns := [], harness := (true, "0918588f631f4ad83dae2593f4a1691947cab22eabe2f0a209b7deb675c03064"), looks := false }, kinds := [], alts := [], laidByText := true, laidKinds := [.data, .data, .pinned], laidTests := true, laidLooks := .later }
def FnHeadsCardSaid : Prop := Claim7.holds Tryd.pinned (.plain (OpenSpec.ofChange fnHeadsSpec)) fnHeadsCard

/-- THE TIED CARD OF 'laws.FnExactHeadersFault'. -/
def fnExactHeadersFaultCard : Claim7 := { stood := { row := fnExactHeadersFaultRow, standIns := [], harness := (true, "0918588f631f4ad83dae2593f4a1691947cab22eabe2f0a209b7deb675c03064"), looks := false }, kinds := [], alts := [], laidByText := true, laidKinds := [.data, .data, .pinned], laidTests := true, laidLooks := .later }
def FnExactHeadersFaultCardSaid : Prop := Claim7.holds Tryd.pinned (.plain (OpenSpec.ofChange fnExactHeadersFaultSpec)) fnExactHeadersFaultCard

/-- THE TIED CARD OF 'laws.FnExactPackHeaders'. -/
def fnExactPackHeadersCard : Claim7 := { stood := { row := fnExactPackHeadersRow, standIns := [], harness := (true, "0918588f631f4ad83dae2593f4a1691947cab22eabe2f0a209b7deb675c03064"), looks := false }, kinds := [], alts := [], laidByText := true, laidKinds := [.data, .data, .pinned], laidTests := true, laidLooks := .later }
def FnExactPackHeadersCardSaid : Prop := Claim7.holds Tryd.pinned (.plain (OpenSpec.ofChange fnExactPackHeadersSpec)) fnExactPackHeadersCard

/-- THE TIED CARD OF 'laws.FnExactReadHeaders'. -/
def fnExactReadHeadersCard : Claim7 := { stood := { row := fnExactReadHeadersRow, standIns := [], harness := (true, "0918588f631f4ad83dae2593f4a1691947cab22eabe2f0a209b7deb675c03064"), looks := false }, kinds := [], alts := [], laidByText := true, laidKinds := [.data, .data, .pinned], laidTests := true, laidLooks := .later }
def FnExactReadHeadersCardSaid : Prop := Claim7.holds Tryd.pinned (.plain (OpenSpec.ofChange fnExactReadHeadersSpec)) fnExactReadHeadersCard

/-- THE TIED CARD OF 'laws.FnExactJoinHeader'. -/
def fnExactJoinHeaderCard : Claim7 := { stood := { row := fnExactJoinHeaderRow, standIns := [], harness := (true, "0918588f631f4ad83dae2593f4a1691947cab22eabe2f0a209b7deb675c03064"), looks := false }, kinds := [], alts := [], laidByText := true, laidKinds := [.data, .data, .pinned], laidTests := true, laidLooks := .later }
def FnExactJoinHeaderCardSaid : Prop := Claim7.holds Tryd.pinned (.plain (OpenSpec.ofChange fnExactJoinHeaderSpec)) fnExactJoinHeaderCard

/-- THE TIED CARD OF 'laws.FnExactSetHeader'. -/
def fnExactSetHeaderCard : Claim7 := { stood := { row := fnExactSetHeaderRow, standIns := [], harness := (true, "0918588f631f4ad83dae2593f4a1691947cab22eabe2f0a209b7deb675c03064"), looks := false }, kinds := [], alts := [], laidByText := true, laidKinds := [.data, .data, .pinned], laidTests := true, laidLooks := .later }
def FnExactSetHeaderCardSaid : Prop := Claim7.holds Tryd.pinned (.plain (OpenSpec.ofChange fnExactSetHeaderSpec)) fnExactSetHeaderCard

/-- THE TIED CARD OF 'laws.FnExactDropHeader'. -/
def fnExactDropHeaderCard : Claim7 := { stood := { row := fnExactDropHeaderRow, standIns := [], harness := (true, "0918588f631f4ad83dae2593f4a1691947cab22eabe2f0a209b7deb675c03064"), looks := false }, kinds := [], alts := [], laidByText := true, laidKinds := [.data, .data, .pinned], laidTests := true, laidLooks := .later }
def FnExactDropHeaderCardSaid : Prop := Claim7.holds Tryd.pinned (.plain (OpenSpec.ofChange fnExactDropHeaderSpec)) fnExactDropHeaderCard

/-- THE SECOND FORM's CARD OF 'laws.FnHeads'. -/
def fnHeadsUptoCard : Claim7 := { stood := { row := fnHeadsUptoRow, standIns := [], harness := (true, "0918588f631f4ad83dae2593f4a1691947cab22eabe2f0a209b7deb675c03064"), looks := false }, kinds := [], alts := [], laidByText := true, laidKinds := [.data, .data, .pinned], laidTests := true, laidLooks := .later }
def FnHeadsUptoCardSaid : Prop := Claim7.holds Tryd.pinned (.plain (OpenSpec.upto fnHeadsSpec)) fnHeadsUptoCard

/-- THE SECOND FORM's CARD OF 'laws.FnExactHeadersFault'. -/
def fnExactHeadersFaultUptoCard : Claim7 := { stood := { row := fnExactHeadersFaultUptoRow, standIns := [], harness := (true, "0918588f631f4ad83dae2593f4a1691947cab22eabe2f0a209b7deb675c03064"), looks := false }, kinds := [], alts := [], laidByText := true, laidKinds := [.data, .data, .pinned], laidTests := true, laidLooks := .later }
def FnExactHeadersFaultUptoCardSaid : Prop := Claim7.holds Tryd.pinned (.plain (OpenSpec.upto fnExactHeadersFaultSpec)) fnExactHeadersFaultUptoCard

/-- THE SECOND FORM's CARD OF 'laws.FnExactPackHeaders'. -/
def fnExactPackHeadersUptoCard : Claim7 := { stood := { row := fnExactPackHeadersUptoRow, standIns := [], harness := (true, "0918588f631f4ad83dae2593f4a1691947cab22eabe2f0a209b7deb675c03064"), looks := false }, kinds := [], alts := [], laidByText := true, laidKinds := [.data, .data, .pinned], laidTests := true, laidLooks := .later }
def FnExactPackHeadersUptoCardSaid : Prop := Claim7.holds Tryd.pinned (.plain (OpenSpec.upto fnExactPackHeadersSpec)) fnExactPackHeadersUptoCard

/-- THE SECOND FORM's CARD OF 'laws.FnExactReadHeaders'. -/
def fnExactReadHeadersUptoCard : Claim7 := { stood := { row := fnExactReadHeadersUptoRow, standIns := [], harness := (true, "0918588f631f4ad83dae2593f4a1691947cab22eabe2f0a209b7deb675c03064"), looks := false }, kinds := [], alts := [], laidByText := true, laidKinds := [.data, .data, .pinned], laidTests := true, laidLooks := .later }
def FnExactReadHeadersUptoCardSaid : Prop := Claim7.holds Tryd.pinned (.plain (OpenSpec.upto fnExactReadHeadersSpec)) fnExactReadHeadersUptoCard

/-- THE SECOND FORM's CARD OF 'laws.FnExactJoinHeader'. -/
def fnExactJoinHeaderUptoCard : Claim7 := { stood := { row := fnExactJoinHeaderUptoRow, standIns := [], harness := (true, "0918588f631f4ad83dae2593f4a1691947cab22eabe2f0a209b7deb675c03064"), looks := false }, kinds := [], alts := [], laidByText := true, laidKinds := [.data, .data, .pinned], laidTests := true, laidLooks := .later }
def FnExactJoinHeaderUptoCardSaid : Prop := Claim7.holds Tryd.pinned (.plain (OpenSpec.upto fnExactJoinHeaderSpec)) fnExactJoinHeaderUptoCard

/-- THE SECOND FORM's CARD OF 'laws.FnExactSetHeader'. -/
def fnExactSetHeaderUptoCard : Claim7 := { stood := { row := fnExactSetHeaderUptoRow, standIns := [], harness := (true, "0918588f631f4ad83dae2593f4a1691947cab22eabe2f0a209b7deb675c03064"), looks := false }, kinds := [], alts := [], laidByText := true, laidKinds := [.data, .data, .pinned], laidTests := true, laidLooks := .later }
def FnExactSetHeaderUptoCardSaid : Prop := Claim7.holds Tryd.pinned (.plain (OpenSpec.upto fnExactSetHeaderSpec)) fnExactSetHeaderUptoCard

/-- THE SECOND FORM's CARD OF 'laws.FnExactDropHeader'. -/
def fnExactDropHeaderUptoCard : Claim7 := { stood := { row := fnExactDropHeaderUptoRow, standIns := [], harness := (true, "0918588f631f4ad83dae2593f4a1691947cab22eabe2f0a209b7deb675c03064"), looks := false }, kinds := [], alts := [], laidByText := true, laidKinds := [.data, .data, .pinned], laidTests := true, laidLooks := .later }
def FnExactDropHeaderUptoCardSaid : Prop := Claim7.holds Tryd.pinned (.plain (OpenSpec.upto fnExactDropHeaderSpec)) fnExactDropHeaderUptoCard
end Rows
end Go.Proofs.YthlenlijdlfdeaaDoor
