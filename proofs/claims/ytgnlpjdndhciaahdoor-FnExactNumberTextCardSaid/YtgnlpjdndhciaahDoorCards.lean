/-
  DERIVED. GIVEN WITH THE SEED: THE CARDS: each row of YtgnlpjdndhciaahDoorRows.lean that lists a variable, with what it lists TIED to the program's text (the seventh form; the later family's looks); each row that meets fmt, with fmt's text TOLD by the authors' own Lean function (tested against real Go, not proved from fmt's source: count such statements apart). THE CARD IS WHAT COUNTS. Prove the row's statement (the work); the ties are given (YtgnlpjdndhciaahDoorTie.lean); close each card by the builder's one call (the guide's Derived/Test/ToyasCard.lean, 'card_holds'). Laid BY PROGRAM, IN A SANDBOX (cutbox-door.mjs). By AI agents, Wed Nov 11 2026. No macro, syntax, notation, axiom, sorry.
-/
import Derived.Test.YtgnlpjdndhciaahDoorRows
import GoSem.ClaimSeven
namespace Go.Proofs.YtgnlpjdndhciaahDoor
namespace Rows

/-- THE TIED CARD OF 'laws.FnExactTrimText'. -/
def fnExactTrimTextCard : Claim7 := { stood := { row := fnExactTrimTextRow, standIns := [], harness := (true, "1dd024e70007d8472974a77866219df7d2c2c15ee3accc34aab42df13eb5aeaa"), looks := false }, kinds := [], alts := [], laidByText := true, laidKinds := [.data, .pinned], laidTests := true, laidLooks := .later }
def FnExactTrimTextCardSaid : Prop := Claim7.holds Tryd.pinned (.plain (OpenSpec.ofChange fnExactTrimTextSpec)) fnExactTrimTextCard

/-- THE TIED CARD OF 'laws.FnExactNumberText'. -/
def fnExactNumberTextCard : Claim7 := { stood := { row := fnExactNumberTextRow, standIns := [], harness := (true, "1dd024e70007d8472974a77866219df7d2c2c15ee3accc34aab42df13eb5aeaa"), looks := false }, kinds := [], alts := [], laidByText := true, laidKinds := [.data, .data, .data], laidTests := true, laidLooks := .later }
def FnExactNumberTextCardSaid : Prop := Claim7.holds Tryd.pinned (.plain (OpenSpec.ofChange fnExactNumberTextSpec)) fnExactNumberTextCard

/-- THE SECOND FORM's CARD OF 'laws.FnExactTrimText'. -/
def fnExactTrimTextUptoCard : Claim7 := { stood := { row := fnExactTrimTextUptoRow, standIns := [], harness := (true, "1dd024e70007d8472974a77866219df7d2c2c15ee3accc34aab42df13eb5aeaa"), looks := false }, kinds := [], alts := [], laidByText := true, laidKinds := [.data, .pinned], laidTests := true, laidLooks := .later }
def FnExactTrimTextUptoCardSaid : Prop := Claim7.holds Tryd.pinned (.plain (OpenSpec.upto fnExactTrimTextSpec)) fnExactTrimTextUptoCard

/-- THE SECOND FORM's CARD OF 'laws.FnExactNumberText'. -/
def fnExactNumberTextUptoCard : Claim7 := { stood := { row := fnExactNumberTextUptoRow, standIns := [], harness := (true, "1dd024e70007d8472974a77866219df7d2c2c15ee3accc34aab42df13eb5aeaa"), looks := false }, kinds := [], alts := [], laidByText := true, laidKinds := [.data, .data, .data], laidTests := true, laidLooks := .later }
def FnExactNumberTextUptoCardSaid : Prop := Claim7.holds Tryd.pinned (.plain (OpenSpec.upto fnExactNumberTextSpec)) fnExactNumberTextUptoCard
end Rows
end Go.Proofs.YtgnlpjdndhciaahDoor
