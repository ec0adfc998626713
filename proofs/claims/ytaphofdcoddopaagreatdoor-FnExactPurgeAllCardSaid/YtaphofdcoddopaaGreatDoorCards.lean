/-
  DERIVED. GIVEN WITH THE SEED: THE CARDS: each row of YtaphofdcoddopaaGreatDoorRows.lean that lists a variable, with what it lists TIED to the program's text (the seventh form; the later family's looks); each row that meets fmt, with fmt's text TOLD by the authors' own Lean function (tested against real Go, not proved from fmt's source: count such statements apart). THE CARD IS WHAT COUNTS. Prove the row's statement (the work); the ties are given (YtaphofdcoddopaaGreatDoorTie.lean); close each card by the builder's one call (the guide's Derived/Test/ToyasCard.lean, 'card_holds'). Laid BY PROGRAM, IN A SANDBOX (cutbox-door.mjs). By AI agents, Wed Nov 11 2026. No macro, syntax, notation, axiom, sorry.
-/
import Derived.Test.YtaphofdcoddopaaGreatDoorRows
import GoSem.ClaimSeven
namespace Go.Proofs.YtaphofdcoddopaaGreatDoor
namespace Rows

/-- THE TIED CARD OF 'laws.FnExactDropEntry'. -/
def fnExactDropEntryCard : Claim7 := { stood := { row := fnExactDropEntryRow, standIns := [], harness := (true, "d5f786875ec3b1f49133f6b73e725810650090719d2edd1a2ae786468827a257"), looks := false }, kinds := [], alts := [], laidByText := true, laidKinds := [.data, .data, .pinned], laidTests := true, laidLooks := .later }
def FnExactDropEntryCardSaid : Prop := Claim7.holds Tryz.pinned (.plain (OpenSpec.ofChange fnExactDropEntrySpec)) fnExactDropEntryCard

/-- THE TIED CARD OF 'laws.FnExactPinEntry'. -/
def fnExactPinEntryCard : Claim7 := { stood := { row := fnExactPinEntryRow, standIns := [], harness := (true, "d5f786875ec3b1f49133f6b73e725810650090719d2edd1a2ae786468827a257"), looks := false }, kinds := [], alts := [], laidByText := true, laidKinds := [.data, .data, .pinned], laidTests := true, laidLooks := .later }
def FnExactPinEntryCardSaid : Prop := Claim7.holds Tryz.pinned (.plain (OpenSpec.ofChange fnExactPinEntrySpec)) fnExactPinEntryCard

/-- THE TIED CARD OF 'laws.FnExactTouchEntry'. -/
def fnExactTouchEntryCard : Claim7 := { stood := { row := fnExactTouchEntryRow, standIns := [], harness := (true, "d5f786875ec3b1f49133f6b73e725810650090719d2edd1a2ae786468827a257"), looks := false }, kinds := [], alts := [], laidByText := true, laidKinds := [.data, .data, .pinned], laidTests := true, laidLooks := .later }
def FnExactTouchEntryCardSaid : Prop := Claim7.holds Tryz.pinned (.plain (OpenSpec.ofChange fnExactTouchEntrySpec)) fnExactTouchEntryCard

/-- THE TIED CARD OF 'laws.FnExactPutEntry'. -/
def fnExactPutEntryCard : Claim7 := { stood := { row := fnExactPutEntryRow, standIns := [], harness := (true, "d5f786875ec3b1f49133f6b73e725810650090719d2edd1a2ae786468827a257"), looks := false }, kinds := [], alts := [], laidByText := true, laidKinds := [.data, .data, .pinned], laidTests := true, laidLooks := .later }
def FnExactPutEntryCardSaid : Prop := Claim7.holds Tryz.pinned (.plain (OpenSpec.ofChange fnExactPutEntrySpec)) fnExactPutEntryCard

/-- THE TIED CARD OF 'laws.FnExactKeysTagged'. -/
def fnExactKeysTaggedCard : Claim7 := { stood := { row := fnExactKeysTaggedRow, standIns := [], harness := (true, "d5f786875ec3b1f49133f6b73e725810650090719d2edd1a2ae786468827a257"), looks := false }, kinds := [], alts := [], laidByText := true, laidKinds := [.data, .data, .pinned], laidTests := true, laidLooks := .later }
def FnExactKeysTaggedCardSaid : Prop := Claim7.holds Tryz.pinned (.plain (OpenSpec.ofChange fnExactKeysTaggedSpec)) fnExactKeysTaggedCard

/-- THE TIED CARD OF 'laws.FnExactPurgeKey'. -/
def fnExactPurgeKeyCard : Claim7 := { stood := { row := fnExactPurgeKeyRow, standIns := [], harness := (true, "d5f786875ec3b1f49133f6b73e725810650090719d2edd1a2ae786468827a257"), looks := false }, kinds := [], alts := [], laidByText := true, laidKinds := [.data, .data, .pinned], laidTests := true, laidLooks := .later }
def FnExactPurgeKeyCardSaid : Prop := Claim7.holds Tryz.pinned (.plain (OpenSpec.ofChange fnExactPurgeKeySpec)) fnExactPurgeKeyCard

/-- THE TIED CARD OF 'laws.FnExactPurgeTag'. -/
def fnExactPurgeTagCard : Claim7 := { stood := { row := fnExactPurgeTagRow, standIns := [], harness := (true, "d5f786875ec3b1f49133f6b73e725810650090719d2edd1a2ae786468827a257"), looks := false }, kinds := [], alts := [], laidByText := true, laidKinds := [.data, .data, .pinned], laidTests := true, laidLooks := .later }
def FnExactPurgeTagCardSaid : Prop := Claim7.holds Tryz.pinned (.plain (OpenSpec.ofChange fnExactPurgeTagSpec)) fnExactPurgeTagCard

/-- THE TIED CARD OF 'laws.FnExactPurgeAll'. -/
def fnExactPurgeAllCard : Claim7 := { stood := { row := fnExactPurgeAllRow, standIns := [], harness := (true, "d5f786875ec3b1f49133f6b73e725810650090719d2edd1a2ae786468827a257"), looks := false }, kinds := [], alts := [], laidByText := true, laidKinds := [.data, .data, .pinned], laidTests := true, laidLooks := .later }
def FnExactPurgeAllCardSaid : Prop := Claim7.holds Tryz.pinned (.plain (OpenSpec.ofChange fnExactPurgeAllSpec)) fnExactPurgeAllCard

/-- THE SECOND FORM's CARD OF 'laws.FnExactDropEntry'. -/
def fnExactDropEntryUptoCard : Claim7 := { stood := { row := fnExactDropEntryUptoRow, standIns := [], harness := (true, "d5f786875ec3b1f49133f6b73e725810650090719d2edd1a2ae786468827a257"), looks := false }, kinds := [], alts := [], laidByText := true, laidKinds := [.data, .data, .pinned], laidTests := true, laidLooks := .later }
def FnExactDropEntryUptoCardSaid : Prop := Claim7.holds Tryz.pinned (.plain (OpenSpec.upto fnExactDropEntrySpec)) fnExactDropEntryUptoCard

/-- THE SECOND FORM's CARD OF 'laws.FnExactPinEntry'. -/
def fnExactPinEntryUptoCard : Claim7 := { stood := { row := fnExactPinEntryUptoRow, standIns := [], harness := (true, "d5f786875ec3b1f49133f6b73e725810650090719d2edd1a2ae786468827a257"), looks := false }, kinds := [], alts := [], laidByText := true, laidKinds := [.data, .data, .pinned], laidTests := true, laidLooks := .later }
def FnExactPinEntryUptoCardSaid : Prop := Claim7.holds Tryz.pinned (.plain (OpenSpec.upto fnExactPinEntrySpec)) fnExactPinEntryUptoCard

/-- THE SECOND FORM's CARD OF 'laws.FnExactTouchEntry'. -/
def fnExactTouchEntryUptoCard : Claim7 := { stood := { row := fnExactTouchEntryUptoRow, standIns := [], harness := (true, "d5f786875ec3b1f49133f6b73e725810650090719d2edd1a2ae786468827a257"), looks := false }, kinds := [], alts := [], laidByText := true, laidKinds := [.data, .data, .pinned], laidTests := true, laidLooks := .later }
def FnExactTouchEntryUptoCardSaid : Prop := Claim7.holds Tryz.pinned (.plain (OpenSpec.upto fnExactTouchEntrySpec)) fnExactTouchEntryUptoCard

/-- THE SECOND FORM's CARD OF 'laws.FnExactPutEntry'. -/
def fnExactPutEntryUptoCard : Claim7 := { stood := { row := fnExactPutEntryUptoRow, standIns := [], harness := (true, "d5f786875ec3b1f49133f6b73e725810650090719d2edd1a2ae786468827a257"), looks := false }, kinds := [], alts := [], laidByText := true, laidKinds := [.data, .data, .pinned], laidTests := true, laidLooks := .later }
def FnExactPutEntryUptoCardSaid : Prop := Claim7.holds Tryz.pinned (.plain (OpenSpec.upto fnExactPutEntrySpec)) fnExactPutEntryUptoCard

/-- THE SECOND FORM's CARD OF 'laws.FnExactKeysTagged'. -/
def fnExactKeysTaggedUptoCard : Claim7 := { stood := { row := fnExactKeysTaggedUptoRow, standIns := [], harness := (true, "d5f786875ec3b1f49133f6b73e725810650090719d2edd1a2ae786468827a257"), looks := false }, kinds := [], alts := [], laidByText := true, laidKinds := [.data, .data, .pinned], laidTests := true, laidLooks := .later }
def FnExactKeysTaggedUptoCardSaid : Prop := Claim7.holds Tryz.pinned (.plain (OpenSpec.upto fnExactKeysTaggedSpec)) fnExactKeysTaggedUptoCard

/-- THE SECOND FORM's CARD OF 'laws.FnExactPurgeKey'. -/
def fnExactPurgeKeyUptoCard : Claim7 := { stood := { row := fnExactPurgeKeyUptoRow, standIns := [], harness := (true, "d5f786875ec3b1f49133f6b73e725810650090719d2edd1a2ae786468827a257"), looks := false }, kinds := [], alts := [], laidByText := true, laidKinds := [.data, .data, .pinned], laidTests := true, laidLooks := .later }
def FnExactPurgeKeyUptoCardSaid : Prop := Claim7.holds Tryz.pinned (.plain (OpenSpec.upto fnExactPurgeKeySpec)) fnExactPurgeKeyUptoCard

/-- THE SECOND FORM's CARD OF 'laws.FnExactPurgeTag'. -/
def fnExactPurgeTagUptoCard : Claim7 := { stood := { row := fnExactPurgeTagUptoRow, standIns := [], harness := (true, "d5f786875ec3b1f49133f6b73e725810650090719d2edd1a2ae786468827a257"), looks := false }, kinds := [], alts := [], laidByText := true, laidKinds := [.data, .data, .pinned], laidTests := true, laidLooks := .later }
def FnExactPurgeTagUptoCardSaid : Prop := Claim7.holds Tryz.pinned (.plain (OpenSpec.upto fnExactPurgeTagSpec)) fnExactPurgeTagUptoCard

/-- THE SECOND FORM's CARD OF 'laws.FnExactPurgeAll'. -/
def fnExactPurgeAllUptoCard : Claim7 := { stood := { row := fnExactPurgeAllUptoRow, standIns := [], harness := (true, "d5f786875ec3b1f49133f6b73e725810650090719d2edd1a2ae786468827a257"), looks := false }, kinds := [], alts := [], laidByText := true, laidKinds := [.data, .data, .pinned], laidTests := true, laidLooks := .later }
def FnExactPurgeAllUptoCardSaid : Prop := Claim7.holds Tryz.pinned (.plain (OpenSpec.upto fnExactPurgeAllSpec)) fnExactPurgeAllUptoCard
end Rows
end Go.Proofs.YtaphofdcoddopaaGreatDoor
