/-
  DERIVED. GIVEN WITH THE SEED: THE CARDS: each row of YtgfbahjpaaanoaaGreatDoorRows.lean that lists a variable, with what it lists TIED to the program's text (the seventh form; the later family's looks); each row that meets fmt, with fmt's text TOLD by the authors' own Lean function (tested against real Go, not proved from fmt's source: count such statements apart). THE CARD IS WHAT COUNTS. Prove the row's statement (the work); the ties are given (YtgfbahjpaaanoaaGreatDoorTie.lean); close each card by the builder's one call (the guide's Derived/Test/ToyasCard.lean, 'card_holds'). Laid BY PROGRAM, IN A SANDBOX (cutbox-door.mjs). By AI agents, Wed Nov 11 2026. No macro, syntax, notation, axiom, sorry.
-/
import Derived.Test.YtgfbahjpaaanoaaGreatDoorRows
import GoSem.ClaimSeven
namespace Go.Proofs.YtgfbahjpaaanoaaGreatDoor
namespace Rows

/-- THE TIED CARD OF 'laws.FnPolicies'. -/
def fnPoliciesCard : Claim7 := { stood := { row := fnPoliciesRow, standIns := [], harness := (true, "805db2efdc86fa7d06db68f9b9f8d4d326268ff20066651fd147e1cfbacde6a5"), looks := false }, kinds := [], alts := [], laidByText := true, laidKinds := [.data, .data, .data, .data, .data, .pinned], laidTests := true, laidLooks := .later }
def FnPoliciesCardSaid : Prop := Claim7.holds Tryz.pinned (.plain (OpenSpec.ofChange fnPoliciesSpec)) fnPoliciesCard

/-- THE TIED CARD OF 'laws.FnExactPolicyOf'. -/
def fnExactPolicyOfCard : Claim7 := { stood := { row := fnExactPolicyOfRow, standIns := [], harness := (true, "805db2efdc86fa7d06db68f9b9f8d4d326268ff20066651fd147e1cfbacde6a5"), looks := false }, kinds := [], alts := [], laidByText := true, laidKinds := [.data, .data, .data, .data, .data, .pinned], laidTests := true, laidLooks := .later }
def FnExactPolicyOfCardSaid : Prop := Claim7.holds Tryz.pinned (.plain (OpenSpec.ofChange fnExactPolicyOfSpec)) fnExactPolicyOfCard

/-- THE SECOND FORM's CARD OF 'laws.FnPolicies'. -/
def fnPoliciesUptoCard : Claim7 := { stood := { row := fnPoliciesUptoRow, standIns := [], harness := (true, "805db2efdc86fa7d06db68f9b9f8d4d326268ff20066651fd147e1cfbacde6a5"), looks := false }, kinds := [], alts := [], laidByText := true, laidKinds := [.data, .data, .data, .data, .data, .pinned], laidTests := true, laidLooks := .later }
def FnPoliciesUptoCardSaid : Prop := Claim7.holds Tryz.pinned (.plain (OpenSpec.upto fnPoliciesSpec)) fnPoliciesUptoCard

/-- THE SECOND FORM's CARD OF 'laws.FnExactPolicyOf'. -/
def fnExactPolicyOfUptoCard : Claim7 := { stood := { row := fnExactPolicyOfUptoRow, standIns := [], harness := (true, "805db2efdc86fa7d06db68f9b9f8d4d326268ff20066651fd147e1cfbacde6a5"), looks := false }, kinds := [], alts := [], laidByText := true, laidKinds := [.data, .data, .data, .data, .data, .pinned], laidTests := true, laidLooks := .later }
def FnExactPolicyOfUptoCardSaid : Prop := Claim7.holds Tryz.pinned (.plain (OpenSpec.upto fnExactPolicyOfSpec)) fnExactPolicyOfUptoCard
end Rows
end Go.Proofs.YtgfbahjpaaanoaaGreatDoor
