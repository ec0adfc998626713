/-
  No cell of these rows narrows 'for every input' (looked for: loops, veiled, ifaces, maps, wideKeys, modest, calm, conditions, laid).
  DERIVED. THE GIVEN ROWS OF THIS SEAT. 10 by the template 'for every input the law returns true; each argument reads behind the call as it read before'; 0 by the template 'total and deterministic' (their statements: YtnepafpaimoadaaTotals.lean).
  GIVEN WITH THE SEED: the statements are not yours to turn. If you find one false, say at which input.
  Laid BY PROGRAM, IN A SANDBOX (cutbox-rows.mjs): the forced cells as the released guide's own fill.sh prints them over the translation a982f6edfe053664… (all of the seat's roots in one cut). By AI agents, Wed Nov 11 2026. No macro, syntax, notation, axiom, sorry.
-/
import Derived.Test.YtnepafpaimoadaaChecked
import GoSem.Claim
import GoSem.ClaimJoined
import GoSem.ClaimMapViews
import Derived.JoinedTies
import Derived.KernelRfl
namespace Go.Proofs.Ytnepafpaimoadaa
/- THE CELL 'sum', in the pinned program and in every row, IS THE sha256 OF THE DUMP (.gsa) THAT YtnepafpaimoadaaProg.lean LOADS. Nothing in Lean hashes anything: it is a label: what it is worth is what the hold of that sum in a sandbox is worth. -/
noncomputable def Try.pinned : Pinned := { name := "ytnepafpaimoadaa", sum := "a982f6edfe053664c7d1416d208482c3ef18f030de2c262d8fc845017c48e245", checked := Try.checked }
namespace Rows
def none {H : Type} : Left H := { results := [], args := [] }

/-- 'laws.FnBreakers': WHATEVER THE INPUT: true; the input reads as it did. -/
def fnBreakersSpec : ChangeSpec := { name := "fnBreakers", fn := fun _ => fun
  | [d] => { results := [.lit (.bool true)], args := [d] }
  | _ => none }
def fnBreakersRow : OpenClaim := { program := "ytnepafpaimoadaa", sum := "a982f6edfe053664c7d1416d208482c3ef18f030de2c262d8fc845017c48e245", func := "loop.example/g00665/laws.FnBreakers", spec := "fnBreakers", unfollowed := true, recurses := true, apart := false }
def FnBreakersSaid : Prop := fnBreakersRow.holds Try.pinned (OpenSpec.ofChange fnBreakersSpec)

/-- ITS FALSE NEIGHBOUR: 'it returns false'. Refute it at one input. -/
def fnBreakersWrong : ChangeSpec := { name := "fnBreakers", fn := fun _ => fun
  | [d] => { results := [.lit (.bool false)], args := [d] }
  | _ => none }
def FnBreakersWrongFalsely : Prop := fnBreakersRow.holds Try.pinned (OpenSpec.ofChange fnBreakersWrong)

/-- 'laws.FnOutcomes': WHATEVER THE INPUT: true; the input reads as it did. -/
def fnOutcomesSpec : ChangeSpec := { name := "fnOutcomes", fn := fun _ => fun
  | [d] => { results := [.lit (.bool true)], args := [d] }
  | _ => none }
def fnOutcomesRow : OpenClaim := { program := "ytnepafpaimoadaa", sum := "a982f6edfe053664c7d1416d208482c3ef18f030de2c262d8fc845017c48e245", func := "loop.example/g00665/laws.FnOutcomes", spec := "fnOutcomes", unfollowed := true, recurses := true, apart := false }
def FnOutcomesSaid : Prop := fnOutcomesRow.holds Try.pinned (OpenSpec.ofChange fnOutcomesSpec)

/-- ITS FALSE NEIGHBOUR: 'it returns false'. Refute it at one input. -/
def fnOutcomesWrong : ChangeSpec := { name := "fnOutcomes", fn := fun _ => fun
  | [d] => { results := [.lit (.bool false)], args := [d] }
  | _ => none }
def FnOutcomesWrongFalsely : Prop := fnOutcomesRow.holds Try.pinned (OpenSpec.ofChange fnOutcomesWrong)

/-- 'laws.FnTraces': WHATEVER THE INPUT: true; the input reads as it did. -/
def fnTracesSpec : ChangeSpec := { name := "fnTraces", fn := fun _ => fun
  | [d] => { results := [.lit (.bool true)], args := [d] }
  | _ => none }
def fnTracesRow : OpenClaim := { program := "ytnepafpaimoadaa", sum := "a982f6edfe053664c7d1416d208482c3ef18f030de2c262d8fc845017c48e245", func := "loop.example/g00665/laws.FnTraces", spec := "fnTraces", unfollowed := true, recurses := true, apart := false }
def FnTracesSaid : Prop := fnTracesRow.holds Try.pinned (OpenSpec.ofChange fnTracesSpec)

/-- ITS FALSE NEIGHBOUR: 'it returns false'. Refute it at one input. -/
def fnTracesWrong : ChangeSpec := { name := "fnTraces", fn := fun _ => fun
  | [d] => { results := [.lit (.bool false)], args := [d] }
  | _ => none }
def FnTracesWrongFalsely : Prop := fnTracesRow.holds Try.pinned (OpenSpec.ofChange fnTracesWrong)

/-- 'laws.FnExactRulesFault': WHATEVER THE INPUT: true; the input reads as it did. -/
def fnExactRulesFaultSpec : ChangeSpec := { name := "fnExactRulesFault", fn := fun _ => fun
  | [d] => { results := [.lit (.bool true)], args := [d] }
  | _ => none }
def fnExactRulesFaultRow : OpenClaim := { program := "ytnepafpaimoadaa", sum := "a982f6edfe053664c7d1416d208482c3ef18f030de2c262d8fc845017c48e245", func := "loop.example/g00665/laws.FnExactRulesFault", spec := "fnExactRulesFault", apart := false }
def FnExactRulesFaultSaid : Prop := fnExactRulesFaultRow.holds Try.pinned (OpenSpec.ofChange fnExactRulesFaultSpec)

/-- ITS FALSE NEIGHBOUR: 'it returns false'. Refute it at one input. -/
def fnExactRulesFaultWrong : ChangeSpec := { name := "fnExactRulesFault", fn := fun _ => fun
  | [d] => { results := [.lit (.bool false)], args := [d] }
  | _ => none }
def FnExactRulesFaultWrongFalsely : Prop := fnExactRulesFaultRow.holds Try.pinned (OpenSpec.ofChange fnExactRulesFaultWrong)

/-- 'laws.FnExactBreakerFault': WHATEVER THE INPUT: true; the input reads as it did. -/
def fnExactBreakerFaultSpec : ChangeSpec := { name := "fnExactBreakerFault", fn := fun _ => fun
  | [d] => { results := [.lit (.bool true)], args := [d] }
  | _ => none }
def fnExactBreakerFaultRow : OpenClaim := { program := "ytnepafpaimoadaa", sum := "a982f6edfe053664c7d1416d208482c3ef18f030de2c262d8fc845017c48e245", func := "loop.example/g00665/laws.FnExactBreakerFault", spec := "fnExactBreakerFault", unfollowed := true, recurses := true, apart := false }
def FnExactBreakerFaultSaid : Prop := fnExactBreakerFaultRow.holds Try.pinned (OpenSpec.ofChange fnExactBreakerFaultSpec)

/-- ITS FALSE NEIGHBOUR: 'it returns false'. Refute it at one input. -/
def fnExactBreakerFaultWrong : ChangeSpec := { name := "fnExactBreakerFault", fn := fun _ => fun
  | [d] => { results := [.lit (.bool false)], args := [d] }
  | _ => none }
def FnExactBreakerFaultWrongFalsely : Prop := fnExactBreakerFaultRow.holds Try.pinned (OpenSpec.ofChange fnExactBreakerFaultWrong)

/-- 'laws.FnExactBadIn': WHATEVER THE INPUT: true; the input reads as it did. -/
def fnExactBadInSpec : ChangeSpec := { name := "fnExactBadIn", fn := fun _ => fun
  | [d] => { results := [.lit (.bool true)], args := [d] }
  | _ => none }
def fnExactBadInRow : OpenClaim := { program := "ytnepafpaimoadaa", sum := "a982f6edfe053664c7d1416d208482c3ef18f030de2c262d8fc845017c48e245", func := "loop.example/g00665/laws.FnExactBadIn", spec := "fnExactBadIn", unfollowed := true, recurses := true, apart := false }
def FnExactBadInSaid : Prop := fnExactBadInRow.holds Try.pinned (OpenSpec.ofChange fnExactBadInSpec)

/-- ITS FALSE NEIGHBOUR: 'it returns false'. Refute it at one input. -/
def fnExactBadInWrong : ChangeSpec := { name := "fnExactBadIn", fn := fun _ => fun
  | [d] => { results := [.lit (.bool false)], args := [d] }
  | _ => none }
def FnExactBadInWrongFalsely : Prop := fnExactBadInRow.holds Try.pinned (OpenSpec.ofChange fnExactBadInWrong)

/-- 'laws.FnExactAllowFetch': WHATEVER THE INPUT: true; the input reads as it did. -/
def fnExactAllowFetchSpec : ChangeSpec := { name := "fnExactAllowFetch", fn := fun _ => fun
  | [d1, d2, d3] => { results := [.lit (.bool true)], args := [d1, d2, d3] }
  | _ => none }
def fnExactAllowFetchRow : OpenClaim := { program := "ytnepafpaimoadaa", sum := "a982f6edfe053664c7d1416d208482c3ef18f030de2c262d8fc845017c48e245", func := "loop.example/g00665/laws.FnExactAllowFetch", spec := "fnExactAllowFetch", unfollowed := true, recurses := true, apart := false }
def FnExactAllowFetchSaid : Prop := fnExactAllowFetchRow.holds Try.pinned (OpenSpec.ofChange fnExactAllowFetchSpec)

/-- ITS FALSE NEIGHBOUR: 'it returns false'. Refute it at one input. -/
def fnExactAllowFetchWrong : ChangeSpec := { name := "fnExactAllowFetch", fn := fun _ => fun
  | [d1, d2, d3] => { results := [.lit (.bool false)], args := [d1, d2, d3] }
  | _ => none }
def FnExactAllowFetchWrongFalsely : Prop := fnExactAllowFetchRow.holds Try.pinned (OpenSpec.ofChange fnExactAllowFetchWrong)

/-- 'laws.FnExactNoteOutcome': WHATEVER THE INPUT: true; the input reads as it did. -/
def fnExactNoteOutcomeSpec : ChangeSpec := { name := "fnExactNoteOutcome", fn := fun _ => fun
  | [d1, d2, d3, d4] => { results := [.lit (.bool true)], args := [d1, d2, d3, d4] }
  | _ => none }
def fnExactNoteOutcomeRow : OpenClaim := { program := "ytnepafpaimoadaa", sum := "a982f6edfe053664c7d1416d208482c3ef18f030de2c262d8fc845017c48e245", func := "loop.example/g00665/laws.FnExactNoteOutcome", spec := "fnExactNoteOutcome", unfollowed := true, recurses := true, apart := false }
def FnExactNoteOutcomeSaid : Prop := fnExactNoteOutcomeRow.holds Try.pinned (OpenSpec.ofChange fnExactNoteOutcomeSpec)

/-- ITS FALSE NEIGHBOUR: 'it returns false'. Refute it at one input. -/
def fnExactNoteOutcomeWrong : ChangeSpec := { name := "fnExactNoteOutcome", fn := fun _ => fun
  | [d1, d2, d3, d4] => { results := [.lit (.bool false)], args := [d1, d2, d3, d4] }
  | _ => none }
def FnExactNoteOutcomeWrongFalsely : Prop := fnExactNoteOutcomeRow.holds Try.pinned (OpenSpec.ofChange fnExactNoteOutcomeWrong)

/-- 'laws.FnExactRunTraces': WHATEVER THE INPUT: true; the input reads as it did. -/
def fnExactRunTracesSpec : ChangeSpec := { name := "fnExactRunTraces", fn := fun _ => fun
  | [d1, d2] => { results := [.lit (.bool true)], args := [d1, d2] }
  | _ => none }
def fnExactRunTracesRow : OpenClaim := { program := "ytnepafpaimoadaa", sum := "a982f6edfe053664c7d1416d208482c3ef18f030de2c262d8fc845017c48e245", func := "loop.example/g00665/laws.FnExactRunTraces", spec := "fnExactRunTraces", unfollowed := true, recurses := true, apart := false }
def FnExactRunTracesSaid : Prop := fnExactRunTracesRow.holds Try.pinned (OpenSpec.ofChange fnExactRunTracesSpec)

/-- ITS FALSE NEIGHBOUR: 'it returns false'. Refute it at one input. -/
def fnExactRunTracesWrong : ChangeSpec := { name := "fnExactRunTraces", fn := fun _ => fun
  | [d1, d2] => { results := [.lit (.bool false)], args := [d1, d2] }
  | _ => none }
def FnExactRunTracesWrongFalsely : Prop := fnExactRunTracesRow.holds Try.pinned (OpenSpec.ofChange fnExactRunTracesWrong)

/-- 'laws.FnExactSameBreakers': WHATEVER THE INPUT: true; the input reads as it did. -/
def fnExactSameBreakersSpec : ChangeSpec := { name := "fnExactSameBreakers", fn := fun _ => fun
  | [d1, d2] => { results := [.lit (.bool true)], args := [d1, d2] }
  | _ => none }
def fnExactSameBreakersRow : OpenClaim := { program := "ytnepafpaimoadaa", sum := "a982f6edfe053664c7d1416d208482c3ef18f030de2c262d8fc845017c48e245", func := "loop.example/g00665/laws.FnExactSameBreakers", spec := "fnExactSameBreakers", apart := false }
def FnExactSameBreakersSaid : Prop := fnExactSameBreakersRow.holds Try.pinned (OpenSpec.ofChange fnExactSameBreakersSpec)

/-- ITS FALSE NEIGHBOUR: 'it returns false'. Refute it at one input. -/
def fnExactSameBreakersWrong : ChangeSpec := { name := "fnExactSameBreakers", fn := fun _ => fun
  | [d1, d2] => { results := [.lit (.bool false)], args := [d1, d2] }
  | _ => none }
def FnExactSameBreakersWrongFalsely : Prop := fnExactSameBreakersRow.holds Try.pinned (OpenSpec.ofChange fnExactSameBreakersWrong)

/- THE SECOND FORM. 'bulk': how many values and letters a reading holds, each counted each time it is reached (what is shared counts as often as it is met; a slice's spare places count too). A statement '..UptoSaid' is the law's where the arguments, and the package variables that the reading takes, are together of bulk at most 1048576: NARROWER than '..Said'. Prove '..Said' where nothing that the law and all that it calls make is longer than what came in: it says more and counts as full. Else prove '..UptoSaid'. A law counts once. -/
mutual
def uptoBulk {H : Type} : DataW H → Nat
  | .lit (.string bytes) => bytes.length + 1
  | .lit _ => 1
  | .nil => 1
  | .ptr d => uptoBulk d + 1
  | .slice elems spare => uptoBulkAll elems + uptoBulkAll spare + 1
  | .agg parts => uptoBulkAll parts + 1
  | .iface _ d => uptoBulk d + 1
  | .map entries => uptoBulkEntries entries + 1
  | .held _ => 1
def uptoBulkAll {H : Type} : List (DataW H) → Nat
  | [] => 0
  | d :: r => uptoBulk d + uptoBulkAll r
def uptoBulkEntries {H : Type} : List (Lit × DataW H) → Nat
  | [] => 0
  | x :: r => uptoBulkEntry x + uptoBulkEntries r
def uptoBulkEntry {H : Type} : Lit × DataW H → Nat
  | (.string bytes, d) => bytes.length + uptoBulk d + 1
  | (_, d) => uptoBulk d + 1
 end
def uptoSmall : (H : Type) → List (DataW H) → Bool := fun _ ds => decide (uptoBulkAll ds ≤ 1048576)
def OpenSpec.upto (s : _root_.Go.ChangeSpec) : _root_.Go.OpenSpec := { _root_.Go.OpenSpec.ofChange s with cond := some uptoSmall }

/-- 'laws.FnBreakers', WHERE WHAT IT READS IS OF BULK AT MOST 1048576: true; the input reads as it did. -/
def fnBreakersUptoRow : OpenClaim := { program := "ytnepafpaimoadaa", sum := "a982f6edfe053664c7d1416d208482c3ef18f030de2c262d8fc845017c48e245", func := "loop.example/g00665/laws.FnBreakers", spec := "fnBreakers", unfollowed := true, recurses := true, apart := false, narrowed := true }
def FnBreakersUptoSaid : Prop := fnBreakersUptoRow.holds Try.pinned (OpenSpec.upto fnBreakersSpec)

/-- 'laws.FnOutcomes', WHERE WHAT IT READS IS OF BULK AT MOST 1048576: true; the input reads as it did. -/
def fnOutcomesUptoRow : OpenClaim := { program := "ytnepafpaimoadaa", sum := "a982f6edfe053664c7d1416d208482c3ef18f030de2c262d8fc845017c48e245", func := "loop.example/g00665/laws.FnOutcomes", spec := "fnOutcomes", unfollowed := true, recurses := true, apart := false, narrowed := true }
def FnOutcomesUptoSaid : Prop := fnOutcomesUptoRow.holds Try.pinned (OpenSpec.upto fnOutcomesSpec)

/-- 'laws.FnTraces', WHERE WHAT IT READS IS OF BULK AT MOST 1048576: true; the input reads as it did. -/
def fnTracesUptoRow : OpenClaim := { program := "ytnepafpaimoadaa", sum := "a982f6edfe053664c7d1416d208482c3ef18f030de2c262d8fc845017c48e245", func := "loop.example/g00665/laws.FnTraces", spec := "fnTraces", unfollowed := true, recurses := true, apart := false, narrowed := true }
def FnTracesUptoSaid : Prop := fnTracesUptoRow.holds Try.pinned (OpenSpec.upto fnTracesSpec)

/-- 'laws.FnExactRulesFault', WHERE WHAT IT READS IS OF BULK AT MOST 1048576: true; the input reads as it did. -/
def fnExactRulesFaultUptoRow : OpenClaim := { program := "ytnepafpaimoadaa", sum := "a982f6edfe053664c7d1416d208482c3ef18f030de2c262d8fc845017c48e245", func := "loop.example/g00665/laws.FnExactRulesFault", spec := "fnExactRulesFault", apart := false, narrowed := true }
def FnExactRulesFaultUptoSaid : Prop := fnExactRulesFaultUptoRow.holds Try.pinned (OpenSpec.upto fnExactRulesFaultSpec)

/-- 'laws.FnExactBreakerFault', WHERE WHAT IT READS IS OF BULK AT MOST 1048576: true; the input reads as it did. -/
def fnExactBreakerFaultUptoRow : OpenClaim := { program := "ytnepafpaimoadaa", sum := "a982f6edfe053664c7d1416d208482c3ef18f030de2c262d8fc845017c48e245", func := "loop.example/g00665/laws.FnExactBreakerFault", spec := "fnExactBreakerFault", unfollowed := true, recurses := true, apart := false, narrowed := true }
def FnExactBreakerFaultUptoSaid : Prop := fnExactBreakerFaultUptoRow.holds Try.pinned (OpenSpec.upto fnExactBreakerFaultSpec)

/-- 'laws.FnExactBadIn', WHERE WHAT IT READS IS OF BULK AT MOST 1048576: true; the input reads as it did. -/
def fnExactBadInUptoRow : OpenClaim := { program := "ytnepafpaimoadaa", sum := "a982f6edfe053664c7d1416d208482c3ef18f030de2c262d8fc845017c48e245", func := "loop.example/g00665/laws.FnExactBadIn", spec := "fnExactBadIn", unfollowed := true, recurses := true, apart := false, narrowed := true }
def FnExactBadInUptoSaid : Prop := fnExactBadInUptoRow.holds Try.pinned (OpenSpec.upto fnExactBadInSpec)

/-- 'laws.FnExactAllowFetch', WHERE WHAT IT READS IS OF BULK AT MOST 1048576: true; the input reads as it did. -/
def fnExactAllowFetchUptoRow : OpenClaim := { program := "ytnepafpaimoadaa", sum := "a982f6edfe053664c7d1416d208482c3ef18f030de2c262d8fc845017c48e245", func := "loop.example/g00665/laws.FnExactAllowFetch", spec := "fnExactAllowFetch", unfollowed := true, recurses := true, apart := false, narrowed := true }
def FnExactAllowFetchUptoSaid : Prop := fnExactAllowFetchUptoRow.holds Try.pinned (OpenSpec.upto fnExactAllowFetchSpec)

/-- 'laws.FnExactNoteOutcome', WHERE WHAT IT READS IS OF BULK AT MOST 1048576: true; the input reads as it did. -/
def fnExactNoteOutcomeUptoRow : OpenClaim := { program := "ytnepafpaimoadaa", sum := "a982f6edfe053664c7d1416d208482c3ef18f030de2c262d8fc845017c48e245", func := "loop.example/g00665/laws.FnExactNoteOutcome", spec := "fnExactNoteOutcome", unfollowed := true, recurses := true, apart := false, narrowed := true }
def FnExactNoteOutcomeUptoSaid : Prop := fnExactNoteOutcomeUptoRow.holds Try.pinned (OpenSpec.upto fnExactNoteOutcomeSpec)

/-- 'laws.FnExactRunTraces', WHERE WHAT IT READS IS OF BULK AT MOST 1048576: true; the input reads as it did. -/
def fnExactRunTracesUptoRow : OpenClaim := { program := "ytnepafpaimoadaa", sum := "a982f6edfe053664c7d1416d208482c3ef18f030de2c262d8fc845017c48e245", func := "loop.example/g00665/laws.FnExactRunTraces", spec := "fnExactRunTraces", unfollowed := true, recurses := true, apart := false, narrowed := true }
def FnExactRunTracesUptoSaid : Prop := fnExactRunTracesUptoRow.holds Try.pinned (OpenSpec.upto fnExactRunTracesSpec)

/-- 'laws.FnExactSameBreakers', WHERE WHAT IT READS IS OF BULK AT MOST 1048576: true; the input reads as it did. -/
def fnExactSameBreakersUptoRow : OpenClaim := { program := "ytnepafpaimoadaa", sum := "a982f6edfe053664c7d1416d208482c3ef18f030de2c262d8fc845017c48e245", func := "loop.example/g00665/laws.FnExactSameBreakers", spec := "fnExactSameBreakers", apart := false, narrowed := true }
def FnExactSameBreakersUptoSaid : Prop := fnExactSameBreakersUptoRow.holds Try.pinned (OpenSpec.upto fnExactSameBreakersSpec)

end Rows
end Go.Proofs.Ytnepafpaimoadaa
