/-
  No cell of these rows narrows 'for every input' (looked for: loops, veiled, ifaces, maps, wideKeys, modest, calm, conditions, laid).
  DERIVED. THE GIVEN ROWS OF THIS SEAT. 4 by the template 'for every input the law returns true; each argument reads behind the call as it read before'; 0 by the template 'total and deterministic' (their statements: YtgnlpjdndhciaahTotals.lean).
  GIVEN WITH THE SEED: the statements are not yours to turn. If you find one false, say at which input.
  Laid BY PROGRAM, IN A SANDBOX (cutbox-rows.mjs): the forced cells as the released guide's own fill.sh prints them over the translation 1eba03e1ab23cda7… (all of the seat's roots in one cut). By AI agents, Wed Nov 11 2026. No macro, syntax, notation, axiom, sorry.
-/
import Derived.Test.YtgnlpjdndhciaahChecked
import GoSem.Claim
import GoSem.ClaimJoined
import GoSem.ClaimMapViews
import Derived.JoinedTies
import Derived.KernelRfl
namespace Go.Proofs.Ytgnlpjdndhciaah
/- THE CELL 'sum', in the pinned program and in every row, IS THE sha256 OF THE DUMP (.gsa) THAT YtgnlpjdndhciaahProg.lean LOADS. Nothing in Lean hashes anything: it is a label: what it is worth is what the hold of that sum in a sandbox is worth. -/
noncomputable def Try.pinned : Pinned := { name := "ytgnlpjdndhciaah", sum := "1eba03e1ab23cda7484b8904ef2d307dacdd86ed4b1d58fc0361924ed6eff0ce", checked := Try.checked }
namespace Rows
def none {H : Type} : Left H := { results := [], args := [] }

/-- 'laws.FnExactLowerText': WHATEVER THE INPUT: true; the input reads as it did. -/
def fnExactLowerTextSpec : ChangeSpec := { name := "fnExactLowerText", fn := fun _ => fun
  | [d] => { results := [.lit (.bool true)], args := [d] }
  | _ => none }
def fnExactLowerTextRow : OpenClaim := { program := "ytgnlpjdndhciaah", sum := "1eba03e1ab23cda7484b8904ef2d307dacdd86ed4b1d58fc0361924ed6eff0ce", func := "loop.example/g00665/laws.FnExactLowerText", spec := "fnExactLowerText", apart := false }
def FnExactLowerTextSaid : Prop := fnExactLowerTextRow.holds Try.pinned (OpenSpec.ofChange fnExactLowerTextSpec)

/-- ITS FALSE NEIGHBOUR: 'it returns false'. Refute it at one input. -/
def fnExactLowerTextWrong : ChangeSpec := { name := "fnExactLowerText", fn := fun _ => fun
  | [d] => { results := [.lit (.bool false)], args := [d] }
  | _ => none }
def FnExactLowerTextWrongFalsely : Prop := fnExactLowerTextRow.holds Try.pinned (OpenSpec.ofChange fnExactLowerTextWrong)

/-- 'laws.FnExactAddTime': WHATEVER THE INPUT: true; the input reads as it did. -/
def fnExactAddTimeSpec : ChangeSpec := { name := "fnExactAddTime", fn := fun _ => fun
  | [d1, d2] => { results := [.lit (.bool true)], args := [d1, d2] }
  | _ => none }
def fnExactAddTimeRow : OpenClaim := { program := "ytgnlpjdndhciaah", sum := "1eba03e1ab23cda7484b8904ef2d307dacdd86ed4b1d58fc0361924ed6eff0ce", func := "loop.example/g00665/laws.FnExactAddTime", spec := "fnExactAddTime", apart := false }
def FnExactAddTimeSaid : Prop := fnExactAddTimeRow.holds Try.pinned (OpenSpec.ofChange fnExactAddTimeSpec)

/-- ITS FALSE NEIGHBOUR: 'it returns false'. Refute it at one input. -/
def fnExactAddTimeWrong : ChangeSpec := { name := "fnExactAddTime", fn := fun _ => fun
  | [d1, d2] => { results := [.lit (.bool false)], args := [d1, d2] }
  | _ => none }
def FnExactAddTimeWrongFalsely : Prop := fnExactAddTimeRow.holds Try.pinned (OpenSpec.ofChange fnExactAddTimeWrong)

/-- 'laws.FnExactMulTime': WHATEVER THE INPUT: true; the input reads as it did. -/
def fnExactMulTimeSpec : ChangeSpec := { name := "fnExactMulTime", fn := fun _ => fun
  | [d1, d2] => { results := [.lit (.bool true)], args := [d1, d2] }
  | _ => none }
def fnExactMulTimeRow : OpenClaim := { program := "ytgnlpjdndhciaah", sum := "1eba03e1ab23cda7484b8904ef2d307dacdd86ed4b1d58fc0361924ed6eff0ce", func := "loop.example/g00665/laws.FnExactMulTime", spec := "fnExactMulTime", apart := false }
def FnExactMulTimeSaid : Prop := fnExactMulTimeRow.holds Try.pinned (OpenSpec.ofChange fnExactMulTimeSpec)

/-- ITS FALSE NEIGHBOUR: 'it returns false'. Refute it at one input. -/
def fnExactMulTimeWrong : ChangeSpec := { name := "fnExactMulTime", fn := fun _ => fun
  | [d1, d2] => { results := [.lit (.bool false)], args := [d1, d2] }
  | _ => none }
def FnExactMulTimeWrongFalsely : Prop := fnExactMulTimeRow.holds Try.pinned (OpenSpec.ofChange fnExactMulTimeWrong)

/-- 'laws.FnExactDeltaOf': WHATEVER THE INPUT: true; the input reads as it did. -/
def fnExactDeltaOfSpec : ChangeSpec := { name := "fnExactDeltaOf", fn := fun _ => fun
  | [d] => { results := [.lit (.bool true)], args := [d] }
  | _ => none }
def fnExactDeltaOfRow : OpenClaim := { program := "ytgnlpjdndhciaah", sum := "1eba03e1ab23cda7484b8904ef2d307dacdd86ed4b1d58fc0361924ed6eff0ce", func := "loop.example/g00665/laws.FnExactDeltaOf", spec := "fnExactDeltaOf", apart := false }
def FnExactDeltaOfSaid : Prop := fnExactDeltaOfRow.holds Try.pinned (OpenSpec.ofChange fnExactDeltaOfSpec)

/-- ITS FALSE NEIGHBOUR: 'it returns false'. Refute it at one input. -/
def fnExactDeltaOfWrong : ChangeSpec := { name := "fnExactDeltaOf", fn := fun _ => fun
  | [d] => { results := [.lit (.bool false)], args := [d] }
  | _ => none }
def FnExactDeltaOfWrongFalsely : Prop := fnExactDeltaOfRow.holds Try.pinned (OpenSpec.ofChange fnExactDeltaOfWrong)

/- THE SECOND FORM. 'bulk': how many values and letters a reading holds, each counted each time it is reached (what is shared counts as often as it is met; a slice's spare places count too). A statement '..UptoSaid' is the law's where the arguments, and the package variables that the reading takes, are together of bulk at most 1048576: NARROWER than '..Said'. Prove '..Said' where nothing that the law and all that it calls make is longer than what came in: it says more and counts as full. Else prove '..UptoSaid'. A law counts once. -/
mutual
def uptoBulk {H : Type} : DataW H → Nat
  | .lit (.string bytes) => bytes.length + 1
  | .lit _ => 1
  | .nil => 1
  | .ptr d => uptoBulk d + 1
  | .slice elems spare => uptoBulkAll elems + uptoBulkAll spare + 1
  | .agg parts => uptoBulkAll parts + 1
  | .iface _ d => uptoBulk d + 1
  | .map entries => uptoBulkEntries entries + 1
  | .held _ => 1
def uptoBulkAll {H : Type} : List (DataW H) → Nat
  | [] => 0
  | d :: r => uptoBulk d + uptoBulkAll r
def uptoBulkEntries {H : Type} : List (Lit × DataW H) → Nat
  | [] => 0
  | x :: r => uptoBulkEntry x + uptoBulkEntries r
def uptoBulkEntry {H : Type} : Lit × DataW H → Nat
  | (.string bytes, d) => bytes.length + uptoBulk d + 1
  | (_, d) => uptoBulk d + 1
 end
def uptoSmall : (H : Type) → List (DataW H) → Bool := fun _ ds => decide (uptoBulkAll ds ≤ 1048576)
def OpenSpec.upto (s : _root_.Go.ChangeSpec) : _root_.Go.OpenSpec := { _root_.Go.OpenSpec.ofChange s with cond := some uptoSmall }

/-- 'laws.FnExactLowerText', WHERE WHAT IT READS IS OF BULK AT MOST 1048576: true; the input reads as it did. -/
def fnExactLowerTextUptoRow : OpenClaim := { program := "ytgnlpjdndhciaah", sum := "1eba03e1ab23cda7484b8904ef2d307dacdd86ed4b1d58fc0361924ed6eff0ce", func := "loop.example/g00665/laws.FnExactLowerText", spec := "fnExactLowerText", apart := false, narrowed := true }
def FnExactLowerTextUptoSaid : Prop := fnExactLowerTextUptoRow.holds Try.pinned (OpenSpec.upto fnExactLowerTextSpec)

/-- 'laws.FnExactAddTime', WHERE WHAT IT READS IS OF BULK AT MOST 1048576: true; the input reads as it did. -/
def fnExactAddTimeUptoRow : OpenClaim := { program := "ytgnlpjdndhciaah", sum := "1eba03e1ab23cda7484b8904ef2d307dacdd86ed4b1d58fc0361924ed6eff0ce", func := "loop.example/g00665/laws.FnExactAddTime", spec := "fnExactAddTime", apart := false, narrowed := true }
def FnExactAddTimeUptoSaid : Prop := fnExactAddTimeUptoRow.holds Try.pinned (OpenSpec.upto fnExactAddTimeSpec)

/-- 'laws.FnExactMulTime', WHERE WHAT IT READS IS OF BULK AT MOST 1048576: true; the input reads as it did. -/
def fnExactMulTimeUptoRow : OpenClaim := { program := "ytgnlpjdndhciaah", sum := "1eba03e1ab23cda7484b8904ef2d307dacdd86ed4b1d58fc0361924ed6eff0ce", func := "loop.example/g00665/laws.FnExactMulTime", spec := "fnExactMulTime", apart := false, narrowed := true }
def FnExactMulTimeUptoSaid : Prop := fnExactMulTimeUptoRow.holds Try.pinned (OpenSpec.upto fnExactMulTimeSpec)

/-- 'laws.FnExactDeltaOf', WHERE WHAT IT READS IS OF BULK AT MOST 1048576: true; the input reads as it did. -/
def fnExactDeltaOfUptoRow : OpenClaim := { program := "ytgnlpjdndhciaah", sum := "1eba03e1ab23cda7484b8904ef2d307dacdd86ed4b1d58fc0361924ed6eff0ce", func := "loop.example/g00665/laws.FnExactDeltaOf", spec := "fnExactDeltaOf", apart := false, narrowed := true }
def FnExactDeltaOfUptoSaid : Prop := fnExactDeltaOfUptoRow.holds Try.pinned (OpenSpec.upto fnExactDeltaOfSpec)

end Rows
end Go.Proofs.Ytgnlpjdndhciaah
