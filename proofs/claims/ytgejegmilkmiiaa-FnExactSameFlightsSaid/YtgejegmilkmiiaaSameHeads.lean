/-
  What the model's SameHeaders and slices.Equal over head lines answer.
-/
import Derived.Test.YtgejegmilkmiiaaHeadsSame
import Derived.Test.YtgejegmilkmiiaaHeadsLaws
import Derived.Laws.StructEq
import Derived.Shelf.SlicesE.Kit
namespace Go.Proofs.Ytgejegmilkmiiaa
open Go.ChangeShapes Go.WideShapes Go.ChangeAt Go.RowKit Go.Sort
def sameH (x y : Hdr) : Bool := (x.name.toList == y.name.toList) && (x.value.toList == y.value.toList)
def sameHs : List Hdr → List Hdr → Bool
  | [], [] => true
  | x :: l, y :: m => sameH x y && sameHs l m
  | _, _ => false
theorem guardHeader (op : BinOp) (a b : Operand) (x y : Array Value) (w : World) : (eqGuard op 63 a b (.agg x) (.agg y)).run Try.prog w = .ok () w := run_eqGuard_agg w op 63 a b x y (by kernel_rfl)
theorem neqHeader (x y : Hdr) (w : World) : (binOp .neq 63 (.agg #[.string x.name, .string x.value]) (.agg #[.string y.name, .string y.value])).run Try.prog w = .ok (.bool (!sameH x y)) w := by
  have u9 := Try.underlying9
  have a9 := Try.isAgg9
  have z9 := Try.sizeOf9
  have hS : Try.prog.underlying 63 = some (.struct (Try.prog.fieldsOf 63)) := by kernel_rfl
  have hp : Try.prog.stoodInHeld 63 = false := by kernel_rfl
  obtain ⟨n1, v1⟩ := x
  obtain ⟨n2, v2⟩ := y
  simp only [sameH]
  rw [run_neq_struct, show (10000 : Nat) = 9999 + 1 from rfl, run_equalIn_agg w 9999 63 _ _ hS hp]
  simp only [Program.fieldsOf, Try.underlying63]
  go_simp
  by_cases e1 : n1.toList = n2.toList <;> by_cases e3 : v1.toList = v2.toList <;> simp [e1, e3]
end Go.Proofs.Ytgejegmilkmiiaa
