/-
  What the model's SameHeaders and slices.Equal over head lines answer.
-/
import Derived.Test.YtnepafpaimoadaaMkTo
import Derived.Laws.StructEq
import Derived.Shelf.SlicesE.Kit
namespace Go.Proofs.Ytnepafpaimoadaa
open Go.ChangeShapes Go.WideShapes Go.ChangeAt Go.RowKit Go.Sort
def sameM (x y : Mk) : Bool := (x.tm == y.tm) && (x.gd == y.gd)
def sameMs : List Mk → List Mk → Bool
  | [], [] => true
  | x :: l, y :: m => sameM x y && sameMs l m
  | _, _ => false
theorem guardMark (op : BinOp) (a b : Operand) (x y : Array Value) (w : World) : (eqGuard op 103 a b (.agg x) (.agg y)).run Try.prog w = .ok () w := run_eqGuard_agg w op 103 a b x y (by kernel_rfl)
theorem neqMark (x y : Mk) (w : World) : (binOp .neq 103 (.agg #[.int .i64 x.tm, .bool x.gd]) (.agg #[.int .i64 y.tm, .bool y.gd])).run Try.prog w = .ok (.bool (!sameM x y)) w := by
  have u9 := Try.underlying2
  have a9 := Try.isAgg2
  have z9 := Try.sizeOf2
  have u8 := Try.underlying4
  have a8 := Try.isAgg4
  have z8 := Try.sizeOf4
  have hS : Try.prog.underlying 103 = some (.struct (Try.prog.fieldsOf 103)) := by kernel_rfl
  have hp : Try.prog.stoodInHeld 103 = false := by kernel_rfl
  obtain ⟨n1, v1⟩ := x
  obtain ⟨n2, v2⟩ := y
  simp only [sameM]
  rw [run_neq_struct, show (10000 : Nat) = 9999 + 1 from rfl, run_equalIn_agg w 9999 103 _ _ hS hp]
  simp only [Program.fieldsOf, Try.underlying103]
  go_simp
  by_cases e1 : n1 = n2 <;> by_cases e3 : v1 = v2 <;> simp [e1, e3]
end Go.Proofs.Ytnepafpaimoadaa
