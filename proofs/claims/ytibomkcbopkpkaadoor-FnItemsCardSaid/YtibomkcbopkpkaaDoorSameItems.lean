/-
  What the model's SameItems and slices.Equal over items answer.
-/
import Derived.Test.YtibomkcbopkpkaaDoorItemsSame
import Derived.Test.YtibomkcbopkpkaaDoorItemsLaws
import Derived.Laws.StructEq
import Derived.Shelf.SlicesE.Kit
namespace Go.Proofs.YtibomkcbopkpkaaDoor
open Go.ChangeShapes Go.WideShapes Go.ChangeAt Go.RowKit Go.Sort
def sameR (x y : Rec) : Bool := (x.name.toList == y.name.toList) && (x.has == y.has) && (x.value.toList == y.value.toList)
def sameRs : List Rec → List Rec → Bool
  | [], [] => true
  | x :: l, y :: m => sameR x y && sameRs l m
  | _, _ => false
theorem guardItem (op : BinOp) (a b : Operand) (x y : Array Value) (w : World) : (eqGuard op 80 a b (.agg x) (.agg y)).run Tryd.prog w = .ok () w := run_eqGuard_agg w op 80 a b x y (by kernel_rfl)
theorem neqItem (x y : Rec) (w : World) : (binOp .neq 80 (.agg #[.string x.name, .bool x.has, .string x.value]) (.agg #[.string y.name, .bool y.has, .string y.value])).run Tryd.prog w = .ok (.bool (!sameR x y)) w := by
  have u9 := Tryd.underlying9
  have a9 := Tryd.isAgg9
  have z9 := Tryd.sizeOf9
  have u4 := Tryd.underlying4
  have a4 := Tryd.isAgg4
  have z4 := Tryd.sizeOf4
  have hS : Tryd.prog.underlying 80 = some (.struct (Tryd.prog.fieldsOf 80)) := by kernel_rfl
  have hp : Tryd.prog.stoodInHeld 80 = false := by kernel_rfl
  obtain ⟨n1, h1, v1⟩ := x
  obtain ⟨n2, h2, v2⟩ := y
  simp only [sameR]
  rw [run_neq_struct, show (10000 : Nat) = 9999 + 1 from rfl, run_equalIn_agg w 9999 80 _ _ hS hp]
  simp only [Program.fieldsOf, Tryd.underlying80]
  go_simp
  by_cases e1 : n1.toList = n2.toList <;> by_cases e2 : h1 = h2 <;> by_cases e3 : v1.toList = v2.toList <;> simp [e1, e2, e3]
end Go.Proofs.YtibomkcbopkpkaaDoor
