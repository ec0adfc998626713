/-
  Two text results that are alike.
-/
import Derived.Test.YthlenlijdlfdeaaDoorBase
namespace Go.Proofs.YthlenlijdlfdeaaDoor
open Go.ChangeShapes Go.WideShapes Go.ChangeAt Go.RowKit
set_option maxHeartbeats 400000 in
theorem eqText_same (c : Int) (v : ByteArray) (w : World) :
    Calls Tryd.prog 29 #[.agg #[.int .i64 c, .string v], .agg #[.int .i64 c, .string v]] w fun e w' => e = .returned (.bool true) ∧ Below w.heap.size w w' := by
  go_enter Tryd.func29, Tryd.ntmps29
  go_wp2
  go_ret
  exact ⟨rfl, ((Below.refl _ _).alloc (Nat.le_refl _) _).alloc (by simp) _⟩
end Go.Proofs.YthlenlijdlfdeaaDoor
