/-
  What is kept with an answer, compared with itself.
-/
import Derived.Test.YtelbddgdaibolaaDoorMetaKit
namespace Go.Proofs.YtelbddgdaibolaaDoor
open Go.ChangeShapes Go.WideShapes Go.ChangeAt Go.RowKit Go.Sort
set_option maxHeartbeats 2000000 in
theorem eqMeta_same (t g l s e : Int) (b1 b2 : Bool) (w : World) : Calls Tryd.prog 43 #[.agg #[.int .i64 t, .int .i64 g, .int .i64 l, .int .i64 s, .int .i64 e, .bool b1, .bool b2], .agg #[.int .i64 t, .int .i64 g, .int .i64 l, .int .i64 s, .int .i64 e, .bool b1, .bool b2]] w fun r w' => r = .returned (.bool true) ∧ Below w.heap.size w w' := by
  have e1 : (b1 != b1) = false := by simp
  have e2 : (b2 != b2) = false := by simp
  go_enter Tryd.func43, Tryd.ntmps43
  go_wp2
  go_ret
  exact ⟨rfl, ((Below.refl w.heap.size w).alloc (Nat.le_refl _) _).alloc (by simp) _⟩
end Go.Proofs.YtelbddgdaibolaaDoor
