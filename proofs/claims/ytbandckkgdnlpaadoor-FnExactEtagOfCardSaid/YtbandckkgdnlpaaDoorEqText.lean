/-
  Two text results that are alike.
-/
import Derived.Test.YtbandckkgdnlpaaDoorBase
namespace Go.Proofs.YtbandckkgdnlpaaDoor
open Go.ChangeShapes Go.WideShapes Go.ChangeAt Go.RowKit
set_option maxHeartbeats 400000 in
theorem eqText_same (c : Int) (v : ByteArray) (w : World) :
    Calls Tryd.prog 10 #[.agg #[.int .i64 c, .string v], .agg #[.int .i64 c, .string v]] w fun e w' => e = .returned (.bool true) ∧ Below w.heap.size w w' := by
  go_enter Tryd.func10, Tryd.ntmps10
  go_wp2
  go_ret
  exact ⟨rfl, ((Below.refl _ _).alloc (Nat.le_refl _) _).alloc (by simp) _⟩
end Go.Proofs.YtbandckkgdnlpaaDoor
