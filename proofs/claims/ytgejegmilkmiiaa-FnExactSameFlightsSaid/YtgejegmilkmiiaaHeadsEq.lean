/-
  Head lines, held against each other by the laws, wherever they lie.
-/
import Derived.Test.YtgejegmilkmiiaaHeadsTo
import Derived.Test.YtgejegmilkmiiaaHeadsSame
import Derived.Test.YtgejegmilkmiiaaHeadsLaws
namespace Go.Proofs.Ytgejegmilkmiiaa
open Go.ChangeShapes Go.WideShapes Go.ChangeAt Go.RowKit Go.Sort
set_option maxHeartbeats 1000000 in
theorem eqHeaderS_nn (w : World) (a b : Option Addr) (c d : Nat) :
    Calls Try.prog 30 #[.slice a 0 c, .slice b 0 d] w fun e w' => e = .returned (.bool true) ∧ Below w.heap.size w w' := by
  go_enter Try.func30, Try.ntmps30
  go_wp2_with fail
  go_loop [5] (fun i => i = .int .i64 0) (fun _ => 0)
  case atStart => exact rfl
  case round =>
    cases hrel
    go_wp2_with fail
    go_ret
    exact ⟨rfl, Below.refl _ _⟩
theorem eqHeaderS_at (w : World) (a1 a2 : Option Addr) (c1 c2 : Nat) (l : List Hdr) (hl : l.length ≤ 1048576) (h1 : HdsIn w a1 l) (h2 : HdsIn w a2 l) :
    Calls Try.prog 30 #[.slice a1 l.length c1, .slice a2 l.length c2] w fun e w' => e = .returned (.bool true) ∧ Below w.heap.size w w' := by
  rcases h1 with rfl | ⟨b, o, rfl, h1⟩
  · exact eqHeaderS_nn w _ _ _ _
  · rcases h2 with rfl | ⟨b2, o2, rfl, h2⟩
    · exact eqHeaderS_nn w _ _ _ _
    · exact eqHeaderS_same w b o b2 o2 c1 c2 l hl h1 h2
end Go.Proofs.Ytgejegmilkmiiaa
