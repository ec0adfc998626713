/-
  The law of MulTime out of contracts of its two sides.
-/
import Derived.Test.YtgnlpjdndhciaahRows
import Derived.WalkKit
import Derived.ProofKit
import Derived.OpenShut
import Derived.Below
import Derived.Test.YtgnlpjdndhciaahEqI
namespace Go.Proofs.Ytgnlpjdndhciaah
open Go.ChangeShapes Go.WideShapes Go.ChangeAt Go.RowKit
set_option maxHeartbeats 400000 in
theorem law5 (a b c v : Int) (w : World)
    (h10 : Hid (∀ w, Calls Try.prog 13 #[.int .i64 a, .int .i64 b] w fun e w' => e = .returned (.agg #[.int .i64 c, .int .i64 v]) ∧ Below w.heap.size w w'))
    (h11 : Hid (∀ w, Calls Try.prog 14 #[.int .i64 a, .int .i64 b] w fun e w' => e = .returned (.agg #[.int .i64 c, .int .i64 v]) ∧ Below w.heap.size w w')) :
    Calls Try.prog 5 #[.int .i64 a, .int .i64 b] w fun e w' => e = .returned (.bool true) ∧ Below w.heap.size w w' := by
  go_enter Try.func5, Try.ntmps5
  go_wp2_with fail
  refine (h10.out _).mono ?_
  rintro e w1 ⟨rfl, hb1⟩
  have hz1 := hb1.size
  go_wp2_with fail
  refine (h11.out _).mono ?_
  rintro e w2 ⟨rfl, hb2⟩
  have hz2 := hb2.size
  obtain ⟨hc2, hf2⟩ := bcell hb2
  simp only [World.size_alloc] at hz2
  have hz3 : w1.heap.size < w2.heap.size := by omega
  go_wp2_with fail
  refine (eqInt_same _ _ _).mono ?_
  rintro e w3 ⟨rfl, hb3⟩
  have hz4 := hb3.size
  simp only [World.size_alloc] at hz4
  go_wp2
  go_ret
  refine ⟨rfl, ?_⟩
  have k1 : Below w.heap.size w (w1.alloc (.cells #[.int .i64 c, .int .i64 v] 28)) := hb1.alloc hz1 _
  have k2 : Below w.heap.size w w2 := k1.trans (hb2.mono (by simp; omega))
  have k3 : Below w.heap.size w (w2.alloc (.cells #[.int .i64 c, .int .i64 v] 28)) := k2.alloc (by omega) _
  exact k3.trans (hb3.mono (by simp; omega))
end Go.Proofs.Ytgnlpjdndhciaah
