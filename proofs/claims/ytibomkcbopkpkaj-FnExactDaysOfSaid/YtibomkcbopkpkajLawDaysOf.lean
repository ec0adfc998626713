/-
  The law of DaysOf.
-/
import Derived.Test.YtibomkcbopkpkajDateOf
namespace Go.Proofs.Ytibomkcbopkpkaj
open Go.ChangeShapes Go.WideShapes Go.ChangeAt Go.RowKit
namespace lawDaysOf
set_option maxHeartbeats 400000 in
theorem eq_same (c v : Int) (w : World) :
    Calls Try.prog 19 #[.agg #[.int .i64 c, .int .i64 v], .agg #[.int .i64 c, .int .i64 v]] w fun e w' => e = .returned (.bool true) ∧ Below w.heap.size w w' := by
  go_enter Try.func19, Try.ntmps19
  go_wp2
  go_ret
  exact ⟨rfl, ((Below.refl _ _).alloc (Nat.le_refl _) _).alloc (by simp) _⟩
set_option maxHeartbeats 1000000 in
theorem law (y m d : Int) (c v : Int) (w : World)
    (h10 : Hid (∀ w, Calls Try.prog 17 #[.int .i64 y, .int .i64 m, .int .i64 d] w fun e w' => e = .returned (.agg #[.int .i64 c, .int .i64 v]) ∧ Below w.heap.size w w'))
    (h11 : Hid (∀ w, Calls Try.prog 18 #[.int .i64 y, .int .i64 m, .int .i64 d] w fun e w' => e = .returned (.agg #[.int .i64 c, .int .i64 v]) ∧ Below w.heap.size w w')) :
    Calls Try.prog 5 #[.int .i64 y, .int .i64 m, .int .i64 d] w fun e w' => e = .returned (.bool true) ∧ Below w.heap.size w w' := by
  go_enter Try.func5, Try.ntmps5
  go_wp2_with fail
  refine (h10.out _).mono ?_
  rintro e w1 ⟨rfl, hb1⟩
  have K1 : Hid (Below w.heap.size w w1) := hb1
  clear hb1
  go_wp2_with fail
  refine (h11.out _).mono ?_
  rintro e w2 ⟨rfl, hb2⟩
  have hz2 := hb2.size
  obtain ⟨hc2, hf2⟩ := bcell hb2
  simp only [World.size_alloc] at hz2
  have hz3 : w1.heap.size < w2.heap.size := by omega
  have K2 : Hid (Below w.heap.size w w2) := (K1.out.alloc K1.out.size _).trans (hb2.mono (by have := K1.out.size; simp; omega))
  clear hb2
  go_wp2_with fail
  refine (eq_same _ _ _).mono ?_
  rintro e w3 ⟨rfl, hb3⟩
  have hz4 := hb3.size
  simp only [World.size_alloc] at hz4
  have K3 : Hid (Below w.heap.size w w3) := (K2.out.alloc K2.out.size _).trans (hb3.mono (by have := K2.out.size; simp; omega))
  clear hb3
  go_wp2
  go_ret
  exact ⟨rfl, K3.out⟩
end lawDaysOf
end Go.Proofs.Ytibomkcbopkpkaj
