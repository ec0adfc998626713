/-
  The law of QuoteText out of contracts of its two sides.
-/
import Derived.Test.YtfclbkjigihcnaiBase
namespace Go.Proofs.Ytfclbkjigihcnai
open Go.ChangeShapes Go.WideShapes Go.ChangeAt Go.RowKit
namespace lawQuoteText
set_option maxHeartbeats 400000 in
theorem eq_same (c : Int) (r : ByteArray) (w : World) :
    Calls Try.prog 7 #[.agg #[.int .i64 c, .string r], .agg #[.int .i64 c, .string r]] w fun e w' => e = .returned (.bool true) ∧ Below w.heap.size w w' := by
  go_enter Try.func7, Try.ntmps7
  go_wp2
  go_ret
  exact ⟨rfl, ((Below.refl _ _).alloc (Nat.le_refl _) _).alloc (by simp) _⟩
set_option maxHeartbeats 400000 in
theorem law (s : ByteArray) (c : Int) (r : ByteArray) (w : World)
    (h10 : Hid (∀ w, Calls Try.prog 5 #[.string s] w fun e w' => e = .returned (.agg #[.int .i64 c, .string r]) ∧ Below w.heap.size w w'))
    (h11 : Hid (∀ w, Calls Try.prog 6 #[.string s] w fun e w' => e = .returned (.agg #[.int .i64 c, .string r]) ∧ Below w.heap.size w w')) :
    Calls Try.prog 3 #[.string s] w fun e w' => e = .returned (.bool true) ∧ Below w.heap.size w w' := by
  by_cases hbig : (1048576 : Int) < s.size
  · go_enter Try.func3, Try.ntmps3
    go_wp2
    go_ret
    exact ⟨rfl, Below.refl _ _⟩
  go_enter Try.func3, Try.ntmps3
  go_wp2_with fail
  refine (h10.out _).mono ?_
  rintro e w1 ⟨rfl, hb1⟩
  have hz1 := hb1.size
  go_wp2_with fail
  refine (h11.out _).mono ?_
  rintro e w2 ⟨rfl, hb2⟩
  have hz2 := hb2.size
  obtain ⟨hc2, hf2⟩ := bcell hb2
  simp only [World.size_alloc] at hz2
  have hz3 : w1.heap.size < w2.heap.size := by omega
  go_wp2_with fail
  refine (eq_same _ _ _).mono ?_
  rintro e w3 ⟨rfl, hb3⟩
  have hz4 := hb3.size
  simp only [World.size_alloc] at hz4
  go_wp2
  go_ret
  refine ⟨rfl, ?_⟩
  have k1 : Below w.heap.size w (w1.alloc (.cells #[.int .i64 c, .string r] 23)) := hb1.alloc hz1 _
  have k2 : Below w.heap.size w w2 := k1.trans (hb2.mono (by simp; omega))
  have k3 : Below w.heap.size w (w2.alloc (.cells #[.int .i64 c, .string r] 23)) := k2.alloc (by omega) _
  exact k3.trans (hb3.mono (by simp; omega))
end lawQuoteText
end Go.Proofs.Ytfclbkjigihcnai
