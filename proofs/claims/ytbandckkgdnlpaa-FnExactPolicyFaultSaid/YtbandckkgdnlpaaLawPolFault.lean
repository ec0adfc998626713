/-
  The law of PolicyFault.
-/
import Derived.Test.YtbandckkgdnlpaaPolFault
namespace Go.Proofs.Ytbandckkgdnlpaa
open Go.ChangeShapes Go.WideShapes Go.ChangeAt Go.RowKit
set_option maxHeartbeats 2000000 in
theorem lawPolicyFault (b0 b1 b2 : Bool) (l s e g : Int) (w : World) :
    Calls Try.prog 3 #[.agg #[.bool b0, .bool b1, .bool b2, .int .i64 l, .int .i64 s, .int .i64 e, .int .i64 g]] w fun r w' => r = .returned (.bool true) ∧ Below w.heap.size w w' := by
  have HT : Hid (∀ w, Calls Try.prog 7 #[.agg #[.bool b0, .bool b1, .bool b2, .int .i64 l, .int .i64 s, .int .i64 e, .int .i64 g]] w fun r w' => r = .returned (.agg #[.bool b0, .bool b1, .bool b2, .int .i64 l, .int .i64 s, .int .i64 e, .int .i64 g]) ∧ Below w.heap.size w w') := toPolicy_any b0 b1 b2 l s e g
  have HS : Hid (∀ w, Calls Try.prog 6 #[.agg #[.bool b0, .bool b1, .bool b2, .int .i64 l, .int .i64 s, .int .i64 e, .int .i64 g]] w fun r w' => r = .returned (.int .i64 (polC l s e g)) ∧ Below w.heap.size w w') := specPol_any b0 b1 b2 l s e g
  have HI : Hid (∀ w, Calls Try.prog 8 #[.agg #[.bool b0, .bool b1, .bool b2, .int .i64 l, .int .i64 s, .int .i64 e, .int .i64 g]] w fun r w' => r = .returned (.int .i64 (polC l s e g)) ∧ Below w.heap.size w w') := implPol_any b0 b1 b2 l s e g
  generalize polC l s e g = c at *
  go_enter Try.func3, Try.ntmps3
  go_wp2_with fail
  refine (HT.out _).mono ?_
  rintro r w1 ⟨rfl, hb1⟩
  have K1 : Hid (Below w.heap.size w w1 ∧ PolAt w1 w.heap.size b0 b1 b2 l s e g) := ⟨((Below.refl _ _).alloc (Nat.le_refl _) _).trans (hb1.mono (by simp)), (PolAt.new w b0 b1 b2 l s e g 23).keep hb1⟩
  clear hb1
  go_wp2_with fail
  refine (HS.out _).mono ?_
  rintro r w2 ⟨rfl, hb2⟩
  have K2 : Hid (Below w.heap.size w w2 ∧ PolAt w2 w.heap.size b0 b1 b2 l s e g) := ⟨K1.out.1.trans (hb2.mono K1.out.1.size), K1.out.2.keep hb2⟩
  clear hb2 K1
  obtain ⟨c0, c1, c2, c3, c4, c5, c6, fr, _⟩ := K2.out.2
  go_wp2_with fail
  refine (HT.out _).mono ?_
  rintro r w3 ⟨rfl, hb3⟩
  have K3 : Hid (Below w.heap.size w w3) := K2.out.1.trans (hb3.mono K2.out.1.size)
  clear hb3 K2 c0 c1 c2 c3 c4 c5 c6 fr
  go_wp2_with fail
  refine (HI.out _).mono ?_
  rintro r w4 ⟨rfl, hb4⟩
  have K4 : Hid (Below w.heap.size w w4) := K3.out.trans (hb4.mono K3.out.size)
  clear hb4 K3
  go_wp2
  go_ret
  exact ⟨rfl, K4.out⟩
end Go.Proofs.Ytbandckkgdnlpaa
