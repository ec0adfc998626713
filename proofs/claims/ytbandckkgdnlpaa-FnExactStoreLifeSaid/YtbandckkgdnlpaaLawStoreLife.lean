/-
  The law of StoreLife.
-/
import Derived.Test.YtbandckkgdnlpaaPolLife
import Derived.Deep.CutRange
namespace Go.Proofs.Ytbandckkgdnlpaa
open Go.ChangeShapes Go.WideShapes Go.ChangeAt Go.RowKit
set_option maxHeartbeats 2000000 in
theorem lawStoreLife (b0 b1 b2 : Bool) (l s e g st ng : Int) (w : World) :
    Calls Try.prog 4 #[.agg #[.bool b0, .bool b1, .bool b2, .int .i64 l, .int .i64 s, .int .i64 e, .int .i64 g], .int .i64 st, .int .i64 ng] w fun r w' => r = .returned (.bool true) ∧ Below w.heap.size w w' := by
  have HT : Hid (∀ w, Calls Try.prog 7 #[.agg #[.bool b0, .bool b1, .bool b2, .int .i64 l, .int .i64 s, .int .i64 e, .int .i64 g]] w fun r w' => r = .returned (.agg #[.bool b0, .bool b1, .bool b2, .int .i64 l, .int .i64 s, .int .i64 e, .int .i64 g]) ∧ Below w.heap.size w w') := toPolicy_any b0 b1 b2 l s e g
  have HS : Hid (∀ w, Calls Try.prog 9 #[.agg #[.bool b0, .bool b1, .bool b2, .int .i64 l, .int .i64 s, .int .i64 e, .int .i64 g], .int .i64 st, .int .i64 ng] w fun r w' => r = .returned (.agg #[.int .i64 (lifeC b0 l s e g st ng), .int .i64 (lifeV b0 l s e g st ng)]) ∧ Below w.heap.size w w') := specLife_any b0 b1 b2 l s e g st ng
  have HI : Hid (∀ w, Calls Try.prog 10 #[.agg #[.bool b0, .bool b1, .bool b2, .int .i64 l, .int .i64 s, .int .i64 e, .int .i64 g], .int .i64 st, .int .i64 ng] w fun r w' => r = .returned (.agg #[.int .i64 (lifeC b0 l s e g st ng), .int .i64 (lifeV b0 l s e g st ng)]) ∧ Below w.heap.size w w') := implLife_any b0 b1 b2 l s e g st ng
  generalize lifeC b0 l s e g st ng = c at *
  generalize lifeV b0 l s e g st ng = v at *
  have HE : Hid (∀ w, Calls Try.prog 11 #[.agg #[.int .i64 c, .int .i64 v], .agg #[.int .i64 c, .int .i64 v]] w fun r w' => r = .returned (.bool true) ∧ Below w.heap.size w w') := eqIntResult_same c v
  go_enter Try.func4, Try.ntmps4
  go_wp2_with fail
  refine (HT.out _).mono ?_
  rintro r w1 ⟨rfl, hb1⟩
  have K1 : Hid (Below w.heap.size w w1 ∧ PolAt w1 w.heap.size b0 b1 b2 l s e g) := ⟨((Below.refl _ _).alloc (Nat.le_refl _) _).trans (hb1.mono (by simp)), (PolAt.new w b0 b1 b2 l s e g 23).keep hb1⟩
  clear hb1
  go_wp2_with fail
  refine (HS.out _).mono ?_
  rintro r w2 ⟨rfl, hb2⟩
  have al2 : Below w2.heap.size w2 (w2.alloc (.cells #[.int .i64 c, .int .i64 v] 29)) := (Below.refl _ _).alloc (Nat.le_refl _) _
  obtain ⟨v2, hv2⟩ : ∃ X, Hid (X = w2.alloc (.cells #[.int .i64 c, .int .i64 v] 29)) := ⟨_, rfl⟩
  have b2' := K1.out.1.trans (hb2.mono K1.out.1.size)
  have K2 : Hid (Below w.heap.size w v2 ∧ PolAt v2 w.heap.size b0 b1 b2 l s e g ∧ IR v2 w2.heap.size (.int .i64 c) (.int .i64 v)) := by
    rw [hv2.out]
    exact ⟨b2'.trans (al2.mono b2'.size), (K1.out.2.keep hb2).keep al2, IR.new w2 _ _ _⟩
  clear hb2 K1 al2 b2'
  obtain ⟨c0, c1, c2, c3, c4, c5, c6, fr, _⟩ := K2.out.2.1
  go_upto_region 2 with fail
  rw [← hv2.out]
  clear hv2
  generalize w2.heap.size = B2 at *
  clear w2
  go_wp2_with fail
  refine (HT.out _).mono ?_
  rintro r w3 ⟨rfl, hb3⟩
  have K3 : Hid (Below w.heap.size w w3 ∧ IR w3 B2 (.int .i64 c) (.int .i64 v)) := ⟨K2.out.1.trans (hb3.mono K2.out.1.size), K2.out.2.2.keep hb3⟩
  clear hb3 K2 c0 c1 c2 c3 c4 c5 c6 fr
  go_wp2_with fail
  refine (HI.out _).mono ?_
  rintro r w4 ⟨rfl, hb4⟩
  have K4 : Hid (Below w.heap.size w w4 ∧ IR w4 B2 (.int .i64 c) (.int .i64 v)) := ⟨K3.out.1.trans (hb4.mono K3.out.1.size), K3.out.2.keep hb4⟩
  clear hb4 K3
  obtain ⟨r0, r1, _, rl⟩ := K4.out.2
  have rne : ¬ B2 = w4.heap.size := by omega
  go_wp2_with fail
  refine (HE.out _).mono ?_
  rintro r w5 ⟨rfl, hb5⟩
  have K5 : Hid (Below w.heap.size w w5) := K4.out.1.trans (((Below.refl _ _).alloc (Nat.le_refl _) _).trans (hb5.mono (by simp)) |>.mono K4.out.1.size)
  clear hb5
  go_wp2
  go_ret
  exact ⟨rfl, K5.out⟩
end Go.Proofs.Ytbandckkgdnlpaa
