/-
  The law of MetaOf.
-/
import Derived.Test.YtnbbbmhfmjkhbaaMetaOfK
import Derived.Deep.CutRange
namespace Go.Proofs.Ytnbbbmhfmjkhbaa
open Go.ChangeShapes Go.WideShapes Go.ChangeAt Go.RowKit Go.Sort
set_option maxHeartbeats 4000000 in
theorem lawMetaOf (b0 b1 b2 : Bool) (l s e g : Int) (st ng n : Int) (w : World) :
    Calls Try.prog 6 #[.agg #[.bool b0, .bool b1, .bool b2, .int .i64 l, .int .i64 s, .int .i64 e, .int .i64 g], .int .i64 st, .int .i64 ng, .int .i64 n] w fun r w' => r = .returned (.bool true) ∧ Below w.heap.size w w' := by
  have HT : Hid (∀ w, Calls Try.prog 29 #[.agg #[.bool b0, .bool b1, .bool b2, .int .i64 l, .int .i64 s, .int .i64 e, .int .i64 g]] w fun r w' => r = .returned (.agg #[.bool b0, .bool b1, .bool b2, .int .i64 l, .int .i64 s, .int .i64 e, .int .i64 g]) ∧ Below w.heap.size w w') := toPolicy_any b0 b1 b2 l s e g
  have HS : Hid (∀ w, Calls Try.prog 27 #[.agg #[.bool b0, .bool b1, .bool b2, .int .i64 l, .int .i64 s, .int .i64 e, .int .i64 g], .int .i64 st, .int .i64 ng, .int .i64 n] w fun r w' => r = .returned (mofV (lifeC b0 l s e g st ng) (lifeV b0 l s e g st ng) n s e g b1) ∧ Below w.heap.size w w') := specMof_any b0 b1 b2 l s e g st ng n
  have HI : Hid (∀ w, Calls Try.prog 25 #[.agg #[.bool b0, .bool b1, .bool b2, .int .i64 l, .int .i64 s, .int .i64 e, .int .i64 g], .int .i64 st, .int .i64 ng, .int .i64 n] w fun r w' => r = .returned (mofV (lifeC b0 l s e g st ng) (lifeV b0 l s e g st ng) n s e g b1) ∧ Below w.heap.size w w') := implMof_any b0 b1 b2 l s e g st ng n
  obtain ⟨c, m1, m2, m3, m4, m5, m6, m7, hm⟩ := mofV_agg (lifeC b0 l s e g st ng) (lifeV b0 l s e g st ng) n s e g b1
  rw [hm] at HS HI
  clear hm
  have HE : Hid (∀ w, Calls Try.prog 30 #[.agg #[.int .i64 c, .int .i64 m1, .int .i64 m2, .int .i64 m3, .int .i64 m4, .int .i64 m5, .bool m6, .bool m7], .agg #[.int .i64 c, .int .i64 m1, .int .i64 m2, .int .i64 m3, .int .i64 m4, .int .i64 m5, .bool m6, .bool m7]] w fun r w' => r = .returned (.bool true) ∧ Below w.heap.size w w') := eqMetaResult_same c m1 m2 m3 m4 m5 m6 m7
  go_enter Try.func6, Try.ntmps6
  go_wp2_with fail
  refine (HT.out _).mono ?_
  rintro r w1 ⟨rfl, hb1⟩
  have K1 : Hid (Below w.heap.size w w1 ∧ PolAt w1 w.heap.size b0 b1 b2 l s e g) := ⟨((Below.refl _ _).alloc (Nat.le_refl _) _).trans (hb1.mono (by simp)), (PolAt.new w b0 b1 b2 l s e g 48).keep hb1⟩
  clear hb1
  go_wp2_with fail
  refine (HS.out _).mono ?_
  rintro r w2 ⟨rfl, hb2⟩
  have al2 : Below w2.heap.size w2 (w2.alloc (.cells #[.int .i64 c, .int .i64 m1, .int .i64 m2, .int .i64 m3, .int .i64 m4, .int .i64 m5, .bool m6, .bool m7] 43)) := (Below.refl _ _).alloc (Nat.le_refl _) _
  obtain ⟨v2, hv2⟩ : ∃ X, Hid (X = w2.alloc (.cells #[.int .i64 c, .int .i64 m1, .int .i64 m2, .int .i64 m3, .int .i64 m4, .int .i64 m5, .bool m6, .bool m7] 43)) := ⟨_, rfl⟩
  have b2' := K1.out.1.trans (hb2.mono K1.out.1.size)
  have K2 : Hid (Below w.heap.size w v2 ∧ PolAt v2 w.heap.size b0 b1 b2 l s e g ∧ Z8 v2 w2.heap.size (.int .i64 c) (.int .i64 m1) (.int .i64 m2) (.int .i64 m3) (.int .i64 m4) (.int .i64 m5) (.bool m6) (.bool m7)) := by
    rw [hv2.out]
    exact ⟨b2'.trans (al2.mono b2'.size), (K1.out.2.keep hb2).keep al2, Z8.new w2 _ _ _ _ _ _ _ _ _⟩
  clear hb2 K1 al2 b2'
  obtain ⟨c0, c1, c2, c3, c4, c5, c6, fr, _⟩ := K2.out.2.1
  go_upto_region 2 with fail
  rw [← hv2.out]
  clear hv2
  generalize w2.heap.size = B2 at *
  clear w2
  go_wp2_with fail
  refine (HT.out _).mono ?_
  rintro r w3 ⟨rfl, hb3⟩
  have K3 : Hid (Below w.heap.size w w3 ∧ Z8 w3 B2 (.int .i64 c) (.int .i64 m1) (.int .i64 m2) (.int .i64 m3) (.int .i64 m4) (.int .i64 m5) (.bool m6) (.bool m7)) := ⟨K2.out.1.trans (hb3.mono K2.out.1.size), K2.out.2.2.keep hb3⟩
  clear hb3 K2 c0 c1 c2 c3 c4 c5 c6 fr
  go_wp2_with fail
  refine (HI.out _).mono ?_
  rintro r w4 ⟨rfl, hb4⟩
  have K4 : Hid (Below w.heap.size w w4 ∧ Z8 w4 B2 (.int .i64 c) (.int .i64 m1) (.int .i64 m2) (.int .i64 m3) (.int .i64 m4) (.int .i64 m5) (.bool m6) (.bool m7)) := ⟨K3.out.1.trans (hb4.mono K3.out.1.size), K3.out.2.keep hb4⟩
  clear hb4 K3
  obtain ⟨r0, r1, r2, r3, r4, r5, r6, r7, _, rl⟩ := K4.out.2
  have rne : ¬ B2 = w4.heap.size := by omega
  go_wp2_with fail
  refine (HE.out _).mono ?_
  rintro r w5 ⟨rfl, hb5⟩
  have K5 : Hid (Below w.heap.size w w5) := K4.out.1.trans (((Below.refl _ _).alloc (Nat.le_refl _) _).trans (hb5.mono (by simp)) |>.mono K4.out.1.size)
  clear hb5
  go_wp2
  go_ret
  exact ⟨rfl, K5.out⟩
end Go.Proofs.Ytnbbbmhfmjkhbaa
