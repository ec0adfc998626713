/-
  The law of PhaseOf.
-/
import Derived.Test.YtnbbbmhfmjkhbaaToMeta
import Derived.Test.YtnbbbmhfmjkhbaaMetaAsk
import Derived.Deep.CutRange
namespace Go.Proofs.Ytnbbbmhfmjkhbaa
open Go.ChangeShapes Go.WideShapes Go.ChangeAt Go.RowKit Go.Sort
set_option maxHeartbeats 4000000 in
theorem lawPhaseOf (t g l s e : Int) (b1 b2 : Bool) (n : Int) (w : World) :
    Calls Try.prog 8 #[.agg #[.int .i64 t, .int .i64 g, .int .i64 l, .int .i64 s, .int .i64 e, .bool b1, .bool b2], .int .i64 n] w fun r w' => r = .returned (.bool true) ∧ Below w.heap.size w w' := by
  have HT : Hid (∀ w, Calls Try.prog 28 #[.agg #[.int .i64 t, .int .i64 g, .int .i64 l, .int .i64 s, .int .i64 e, .bool b1, .bool b2]] w fun r w' => r = .returned (.agg #[.int .i64 t, .int .i64 g, .int .i64 l, .int .i64 s, .int .i64 e, .bool b1, .bool b2]) ∧ Below w.heap.size w w') := toMeta_any t g l s e b1 b2
  have HS : Hid (∀ w, Calls Try.prog 15 #[.agg #[.int .i64 t, .int .i64 g, .int .i64 l, .int .i64 s, .int .i64 e, .bool b1, .bool b2], .int .i64 n] w fun r w' => r = .returned (.agg #[.int .i64 (askC t g l s e n), .int .i64 (phaseA t g l s e b1 b2 n)]) ∧ Below w.heap.size w w') := specPhase_any t g l s e b1 b2 n
  have HI : Hid (∀ w, Calls Try.prog 13 #[.agg #[.int .i64 t, .int .i64 g, .int .i64 l, .int .i64 s, .int .i64 e, .bool b1, .bool b2], .int .i64 n] w fun r w' => r = .returned (.agg #[.int .i64 (askC t g l s e n), .int .i64 (phaseA t g l s e b1 b2 n)]) ∧ Below w.heap.size w w') := implPhase_any t g l s e b1 b2 n
  generalize askC t g l s e n = c at *
  generalize phaseA t g l s e b1 b2 n = v at *
  have HE : Hid (∀ w, Calls Try.prog 31 #[.agg #[.int .i64 c, .int .i64 v], .agg #[.int .i64 c, .int .i64 v]] w fun r w' => r = .returned (.bool true) ∧ Below w.heap.size w w') := eqIntResult_same c v
  go_enter Try.func8, Try.ntmps8
  go_wp2_with fail
  refine (HT.out _).mono ?_
  rintro r w1 ⟨rfl, hb1⟩
  have K1 : Hid (Below w.heap.size w w1 ∧ MetaAt w1 w.heap.size t g l s e b1 b2) := ⟨((Below.refl _ _).alloc (Nat.le_refl _) _).trans (hb1.mono (by simp)), (MetaAt.new w t g l s e b1 b2 45).keep hb1⟩
  clear hb1
  go_wp2_with fail
  refine (HS.out _).mono ?_
  rintro r w2 ⟨rfl, hb2⟩
  have al2 : Below w2.heap.size w2 (w2.alloc (.cells #[.int .i64 c, .int .i64 v] 29)) := (Below.refl _ _).alloc (Nat.le_refl _) _
  obtain ⟨v2, hv2⟩ : ∃ X, Hid (X = w2.alloc (.cells #[.int .i64 c, .int .i64 v] 29)) := ⟨_, rfl⟩
  have b2' := K1.out.1.trans (hb2.mono K1.out.1.size)
  have K2 : Hid (Below w.heap.size w v2 ∧ MetaAt v2 w.heap.size t g l s e b1 b2 ∧ IR v2 w2.heap.size (.int .i64 c) (.int .i64 v)) := by
    rw [hv2.out]
    exact ⟨b2'.trans (al2.mono b2'.size), (K1.out.2.keep hb2).keep al2, IR.new w2 _ _ _⟩
  clear hb2 K1 al2 b2'
  obtain ⟨c0, c1, c2, c3, c4, c5, c6, fr, _⟩ := K2.out.2.1
  go_upto_region 2 with fail
  rw [← hv2.out]
  clear hv2
  generalize w2.heap.size = B2 at *
  clear w2
  go_wp2_with fail
  refine (HT.out _).mono ?_
  rintro r w3 ⟨rfl, hb3⟩
  have K3 : Hid (Below w.heap.size w w3 ∧ IR w3 B2 (.int .i64 c) (.int .i64 v)) := ⟨K2.out.1.trans (hb3.mono K2.out.1.size), K2.out.2.2.keep hb3⟩
  clear hb3 K2 c0 c1 c2 c3 c4 c5 c6 fr
  go_wp2_with fail
  refine (HI.out _).mono ?_
  rintro r w4 ⟨rfl, hb4⟩
  have K4 : Hid (Below w.heap.size w w4 ∧ IR w4 B2 (.int .i64 c) (.int .i64 v)) := ⟨K3.out.1.trans (hb4.mono K3.out.1.size), K3.out.2.keep hb4⟩
  clear hb4 K3
  obtain ⟨r0, r1, _, rl⟩ := K4.out.2
  have rne : ¬ B2 = w4.heap.size := by omega
  go_wp2_with fail
  refine (HE.out _).mono ?_
  rintro r w5 ⟨rfl, hb5⟩
  have K5 : Hid (Below w.heap.size w w5) := K4.out.1.trans (((Below.refl _ _).alloc (Nat.le_refl _) _).trans (hb5.mono (by simp)) |>.mono K4.out.1.size)
  clear hb5
  go_wp2
  go_ret
  exact ⟨rfl, K5.out⟩
end Go.Proofs.Ytnbbbmhfmjkhbaa
