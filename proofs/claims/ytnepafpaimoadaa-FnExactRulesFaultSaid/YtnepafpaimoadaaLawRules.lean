/-
  The law of RulesFault.
-/
import Derived.Test.YtnepafpaimoadaaBrkIn
namespace Go.Proofs.Ytnepafpaimoadaa
open Go.ChangeShapes Go.WideShapes Go.ChangeAt Go.RowKit Go.Sort
set_option maxHeartbeats 4000000 in
theorem lawRulesFault (a0 a1 a2 a3 a4 : Int) (w : World) :
    Calls Try.prog 6 #[.agg #[.int .i64 a0, .int .i64 a1, .int .i64 a2, .int .i64 a3, .int .i64 a4]] w fun r w' => r = .returned (.bool true) ∧ Below w.heap.size w w' := by
  have HT : Hid (∀ w, Calls Try.prog 31 #[.agg #[.int .i64 a0, .int .i64 a1, .int .i64 a2, .int .i64 a3, .int .i64 a4]] w fun r w' => r = .returned (.agg #[.int .i64 a0, .int .i64 a1, .int .i64 a2, .int .i64 a3, .int .i64 a4]) ∧ Below w.heap.size w w') := toRules_any a0 a1 a2 a3 a4
  have HS : Hid (∀ w, Calls Try.prog 20 #[.agg #[.int .i64 a0, .int .i64 a1, .int .i64 a2, .int .i64 a3, .int .i64 a4]] w fun r w' => r = .returned (.int .i64 (rulesC a0 a1 a2 a3 a4)) ∧ Below w.heap.size w w') := specRules_any a0 a1 a2 a3 a4
  have HI : Hid (∀ w, Calls Try.prog 19 #[.agg #[.int .i64 a0, .int .i64 a1, .int .i64 a2, .int .i64 a3, .int .i64 a4]] w fun r w' => r = .returned (.int .i64 (rulesC a0 a1 a2 a3 a4)) ∧ Below w.heap.size w w') := implRules_any a0 a1 a2 a3 a4
  generalize rulesC a0 a1 a2 a3 a4 = c at *
  go_enter Try.func6, Try.ntmps6
  go_wp2_with fail
  refine (HT.out _).mono ?_
  rintro r w1 ⟨rfl, hb1⟩
  have K1 : Hid (Below w.heap.size w w1 ∧ S5 w1 w.heap.size (.int .i64 a0) (.int .i64 a1) (.int .i64 a2) (.int .i64 a3) (.int .i64 a4)) := ⟨((Below.refl _ _).alloc (Nat.le_refl _) _).trans (hb1.mono (by simp)), (S5.new w _ _ _ _ _ 56).keep hb1⟩
  clear hb1
  go_wp2_with fail
  refine (HS.out _).mono ?_
  rintro r w2 ⟨rfl, hb2⟩
  have K2 : Hid (Below w.heap.size w w2 ∧ S5 w2 w.heap.size (.int .i64 a0) (.int .i64 a1) (.int .i64 a2) (.int .i64 a3) (.int .i64 a4)) := ⟨K1.out.1.trans (hb2.mono K1.out.1.size), K1.out.2.keep hb2⟩
  clear hb2 K1
  obtain ⟨c0, c1, c2, c3, c4, fr, _⟩ := K2.out.2
  go_wp2_with fail
  refine (HT.out _).mono ?_
  rintro r w3 ⟨rfl, hb3⟩
  have K3 : Hid (Below w.heap.size w w3) := K2.out.1.trans (hb3.mono K2.out.1.size)
  clear hb3 K2 c0 c1 c2 c3 c4 fr
  go_wp2_with fail
  refine (HI.out _).mono ?_
  rintro r w4 ⟨rfl, hb4⟩
  have K4 : Hid (Below w.heap.size w w4) := K3.out.trans (hb4.mono K3.out.size)
  clear hb4 K3
  go_wp2
  go_ret
  exact ⟨rfl, K4.out⟩
end Go.Proofs.Ytnepafpaimoadaa
