/-
  Proved here: for every two int64 the law laws.FnExactMulTime answers true (MulTime answers as its model does, code and value), without any condition.
-/
import Derived.Test.YtgnlpjdndhciaahRows
import Derived.WalkKit
import Derived.ProofKit
import Derived.OpenShut
import Derived.ShutString
import Derived.Below
import Derived.Test.YtgnlpjdndhciaahMulW
import Derived.Test.YtgnlpjdndhciaahEqI2
namespace Go.Proofs.Ytgnlpjdndhciaah.fnExactMulTime
open Go.ChangeShapes Go.WideShapes Go.ChangeAt Go.RowKit
open Go.ChangeMaps (open_string shut_string)
set_option linter.unusedVariables false      -- a walk need not use every 'w<i>' (that an integer argument fits its kind)

theorem own : ownKnob Try.prog.godebug = none := by kernel_rfl

theorem walk (a0 : Int) (a1 : Int) (w : World) :
    Calls Try.prog 5 #[.int .i64 a0, .int .i64 a1] w fun e w' => e = .returned (.bool true) ∧ Below w.heap.size w w' := by
  by_cases h : a0 < 0 ∨ 1000000000000000 < a0 ∨ a1 < 0 ∨ 1000000000000000 < a1
  · exact law5 a0 a1 3 0 w (specMul_bad a0 a1 h) (implMul_bad a0 a1 h)
  · have p0 : 0 ≤ a0 := by omega
    have p1 : a0 ≤ 1000000000000000 := by omega
    have p2 : 0 ≤ a1 := by omega
    have p3 : a1 ≤ 1000000000000000 := by omega
    clear h
    by_cases z : a1 = 0
    · subst z
      exact law5 a0 0 0 0 w (specMul_zero a0 p0 p1) (implMul_zero a0 p0 p1)
    · have p4 : 0 < a1 := by omega
      by_cases k : 1000000000000000 / a1 < a0
      · exact law5 a0 a1 0 1000000000000000 w (specMul_over a0 a1 p0 p1 p4 p3 k) (implMul_over a0 a1 p0 p1 p4 p3 k)
      · have hp : 0 ≤ a0 * a1 := Int.mul_nonneg p0 p2
        have hm : a0 * a1 ≤ 1000000000000000 := Int.le_trans (Int.mul_le_mul_of_nonneg_right (Int.not_lt.1 k) p2) (Int.ediv_mul_le _ (by omega))
        exact law5 a0 a1 0 (a0 * a1) w (specMul_under a0 a1 p0 p1 p4 p3 k hp hm) (implMul_under a0 a1 p0 p1 p4 p3 k hp hm)

/-! ### THE ROW's STEP: WRITTEN OUT: LEAVE IT -/
set_option maxRecDepth 100000 in
theorem lifted (os : Os) (started : os.Started) (H : Type) (enc : TypeId × Value → H) :
    ReturnsInHanded {} Try.checked os 5 .any (Rows.fnExactMulTimeSpec.pre6 enc Try.prog Try.f5 Rows.fnExactMulTimeRow.domain false) (Rows.fnExactMulTimeSpec.post enc Try.prog Try.f5 false true false false) := by
  refine returnsInHanded_of_change (C := Try.checked) own started (by kernel_rfl) Try.func5
    (ChangeSpec.witness6 (enc := enc) (C := Try.checked) false ⟨#[], #[.int .i64 0, .int .i64 0], []⟩ 8 (by kernel_rfl) (by kernel_rfl) (by kernel_rfl) (by kernel_rfl)) ?_
  intro W base args ds gs before hval0 hW hcnd _
  have hval : ∀ (j : Nat) t v, Try.f5.params[j]? = some t → args[j]? = some v → Value.okWide Try.prog W .any base t v := hval0
  have hW' := hW
  obtain ⟨p, q, hA0, hV, rfl, hfz, hnd⟩ := hW
  have hA : DataW.TrodAll enc Try.prog W 0 (fun _ => true) true Try.f5.params.toList args.toList ds p := hA0
  rw [Try.params5] at hA hval
  obtain ⟨v0, vs0, d0, ds0, p0, q0, hargs, rfl, rfl, h0, r0⟩ := trodAll_cons hA
  obtain ⟨v1, vs1, d1, ds1, p1, q1, rfl, rfl, rfl, h1, r1⟩ := trodAll_cons r0
  obtain ⟨rfl, rfl, rfl⟩ := trodAll_nil r1
  obtain rfl : args = #[v0, v1] := by cases args; simp_all
  obtain ⟨rfl, rfl⟩ := trodVars_none hV
  obtain ⟨a0, rfl, rfl, rfl, w0⟩ := open_int Try.underlying2 (hval 0 2 v0 rfl rfl) h0
  obtain ⟨a1, rfl, rfl, rfl, w1⟩ := open_int Try.underlying2 (hval 1 2 v1 rfl rfl) h1
  clear hA0 hval0
  simp only [List.append_nil] at hW'
  refine (walk a0 a1 W).mono fun e W' ⟨he, bel⟩ => ?_
  subst he
  exact ⟨_, rfl, _, _, _, [], _, [], hW', trodAll_mk1 (shut_bool Try.underlying4 _), (trodAll_cons_mk (shut_int Try.underlying2 w0) (trodAll_cons_mk (shut_int Try.underlying2 w1) trodAll_mk0)), rfl, bel.frame _, fun h => by cases h⟩

theorem over : Rows.fnExactMulTimeRow.holds Try.pinned (OpenSpec.ofChange Rows.fnExactMulTimeSpec) :=
  OpenClaim.holds_of_wide 5 Try.f5 rfl rfl rfl rfl rfl rfl rfl ⟨rfl, rfl, rfl, rfl, rfl⟩ rfl rfl rfl rfl rfl (by kernel_rfl) Try.func5 (by kernel_rfl)
    (of_decide_eq_true (by kernel_rfl)) (by unfold Func.isWrapper; first | (rw [if_pos (by decide +kernel)]; kernel_rfl) | (rw [if_neg (by decide +kernel)]; exact ⟨rfl, rfl⟩))
    (fun os started H enc _ => lifted os started H enc)

end Go.Proofs.Ytgnlpjdndhciaah.fnExactMulTime
namespace Go.Proofs.Ytgnlpjdndhciaah
/-- THE STATEMENT. -/
theorem fnExactMulTime_holds : Rows.FnExactMulTimeSaid := fnExactMulTime.over
#print axioms fnExactMulTime_holds
end Go.Proofs.Ytgnlpjdndhciaah
