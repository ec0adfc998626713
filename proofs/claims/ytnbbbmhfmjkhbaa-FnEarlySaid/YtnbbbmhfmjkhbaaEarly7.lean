/-
  What the law of early draws rests on.
-/
import Derived.Test.YtnbbbmhfmjkhbaaMetaEarly
import Derived.Test.YtnbbbmhfmjkhbaaMetaOfK
import Derived.Laws.StructEq
namespace Go.Proofs.Ytnbbbmhfmjkhbaa
open Go.ChangeShapes Go.WideShapes Go.ChangeAt Go.RowKit Go.Sort
theorem guardMR (op : BinOp) (a b : Operand) (x y : Array Value) (w : World) : (eqGuard op 43 a b (.agg x) (.agg y)).run Try.prog w = .ok () w := run_eqGuard_agg w op 43 a b x y (by kernel_rfl)
theorem neqMR (c m1 m2 m3 m4 m5 : Int) (m6 m7 : Bool) (w : World) : (binOp .neq 43 (.agg #[.int .i64 c, .int .i64 m1, .int .i64 m2, .int .i64 m3, .int .i64 m4, .int .i64 m5, .bool m6, .bool m7]) (.agg #[.int .i64 c, .int .i64 m1, .int .i64 m2, .int .i64 m3, .int .i64 m4, .int .i64 m5, .bool m6, .bool m7])).run Try.prog w = .ok (.bool false) w := by
  have u9 := Try.underlying2
  have a9 := Try.isAgg2
  have z9 := Try.sizeOf2
  have u4 := Try.underlying4
  have a4 := Try.isAgg4
  have z4 := Try.sizeOf4
  have uM := Try.underlying25
  have aM := Try.isAgg25
  have zM := Try.sizeOf25
  have hS : Try.prog.underlying 43 = some (.struct (Try.prog.fieldsOf 43)) := by kernel_rfl
  have hp : Try.prog.stoodInHeld 43 = false := by kernel_rfl
  have hS2 : Try.prog.underlying 25 = some (.struct (Try.prog.fieldsOf 25)) := by kernel_rfl
  have hp2 : Try.prog.stoodInHeld 25 = false := by kernel_rfl
  have hin : ∀ (x y : Array Value), (Op.equalIn 9999 25 (.agg x) (.agg y)).run Try.prog w = (Op.eqFields 9998 x y (Try.prog.fieldsOf 25).toList).run Try.prog w := fun x y => run_equalIn_agg w 9998 25 x y hS2 hp2
  simp only [Program.fieldsOf, Try.underlying25] at hin
  rw [run_neq_struct, show (10000 : Nat) = 9999 + 1 from rfl, run_equalIn_agg w 9999 43 _ _ hS hp]
  simp only [Program.fieldsOf, Try.underlying43]
  go_simp
theorem early_of {p d wi dr : Int} (h : earlyV p d wi dr = true) : p = 1 ∧ inB wi 0 1000000 = true ∧ inB dr 0 999 = true ∧ 1000 * d ≤ wi * dr := by
  simpa [earlyV, and_assoc] using h
theorem early_999 {p d wi dr : Int} (h : earlyV p d wi dr = true) : earlyV p d wi 999 = true := by
  obtain ⟨rfl, hw, hd, hl⟩ := early_of h
  rw [early_ok hw (by decide), decide_eq_true_eq]
  obtain ⟨w0, _⟩ := inB_of hw
  obtain ⟨_, d1⟩ := inB_of hd
  have := Int.mul_le_mul_of_nonneg_left d1 w0
  omega
theorem early_1000 {p d wi : Int} : earlyV p d wi 1000 = false := early_d (by decide)
/-- What MetaOf answers has no fault, and is of the age that was told. -/
theorem mof_parts (b0 b1 : Bool) (l s e g st ng n : Int) : ∃ (c m1 m2 m3 m4 m5 : Int) (m6 m7 : Bool), mofV (lifeC b0 l s e g st ng) (lifeV b0 l s e g st ng) n s e g b1 = .agg #[.int .i64 c, .int .i64 m1, .int .i64 m2, .int .i64 m3, .int .i64 m4, .int .i64 m5, .bool m6, .bool m7] ∧ (c = 0 → metaC m1 m2 m3 m4 m5 = 0 ∧ ageA m1 m2 m3 m4 m5 n = g ∧ askC m1 m2 m3 m4 m5 n = 0) := by
  by_cases hc : lifeC b0 l s e g st ng = 0
  · cases hn : timeB n
    · rw [hc, mof_now hn]
      exact ⟨3, 0, 0, 0, 0, 0, false, false, rfl, fun h => absurd h (by decide)⟩
    · have hv : lifeV b0 l s e g st ng = lifeX l ng := by rw [lifeV, if_pos hc]
      have hp : polB l s e g = true := by
        cases q : polB l s e g
        · rw [(life_pol q).1] at hc; exact absurd hc (by decide)
        · rfl
      have hr : rangeB st ng = true := by
        cases q : rangeB st ng
        · rw [(life_range hp q).1] at hc; exact absurd hc (by decide)
        · rfl
      simp only [polB, Bool.and_eq_true, Bool.or_eq_true, decide_eq_true_eq] at hp
      simp only [rangeB, Bool.and_eq_true] at hr
      have hx : timeB (lifeX l ng) = true := by
        unfold lifeX
        split
        · exact hr.2
        · rename_i q; exact hp.1.1.1.resolve_right q
      have hm : metaB n g (lifeX l ng) s e = true := by simp [metaB, hn, hx, hp.1.1.2, hp.1.2, hp.2]
      have ha : askB n g (lifeX l ng) s e n = true := by simp [askB, hm, hn]
      rw [hc, mof_ok hn, hv]
      refine ⟨0, n, g, lifeX l ng, s, e, false, b1, rfl, fun _ => ⟨metaC_ok hm, ?_, askC_ok ha⟩⟩
      rw [ageA_ok ha, ageM, addT]
      have := timeB_of hp.2
      rw [if_neg (by omega)]
      omega
  · rw [mof_life hc]
    exact ⟨_, 0, 0, 0, 0, 0, false, false, rfl, fun h => absurd h hc⟩
end Go.Proofs.Ytnbbbmhfmjkhbaa
