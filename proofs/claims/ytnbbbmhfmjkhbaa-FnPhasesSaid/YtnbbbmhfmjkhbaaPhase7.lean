/-
  What the laws of chapter 7 rest on: comparisons of answers, a number out of the code, plain facts on phases.
-/
import Derived.Test.YtnbbbmhfmjkhbaaDrawNext
import Derived.Test.YtnbbbmhfmjkhbaaMetaMay
import Derived.Laws.StructEq
import Derived.BigQuiet
namespace Go.Proofs.Ytnbbbmhfmjkhbaa
open Go.ChangeShapes Go.WideShapes Go.ChangeAt Go.RowKit Go.Sort
theorem guardIR (op : BinOp) (a b : Operand) (x y : Array Value) (w : World) : (eqGuard op 29 a b (.agg x) (.agg y)).run Try.prog w = .ok () w := run_eqGuard_agg w op 29 a b x y (by kernel_rfl)
theorem neqIR (c v : Int) (w : World) : (binOp .neq 29 (.agg #[.int .i64 c, .int .i64 v]) (.agg #[.int .i64 c, .int .i64 v])).run Try.prog w = .ok (.bool false) w := by
  have u9 := Try.underlying2
  have a9 := Try.isAgg2
  have z9 := Try.sizeOf2
  have hS : Try.prog.underlying 29 = some (.struct (Try.prog.fieldsOf 29)) := by kernel_rfl
  have hp : Try.prog.stoodInHeld 29 = false := by kernel_rfl
  rw [run_neq_struct, show (10000 : Nat) = 9999 + 1 from rfl, run_equalIn_agg w 9999 29 _ _ hS hp]
  simp only [Program.fieldsOf, Try.underlying29]
  go_simp
set_option maxHeartbeats 1000000 in
theorem lwAt_any (w : World) (B : Nat) (a : Option Addr) (len cap : Nat) (hc : CodeRow w B a len) (hl2 : len ≤ 1048576) :
    Calls Try.prog 21 #[.slice a len cap, .int .i64 2, .int .i64 4000] w fun e w' => (∃ v : Int, 0 ≤ v ∧ v < 4000 ∧ e = .returned (.int .i64 v)) ∧ Below w.heap.size w w' := by
  by_cases h0 : len = 0
  · subst h0
    clear hc
    go_enter Try.func21, Try.ntmps21
    go_wp2
    go_ret
    exact ⟨⟨_, by omega, by omega, rfl⟩, Below.refl _ _⟩
  rcases hc with hc | ⟨b, off, rfl, _, f, hf⟩
  · exact absurd hc h0
  have hl : 0 < len := by omega
  have l0 : ((len : Int) == 0) = false := by simp; omega
  have l1 : ¬ (len : Int) = 0 := by omega
  have l2 : ¬ len = 0 := h0
  obtain ⟨r1, e1, hr1⟩ : ∃ r : Nat, (2 : Int).tmod (len : Int) = (r : Int) ∧ r < len := ⟨2 % len, by rw [Int.tmod_eq_emod_of_nonneg (by omega)]; simp, Nat.mod_lt _ hl⟩
  obtain ⟨r2, e2, hr2⟩ : ∃ r : Nat, (3 : Int).tmod (len : Int) = (r : Int) ∧ r < len := ⟨3 % len, by rw [Int.tmod_eq_emod_of_nonneg (by omega)]; simp, Nat.mod_lt _ hl⟩
  obtain ⟨q1, e4, hq1⟩ : ∃ q : Nat, (2 : Int).tdiv (len : Int) = (q : Int) ∧ q ≤ 2 := ⟨2 / len, by rw [Int.tdiv_eq_ediv_of_nonneg (by omega)]; simp, Nat.div_le_self _ _⟩
  obtain ⟨d1, z10, z11⟩ := hf r1 hr1
  obtain ⟨d2, z20, z21⟩ := hf r2 hr2
  generalize f r1 = z1 at *
  generalize f r2 = z2 at *
  have hq2 : (q1 : Int) ≤ 2 := by omega
  clear hf hq1
  go_enter Try.func21, Try.ntmps21
  go_wp2
  go_quiet (fail)
  go_wp2
  go_ret
  exact ⟨⟨_, by omega, by omega, rfl⟩, by first | exact below_drewN (Below.refl _ _) _ | exact (Below.refl _ _).drew | exact Below.refl _ _⟩
theorem ageM_mono {t g n n' : Int} (h : n ≤ n') : ageM t g n ≤ ageM t g n' := by unfold ageM addT; split <;> split <;> omega
theorem phaseV_zero {a li s e : Int} {b2 : Bool} : phaseV a li s e b2 = 0 ↔ ¬ a < li ∧ ¬ (!b2 && decide (a < addT li s)) = true ∧ ¬ a < addT li e := by
  unfold phaseV
  split
  · simp [*]
  · split
    · simp [*]
    · split <;> simp [*]
theorem phaseV_one {a li s e : Int} {b2 : Bool} : phaseV a li s e b2 = 1 ↔ a < li := by
  unfold phaseV
  split
  · simp [*]
  · split
    · simp [*]
    · split <;> simp [*]
theorem may_true (p : Int) (h : p = 0 ∨ p = 1 ∨ p = 2 ∨ p = 3) : mayV p true = !decide (p = 0) := by
  rcases h with rfl | rfl | rfl | rfl <;> simp [mayV]
theorem may_mono {p : Int} (h : mayV p false = true) : mayV p true = true := by
  simp only [mayV, Bool.false_and, Bool.or_false] at h
  simp only [mayV, h, Bool.true_or]
/-- As time goes by: an answer that may be told later may be told now; one that is fresh later is fresh now. -/
theorem may_back {t g l s e n n' : Int} {b1 b2 : Bool} (h : n ≤ n') (k : mayV (phaseM t g l s e b1 b2 n') true = true) : mayV (phaseM t g l s e b1 b2 n) true = true := by
  rw [phaseM] at k ⊢
  rw [may_true _ (phaseV_in _ _ _ _ _)] at k ⊢
  simp only [Bool.not_eq_true', decide_eq_false_iff_not] at k ⊢
  intro q
  apply k
  have hm := ageM_mono (t := t) (g := g) h
  rw [phaseV_zero] at q ⊢
  refine ⟨by omega, ?_, by omega⟩
  intro c
  apply q.2.1
  simp only [Bool.and_eq_true, decide_eq_true_eq] at c ⊢
  exact ⟨c.1, by omega⟩
theorem fresh_back {t g l s e n n' : Int} {b1 b2 : Bool} (h : n ≤ n') (k : phaseM t g l s e b1 b2 n' = 1) : phaseM t g l s e b1 b2 n = 1 := by
  have hm := ageM_mono (t := t) (g := g) h
  rw [phaseM, phaseV_one] at k ⊢
  omega
theorem soft_not {t g l s e n : Int} {b2 : Bool} (h : askB t g l s e n = true) : phaseA t g l s e true b2 n ≠ 1 := by
  rw [phaseA_ok h]
  intro k
  obtain ⟨hm, _, tn⟩ := askB_of h
  have h0 := (ageM_time (t := t) (n := n) (metaB_of hm).2.1.1 tn).1
  rw [phaseM, phaseV_one] at k
  simp [lifeM] at k
  omega
theorem fresh_may {p : Int} (h : p = 1) : mayV p false = true := by simp [mayV, h]
theorem later_ok {t g l s e n x : Int} (h : askB t g l s e n = true) (x0 : 0 ≤ x) : askB t g l s e (addT n x) = true ∧ n ≤ addT n x := by
  obtain ⟨hm, ⟨n0, n1⟩, tn⟩ := askB_of h
  have q := addT_time n0 x0
  have q2 : n ≤ addT n x := by unfold addT; split <;> omega
  refine ⟨?_, q2⟩
  simp only [askB, Bool.and_eq_true, decide_eq_true_eq]
  exact ⟨⟨hm, timeB_yes q.1 q.2⟩, by omega⟩
end Go.Proofs.Ytnbbbmhfmjkhbaa
