/-
  What AddTime's model and AddTime itself answer, for any two numbers: one contract a function and a case.
-/
import Derived.Test.YtnbbbmhfmjkhbaaBase
namespace Go.Proofs.Ytnbbbmhfmjkhbaa
open Go.ChangeShapes Go.WideShapes Go.ChangeAt Go.RowKit
set_option maxHeartbeats 400000 in
theorem implAdd_bad (a b : Int) (h : a < 0 ∨ 1000000000000000 < a ∨ b < 0 ∨ 1000000000000000 < b) (w : World) :
    Calls Try.prog 20 #[.int .i64 a, .int .i64 b] w fun e w' => e = .returned (.agg #[.int .i64 3, .int .i64 0]) ∧ Below w.heap.size w w' := by
  by_cases c1 : a < 0
  · clear h
    go_enter Try.func20, Try.ntmps20
    go_wp2
    exact bodyPost_ret (v := .agg #[.int .i64 3, .int .i64 0]) (by simp [results, Try.results20, go_sem]) rfl ⟨rfl, (Below.refl _ _).alloc (Nat.le_refl _) _⟩
  · by_cases c2 : 1000000000000000 < a
    · clear h
      have d2 : decide (a ≤ 1000000000000000) = false := by simp; omega
      go_enter Try.func20, Try.ntmps20
      go_wp2
      exact bodyPost_ret (v := .agg #[.int .i64 3, .int .i64 0]) (by simp [results, Try.results20, go_sem]) rfl ⟨rfl, (Below.refl _ _).alloc (Nat.le_refl _) _⟩
    · have d2 : decide (a ≤ 1000000000000000) = true := by simp; omega
      by_cases c3 : b < 0
      · clear h
        go_enter Try.func20, Try.ntmps20
        go_wp2
        exact bodyPost_ret (v := .agg #[.int .i64 3, .int .i64 0]) (by simp [results, Try.results20, go_sem]) rfl ⟨rfl, (Below.refl _ _).alloc (Nat.le_refl _) _⟩
      · have c4 : 1000000000000000 < b := by omega
        have d4 : decide (b ≤ 1000000000000000) = false := by simp; omega
        clear h
        go_enter Try.func20, Try.ntmps20
        go_wp2
        exact bodyPost_ret (v := .agg #[.int .i64 3, .int .i64 0]) (by simp [results, Try.results20, go_sem]) rfl ⟨rfl, (Below.refl _ _).alloc (Nat.le_refl _) _⟩
set_option maxHeartbeats 400000 in
theorem implAdd_over (a b : Int) (a0 : 0 ≤ a) (a1 : a ≤ 1000000000000000) (b0 : 0 ≤ b) (b1 : b ≤ 1000000000000000) (h : 1000000000000000 ≤ a + b) (w : World) :
    Calls Try.prog 20 #[.int .i64 a, .int .i64 b] w fun e w' => e = .returned (.agg #[.int .i64 0, .int .i64 1000000000000000]) ∧ Below w.heap.size w w' := by
  have d2 : decide (a ≤ 1000000000000000) = true := by simp; omega
  have d4 : decide (b ≤ 1000000000000000) = true := by simp; omega
  rcases Int.lt_or_eq_of_le h with h1 | h1
  · have h2 : 1000000000000000 - b < a := by omega
    clear h
    go_enter Try.func20, Try.ntmps20
    go_wp2
    exact bodyPost_ret (v := .agg #[.int .i64 0, .int .i64 1000000000000000]) (by simp [results, Try.results20, go_sem]) rfl ⟨rfl, (Below.refl _ _).alloc (Nat.le_refl _) _⟩
  · obtain rfl : a = 1000000000000000 - b := by omega
    clear h h1
    have e1 : (1000000000000000 - b + b) = 1000000000000000 := by omega
    go_enter Try.func20, Try.ntmps20
    go_wp2
    exact bodyPost_ret (v := .agg #[.int .i64 0, .int .i64 1000000000000000]) (by simp [results, Try.results20, go_sem]) rfl ⟨rfl, (Below.refl _ _).alloc (Nat.le_refl _) _⟩
set_option maxHeartbeats 400000 in
theorem implAdd_under (a b : Int) (a0 : 0 ≤ a) (a1 : a ≤ 1000000000000000) (b0 : 0 ≤ b) (b1 : b ≤ 1000000000000000) (h : a + b < 1000000000000000) (w : World) :
    Calls Try.prog 20 #[.int .i64 a, .int .i64 b] w fun e w' => e = .returned (.agg #[.int .i64 0, .int .i64 (a + b)]) ∧ Below w.heap.size w w' := by
  have d2 : decide (a ≤ 1000000000000000) = true := by simp; omega
  have d4 : decide (b ≤ 1000000000000000) = true := by simp; omega
  have h2 : ¬ 1000000000000000 - b < a := by omega
  go_enter Try.func20, Try.ntmps20
  go_wp2
  exact bodyPost_ret (v := .agg #[.int .i64 0, .int .i64 (a + b)]) (by simp [results, Try.results20, go_sem]) rfl ⟨rfl, (Below.refl _ _).alloc (Nat.le_refl _) _⟩
end Go.Proofs.Ytnbbbmhfmjkhbaa
