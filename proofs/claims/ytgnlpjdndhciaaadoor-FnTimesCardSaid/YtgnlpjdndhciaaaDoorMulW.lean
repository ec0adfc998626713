/-
  What MulTime's model and MulTime itself answer, for any two numbers: one contract a function and a case.
-/
import Derived.Test.YtgnlpjdndhciaaaDoorBase
namespace Go.Proofs.YtgnlpjdndhciaaaDoor
open Go.ChangeShapes Go.WideShapes Go.ChangeAt Go.RowKit
set_option maxHeartbeats 400000 in
theorem specMul_bad (a b : Int) (h : a < 0 ∨ 1000000000000000 < a ∨ b < 0 ∨ 1000000000000000 < b) (w : World) :
    Calls Tryd.prog 22 #[.int .i64 a, .int .i64 b] w fun e w' => e = .returned (.agg #[.int .i64 3, .int .i64 0]) ∧ Below w.heap.size w w' := by
  by_cases c1 : a < 0
  · clear h
    go_enter Tryd.func22, Tryd.ntmps22
    go_wp2
    exact bodyPost_ret (v := .agg #[.int .i64 3, .int .i64 0]) (by simp [results, Tryd.results22, go_sem]) rfl ⟨rfl, (Below.refl _ _).alloc (Nat.le_refl _) _⟩
  · by_cases c2 : 1000000000000000 < a
    · clear h
      have d2 : decide (a ≤ 1000000000000000) = false := by simp; omega
      go_enter Tryd.func22, Tryd.ntmps22
      go_wp2
      exact bodyPost_ret (v := .agg #[.int .i64 3, .int .i64 0]) (by simp [results, Tryd.results22, go_sem]) rfl ⟨rfl, (Below.refl _ _).alloc (Nat.le_refl _) _⟩
    · have d2 : decide (a ≤ 1000000000000000) = true := by simp; omega
      by_cases c3 : b < 0
      · clear h
        go_enter Tryd.func22, Tryd.ntmps22
        go_wp2
        exact bodyPost_ret (v := .agg #[.int .i64 3, .int .i64 0]) (by simp [results, Tryd.results22, go_sem]) rfl ⟨rfl, (Below.refl _ _).alloc (Nat.le_refl _) _⟩
      · have c4 : 1000000000000000 < b := by omega
        have d4 : decide (b ≤ 1000000000000000) = false := by simp; omega
        clear h
        go_enter Tryd.func22, Tryd.ntmps22
        go_wp2
        exact bodyPost_ret (v := .agg #[.int .i64 3, .int .i64 0]) (by simp [results, Tryd.results22, go_sem]) rfl ⟨rfl, (Below.refl _ _).alloc (Nat.le_refl _) _⟩
set_option maxHeartbeats 400000 in
theorem implMul_bad (a b : Int) (h : a < 0 ∨ 1000000000000000 < a ∨ b < 0 ∨ 1000000000000000 < b) (w : World) :
    Calls Tryd.prog 16 #[.int .i64 a, .int .i64 b] w fun e w' => e = .returned (.agg #[.int .i64 3, .int .i64 0]) ∧ Below w.heap.size w w' := by
  by_cases c1 : a < 0
  · clear h
    go_enter Tryd.func16, Tryd.ntmps16
    go_wp2
    exact bodyPost_ret (v := .agg #[.int .i64 3, .int .i64 0]) (by simp [results, Tryd.results16, go_sem]) rfl ⟨rfl, (Below.refl _ _).alloc (Nat.le_refl _) _⟩
  · by_cases c2 : 1000000000000000 < a
    · clear h
      have d2 : decide (a ≤ 1000000000000000) = false := by simp; omega
      go_enter Tryd.func16, Tryd.ntmps16
      go_wp2
      exact bodyPost_ret (v := .agg #[.int .i64 3, .int .i64 0]) (by simp [results, Tryd.results16, go_sem]) rfl ⟨rfl, (Below.refl _ _).alloc (Nat.le_refl _) _⟩
    · have d2 : decide (a ≤ 1000000000000000) = true := by simp; omega
      by_cases c3 : b < 0
      · clear h
        go_enter Tryd.func16, Tryd.ntmps16
        go_wp2
        exact bodyPost_ret (v := .agg #[.int .i64 3, .int .i64 0]) (by simp [results, Tryd.results16, go_sem]) rfl ⟨rfl, (Below.refl _ _).alloc (Nat.le_refl _) _⟩
      · have c4 : 1000000000000000 < b := by omega
        have d4 : decide (b ≤ 1000000000000000) = false := by simp; omega
        clear h
        go_enter Tryd.func16, Tryd.ntmps16
        go_wp2
        exact bodyPost_ret (v := .agg #[.int .i64 3, .int .i64 0]) (by simp [results, Tryd.results16, go_sem]) rfl ⟨rfl, (Below.refl _ _).alloc (Nat.le_refl _) _⟩
set_option maxHeartbeats 400000 in
theorem specMul_zero (a : Int) (a0 : 0 ≤ a) (a1 : a ≤ 1000000000000000) (w : World) :
    Calls Tryd.prog 22 #[.int .i64 a, .int .i64 0] w fun e w' => e = .returned (.agg #[.int .i64 0, .int .i64 0]) ∧ Below w.heap.size w w' := by
  have d2 : decide (a ≤ 1000000000000000) = true := by simp; omega
  go_enter Tryd.func22, Tryd.ntmps22
  go_wp2
  exact bodyPost_ret (v := .agg #[.int .i64 0, .int .i64 0]) (by simp [results, Tryd.results22, go_sem]) rfl ⟨rfl, (Below.refl _ _).alloc (Nat.le_refl _) _⟩
set_option maxHeartbeats 400000 in
theorem specMul_over (a b : Int) (a0 : 0 ≤ a) (a1 : a ≤ 1000000000000000) (b0 : 0 < b) (b1 : b ≤ 1000000000000000) (h : 1000000000000000 / b < a) (w : World) :
    Calls Tryd.prog 22 #[.int .i64 a, .int .i64 b] w fun e w' => e = .returned (.agg #[.int .i64 0, .int .i64 1000000000000000]) ∧ Below w.heap.size w w' := by
  have d2 : decide (a ≤ 1000000000000000) = true := by simp; omega
  have d4 : decide (b ≤ 1000000000000000) = true := by simp; omega
  have hne : ¬ b = 0 := by omega
  have hn2 : (b != 0) = true := by simp; omega
  have d5 : decide (1000000000000000 / b < a) = true := by simpa using h
  go_enter Tryd.func22, Tryd.ntmps22
  go_wp2
  exact bodyPost_ret (v := .agg #[.int .i64 0, .int .i64 1000000000000000]) (by simp [results, Tryd.results22, go_sem]) rfl ⟨rfl, (Below.refl _ _).alloc (Nat.le_refl _) _⟩
set_option maxHeartbeats 400000 in
theorem specMul_under (a b : Int) (a0 : 0 ≤ a) (a1 : a ≤ 1000000000000000) (b0 : 0 < b) (b1 : b ≤ 1000000000000000) (h : ¬ 1000000000000000 / b < a) (hp : 0 ≤ a * b) (hm : a * b ≤ 1000000000000000) (w : World) :
    Calls Tryd.prog 22 #[.int .i64 a, .int .i64 b] w fun e w' => e = .returned (.agg #[.int .i64 0, .int .i64 (a * b)]) ∧ Below w.heap.size w w' := by
  have d2 : decide (a ≤ 1000000000000000) = true := by simp; omega
  have d4 : decide (b ≤ 1000000000000000) = true := by simp; omega
  have hne : ¬ b = 0 := by omega
  have hn2 : (b != 0) = true := by simp; omega
  have d5 : decide (1000000000000000 / b < a) = false := by simpa using h
  go_enter Tryd.func22, Tryd.ntmps22
  go_wp2
  exact bodyPost_ret (v := .agg #[.int .i64 0, .int .i64 (a * b)]) (by simp [results, Tryd.results22, go_sem]) rfl ⟨rfl, (Below.refl _ _).alloc (Nat.le_refl _) _⟩
set_option maxHeartbeats 400000 in
theorem implMul_zero (a : Int) (a0 : 0 ≤ a) (a1 : a ≤ 1000000000000000) (w : World) :
    Calls Tryd.prog 16 #[.int .i64 a, .int .i64 0] w fun e w' => e = .returned (.agg #[.int .i64 0, .int .i64 0]) ∧ Below w.heap.size w w' := by
  have d2 : decide (a ≤ 1000000000000000) = true := by simp; omega
  go_enter Tryd.func16, Tryd.ntmps16
  go_wp2
  exact bodyPost_ret (v := .agg #[.int .i64 0, .int .i64 0]) (by simp [results, Tryd.results16, go_sem]) rfl ⟨rfl, (Below.refl _ _).alloc (Nat.le_refl _) _⟩
set_option maxHeartbeats 400000 in
theorem implMul_over (a b : Int) (a0 : 0 ≤ a) (a1 : a ≤ 1000000000000000) (b0 : 0 < b) (b1 : b ≤ 1000000000000000) (h : 1000000000000000 / b < a) (w : World) :
    Calls Tryd.prog 16 #[.int .i64 a, .int .i64 b] w fun e w' => e = .returned (.agg #[.int .i64 0, .int .i64 1000000000000000]) ∧ Below w.heap.size w w' := by
  have d2 : decide (a ≤ 1000000000000000) = true := by simp; omega
  have d4 : decide (b ≤ 1000000000000000) = true := by simp; omega
  have hne : ¬ b = 0 := by omega
  have hn2 : (b != 0) = true := by simp; omega
  have d5 : decide (1000000000000000 / b < a) = true := by simpa using h
  go_enter Tryd.func16, Tryd.ntmps16
  go_wp2
  exact bodyPost_ret (v := .agg #[.int .i64 0, .int .i64 1000000000000000]) (by simp [results, Tryd.results16, go_sem]) rfl ⟨rfl, (Below.refl _ _).alloc (Nat.le_refl _) _⟩
set_option maxHeartbeats 400000 in
theorem implMul_under (a b : Int) (a0 : 0 ≤ a) (a1 : a ≤ 1000000000000000) (b0 : 0 < b) (b1 : b ≤ 1000000000000000) (h : ¬ 1000000000000000 / b < a) (hp : 0 ≤ a * b) (hm : a * b ≤ 1000000000000000) (w : World) :
    Calls Tryd.prog 16 #[.int .i64 a, .int .i64 b] w fun e w' => e = .returned (.agg #[.int .i64 0, .int .i64 (a * b)]) ∧ Below w.heap.size w w' := by
  have d2 : decide (a ≤ 1000000000000000) = true := by simp; omega
  have d4 : decide (b ≤ 1000000000000000) = true := by simp; omega
  have hne : ¬ b = 0 := by omega
  have hn2 : (b != 0) = true := by simp; omega
  have d5 : decide (1000000000000000 / b < a) = false := by simpa using h
  go_enter Tryd.func16, Tryd.ntmps16
  go_wp2
  exact bodyPost_ret (v := .agg #[.int .i64 0, .int .i64 (a * b)]) (by simp [results, Tryd.results16, go_sem]) rfl ⟨rfl, (Below.refl _ _).alloc (Nat.le_refl _) _⟩
end Go.Proofs.YtgnlpjdndhciaaaDoor
