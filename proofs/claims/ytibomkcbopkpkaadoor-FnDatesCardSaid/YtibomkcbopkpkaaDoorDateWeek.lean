/-
  WeekdayOf, on both sides.
-/
import Derived.Test.YtibomkcbopkpkaaDoorDateDay
namespace Go.Proofs.YtibomkcbopkpkaaDoor
open Go.ChangeShapes Go.WideShapes Go.ChangeAt Go.RowKit
def knownB (n : Int) : Bool := decide (0 ≤ n) && decide (n ≤ 253402300799)
theorem knownB_yes {n : Int} (h : knownB n = true) : 0 ≤ n ∧ n ≤ 253402300799 := by simpa [knownB] using h
theorem knownB_of {n : Int} (h0 : 0 ≤ n) (h1 : n ≤ 253402300799) : knownB n = true := by simp [knownB, h0, h1]
theorem knownB_no {n : Int} (h : knownB n = false) : n < 0 ∨ 253402300799 < n := by
  rcases Int.lt_or_le n 0 with k | k
  · exact .inl k
  · rcases Int.lt_or_le 253402300799 n with k2 | k2
    · exact .inr k2
    · rw [knownB_of k k2] at h; cases h
def kC (n : Int) : Int := if knownB n = true then 0 else 3
def wdV (n : Int) : Int := if knownB n = true then (n / 86400 + 4) % 7 else 0
theorem kC_yes {n : Int} (h : knownB n = true) : kC n = 0 := by simp [kC, h]
theorem kC_no {n : Int} (h : knownB n = false) : kC n = 3 := by simp [kC, h]
theorem wdV_yes {n : Int} (h : knownB n = true) : wdV n = (n / 86400 + 4) % 7 := by simp [wdV, h]
theorem wdV_no {n : Int} (h : knownB n = false) : wdV n = 0 := by simp [wdV, h]
set_option maxHeartbeats 400000 in
theorem specKnown_any (n : Int) (w : World) :
    Calls Tryd.prog 98 #[.int .i64 n] w fun e w' => e = .returned (.bool (knownB n)) ∧ w' = w := by
  have H : Hid (∀ w, Calls Tryd.prog 97 #[.int .i64 n, .int .i64 0, .int .i64 253402300799] w fun e w' => e = .returned (.bool (knownB n)) ∧ w' = w) := by
    intro w
    cases k : knownB n
    · exact l1In_no n _ _ w (knownB_no k)
    · exact l1In_yes n _ _ w (knownB_yes k).1 (knownB_yes k).2
  go_enter Tryd.func98, Tryd.ntmps98
  go_wp2_with fail
  refine (H.out _).mono ?_
  rintro e w1 ⟨rfl, rfl⟩
  go_wp2
  go_ret
  exact ⟨rfl, rfl⟩
set_option maxHeartbeats 400000 in
theorem implKnown_any (n : Int) (w : World) :
    Calls Tryd.prog 88 #[.int .i64 n] w fun e w' => e = .returned (.bool (knownB n)) ∧ w' = w := by
  cases k : knownB n
  · by_cases c : n < 0
    · go_enter Tryd.func88, Tryd.ntmps88
      go_wp2
      go_ret
      exact ⟨rfl, rfl⟩
    · have c2 : 253402300799 < n := by have := knownB_no k; omega
      have d2 : decide (n ≤ 253402300799) = false := by simpa using c2
      go_enter Tryd.func88, Tryd.ntmps88
      go_wp2
      go_ret
      exact ⟨rfl, rfl⟩
  · obtain ⟨h0, h1⟩ := knownB_yes k
    have d2 : decide (n ≤ 253402300799) = true := by simpa using h1
    go_enter Tryd.func88, Tryd.ntmps88
    go_wp2
    go_ret
    exact ⟨rfl, rfl⟩
set_option maxHeartbeats 1000000 in
theorem implWeek_any (n : Int) (w : World) :
    Calls Tryd.prog 49 #[.int .i64 n] w fun e w' => e = .returned (.agg #[.int .i64 (kC n), .int .i64 (wdV n)]) ∧ Below w.heap.size w w' := by
  have H : Hid (∀ w, Calls Tryd.prog 88 #[.int .i64 n] w fun e w' => e = .returned (.bool (knownB n)) ∧ w' = w) := implKnown_any n
  cases hk : knownB n
  · rw [kC_no hk, wdV_no hk]
    rw [hk] at H
    clear hk
    go_enter Tryd.func49, Tryd.ntmps49
    go_wp2_with fail
    refine (H.out _).mono ?_
    rintro e w1 ⟨rfl, rfl⟩
    go_wp2
    exact bodyPost_ret (v := .agg #[.int .i64 3, .int .i64 0]) (by simp [results, Tryd.results49, go_sem]) rfl ⟨rfl, (Below.refl _ _).alloc (Nat.le_refl _) _⟩
  · rw [kC_yes hk, wdV_yes hk]
    rw [hk] at H
    obtain ⟨h0, h1⟩ := knownB_yes hk
    clear hk
    go_enter Tryd.func49, Tryd.ntmps49
    go_wp2_with fail
    refine (H.out _).mono ?_
    rintro e w1 ⟨rfl, rfl⟩
    go_wp2
    exact bodyPost_ret (v := .agg #[.int .i64 0, .int .i64 ((n / 86400 + 4) % 7)]) (by simp [results, Tryd.results49, go_sem]) rfl ⟨rfl, (Below.refl _ _).alloc (Nat.le_refl _) _⟩
end Go.Proofs.YtibomkcbopkpkaaDoor
