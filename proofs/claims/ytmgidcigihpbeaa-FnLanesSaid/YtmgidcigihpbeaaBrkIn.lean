/-
  Numbers within bounds; RulesFault, on both sides; a copy of rules.
-/
import Derived.Test.YtmgidcigihpbeaaMetaKit
import Derived.Test.YtmgidcigihpbeaaSFour
import Derived.Test.YtmgidcigihpbeaaSFive
namespace Go.Proofs.Ytmgidcigihpbeaa
open Go.ChangeShapes Go.WideShapes Go.ChangeAt Go.RowKit Go.Sort
def inW (lo hi x : Int) : Bool := decide (lo ≤ x) && decide (x ≤ hi)
theorem inW_yes {lo hi x : Int} (h0 : lo ≤ x) (h1 : x ≤ hi) : inW lo hi x = true := by simp [inW, h0, h1]
theorem inW_of {lo hi x : Int} (h : inW lo hi x = true) : lo ≤ x ∧ x ≤ hi := by simpa [inW] using h
theorem l1In_w (x lo hi : Int) (w : World) : Calls Try.prog 52 #[.int .i64 x, .int .i64 lo, .int .i64 hi] w fun r w' => r = .returned (.bool (inW lo hi x)) ∧ w' = w := by
  by_cases c1 : lo ≤ x
  · by_cases c2 : x ≤ hi
    · rw [inW_yes c1 c2]
      have d2 : decide (x ≤ hi) = true := by simpa using c2
      go_enter Try.func52, Try.ntmps52
      go_wp2
      go_ret
      exact ⟨rfl, rfl⟩
    · have e : inW lo hi x = false := by simp [inW]; omega
      rw [e]
      have d2 : decide (x ≤ hi) = false := by simpa using c2
      go_enter Try.func52, Try.ntmps52
      go_wp2
      go_ret
      exact ⟨rfl, rfl⟩
  · have e : inW lo hi x = false := by simp [inW]; omega
    rw [e]
    go_enter Try.func52, Try.ntmps52
    go_wp2
    go_ret
    exact ⟨rfl, rfl⟩
theorem isWithin_all (x lo hi : Int) (w : World) : Calls Try.prog 40 #[.int .i64 x, .int .i64 lo, .int .i64 hi] w fun r w' => r = .returned (.bool (inW lo hi x)) ∧ w' = w := by
  by_cases c1 : lo ≤ x
  · by_cases c2 : x ≤ hi
    · rw [inW_yes c1 c2]
      have d2 : decide (x ≤ hi) = true := by simpa using c2
      go_enter Try.func40, Try.ntmps40
      go_wp2
      go_ret
      exact ⟨rfl, rfl⟩
    · have e : inW lo hi x = false := by simp [inW]; omega
      rw [e]
      have d2 : decide (x ≤ hi) = false := by simpa using c2
      go_enter Try.func40, Try.ntmps40
      go_wp2
      go_ret
      exact ⟨rfl, rfl⟩
  · have e : inW lo hi x = false := by simp [inW]; omega
    rw [e]
    go_enter Try.func40, Try.ntmps40
    go_wp2
    go_ret
    exact ⟨rfl, rfl⟩
def rulesB (a0 a1 a2 a3 a4 : Int) : Bool := inW 1 1000000 a0 && inW 1 50 a1 && inW 1 1000 a2 && inW 0 1000000 a3 && inW 1 5 a4
def rulesC (a0 a1 a2 a3 a4 : Int) : Int := if rulesB a0 a1 a2 a3 a4 = true then 0 else 3
theorem rulesC_ok {a0 a1 a2 a3 a4 : Int} (h : rulesB a0 a1 a2 a3 a4 = true) : rulesC a0 a1 a2 a3 a4 = 0 := by rw [rulesC, if_pos h]
theorem rulesC_bad {a0 a1 a2 a3 a4 : Int} (h : rulesB a0 a1 a2 a3 a4 = false) : rulesC a0 a1 a2 a3 a4 = 3 := by rw [rulesC, if_neg (by rw [h]; decide)]
theorem rulesB_of {a0 a1 a2 a3 a4 : Int} (h : rulesB a0 a1 a2 a3 a4 = true) : (1 ≤ a0 ∧ a0 ≤ 1000000) ∧ (1 ≤ a1 ∧ a1 ≤ 50) ∧ (1 ≤ a2 ∧ a2 ≤ 1000) ∧ (0 ≤ a3 ∧ a3 ≤ 1000000) ∧ (1 ≤ a4 ∧ a4 ≤ 5) := by
  simp only [rulesB, Bool.and_eq_true] at h
  exact ⟨inW_of h.1.1.1.1, inW_of h.1.1.1.2, inW_of h.1.1.2, inW_of h.1.2, inW_of h.2⟩
set_option maxHeartbeats 4000000 in
theorem specRules_any (a0 a1 a2 a3 a4 : Int) (w : World) :
    Calls Try.prog 31 #[.agg #[.int .i64 a0, .int .i64 a1, .int .i64 a2, .int .i64 a3, .int .i64 a4]] w fun r w' => r = .returned (.int .i64 (rulesC a0 a1 a2 a3 a4)) ∧ Below w.heap.size w w' := by
  have HT : Hid (∀ x lo hi w, Calls Try.prog 52 #[.int .i64 x, .int .i64 lo, .int .i64 hi] w fun r w' => r = .returned (.bool (inW lo hi x)) ∧ w' = w) := l1In_w
  have HB : Hid (Below w.heap.size w (w.alloc (.cells #[.int .i64 a0, .int .i64 a1, .int .i64 a2, .int .i64 a3, .int .i64 a4] 53))) := (Below.refl _ _).alloc (Nat.le_refl _) _
  cases h0 : inW 1 1000000 a0
  · rw [rulesC_bad (by simp [rulesB, h0])]
    go_enter Try.func31, Try.ntmps31
    go_wp2_with fail
    refine (HT.out a0 1 1000000 _).mono ?_
    rintro r w1 ⟨rfl, rfl⟩
    rw [h0]
    go_wp2_with fail
    go_ret
    exact ⟨rfl, HB.out⟩
  cases h1 : inW 1 50 a1
  · rw [rulesC_bad (by simp [rulesB, h1])]
    go_enter Try.func31, Try.ntmps31
    go_wp2_with fail
    refine (HT.out a0 1 1000000 _).mono ?_
    rintro r w1 ⟨rfl, rfl⟩
    rw [h0]
    go_wp2_with fail
    refine (HT.out a1 1 50 _).mono ?_
    rintro r w1 ⟨rfl, rfl⟩
    rw [h1]
    go_wp2_with fail
    go_ret
    exact ⟨rfl, HB.out⟩
  cases h2 : inW 1 1000 a2
  · rw [rulesC_bad (by simp [rulesB, h2])]
    go_enter Try.func31, Try.ntmps31
    go_wp2_with fail
    refine (HT.out a0 1 1000000 _).mono ?_
    rintro r w1 ⟨rfl, rfl⟩
    rw [h0]
    go_wp2_with fail
    refine (HT.out a1 1 50 _).mono ?_
    rintro r w1 ⟨rfl, rfl⟩
    rw [h1]
    go_wp2_with fail
    refine (HT.out a2 1 1000 _).mono ?_
    rintro r w1 ⟨rfl, rfl⟩
    rw [h2]
    go_wp2_with fail
    go_ret
    exact ⟨rfl, HB.out⟩
  cases h3 : inW 0 1000000 a3
  · rw [rulesC_bad (by simp [rulesB, h3])]
    go_enter Try.func31, Try.ntmps31
    go_wp2_with fail
    refine (HT.out a0 1 1000000 _).mono ?_
    rintro r w1 ⟨rfl, rfl⟩
    rw [h0]
    go_wp2_with fail
    refine (HT.out a1 1 50 _).mono ?_
    rintro r w1 ⟨rfl, rfl⟩
    rw [h1]
    go_wp2_with fail
    refine (HT.out a2 1 1000 _).mono ?_
    rintro r w1 ⟨rfl, rfl⟩
    rw [h2]
    go_wp2_with fail
    refine (HT.out a3 0 1000000 _).mono ?_
    rintro r w1 ⟨rfl, rfl⟩
    rw [h3]
    go_wp2_with fail
    go_ret
    exact ⟨rfl, HB.out⟩
  cases h4 : inW 1 5 a4
  · rw [rulesC_bad (by simp [rulesB, h4])]
    go_enter Try.func31, Try.ntmps31
    go_wp2_with fail
    refine (HT.out a0 1 1000000 _).mono ?_
    rintro r w1 ⟨rfl, rfl⟩
    rw [h0]
    go_wp2_with fail
    refine (HT.out a1 1 50 _).mono ?_
    rintro r w1 ⟨rfl, rfl⟩
    rw [h1]
    go_wp2_with fail
    refine (HT.out a2 1 1000 _).mono ?_
    rintro r w1 ⟨rfl, rfl⟩
    rw [h2]
    go_wp2_with fail
    refine (HT.out a3 0 1000000 _).mono ?_
    rintro r w1 ⟨rfl, rfl⟩
    rw [h3]
    go_wp2_with fail
    refine (HT.out a4 1 5 _).mono ?_
    rintro r w1 ⟨rfl, rfl⟩
    rw [h4]
    go_wp2_with fail
    go_ret
    exact ⟨rfl, HB.out⟩
  · rw [rulesC_ok (by simp [rulesB, h0, h1, h2, h3, h4])]
    go_enter Try.func31, Try.ntmps31
    go_wp2_with fail
    refine (HT.out a0 1 1000000 _).mono ?_
    rintro r w1 ⟨rfl, rfl⟩
    rw [h0]
    go_wp2_with fail
    refine (HT.out a1 1 50 _).mono ?_
    rintro r w1 ⟨rfl, rfl⟩
    rw [h1]
    go_wp2_with fail
    refine (HT.out a2 1 1000 _).mono ?_
    rintro r w1 ⟨rfl, rfl⟩
    rw [h2]
    go_wp2_with fail
    refine (HT.out a3 0 1000000 _).mono ?_
    rintro r w1 ⟨rfl, rfl⟩
    rw [h3]
    go_wp2_with fail
    refine (HT.out a4 1 5 _).mono ?_
    rintro r w1 ⟨rfl, rfl⟩
    rw [h4]
    go_wp2_with fail
    go_ret
    exact ⟨rfl, HB.out⟩
set_option maxHeartbeats 4000000 in
theorem implRules_any (a0 a1 a2 a3 a4 : Int) (w : World) :
    Calls Try.prog 30 #[.agg #[.int .i64 a0, .int .i64 a1, .int .i64 a2, .int .i64 a3, .int .i64 a4]] w fun r w' => r = .returned (.int .i64 (rulesC a0 a1 a2 a3 a4)) ∧ Below w.heap.size w w' := by
  have HT : Hid (∀ x lo hi w, Calls Try.prog 40 #[.int .i64 x, .int .i64 lo, .int .i64 hi] w fun r w' => r = .returned (.bool (inW lo hi x)) ∧ w' = w) := isWithin_all
  have HB : Hid (Below w.heap.size w (w.alloc (.cells #[.int .i64 a0, .int .i64 a1, .int .i64 a2, .int .i64 a3, .int .i64 a4] 53))) := (Below.refl _ _).alloc (Nat.le_refl _) _
  cases h0 : inW 1 1000000 a0
  · rw [rulesC_bad (by simp [rulesB, h0])]
    go_enter Try.func30, Try.ntmps30
    go_wp2_with fail
    refine (HT.out a0 1 1000000 _).mono ?_
    rintro r w1 ⟨rfl, rfl⟩
    rw [h0]
    go_wp2_with fail
    go_ret
    exact ⟨rfl, HB.out⟩
  cases h1 : inW 1 50 a1
  · rw [rulesC_bad (by simp [rulesB, h1])]
    go_enter Try.func30, Try.ntmps30
    go_wp2_with fail
    refine (HT.out a0 1 1000000 _).mono ?_
    rintro r w1 ⟨rfl, rfl⟩
    rw [h0]
    go_wp2_with fail
    refine (HT.out a1 1 50 _).mono ?_
    rintro r w1 ⟨rfl, rfl⟩
    rw [h1]
    go_wp2_with fail
    go_ret
    exact ⟨rfl, HB.out⟩
  cases h2 : inW 1 1000 a2
  · rw [rulesC_bad (by simp [rulesB, h2])]
    go_enter Try.func30, Try.ntmps30
    go_wp2_with fail
    refine (HT.out a0 1 1000000 _).mono ?_
    rintro r w1 ⟨rfl, rfl⟩
    rw [h0]
    go_wp2_with fail
    refine (HT.out a1 1 50 _).mono ?_
    rintro r w1 ⟨rfl, rfl⟩
    rw [h1]
    go_wp2_with fail
    refine (HT.out a2 1 1000 _).mono ?_
    rintro r w1 ⟨rfl, rfl⟩
    rw [h2]
    go_wp2_with fail
    go_ret
    exact ⟨rfl, HB.out⟩
  cases h3 : inW 0 1000000 a3
  · rw [rulesC_bad (by simp [rulesB, h3])]
    go_enter Try.func30, Try.ntmps30
    go_wp2_with fail
    refine (HT.out a0 1 1000000 _).mono ?_
    rintro r w1 ⟨rfl, rfl⟩
    rw [h0]
    go_wp2_with fail
    refine (HT.out a1 1 50 _).mono ?_
    rintro r w1 ⟨rfl, rfl⟩
    rw [h1]
    go_wp2_with fail
    refine (HT.out a2 1 1000 _).mono ?_
    rintro r w1 ⟨rfl, rfl⟩
    rw [h2]
    go_wp2_with fail
    refine (HT.out a3 0 1000000 _).mono ?_
    rintro r w1 ⟨rfl, rfl⟩
    rw [h3]
    go_wp2_with fail
    go_ret
    exact ⟨rfl, HB.out⟩
  cases h4 : inW 1 5 a4
  · rw [rulesC_bad (by simp [rulesB, h4])]
    go_enter Try.func30, Try.ntmps30
    go_wp2_with fail
    refine (HT.out a0 1 1000000 _).mono ?_
    rintro r w1 ⟨rfl, rfl⟩
    rw [h0]
    go_wp2_with fail
    refine (HT.out a1 1 50 _).mono ?_
    rintro r w1 ⟨rfl, rfl⟩
    rw [h1]
    go_wp2_with fail
    refine (HT.out a2 1 1000 _).mono ?_
    rintro r w1 ⟨rfl, rfl⟩
    rw [h2]
    go_wp2_with fail
    refine (HT.out a3 0 1000000 _).mono ?_
    rintro r w1 ⟨rfl, rfl⟩
    rw [h3]
    go_wp2_with fail
    refine (HT.out a4 1 5 _).mono ?_
    rintro r w1 ⟨rfl, rfl⟩
    rw [h4]
    go_wp2_with fail
    go_ret
    exact ⟨rfl, HB.out⟩
  · rw [rulesC_ok (by simp [rulesB, h0, h1, h2, h3, h4])]
    go_enter Try.func30, Try.ntmps30
    go_wp2_with fail
    refine (HT.out a0 1 1000000 _).mono ?_
    rintro r w1 ⟨rfl, rfl⟩
    rw [h0]
    go_wp2_with fail
    refine (HT.out a1 1 50 _).mono ?_
    rintro r w1 ⟨rfl, rfl⟩
    rw [h1]
    go_wp2_with fail
    refine (HT.out a2 1 1000 _).mono ?_
    rintro r w1 ⟨rfl, rfl⟩
    rw [h2]
    go_wp2_with fail
    refine (HT.out a3 0 1000000 _).mono ?_
    rintro r w1 ⟨rfl, rfl⟩
    rw [h3]
    go_wp2_with fail
    refine (HT.out a4 1 5 _).mono ?_
    rintro r w1 ⟨rfl, rfl⟩
    rw [h4]
    go_wp2_with fail
    go_ret
    exact ⟨rfl, HB.out⟩
end Go.Proofs.Ytmgidcigihpbeaa
