/-
  LanesFault, on both sides; a copy of lanes.
-/
import Derived.Test.YtmgidcigihpbeaaBrkIn
import Derived.Test.YtmgidcigihpbeaaWGB
namespace Go.Proofs.Ytmgidcigihpbeaa
open Go.ChangeShapes Go.WideShapes Go.ChangeAt Go.RowKit Go.Sort
def lanesB (s c t : Int) : Bool := inW 1 8 s && inW 0 8 c && inW 0 1000000 t
def lanesC (s c t : Int) : Int := if lanesB s c t = true then 0 else 3
theorem lanesC_ok {s c t : Int} (h : lanesB s c t = true) : lanesC s c t = 0 := by rw [lanesC, if_pos h]
theorem lanesC_bad {s c t : Int} (h : lanesB s c t = false) : lanesC s c t = 3 := by rw [lanesC, if_neg (by rw [h]; decide)]
theorem lanesB_of {s c t : Int} (h : lanesB s c t = true) : (1 ≤ s ∧ s ≤ 8) ∧ (0 ≤ c ∧ c ≤ 8) ∧ (0 ≤ t ∧ t ≤ 1000000) := by
  simp only [lanesB, Bool.and_eq_true] at h
  exact ⟨inW_of h.1.1, inW_of h.1.2, inW_of h.2⟩
theorem inW_time (x : Int) : inW 0 1000000000000000 x = timeB x := rfl
set_option maxHeartbeats 4000000 in
theorem specLanes_any (s c t : Int) (w : World) :
    Calls Try.prog 14 #[.agg #[.int .i64 s, .int .i64 c, .int .i64 t]] w fun r w' => r = .returned (.int .i64 (lanesC s c t)) ∧ Below w.heap.size w w' := by
  have HT : Hid (∀ x lo hi w, Calls Try.prog 52 #[.int .i64 x, .int .i64 lo, .int .i64 hi] w fun r w' => r = .returned (.bool (inW lo hi x)) ∧ w' = w) := l1In_w
  have HB : Hid (Below w.heap.size w (w.alloc (.cells #[.int .i64 s, .int .i64 c, .int .i64 t] 28))) := (Below.refl _ _).alloc (Nat.le_refl _) _
  cases h0 : inW 1 8 s
  · rw [lanesC_bad (by simp [lanesB, h0])]
    go_enter Try.func14, Try.ntmps14
    go_wp2_with fail
    refine (HT.out s 1 8 _).mono ?_
    rintro r w1 ⟨rfl, rfl⟩
    rw [h0]
    go_wp2_with fail
    go_ret
    exact ⟨rfl, HB.out⟩
  cases h1 : inW 0 8 c
  · rw [lanesC_bad (by simp [lanesB, h1])]
    go_enter Try.func14, Try.ntmps14
    go_wp2_with fail
    refine (HT.out s 1 8 _).mono ?_
    rintro r w1 ⟨rfl, rfl⟩
    rw [h0]
    go_wp2_with fail
    refine (HT.out c 0 8 _).mono ?_
    rintro r w1 ⟨rfl, rfl⟩
    rw [h1]
    go_wp2_with fail
    go_ret
    exact ⟨rfl, HB.out⟩
  cases h2 : inW 0 1000000 t
  · rw [lanesC_bad (by simp [lanesB, h2])]
    go_enter Try.func14, Try.ntmps14
    go_wp2_with fail
    refine (HT.out s 1 8 _).mono ?_
    rintro r w1 ⟨rfl, rfl⟩
    rw [h0]
    go_wp2_with fail
    refine (HT.out c 0 8 _).mono ?_
    rintro r w1 ⟨rfl, rfl⟩
    rw [h1]
    go_wp2_with fail
    refine (HT.out t 0 1000000 _).mono ?_
    rintro r w1 ⟨rfl, rfl⟩
    rw [h2]
    go_wp2_with fail
    go_ret
    exact ⟨rfl, HB.out⟩
  · rw [lanesC_ok (by simp [lanesB, h0, h1, h2])]
    go_enter Try.func14, Try.ntmps14
    go_wp2_with fail
    refine (HT.out s 1 8 _).mono ?_
    rintro r w1 ⟨rfl, rfl⟩
    rw [h0]
    go_wp2_with fail
    refine (HT.out c 0 8 _).mono ?_
    rintro r w1 ⟨rfl, rfl⟩
    rw [h1]
    go_wp2_with fail
    refine (HT.out t 0 1000000 _).mono ?_
    rintro r w1 ⟨rfl, rfl⟩
    rw [h2]
    go_wp2_with fail
    go_ret
    exact ⟨rfl, HB.out⟩
set_option maxHeartbeats 4000000 in
theorem implLanes_any (s c t : Int) (w : World) :
    Calls Try.prog 13 #[.agg #[.int .i64 s, .int .i64 c, .int .i64 t]] w fun r w' => r = .returned (.int .i64 (lanesC s c t)) ∧ Below w.heap.size w w' := by
  have HT : Hid (∀ x lo hi w, Calls Try.prog 40 #[.int .i64 x, .int .i64 lo, .int .i64 hi] w fun r w' => r = .returned (.bool (inW lo hi x)) ∧ w' = w) := isWithin_all
  have HB : Hid (Below w.heap.size w (w.alloc (.cells #[.int .i64 s, .int .i64 c, .int .i64 t] 28))) := (Below.refl _ _).alloc (Nat.le_refl _) _
  cases h0 : inW 1 8 s
  · rw [lanesC_bad (by simp [lanesB, h0])]
    go_enter Try.func13, Try.ntmps13
    go_wp2_with fail
    refine (HT.out s 1 8 _).mono ?_
    rintro r w1 ⟨rfl, rfl⟩
    rw [h0]
    go_wp2_with fail
    go_ret
    exact ⟨rfl, HB.out⟩
  cases h1 : inW 0 8 c
  · rw [lanesC_bad (by simp [lanesB, h1])]
    go_enter Try.func13, Try.ntmps13
    go_wp2_with fail
    refine (HT.out s 1 8 _).mono ?_
    rintro r w1 ⟨rfl, rfl⟩
    rw [h0]
    go_wp2_with fail
    refine (HT.out c 0 8 _).mono ?_
    rintro r w1 ⟨rfl, rfl⟩
    rw [h1]
    go_wp2_with fail
    go_ret
    exact ⟨rfl, HB.out⟩
  cases h2 : inW 0 1000000 t
  · rw [lanesC_bad (by simp [lanesB, h2])]
    go_enter Try.func13, Try.ntmps13
    go_wp2_with fail
    refine (HT.out s 1 8 _).mono ?_
    rintro r w1 ⟨rfl, rfl⟩
    rw [h0]
    go_wp2_with fail
    refine (HT.out c 0 8 _).mono ?_
    rintro r w1 ⟨rfl, rfl⟩
    rw [h1]
    go_wp2_with fail
    refine (HT.out t 0 1000000 _).mono ?_
    rintro r w1 ⟨rfl, rfl⟩
    rw [h2]
    go_wp2_with fail
    go_ret
    exact ⟨rfl, HB.out⟩
  · rw [lanesC_ok (by simp [lanesB, h0, h1, h2])]
    go_enter Try.func13, Try.ntmps13
    go_wp2_with fail
    refine (HT.out s 1 8 _).mono ?_
    rintro r w1 ⟨rfl, rfl⟩
    rw [h0]
    go_wp2_with fail
    refine (HT.out c 0 8 _).mono ?_
    rintro r w1 ⟨rfl, rfl⟩
    rw [h1]
    go_wp2_with fail
    refine (HT.out t 0 1000000 _).mono ?_
    rintro r w1 ⟨rfl, rfl⟩
    rw [h2]
    go_wp2_with fail
    go_ret
    exact ⟨rfl, HB.out⟩
end Go.Proofs.Ytmgidcigihpbeaa
