/-
  What the calendar's small functions answer, on both sides.
-/
import Derived.Test.YtibomkcbopkpkaaDoorDatePlain
namespace Go.Proofs.YtibomkcbopkpkaaDoor
open Go.ChangeShapes Go.WideShapes Go.ChangeAt Go.RowKit
set_option maxHeartbeats 400000 in
theorem l1In_yes (v lo hi : Int) (w : World) (h1 : lo ≤ v) (h2 : v ≤ hi) :
    Calls Tryd.prog 97 #[.int .i64 v, .int .i64 lo, .int .i64 hi] w fun e w' => e = .returned (.bool true) ∧ w' = w := by
  have d2 : decide (v ≤ hi) = true := by simpa using h2
  go_enter Tryd.func97, Tryd.ntmps97
  go_wp2
  go_ret
  exact ⟨rfl, rfl⟩
set_option maxHeartbeats 400000 in
theorem l1In_no (v lo hi : Int) (w : World) (h : v < lo ∨ hi < v) :
    Calls Tryd.prog 97 #[.int .i64 v, .int .i64 lo, .int .i64 hi] w fun e w' => e = .returned (.bool false) ∧ w' = w := by
  by_cases c : v < lo
  · clear h
    go_enter Tryd.func97, Tryd.ntmps97
    go_wp2
    go_ret
    exact ⟨rfl, rfl⟩
  · have c2 : hi < v := by omega
    have d2 : decide (v ≤ hi) = false := by simpa using c2
    clear h
    go_enter Tryd.func97, Tryd.ntmps97
    go_wp2
    go_ret
    exact ⟨rfl, rfl⟩
set_option maxHeartbeats 400000 in
theorem specLeap_any (y : Int) (w : World) (h0 : 0 ≤ y) (h1 : y ≤ 100000) :
    Calls Tryd.prog 155 #[.int .i64 y] w fun e w' => e = .returned (.bool (leap y)) ∧ w' = w := by
  by_cases c4 : y % 4 = 0
  · by_cases c1 : y % 100 = 0
    · by_cases c5 : y % 400 = 0
      · have HL : Hid (leap y = true) := by simp [Hid, leap, c4, c1, c5]
        go_enter Tryd.func155, Tryd.ntmps155
        go_wp2
        go_ret
        exact ⟨ret_bool (by simp [HL.out, *]), rfl⟩
      · have HL : Hid (leap y = false) := by simp [Hid, leap, c4, c1, c5]
        go_enter Tryd.func155, Tryd.ntmps155
        go_wp2
        go_ret
        exact ⟨ret_bool (by simp [HL.out, *]), rfl⟩
    · have HL : Hid (leap y = true) := by simp [Hid, leap, c4, c1]
      go_enter Tryd.func155, Tryd.ntmps155
      go_wp2
      go_ret
      exact ⟨ret_bool (by simp [HL.out, *]), rfl⟩
  · have HL : Hid (leap y = false) := by simp [Hid, leap, c4]
    go_enter Tryd.func155, Tryd.ntmps155
    go_wp2
    go_ret
    exact ⟨ret_bool (by simp [HL.out, *]), rfl⟩
set_option maxHeartbeats 400000 in
theorem implLeap_any (y : Int) (w : World) (h0 : 0 ≤ y) (h1 : y ≤ 100000) :
    Calls Tryd.prog 130 #[.int .i64 y] w fun e w' => e = .returned (.bool (leap y)) ∧ w' = w := by
  by_cases c4 : y % 4 = 0
  · by_cases c1 : y % 100 = 0
    · by_cases c5 : y % 400 = 0
      · have HL : Hid (leap y = true) := by simp [Hid, leap, c4, c1, c5]
        go_enter Tryd.func130, Tryd.ntmps130
        go_wp2
        go_ret
        exact ⟨ret_bool (by simp [HL.out, *]), rfl⟩
      · have HL : Hid (leap y = false) := by simp [Hid, leap, c4, c1, c5]
        go_enter Tryd.func130, Tryd.ntmps130
        go_wp2
        go_ret
        exact ⟨ret_bool (by simp [HL.out, *]), rfl⟩
    · have HL : Hid (leap y = true) := by simp [Hid, leap, c4, c1]
      go_enter Tryd.func130, Tryd.ntmps130
      go_wp2
      go_ret
      exact ⟨ret_bool (by simp [HL.out, *]), rfl⟩
  · have HL : Hid (leap y = false) := by simp [Hid, leap, c4]
    go_enter Tryd.func130, Tryd.ntmps130
    go_wp2
    go_ret
    exact ⟨ret_bool (by simp [HL.out, *]), rfl⟩
set_option maxHeartbeats 1000000 in
theorem specMonth_any (y m : Int) (w : World) (h0 : 0 ≤ y) (h1 : y ≤ 100000) (hm0 : 1 ≤ m) (hm1 : m ≤ 12) :
    Calls Tryd.prog 134 #[.int .i64 y, .int .i64 m] w fun e w' => e = .returned (.int .i64 (mlen y m)) ∧ w' = w := by
  by_cases h2 : m = 2
  · subst h2
    have HL := specLeap_any y w h0 h1
    have HM : Hid (mlen y 2 = if leap y = true then 29 else 28) := by simp [Hid, mlen]
    go_enter Tryd.func134, Tryd.ntmps134
    go_wp2_with fail
    refine HL.mono ?_
    rintro e w1 ⟨rfl, rfl⟩
    cases hl : leap y
    · go_wp2
      go_ret
      exact ⟨ret_int (by rw [HM.out, hl]; rfl), rfl⟩
    · go_wp2
      go_ret
      exact ⟨ret_int (by rw [HM.out, hl]; rfl), rfl⟩
  · rcases months hm0 hm1 with rfl | rfl | rfl | rfl | rfl | rfl | rfl | rfl | rfl | rfl | rfl | rfl
    all_goals first
      | exact absurd rfl h2
      | (clear h2
         go_enter Tryd.func134, Tryd.ntmps134
         go_wp2
         go_ret
         exact ⟨ret_int (by simp [mlen]), rfl⟩)
set_option maxHeartbeats 1000000 in
theorem implMonth_any (y m : Int) (w : World) (h0 : 0 ≤ y) (h1 : y ≤ 100000) (hm0 : 1 ≤ m) (hm1 : m ≤ 12) :
    Calls Tryd.prog 91 #[.int .i64 y, .int .i64 m] w fun e w' => e = .returned (.int .i64 (mlen y m)) ∧ w' = w := by
  by_cases h2 : m = 2
  · subst h2
    have HL := implLeap_any y w h0 h1
    have HM : Hid (mlen y 2 = if leap y = true then 29 else 28) := by simp [Hid, mlen]
    go_enter Tryd.func91, Tryd.ntmps91
    go_wp2_with fail
    refine HL.mono ?_
    rintro e w1 ⟨rfl, rfl⟩
    cases hl : leap y
    · go_wp2
      go_ret
      exact ⟨ret_int (by rw [HM.out, hl]; rfl), rfl⟩
    · go_wp2
      go_ret
      exact ⟨ret_int (by rw [HM.out, hl]; rfl), rfl⟩
  · rcases months hm0 hm1 with rfl | rfl | rfl | rfl | rfl | rfl | rfl | rfl | rfl | rfl | rfl | rfl
    all_goals first
      | exact absurd rfl h2
      | (clear h2
         go_enter Tryd.func91, Tryd.ntmps91
         go_wp2
         go_ret
         exact ⟨ret_int (by simp [mlen]), rfl⟩)
set_option maxHeartbeats 1000000 in
theorem specDay_any (y m d : Int) (w : World) :
    Calls Tryd.prog 96 #[.int .i64 y, .int .i64 m, .int .i64 d] w fun e w' => e = .returned (.bool (dayB y m d)) ∧ w' = w := by
  by_cases cy : y < 1970 ∨ 9999 < y
  · have HB : Hid (dayB y m d = false) := by
      show _ = _
      cases k : dayB y m d
      · rfl
      · have := dayB_yes k; have := this.y0; have := (dayB_yes k).y1; omega
    have H := l1In_no y 1970 9999 w cy
    clear cy
    go_enter Tryd.func96, Tryd.ntmps96
    go_wp2_with fail
    refine H.mono ?_
    rintro e w1 ⟨rfl, rfl⟩
    go_wp2
    go_ret
    exact ⟨ret_bool (by rw [HB.out]), rfl⟩
  by_cases cm : m < 1 ∨ 12 < m
  · have HB : Hid (dayB y m d = false) := by
      show _ = _
      cases k : dayB y m d
      · rfl
      · have := dayB_yes k; have := this.m0; have := (dayB_yes k).m1; omega
    have H := l1In_yes y 1970 9999 w (by omega) (by omega)
    have H2 : Hid (∀ w, Calls Tryd.prog 97 #[.int .i64 m, .int .i64 1, .int .i64 12] w fun e w' => e = .returned (.bool false) ∧ w' = w) := fun w => l1In_no m 1 12 w cm
    clear cy cm
    go_enter Tryd.func96, Tryd.ntmps96
    go_wp2_with fail
    refine H.mono ?_
    rintro e w1 ⟨rfl, rfl⟩
    go_wp2_with fail
    refine (H2.out _).mono ?_
    rintro e w1 ⟨rfl, rfl⟩
    go_wp2
    go_ret
    exact ⟨ret_bool (by rw [HB.out]), rfl⟩
  have H := l1In_yes y 1970 9999 w (by omega) (by omega)
  have H2 : Hid (∀ w, Calls Tryd.prog 97 #[.int .i64 m, .int .i64 1, .int .i64 12] w fun e w' => e = .returned (.bool true) ∧ w' = w) := fun w => l1In_yes m 1 12 w (by omega) (by omega)
  have H3 : Hid (∀ w, Calls Tryd.prog 134 #[.int .i64 y, .int .i64 m] w fun e w' => e = .returned (.int .i64 (mlen y m)) ∧ w' = w) := fun w => specMonth_any y m w (by omega) (by omega) (by omega) (by omega)
  have H4 : Hid (∀ w, Calls Tryd.prog 97 #[.int .i64 d, .int .i64 1, .int .i64 (mlen y m)] w fun e w' => e = .returned (.bool (dayB y m d)) ∧ w' = w) := by
    intro w
    cases k : dayB y m d
    · have := dayB_no k
      refine l1In_no d 1 _ w ?_
      rcases Int.lt_or_le d 1 with h | h
      · exact .inl h
      · rcases Int.lt_or_le (mlen y m) d with h2 | h2
        · exact .inr h2
        · exact absurd ⟨by omega, by omega, by omega, by omega, h, h2⟩ this
    · have k2 := dayB_yes k
      exact l1In_yes d 1 _ w k2.d0 k2.d1
  clear cy cm
  go_enter Tryd.func96, Tryd.ntmps96
  go_wp2_with fail
  refine H.mono ?_
  rintro e w1 ⟨rfl, rfl⟩
  go_wp2_with fail
  refine (H2.out _).mono ?_
  rintro e w1 ⟨rfl, rfl⟩
  go_wp2_with fail
  refine (H3.out _).mono ?_
  rintro e w1 ⟨rfl, rfl⟩
  go_wp2_with fail
  refine (H4.out _).mono ?_
  rintro e w1 ⟨rfl, rfl⟩
  go_wp2
  go_ret
  exact ⟨rfl, rfl⟩
set_option maxHeartbeats 1000000 in
theorem implDay_any (y m d : Int) (w : World) :
    Calls Tryd.prog 95 #[.int .i64 y, .int .i64 m, .int .i64 d] w fun e w' => e = .returned (.bool (dayB y m d)) ∧ w' = w := by
  by_cases cy0 : y < 1970
  · have HB : Hid (dayB y m d = false) := by
      show _ = _
      cases k : dayB y m d
      · rfl
      · have := (dayB_yes k).y0; omega
    go_enter Tryd.func95, Tryd.ntmps95
    go_wp2
    go_ret
    exact ⟨ret_bool (by rw [HB.out]), rfl⟩
  by_cases cy1 : 9999 < y
  · have HB : Hid (dayB y m d = false) := by
      show _ = _
      cases k : dayB y m d
      · rfl
      · have := (dayB_yes k).y1; omega
    go_enter Tryd.func95, Tryd.ntmps95
    go_wp2
    go_ret
    exact ⟨ret_bool (by rw [HB.out]), rfl⟩
  by_cases cm0 : m < 1
  · have HB : Hid (dayB y m d = false) := by
      show _ = _
      cases k : dayB y m d
      · rfl
      · have := (dayB_yes k).m0; omega
    go_enter Tryd.func95, Tryd.ntmps95
    go_wp2
    go_ret
    exact ⟨ret_bool (by rw [HB.out]), rfl⟩
  by_cases cm1 : 12 < m
  · have HB : Hid (dayB y m d = false) := by
      show _ = _
      cases k : dayB y m d
      · rfl
      · have := (dayB_yes k).m1; omega
    go_enter Tryd.func95, Tryd.ntmps95
    go_wp2
    go_ret
    exact ⟨ret_bool (by rw [HB.out]), rfl⟩
  by_cases cd0 : d < 1
  · have HB : Hid (dayB y m d = false) := by
      show _ = _
      cases k : dayB y m d
      · rfl
      · have := (dayB_yes k).d0; omega
    go_enter Tryd.func95, Tryd.ntmps95
    go_wp2
    go_ret
    exact ⟨ret_bool (by rw [HB.out]), rfl⟩
  have H3 : Hid (∀ w, Calls Tryd.prog 91 #[.int .i64 y, .int .i64 m] w fun e w' => e = .returned (.int .i64 (mlen y m)) ∧ w' = w) := fun w => implMonth_any y m w (by omega) (by omega) (by omega) (by omega)
  have HB : Hid (decide (d ≤ mlen y m) = dayB y m d) := by
    show _ = _
    have e1 : decide (1970 ≤ y) = true := by simp; omega
    have e2 : decide (y ≤ 9999) = true := by simp; omega
    have e3 : decide (1 ≤ m) = true := by simp; omega
    have e4 : decide (m ≤ 12) = true := by simp; omega
    have e5 : decide (1 ≤ d) = true := by simp; omega
    simp only [dayB, e1, e2, e3, e4, e5, Bool.true_and]
  generalize hx : mlen y m = x at *
  clear hx
  go_enter Tryd.func95, Tryd.ntmps95
  go_wp2_with fail
  refine (H3.out _).mono ?_
  rintro e w1 ⟨rfl, rfl⟩
  go_wp2
  go_ret
  exact ⟨ret_bool (by rw [← HB.out]), rfl⟩
end Go.Proofs.YtibomkcbopkpkaaDoor
