/-
  The days ahead of a year and of a date, on both sides.
-/
import Derived.Test.YtibomkcbopkpkaaDoorDateDay
namespace Go.Proofs.YtibomkcbopkpkaaDoor
open Go.ChangeShapes Go.WideShapes Go.ChangeAt Go.RowKit
set_option maxHeartbeats 400000 in
theorem implLeaps_any (y : Int) (w : World) (h0 : 0 ≤ y) (h1 : y ≤ 100000) :
    Calls Tryd.prog 129 #[.int .i64 y] w fun e w' => e = .returned (.int .i64 (y / 4 - y / 100 + y / 400)) ∧ w' = w := by
  go_enter Tryd.func129, Tryd.ntmps129
  go_wp2
  go_ret
  exact ⟨ret_int (by omega), rfl⟩
set_option maxHeartbeats 400000 in
theorem implAhead_any (y : Int) (w : World) (h0 : 1970 ≤ y) (h1 : y ≤ 10001) :
    Calls Tryd.prog 90 #[.int .i64 y] w fun e w' => e = .returned (.int .i64 (ahead y)) ∧ w' = w := by
  have H1 : Hid (∀ w, Calls Tryd.prog 129 #[.int .i64 (y - 1)] w fun e w' => e = .returned (.int .i64 ((y - 1) / 4 - (y - 1) / 100 + (y - 1) / 400)) ∧ w' = w) := fun w => implLeaps_any _ w (by omega) (by omega)
  have H2 : Hid (∀ w, Calls Tryd.prog 129 #[.int .i64 1969] w fun e w' => e = .returned (.int .i64 477) ∧ w' = w) := fun w => implLeaps_any 1969 w (by omega) (by omega)
  have HA : Hid (ahead y = 365 * (y - 1970) + ((y - 1) / 4 - (y - 1) / 100 + (y - 1) / 400) - 477) := rfl
  have hx : 0 ≤ (y - 1) / 4 - (y - 1) / 100 + (y - 1) / 400 ∧ (y - 1) / 4 - (y - 1) / 100 + (y - 1) / 400 ≤ 100000 := by omega
  generalize (y - 1) / 4 - (y - 1) / 100 + (y - 1) / 400 = x at *
  obtain ⟨hx0, hx1⟩ := hx
  go_enter Tryd.func90, Tryd.ntmps90
  go_wp2_with fail
  refine (H1.out _).mono ?_
  rintro e w1 ⟨rfl, rfl⟩
  go_wp2_with fail
  refine (H2.out _).mono ?_
  rintro e w1 ⟨rfl, rfl⟩
  go_wp2
  go_ret
  exact ⟨ret_int (by rw [HA.out]), rfl⟩
set_option maxHeartbeats 400000 in
theorem specYear_any (y : Int) (w : World) (h0 : 0 ≤ y) (h1 : y ≤ 100000) :
    Calls Tryd.prog 135 #[.int .i64 y] w fun e w' => e = .returned (.int .i64 (ylen y)) ∧ w' = w := by
  have H := specLeap_any y w h0 h1
  have HM : Hid (ylen y = if leap y = true then 366 else 365) := by simp [Hid, ylen]
  go_enter Tryd.func135, Tryd.ntmps135
  go_wp2_with fail
  refine H.mono ?_
  rintro e w1 ⟨rfl, rfl⟩
  cases hl : leap y
  · go_wp2
    go_ret
    exact ⟨ret_int (by rw [HM.out, hl]; rfl), rfl⟩
  · go_wp2
    go_ret
    exact ⟨ret_int (by rw [HM.out, hl]; rfl), rfl⟩
set_option maxHeartbeats 1000000 in
theorem specDays_any (y m d : Int) (w : World) (h : DayOk y m d) :
    Calls Tryd.prog 156 #[.int .i64 y, .int .i64 m, .int .i64 d] w fun e w' => e = .returned (.int .i64 (daysD y m d)) ∧ w' = w := by
  obtain ⟨hy0, hy1, hm0, hm1, hd0, hd1⟩ := h
  have hd2 : d ≤ 31 := by have := mlen_bd y m; omega
  have HD : Hid (daysD y m d = d - 1 + ahead y + msum y m) := by show _ = _; unfold daysD; omega
  clear hd1
  go_enter Tryd.func156, Tryd.ntmps156
  go_wp2
  go_loop [7, 8] (fun n x => ∃ k : Int, 1970 ≤ k ∧ k ≤ y ∧ x = .int .i64 k ∧ n = .int .i64 (d - 1 + ahead k)) (fun _ x => (y - intOf x).toNat)
  case atStart => exact ⟨1970, by omega, hy0, rfl, by rw [ahead_first]; congr 1; omega⟩
  case round =>
    obtain ⟨k, hk0, hk1, rfl, rfl⟩ := hrel
    by_cases hlt : k < y
    · have H := specYear_any k
      have HA : Hid (ahead (k + 1) = ahead k + ylen k) := ahead_succ k
      have ⟨ha0, ha1⟩ := ahead_bd hk0 (by omega)
      have ⟨hl0, hl1⟩ := ylen_bd k
      generalize ylen k = l at *
      generalize ahead k = a at *
      go_wp2_with fail
      refine (H _ (by omega) (by omega)).mono ?_
      rintro e w1 ⟨rfl, rfl⟩
      clear H
      go_wp2
      go_round
      case rel => exact ⟨k + 1, by omega, by omega, by go_num, by rw [HA.out]; congr 1; omega⟩
      case measure => simp [intOf]; omega
    · obtain rfl : k = y := by omega
      have ⟨ha0, ha1⟩ := ahead_bd hk0 (by omega)
      generalize ahead k = a at *
      go_wp2
      go_loop [7, 9] (fun n x => ∃ j : Int, 1 ≤ j ∧ j ≤ m ∧ x = .int .i64 j ∧ n = .int .i64 (d - 1 + a + msum k j)) (fun _ x => (m - intOf x).toNat)
      case atStart => exact ⟨1, by omega, hm0, rfl, by rw [msum_first]; congr 1; omega⟩
      case round =>
        obtain ⟨j, hj0, hj1, rfl, rfl⟩ := hrel
        have hs0 := msum_mono k (a := 1) (b := j) (by omega) (by omega) (by omega)
        have hs1 := msum_mono k (a := j) (b := 13) (by omega) (by omega) (by omega)
        rw [msum_first] at hs0
        rw [msum_end] at hs1
        have hs2 := (ylen_bd k).2
        have hs3 : msum k j ≤ 366 := by omega
        clear hs1 hs2
        by_cases hlt2 : j < m
        · have H := specMonth_any k j
          have HA : Hid (msum k (j + 1) = msum k j + mlen k j) := msum_succ k (by omega) (by omega)
          have ⟨hl0, hl1⟩ := mlen_bd k j
          generalize mlen k j = l at *
          generalize msum k j = b at *
          go_wp2_with fail
          refine (H _ (by omega) (by omega) (by omega) (by omega)).mono ?_
          rintro e w1 ⟨rfl, rfl⟩
          clear H
          go_wp2
          go_round
          case rel => exact ⟨j + 1, by omega, by omega, by go_num, by rw [HA.out]; congr 1; omega⟩
          case measure => simp [intOf]; omega
        · obtain rfl : j = m := by omega
          go_wp2
          go_ret
          exact ⟨ret_int (by rw [HD.out]), rfl⟩
end Go.Proofs.YtibomkcbopkpkaaDoor
