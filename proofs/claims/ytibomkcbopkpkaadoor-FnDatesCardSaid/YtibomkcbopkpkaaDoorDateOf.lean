/-
  DaysOf, on both sides.
-/
import Derived.Test.YtibomkcbopkpkaaDoorDateSum
namespace Go.Proofs.YtibomkcbopkpkaaDoor
open Go.ChangeShapes Go.WideShapes Go.ChangeAt Go.RowKit
def doC (y m d : Int) : Int := if dayB y m d = true then 0 else 3
def doV (y m d : Int) : Int := if dayB y m d = true then daysD y m d else 0
theorem doC_yes {y m d : Int} (h : dayB y m d = true) : doC y m d = 0 := by simp [doC, h]
theorem doV_yes {y m d : Int} (h : dayB y m d = true) : doV y m d = daysD y m d := by simp [doV, h]
theorem doC_no {y m d : Int} (h : dayB y m d = false) : doC y m d = 3 := by simp [doC, h]
theorem doV_no {y m d : Int} (h : dayB y m d = false) : doV y m d = 0 := by simp [doV, h]
set_option maxHeartbeats 1000000 in
theorem implDaysOf_any (y m d : Int) (w : World) :
    Calls Tryd.prog 86 #[.int .i64 y, .int .i64 m, .int .i64 d] w fun e w' => e = .returned (.agg #[.int .i64 (doC y m d), .int .i64 (doV y m d)]) ∧ Below w.heap.size w w' := by
  have H : Hid (∀ w, Calls Tryd.prog 95 #[.int .i64 y, .int .i64 m, .int .i64 d] w fun e w' => e = .returned (.bool (dayB y m d)) ∧ w' = w) := implDay_any y m d
  cases hk : dayB y m d
  · rw [doC_no hk, doV_no hk]
    rw [hk] at H
    clear hk
    go_enter Tryd.func86, Tryd.ntmps86
    go_wp2_with fail
    refine (H.out _).mono ?_
    rintro e w1 ⟨rfl, rfl⟩
    go_wp2
    exact bodyPost_ret (v := .agg #[.int .i64 3, .int .i64 0]) (by simp [results, Tryd.results86, go_sem]) rfl ⟨rfl, (Below.refl _ _).alloc (Nat.le_refl _) _⟩
  · rw [doC_yes hk, doV_yes hk]
    rw [hk] at H
    obtain ⟨hy0, hy1, hm0, hm1, hd0, hd1⟩ := dayB_yes hk
    have hd2 : d ≤ 31 := by have := mlen_bd y m; omega
    have HD : Hid (daysD y m d = ahead y + msum y m + d - 1) := rfl
    have H2 : Hid (∀ w, Calls Tryd.prog 90 #[.int .i64 y] w fun e w' => e = .returned (.int .i64 (ahead y)) ∧ w' = w) := fun w => implAhead_any y w (by omega) (by omega)
    have ⟨ha0, ha1⟩ := ahead_bd hy0 (by omega)
    generalize ahead y = a at *
    clear hk hd1
    go_enter Tryd.func86, Tryd.ntmps86
    go_wp2_with fail
    refine (H.out _).mono ?_
    rintro e w1 ⟨rfl, rfl⟩
    go_wp2_with fail
    refine (H2.out _).mono ?_
    rintro e w1 ⟨rfl, rfl⟩
    clear H H2
    go_wp2
    go_loop [7, 8] (fun n x => ∃ j : Int, 1 ≤ j ∧ j ≤ m ∧ x = .int .i64 j ∧ n = .int .i64 (a + msum y j)) (fun _ x => (m - intOf x).toNat)
    case atStart => exact ⟨1, by omega, hm0, rfl, by rw [msum_first]; congr 1; omega⟩
    case round =>
      obtain ⟨j, hj0, hj1, rfl, rfl⟩ := hrel
      have hs0 := msum_mono y (a := 1) (b := j) (by omega) (by omega) (by omega)
      have hs1 := msum_mono y (a := j) (b := 13) (by omega) (by omega) (by omega)
      rw [msum_first] at hs0
      rw [msum_end] at hs1
      have hs2 := (ylen_bd y).2
      have hs3 : msum y j ≤ 366 := by omega
      clear hs1 hs2
      by_cases hlt2 : j < m
      · have H := implMonth_any y j
        have HA : Hid (msum y (j + 1) = msum y j + mlen y j) := msum_succ y (by omega) (by omega)
        have ⟨hl0, hl1⟩ := mlen_bd y j
        generalize mlen y j = l at *
        generalize msum y j = b at *
        go_wp2_with fail
        refine (H _ (by omega) (by omega) (by omega) (by omega)).mono ?_
        rintro e w1 ⟨rfl, rfl⟩
        clear H
        go_wp2
        go_round
        case rel => exact ⟨j + 1, by omega, by omega, by go_num, by rw [HA.out]; congr 1; omega⟩
        case measure => simp [intOf]; omega
      · obtain rfl : j = m := by omega
        generalize msum y j = b at *
        go_wp2
        exact bodyPost_ret (v := .agg #[.int .i64 0, .int .i64 (a + b + d - 1)]) (by simp [results, Tryd.results86, go_sem]) rfl ⟨by rw [HD.out], (Below.refl _ _).alloc (Nat.le_refl _) _⟩
end Go.Proofs.YtibomkcbopkpkaaDoor
