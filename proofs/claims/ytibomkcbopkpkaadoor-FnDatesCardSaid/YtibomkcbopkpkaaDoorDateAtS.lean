/-
  DateAt, on both sides.
-/
import Derived.Test.YtibomkcbopkpkaaDoorDateSum
import Derived.Test.YtibomkcbopkpkaaDoorDateTuple
namespace Go.Proofs.YtibomkcbopkpkaaDoor
open Go.ChangeShapes Go.WideShapes Go.ChangeAt Go.RowKit
theorem ret_date {n y m d h i s : Int} (k : DateOk y m d h i s) (e : secsD y m d h i s = n) :
    Ending.returned (.agg #[.int .i64 y, .int .i64 m, .int .i64 d, .int .i64 h, .int .i64 i, .int .i64 s]) = .returned (.agg #[.int .i64 (dY n), .int .i64 (dM n), .int .i64 (dD n), .int .i64 (dH n), .int .i64 (dI n), .int .i64 (dS n)]) := by
  obtain ⟨e1, e2, e3, e4, e5, e6⟩ := date_is k e
  rw [← e1, ← e2, ← e3, ← e4, ← e5, ← e6]
theorem ret_date0 {n y m d h i s : Int} (k : DateOk y m d h i s) (e : secsD y m d h i s = n) :
    Ending.returned (.agg #[.int .i64 0, .int .i64 y, .int .i64 m, .int .i64 d, .int .i64 h, .int .i64 i, .int .i64 s]) = .returned (.agg #[.int .i64 0, .int .i64 (dY n), .int .i64 (dM n), .int .i64 (dD n), .int .i64 (dH n), .int .i64 (dI n), .int .i64 (dS n)]) := by
  obtain ⟨e1, e2, e3, e4, e5, e6⟩ := date_is k e
  rw [← e1, ← e2, ← e3, ← e4, ← e5, ← e6]
set_option maxHeartbeats 2000000 in
theorem specAt_any (n : Int) (w : World) (h0 : 0 ≤ n) (h1 : n ≤ 253402300799) :
    Calls Tryd.prog 99 #[.int .i64 n] w fun e w' => e = .returned (.agg #[.int .i64 (dY n), .int .i64 (dM n), .int .i64 (dD n), .int .i64 (dH n), .int .i64 (dI n), .int .i64 (dS n)]) ∧ Below w.heap.size w w' := by
  have HR : Hid (∀ y m, 1970 ≤ y → ahead y ≤ n / 86400 → 1 ≤ m → m ≤ 12 → msum y m ≤ n / 86400 - ahead y → n / 86400 - ahead y < msum y m + mlen y m →
      Ending.returned (.agg #[.int .i64 y, .int .i64 m, .int .i64 (n / 86400 - ahead y - msum y m + 1), .int .i64 (n % 86400 / 3600), .int .i64 (n % 86400 / 60 % 60), .int .i64 (n % 86400 % 60)]) = .returned (.agg #[.int .i64 (dY n), .int .i64 (dM n), .int .i64 (dD n), .int .i64 (dH n), .int .i64 (dI n), .int .i64 (dS n)])) := by
    intro y m a b c d e f
    have := date_at h0 h1 a b c d e f
    exact ret_date this.1 this.2
  obtain ⟨D, hD, hD0, hD1⟩ : ∃ D : Int, n / 86400 = D ∧ 0 ≤ D ∧ D ≤ 2932896 := ⟨_, rfl, by omega, by omega⟩
  obtain ⟨R, hR, hR0, hR1⟩ : ∃ R : Int, n % 86400 = R ∧ 0 ≤ R ∧ R < 86400 := ⟨_, rfl, by omega, by omega⟩
  rw [hD, hR] at HR
  go_enter Tryd.func99, Tryd.ntmps99
  go_wp2
  rw [hD, hR]
  clear hD hR
  go_loop [3, 5] (fun dd yy => ∃ k : Int, 1970 ≤ k ∧ k ≤ 9999 ∧ ahead k ≤ D ∧ yy = .int .i64 k ∧ dd = .int .i64 (D - ahead k)) (fun _ yy => (10000 - intOf yy).toNat)
  case atStart => exact ⟨1970, by omega, by omega, by rw [ahead_first]; exact hD0, rfl, by rw [ahead_first]; congr 1; omega⟩
  case round =>
    obtain ⟨k, hk0, hk1, hk2, rfl, rfl⟩ := hrel
    have H := specYear_any k
    have HA : Hid (ahead (k + 1) = ahead k + ylen k) := ahead_succ k
    have HX : Hid (k = 9999 → ahead (k + 1) = 2932897) := fun e => by subst e; exact ahead_end
    have ⟨hl0, hl1⟩ := ylen_bd k
    have ⟨ha0, ha1⟩ := ahead_bd hk0 (by omega)
    have HE := msum_end k
    generalize ylen k = l at *
    have HZ : Hid (∀ x, ahead k = x → x = ahead k) := fun x h => h.symm
    generalize hak : ahead k = a at *
    go_wp2_with fail
    refine (H _ (by omega) (by omega)).mono ?_
    rintro e w1 ⟨rfl, rfl⟩
    by_cases hlt : D - a < l
    · clear H
      go_wp2
      go_loop [3, 6] (fun dd mm => ∃ j : Int, 1 ≤ j ∧ j ≤ 12 ∧ msum k j ≤ D - a ∧ mm = .int .i64 j ∧ dd = .int .i64 (D - a - msum k j)) (fun _ mm => (13 - intOf mm).toNat)
      case atStart => exact ⟨1, by omega, by omega, by rw [msum_first]; omega, rfl, by rw [msum_first]; congr 1; omega⟩
      case round =>
        obtain ⟨j, hj0, hj1, hj2, rfl, rfl⟩ := hrel
        have H := specMonth_any k j
        have HS : Hid (msum k (j + 1) = msum k j + mlen k j) := msum_succ k hj0 hj1
        have HY : Hid (j = 12 → msum k (j + 1) = l) := fun e => by subst e; exact HE
        have HQ := HR.out k j hk0 (by omega) hj0 hj1 (by omega)
        have hs0 := msum_mono k (a := 1) (b := j) (by omega) (by omega) (by omega)
        rw [msum_first] at hs0
        rw [hak] at HQ
        have HQ2 : Hid _ := HQ
        clear HQ
        have ⟨hl2, hl3⟩ := mlen_bd k j
        generalize mlen k j = q at *
        generalize msum k j = b at *
        go_wp2_with fail
        refine (H _ (by omega) (by omega) (by omega) (by omega)).mono ?_
        rintro e w1 ⟨rfl, rfl⟩
        by_cases hlt2 : D - a - b < q
        · clear H
          go_wp2
          exact bodyPost_ret (v := .agg #[.int .i64 k, .int .i64 j, .int .i64 (D - a - b + 1), .int .i64 (R / 3600), .int .i64 (R / 60 % 60), .int .i64 (R % 60)]) (by simp [results, Tryd.results99, go_sem]) rfl ⟨HQ2.out (by omega), (Below.refl _ _).alloc (Nat.le_refl _) _⟩
        · have hj3 : j < 12 := by
            rcases Int.lt_or_le j 12 with z | z
            · exact z
            · have := HY.out (by omega); have := HS.out; omega
          go_wp2_with fail
          refine (H _ (by omega) (by omega) (by omega) (by omega)).mono ?_
          rintro e w1 ⟨rfl, rfl⟩
          clear H
          go_wp2
          go_round
          case rel => exact ⟨j + 1, by omega, by omega, by rw [HS.out]; omega, by go_num, by rw [HS.out]; congr 1; omega⟩
          case measure => simp [intOf]; omega
    · have hk3 : k < 9999 := by
        rcases Int.lt_or_le k 9999 with z | z
        · exact z
        · have := HX.out (by omega); have := HA.out; omega
      go_wp2_with fail
      refine (H _ (by omega) (by omega)).mono ?_
      rintro e w1 ⟨rfl, rfl⟩
      clear H
      go_wp2
      go_round
      case rel => exact ⟨k + 1, by omega, by omega, by rw [HA.out]; omega, by go_num, by rw [HA.out]; congr 1; omega⟩
      case measure => simp [intOf]; omega
end Go.Proofs.YtibomkcbopkpkaaDoor
