/-
  DateAt, on both sides.
-/
import Derived.Test.YtibomkcbopkpkaaDoorDateWeek
import Derived.Test.YtibomkcbopkpkaaDoorDateAtS
namespace Go.Proofs.YtibomkcbopkpkaaDoor
open Go.ChangeShapes Go.WideShapes Go.ChangeAt Go.RowKit
set_option maxHeartbeats 2000000 in
theorem yearOf_any (D : Int) (w : World) (hD0 : 0 ≤ D) (hD1 : D ≤ 2932896) :
    Calls Tryd.prog 89 #[.int .i64 D] w fun e w' => (∃ y : Int, e = .returned (.int .i64 y) ∧ 1970 ≤ y ∧ y ≤ 9999 ∧ ahead y ≤ D ∧ D < ahead y + ylen y) ∧ w' = w := by
  have HG : Hid (ahead (1970 + D / 366) ≤ D) := ahead_guess hD0
  go_enter Tryd.func89, Tryd.ntmps89
  go_wp2
  go_loop [3] (fun yy => ∃ k : Int, 1970 ≤ k ∧ k ≤ 9999 ∧ ahead k ≤ D ∧ yy = .int .i64 k) (fun yy => (10000 - intOf yy).toNat)
  case atStart =>
    refine ⟨1970 + D / 366, by omega, ?_, HG.out, by go_num⟩
    omega
  case round =>
    obtain ⟨k, hk0, hk1, hk2, rfl⟩ := hrel
    have H := implAhead_any (k + 1)
    have HA : Hid (ahead (k + 1) = ahead k + ylen k) := ahead_succ k
    have HX : Hid (k = 9999 → ahead (k + 1) = 2932897) := fun e => by subst e; exact ahead_end
    obtain ⟨a, hae⟩ : ∃ a, Hid (ahead (k + 1) = a) := ⟨_, rfl⟩
    rw [hae.out] at H HA HX
    go_wp2_with fail
    refine (H _ (by omega) (by omega)).mono ?_
    rintro e w1 ⟨rfl, rfl⟩
    clear H
    by_cases hlt : D < a
    · go_wp2
      go_ret
      exact ⟨⟨k, rfl, hk0, hk1, hk2, by have := HA.out; omega⟩, rfl⟩
    · have hk3 : k < 9999 := by
        rcases Int.lt_or_le k 9999 with z | z
        · exact z
        · have := HX.out (by omega); omega
      have hk4 : Hid (a ≤ D) := by show _ ≤ _; omega
      go_wp2
      go_round
      case rel => exact ⟨k + 1, by omega, by omega, by rw [hae.out]; exact hk4.out, by go_num⟩
      case measure => simp [intOf]; omega
set_option maxHeartbeats 2000000 in
theorem implAt_any (n : Int) (w : World) (h0 : 0 ≤ n) (h1 : n ≤ 253402300799) :
    Calls Tryd.prog 41 #[.int .i64 n] w fun e w' => e = .returned (.agg #[.int .i64 0, .int .i64 (dY n), .int .i64 (dM n), .int .i64 (dD n), .int .i64 (dH n), .int .i64 (dI n), .int .i64 (dS n)]) ∧ Below w.heap.size w w' := by
  have H0 : Hid (∀ w, Calls Tryd.prog 88 #[.int .i64 n] w fun e w' => e = .returned (.bool true) ∧ w' = w) := by
    have := implKnown_any n
    rw [knownB_of h0 h1] at this
    exact this
  have HR : Hid (∀ y m, 1970 ≤ y → ahead y ≤ n / 86400 → 1 ≤ m → m ≤ 12 → msum y m ≤ n / 86400 - ahead y → n / 86400 - ahead y < msum y m + mlen y m →
      Ending.returned (.agg #[.int .i64 0, .int .i64 y, .int .i64 m, .int .i64 (n / 86400 - ahead y - msum y m + 1), .int .i64 (n % 86400 / 3600), .int .i64 (n % 86400 % 3600 / 60), .int .i64 (n % 86400 % 60)]) = .returned (.agg #[.int .i64 0, .int .i64 (dY n), .int .i64 (dM n), .int .i64 (dD n), .int .i64 (dH n), .int .i64 (dI n), .int .i64 (dS n)])) := by
    intro y m a b c d e f
    have := date_at h0 h1 a b c d e f
    have e2 : n % 86400 % 3600 / 60 = n % 86400 / 60 % 60 := by omega
    rw [e2]
    exact ret_date0 this.1 this.2
  obtain ⟨D, hD, hD0, hD1⟩ : ∃ D : Int, n / 86400 = D ∧ 0 ≤ D ∧ D ≤ 2932896 := ⟨_, rfl, by omega, by omega⟩
  obtain ⟨R, hR, hR0, hR1⟩ : ∃ R : Int, n % 86400 = R ∧ 0 ≤ R ∧ R < 86400 := ⟨_, rfl, by omega, by omega⟩
  rw [hD, hR] at HR
  go_enter Tryd.func41, Tryd.ntmps41
  go_wp2_with fail
  refine (H0.out _).mono ?_
  rintro e w1 ⟨rfl, rfl⟩
  go_wp2_with fail
  rw [hD]
  refine (yearOf_any D _ hD0 hD1).mono ?_
  rintro e w1 ⟨⟨y, rfl, hy0, hy1, hy2, hy3⟩, rfl⟩
  have H := implAhead_any y
  have ⟨ha0, ha1⟩ := ahead_bd hy0 (by omega)
  have HE := msum_end y
  have HR2 := HR.out y
  obtain ⟨a, hae⟩ : ∃ a, Hid (ahead y = a) := ⟨_, rfl⟩
  rw [hae.out] at H ha0 ha1 hy2 hy3 HR2
  have ⟨hl0, hl1⟩ := ylen_bd y
  obtain ⟨l, hle⟩ : ∃ a, Hid (ylen y = a) := ⟨_, rfl⟩
  rw [hle.out] at hl0 hl1 HE hy3
  have HR3 : Hid _ := HR2
  clear HR HR2 H0
  go_wp2_with fail
  refine (H _ (by omega) (by omega)).mono ?_
  rintro e w1 ⟨rfl, rfl⟩
  clear H
  go_wp2
  try rw [hD]
  try rw [hR]
  clear hD hR
  go_loop [3, 6] (fun dd mm => ∃ j : Int, 1 ≤ j ∧ j ≤ 12 ∧ msum y j ≤ D - a ∧ mm = .int .i64 j ∧ dd = .int .i64 (D - a - msum y j)) (fun _ mm => (13 - intOf mm).toNat)
  case atStart => exact ⟨1, by omega, by omega, by rw [msum_first]; omega, rfl, by rw [msum_first]; congr 1; omega⟩
  case round =>
    obtain ⟨j, hj0, hj1, hj2, rfl, rfl⟩ := hrel
    have H := implMonth_any y j
    have HS : Hid (msum y (j + 1) = msum y j + mlen y j) := msum_succ y hj0 hj1
    have HY : Hid (j = 12 → msum y (j + 1) = l) := fun e => by subst e; exact HE
    have HQ2 : Hid _ := HR3.out j hy0 hy2 hj0 hj1 hj2
    have hs0 := msum_mono y (a := 1) (b := j) (by omega) (by omega) (by omega)
    rw [msum_first] at hs0
    have ⟨hl2, hl3⟩ := mlen_bd y j
    generalize mlen y j = q at *
    generalize msum y j = b at *
    go_wp2_with fail
    refine (H _ (by omega) (by omega) (by omega) (by omega)).mono ?_
    rintro e w1 ⟨rfl, rfl⟩
    by_cases hlt2 : D - a - b < q
    · clear H
      go_wp2
      exact bodyPost_ret (v := .agg #[.int .i64 0, .int .i64 y, .int .i64 j, .int .i64 (D - a - b + 1), .int .i64 (R / 3600), .int .i64 (R % 3600 / 60), .int .i64 (R % 60)]) (by simp [results, Tryd.results41, go_sem]) rfl ⟨HQ2.out (by omega), (Below.refl _ _).alloc (Nat.le_refl _) _⟩
    · have hj3 : j < 12 := by
        rcases Int.lt_or_le j 12 with z | z
        · exact z
        · have := HY.out (by omega); have := HS.out; omega
      go_wp2_with fail
      refine (H _ (by omega) (by omega) (by omega) (by omega)).mono ?_
      rintro e w1 ⟨rfl, rfl⟩
      clear H
      go_wp2
      go_round
      case rel => exact ⟨j + 1, by omega, by omega, by rw [HS.out]; omega, by go_num, by rw [HS.out]; congr 1; omega⟩
      case measure => simp [intOf]; omega
end Go.Proofs.YtibomkcbopkpkaaDoor
