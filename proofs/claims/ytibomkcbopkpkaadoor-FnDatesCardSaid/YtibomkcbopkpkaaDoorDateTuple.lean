/-
  Plain: every number of seconds has its one date.
-/
import Derived.Test.YtibomkcbopkpkaaDoorDatePlain
namespace Go.Proofs.YtibomkcbopkpkaaDoor
theorem year_ex (D : Nat) : ∃ y : Int, 1970 ≤ y ∧ ahead y ≤ D ∧ (D : Int) < ahead (y + 1) := by
  induction D with
  | zero => exact ⟨1970, by omega, by decide, by decide⟩
  | succ D ih =>
    obtain ⟨y, h0, h1, h2⟩ := ih
    by_cases h : ((D + 1 : Nat) : Int) < ahead (y + 1)
    · exact ⟨y, h0, by omega, h⟩
    · refine ⟨y + 1, by omega, by omega, ?_⟩
      rw [ahead_succ]
      have := ylen_bd (y + 1)
      omega
theorem month_ex (y : Int) (r : Nat) : ((r : Int) < ylen y) → ∃ m : Int, 1 ≤ m ∧ m ≤ 12 ∧ msum y m ≤ r ∧ (r : Int) < msum y m + mlen y m := by
  induction r with
  | zero => intro _; exact ⟨1, by omega, by omega, by rw [msum_first]; simp, by rw [msum_first]; have := mlen_bd y 1; omega⟩
  | succ r ih =>
    intro hr
    obtain ⟨m, h0, h1, h2, h3⟩ := ih (by omega)
    by_cases h : ((r + 1 : Nat) : Int) < msum y m + mlen y m
    · exact ⟨m, h0, h1, by omega, h⟩
    · have e := msum_succ y h0 h1
      have hm : m < 12 := by
        rcases Int.lt_or_le m 12 with k | k
        · exact k
        · obtain rfl : m = 12 := by omega
          have := msum_end y
          have e4 : (12 : Int) + 1 = 13 := rfl
          rw [e4] at e
          omega
      refine ⟨m + 1, by omega, by omega, by omega, ?_⟩
      have := mlen_bd y (m + 1)
      omega
/-- A date of seconds. -/
structure IsDate (n : Int) (t : Int × Int × Int × Int × Int × Int) : Prop where
  ok : DateOk t.1 t.2.1 t.2.2.1 t.2.2.2.1 t.2.2.2.2.1 t.2.2.2.2.2
  eq : secsD t.1 t.2.1 t.2.2.1 t.2.2.2.1 t.2.2.2.2.1 t.2.2.2.2.2 = n
theorem isDate_ex {n : Int} (h0 : 0 ≤ n) (h1 : n ≤ 253402300799) : ∃ t, IsDate n t := by
  obtain ⟨y, hy0, hy1, hy2⟩ := year_ex (n / 86400).toNat
  have e : ((n / 86400).toNat : Int) = n / 86400 := by omega
  rw [e] at hy1 hy2
  rw [ahead_succ] at hy2
  obtain ⟨m, hm0, hm1, hm2, hm3⟩ := month_ex y (n / 86400 - ahead y).toNat (by omega)
  have e : ((n / 86400 - ahead y).toNat : Int) = n / 86400 - ahead y := by omega
  rw [e] at hm2 hm3
  have := date_at h0 h1 hy0 hy1 hm0 hm1 hm2 hm3
  exact ⟨(_, _, _, _, _, _), this.1, this.2⟩
open Classical in
noncomputable def dateT (n : Int) : Int × Int × Int × Int × Int × Int := if h : ∃ t, IsDate n t then h.choose else (0, 0, 0, 0, 0, 0)
noncomputable def dY (n : Int) : Int := (dateT n).1
noncomputable def dM (n : Int) : Int := (dateT n).2.1
noncomputable def dD (n : Int) : Int := (dateT n).2.2.1
noncomputable def dH (n : Int) : Int := (dateT n).2.2.2.1
noncomputable def dI (n : Int) : Int := (dateT n).2.2.2.2.1
noncomputable def dS (n : Int) : Int := (dateT n).2.2.2.2.2
theorem dateT_of {n : Int} (h : ∃ t, IsDate n t) : IsDate n (dateT n) := by
  unfold dateT
  rw [dif_pos h]
  exact h.choose_spec
theorem date_ok {n : Int} (h0 : 0 ≤ n) (h1 : n ≤ 253402300799) : DateOk (dY n) (dM n) (dD n) (dH n) (dI n) (dS n) := (dateT_of (isDate_ex h0 h1)).ok
theorem date_secs {n : Int} (h0 : 0 ≤ n) (h1 : n ≤ 253402300799) : secsD (dY n) (dM n) (dD n) (dH n) (dI n) (dS n) = n := (dateT_of (isDate_ex h0 h1)).eq
theorem date_is {n y m d h i s : Int} (k : DateOk y m d h i s) (e : secsD y m d h i s = n) : y = dY n ∧ m = dM n ∧ d = dD n ∧ h = dH n ∧ i = dI n ∧ s = dS n := by
  have b := secsD_bd k
  rw [e] at b
  exact secsD_inj k (date_ok b.1 b.2) (by rw [e, date_secs b.1 b.2])
end Go.Proofs.YtibomkcbopkpkaaDoor
