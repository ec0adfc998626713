/-
  Plain mathematics of the calendar: no Go in sight.
-/
import Derived.Test.YtibomkcbopkpkaaDoorBase
namespace Go.Proofs.YtibomkcbopkpkaaDoor
def leap (y : Int) : Bool := decide (y % 4 = 0) && (!decide (y % 100 = 0) || decide (y % 400 = 0))
def mlen (y m : Int) : Int := if m = 4 ∨ m = 6 ∨ m = 9 ∨ m = 11 then 30 else if m = 2 then (if leap y = true then 29 else 28) else 31
def ylen (y : Int) : Int := if leap y = true then 366 else 365
/-- The days ahead of a year. -/
def ahead (y : Int) : Int := 365 * (y - 1970) + ((y - 1) / 4 - (y - 1) / 100 + (y - 1) / 400) - 477
theorem ahead_first : ahead 1970 = 0 := by decide
theorem ahead_end : ahead 10000 = 2932897 := by decide
theorem leap_yes {y : Int} (h : leap y = true) : y % 4 = 0 ∧ (y % 100 ≠ 0 ∨ y % 400 = 0) := by
  simpa [leap] using h
theorem leap_no {y : Int} (h : leap y = false) : ¬ (y % 4 = 0 ∧ (y % 100 ≠ 0 ∨ y % 400 = 0)) := by
  intro h2
  have : leap y = true := by simpa [leap] using h2
  rw [h] at this; cases this
theorem ahead_succ (y : Int) : ahead (y + 1) = ahead y + ylen y := by
  unfold ahead ylen
  cases h : leap y
  · have := leap_no h
    simp only [Bool.false_eq_true, if_false]
    omega
  · have := leap_yes h
    simp only [if_true]
    omega
theorem ylen_bd (y : Int) : 365 ≤ ylen y ∧ ylen y ≤ 366 := by unfold ylen; split <;> omega
theorem ahead_mono {a b : Int} (h : a ≤ b) : ahead a ≤ ahead b := by
  unfold ahead
  by_cases e : a = b
  · subst e; omega
  · omega
theorem ahead_bd {y : Int} (h0 : 1970 ≤ y) (h1 : y ≤ 10000) : 0 ≤ ahead y ∧ ahead y ≤ 2932897 := by
  have := ahead_mono h0
  have := ahead_mono h1
  rw [ahead_first] at *
  rw [ahead_end] at *
  omega
theorem ahead_uniq {a b D : Int} (h1 : ahead a ≤ D) (h2 : D < ahead (a + 1)) (h3 : ahead b ≤ D) (h4 : D < ahead (b + 1)) : a = b := by
  rcases Int.lt_trichotomy a b with h | h | h
  · have := ahead_mono (a := a + 1) (b := b) (by omega); omega
  · exact h
  · have := ahead_mono (a := b + 1) (b := a) (by omega); omega
/-- What the year would be if all years were leap years is not too late. -/
theorem ahead_guess {D : Int} (h : 0 ≤ D) : ahead (1970 + D / 366) ≤ D := by
  unfold ahead
  omega
theorem mlen_bd (y m : Int) : 28 ≤ mlen y m ∧ mlen y m ≤ 31 := by
  unfold mlen; split
  · omega
  · split
    · split <;> omega
    · omega
/-- The days of a year ahead of a month. -/
def msum (y m : Int) : Int :=
  if m ≤ 1 then 0 else if m = 2 then 31 else
  (if leap y = true then 1 else 0) + (if m = 3 then 59 else if m = 4 then 90 else if m = 5 then 120 else if m = 6 then 151 else if m = 7 then 181 else if m = 8 then 212 else if m = 9 then 243 else if m = 10 then 273 else if m = 11 then 304 else if m = 12 then 334 else 365)
theorem months {m : Int} (h1 : 1 ≤ m) (h2 : m ≤ 12) : m = 1 ∨ m = 2 ∨ m = 3 ∨ m = 4 ∨ m = 5 ∨ m = 6 ∨ m = 7 ∨ m = 8 ∨ m = 9 ∨ m = 10 ∨ m = 11 ∨ m = 12 := by omega
theorem msum_succ (y : Int) {m : Int} (h1 : 1 ≤ m) (h2 : m ≤ 12) : msum y (m + 1) = msum y m + mlen y m := by
  rcases months h1 h2 with rfl | rfl | rfl | rfl | rfl | rfl | rfl | rfl | rfl | rfl | rfl | rfl <;> cases h : leap y <;> simp [msum, mlen, h]
theorem msum_first (y : Int) : msum y 1 = 0 := by simp [msum]
theorem msum_end (y : Int) : msum y 13 = ylen y := by cases h : leap y <;> simp [msum, ylen, h]
theorem msum_mono1 (y : Int) {m : Int} (n : Nat) (h1 : 1 ≤ m) (h2 : m + n ≤ 13) : msum y m ≤ msum y (m + n) := by
  induction n with
  | zero => simp
  | succ n ih =>
    have h := ih (by omega)
    have := msum_succ y (m := m + n) (by omega) (by omega)
    have := mlen_bd y (m + n)
    have e : m + ((n + 1 : Nat) : Int) = m + n + 1 := by omega
    rw [e]; omega
theorem msum_mono (y : Int) {a b : Int} (h1 : 1 ≤ a) (h : a ≤ b) (h2 : b ≤ 13) : msum y a ≤ msum y b := by
  have := msum_mono1 y (m := a) (b - a).toNat h1 (by omega)
  have e : a + ((b - a).toNat : Int) = b := by omega
  rwa [e] at this
theorem msum_uniq {y a b D : Int} (ha : 1 ≤ a) (ha2 : a ≤ 12) (hb : 1 ≤ b) (hb2 : b ≤ 12) (h1 : msum y a ≤ D) (h2 : D < msum y a + mlen y a) (h3 : msum y b ≤ D) (h4 : D < msum y b + mlen y b) : a = b := by
  rw [← msum_succ y ha ha2] at h2
  rw [← msum_succ y hb hb2] at h4
  rcases Int.lt_trichotomy a b with h | h | h
  · have := msum_mono y (a := a + 1) (b := b) (by omega) (by omega) (by omega); omega
  · exact h
  · have := msum_mono y (a := b + 1) (b := a) (by omega) (by omega) (by omega); omega
def dayB (y m d : Int) : Bool := decide (1970 ≤ y) && decide (y ≤ 9999) && decide (1 ≤ m) && decide (m ≤ 12) && decide (1 ≤ d) && decide (d ≤ mlen y m)
structure DayOk (y m d : Int) : Prop where
  y0 : 1970 ≤ y
  y1 : y ≤ 9999
  m0 : 1 ≤ m
  m1 : m ≤ 12
  d0 : 1 ≤ d
  d1 : d ≤ mlen y m
theorem dayB_yes {y m d : Int} (h : dayB y m d = true) : DayOk y m d := by
  simp only [dayB, Bool.and_eq_true, decide_eq_true_eq] at h
  obtain ⟨⟨⟨⟨⟨a, b⟩, c⟩, d⟩, e⟩, f⟩ := h
  exact ⟨a, b, c, d, e, f⟩
theorem dayB_of {y m d : Int} (h : DayOk y m d) : dayB y m d = true := by
  obtain ⟨a, b, c, d, e, f⟩ := h
  simp only [dayB, Bool.and_eq_true, decide_eq_true_eq]
  exact ⟨⟨⟨⟨⟨a, b⟩, c⟩, d⟩, e⟩, f⟩
theorem dayB_no {y m d : Int} (h : dayB y m d = false) : ¬ DayOk y m d := fun k => by rw [dayB_of k] at h; cases h
/-- Days since the first of January 1970. -/
def daysD (y m d : Int) : Int := ahead y + msum y m + d - 1
theorem msum_day {y m d : Int} (h : DayOk y m d) : 0 ≤ msum y m ∧ msum y m + d - 1 < ylen y := by
  have h1 := msum_mono y (a := 1) (b := m) (by omega) h.m0 (by have := h.m1; omega)
  have h2 := msum_mono y (a := m + 1) (b := 13) (by have := h.m0; omega) (by have := h.m1; omega) (by omega)
  rw [msum_succ y h.m0 h.m1, msum_end] at h2
  rw [msum_first] at h1
  have := h.d1
  omega
theorem daysD_bd {y m d : Int} (h : DayOk y m d) : 0 ≤ daysD y m d ∧ daysD y m d ≤ 2932896 := by
  have h1 := msum_day h
  have h2 := ahead_bd h.y0 (by have := h.y1; omega)
  have h3 := ahead_mono (a := y + 1) (b := 10000) (by have := h.y1; omega)
  rw [ahead_succ, ahead_end] at h3
  have := h.d0
  unfold daysD; omega
theorem daysD_inj {y m d y' m' d' : Int} (h : DayOk y m d) (h' : DayOk y' m' d') (e : daysD y m d = daysD y' m' d') : y = y' ∧ m = m' ∧ d = d' := by
  have a := msum_day h
  have a' := msum_day h'
  have b := h.d0
  have b' := h'.d0
  unfold daysD at e
  obtain rfl : y = y' := by
    refine ahead_uniq (D := ahead y + msum y m + d - 1) (by omega) ?_ (by omega) ?_
    · rw [ahead_succ]; omega
    · rw [ahead_succ]; omega
  have c := h.d1
  have c' := h'.d1
  obtain rfl : m = m' := by
    refine msum_uniq (y := y) (D := msum y m + d - 1) h.m0 h.m1 h'.m0 h'.m1 (by omega) (by omega) (by omega) (by omega)
  exact ⟨rfl, rfl, by omega⟩
structure DateOk (y m d h i s : Int) : Prop where
  day : DayOk y m d
  h0 : 0 ≤ h
  h1 : h ≤ 23
  i0 : 0 ≤ i
  i1 : i ≤ 59
  s0 : 0 ≤ s
  s1 : s ≤ 59
def dateB (y m d h i s : Int) : Bool := dayB y m d && (decide (0 ≤ h) && decide (h ≤ 23) && decide (0 ≤ i) && decide (i ≤ 59) && decide (0 ≤ s) && decide (s ≤ 59))
theorem dateB_yes {y m d h i s : Int} (k : dateB y m d h i s = true) : DateOk y m d h i s := by
  simp only [dateB, Bool.and_eq_true, decide_eq_true_eq] at k
  obtain ⟨k, ⟨⟨⟨⟨a, b⟩, c⟩, d⟩, e⟩, f⟩ := k
  exact ⟨dayB_yes k, a, b, c, d, e, f⟩
theorem dateB_of {y m d h i s : Int} (k : DateOk y m d h i s) : dateB y m d h i s = true := by
  obtain ⟨k, a, b, c, d, e, f⟩ := k
  simp only [dateB, Bool.and_eq_true, decide_eq_true_eq]
  exact ⟨dayB_of k, ⟨⟨⟨⟨a, b⟩, c⟩, d⟩, e⟩, f⟩
def secsD (y m d h i s : Int) : Int := daysD y m d * 86400 + h * 3600 + i * 60 + s
theorem secsD_bd {y m d h i s : Int} (k : DateOk y m d h i s) : 0 ≤ secsD y m d h i s ∧ secsD y m d h i s ≤ 253402300799 := by
  have := daysD_bd k.day
  obtain ⟨_, a, b, c, d, e, f⟩ := k
  unfold secsD; omega
theorem secsD_inj {y m d h i s y' m' d' h' i' s' : Int} (k : DateOk y m d h i s) (k' : DateOk y' m' d' h' i' s') (e : secsD y m d h i s = secsD y' m' d' h' i' s') :
    y = y' ∧ m = m' ∧ d = d' ∧ h = h' ∧ i = i' ∧ s = s' := by
  obtain ⟨kd, a, b, c, q, e1, f⟩ := k
  obtain ⟨kd', a', b', c', q', e2, f'⟩ := k'
  unfold secsD at e
  have ed : daysD y m d = daysD y' m' d' := by omega
  obtain ⟨e1, e2, e3⟩ := daysD_inj kd kd' ed
  exact ⟨e1, e2, e3, by omega, by omega, by omega⟩
/-- The date of seconds, out of its year and month. -/
theorem date_at {n y m : Int} (h0 : 0 ≤ n) (h1 : n ≤ 253402300799) (hy0 : 1970 ≤ y) (a1 : ahead y ≤ n / 86400) (hm0 : 1 ≤ m) (hm1 : m ≤ 12)
    (b1 : msum y m ≤ n / 86400 - ahead y) (b2 : n / 86400 - ahead y < msum y m + mlen y m) :
    DateOk y m (n / 86400 - ahead y - msum y m + 1) (n % 86400 / 3600) (n % 86400 / 60 % 60) (n % 86400 % 60) ∧ secsD y m (n / 86400 - ahead y - msum y m + 1) (n % 86400 / 3600) (n % 86400 / 60 % 60) (n % 86400 % 60) = n := by
  have hy1 : y ≤ 9999 := by
    rcases Int.lt_or_le 9999 y with h | h
    · have := ahead_mono (a := 10000) (b := y) (by omega)
      rw [ahead_end] at this; omega
    · exact h
  refine ⟨⟨⟨hy0, hy1, hm0, hm1, by omega, by omega⟩, by omega, by omega, by omega, by omega, by omega, by omega⟩, ?_⟩
  unfold secsD daysD
  omega
/-- From one day to the next. -/
theorem next_month {y m d : Int} (h : DayOk y m d) (hd : ¬ DayOk y m (d + 1)) (hm : m < 12) : DayOk y (m + 1) 1 ∧ daysD y (m + 1) 1 = daysD y m d + 1 := by
  have hdm : d = mlen y m := by
    rcases Int.lt_or_le d (mlen y m) with k | k
    · exact absurd ⟨h.y0, h.y1, h.m0, h.m1, by have := h.d0; omega, by omega⟩ hd
    · have := h.d1; omega
  refine ⟨⟨h.y0, h.y1, by have := h.m0; omega, by omega, by omega, by have := mlen_bd y (m + 1); omega⟩, ?_⟩
  unfold daysD
  rw [msum_succ y h.m0 (by omega)]
  omega
theorem next_year {y m d : Int} (h : DayOk y m d) (hd : ¬ DayOk y m (d + 1)) (hm : m = 12) : d = 31 ∧ daysD (y + 1) 1 1 = daysD y m d + 1 := by
  subst hm
  have hdm : d = mlen y 12 := by
    rcases Int.lt_or_le d (mlen y 12) with k | k
    · exact absurd ⟨h.y0, h.y1, h.m0, h.m1, by have := h.d0; omega, by omega⟩ hd
    · have := h.d1; omega
  have e : mlen y 12 = 31 := by simp [mlen]
  have e2 := msum_succ y (m := 12) (by omega) (by omega)
  have e3 := msum_end y
  have e4 : (12 : Int) + 1 = 13 := rfl
  rw [e4] at e2
  refine ⟨by omega, ?_⟩
  unfold daysD
  rw [ahead_succ, msum_first]
  omega
end Go.Proofs.YtibomkcbopkpkaaDoor
