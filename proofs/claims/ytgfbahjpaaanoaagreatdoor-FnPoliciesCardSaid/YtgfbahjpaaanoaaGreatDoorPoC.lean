/-
  Texts of one claim, one behind the other.
-/
import Derived.BigQuiet
import Derived.Deep.CutBlock
import Derived.Deep.CutRange
import Derived.Deep.RegionHeld3
import Derived.Deep.RegionWith
import Derived.Defers
import Derived.Laws.Pointers
import Derived.Lib.AppendIntMem
import Derived.Lib.ItoaLen
import Derived.Lib.ItoaNum
import Derived.Lib.LaidTab
import Derived.Lib.QuietBelow
import Derived.Recover
import Derived.Shelf.Strconv.Itoa4
import Derived.WalkSmall
import Derived.Test.YtgfbahjpaaanoaaGreatDoorPoB
/-
  The laws' comparing of two lists of items that are alike; what the model's l2Find and FindItem answer.
-/
namespace Go.Proofs.YtgfbahjpaaanoaaGreatDoor
open Go.ChangeShapes Go.WideShapes Go.ChangeAt Go.RowKit Go.Sort
theorem str_ne {a b : ByteArray} (h : a ≠ b) : (a.toList == b.toList) = false := by
  rw [beq_eq_false_iff_ne]
  intro e
  rw [ByteArray.toList_eq, ByteArray.toList_eq] at e
  exact h (ByteArray.ext (Array.ext' e))
/-- The place of the first item of that name, small and large letters alike; -1: there is none. -/
def findR (name : ByteArray) (k : Nat) : List Rec → Int
  | [] => -1
  | r :: l => if lowS r.name = lowS name then (k : Int) else findR name (k + 1) l
def lowSame (a b : ByteArray) : Bool := decide (lowS a = lowS b)
def ShortNames (l : List Rec) : Prop := ∀ (i : Nat) r, l[i]? = some r → r.name.size ≤ 1048576
set_option maxHeartbeats 2000000 in
theorem l2Find_any (w : World) (a : Option Addr) (cap : Nat) (l : List Rec) (name : ByteArray) (hl : l.length ≤ 1048576) (hnm : name.size ≤ 1048576) (hs : ShortNames l) (hi : l = [] ∨ ∃ b off, a = some ⟨b, off, none⟩ ∧ ItemsAt w b off l) :
    Calls Tryz.prog 92 #[.slice a l.length cap, .string name] w fun e w' => e = .returned (.int .i64 (findR name 0 l)) ∧ Below w.heap.size w w' := by
  have HI : Hid (l = [] ∨ ∃ b off, a = some ⟨b, off, none⟩ ∧ ItemsAt w b off l) := hi
  have HS : Hid (ShortNames l) := hs
  clear hi hs
  generalize hn : l.length = n at *
  have HN : Hid (l.length = n) := hn
  clear hn
  go_enter Tryz.func92, Tryz.ntmps92
  go_wp2_with fail
  go_loopw [5] (fun i wr => ∃ k : Nat, k ≤ n ∧ i = .int .i64 k ∧ findR name 0 l = findR name k (l.drop k) ∧ Below w.heap.size w wr) (fun i _ => n - (intOf i).toNat)
  case atStart => exact ⟨0, Nat.zero_le _, rfl, rfl, Below.refl _ _⟩
  case round =>
    obtain ⟨k, hk, rfl, hf, hb⟩ := hrel
    have HF : Hid (findR name 0 l = findR name k (l.drop k)) := hf
    clear hf
    by_cases hlt : k < n
    · obtain ⟨r, hr⟩ : ∃ r, l[k]? = some r := ⟨l[k]'(by have := HN.out; omega), List.getElem?_eq_getElem _⟩
      rcases HI.out with h | ⟨b, off, rfl, hat⟩
      · subst h; simp at hr
      obtain ⟨p1, _, _⟩ := (hat.keep hb) k r hr
      have hrz := HS.out k r hr
      have HG : Hid (findR name 0 l = if lowS r.name = lowS name then (k : Int) else findR name (k + 1) (l.drop (k + 1))) := by
        show _ = _
        rw [HF.out, drop_rec l k r hr, findR]
      have g : (k : Int) < n := by omega
      clear HF hr hat HI
      generalize r.name = rn at *
      go_wp2_with fail
      refine (l1Lower_any rn _ hrz).mono ?_
      rintro e w2 ⟨rfl, hb2⟩
      go_wp2_with fail
      refine (l1Lower_any name _ hnm).mono ?_
      rintro e w3 ⟨rfl, hb3⟩
      have hbb : Below w.heap.size w w3 := hb.trans ((hb2.mono hb.size).trans (hb3.mono (Nat.le_trans hb.size hb2.size)))
      clear hb hb2 hb3 p1
      by_cases he : lowS rn = lowS name
      · have HE : Hid (findR name 0 l = (k : Int)) := by show _ = _; rw [HG.out, if_pos he]
        rw [he]
        clear he HG
        generalize lowS name = q at *
        go_wp2_with fail
        go_ret
        exact ⟨ret_int HE.out.symm, hbb⟩
      · have HE : Hid (findR name 0 l = findR name (k + 1) (l.drop (k + 1))) := by show _ = _; rw [HG.out, if_neg he]
        have hq := str_ne he
        clear he HG
        generalize lowS rn = q1 at *
        generalize lowS name = q2 at *
        go_wp2_with fail
        go_roundw
        case rel => exact ⟨k + 1, by omega, by go_num, HE.out, hbb⟩
        case measure => simp [intOf]; omega
    · have HE : Hid (findR name 0 l = -1) := by
        show _ = _
        rw [HF.out, List.drop_of_length_le (by have := HN.out; omega), findR]
      clear HF
      go_wp2_with fail
      go_ret
      exact ⟨ret_int HE.out.symm, hb⟩
theorem int_room {w w1 : World} (hb : Below (w.heap.size + 1) (w.alloc (.cells #[.int .i64 0, .int .i64 0] 34)) w1) :
    w.heap.size < w1.heap.size ∧ w1.cell? ⟨w.heap.size, 0, none⟩ = some (.int .i64 0) ∧ w1.cell? ⟨w.heap.size, 1, none⟩ = some (.int .i64 0) ∧ w1.frozen? ⟨w.heap.size, 0, none⟩ = false ∧ w1.frozen? ⟨w.heap.size, 1, none⟩ = false ∧ Below w.heap.size w w1 := by
  have hz := hb.size
  simp only [World.size_alloc] at hz
  exact ⟨hz, by rw [hb.cell (p := ⟨w.heap.size, 0, none⟩) (Nat.lt_succ_self _)]; simp, by rw [hb.cell (p := ⟨w.heap.size, 1, none⟩) (Nat.lt_succ_self _)]; simp, by rw [hb.frozen (p := ⟨w.heap.size, 0, none⟩) (Nat.lt_succ_self _)]; simp, by rw [hb.frozen (p := ⟨w.heap.size, 1, none⟩) (Nat.lt_succ_self _)]; simp, ((Below.refl _ _).alloc (Nat.le_refl _) _).trans (hb.mono (Nat.le_succ _))⟩
def findC (l : List Rec) (name : ByteArray) : Int := if 20 < l.length then 2 else if wordS name = true then (if findR name 0 l < 0 then 4 else 0) else 5
def findV (l : List Rec) (name : ByteArray) : Int := if findC l name = 0 then findR name 0 l else 0
end Go.Proofs.YtgfbahjpaaanoaaGreatDoor
/-
  Plain mathematics of the calendar: no Go in sight.
-/
namespace Go.Proofs.YtgfbahjpaaanoaaGreatDoor
def leap (y : Int) : Bool := decide (y % 4 = 0) && (!decide (y % 100 = 0) || decide (y % 400 = 0))
def mlen (y m : Int) : Int := if m = 4 ∨ m = 6 ∨ m = 9 ∨ m = 11 then 30 else if m = 2 then (if leap y = true then 29 else 28) else 31
def ylen (y : Int) : Int := if leap y = true then 366 else 365
/-- The days ahead of a year. -/
def ahead (y : Int) : Int := 365 * (y - 1970) + ((y - 1) / 4 - (y - 1) / 100 + (y - 1) / 400) - 477
theorem ahead_first : ahead 1970 = 0 := by decide
theorem ahead_end : ahead 10000 = 2932897 := by decide
theorem leap_yes {y : Int} (h : leap y = true) : y % 4 = 0 ∧ (y % 100 ≠ 0 ∨ y % 400 = 0) := by
  simpa [leap] using h
theorem leap_no {y : Int} (h : leap y = false) : ¬ (y % 4 = 0 ∧ (y % 100 ≠ 0 ∨ y % 400 = 0)) := by
  intro h2
  have : leap y = true := by simpa [leap] using h2
  rw [h] at this; cases this
theorem ahead_succ (y : Int) : ahead (y + 1) = ahead y + ylen y := by
  unfold ahead ylen
  cases h : leap y
  · have := leap_no h
    simp only [Bool.false_eq_true, if_false]
    omega
  · have := leap_yes h
    simp only [if_true]
    omega
theorem ylen_bd (y : Int) : 365 ≤ ylen y ∧ ylen y ≤ 366 := by unfold ylen; split <;> omega
theorem ahead_mono {a b : Int} (h : a ≤ b) : ahead a ≤ ahead b := by
  unfold ahead
  by_cases e : a = b
  · subst e; omega
  · omega
theorem ahead_bd {y : Int} (h0 : 1970 ≤ y) (h1 : y ≤ 10000) : 0 ≤ ahead y ∧ ahead y ≤ 2932897 := by
  have := ahead_mono h0
  have := ahead_mono h1
  rw [ahead_first] at *
  rw [ahead_end] at *
  omega
theorem ahead_uniq {a b D : Int} (h1 : ahead a ≤ D) (h2 : D < ahead (a + 1)) (h3 : ahead b ≤ D) (h4 : D < ahead (b + 1)) : a = b := by
  rcases Int.lt_trichotomy a b with h | h | h
  · have := ahead_mono (a := a + 1) (b := b) (by omega); omega
  · exact h
  · have := ahead_mono (a := b + 1) (b := a) (by omega); omega
/-- What the year would be if all years were leap years is not too late. -/
theorem ahead_guess {D : Int} (h : 0 ≤ D) : ahead (1970 + D / 366) ≤ D := by
  unfold ahead
  omega
theorem mlen_bd (y m : Int) : 28 ≤ mlen y m ∧ mlen y m ≤ 31 := by
  unfold mlen; split
  · omega
  · split
    · split <;> omega
    · omega
/-- The days of a year ahead of a month. -/
def msum (y m : Int) : Int :=
  if m ≤ 1 then 0 else if m = 2 then 31 else
  (if leap y = true then 1 else 0) + (if m = 3 then 59 else if m = 4 then 90 else if m = 5 then 120 else if m = 6 then 151 else if m = 7 then 181 else if m = 8 then 212 else if m = 9 then 243 else if m = 10 then 273 else if m = 11 then 304 else if m = 12 then 334 else 365)
theorem months {m : Int} (h1 : 1 ≤ m) (h2 : m ≤ 12) : m = 1 ∨ m = 2 ∨ m = 3 ∨ m = 4 ∨ m = 5 ∨ m = 6 ∨ m = 7 ∨ m = 8 ∨ m = 9 ∨ m = 10 ∨ m = 11 ∨ m = 12 := by omega
theorem msum_succ (y : Int) {m : Int} (h1 : 1 ≤ m) (h2 : m ≤ 12) : msum y (m + 1) = msum y m + mlen y m := by
  rcases months h1 h2 with rfl | rfl | rfl | rfl | rfl | rfl | rfl | rfl | rfl | rfl | rfl | rfl <;> cases h : leap y <;> simp [msum, mlen, h]
theorem msum_first (y : Int) : msum y 1 = 0 := by simp [msum]
theorem msum_end (y : Int) : msum y 13 = ylen y := by cases h : leap y <;> simp [msum, ylen, h]
theorem msum_mono1 (y : Int) {m : Int} (n : Nat) (h1 : 1 ≤ m) (h2 : m + n ≤ 13) : msum y m ≤ msum y (m + n) := by
  induction n with
  | zero => simp
  | succ n ih =>
    have h := ih (by omega)
    have := msum_succ y (m := m + n) (by omega) (by omega)
    have := mlen_bd y (m + n)
    have e : m + ((n + 1 : Nat) : Int) = m + n + 1 := by omega
    rw [e]; omega
theorem msum_mono (y : Int) {a b : Int} (h1 : 1 ≤ a) (h : a ≤ b) (h2 : b ≤ 13) : msum y a ≤ msum y b := by
  have := msum_mono1 y (m := a) (b - a).toNat h1 (by omega)
  have e : a + ((b - a).toNat : Int) = b := by omega
  rwa [e] at this
theorem msum_uniq {y a b D : Int} (ha : 1 ≤ a) (ha2 : a ≤ 12) (hb : 1 ≤ b) (hb2 : b ≤ 12) (h1 : msum y a ≤ D) (h2 : D < msum y a + mlen y a) (h3 : msum y b ≤ D) (h4 : D < msum y b + mlen y b) : a = b := by
  rw [← msum_succ y ha ha2] at h2
  rw [← msum_succ y hb hb2] at h4
  rcases Int.lt_trichotomy a b with h | h | h
  · have := msum_mono y (a := a + 1) (b := b) (by omega) (by omega) (by omega); omega
  · exact h
  · have := msum_mono y (a := b + 1) (b := a) (by omega) (by omega) (by omega); omega
def dayB (y m d : Int) : Bool := decide (1970 ≤ y) && decide (y ≤ 9999) && decide (1 ≤ m) && decide (m ≤ 12) && decide (1 ≤ d) && decide (d ≤ mlen y m)
structure DayOk (y m d : Int) : Prop where
  y0 : 1970 ≤ y
  y1 : y ≤ 9999
  m0 : 1 ≤ m
  m1 : m ≤ 12
  d0 : 1 ≤ d
  d1 : d ≤ mlen y m
theorem dayB_yes {y m d : Int} (h : dayB y m d = true) : DayOk y m d := by
  simp only [dayB, Bool.and_eq_true, decide_eq_true_eq] at h
  obtain ⟨⟨⟨⟨⟨a, b⟩, c⟩, d⟩, e⟩, f⟩ := h
  exact ⟨a, b, c, d, e, f⟩
theorem dayB_of {y m d : Int} (h : DayOk y m d) : dayB y m d = true := by
  obtain ⟨a, b, c, d, e, f⟩ := h
  simp only [dayB, Bool.and_eq_true, decide_eq_true_eq]
  exact ⟨⟨⟨⟨⟨a, b⟩, c⟩, d⟩, e⟩, f⟩
theorem dayB_no {y m d : Int} (h : dayB y m d = false) : ¬ DayOk y m d := fun k => by rw [dayB_of k] at h; cases h
/-- Days since the first of January 1970. -/
def daysD (y m d : Int) : Int := ahead y + msum y m + d - 1
theorem msum_day {y m d : Int} (h : DayOk y m d) : 0 ≤ msum y m ∧ msum y m + d - 1 < ylen y := by
  have h1 := msum_mono y (a := 1) (b := m) (by omega) h.m0 (by have := h.m1; omega)
  have h2 := msum_mono y (a := m + 1) (b := 13) (by have := h.m0; omega) (by have := h.m1; omega) (by omega)
  rw [msum_succ y h.m0 h.m1, msum_end] at h2
  rw [msum_first] at h1
  have := h.d1
  omega
theorem daysD_bd {y m d : Int} (h : DayOk y m d) : 0 ≤ daysD y m d ∧ daysD y m d ≤ 2932896 := by
  have h1 := msum_day h
  have h2 := ahead_bd h.y0 (by have := h.y1; omega)
  have h3 := ahead_mono (a := y + 1) (b := 10000) (by have := h.y1; omega)
  rw [ahead_succ, ahead_end] at h3
  have := h.d0
  unfold daysD; omega
theorem daysD_inj {y m d y' m' d' : Int} (h : DayOk y m d) (h' : DayOk y' m' d') (e : daysD y m d = daysD y' m' d') : y = y' ∧ m = m' ∧ d = d' := by
  have a := msum_day h
  have a' := msum_day h'
  have b := h.d0
  have b' := h'.d0
  unfold daysD at e
  obtain rfl : y = y' := by
    refine ahead_uniq (D := ahead y + msum y m + d - 1) (by omega) ?_ (by omega) ?_
    · rw [ahead_succ]; omega
    · rw [ahead_succ]; omega
  have c := h.d1
  have c' := h'.d1
  obtain rfl : m = m' := by
    refine msum_uniq (y := y) (D := msum y m + d - 1) h.m0 h.m1 h'.m0 h'.m1 (by omega) (by omega) (by omega) (by omega)
  exact ⟨rfl, rfl, by omega⟩
structure DateOk (y m d h i s : Int) : Prop where
  day : DayOk y m d
  h0 : 0 ≤ h
  h1 : h ≤ 23
  i0 : 0 ≤ i
  i1 : i ≤ 59
  s0 : 0 ≤ s
  s1 : s ≤ 59
def dateB (y m d h i s : Int) : Bool := dayB y m d && (decide (0 ≤ h) && decide (h ≤ 23) && decide (0 ≤ i) && decide (i ≤ 59) && decide (0 ≤ s) && decide (s ≤ 59))
theorem dateB_yes {y m d h i s : Int} (k : dateB y m d h i s = true) : DateOk y m d h i s := by
  simp only [dateB, Bool.and_eq_true, decide_eq_true_eq] at k
  obtain ⟨k, ⟨⟨⟨⟨a, b⟩, c⟩, d⟩, e⟩, f⟩ := k
  exact ⟨dayB_yes k, a, b, c, d, e, f⟩
theorem dateB_of {y m d h i s : Int} (k : DateOk y m d h i s) : dateB y m d h i s = true := by
  obtain ⟨k, a, b, c, d, e, f⟩ := k
  simp only [dateB, Bool.and_eq_true, decide_eq_true_eq]
  exact ⟨dayB_of k, ⟨⟨⟨⟨a, b⟩, c⟩, d⟩, e⟩, f⟩
def secsD (y m d h i s : Int) : Int := daysD y m d * 86400 + h * 3600 + i * 60 + s
theorem secsD_bd {y m d h i s : Int} (k : DateOk y m d h i s) : 0 ≤ secsD y m d h i s ∧ secsD y m d h i s ≤ 253402300799 := by
  have := daysD_bd k.day
  obtain ⟨_, a, b, c, d, e, f⟩ := k
  unfold secsD; omega
theorem secsD_inj {y m d h i s y' m' d' h' i' s' : Int} (k : DateOk y m d h i s) (k' : DateOk y' m' d' h' i' s') (e : secsD y m d h i s = secsD y' m' d' h' i' s') :
    y = y' ∧ m = m' ∧ d = d' ∧ h = h' ∧ i = i' ∧ s = s' := by
  obtain ⟨kd, a, b, c, q, e1, f⟩ := k
  obtain ⟨kd', a', b', c', q', e2, f'⟩ := k'
  unfold secsD at e
  have ed : daysD y m d = daysD y' m' d' := by omega
  obtain ⟨e1, e2, e3⟩ := daysD_inj kd kd' ed
  exact ⟨e1, e2, e3, by omega, by omega, by omega⟩
/-- The date of seconds, out of its year and month. -/
theorem date_at {n y m : Int} (h0 : 0 ≤ n) (h1 : n ≤ 253402300799) (hy0 : 1970 ≤ y) (a1 : ahead y ≤ n / 86400) (hm0 : 1 ≤ m) (hm1 : m ≤ 12)
    (b1 : msum y m ≤ n / 86400 - ahead y) (b2 : n / 86400 - ahead y < msum y m + mlen y m) :
    DateOk y m (n / 86400 - ahead y - msum y m + 1) (n % 86400 / 3600) (n % 86400 / 60 % 60) (n % 86400 % 60) ∧ secsD y m (n / 86400 - ahead y - msum y m + 1) (n % 86400 / 3600) (n % 86400 / 60 % 60) (n % 86400 % 60) = n := by
  have hy1 : y ≤ 9999 := by
    rcases Int.lt_or_le 9999 y with h | h
    · have := ahead_mono (a := 10000) (b := y) (by omega)
      rw [ahead_end] at this; omega
    · exact h
  refine ⟨⟨⟨hy0, hy1, hm0, hm1, by omega, by omega⟩, by omega, by omega, by omega, by omega, by omega, by omega⟩, ?_⟩
  unfold secsD daysD
  omega
/-- From one day to the next. -/
theorem next_month {y m d : Int} (h : DayOk y m d) (hd : ¬ DayOk y m (d + 1)) (hm : m < 12) : DayOk y (m + 1) 1 ∧ daysD y (m + 1) 1 = daysD y m d + 1 := by
  have hdm : d = mlen y m := by
    rcases Int.lt_or_le d (mlen y m) with k | k
    · exact absurd ⟨h.y0, h.y1, h.m0, h.m1, by have := h.d0; omega, by omega⟩ hd
    · have := h.d1; omega
  refine ⟨⟨h.y0, h.y1, by have := h.m0; omega, by omega, by omega, by have := mlen_bd y (m + 1); omega⟩, ?_⟩
  unfold daysD
  rw [msum_succ y h.m0 (by omega)]
  omega
theorem next_year {y m d : Int} (h : DayOk y m d) (hd : ¬ DayOk y m (d + 1)) (hm : m = 12) : d = 31 ∧ daysD (y + 1) 1 1 = daysD y m d + 1 := by
  subst hm
  have hdm : d = mlen y 12 := by
    rcases Int.lt_or_le d (mlen y 12) with k | k
    · exact absurd ⟨h.y0, h.y1, h.m0, h.m1, by have := h.d0; omega, by omega⟩ hd
    · have := h.d1; omega
  have e : mlen y 12 = 31 := by simp [mlen]
  have e2 := msum_succ y (m := 12) (by omega) (by omega)
  have e3 := msum_end y
  have e4 : (12 : Int) + 1 = 13 := rfl
  rw [e4] at e2
  refine ⟨by omega, ?_⟩
  unfold daysD
  rw [ahead_succ, msum_first]
  omega
end Go.Proofs.YtgfbahjpaaanoaaGreatDoor
/-
  Plain: every number of seconds has its one date.
-/
namespace Go.Proofs.YtgfbahjpaaanoaaGreatDoor
theorem year_ex (D : Nat) : ∃ y : Int, 1970 ≤ y ∧ ahead y ≤ D ∧ (D : Int) < ahead (y + 1) := by
  induction D with
  | zero => exact ⟨1970, by omega, by decide, by decide⟩
  | succ D ih =>
    obtain ⟨y, h0, h1, h2⟩ := ih
    by_cases h : ((D + 1 : Nat) : Int) < ahead (y + 1)
    · exact ⟨y, h0, by omega, h⟩
    · refine ⟨y + 1, by omega, by omega, ?_⟩
      rw [ahead_succ]
      have := ylen_bd (y + 1)
      omega
theorem month_ex (y : Int) (r : Nat) : ((r : Int) < ylen y) → ∃ m : Int, 1 ≤ m ∧ m ≤ 12 ∧ msum y m ≤ r ∧ (r : Int) < msum y m + mlen y m := by
  induction r with
  | zero => intro _; exact ⟨1, by omega, by omega, by rw [msum_first]; simp, by rw [msum_first]; have := mlen_bd y 1; omega⟩
  | succ r ih =>
    intro hr
    obtain ⟨m, h0, h1, h2, h3⟩ := ih (by omega)
    by_cases h : ((r + 1 : Nat) : Int) < msum y m + mlen y m
    · exact ⟨m, h0, h1, by omega, h⟩
    · have e := msum_succ y h0 h1
      have hm : m < 12 := by
        rcases Int.lt_or_le m 12 with k | k
        · exact k
        · obtain rfl : m = 12 := by omega
          have := msum_end y
          have e4 : (12 : Int) + 1 = 13 := rfl
          rw [e4] at e
          omega
      refine ⟨m + 1, by omega, by omega, by omega, ?_⟩
      have := mlen_bd y (m + 1)
      omega
/-- A date of seconds. -/
structure IsDate (n : Int) (t : Int × Int × Int × Int × Int × Int) : Prop where
  ok : DateOk t.1 t.2.1 t.2.2.1 t.2.2.2.1 t.2.2.2.2.1 t.2.2.2.2.2
  eq : secsD t.1 t.2.1 t.2.2.1 t.2.2.2.1 t.2.2.2.2.1 t.2.2.2.2.2 = n
theorem isDate_ex {n : Int} (h0 : 0 ≤ n) (h1 : n ≤ 253402300799) : ∃ t, IsDate n t := by
  obtain ⟨y, hy0, hy1, hy2⟩ := year_ex (n / 86400).toNat
  have e : ((n / 86400).toNat : Int) = n / 86400 := by omega
  rw [e] at hy1 hy2
  rw [ahead_succ] at hy2
  obtain ⟨m, hm0, hm1, hm2, hm3⟩ := month_ex y (n / 86400 - ahead y).toNat (by omega)
  have e : ((n / 86400 - ahead y).toNat : Int) = n / 86400 - ahead y := by omega
  rw [e] at hm2 hm3
  have := date_at h0 h1 hy0 hy1 hm0 hm1 hm2 hm3
  exact ⟨(_, _, _, _, _, _), this.1, this.2⟩
open Classical in
noncomputable def dateT (n : Int) : Int × Int × Int × Int × Int × Int := if h : ∃ t, IsDate n t then h.choose else (0, 0, 0, 0, 0, 0)
noncomputable def dY (n : Int) : Int := (dateT n).1
noncomputable def dM (n : Int) : Int := (dateT n).2.1
noncomputable def dD (n : Int) : Int := (dateT n).2.2.1
noncomputable def dH (n : Int) : Int := (dateT n).2.2.2.1
noncomputable def dI (n : Int) : Int := (dateT n).2.2.2.2.1
noncomputable def dS (n : Int) : Int := (dateT n).2.2.2.2.2
theorem dateT_of {n : Int} (h : ∃ t, IsDate n t) : IsDate n (dateT n) := by
  unfold dateT
  rw [dif_pos h]
  exact h.choose_spec
theorem date_ok {n : Int} (h0 : 0 ≤ n) (h1 : n ≤ 253402300799) : DateOk (dY n) (dM n) (dD n) (dH n) (dI n) (dS n) := (dateT_of (isDate_ex h0 h1)).ok
theorem date_secs {n : Int} (h0 : 0 ≤ n) (h1 : n ≤ 253402300799) : secsD (dY n) (dM n) (dD n) (dH n) (dI n) (dS n) = n := (dateT_of (isDate_ex h0 h1)).eq
theorem date_is {n y m d h i s : Int} (k : DateOk y m d h i s) (e : secsD y m d h i s = n) : y = dY n ∧ m = dM n ∧ d = dD n ∧ h = dH n ∧ i = dI n ∧ s = dS n := by
  have b := secsD_bd k
  rw [e] at b
  exact secsD_inj k (date_ok b.1 b.2) (by rw [e, date_secs b.1 b.2])
end Go.Proofs.YtgfbahjpaaanoaaGreatDoor
/-
  Plain: the text of a date.
-/
namespace Go.Proofs.YtgfbahjpaaanoaaGreatDoor
def dayNames : ByteArray := ⟨#[83, 117, 110, 77, 111, 110, 84, 117, 101, 87, 101, 100, 84, 104, 117, 70, 114, 105, 83, 97, 116]⟩
def monNames : ByteArray := ⟨#[74, 97, 110, 70, 101, 98, 77, 97, 114, 65, 112, 114, 77, 97, 121, 74, 117, 110, 74, 117, 108, 65, 117, 103, 83, 101, 112, 79, 99, 116, 78, 111, 118, 68, 101, 99]⟩
def wdT (x : Int) : ByteArray := dayNames.extract (3 * x).toNat (3 * x + 3).toNat
def moT (m : Int) : ByteArray := monNames.extract (3 * m - 3).toNat (3 * m).toNat
def dg (x : Int) : UInt8 := UInt8.ofNat (48 + x.toNat)
def two (n : Int) : ByteArray := ⟨#[dg (n / 10 % 10), dg (n % 10)]⟩
theorem wdT_size {x : Int} (h0 : 0 ≤ x) (h1 : x < 7) : (wdT x).size = 3 := by
  have e : dayNames.size = 21 := rfl
  unfold wdT
  rw [ByteArray.size_extract, e]
  omega
theorem moT_size {m : Int} (h0 : 1 ≤ m) (h1 : m ≤ 12) : (moT m).size = 3 := by
  have e : monNames.size = 36 := rfl
  unfold moT
  rw [ByteArray.size_extract, e]
  omega
theorem two_size (n : Int) : (two n).size = 2 := rfl
/-- The text of a date. -/
def dateText (x y m d h i s : Int) : ByteArray :=
  wdT x ++ ⟨#[44, 32]⟩ ++ two d ++ ⟨#[32]⟩ ++ moT m ++ ⟨#[32]⟩ ++ two (y / 100) ++ two y ++ ⟨#[32]⟩ ++ two h ++ ⟨#[58]⟩ ++ two i ++ ⟨#[58]⟩ ++ two s ++ ⟨#[32, 71, 77, 84]⟩
noncomputable def fmtT (n : Int) : ByteArray := dateText ((n / 86400 + 4) % 7) (dY n) (dM n) (dD n) (dH n) (dI n) (dS n)
def numTx (n : Int) : ByteArray := ⟨(Lib.itoa n).toArray⟩
theorem dec_one (u : Nat) (h : u < 10) : Lib.decDigits u = [UInt8.ofNat (48 + u)] := Lib.decDigits_one h
theorem dec_more (u : Nat) (h : ¬ u < 10) : Lib.decDigits u = Lib.decDigits (u / 10) ++ [UInt8.ofNat (48 + u % 10)] := by rw [Lib.decDigits, dif_neg h]
theorem num_one {n : Int} (h0 : 0 ≤ n) (h1 : n < 10) : (⟨#[48]⟩ : ByteArray) ++ numTx n = two n := by
  obtain ⟨u, rfl⟩ := Int.eq_ofNat_of_zero_le h0
  have e1 : ((u : Int) / 10 % 10).toNat = 0 := by omega
  have e2 : ((u : Int) % 10).toNat = u := by omega
  unfold numTx two dg
  rw [Lib.itoa_nonneg, dec_one u (by omega), e1, e2]
  apply ByteArray.ext
  simp
theorem num_two {n : Int} (h0 : 10 ≤ n) (h1 : n < 100) : numTx n = two n := by
  obtain ⟨u, rfl⟩ := Int.eq_ofNat_of_zero_le (show 0 ≤ n by omega)
  have e1 : ((u : Int) / 10 % 10).toNat = u / 10 := by omega
  have e2 : ((u : Int) % 10).toNat = u % 10 := by omega
  unfold numTx two dg
  rw [Lib.itoa_nonneg, dec_more u (by omega), dec_one (u / 10) (by omega), e1, e2]
  rfl
theorem num_year {n : Int} (h0 : 1000 ≤ n) (h1 : n < 10000) : numTx n = two (n / 100) ++ two n := by
  obtain ⟨u, rfl⟩ := Int.eq_ofNat_of_zero_le (show 0 ≤ n by omega)
  have e1 : ((u : Int) / 100 / 10 % 10).toNat = u / 10 / 10 / 10 := by omega
  have e2 : ((u : Int) / 100 % 10).toNat = u / 10 / 10 % 10 := by omega
  have e3 : ((u : Int) / 10 % 10).toNat = u / 10 % 10 := by omega
  have e4 : ((u : Int) % 10).toNat = u % 10 := by omega
  unfold numTx two dg
  rw [Lib.itoa_nonneg, dec_more u (by omega), dec_more (u / 10) (by omega), dec_more (u / 10 / 10) (by omega), dec_one (u / 10 / 10 / 10) (by omega), e1, e2, e3, e4]
  apply ByteArray.ext
  simp
theorem numTx_size {n : Int} (h0 : 0 ≤ n) (h1 : n < 10000) : (numTx n).size ≤ 4 := by
  by_cases c : n < 10
  · have := congrArg ByteArray.size (num_one h0 c)
    rw [ByteArray.size_append, two_size] at this
    omega
  by_cases c2 : n < 100
  · rw [num_two (by omega) c2, two_size]; omega
  by_cases c3 : n < 1000
  · obtain ⟨u, rfl⟩ := Int.eq_ofNat_of_zero_le h0
    unfold numTx
    rw [Lib.itoa_nonneg, dec_more u (by omega), dec_more (u / 10) (by omega), dec_one (u / 10 / 10) (by omega)]
    show (3 : Nat) ≤ 4
    omega
  · rw [num_year (by omega) h1, ByteArray.size_append, two_size, two_size]; omega
end Go.Proofs.YtgfbahjpaaanoaaGreatDoor
/-
  Plain mathematics of decimal digits that stay at their greatest: no Go in sight.
-/
namespace Go.Proofs.YtgfbahjpaaanoaaGreatDoor
def digB (c : UInt8) : Bool := decide (48 ≤ (c.toNat : Int)) && decide ((c.toNat : Int) ≤ 57)
def accD (n : Int) (c : UInt8) : Int := if n * 10 + ((c.toNat : Int) - 48) < 2147483648 then n * 10 + ((c.toNat : Int) - 48) else 2147483648
def valD (l : List UInt8) : Int := l.foldl accD 0
def allD (l : List UInt8) : Bool := l.all digB
theorem accD_bd (n : Int) (c : UInt8) (h0 : 0 ≤ n) (hc : digB c = true) : 0 ≤ accD n c ∧ accD n c ≤ 2147483648 := by
  simp [digB] at hc
  unfold accD
  split <;> omega
theorem foldD_bd (l : List UInt8) : ∀ n : Int, 0 ≤ n → n ≤ 2147483648 → l.all digB = true → 0 ≤ l.foldl accD n ∧ l.foldl accD n ≤ 2147483648 := by
  induction l with
  | nil => intro n h0 h1 _; exact ⟨h0, h1⟩
  | cons c l ih =>
    intro n h0 h1 h
    simp only [List.all_cons, Bool.and_eq_true] at h
    have := accD_bd n c h0 h.1
    exact ih _ this.1 this.2 h.2
theorem valD_bd (l : List UInt8) (h : allD l = true) : 0 ≤ valD l ∧ valD l ≤ 2147483648 := foldD_bd l 0 (by omega) (by omega) h
theorem valD_snoc (l : List UInt8) (c : UInt8) : valD (l ++ [c]) = accD (valD l) c := by simp [valD]
theorem allD_snoc (l : List UInt8) (c : UInt8) : allD (l ++ [c]) = (allD l && digB c) := by simp [allD]
theorem allD_of_take (l : List UInt8) (k : Nat) (h : allD (l.take k) = false) : allD l = false := by
  have e := List.take_append_drop k l
  rw [← e]
  simp only [allD] at h ⊢
  rw [List.all_append, h, Bool.false_and]
/-- Digits as a number; -1 where they are none. -/
def okD (s : ByteArray) : Bool := decide (1 ≤ s.size) && decide (s.size ≤ 64) && allD s.data.toList
def numD (s : ByteArray) : Int := if okD s = true then valD s.data.toList else -1
theorem okD_short (s : ByteArray) (h : s.size < 1) : okD s = false := by simp [okD]; omega
theorem okD_long (s : ByteArray) (h : 64 < s.size) : okD s = false := by simp [okD]; omega
theorem okD_not (s : ByteArray) (k : Nat) (h : k < s.size) (hd : digB s[k] = false) : okD s = false := by
  have : allD s.data.toList = false := by
    refine allD_of_take _ (k + 1) ?_
    rw [take_snoc s k h, allD_snoc, hd, Bool.and_false]
  simp [okD, this]
theorem okD_yes (s : ByteArray) (h1 : 1 ≤ s.size) (h2 : s.size ≤ 64) (h : allD s.data.toList = true) : okD s = true := by simp [okD, h, h1, h2]
theorem numD_no (s : ByteArray) (h : okD s = false) : numD s = -1 := by simp [numD, h]
theorem numD_yes (s : ByteArray) (h : okD s = true) : numD s = valD s.data.toList := by simp [numD, h]
theorem okD_bd (s : ByteArray) (h : okD s = true) : 0 ≤ valD s.data.toList ∧ valD s.data.toList ≤ 2147483648 := by
  refine valD_bd _ ?_
  simp [okD] at h
  exact h.2
end Go.Proofs.YtgfbahjpaaanoaaGreatDoor
/-
  Plain: what a date's text is read as.
-/
namespace Go.Proofs.YtgfbahjpaaanoaaGreatDoor
def parS (s : ByteArray) (m : Int) : Int := secsD (numD (s.extract 12 16)) m (numD (s.extract 5 7)) (numD (s.extract 17 19)) (numD (s.extract 20 22)) (numD (s.extract 23 25))
def parB (s : ByteArray) (m : Int) : Bool := dateB (numD (s.extract 12 16)) m (numD (s.extract 5 7)) (numD (s.extract 17 19)) (numD (s.extract 20 22)) (numD (s.extract 23 25))
/-- The text is the text of a date of month m. -/
structure Cand (s : ByteArray) (m : Int) : Prop where
  m0 : 1 ≤ m
  m1 : m ≤ 12
  mon : moT m = s.extract 8 11
  ok : parB s m = true
  same : fmtT (parS s m) = s
theorem moT_inj {a b : Int} (a0 : 1 ≤ a) (a1 : a ≤ 12) (b0 : 1 ≤ b) (b1 : b ≤ 12) (h : moT a = moT b) : a = b := by
  rcases months a0 a1 with rfl | rfl | rfl | rfl | rfl | rfl | rfl | rfl | rfl | rfl | rfl | rfl <;>
  rcases months b0 b1 with rfl | rfl | rfl | rfl | rfl | rfl | rfl | rfl | rfl | rfl | rfl | rfl <;>
  first | rfl | exact absurd h (by decide)
open Classical in
noncomputable def parI (s : ByteArray) : Int := if h : s.size = 29 ∧ ∃ m, Cand s m then parS s h.2.choose else -1
theorem parI_yes {s : ByteArray} {m : Int} (hz : s.size = 29) (h : Cand s m) : parI s = parS s m := by
  have hh : s.size = 29 ∧ ∃ m, Cand s m := ⟨hz, m, h⟩
  unfold parI
  rw [dif_pos hh]
  have hc := hh.2.choose_spec
  rw [moT_inj hc.m0 hc.m1 h.m0 h.m1 (hc.mon.trans h.mon.symm)]
theorem parI_no {s : ByteArray} (h : s.size = 29 → ∀ m, ¬ Cand s m) : parI s = -1 := by
  unfold parI
  rw [dif_neg]
  rintro ⟨hz, m, hm⟩
  exact h hz m hm
theorem Cand.bd {s : ByteArray} {m : Int} (h : Cand s m) : 0 ≤ parS s m ∧ parS s m ≤ 253402300799 := secsD_bd (dateB_yes h.ok)
noncomputable def pdC (s : ByteArray) : Int := if parI s < 0 then 5 else 0
noncomputable def pdV (s : ByteArray) : Int := if parI s < 0 then 0 else parI s
theorem pd_yes {s : ByteArray} {m : Int} (hz : s.size = 29) (h : Cand s m) : pdC s = 0 ∧ pdV s = parS s m := by
  have e := parI_yes hz h
  have b := h.bd
  unfold pdC pdV
  rw [e, if_neg (by omega), if_neg (by omega)]
  exact ⟨rfl, rfl⟩
theorem pd_no {s : ByteArray} (h : s.size = 29 → ∀ m, ¬ Cand s m) : pdC s = 5 ∧ pdV s = 0 := by
  have e := parI_no h
  unfold pdC pdV
  rw [e, if_pos (by omega), if_pos (by omega)]
  exact ⟨rfl, rfl⟩
theorem pd_or (s : ByteArray) : (s.size = 29 ∧ ∃ m, Cand s m) ∨ (s.size = 29 → ∀ m, ¬ Cand s m) := by
  by_cases h : s.size = 29 ∧ ∃ m, Cand s m
  · exact .inl h
  · exact .inr fun hz m hm => h ⟨hz, m, hm⟩
end Go.Proofs.YtgfbahjpaaanoaaGreatDoor
/-
  What heads allow, plainly.
-/
namespace Go.Proofs.YtgfbahjpaaanoaaGreatDoor
def max0 (x : Int) : Int := if x < 0 then 0 else x
def hasR (nm : ByteArray) (L : List Rec) : Bool := decide (0 ≤ findR nm 0 L)
/-- Seconds in a text, in thousandths. -/
def secD (s : ByteArray) : Int := max0 (numD s) * 1000
def secR (nm : ByteArray) (L : List Rec) : Int := if findR nm 0 L < 0 then 0 else match L[(findR nm 0 L).toNat]? with | some r => if r.has = true then secD r.value else 0 | none => 0
theorem findR_lt (nm : ByteArray) : ∀ (L : List Rec) (k : Nat), findR nm k L < ((k + L.length : Nat) : Int)
  | [], k => by simp [findR]; omega
  | r :: L, k => by
    rw [findR]
    split
    · simp only [List.length_cons]; omega
    · have := findR_lt nm L (k + 1)
      simp only [List.length_cons]
      omega
theorem numD_hi (s : ByteArray) : numD s ≤ 2147483648 := by
  cases h : okD s
  · rw [numD_no s h]; omega
  · rw [numD_yes s h]; exact (okD_bd s h).2
theorem max0_bd {x : Int} {m : Int} (h : x ≤ m) (hm : 0 ≤ m) : 0 ≤ max0 x ∧ max0 x ≤ m := by
  unfold max0
  split <;> omega
theorem secR_none {nm : ByteArray} {L : List Rec} (h : findR nm 0 L < 0) : secR nm L = 0 := by rw [secR, if_pos h]
theorem secR_at {nm : ByteArray} {L : List Rec} {k : Nat} {r : Rec} (h : findR nm 0 L = (k : Int)) (hr : L[k]? = some r) : secR nm L = if r.has = true then secD r.value else 0 := by
  rw [secR, if_neg (by omega), h, Int.toNat_natCast, hr]
theorem parI_bd (s : ByteArray) : -1 ≤ parI s ∧ parI s ≤ 253402300799 := by
  unfold parI
  split
  · rename_i h
    have := h.2.choose_spec.bd
    omega
  · omega
def expN : ByteArray := ⟨#[101, 120, 112, 105, 114, 101, 115]⟩
def datN : ByteArray := ⟨#[100, 97, 116, 101]⟩
def ageN : ByteArray := ⟨#[97, 103, 101]⟩
def ccN : ByteArray := ⟨#[99, 97, 99, 104, 101, 45, 99, 111, 110, 116, 114, 111, 108]⟩
theorem expS_low : lowS ⟨#[101, 120, 112, 105, 114, 101, 115]⟩ = expN := by decide +kernel
theorem datS_low : lowS ⟨#[100, 97, 116, 101]⟩ = datN := by decide +kernel
theorem ageS_low : lowS ⟨#[97, 103, 101]⟩ = ageN := by decide +kernel
theorem ccS_low : lowS ⟨#[99, 97, 99, 104, 101, 45, 99, 111, 110, 116, 114, 111, 108]⟩ = ccN := by decide +kernel
theorem expI_low : lowS ⟨#[69, 120, 112, 105, 114, 101, 115]⟩ = expN := by decide +kernel
theorem datI_low : lowS ⟨#[68, 97, 116, 101]⟩ = datN := by decide +kernel
theorem ageI_low : lowS ⟨#[65, 103, 101]⟩ = ageN := by decide +kernel
theorem ccI_low : lowS ⟨#[67, 97, 99, 104, 101, 45, 67, 111, 110, 116, 114, 111, 108]⟩ = ccN := by decide +kernel
theorem ccI_word : wordS ⟨#[67, 97, 99, 104, 101, 45, 67, 111, 110, 116, 114, 111, 108]⟩ = true := by decide +kernel
def kNoStore : ByteArray := ⟨#[110, 111, 45, 115, 116, 111, 114, 101]⟩
def kPrivate : ByteArray := ⟨#[112, 114, 105, 118, 97, 116, 101]⟩
def kNoCache : ByteArray := ⟨#[110, 111, 45, 99, 97, 99, 104, 101]⟩
def kMust : ByteArray := ⟨#[109, 117, 115, 116, 45, 114, 101, 118, 97, 108, 105, 100, 97, 116, 101]⟩
def kProxy : ByteArray := ⟨#[112, 114, 111, 120, 121, 45, 114, 101, 118, 97, 108, 105, 100, 97, 116, 101]⟩
def kSMax : ByteArray := ⟨#[115, 45, 109, 97, 120, 97, 103, 101]⟩
def kMax : ByteArray := ⟨#[109, 97, 120, 45, 97, 103, 101]⟩
def kSwr : ByteArray := ⟨#[115, 116, 97, 108, 101, 45, 119, 104, 105, 108, 101, 45, 114, 101, 118, 97, 108, 105, 100, 97, 116, 101]⟩
def kSie : ByteArray := ⟨#[115, 116, 97, 108, 101, 45, 105, 102, 45, 101, 114, 114, 111, 114]⟩
/-- What Expires and Date tell. -/
noncomputable def expX (eb db : Bool) (e d : Int) : Int := if eb = false then -1 else if db = false ∨ e < 0 ∨ d < 0 then 0 else max0 (e - d) * 1000
noncomputable def expD (l : List Hdr) : Int := expX (firstB expN l) (firstB datN l) (parI (firstV expN l)) (parI (firstV datN l))
def ageD (l : List Hdr) : Int := if firstB ageN l = true then secD (firstV ageN l) else 0
structure Pol where
  b0 : Bool
  b1 : Bool
  b2 : Bool
  l : Int
  s : Int
  e : Int
  g : Int
def mustR (L : List Rec) : Bool := hasR kMust L || hasR kProxy L || hasR kSMax L
def lifeR (L : List Rec) (x : Int) : Int := if hasR kSMax L = true then secR kSMax L else if hasR kMax L = true then secR kMax L else x
noncomputable def polOf (l : List Hdr) : Pol :=
  if parseC (underT ccN l) = 0 then
    ⟨hasR kNoStore (parseL (underT ccN l)) || hasR kPrivate (parseL (underT ccN l)), hasR kNoCache (parseL (underT ccN l)), mustR (parseL (underT ccN l)), lifeR (parseL (underT ccN l)) (expD l), if mustR (parseL (underT ccN l)) = true then 0 else secR kSwr (parseL (underT ccN l)), if mustR (parseL (underT ccN l)) = true then 0 else secR kSie (parseL (underT ccN l)), ageD l⟩
  else ⟨true, false, false, 0, 0, 0, ageD l⟩
end Go.Proofs.YtgfbahjpaaanoaaGreatDoor
/-
  What the model's l1Delta answers.
-/
namespace Go.Proofs.YtgfbahjpaaanoaaGreatDoor
open Go.ChangeShapes Go.WideShapes Go.ChangeAt Go.RowKit
set_option maxHeartbeats 400000 in
theorem l1Delta_size (s : ByteArray) (w : World) (h : s.size < 1 ∨ 64 < s.size) :
    Calls Tryz.prog 67 #[.string s] w fun e w' => e = .returned (.int .i64 (numD s)) ∧ w' = w := by
  rcases h with h | h
  · rw [numD_no s (okD_short s h)]
    have hh : (s.size : Int) < 1 := by omega
    go_enter Tryz.func67, Tryz.ntmps67
    go_wp2
    go_ret
    exact ⟨rfl, rfl⟩
  · rw [numD_no s (okD_long s h)]
    have hh : (64 : Int) < s.size := by omega
    have h1 : ¬ (s.size : Int) < 1 := by omega
    go_enter Tryz.func67, Tryz.ntmps67
    go_wp2
    go_ret
    exact ⟨rfl, rfl⟩
set_option maxHeartbeats 1000000 in
theorem l1Delta_any (s : ByteArray) (w : World) (h1 : 1 ≤ s.size) (h2 : s.size ≤ 64) :
    Calls Tryz.prog 67 #[.string s] w fun e w' => e = .returned (.int .i64 (numD s)) ∧ w' = w := by
  have g1 : ¬ (s.size : Int) < 1 := by omega
  have g2 : ¬ (64 : Int) < s.size := by omega
  go_enter Tryz.func67, Tryz.ntmps67
  go_wp2
  go_loop [3, 4] (fun n i => ∃ k : Nat, k ≤ s.size ∧ i = .int .i64 k ∧ allD (s.data.toList.take k) = true ∧ n = .int .i64 (valD (s.data.toList.take k))) (fun _ i => s.size - (intOf i).toNat)
  case atStart => exact ⟨0, Nat.zero_le _, rfl, rfl, rfl⟩
  case round =>
    obtain ⟨k, hk, rfl, hall, rfl⟩ := hrel
    have hd := valD_bd _ hall
    by_cases hlt : k < s.size
    · by_cases hdig : digB s[k] = true
      · have hb : 48 ≤ (s[k].toNat : Int) ∧ (s[k].toNat : Int) ≤ 57 := by simpa [digB] using hdig
        obtain ⟨hb1, hb2⟩ := hb
        have HS : Hid (valD (s.data.toList.take (k + 1)) = accD (valD (s.data.toList.take k)) s[k]) := by
          show _ = _
          rw [take_snoc s k hlt, valD_snoc]
        have HA : Hid (allD (s.data.toList.take (k + 1)) = true) := by
          show _ = _
          rw [take_snoc s k hlt, allD_snoc, hall, hdig]; rfl
        have d2 : decide ((s[k].toNat : Int) ≤ 57) = true := by simpa using hb2
        clear hdig hall
        generalize hv : valD (s.data.toList.take k) = n at *
        clear hv
        by_cases hm : n * 10 + ((s[k].toNat : Int) - 48) < 2147483648
        · have HE : Hid (valD (s.data.toList.take (k + 1)) = n * 10 + ((s[k].toNat : Int) - 48)) := by
            show _ = _
            rw [HS.out, accD, if_pos hm]
          go_wp2
          go_round
          case rel => exact ⟨k + 1, by omega, by go_num, HA.out, by rw [HE.out]; rfl⟩
          case measure => simp [intOf]; omega
        · have HE : Hid (valD (s.data.toList.take (k + 1)) = 2147483648) := by
            show _ = _
            rw [HS.out, accD, if_neg hm]
          go_wp2
          go_round
          case rel => exact ⟨k + 1, by omega, by go_num, HA.out, by rw [HE.out]; rfl⟩
          case measure => simp [intOf]; omega
      · have hf : digB s[k] = false := by simpa using hdig
        have HN : Hid (numD s = -1) := numD_no s (okD_not s k hlt hf)
        have hb : ¬ (48 ≤ (s[k].toNat : Int) ∧ (s[k].toNat : Int) ≤ 57) := by simpa [digB] using hdig
        clear hdig hf
        by_cases hb1 : 48 ≤ (s[k].toNat : Int)
        · have hb2 : 57 < (s[k].toNat : Int) := by omega
          have d2 : decide ((s[k].toNat : Int) ≤ 57) = false := by simp; omega
          clear hb hall hd
          go_wp2
          go_ret
          exact ⟨ret_int (by rw [HN.out]), rfl⟩
        · clear hb hall hd
          go_wp2
          go_ret
          exact ⟨ret_int (by rw [HN.out]), rfl⟩
    · have ek : s.data.toList.take k = s.data.toList := List.take_of_length_le (by simp; omega)
      rw [ek] at hall hd ⊢
      have HN : Hid (numD s = valD s.data.toList) := numD_yes s (okD_yes s h1 h2 hall)
      clear ek hall
      go_wp2
      go_ret
      exact ⟨ret_int (by rw [HN.out]), rfl⟩
end Go.Proofs.YtgfbahjpaaanoaaGreatDoor
/-
  What DeltaOf's model and DeltaOf itself answer, for any text; the law out of them.
-/
namespace Go.Proofs.YtgfbahjpaaanoaaGreatDoor
open Go.ChangeShapes Go.WideShapes Go.ChangeAt Go.RowKit
set_option maxHeartbeats 400000 in
theorem implDelta_size (s : ByteArray) (w : World) (h : s.size < 1 ∨ 64 < s.size) :
    Calls Tryz.prog 51 #[.string s] w fun e w' => e = .returned (.agg #[.int .i64 5, .int .i64 0]) ∧ Below w.heap.size w w' := by
  rcases h with h | h
  · have hh : (s.size : Int) < 1 := by omega
    go_enter Tryz.func51, Tryz.ntmps51
    go_wp2
    exact bodyPost_ret (v := .agg #[.int .i64 5, .int .i64 0]) (by simp [results, Tryz.results51, go_sem]) rfl ⟨rfl, (Below.refl _ _).alloc (Nat.le_refl _) _⟩
  · have hh : (64 : Int) < s.size := by omega
    have h1 : ¬ (s.size : Int) < 1 := by omega
    go_enter Tryz.func51, Tryz.ntmps51
    go_wp2
    exact bodyPost_ret (v := .agg #[.int .i64 5, .int .i64 0]) (by simp [results, Tryz.results51, go_sem]) rfl ⟨rfl, (Below.refl _ _).alloc (Nat.le_refl _) _⟩
def dC (s : ByteArray) : Int := if okD s = true then 0 else 5
def dV (s : ByteArray) : Int := if okD s = true then valD s.data.toList else 0
theorem dC_no {s : ByteArray} (h : okD s = false) : dC s = 5 := by simp [dC, h]
theorem dV_no {s : ByteArray} (h : okD s = false) : dV s = 0 := by simp [dV, h]
theorem dC_yes {s : ByteArray} (h : okD s = true) : dC s = 0 := by simp [dC, h]
theorem dV_yes {s : ByteArray} (h : okD s = true) : dV s = valD s.data.toList := by simp [dV, h]
set_option maxHeartbeats 1000000 in
theorem implDelta_any (s : ByteArray) (w : World) (h1 : 1 ≤ s.size) (h2 : s.size ≤ 64) :
    Calls Tryz.prog 51 #[.string s] w fun e w' => e = .returned (.agg #[.int .i64 (dC s), .int .i64 (dV s)]) ∧ Below w.heap.size w w' := by
  have g1 : ¬ (s.size : Int) < 1 := by omega
  have g2 : ¬ (64 : Int) < s.size := by omega
  go_enter Tryz.func51, Tryz.ntmps51
  go_wp2
  go_loop [3, 16] (fun n i => ∃ k : Nat, k ≤ s.size ∧ i = .int .i64 k ∧ allD (s.data.toList.take k) = true ∧ n = .int .i64 (valD (s.data.toList.take k))) (fun _ i => s.size - (intOf i).toNat)
  case atStart => exact ⟨0, Nat.zero_le _, rfl, rfl, rfl⟩
  case round =>
    obtain ⟨k, hk, rfl, hall, rfl⟩ := hrel
    have hd := valD_bd _ hall
    by_cases hlt : k < s.size
    · by_cases hdig : digB s[k] = true
      · have hb : 48 ≤ (s[k].toNat : Int) ∧ (s[k].toNat : Int) ≤ 57 := by simpa [digB] using hdig
        obtain ⟨hb1, hb2⟩ := hb
        have HS : Hid (valD (s.data.toList.take (k + 1)) = accD (valD (s.data.toList.take k)) s[k]) := by
          show _ = _
          rw [take_snoc s k hlt, valD_snoc]
        have HA : Hid (allD (s.data.toList.take (k + 1)) = true) := by
          show _ = _
          rw [take_snoc s k hlt, allD_snoc, hall, hdig]; rfl
        have d2 : decide ((s[k].toNat : Int) ≤ 57) = true := by simpa using hb2
        clear hdig hall
        generalize hv : valD (s.data.toList.take k) = n at *
        clear hv
        by_cases hm : n * 10 + ((s[k].toNat : Int) - 48) < 2147483648
        · have HE : Hid (valD (s.data.toList.take (k + 1)) = n * 10 + ((s[k].toNat : Int) - 48)) := by
            show _ = _
            rw [HS.out, accD, if_pos hm]
          go_wp2
          go_round
          case rel => exact ⟨k + 1, by omega, by go_num, HA.out, by first | (rw [HE.out]; done) | (rw [HE.out]; congr 1; first | omega | (simp only [Int.min_def]; split <;> omega))⟩
          case measure => simp [intOf]; omega
        · have HE : Hid (valD (s.data.toList.take (k + 1)) = 2147483648) := by
            show _ = _
            rw [HS.out, accD, if_neg hm]
          go_wp2
          go_round
          case rel => exact ⟨k + 1, by omega, by go_num, HA.out, by rw [HE.out]; congr 1; first | (split <;> omega) | omega | (simp only [Int.min_def]; split <;> omega)⟩
          case measure => simp [intOf]; omega
      · have hf : digB s[k] = false := by simpa using hdig
        have ho := okD_not s k hlt hf
        have HO : Hid (okD s = false) := ho
        have hb : ¬ (48 ≤ (s[k].toNat : Int) ∧ (s[k].toNat : Int) ≤ 57) := by simpa [digB] using hdig
        clear hdig hf ho
        by_cases hb1 : 48 ≤ (s[k].toNat : Int)
        · have hb2 : 57 < (s[k].toNat : Int) := by omega
          have d2 : decide ((s[k].toNat : Int) ≤ 57) = false := by simp; omega
          clear hb hall hd
          go_wp2
          exact bodyPost_ret (v := .agg #[.int .i64 5, .int .i64 0]) (by simp [results, Tryz.results51, go_sem]) rfl ⟨by rw [dC_no HO.out, dV_no HO.out], (Below.refl _ _).alloc (Nat.le_refl _) _⟩
        · clear hb hall hd
          go_wp2
          exact bodyPost_ret (v := .agg #[.int .i64 5, .int .i64 0]) (by simp [results, Tryz.results51, go_sem]) rfl ⟨by rw [dC_no HO.out, dV_no HO.out], (Below.refl _ _).alloc (Nat.le_refl _) _⟩
    · have ek : s.data.toList.take k = s.data.toList := List.take_of_length_le (by simp; omega)
      rw [ek] at hall hd ⊢
      have ho := okD_yes s h1 h2 hall
      have HO : Hid (okD s = true) := ho
      clear ek hall ho
      go_wp2
      exact bodyPost_ret (v := .agg #[.int .i64 0, .int .i64 (valD s.data.toList)]) (by simp [results, Tryz.results51, go_sem]) rfl ⟨by rw [dC_yes HO.out, dV_yes HO.out], (Below.refl _ _).alloc (Nat.le_refl _) _⟩
theorem implDelta (s : ByteArray) (w : World) :
    Calls Tryz.prog 51 #[.string s] w fun e w' => e = .returned (.agg #[.int .i64 (dC s), .int .i64 (dV s)]) ∧ Below w.heap.size w w' := by
  by_cases c : s.size < 1 ∨ 64 < s.size
  · have h : okD s = false := by
      rcases c with c | c
      · exact okD_short s c
      · exact okD_long s c
    rw [dC_no h, dV_no h]; exact implDelta_size s w c
  · exact implDelta_any s w (by omega) (by omega)
end Go.Proofs.YtgfbahjpaaanoaaGreatDoor
/-
  Two digits, on the model's side.
-/
namespace Go.Proofs.YtgfbahjpaaanoaaGreatDoor
open Go.ChangeShapes Go.WideShapes Go.ChangeAt Go.RowKit
theorem dg_nat {x : Int} (h0 : 0 ≤ x) (h1 : x < 10) : ((dg x).toNat : Int) = 48 + x := by
  unfold dg
  rw [UInt8.toNat_ofNat_of_lt' (by show 48 + x.toNat < 256; omega)]
  omega
theorem two_bytes (a b : Int) (x y : UInt8) (hx : (x.toNat : Int) = a) (hy : (y.toNat : Int) = b) (W : World) (B cap : Nat) (h0 : W.cell? ⟨B, 0, none⟩ = some (.int .u8 a)) (h1 : W.cell? ⟨B, 1, none⟩ = some (.int .u8 b)) :
    (convert 22 9 (.slice (some ⟨B, 0, none⟩) 2 cap)).run Tryz.prog W = .ok (.string ⟨#[x, y]⟩) W := by
  have := run_convert_bytes_back (P := Tryz.prog) W 22 9 5 ⟨B, 0, none⟩ cap [x, y] Tryz.underlying22 Tryz.underlying5 Tryz.underlying9 (fun j hj => by
    have hj2 : j = 0 ∨ j = 1 := by simp at hj; omega
    rcases hj2 with rfl | rfl
    · simp [Addr.add, h0, hx]
    · simp [Addr.add, h1, hy])
  simpa using this
set_option maxHeartbeats 1000000 in
theorem l3Two_any (n : Int) (h0 : 0 ≤ n) (h1 : n ≤ 9999) (w : World) :
    Calls Tryz.prog 147 #[.int .i64 n] w fun e w' => e = .returned (.string (two n)) ∧ Below w.heap.size w w' := by
  have hcv := two_bytes (48 + n / 10 % 10) (48 + n % 10) (dg (n / 10 % 10)) (dg (n % 10)) (dg_nat (by omega) (by omega)) (dg_nat (by omega) (by omega))
  have HT : Hid ((⟨#[dg (n / 10 % 10), dg (n % 10)]⟩ : ByteArray) = two n) := rfl
  generalize (⟨#[dg (n / 10 % 10), dg (n % 10)]⟩ : ByteArray) = r at *
  have e1 : IntKind.u8.wrap (48 + n / 10 % 10) = 48 + n / 10 % 10 := by rw [IntKind.wrap_u8]; omega
  have e2 : IntKind.u8.wrap (48 + n % 10) = 48 + n % 10 := by rw [IntKind.wrap_u8]; omega
  go_enter Tryz.func147, Tryz.ntmps147
  go_wp2_with fail
  go_ret
  exact ⟨ret_str HT.out, (Below.refl _ _).alloc (Nat.le_refl _) _⟩
theorem add_step (a b : ByteArray) (h : a.size + b.size ≤ 1000) : ∃ c, Hid (c = a ++ b) ∧ c.size = a.size + b.size ∧ ∀ w, (Op.stringOp .add a b).run Tryz.prog w = .ok (.string c) w :=
  ⟨a ++ b, rfl, ByteArray.size_append, fun w => run_string_add_sum (P := Tryz.prog) (w := w) a b (by omega)⟩
end Go.Proofs.YtgfbahjpaaanoaaGreatDoor
/-
  What the calendar's small functions answer, on both sides.
-/
namespace Go.Proofs.YtgfbahjpaaanoaaGreatDoor
open Go.ChangeShapes Go.WideShapes Go.ChangeAt Go.RowKit
set_option maxHeartbeats 400000 in
theorem l1In_yes (v lo hi : Int) (w : World) (h1 : lo ≤ v) (h2 : v ≤ hi) :
    Calls Tryz.prog 36 #[.int .i64 v, .int .i64 lo, .int .i64 hi] w fun e w' => e = .returned (.bool true) ∧ w' = w := by
  have d2 : decide (v ≤ hi) = true := by simpa using h2
  go_enter Tryz.func36, Tryz.ntmps36
  go_wp2
  go_ret
  exact ⟨rfl, rfl⟩
set_option maxHeartbeats 400000 in
theorem l1In_no (v lo hi : Int) (w : World) (h : v < lo ∨ hi < v) :
    Calls Tryz.prog 36 #[.int .i64 v, .int .i64 lo, .int .i64 hi] w fun e w' => e = .returned (.bool false) ∧ w' = w := by
  by_cases c : v < lo
  · clear h
    go_enter Tryz.func36, Tryz.ntmps36
    go_wp2
    go_ret
    exact ⟨rfl, rfl⟩
  · have c2 : hi < v := by omega
    have d2 : decide (v ≤ hi) = false := by simpa using c2
    clear h
    go_enter Tryz.func36, Tryz.ntmps36
    go_wp2
    go_ret
    exact ⟨rfl, rfl⟩
set_option maxHeartbeats 400000 in
theorem specLeap_any (y : Int) (w : World) (h0 : 0 ≤ y) (h1 : y ≤ 100000) :
    Calls Tryz.prog 176 #[.int .i64 y] w fun e w' => e = .returned (.bool (leap y)) ∧ w' = w := by
  by_cases c4 : y % 4 = 0
  · by_cases c1 : y % 100 = 0
    · by_cases c5 : y % 400 = 0
      · have HL : Hid (leap y = true) := by simp [Hid, leap, c4, c1, c5]
        go_enter Tryz.func176, Tryz.ntmps176
        go_wp2
        go_ret
        exact ⟨ret_bool (by simp [HL.out, *]), rfl⟩
      · have HL : Hid (leap y = false) := by simp [Hid, leap, c4, c1, c5]
        go_enter Tryz.func176, Tryz.ntmps176
        go_wp2
        go_ret
        exact ⟨ret_bool (by simp [HL.out, *]), rfl⟩
    · have HL : Hid (leap y = true) := by simp [Hid, leap, c4, c1]
      go_enter Tryz.func176, Tryz.ntmps176
      go_wp2
      go_ret
      exact ⟨ret_bool (by simp [HL.out, *]), rfl⟩
  · have HL : Hid (leap y = false) := by simp [Hid, leap, c4]
    go_enter Tryz.func176, Tryz.ntmps176
    go_wp2
    go_ret
    exact ⟨ret_bool (by simp [HL.out, *]), rfl⟩
set_option maxHeartbeats 400000 in
theorem implLeap_any (y : Int) (w : World) (h0 : 0 ≤ y) (h1 : y ≤ 100000) :
    Calls Tryz.prog 171 #[.int .i64 y] w fun e w' => e = .returned (.bool (leap y)) ∧ w' = w := by
  by_cases c4 : y % 4 = 0
  · by_cases c1 : y % 100 = 0
    · by_cases c5 : y % 400 = 0
      · have HL : Hid (leap y = true) := by simp [Hid, leap, c4, c1, c5]
        go_enter Tryz.func171, Tryz.ntmps171
        go_wp2
        go_ret
        exact ⟨ret_bool (by simp [HL.out, *]), rfl⟩
      · have HL : Hid (leap y = false) := by simp [Hid, leap, c4, c1, c5]
        go_enter Tryz.func171, Tryz.ntmps171
        go_wp2
        go_ret
        exact ⟨ret_bool (by simp [HL.out, *]), rfl⟩
    · have HL : Hid (leap y = true) := by simp [Hid, leap, c4, c1]
      go_enter Tryz.func171, Tryz.ntmps171
      go_wp2
      go_ret
      exact ⟨ret_bool (by simp [HL.out, *]), rfl⟩
  · have HL : Hid (leap y = false) := by simp [Hid, leap, c4]
    go_enter Tryz.func171, Tryz.ntmps171
    go_wp2
    go_ret
    exact ⟨ret_bool (by simp [HL.out, *]), rfl⟩
set_option maxHeartbeats 1000000 in
theorem specMonth_any (y m : Int) (w : World) (h0 : 0 ≤ y) (h1 : y ≤ 100000) (hm0 : 1 ≤ m) (hm1 : m ≤ 12) :
    Calls Tryz.prog 162 #[.int .i64 y, .int .i64 m] w fun e w' => e = .returned (.int .i64 (mlen y m)) ∧ w' = w := by
  by_cases h2 : m = 2
  · subst h2
    have HL := specLeap_any y w h0 h1
    have HM : Hid (mlen y 2 = if leap y = true then 29 else 28) := by simp [Hid, mlen]
    go_enter Tryz.func162, Tryz.ntmps162
    go_wp2_with fail
    refine HL.mono ?_
    rintro e w1 ⟨rfl, rfl⟩
    cases hl : leap y
    · go_wp2
      go_ret
      exact ⟨ret_int (by rw [HM.out, hl]; rfl), rfl⟩
    · go_wp2
      go_ret
      exact ⟨ret_int (by rw [HM.out, hl]; rfl), rfl⟩
  · rcases months hm0 hm1 with rfl | rfl | rfl | rfl | rfl | rfl | rfl | rfl | rfl | rfl | rfl | rfl
    all_goals first
      | exact absurd rfl h2
      | (clear h2
         go_enter Tryz.func162, Tryz.ntmps162
         go_wp2
         go_ret
         exact ⟨ret_int (by simp [mlen]), rfl⟩)
set_option maxHeartbeats 1000000 in
theorem implMonth_any (y m : Int) (w : World) (h0 : 0 ≤ y) (h1 : y ≤ 100000) (hm0 : 1 ≤ m) (hm1 : m ≤ 12) :
    Calls Tryz.prog 158 #[.int .i64 y, .int .i64 m] w fun e w' => e = .returned (.int .i64 (mlen y m)) ∧ w' = w := by
  by_cases h2 : m = 2
  · subst h2
    have HL := implLeap_any y w h0 h1
    have HM : Hid (mlen y 2 = if leap y = true then 29 else 28) := by simp [Hid, mlen]
    go_enter Tryz.func158, Tryz.ntmps158
    go_wp2_with fail
    refine HL.mono ?_
    rintro e w1 ⟨rfl, rfl⟩
    cases hl : leap y
    · go_wp2
      go_ret
      exact ⟨ret_int (by rw [HM.out, hl]; rfl), rfl⟩
    · go_wp2
      go_ret
      exact ⟨ret_int (by rw [HM.out, hl]; rfl), rfl⟩
  · rcases months hm0 hm1 with rfl | rfl | rfl | rfl | rfl | rfl | rfl | rfl | rfl | rfl | rfl | rfl
    all_goals first
      | exact absurd rfl h2
      | (clear h2
         go_enter Tryz.func158, Tryz.ntmps158
         go_wp2
         go_ret
         exact ⟨ret_int (by simp [mlen]), rfl⟩)
set_option maxHeartbeats 1000000 in
theorem specDay_any (y m d : Int) (w : World) :
    Calls Tryz.prog 145 #[.int .i64 y, .int .i64 m, .int .i64 d] w fun e w' => e = .returned (.bool (dayB y m d)) ∧ w' = w := by
  by_cases cy : y < 1970 ∨ 9999 < y
  · have HB : Hid (dayB y m d = false) := by
      show _ = _
      cases k : dayB y m d
      · rfl
      · have := dayB_yes k; have := this.y0; have := (dayB_yes k).y1; omega
    have H := l1In_no y 1970 9999 w cy
    clear cy
    go_enter Tryz.func145, Tryz.ntmps145
    go_wp2_with fail
    refine H.mono ?_
    rintro e w1 ⟨rfl, rfl⟩
    go_wp2
    go_ret
    exact ⟨ret_bool (by rw [HB.out]), rfl⟩
  by_cases cm : m < 1 ∨ 12 < m
  · have HB : Hid (dayB y m d = false) := by
      show _ = _
      cases k : dayB y m d
      · rfl
      · have := dayB_yes k; have := this.m0; have := (dayB_yes k).m1; omega
    have H := l1In_yes y 1970 9999 w (by omega) (by omega)
    have H2 : Hid (∀ w, Calls Tryz.prog 36 #[.int .i64 m, .int .i64 1, .int .i64 12] w fun e w' => e = .returned (.bool false) ∧ w' = w) := fun w => l1In_no m 1 12 w cm
    clear cy cm
    go_enter Tryz.func145, Tryz.ntmps145
    go_wp2_with fail
    refine H.mono ?_
    rintro e w1 ⟨rfl, rfl⟩
    go_wp2_with fail
    refine (H2.out _).mono ?_
    rintro e w1 ⟨rfl, rfl⟩
    go_wp2
    go_ret
    exact ⟨ret_bool (by rw [HB.out]), rfl⟩
  have H := l1In_yes y 1970 9999 w (by omega) (by omega)
  have H2 : Hid (∀ w, Calls Tryz.prog 36 #[.int .i64 m, .int .i64 1, .int .i64 12] w fun e w' => e = .returned (.bool true) ∧ w' = w) := fun w => l1In_yes m 1 12 w (by omega) (by omega)
  have H3 : Hid (∀ w, Calls Tryz.prog 162 #[.int .i64 y, .int .i64 m] w fun e w' => e = .returned (.int .i64 (mlen y m)) ∧ w' = w) := fun w => specMonth_any y m w (by omega) (by omega) (by omega) (by omega)
  have H4 : Hid (∀ w, Calls Tryz.prog 36 #[.int .i64 d, .int .i64 1, .int .i64 (mlen y m)] w fun e w' => e = .returned (.bool (dayB y m d)) ∧ w' = w) := by
    intro w
    cases k : dayB y m d
    · have := dayB_no k
      refine l1In_no d 1 _ w ?_
      rcases Int.lt_or_le d 1 with h | h
      · exact .inl h
      · rcases Int.lt_or_le (mlen y m) d with h2 | h2
        · exact .inr h2
        · exact absurd ⟨by omega, by omega, by omega, by omega, h, h2⟩ this
    · have k2 := dayB_yes k
      exact l1In_yes d 1 _ w k2.d0 k2.d1
  clear cy cm
  go_enter Tryz.func145, Tryz.ntmps145
  go_wp2_with fail
  refine H.mono ?_
  rintro e w1 ⟨rfl, rfl⟩
  go_wp2_with fail
  refine (H2.out _).mono ?_
  rintro e w1 ⟨rfl, rfl⟩
  go_wp2_with fail
  refine (H3.out _).mono ?_
  rintro e w1 ⟨rfl, rfl⟩
  go_wp2_with fail
  refine (H4.out _).mono ?_
  rintro e w1 ⟨rfl, rfl⟩
  go_wp2
  go_ret
  exact ⟨rfl, rfl⟩
set_option maxHeartbeats 1000000 in
theorem implDay_any (y m d : Int) (w : World) :
    Calls Tryz.prog 156 #[.int .i64 y, .int .i64 m, .int .i64 d] w fun e w' => e = .returned (.bool (dayB y m d)) ∧ w' = w := by
  by_cases cy0 : y < 1970
  · have HB : Hid (dayB y m d = false) := by
      show _ = _
      cases k : dayB y m d
      · rfl
      · have := (dayB_yes k).y0; omega
    go_enter Tryz.func156, Tryz.ntmps156
    go_wp2
    go_ret
    exact ⟨ret_bool (by rw [HB.out]), rfl⟩
  by_cases cy1 : 9999 < y
  · have HB : Hid (dayB y m d = false) := by
      show _ = _
      cases k : dayB y m d
      · rfl
      · have := (dayB_yes k).y1; omega
    go_enter Tryz.func156, Tryz.ntmps156
    go_wp2
    go_ret
    exact ⟨ret_bool (by rw [HB.out]), rfl⟩
  by_cases cm0 : m < 1
  · have HB : Hid (dayB y m d = false) := by
      show _ = _
      cases k : dayB y m d
      · rfl
      · have := (dayB_yes k).m0; omega
    go_enter Tryz.func156, Tryz.ntmps156
    go_wp2
    go_ret
    exact ⟨ret_bool (by rw [HB.out]), rfl⟩
  by_cases cm1 : 12 < m
  · have HB : Hid (dayB y m d = false) := by
      show _ = _
      cases k : dayB y m d
      · rfl
      · have := (dayB_yes k).m1; omega
    go_enter Tryz.func156, Tryz.ntmps156
    go_wp2
    go_ret
    exact ⟨ret_bool (by rw [HB.out]), rfl⟩
  by_cases cd0 : d < 1
  · have HB : Hid (dayB y m d = false) := by
      show _ = _
      cases k : dayB y m d
      · rfl
      · have := (dayB_yes k).d0; omega
    go_enter Tryz.func156, Tryz.ntmps156
    go_wp2
    go_ret
    exact ⟨ret_bool (by rw [HB.out]), rfl⟩
  have H3 : Hid (∀ w, Calls Tryz.prog 158 #[.int .i64 y, .int .i64 m] w fun e w' => e = .returned (.int .i64 (mlen y m)) ∧ w' = w) := fun w => implMonth_any y m w (by omega) (by omega) (by omega) (by omega)
  have HB : Hid (decide (d ≤ mlen y m) = dayB y m d) := by
    show _ = _
    have e1 : decide (1970 ≤ y) = true := by simp; omega
    have e2 : decide (y ≤ 9999) = true := by simp; omega
    have e3 : decide (1 ≤ m) = true := by simp; omega
    have e4 : decide (m ≤ 12) = true := by simp; omega
    have e5 : decide (1 ≤ d) = true := by simp; omega
    simp only [dayB, e1, e2, e3, e4, e5, Bool.true_and]
  generalize hx : mlen y m = x at *
  clear hx
  go_enter Tryz.func156, Tryz.ntmps156
  go_wp2_with fail
  refine (H3.out _).mono ?_
  rintro e w1 ⟨rfl, rfl⟩
  go_wp2
  go_ret
  exact ⟨ret_bool (by rw [← HB.out]), rfl⟩
end Go.Proofs.YtgfbahjpaaanoaaGreatDoor
/-
  The days ahead of a year and of a date, on both sides.
-/
namespace Go.Proofs.YtgfbahjpaaanoaaGreatDoor
open Go.ChangeShapes Go.WideShapes Go.ChangeAt Go.RowKit
set_option maxHeartbeats 400000 in
theorem implLeaps_any (y : Int) (w : World) (h0 : 0 ≤ y) (h1 : y ≤ 100000) :
    Calls Tryz.prog 170 #[.int .i64 y] w fun e w' => e = .returned (.int .i64 (y / 4 - y / 100 + y / 400)) ∧ w' = w := by
  go_enter Tryz.func170, Tryz.ntmps170
  go_wp2
  go_ret
  exact ⟨ret_int (by omega), rfl⟩
set_option maxHeartbeats 400000 in
theorem implAhead_any (y : Int) (w : World) (h0 : 1970 ≤ y) (h1 : y ≤ 10001) :
    Calls Tryz.prog 157 #[.int .i64 y] w fun e w' => e = .returned (.int .i64 (ahead y)) ∧ w' = w := by
  have H1 : Hid (∀ w, Calls Tryz.prog 170 #[.int .i64 (y - 1)] w fun e w' => e = .returned (.int .i64 ((y - 1) / 4 - (y - 1) / 100 + (y - 1) / 400)) ∧ w' = w) := fun w => implLeaps_any _ w (by omega) (by omega)
  have H2 : Hid (∀ w, Calls Tryz.prog 170 #[.int .i64 1969] w fun e w' => e = .returned (.int .i64 477) ∧ w' = w) := fun w => implLeaps_any 1969 w (by omega) (by omega)
  have HA : Hid (ahead y = 365 * (y - 1970) + ((y - 1) / 4 - (y - 1) / 100 + (y - 1) / 400) - 477) := rfl
  have hx : 0 ≤ (y - 1) / 4 - (y - 1) / 100 + (y - 1) / 400 ∧ (y - 1) / 4 - (y - 1) / 100 + (y - 1) / 400 ≤ 100000 := by omega
  generalize (y - 1) / 4 - (y - 1) / 100 + (y - 1) / 400 = x at *
  obtain ⟨hx0, hx1⟩ := hx
  go_enter Tryz.func157, Tryz.ntmps157
  go_wp2_with fail
  refine (H1.out _).mono ?_
  rintro e w1 ⟨rfl, rfl⟩
  go_wp2_with fail
  refine (H2.out _).mono ?_
  rintro e w1 ⟨rfl, rfl⟩
  go_wp2
  go_ret
  exact ⟨ret_int (by rw [HA.out]), rfl⟩
set_option maxHeartbeats 400000 in
theorem specYear_any (y : Int) (w : World) (h0 : 0 ≤ y) (h1 : y ≤ 100000) :
    Calls Tryz.prog 163 #[.int .i64 y] w fun e w' => e = .returned (.int .i64 (ylen y)) ∧ w' = w := by
  have H := specLeap_any y w h0 h1
  have HM : Hid (ylen y = if leap y = true then 366 else 365) := by simp [Hid, ylen]
  go_enter Tryz.func163, Tryz.ntmps163
  go_wp2_with fail
  refine H.mono ?_
  rintro e w1 ⟨rfl, rfl⟩
  cases hl : leap y
  · go_wp2
    go_ret
    exact ⟨ret_int (by rw [HM.out, hl]; rfl), rfl⟩
  · go_wp2
    go_ret
    exact ⟨ret_int (by rw [HM.out, hl]; rfl), rfl⟩
set_option maxHeartbeats 1000000 in
theorem specDays_any (y m d : Int) (w : World) (h : DayOk y m d) :
    Calls Tryz.prog 148 #[.int .i64 y, .int .i64 m, .int .i64 d] w fun e w' => e = .returned (.int .i64 (daysD y m d)) ∧ w' = w := by
  obtain ⟨hy0, hy1, hm0, hm1, hd0, hd1⟩ := h
  have hd2 : d ≤ 31 := by have := mlen_bd y m; omega
  have HD : Hid (daysD y m d = d - 1 + ahead y + msum y m) := by show _ = _; unfold daysD; omega
  clear hd1
  go_enter Tryz.func148, Tryz.ntmps148
  go_wp2
  go_loop [7, 8] (fun n x => ∃ k : Int, 1970 ≤ k ∧ k ≤ y ∧ x = .int .i64 k ∧ n = .int .i64 (d - 1 + ahead k)) (fun _ x => (y - intOf x).toNat)
  case atStart => exact ⟨1970, by omega, hy0, rfl, by rw [ahead_first]; congr 1; omega⟩
  case round =>
    obtain ⟨k, hk0, hk1, rfl, rfl⟩ := hrel
    by_cases hlt : k < y
    · have H := specYear_any k
      have HA : Hid (ahead (k + 1) = ahead k + ylen k) := ahead_succ k
      have ⟨ha0, ha1⟩ := ahead_bd hk0 (by omega)
      have ⟨hl0, hl1⟩ := ylen_bd k
      generalize ylen k = l at *
      generalize ahead k = a at *
      go_wp2_with fail
      refine (H _ (by omega) (by omega)).mono ?_
      rintro e w1 ⟨rfl, rfl⟩
      clear H
      go_wp2
      go_round
      case rel => exact ⟨k + 1, by omega, by omega, by go_num, by rw [HA.out]; congr 1; omega⟩
      case measure => simp [intOf]; omega
    · obtain rfl : k = y := by omega
      have ⟨ha0, ha1⟩ := ahead_bd hk0 (by omega)
      generalize ahead k = a at *
      go_wp2
      go_loop [7, 9] (fun n x => ∃ j : Int, 1 ≤ j ∧ j ≤ m ∧ x = .int .i64 j ∧ n = .int .i64 (d - 1 + a + msum k j)) (fun _ x => (m - intOf x).toNat)
      case atStart => exact ⟨1, by omega, hm0, rfl, by rw [msum_first]; congr 1; omega⟩
      case round =>
        obtain ⟨j, hj0, hj1, rfl, rfl⟩ := hrel
        have hs0 := msum_mono k (a := 1) (b := j) (by omega) (by omega) (by omega)
        have hs1 := msum_mono k (a := j) (b := 13) (by omega) (by omega) (by omega)
        rw [msum_first] at hs0
        rw [msum_end] at hs1
        have hs2 := (ylen_bd k).2
        have hs3 : msum k j ≤ 366 := by omega
        clear hs1 hs2
        by_cases hlt2 : j < m
        · have H := specMonth_any k j
          have HA : Hid (msum k (j + 1) = msum k j + mlen k j) := msum_succ k (by omega) (by omega)
          have ⟨hl0, hl1⟩ := mlen_bd k j
          generalize mlen k j = l at *
          generalize msum k j = b at *
          go_wp2_with fail
          refine (H _ (by omega) (by omega) (by omega) (by omega)).mono ?_
          rintro e w1 ⟨rfl, rfl⟩
          clear H
          go_wp2
          go_round
          case rel => exact ⟨j + 1, by omega, by omega, by go_num, by rw [HA.out]; congr 1; omega⟩
          case measure => simp [intOf]; omega
        · obtain rfl : j = m := by omega
          go_wp2
          go_ret
          exact ⟨ret_int (by rw [HD.out]), rfl⟩
end Go.Proofs.YtgfbahjpaaanoaaGreatDoor
/-
  DateAt, on both sides.
-/
namespace Go.Proofs.YtgfbahjpaaanoaaGreatDoor
open Go.ChangeShapes Go.WideShapes Go.ChangeAt Go.RowKit
theorem ret_date {n y m d h i s : Int} (k : DateOk y m d h i s) (e : secsD y m d h i s = n) :
    Ending.returned (.agg #[.int .i64 y, .int .i64 m, .int .i64 d, .int .i64 h, .int .i64 i, .int .i64 s]) = .returned (.agg #[.int .i64 (dY n), .int .i64 (dM n), .int .i64 (dD n), .int .i64 (dH n), .int .i64 (dI n), .int .i64 (dS n)]) := by
  obtain ⟨e1, e2, e3, e4, e5, e6⟩ := date_is k e
  rw [← e1, ← e2, ← e3, ← e4, ← e5, ← e6]
theorem ret_date0 {n y m d h i s : Int} (k : DateOk y m d h i s) (e : secsD y m d h i s = n) :
    Ending.returned (.agg #[.int .i64 0, .int .i64 y, .int .i64 m, .int .i64 d, .int .i64 h, .int .i64 i, .int .i64 s]) = .returned (.agg #[.int .i64 0, .int .i64 (dY n), .int .i64 (dM n), .int .i64 (dD n), .int .i64 (dH n), .int .i64 (dI n), .int .i64 (dS n)]) := by
  obtain ⟨e1, e2, e3, e4, e5, e6⟩ := date_is k e
  rw [← e1, ← e2, ← e3, ← e4, ← e5, ← e6]
set_option maxHeartbeats 2000000 in
theorem specAt_any (n : Int) (w : World) (h0 : 0 ≤ n) (h1 : n ≤ 253402300799) :
    Calls Tryz.prog 146 #[.int .i64 n] w fun e w' => e = .returned (.agg #[.int .i64 (dY n), .int .i64 (dM n), .int .i64 (dD n), .int .i64 (dH n), .int .i64 (dI n), .int .i64 (dS n)]) ∧ Below w.heap.size w w' := by
  have HR : Hid (∀ y m, 1970 ≤ y → ahead y ≤ n / 86400 → 1 ≤ m → m ≤ 12 → msum y m ≤ n / 86400 - ahead y → n / 86400 - ahead y < msum y m + mlen y m →
      Ending.returned (.agg #[.int .i64 y, .int .i64 m, .int .i64 (n / 86400 - ahead y - msum y m + 1), .int .i64 (n % 86400 / 3600), .int .i64 (n % 86400 / 60 % 60), .int .i64 (n % 86400 % 60)]) = .returned (.agg #[.int .i64 (dY n), .int .i64 (dM n), .int .i64 (dD n), .int .i64 (dH n), .int .i64 (dI n), .int .i64 (dS n)])) := by
    intro y m a b c d e f
    have := date_at h0 h1 a b c d e f
    exact ret_date this.1 this.2
  obtain ⟨D, hD, hD0, hD1⟩ : ∃ D : Int, n / 86400 = D ∧ 0 ≤ D ∧ D ≤ 2932896 := ⟨_, rfl, by omega, by omega⟩
  obtain ⟨R, hR, hR0, hR1⟩ : ∃ R : Int, n % 86400 = R ∧ 0 ≤ R ∧ R < 86400 := ⟨_, rfl, by omega, by omega⟩
  rw [hD, hR] at HR
  go_enter Tryz.func146, Tryz.ntmps146
  go_wp2
  rw [hD, hR]
  clear hD hR
  go_loop [3, 5] (fun dd yy => ∃ k : Int, 1970 ≤ k ∧ k ≤ 9999 ∧ ahead k ≤ D ∧ yy = .int .i64 k ∧ dd = .int .i64 (D - ahead k)) (fun _ yy => (10000 - intOf yy).toNat)
  case atStart => exact ⟨1970, by omega, by omega, by rw [ahead_first]; exact hD0, rfl, by rw [ahead_first]; congr 1; omega⟩
  case round =>
    obtain ⟨k, hk0, hk1, hk2, rfl, rfl⟩ := hrel
    have H := specYear_any k
    have HA : Hid (ahead (k + 1) = ahead k + ylen k) := ahead_succ k
    have HX : Hid (k = 9999 → ahead (k + 1) = 2932897) := fun e => by subst e; exact ahead_end
    have ⟨hl0, hl1⟩ := ylen_bd k
    have ⟨ha0, ha1⟩ := ahead_bd hk0 (by omega)
    have HE := msum_end k
    generalize ylen k = l at *
    have HZ : Hid (∀ x, ahead k = x → x = ahead k) := fun x h => h.symm
    generalize hak : ahead k = a at *
    go_wp2_with fail
    refine (H _ (by omega) (by omega)).mono ?_
    rintro e w1 ⟨rfl, rfl⟩
    by_cases hlt : D - a < l
    · clear H
      go_wp2
      go_loop [3, 6] (fun dd mm => ∃ j : Int, 1 ≤ j ∧ j ≤ 12 ∧ msum k j ≤ D - a ∧ mm = .int .i64 j ∧ dd = .int .i64 (D - a - msum k j)) (fun _ mm => (13 - intOf mm).toNat)
      case atStart => exact ⟨1, by omega, by omega, by rw [msum_first]; omega, rfl, by rw [msum_first]; congr 1; omega⟩
      case round =>
        obtain ⟨j, hj0, hj1, hj2, rfl, rfl⟩ := hrel
        have H := specMonth_any k j
        have HS : Hid (msum k (j + 1) = msum k j + mlen k j) := msum_succ k hj0 hj1
        have HY : Hid (j = 12 → msum k (j + 1) = l) := fun e => by subst e; exact HE
        have HQ := HR.out k j hk0 (by omega) hj0 hj1 (by omega)
        have hs0 := msum_mono k (a := 1) (b := j) (by omega) (by omega) (by omega)
        rw [msum_first] at hs0
        rw [hak] at HQ
        have HQ2 : Hid _ := HQ
        clear HQ
        have ⟨hl2, hl3⟩ := mlen_bd k j
        generalize mlen k j = q at *
        generalize msum k j = b at *
        go_wp2_with fail
        refine (H _ (by omega) (by omega) (by omega) (by omega)).mono ?_
        rintro e w1 ⟨rfl, rfl⟩
        by_cases hlt2 : D - a - b < q
        · clear H
          go_wp2
          exact bodyPost_ret (v := .agg #[.int .i64 k, .int .i64 j, .int .i64 (D - a - b + 1), .int .i64 (R / 3600), .int .i64 (R / 60 % 60), .int .i64 (R % 60)]) (by simp [results, Tryz.results146, go_sem]) rfl ⟨HQ2.out (by omega), (Below.refl _ _).alloc (Nat.le_refl _) _⟩
        · have hj3 : j < 12 := by
            rcases Int.lt_or_le j 12 with z | z
            · exact z
            · have := HY.out (by omega); have := HS.out; omega
          go_wp2_with fail
          refine (H _ (by omega) (by omega) (by omega) (by omega)).mono ?_
          rintro e w1 ⟨rfl, rfl⟩
          clear H
          go_wp2
          go_round
          case rel => exact ⟨j + 1, by omega, by omega, by rw [HS.out]; omega, by go_num, by rw [HS.out]; congr 1; omega⟩
          case measure => simp [intOf]; omega
    · have hk3 : k < 9999 := by
        rcases Int.lt_or_le k 9999 with z | z
        · exact z
        · have := HX.out (by omega); have := HA.out; omega
      go_wp2_with fail
      refine (H _ (by omega) (by omega)).mono ?_
      rintro e w1 ⟨rfl, rfl⟩
      clear H
      go_wp2
      go_round
      case rel => exact ⟨k + 1, by omega, by omega, by rw [HA.out]; omega, by go_num, by rw [HA.out]; congr 1; omega⟩
      case measure => simp [intOf]; omega
end Go.Proofs.YtgfbahjpaaanoaaGreatDoor
/-
  A date, and a code with a number, in memory.
-/
namespace Go.Proofs.YtgfbahjpaaanoaaGreatDoor
open Go.ChangeShapes Go.WideShapes Go.ChangeAt Go.RowKit
/-- A date in memory. -/
structure DateAtB (w : World) (b : Nat) (y m d h i s : Int) : Prop where
  c0 : w.cell? ⟨b, 0, none⟩ = some (.int .i64 y)
  c1 : w.cell? ⟨b, 1, none⟩ = some (.int .i64 m)
  c2 : w.cell? ⟨b, 2, none⟩ = some (.int .i64 d)
  c3 : w.cell? ⟨b, 3, none⟩ = some (.int .i64 h)
  c4 : w.cell? ⟨b, 4, none⟩ = some (.int .i64 i)
  c5 : w.cell? ⟨b, 5, none⟩ = some (.int .i64 s)
  fr : ∀ o, w.frozen? ⟨b, o, none⟩ = false
theorem DateAtB.keep {w w' : World} {b : Nat} {y m d h i s : Int} (k : DateAtB w b y m d h i s) (hb : Below w.heap.size w w') : DateAtB w' b y m d h i s := by
  obtain ⟨c0, c1, c2, c3, c4, c5, fr⟩ := k
  have hl := block_lt_of_cell c0
  exact ⟨by rw [hb.cell (p := ⟨b, 0, none⟩) hl, c0], by rw [hb.cell (p := ⟨b, 1, none⟩) hl, c1], by rw [hb.cell (p := ⟨b, 2, none⟩) hl, c2], by rw [hb.cell (p := ⟨b, 3, none⟩) hl, c3], by rw [hb.cell (p := ⟨b, 4, none⟩) hl, c4], by rw [hb.cell (p := ⟨b, 5, none⟩) hl, c5], fun o => by rw [hb.frozen (p := ⟨b, o, none⟩) hl, fr]⟩
theorem set_get {w : World} {B o o' : Nat} {u v : Value} (h : w.cell? ⟨B, o, none⟩ = some u) : (w.setCell ⟨B, o', none⟩ v).cell? ⟨B, o, none⟩ = some (if o = o' then v else u) := by
  by_cases e : o = o'
  · subst e; rw [World.cell?_setCell_same _ _ _ h]; simp
  · rw [World.cell?_setCell_other _ _ _ _ (by intro h; have := congrArg Addr.off h; simp at this; omega), h]; simp [e]
theorem DateAtB.set0 {w : World} {b : Nat} {y m d h i s : Int} (k : DateAtB w b y m d h i s) (x : Int) : DateAtB (w.setCell ⟨b, 0, none⟩ (.int .i64 x)) b x m d h i s :=
  ⟨by rw [set_get k.c0]; rfl, by rw [set_get k.c1]; rfl, by rw [set_get k.c2]; rfl, by rw [set_get k.c3]; rfl, by rw [set_get k.c4]; rfl, by rw [set_get k.c5]; rfl, fun o => by rw [World.frozen?_setCell, k.fr]⟩
theorem DateAtB.set1 {w : World} {b : Nat} {y m d h i s : Int} (k : DateAtB w b y m d h i s) (x : Int) : DateAtB (w.setCell ⟨b, 1, none⟩ (.int .i64 x)) b y x d h i s :=
  ⟨by rw [set_get k.c0]; rfl, by rw [set_get k.c1]; rfl, by rw [set_get k.c2]; rfl, by rw [set_get k.c3]; rfl, by rw [set_get k.c4]; rfl, by rw [set_get k.c5]; rfl, fun o => by rw [World.frozen?_setCell, k.fr]⟩
theorem DateAtB.set2 {w : World} {b : Nat} {y m d h i s : Int} (k : DateAtB w b y m d h i s) (x : Int) : DateAtB (w.setCell ⟨b, 2, none⟩ (.int .i64 x)) b y m x h i s :=
  ⟨by rw [set_get k.c0]; rfl, by rw [set_get k.c1]; rfl, by rw [set_get k.c2]; rfl, by rw [set_get k.c3]; rfl, by rw [set_get k.c4]; rfl, by rw [set_get k.c5]; rfl, fun o => by rw [World.frozen?_setCell, k.fr]⟩
theorem DateAtB.set3 {w : World} {b : Nat} {y m d h i s : Int} (k : DateAtB w b y m d h i s) (x : Int) : DateAtB (w.setCell ⟨b, 3, none⟩ (.int .i64 x)) b y m d x i s :=
  ⟨by rw [set_get k.c0]; rfl, by rw [set_get k.c1]; rfl, by rw [set_get k.c2]; rfl, by rw [set_get k.c3]; rfl, by rw [set_get k.c4]; rfl, by rw [set_get k.c5]; rfl, fun o => by rw [World.frozen?_setCell, k.fr]⟩
theorem DateAtB.set4 {w : World} {b : Nat} {y m d h i s : Int} (k : DateAtB w b y m d h i s) (x : Int) : DateAtB (w.setCell ⟨b, 4, none⟩ (.int .i64 x)) b y m d h x s :=
  ⟨by rw [set_get k.c0]; rfl, by rw [set_get k.c1]; rfl, by rw [set_get k.c2]; rfl, by rw [set_get k.c3]; rfl, by rw [set_get k.c4]; rfl, by rw [set_get k.c5]; rfl, fun o => by rw [World.frozen?_setCell, k.fr]⟩
theorem DateAtB.set5 {w : World} {b : Nat} {y m d h i s : Int} (k : DateAtB w b y m d h i s) (x : Int) : DateAtB (w.setCell ⟨b, 5, none⟩ (.int .i64 x)) b y m d h i x :=
  ⟨by rw [set_get k.c0]; rfl, by rw [set_get k.c1]; rfl, by rw [set_get k.c2]; rfl, by rw [set_get k.c3]; rfl, by rw [set_get k.c4]; rfl, by rw [set_get k.c5]; rfl, fun o => by rw [World.frozen?_setCell, k.fr]⟩
theorem DateAtB.other {w : World} {b b' o' : Nat} {v : Value} {y m d h i s : Int} (k : DateAtB w b y m d h i s) (hn : b ≠ b') : DateAtB (w.setCell ⟨b', o', none⟩ v) b y m d h i s := by
  have e : ∀ o, (w.setCell ⟨b', o', none⟩ v).cell? ⟨b, o, none⟩ = w.cell? ⟨b, o, none⟩ := fun o => World.cell?_setCell_other _ _ _ _ (by intro h; have := congrArg Addr.block h; simp at this; omega)
  exact ⟨by rw [e, k.c0], by rw [e, k.c1], by rw [e, k.c2], by rw [e, k.c3], by rw [e, k.c4], by rw [e, k.c5], fun o => by rw [World.frozen?_setCell, k.fr]⟩
theorem dateAtB_new (w : World) (y m d h i s : Int) (t : TypeId) : DateAtB (w.alloc (.cells #[.int .i64 y, .int .i64 m, .int .i64 d, .int .i64 h, .int .i64 i, .int .i64 s] t)) w.heap.size y m d h i s :=
  ⟨by simp, by simp, by simp, by simp, by simp, by simp, fun o => by simp⟩
theorem ifield_val (c v : Int) (w : World) : (Instr.field 34 (.agg #[.int .i64 c, .int .i64 v]) 1).run Tryz.prog w = .ok (.int .i64 v) w := by kernel_rfl
/-- A code and a number in memory. -/
structure Room2 (w : World) (b : Nat) (c v : Int) : Prop where
  c0 : w.cell? ⟨b, 0, none⟩ = some (.int .i64 c)
  c1 : w.cell? ⟨b, 1, none⟩ = some (.int .i64 v)
  f0 : w.frozen? ⟨b, 0, none⟩ = false
  f1 : w.frozen? ⟨b, 1, none⟩ = false
theorem Room2.keep {w w' : World} {b : Nat} {c v : Int} (h : Room2 w b c v) (hb : Below w.heap.size w w') : Room2 w' b c v :=
  ⟨by rw [hb.cell (p := ⟨b, 0, none⟩) (block_lt_of_cell h.c0), h.c0], by rw [hb.cell (p := ⟨b, 1, none⟩) (block_lt_of_cell h.c1), h.c1], by rw [hb.frozen (p := ⟨b, 0, none⟩) (block_lt_of_cell h.c0), h.f0], by rw [hb.frozen (p := ⟨b, 1, none⟩) (block_lt_of_cell h.c1), h.f1]⟩
theorem room2_new (w : World) (c v : Int) (t : TypeId) : Room2 (w.alloc (.cells #[.int .i64 c, .int .i64 v] t)) w.heap.size c v := ⟨by simp, by simp, by simp, by simp⟩
end Go.Proofs.YtgfbahjpaaanoaaGreatDoor
/-
  The text of known seconds, on the model's side.
-/
namespace Go.Proofs.YtgfbahjpaaanoaaGreatDoor
open Go.ChangeShapes Go.WideShapes Go.ChangeAt Go.RowKit Go.Sort
theorem day_slice (x : Int) (h0 : 0 ≤ x) (h1 : x < 7) (w : World) :
    (Instr.slice 9 (.string dayNames) (some (.int .i64 (3 * x))) (some (.int .i64 (3 * x + 3))) none).run Tryz.prog w = .ok (.string (wdT x)) w :=
  run_slice_string (P := Tryz.prog) w 9 dayNames .i64 .i64 (3 * x) (3 * x + 3) Tryz.underlying9 (by omega) (by omega) (by show (3 * x + 3) ≤ ((21 : Nat) : Int); omega)
theorem mon_slice (m : Int) (h0 : 1 ≤ m) (h1 : m ≤ 12) (w : World) :
    (Instr.slice 9 (.string monNames) (some (.int .i64 (3 * m - 3))) (some (.int .i64 (3 * m))) none).run Tryz.prog w = .ok (.string (moT m)) w :=
  run_slice_string (P := Tryz.prog) w 9 monNames .i64 .i64 (3 * m - 3) (3 * m) Tryz.underlying9 (by omega) (by omega) (by show 3 * m ≤ ((36 : Nat) : Int); omega)
set_option maxRecDepth 100000 in
set_option maxHeartbeats 8000000 in
theorem l3Format_any (n : Int) (w : World) (h0 : 0 ≤ n) (h1 : n ≤ 253402300799) :
    Calls Tryz.prog 122 #[.int .i64 n] w fun e w' => e = .returned (.string (fmtT n)) ∧ Below w.heap.size w w' := by
  have HAT := specAt_any n w h0 h1
  have hk := date_ok h0 h1
  obtain ⟨⟨hy0, hy1, hm0, hm1, hd0, hd1⟩, hh0, hh1, hi0, hi1, hs0, hs1⟩ := hk
  have hd2 := (mlen_bd (dY n) (dM n)).2
  have HF : Hid (fmtT n = dateText ((n / 86400 + 4) % 7) (dY n) (dM n) (dD n) (dH n) (dI n) (dS n)) := rfl
  obtain ⟨x, hx, hx0, hx1⟩ : ∃ x : Int, Hid ((n / 86400 + 4) % 7 = x) ∧ 0 ≤ x ∧ x < 7 := ⟨_, rfl, by omega, by omega⟩
  rw [hx.out] at HF
  have hd3 : dD n ≤ 31 := by omega
  clear hd1 hd2
  generalize dY n = y at *
  generalize dM n = m at *
  generalize dD n = d at *
  generalize dH n = h at *
  generalize dI n = i at *
  generalize dS n = s at *
  have HE : Hid (dateText x y m d h i s = wdT x ++ ⟨#[44, 32]⟩ ++ two d ++ ⟨#[32]⟩ ++ moT m ++ ⟨#[32]⟩ ++ two (y / 100) ++ two y ++ ⟨#[32]⟩ ++ two h ++ ⟨#[58]⟩ ++ two i ++ ⟨#[58]⟩ ++ two s ++ ⟨#[32, 71, 77, 84]⟩) := rfl
  have hsd := day_slice x hx0 hx1
  have hsm := mon_slice m hm0 hm1
  have ztx := wdT_size hx0 hx1
  have ztm := moT_size hm0 hm1
  have ztD := two_size d
  have ztC := two_size (y / 100)
  have ztY := two_size y
  have ztH := two_size h
  have ztI := two_size i
  have ztS := two_size s
  have HT : Hid (∀ v w, 0 ≤ v → v ≤ 9999 → Calls Tryz.prog 147 #[.int .i64 v] w fun e w' => e = .returned (.string (two v)) ∧ Below w.heap.size w w') := fun v w a b => l3Two_any v a b w
  generalize wdT x = tx at *
  generalize moT m = tm at *
  have zkc1 : (⟨#[44, 32]⟩ : ByteArray).size = 2 := rfl
  obtain ⟨c1, Ec1, zc1, rc1⟩ := add_step tx ⟨#[44, 32]⟩ (by omega)
  obtain ⟨c2, Ec2, zc2, rc2⟩ := add_step c1 (two d) (by omega)
  have zkc3 : (⟨#[32]⟩ : ByteArray).size = 1 := rfl
  obtain ⟨c3, Ec3, zc3, rc3⟩ := add_step c2 ⟨#[32]⟩ (by omega)
  obtain ⟨c4, Ec4, zc4, rc4⟩ := add_step c3 tm (by omega)
  have zkc5 : (⟨#[32]⟩ : ByteArray).size = 1 := rfl
  obtain ⟨c5, Ec5, zc5, rc5⟩ := add_step c4 ⟨#[32]⟩ (by omega)
  obtain ⟨c6, Ec6, zc6, rc6⟩ := add_step c5 (two (y / 100)) (by omega)
  obtain ⟨c7, Ec7, zc7, rc7⟩ := add_step c6 (two y) (by omega)
  have zkc8 : (⟨#[32]⟩ : ByteArray).size = 1 := rfl
  obtain ⟨c8, Ec8, zc8, rc8⟩ := add_step c7 ⟨#[32]⟩ (by omega)
  obtain ⟨c9, Ec9, zc9, rc9⟩ := add_step c8 (two h) (by omega)
  have zkc10 : (⟨#[58]⟩ : ByteArray).size = 1 := rfl
  obtain ⟨c10, Ec10, zc10, rc10⟩ := add_step c9 ⟨#[58]⟩ (by omega)
  obtain ⟨c11, Ec11, zc11, rc11⟩ := add_step c10 (two i) (by omega)
  have zkc12 : (⟨#[58]⟩ : ByteArray).size = 1 := rfl
  obtain ⟨c12, Ec12, zc12, rc12⟩ := add_step c11 ⟨#[58]⟩ (by omega)
  obtain ⟨c13, Ec13, zc13, rc13⟩ := add_step c12 (two s) (by omega)
  have zkc14 : (⟨#[32, 71, 77, 84]⟩ : ByteArray).size = 4 := rfl
  obtain ⟨c14, Ec14, zc14, rc14⟩ := add_step c13 ⟨#[32, 71, 77, 84]⟩ (by omega)
  clear zkc1 zkc3 zkc5 zkc8 zkc10 zkc12 zkc14 zc1 zc2 zc3 zc4 zc5 zc6 zc7 zc8 zc9 zc10 zc11 zc12 zc13 zc14 ztx ztm ztD ztC ztY ztH ztI ztS
  go_enter Tryz.func122, Tryz.ntmps122
  go_wp2_with fail
  refine HAT.mono ?_
  rintro e w1 ⟨rfl, hb1⟩
  obtain ⟨W, hW⟩ : ∃ W, W = w1.alloc (.cells #[.int .i64 y, .int .i64 m, .int .i64 d, .int .i64 h, .int .i64 i, .int .i64 s] 145) := ⟨_, rfl⟩
  have KD : Hid (DateAtB W w1.heap.size y m d h i s) := by subst hW; exact dateAtB_new w1 y m d h i s _
  have KB : Hid (Below w.heap.size w W) := by subst hW; exact hb1.alloc hb1.size _
  have HWW : Hid (W = w1.alloc (.cells #[.int .i64 y, .int .i64 m, .int .i64 d, .int .i64 h, .int .i64 i, .int .i64 s] 145)) := hW
  clear hW hb1 HAT
  go_wp2_with fail
  rw [← HWW.out, hx.out]
  clear HWW
  unfold dayNames at hsd
  unfold monNames at hsm
  generalize (⟨#[83, 117, 110, 77, 111, 110, 84, 117, 101, 87, 101, 100, 84, 104, 117, 70, 114, 105, 83, 97, 116]⟩ : ByteArray) = DN at *
  generalize (⟨#[74, 97, 110, 70, 101, 98, 77, 97, 114, 65, 112, 114, 77, 97, 121, 74, 117, 110, 74, 117, 108, 65, 117, 103, 83, 101, 112, 79, 99, 116, 78, 111, 118, 68, 101, 99]⟩ : ByteArray) = MN at *
  generalize w1.heap.size = B at *
  clear w1
  have q0 := cell_regrown KD.out.c0
  have q1 := cell_regrown KD.out.c1
  have q2 := cell_regrown KD.out.c2
  have q3 := cell_regrown KD.out.c3
  have q4 := cell_regrown KD.out.c4
  have q5 := cell_regrown KD.out.c5
  clear KD
  have cT : ∀ v d' os, 0 ≤ v → v ≤ 9999 → Calls Tryz.prog 147 #[.int .i64 v] (grow (redrawn W d') os) fun e w'' => e = .returned (.string (two v)) ∧ ∃ p : Regrown, w'' = grow (redrawn W p.d) p.os := fun v d' os a b => Calls.regrown_of (HT.out v _ a b)
  refine wp_region_quiet_below (by kernel_rfl) (by kernel_rfl) ?_
  repeat (go_big_quiet_step (first | (go_at_call 147; exact cT _ _ _ (by omega) (by omega))))
  refine wpQuiet_nil ?_
  intro W2 hW2
  have KB2 : Hid (Below w.heap.size w W2) := by
    obtain ⟨⟨d, os⟩, rfl⟩ := hW2
    exact KB.out.trans ((below_regrown W d os).mono KB.out.size)
  clear hW2 cT q0 q1 q2 q3 q4 q5
  go_wp2_with fail
  go_ret
  exact ⟨ret_str (by rw [HF.out, HE.out, Ec14.out, Ec13.out, Ec12.out, Ec11.out, Ec10.out, Ec9.out, Ec8.out, Ec7.out, Ec6.out, Ec5.out, Ec4.out, Ec3.out, Ec2.out, Ec1.out]), KB2.out⟩
end Go.Proofs.YtgfbahjpaaanoaaGreatDoor
/-
  What the model's l1Digits answers: the decimal digits of a number.
-/
namespace Go.Proofs.YtgfbahjpaaanoaaGreatDoor
open Go.ChangeShapes Go.WideShapes Go.ChangeAt Go.RowKit
namespace num
/-- One byte in a slice of its own, as a text. -/
theorem one_byte (c : Int) (x : UInt8) (hx : (x.toNat : Int) = c) (W : World) (B cap : Nat) (hc : W.cell? ⟨B, 0, none⟩ = some (.int .u8 c)) :
    (convert 22 9 (.slice (some ⟨B, 0, none⟩) 1 cap)).run Tryz.prog W = .ok (.string ⟨#[x]⟩) W := by
  have := run_convert_bytes_back (P := Tryz.prog) W 22 9 5 ⟨B, 0, none⟩ cap [x] Tryz.underlying22 Tryz.underlying5 Tryz.underlying9 (fun j hj => by
    obtain rfl : j = 0 := by simp at hj; omega
    simp [Addr.add, hc, hx])
  simpa using this
theorem dig_nat (d : Nat) (h : d < 10) : ((UInt8.ofNat (48 + d)).toNat : Int) = 48 + (d : Int) := by
  rw [UInt8.toNat_ofNat_of_lt' (by show 48 + d < 256; omega)]; omega
end num
end Go.Proofs.YtgfbahjpaaanoaaGreatDoor
/-
  What NumberText and its model answer; the law of NumberText out of them.
-/
namespace Go.Proofs.YtgfbahjpaaanoaaGreatDoor
open Go.ChangeShapes Go.WideShapes Go.ChangeAt Go.RowKit
namespace num
/-- The library's table of powers of ten lies in memory. -/
def PowIs (w : World) : Prop := Lib.TabIs Tryz.prog w "internal/strconv.uint64pow10" .u64 Lib.pow10Tab
theorem powNamed : Tryz.prog.globalNamed "internal/strconv.uint64pow10" = some 4 := by kernel_rfl
theorem PowIs.below {w w' : World} (h : PowIs w) (hb : Below w.heap.size w w') : PowIs w' := by
  unfold PowIs Lib.TabIs at h ⊢
  refine var?_below hb powNamed ?_ h
  unfold World.var? at h
  rw [powNamed] at h
  simp only [Option.bind_some] at h
  cases hh : w.heap[4]? with
  | none => rw [hh] at h; cases h
  | some o => exact (Array.getElem?_eq_some_iff.1 hh).1
def numT (n : Int) : ByteArray := ⟨(Lib.itoa n).toArray⟩
theorem format_lib (n : Int) (h0 : 0 ≤ n) (h1 : n ≤ 1000000000000000) (w : World) (h : PowIs w) :
    Calls Tryz.prog 139 #[.int .i64 n, .int .i64 10] w fun e w' => e = .returned (.string (numT n)) ∧ Below w.heap.size w w' := by
  refine (Any.strconv_FormatInt_10 Tryz.laysM173 n (by omega) (by omega) w h).mono ?_
  rintro e w' ⟨rfl, k, os, rfl⟩
  exact ⟨rfl, Lib.below_grow _ _ (Nat.le_refl _) _ _⟩
end num
end Go.Proofs.YtgfbahjpaaanoaaGreatDoor
/-
  The text of known seconds, on the program's side: its parts.
-/
namespace Go.Proofs.YtgfbahjpaaanoaaGreatDoor
open Go.ChangeShapes Go.WideShapes Go.ChangeAt Go.RowKit Go.Sort
open num
set_option maxHeartbeats 1000000 in
theorem nameAt_day (x : Int) (h0 : 0 ≤ x) (h1 : x < 7) (w : World) :
    Calls Tryz.prog 135 #[.string dayNames, .int .i64 x] w fun e w' => e = .returned (.string (wdT x)) ∧ w' = w := by
  have hs := day_slice x h0 h1
  generalize dayNames = N at *
  generalize wdT x = r at *
  go_enter Tryz.func135, Tryz.ntmps135
  go_wp2_with fail
  go_ret
  exact ⟨rfl, rfl⟩
theorem mon_slice0 (p : Int) (h0 : 0 ≤ p) (h1 : p ≤ 11) (w : World) :
    (Instr.slice 9 (.string monNames) (some (.int .i64 (3 * p))) (some (.int .i64 (3 * p + 3))) none).run Tryz.prog w = .ok (.string (moT (p + 1))) w := by
  have := run_slice_string (P := Tryz.prog) w 9 monNames .i64 .i64 (3 * p) (3 * p + 3) Tryz.underlying9 (by omega) (by omega) (by show (3 * p + 3) ≤ ((36 : Nat) : Int); omega)
  rw [this]
  unfold moT
  rw [show 3 * (p + 1) - 3 = 3 * p by omega, show 3 * (p + 1) = 3 * p + 3 by omega]
set_option maxHeartbeats 1000000 in
theorem nameAt_mon (p : Int) (h0 : 0 ≤ p) (h1 : p ≤ 11) (w : World) :
    Calls Tryz.prog 135 #[.string monNames, .int .i64 p] w fun e w' => e = .returned (.string (moT (p + 1))) ∧ w' = w := by
  have hs := mon_slice0 p h0 h1
  generalize monNames = N at *
  generalize moT (p + 1) = r at *
  go_enter Tryz.func135, Tryz.ntmps135
  go_wp2_with fail
  go_ret
  exact ⟨rfl, rfl⟩
set_option maxHeartbeats 1000000 in
theorem twoDigits_any (n : Int) (h0 : 0 ≤ n) (h1 : n < 100) (w : World) (hp : PowIs w) :
    Calls Tryz.prog 140 #[.int .i64 n] w fun e w' => e = .returned (.string (two n)) ∧ Below w.heap.size w w' := by
  have HL := format_lib n h0 (by omega) w hp
  by_cases c : n < 10
  · have hz := numTx_size h0 (by omega)
    have E : Hid ((⟨#[48]⟩ : ByteArray) ++ numT n = two n) := num_one h0 c
    have hz2 : (numT n).size ≤ 4 := hz
    clear hz
    generalize numT n = q at *
    have hadd := fun w => run_string_add_sum (P := Tryz.prog) (w := w) (⟨#[48]⟩ : ByteArray) q (by have : (⟨#[48]⟩ : ByteArray).size = 1 := rfl; omega)
    rw [E.out] at hadd
    generalize two n = r at *
    go_enter Tryz.func140, Tryz.ntmps140
    go_wp2_with fail
    refine HL.mono ?_
    rintro e w1 ⟨rfl, hb⟩
    have KB : Hid (Below w.heap.size w w1) := hb
    clear hb HL
    go_wp2_with fail
    go_ret
    exact ⟨rfl, KB.out⟩
  · have E : Hid (numT n = two n) := num_two (by omega) h1
    rw [E.out] at HL
    go_enter Tryz.func140, Tryz.ntmps140
    go_wp2_with fail
    refine HL.mono ?_
    rintro e w1 ⟨rfl, hb⟩
    have KB : Hid (Below w.heap.size w w1) := hb
    clear hb HL
    go_wp2_with fail
    go_ret
    exact ⟨rfl, KB.out⟩
def clockT (h i s : Int) : ByteArray := two h ++ ⟨#[58]⟩ ++ two i ++ ⟨#[58]⟩ ++ two s
theorem clockT_size (h i s : Int) : (clockT h i s).size = 8 := by
  unfold clockT
  simp only [ByteArray.size_append, two_size]
  rfl
set_option maxRecDepth 100000 in
set_option maxHeartbeats 4000000 in
theorem clockText_any (y m d h i s : Int) (h0 : 0 ≤ h) (h1 : h < 100) (i0 : 0 ≤ i) (i1 : i < 100) (s0 : 0 ≤ s) (s1 : s < 100) (w : World) (hp : PowIs w) :
    Calls Tryz.prog 141 #[.agg #[.int .i64 y, .int .i64 m, .int .i64 d, .int .i64 h, .int .i64 i, .int .i64 s]] w fun e w' => e = .returned (.string (clockT h i s)) ∧ Below w.heap.size w w' := by
  have HE : Hid (clockT h i s = two h ++ ⟨#[58]⟩ ++ two i ++ ⟨#[58]⟩ ++ two s) := rfl
  have zh := two_size h
  have zi := two_size i
  have zs := two_size s
  have zk : (⟨#[58]⟩ : ByteArray).size = 1 := rfl
  obtain ⟨c1, E1, z1, r1⟩ := add_step (two h) ⟨#[58]⟩ (by omega)
  obtain ⟨c2, E2, z2, r2⟩ := add_step c1 (two i) (by omega)
  obtain ⟨c3, E3, z3, r3⟩ := add_step c2 ⟨#[58]⟩ (by omega)
  obtain ⟨c4, E4, z4, r4⟩ := add_step c3 (two s) (by omega)
  clear z1 z2 z3 z4 zh zi zs zk
  have HP : Hid (PowIs w) := hp
  clear hp
  go_enter Tryz.func141, Tryz.ntmps141
  go_wp2_with fail
  obtain ⟨W, hW⟩ : ∃ W, W = w.alloc (.cells #[.int .i64 y, .int .i64 m, .int .i64 d, .int .i64 h, .int .i64 i, .int .i64 s] 145) := ⟨_, rfl⟩
  rw [← hW]
  have KD : Hid (DateAtB W w.heap.size y m d h i s) := by subst hW; exact dateAtB_new w y m d h i s _
  have KB : Hid (Below w.heap.size w W) := by subst hW; exact (Below.refl _ _).alloc (Nat.le_refl _) _
  have KP : Hid (PowIs W) := HP.out.below KB.out
  clear hW
  have q3 := cell_regrown KD.out.c3
  have q4 := cell_regrown KD.out.c4
  have q5 := cell_regrown KD.out.c5
  clear KD
  have cT : ∀ v d' os, 0 ≤ v → v < 100 → Calls Tryz.prog 140 #[.int .i64 v] (grow (redrawn W d') os) fun e w'' => e = .returned (.string (two v)) ∧ ∃ p : Regrown, w'' = grow (redrawn W p.d) p.os := fun v d' os a b => Calls.regrown_of (twoDigits_any v a b _ (KP.out.below (below_regrown W d' os)))
  refine wp_region_quiet_below (by kernel_rfl) (by kernel_rfl) ?_
  repeat (go_big_quiet_step (first | (go_at_call 140; exact cT _ _ _ (by omega) (by omega))))
  refine wpQuiet_nil ?_
  intro W2 hW2
  have KB2 : Hid (Below w.heap.size w W2) := by
    obtain ⟨⟨d, os⟩, rfl⟩ := hW2
    exact KB.out.trans ((below_regrown W d os).mono KB.out.size)
  clear hW2 cT q3 q4 q5
  go_wp2_with fail
  go_ret
  exact ⟨ret_str (by rw [HE.out, E4.out, E3.out, E2.out, E1.out]), KB2.out⟩
end Go.Proofs.YtgfbahjpaaanoaaGreatDoor
/-
  WeekdayOf, on both sides.
-/
namespace Go.Proofs.YtgfbahjpaaanoaaGreatDoor
open Go.ChangeShapes Go.WideShapes Go.ChangeAt Go.RowKit
def knownB (n : Int) : Bool := decide (0 ≤ n) && decide (n ≤ 253402300799)
theorem knownB_yes {n : Int} (h : knownB n = true) : 0 ≤ n ∧ n ≤ 253402300799 := by simpa [knownB] using h
theorem knownB_of {n : Int} (h0 : 0 ≤ n) (h1 : n ≤ 253402300799) : knownB n = true := by simp [knownB, h0, h1]
theorem knownB_no {n : Int} (h : knownB n = false) : n < 0 ∨ 253402300799 < n := by
  rcases Int.lt_or_le n 0 with k | k
  · exact .inl k
  · rcases Int.lt_or_le 253402300799 n with k2 | k2
    · exact .inr k2
    · rw [knownB_of k k2] at h; cases h
def kC (n : Int) : Int := if knownB n = true then 0 else 3
def wdV (n : Int) : Int := if knownB n = true then (n / 86400 + 4) % 7 else 0
theorem kC_yes {n : Int} (h : knownB n = true) : kC n = 0 := by simp [kC, h]
theorem kC_no {n : Int} (h : knownB n = false) : kC n = 3 := by simp [kC, h]
theorem wdV_yes {n : Int} (h : knownB n = true) : wdV n = (n / 86400 + 4) % 7 := by simp [wdV, h]
theorem wdV_no {n : Int} (h : knownB n = false) : wdV n = 0 := by simp [wdV, h]
set_option maxHeartbeats 400000 in
theorem implKnown_any (n : Int) (w : World) :
    Calls Tryz.prog 136 #[.int .i64 n] w fun e w' => e = .returned (.bool (knownB n)) ∧ w' = w := by
  cases k : knownB n
  · by_cases c : n < 0
    · go_enter Tryz.func136, Tryz.ntmps136
      go_wp2
      go_ret
      exact ⟨rfl, rfl⟩
    · have c2 : 253402300799 < n := by have := knownB_no k; omega
      have d2 : decide (n ≤ 253402300799) = false := by simpa using c2
      go_enter Tryz.func136, Tryz.ntmps136
      go_wp2
      go_ret
      exact ⟨rfl, rfl⟩
  · obtain ⟨h0, h1⟩ := knownB_yes k
    have d2 : decide (n ≤ 253402300799) = true := by simpa using h1
    go_enter Tryz.func136, Tryz.ntmps136
    go_wp2
    go_ret
    exact ⟨rfl, rfl⟩
set_option maxHeartbeats 1000000 in
theorem implWeek_any (n : Int) (w : World) :
    Calls Tryz.prog 138 #[.int .i64 n] w fun e w' => e = .returned (.agg #[.int .i64 (kC n), .int .i64 (wdV n)]) ∧ Below w.heap.size w w' := by
  have H : Hid (∀ w, Calls Tryz.prog 136 #[.int .i64 n] w fun e w' => e = .returned (.bool (knownB n)) ∧ w' = w) := implKnown_any n
  cases hk : knownB n
  · rw [kC_no hk, wdV_no hk]
    rw [hk] at H
    clear hk
    go_enter Tryz.func138, Tryz.ntmps138
    go_wp2_with fail
    refine (H.out _).mono ?_
    rintro e w1 ⟨rfl, rfl⟩
    go_wp2
    exact bodyPost_ret (v := .agg #[.int .i64 3, .int .i64 0]) (by simp [results, Tryz.results138, go_sem]) rfl ⟨rfl, (Below.refl _ _).alloc (Nat.le_refl _) _⟩
  · rw [kC_yes hk, wdV_yes hk]
    rw [hk] at H
    obtain ⟨h0, h1⟩ := knownB_yes hk
    clear hk
    go_enter Tryz.func138, Tryz.ntmps138
    go_wp2_with fail
    refine (H.out _).mono ?_
    rintro e w1 ⟨rfl, rfl⟩
    go_wp2
    exact bodyPost_ret (v := .agg #[.int .i64 0, .int .i64 ((n / 86400 + 4) % 7)]) (by simp [results, Tryz.results138, go_sem]) rfl ⟨rfl, (Below.refl _ _).alloc (Nat.le_refl _) _⟩
end Go.Proofs.YtgfbahjpaaanoaaGreatDoor
/-
  DateAt, on both sides.
-/
namespace Go.Proofs.YtgfbahjpaaanoaaGreatDoor
open Go.ChangeShapes Go.WideShapes Go.ChangeAt Go.RowKit
set_option maxHeartbeats 2000000 in
theorem yearOf_any (D : Int) (w : World) (hD0 : 0 ≤ D) (hD1 : D ≤ 2932896) :
    Calls Tryz.prog 159 #[.int .i64 D] w fun e w' => (∃ y : Int, e = .returned (.int .i64 y) ∧ 1970 ≤ y ∧ y ≤ 9999 ∧ ahead y ≤ D ∧ D < ahead y + ylen y) ∧ w' = w := by
  have HG : Hid (ahead (1970 + D / 366) ≤ D) := ahead_guess hD0
  go_enter Tryz.func159, Tryz.ntmps159
  go_wp2
  go_loop [3] (fun yy => ∃ k : Int, 1970 ≤ k ∧ k ≤ 9999 ∧ ahead k ≤ D ∧ yy = .int .i64 k) (fun yy => (10000 - intOf yy).toNat)
  case atStart =>
    refine ⟨1970 + D / 366, by omega, ?_, HG.out, by go_num⟩
    omega
  case round =>
    obtain ⟨k, hk0, hk1, hk2, rfl⟩ := hrel
    have H := implAhead_any (k + 1)
    have HA : Hid (ahead (k + 1) = ahead k + ylen k) := ahead_succ k
    have HX : Hid (k = 9999 → ahead (k + 1) = 2932897) := fun e => by subst e; exact ahead_end
    obtain ⟨a, hae⟩ : ∃ a, Hid (ahead (k + 1) = a) := ⟨_, rfl⟩
    rw [hae.out] at H HA HX
    go_wp2_with fail
    refine (H _ (by omega) (by omega)).mono ?_
    rintro e w1 ⟨rfl, rfl⟩
    clear H
    by_cases hlt : D < a
    · go_wp2
      go_ret
      exact ⟨⟨k, rfl, hk0, hk1, hk2, by have := HA.out; omega⟩, rfl⟩
    · have hk3 : k < 9999 := by
        rcases Int.lt_or_le k 9999 with z | z
        · exact z
        · have := HX.out (by omega); omega
      have hk4 : Hid (a ≤ D) := by show _ ≤ _; omega
      go_wp2
      go_round
      case rel => exact ⟨k + 1, by omega, by omega, by rw [hae.out]; exact hk4.out, by go_num⟩
      case measure => simp [intOf]; omega
set_option maxHeartbeats 2000000 in
theorem implAt_any (n : Int) (w : World) (h0 : 0 ≤ n) (h1 : n ≤ 253402300799) :
    Calls Tryz.prog 137 #[.int .i64 n] w fun e w' => e = .returned (.agg #[.int .i64 0, .int .i64 (dY n), .int .i64 (dM n), .int .i64 (dD n), .int .i64 (dH n), .int .i64 (dI n), .int .i64 (dS n)]) ∧ Below w.heap.size w w' := by
  have H0 : Hid (∀ w, Calls Tryz.prog 136 #[.int .i64 n] w fun e w' => e = .returned (.bool true) ∧ w' = w) := by
    have := implKnown_any n
    rw [knownB_of h0 h1] at this
    exact this
  have HR : Hid (∀ y m, 1970 ≤ y → ahead y ≤ n / 86400 → 1 ≤ m → m ≤ 12 → msum y m ≤ n / 86400 - ahead y → n / 86400 - ahead y < msum y m + mlen y m →
      Ending.returned (.agg #[.int .i64 0, .int .i64 y, .int .i64 m, .int .i64 (n / 86400 - ahead y - msum y m + 1), .int .i64 (n % 86400 / 3600), .int .i64 (n % 86400 % 3600 / 60), .int .i64 (n % 86400 % 60)]) = .returned (.agg #[.int .i64 0, .int .i64 (dY n), .int .i64 (dM n), .int .i64 (dD n), .int .i64 (dH n), .int .i64 (dI n), .int .i64 (dS n)])) := by
    intro y m a b c d e f
    have := date_at h0 h1 a b c d e f
    have e2 : n % 86400 % 3600 / 60 = n % 86400 / 60 % 60 := by omega
    rw [e2]
    exact ret_date0 this.1 this.2
  obtain ⟨D, hD, hD0, hD1⟩ : ∃ D : Int, n / 86400 = D ∧ 0 ≤ D ∧ D ≤ 2932896 := ⟨_, rfl, by omega, by omega⟩
  obtain ⟨R, hR, hR0, hR1⟩ : ∃ R : Int, n % 86400 = R ∧ 0 ≤ R ∧ R < 86400 := ⟨_, rfl, by omega, by omega⟩
  rw [hD, hR] at HR
  go_enter Tryz.func137, Tryz.ntmps137
  go_wp2_with fail
  refine (H0.out _).mono ?_
  rintro e w1 ⟨rfl, rfl⟩
  go_wp2_with fail
  rw [hD]
  refine (yearOf_any D _ hD0 hD1).mono ?_
  rintro e w1 ⟨⟨y, rfl, hy0, hy1, hy2, hy3⟩, rfl⟩
  have H := implAhead_any y
  have ⟨ha0, ha1⟩ := ahead_bd hy0 (by omega)
  have HE := msum_end y
  have HR2 := HR.out y
  obtain ⟨a, hae⟩ : ∃ a, Hid (ahead y = a) := ⟨_, rfl⟩
  rw [hae.out] at H ha0 ha1 hy2 hy3 HR2
  have ⟨hl0, hl1⟩ := ylen_bd y
  obtain ⟨l, hle⟩ : ∃ a, Hid (ylen y = a) := ⟨_, rfl⟩
  rw [hle.out] at hl0 hl1 HE hy3
  have HR3 : Hid _ := HR2
  clear HR HR2 H0
  go_wp2_with fail
  refine (H _ (by omega) (by omega)).mono ?_
  rintro e w1 ⟨rfl, rfl⟩
  clear H
  go_wp2
  try rw [hD]
  try rw [hR]
  clear hD hR
  go_loop [3, 6] (fun dd mm => ∃ j : Int, 1 ≤ j ∧ j ≤ 12 ∧ msum y j ≤ D - a ∧ mm = .int .i64 j ∧ dd = .int .i64 (D - a - msum y j)) (fun _ mm => (13 - intOf mm).toNat)
  case atStart => exact ⟨1, by omega, by omega, by rw [msum_first]; omega, rfl, by rw [msum_first]; congr 1; omega⟩
  case round =>
    obtain ⟨j, hj0, hj1, hj2, rfl, rfl⟩ := hrel
    have H := implMonth_any y j
    have HS : Hid (msum y (j + 1) = msum y j + mlen y j) := msum_succ y hj0 hj1
    have HY : Hid (j = 12 → msum y (j + 1) = l) := fun e => by subst e; exact HE
    have HQ2 : Hid _ := HR3.out j hy0 hy2 hj0 hj1 hj2
    have hs0 := msum_mono y (a := 1) (b := j) (by omega) (by omega) (by omega)
    rw [msum_first] at hs0
    have ⟨hl2, hl3⟩ := mlen_bd y j
    generalize mlen y j = q at *
    generalize msum y j = b at *
    go_wp2_with fail
    refine (H _ (by omega) (by omega) (by omega) (by omega)).mono ?_
    rintro e w1 ⟨rfl, rfl⟩
    by_cases hlt2 : D - a - b < q
    · clear H
      go_wp2
      exact bodyPost_ret (v := .agg #[.int .i64 0, .int .i64 y, .int .i64 j, .int .i64 (D - a - b + 1), .int .i64 (R / 3600), .int .i64 (R % 3600 / 60), .int .i64 (R % 60)]) (by simp [results, Tryz.results137, go_sem]) rfl ⟨HQ2.out (by omega), (Below.refl _ _).alloc (Nat.le_refl _) _⟩
    · have hj3 : j < 12 := by
        rcases Int.lt_or_le j 12 with z | z
        · exact z
        · have := HY.out (by omega); have := HS.out; omega
      go_wp2_with fail
      refine (H _ (by omega) (by omega) (by omega) (by omega)).mono ?_
      rintro e w1 ⟨rfl, rfl⟩
      clear H
      go_wp2
      go_round
      case rel => exact ⟨j + 1, by omega, by omega, by rw [HS.out]; omega, by go_num, by rw [HS.out]; congr 1; omega⟩
      case measure => simp [intOf]; omega
end Go.Proofs.YtgfbahjpaaanoaaGreatDoor
/-
  The text of known seconds, on the program's side.
-/
namespace Go.Proofs.YtgfbahjpaaanoaaGreatDoor
open Go.ChangeShapes Go.WideShapes Go.ChangeAt Go.RowKit Go.Sort
open num
theorem dfield_date (c y m d h i s : Int) (w : World) : (Instr.field 161 (.agg #[.int .i64 c, .int .i64 y, .int .i64 m, .int .i64 d, .int .i64 h, .int .i64 i, .int .i64 s]) 1).run Tryz.prog w = .ok (.agg #[.int .i64 y, .int .i64 m, .int .i64 d, .int .i64 h, .int .i64 i, .int .i64 s]) w := by kernel_rfl
/-- The room for a text. -/
structure TRoom (w : World) (b : Nat) (c : Int) (t : ByteArray) : Prop where
  c0 : w.cell? ⟨b, 0, none⟩ = some (.int .i64 c)
  c1 : w.cell? ⟨b, 1, none⟩ = some (.string t)
  f0 : w.frozen? ⟨b, 0, none⟩ = false
  f1 : w.frozen? ⟨b, 1, none⟩ = false
theorem TRoom.keep {w w' : World} {b : Nat} {c : Int} {t : ByteArray} (h : TRoom w b c t) (hb : Below w.heap.size w w') : TRoom w' b c t :=
  ⟨by rw [hb.cell (p := ⟨b, 0, none⟩) (block_lt_of_cell h.c0), h.c0], by rw [hb.cell (p := ⟨b, 1, none⟩) (block_lt_of_cell h.c1), h.c1], by rw [hb.frozen (p := ⟨b, 0, none⟩) (block_lt_of_cell h.c0), h.f0], by rw [hb.frozen (p := ⟨b, 1, none⟩) (block_lt_of_cell h.c1), h.f1]⟩
theorem troom_new (w : World) (c : Int) (s : ByteArray) (t : TypeId) : TRoom (w.alloc (.cells #[.int .i64 c, .string s] t)) w.heap.size c s := ⟨by simp, by simp, by simp, by simp⟩
theorem known_true {n : Int} (h0 : 0 ≤ n) (h1 : n ≤ 253402300799) (w : World) : Calls Tryz.prog 136 #[.int .i64 n] w fun e w' => e = .returned (.bool true) ∧ w' = w := by
  have := implKnown_any n w
  rw [knownB_of h0 h1] at this
  exact this
theorem week_known {n : Int} (h0 : 0 ≤ n) (h1 : n ≤ 253402300799) (w : World) : Calls Tryz.prog 138 #[.int .i64 n] w fun e w' => e = .returned (.agg #[.int .i64 0, .int .i64 ((n / 86400 + 4) % 7)]) ∧ Below w.heap.size w w' := by
  have := implWeek_any n w
  rw [kC_yes (knownB_of h0 h1), wdV_yes (knownB_of h0 h1)] at this
  exact this
theorem text_glue (x y m d h i s : Int) : wdT x ++ ⟨#[44, 32]⟩ ++ two d ++ ⟨#[32]⟩ ++ moT m ++ ⟨#[32]⟩ ++ (two (y / 100) ++ two y) ++ ⟨#[32]⟩ ++ clockT h i s ++ ⟨#[32, 71, 77, 84]⟩ = dateText x y m d h i s := by
  unfold dateText clockT
  simp only [ByteArray.append_assoc]
set_option maxRecDepth 100000 in
set_option maxHeartbeats 8000000 in
theorem implFormat_any (n : Int) (w : World) (h0 : 0 ≤ n) (h1 : n ≤ 253402300799) (hp : PowIs w) :
    Calls Tryz.prog 114 #[.int .i64 n] w fun e w' => e = .returned (.agg #[.int .i64 0, .string (fmtT n)]) ∧ Below w.heap.size w w' := by
  have HK := fun w => known_true h0 h1 w
  have HAT := fun w => implAt_any n w h0 h1
  have HW := fun w => week_known h0 h1 w
  have hk := date_ok h0 h1
  obtain ⟨⟨hy0, hy1, hm0, hm1, hd0, hd1⟩, hh0, hh1, hi0, hi1, hs0, hs1⟩ := hk
  have hd2 := (mlen_bd (dY n) (dM n)).2
  have HF : Hid (dateText ((n / 86400 + 4) % 7) (dY n) (dM n) (dD n) (dH n) (dI n) (dS n) = fmtT n) := rfl
  obtain ⟨x, hx, hx0, hx1⟩ : ∃ x : Int, (n / 86400 + 4) % 7 = x ∧ 0 ≤ x ∧ x < 7 := ⟨_, rfl, by omega, by omega⟩
  rw [hx] at HF HW
  have hd3 : dD n ≤ 31 := by omega
  clear hd1 hd2 hx
  generalize dY n = y at *
  generalize dM n = m at *
  generalize dD n = d at *
  generalize dH n = h at *
  generalize dI n = i at *
  generalize dS n = s at *
  generalize fmtT n = R at *
  have HE : Hid (wdT x ++ ⟨#[44, 32]⟩ ++ two d ++ ⟨#[32]⟩ ++ moT m ++ ⟨#[32]⟩ ++ (two (y / 100) ++ two y) ++ ⟨#[32]⟩ ++ clockT h i s ++ ⟨#[32, 71, 77, 84]⟩ = R) := by
    show _ = _
    rw [text_glue, HF.out]
  clear HF
  have HK2 : Hid (∀ w, Calls Tryz.prog 136 #[.int .i64 n] w fun e w' => e = .returned (.bool true) ∧ w' = w) := HK
  have HAT2 : Hid (∀ w, Calls Tryz.prog 137 #[.int .i64 n] w fun e w' => e = .returned (.agg #[.int .i64 0, .int .i64 y, .int .i64 m, .int .i64 d, .int .i64 h, .int .i64 i, .int .i64 s]) ∧ Below w.heap.size w w') := HAT
  have HW2 : Hid (∀ w, Calls Tryz.prog 138 #[.int .i64 n] w fun e w' => e = .returned (.agg #[.int .i64 0, .int .i64 x]) ∧ Below w.heap.size w w') := HW
  have HND : Hid (∀ w, Calls Tryz.prog 135 #[.string dayNames, .int .i64 x] w fun e w' => e = .returned (.string (wdT x)) ∧ w' = w) := nameAt_day x hx0 hx1
  have HNM : Hid (∀ w, Calls Tryz.prog 135 #[.string monNames, .int .i64 (m - 1)] w fun e w' => e = .returned (.string (moT m)) ∧ w' = w) := by
    have := nameAt_mon (m - 1) (by omega) (by omega)
    rw [show m - 1 + 1 = m by omega] at this
    exact this
  have HY : Hid (∀ w, PowIs w → Calls Tryz.prog 139 #[.int .i64 y, .int .i64 10] w fun e w' => e = .returned (.string (two (y / 100) ++ two y)) ∧ Below w.heap.size w w') := by
    intro w hp
    have := format_lib y (by omega) (by omega) w hp
    rw [show numT y = two (y / 100) ++ two y from num_year (by omega) (by omega)] at this
    exact this
  have HTW : Hid (∀ w, PowIs w → Calls Tryz.prog 140 #[.int .i64 d] w fun e w' => e = .returned (.string (two d)) ∧ Below w.heap.size w w') := fun w hp => twoDigits_any d (by omega) (by omega) w hp
  have HCL : Hid (∀ w, PowIs w → Calls Tryz.prog 141 #[.agg #[.int .i64 y, .int .i64 m, .int .i64 d, .int .i64 h, .int .i64 i, .int .i64 s]] w fun e w' => e = .returned (.string (clockT h i s)) ∧ Below w.heap.size w w') := fun w hp => clockText_any y m d h i s (by omega) (by omega) (by omega) (by omega) (by omega) (by omega) w hp
  clear HK HAT HW
  have zx := wdT_size hx0 hx1
  have zm := moT_size hm0 hm1
  have zd := two_size d
  have zy : (two (y / 100) ++ two y).size = 4 := by rw [ByteArray.size_append, two_size, two_size]
  have zc := clockT_size h i s
  generalize wdT x = tx at *
  generalize moT m = tm at *
  generalize two d = td at *
  generalize two (y / 100) ++ two y = ty at *
  generalize clockT h i s = tc at *
  have k1 : (⟨#[44, 32]⟩ : ByteArray).size = 2 := rfl
  have k2 : (⟨#[32]⟩ : ByteArray).size = 1 := rfl
  have k3 : (⟨#[32, 71, 77, 84]⟩ : ByteArray).size = 4 := rfl
  obtain ⟨c1, E1, z1, r1⟩ := add_step tx ⟨#[44, 32]⟩ (by omega)
  obtain ⟨c2, E2, z2, r2⟩ := add_step c1 td (by omega)
  obtain ⟨c3, E3, z3, r3⟩ := add_step c2 ⟨#[32]⟩ (by omega)
  obtain ⟨c4, E4, z4, r4⟩ := add_step c3 tm (by omega)
  obtain ⟨c5, E5, z5, r5⟩ := add_step c4 ⟨#[32]⟩ (by omega)
  obtain ⟨c6, E6, z6, r6⟩ := add_step c5 ty (by omega)
  obtain ⟨c7, E7, z7, r7⟩ := add_step c6 ⟨#[32]⟩ (by omega)
  obtain ⟨c8, E8, z8, r8⟩ := add_step c7 tc (by omega)
  obtain ⟨c9, E9, z9, r9⟩ := add_step c8 ⟨#[32, 71, 77, 84]⟩ (by omega)
  have HR : Hid (c9 = R) := by
    show _ = _
    rw [← HE.out, E9.out, E8.out, E7.out, E6.out, E5.out, E4.out, E3.out, E2.out, E1.out]
  clear z1 z2 z3 z4 z5 z6 z7 z8 z9 zx zm zd zy zc k1 k2 k3 HE E1 E2 E3 E4 E5 E6 E7 E8 E9
  have HP : Hid (PowIs w) := hp
  clear hp
  have hfd := dfield_date
  have hfv := ifield_val
  unfold dayNames at HND
  unfold monNames at HNM
  go_enter Tryz.func114, Tryz.ntmps114
  go_wp2_with fail
  refine (HK2.out _).mono ?_
  rintro e w0 ⟨rfl, rfl⟩
  go_wp2_with fail
  refine (HAT2.out _).mono ?_
  rintro e w1 ⟨rfl, hb1⟩
  have K1 : Hid (Below w.heap.size w w1 ∧ TRoom w1 w.heap.size 0 ⟨#[]⟩) := ⟨((Below.refl _ _).alloc (Nat.le_refl _) _).trans (hb1.mono (by simp)), (troom_new w 0 ⟨#[]⟩ 98).keep hb1⟩
  clear hb1
  go_wp2_with fail
  refine (HW2.out _).mono ?_
  rintro e w2 ⟨rfl, hb2⟩
  have K2 : Hid (Below w.heap.size w w2 ∧ TRoom w2 w.heap.size 0 ⟨#[]⟩ ∧ DateAtB w2 w1.heap.size y m d h i s) := ⟨(K1.out.1.alloc K1.out.1.size _).trans (hb2.mono (by have := K1.out.1.size; simp; omega)), (K1.out.2.keep ((Below.refl _ _).alloc (Nat.le_refl _) _)).keep hb2, (dateAtB_new w1 y m d h i s 145).keep hb2⟩
  have hwl : w.heap.size < w1.heap.size := block_lt_of_cell K1.out.2.c0
  clear hb2 K1
  generalize w1.heap.size = B at *
  clear w1
  go_wp2_with fail
  refine (HND.out _).mono ?_
  rintro e w3 ⟨rfl, rfl⟩
  obtain ⟨c0, cc1, cc2, cc3, cc4, cc5, fr⟩ := K2.out.2.2
  go_wp2_with fail
  refine (HNM.out _).mono ?_
  rintro e w4 ⟨rfl, rfl⟩
  go_wp2_with fail
  refine (HY.out _ (HP.out.below K2.out.1)).mono ?_
  rintro e w5 ⟨rfl, hb5⟩
  have K5 : Hid (Below w.heap.size w w5 ∧ TRoom w5 w.heap.size 0 ⟨#[]⟩ ∧ DateAtB w5 B y m d h i s) := ⟨K2.out.1.trans (hb5.mono K2.out.1.size), K2.out.2.1.keep hb5, K2.out.2.2.keep hb5⟩
  clear hb5 K2 c0 cc1 cc2 cc3 cc4 cc5 fr HK2 HAT2 HW2 HND HNM HY hfd hfv
  obtain ⟨c0, cc1, cc2, cc3, cc4, cc5, fr⟩ := K5.out.2.2
  obtain ⟨t0, t1, u0, u1⟩ := K5.out.2.1
  have hs5 := K5.out.1.size
  have PW : Hid (∀ W, Below w5.heap.size w5 W → PowIs W) := fun W hb => HP.out.below (K5.out.1.trans (hb.mono K5.out.1.size))
  go_wp2_with fail
  go_region_with (first
    | (go_at_call 140; refine (HTW.out _ (PW.out _ ((Below.refl w5.heap.size w5).drew))).mono ?_; rintro e wa ⟨rfl, hba⟩; have BA : Hid (Below w5.heap.size w5 wa) := ((Below.refl w5.heap.size w5).drew).trans hba; clear hba; obtain ⟨a0, a1, a2, a3, a4, a5, af⟩ := K5.out.2.2.keep BA.out; clear af)
    | (go_at_call 141; refine (HCL.out _ (PW.out _ BA.out)).mono ?_; rintro e wb ⟨rfl, hbb⟩; have BB : Hid (Below w5.heap.size w5 wb) := BA.out.trans (hbb.mono BA.out.size); clear hbb; obtain ⟨e0, e1, f0, f1⟩ := K5.out.2.1.keep BB.out))
  all_goals
    (go_wp2_with fail
     obtain ⟨z0, z1⟩ := two_set (v0 := .int .i64 0) (v1 := .string c9) e0 e1
     exact bodyPost_ret (v := .agg #[.int .i64 0, .string c9]) (by simp [results, Tryz.results114, go_sem, z0, z1]) rfl ⟨by rw [HR.out], ((K5.out.1.trans (BB.out.mono K5.out.1.size)).setCell (Nat.le_refl _) _).setCell (Nat.le_refl _) _⟩)
end Go.Proofs.YtgfbahjpaaanoaaGreatDoor
/-
  FormatDate on both sides, and its law.
-/
namespace Go.Proofs.YtgfbahjpaaanoaaGreatDoor
open Go.ChangeShapes Go.WideShapes Go.ChangeAt Go.RowKit
open num
noncomputable def fdT (n : Int) : ByteArray := if knownB n = true then fmtT n else ⟨#[]⟩
theorem fdT_yes {n : Int} (h : knownB n = true) : fdT n = fmtT n := by simp [fdT, h]
theorem fdT_no {n : Int} (h : knownB n = false) : fdT n = ⟨#[]⟩ := by simp [fdT, h]
set_option maxHeartbeats 1000000 in
theorem implFormatDate (n : Int) (w : World) (hp : PowIs w) :
    Calls Tryz.prog 114 #[.int .i64 n] w fun e w' => e = .returned (.agg #[.int .i64 (kC n), .string (fdT n)]) ∧ Below w.heap.size w w' := by
  cases hk : knownB n
  · have H : Hid (∀ w, Calls Tryz.prog 136 #[.int .i64 n] w fun e w' => e = .returned (.bool (knownB n)) ∧ w' = w) := implKnown_any n
    rw [kC_no hk, fdT_no hk]
    rw [hk] at H
    clear hk hp
    go_enter Tryz.func114, Tryz.ntmps114
    go_wp2_with fail
    refine (H.out _).mono ?_
    rintro e w1 ⟨rfl, rfl⟩
    go_wp2
    exact bodyPost_ret (v := .agg #[.int .i64 3, .string ⟨#[]⟩]) (by simp [results, Tryz.results114, go_sem]) rfl ⟨rfl, (Below.refl _ _).alloc (Nat.le_refl _) _⟩
  · rw [kC_yes hk, fdT_yes hk]
    obtain ⟨h0, h1⟩ := knownB_yes hk
    exact implFormat_any n w h0 h1 hp
end Go.Proofs.YtgfbahjpaaanoaaGreatDoor
/-
  DaysOf, on both sides.
-/
namespace Go.Proofs.YtgfbahjpaaanoaaGreatDoor
open Go.ChangeShapes Go.WideShapes Go.ChangeAt Go.RowKit
def doC (y m d : Int) : Int := if dayB y m d = true then 0 else 3
def doV (y m d : Int) : Int := if dayB y m d = true then daysD y m d else 0
theorem doC_yes {y m d : Int} (h : dayB y m d = true) : doC y m d = 0 := by simp [doC, h]
theorem doV_yes {y m d : Int} (h : dayB y m d = true) : doV y m d = daysD y m d := by simp [doV, h]
theorem doC_no {y m d : Int} (h : dayB y m d = false) : doC y m d = 3 := by simp [doC, h]
theorem doV_no {y m d : Int} (h : dayB y m d = false) : doV y m d = 0 := by simp [doV, h]
set_option maxHeartbeats 1000000 in
theorem implDaysOf_any (y m d : Int) (w : World) :
    Calls Tryz.prog 134 #[.int .i64 y, .int .i64 m, .int .i64 d] w fun e w' => e = .returned (.agg #[.int .i64 (doC y m d), .int .i64 (doV y m d)]) ∧ Below w.heap.size w w' := by
  have H : Hid (∀ w, Calls Tryz.prog 156 #[.int .i64 y, .int .i64 m, .int .i64 d] w fun e w' => e = .returned (.bool (dayB y m d)) ∧ w' = w) := implDay_any y m d
  cases hk : dayB y m d
  · rw [doC_no hk, doV_no hk]
    rw [hk] at H
    clear hk
    go_enter Tryz.func134, Tryz.ntmps134
    go_wp2_with fail
    refine (H.out _).mono ?_
    rintro e w1 ⟨rfl, rfl⟩
    go_wp2
    exact bodyPost_ret (v := .agg #[.int .i64 3, .int .i64 0]) (by simp [results, Tryz.results134, go_sem]) rfl ⟨rfl, (Below.refl _ _).alloc (Nat.le_refl _) _⟩
  · rw [doC_yes hk, doV_yes hk]
    rw [hk] at H
    obtain ⟨hy0, hy1, hm0, hm1, hd0, hd1⟩ := dayB_yes hk
    have hd2 : d ≤ 31 := by have := mlen_bd y m; omega
    have HD : Hid (daysD y m d = ahead y + msum y m + d - 1) := rfl
    have H2 : Hid (∀ w, Calls Tryz.prog 157 #[.int .i64 y] w fun e w' => e = .returned (.int .i64 (ahead y)) ∧ w' = w) := fun w => implAhead_any y w (by omega) (by omega)
    have ⟨ha0, ha1⟩ := ahead_bd hy0 (by omega)
    generalize ahead y = a at *
    clear hk hd1
    go_enter Tryz.func134, Tryz.ntmps134
    go_wp2_with fail
    refine (H.out _).mono ?_
    rintro e w1 ⟨rfl, rfl⟩
    go_wp2_with fail
    refine (H2.out _).mono ?_
    rintro e w1 ⟨rfl, rfl⟩
    clear H H2
    go_wp2
    go_loop [7, 8] (fun n x => ∃ j : Int, 1 ≤ j ∧ j ≤ m ∧ x = .int .i64 j ∧ n = .int .i64 (a + msum y j)) (fun _ x => (m - intOf x).toNat)
    case atStart => exact ⟨1, by omega, hm0, rfl, by rw [msum_first]; congr 1; omega⟩
    case round =>
      obtain ⟨j, hj0, hj1, rfl, rfl⟩ := hrel
      have hs0 := msum_mono y (a := 1) (b := j) (by omega) (by omega) (by omega)
      have hs1 := msum_mono y (a := j) (b := 13) (by omega) (by omega) (by omega)
      rw [msum_first] at hs0
      rw [msum_end] at hs1
      have hs2 := (ylen_bd y).2
      have hs3 : msum y j ≤ 366 := by omega
      clear hs1 hs2
      by_cases hlt2 : j < m
      · have H := implMonth_any y j
        have HA : Hid (msum y (j + 1) = msum y j + mlen y j) := msum_succ y (by omega) (by omega)
        have ⟨hl0, hl1⟩ := mlen_bd y j
        generalize mlen y j = l at *
        generalize msum y j = b at *
        go_wp2_with fail
        refine (H _ (by omega) (by omega) (by omega) (by omega)).mono ?_
        rintro e w1 ⟨rfl, rfl⟩
        clear H
        go_wp2
        go_round
        case rel => exact ⟨j + 1, by omega, by omega, by go_num, by rw [HA.out]; congr 1; omega⟩
        case measure => simp [intOf]; omega
      · obtain rfl : j = m := by omega
        generalize msum y j = b at *
        go_wp2
        exact bodyPost_ret (v := .agg #[.int .i64 0, .int .i64 (a + b + d - 1)]) (by simp [results, Tryz.results134, go_sem]) rfl ⟨by rw [HD.out], (Below.refl _ _).alloc (Nat.le_refl _) _⟩
end Go.Proofs.YtgfbahjpaaanoaaGreatDoor
/-
  DateFault and SecondsOf, on both sides.
-/
namespace Go.Proofs.YtgfbahjpaaanoaaGreatDoor
open Go.ChangeShapes Go.WideShapes Go.ChangeAt Go.RowKit
def dfC (y m d h i s : Int) : Int := if dateB y m d h i s = true then 0 else 3
theorem dfC_yes {y m d h i s : Int} (k : dateB y m d h i s = true) : dfC y m d h i s = 0 := by simp [dfC, k]
theorem dfC_no {y m d h i s : Int} (k : dateB y m d h i s = false) : dfC y m d h i s = 3 := by simp [dfC, k]
theorem dfC_day {y m d h i s : Int} (k : dayB y m d = false) : dfC y m d h i s = 3 := by simp [dfC, dateB, k]
theorem dfC_not {y m d h i s : Int} (k : ¬ DateOk y m d h i s) : dfC y m d h i s = 3 := by
  refine dfC_no ?_
  cases e : dateB y m d h i s
  · rfl
  · exact absurd (dateB_yes e) k
set_option maxHeartbeats 1000000 in
theorem specFault_any (y m d h i s : Int) (w : World) :
    Calls Tryz.prog 121 #[.agg #[.int .i64 y, .int .i64 m, .int .i64 d, .int .i64 h, .int .i64 i, .int .i64 s]] w fun e w' => e = .returned (.int .i64 (dfC y m d h i s)) ∧ Below w.heap.size w w' := by
  have H : Hid (∀ w, Calls Tryz.prog 145 #[.int .i64 y, .int .i64 m, .int .i64 d] w fun e w' => e = .returned (.bool (dayB y m d)) ∧ w' = w) := specDay_any y m d
  cases hk : dayB y m d
  · rw [dfC_day hk]
    rw [hk] at H
    clear hk
    go_enter Tryz.func121, Tryz.ntmps121
    go_wp2_with fail
    refine (H.out _).mono ?_
    rintro e w1 ⟨rfl, rfl⟩
    go_wp2
    go_ret
    exact ⟨rfl, (Below.refl _ _).alloc (Nat.le_refl _) _⟩
  have hd := dayB_yes hk
  rw [hk] at H
  clear hk
  by_cases ch : h < 0 ∨ 23 < h
  · rw [dfC_not (fun k => by have := k.h0; have := k.h1; omega)]
    have H1 : Hid (∀ w, Calls Tryz.prog 36 #[.int .i64 h, .int .i64 0, .int .i64 23] w fun e w' => e = .returned (.bool false) ∧ w' = w) := fun w => l1In_no h 0 23 w ch
    clear hd ch
    go_enter Tryz.func121, Tryz.ntmps121
    go_wp2_with fail
    refine (H.out _).mono ?_
    rintro e w1 ⟨rfl, rfl⟩
    go_wp2_with fail
    refine (H1.out _).mono ?_
    rintro e w1 ⟨rfl, rfl⟩
    go_wp2
    go_ret
    exact ⟨rfl, (Below.refl _ _).alloc (Nat.le_refl _) _⟩
  have H1 : Hid (∀ w, Calls Tryz.prog 36 #[.int .i64 h, .int .i64 0, .int .i64 23] w fun e w' => e = .returned (.bool true) ∧ w' = w) := fun w => l1In_yes h 0 23 w (by omega) (by omega)
  by_cases ci : i < 0 ∨ 59 < i
  · rw [dfC_not (fun k => by have := k.i0; have := k.i1; omega)]
    have H2 : Hid (∀ w, Calls Tryz.prog 36 #[.int .i64 i, .int .i64 0, .int .i64 59] w fun e w' => e = .returned (.bool false) ∧ w' = w) := fun w => l1In_no i 0 59 w ci
    clear hd ci ch
    go_enter Tryz.func121, Tryz.ntmps121
    go_wp2_with fail
    refine (H.out _).mono ?_
    rintro e w1 ⟨rfl, rfl⟩
    go_wp2_with fail
    refine (H1.out _).mono ?_
    rintro e w1 ⟨rfl, rfl⟩
    go_wp2_with fail
    refine (H2.out _).mono ?_
    rintro e w1 ⟨rfl, rfl⟩
    go_wp2
    go_ret
    exact ⟨rfl, (Below.refl _ _).alloc (Nat.le_refl _) _⟩
  have H2 : Hid (∀ w, Calls Tryz.prog 36 #[.int .i64 i, .int .i64 0, .int .i64 59] w fun e w' => e = .returned (.bool true) ∧ w' = w) := fun w => l1In_yes i 0 59 w (by omega) (by omega)
  by_cases cs : s < 0 ∨ 59 < s
  · rw [dfC_not (fun k => by have := k.s0; have := k.s1; omega)]
    have H3 : Hid (∀ w, Calls Tryz.prog 36 #[.int .i64 s, .int .i64 0, .int .i64 59] w fun e w' => e = .returned (.bool false) ∧ w' = w) := fun w => l1In_no s 0 59 w cs
    clear hd ci ch cs
    go_enter Tryz.func121, Tryz.ntmps121
    go_wp2_with fail
    refine (H.out _).mono ?_
    rintro e w1 ⟨rfl, rfl⟩
    go_wp2_with fail
    refine (H1.out _).mono ?_
    rintro e w1 ⟨rfl, rfl⟩
    go_wp2_with fail
    refine (H2.out _).mono ?_
    rintro e w1 ⟨rfl, rfl⟩
    go_wp2_with fail
    refine (H3.out _).mono ?_
    rintro e w1 ⟨rfl, rfl⟩
    go_wp2
    go_ret
    exact ⟨rfl, (Below.refl _ _).alloc (Nat.le_refl _) _⟩
  have H3 : Hid (∀ w, Calls Tryz.prog 36 #[.int .i64 s, .int .i64 0, .int .i64 59] w fun e w' => e = .returned (.bool true) ∧ w' = w) := fun w => l1In_yes s 0 59 w (by omega) (by omega)
  rw [dfC_yes (dateB_of ⟨hd, by omega, by omega, by omega, by omega, by omega, by omega⟩)]
  clear hd ci ch cs
  go_enter Tryz.func121, Tryz.ntmps121
  go_wp2_with fail
  refine (H.out _).mono ?_
  rintro e w1 ⟨rfl, rfl⟩
  go_wp2_with fail
  refine (H1.out _).mono ?_
  rintro e w1 ⟨rfl, rfl⟩
  go_wp2_with fail
  refine (H2.out _).mono ?_
  rintro e w1 ⟨rfl, rfl⟩
  go_wp2_with fail
  refine (H3.out _).mono ?_
  rintro e w1 ⟨rfl, rfl⟩
  go_wp2
  go_ret
  exact ⟨rfl, (Below.refl _ _).alloc (Nat.le_refl _) _⟩
set_option maxHeartbeats 2000000 in
theorem implFault_any (y m d h i s : Int) (w : World) :
    Calls Tryz.prog 133 #[.agg #[.int .i64 y, .int .i64 m, .int .i64 d, .int .i64 h, .int .i64 i, .int .i64 s]] w fun e w' => e = .returned (.int .i64 (dfC y m d h i s)) ∧ Below w.heap.size w w' := by
  have H : Hid (∀ w, Calls Tryz.prog 156 #[.int .i64 y, .int .i64 m, .int .i64 d] w fun e w' => e = .returned (.bool (dayB y m d)) ∧ w' = w) := implDay_any y m d
  cases hk : dayB y m d
  · rw [dfC_day hk]
    rw [hk] at H
    clear hk
    go_enter Tryz.func133, Tryz.ntmps133
    go_wp2_with fail
    refine (H.out _).mono ?_
    rintro e w1 ⟨rfl, rfl⟩
    go_wp2
    go_ret
    exact ⟨rfl, (Below.refl _ _).alloc (Nat.le_refl _) _⟩
  have hd := dayB_yes hk
  rw [hk] at H
  clear hk
  have hc : h < 0 ∨ (¬ h < 0 ∧ 23 < h) ∨ (¬ h < 0 ∧ ¬ 23 < h ∧ i < 0) ∨ (¬ h < 0 ∧ ¬ 23 < h ∧ ¬ i < 0 ∧ 59 < i) ∨ (¬ h < 0 ∧ ¬ 23 < h ∧ ¬ i < 0 ∧ ¬ 59 < i ∧ s < 0) ∨ (¬ h < 0 ∧ ¬ 23 < h ∧ ¬ i < 0 ∧ ¬ 59 < i ∧ ¬ s < 0 ∧ 59 < s) ∨ (¬ h < 0 ∧ ¬ 23 < h ∧ ¬ i < 0 ∧ ¬ 59 < i ∧ ¬ s < 0 ∧ ¬ 59 < s) := by omega
  have HF : Hid (¬ (¬ h < 0 ∧ ¬ 23 < h ∧ ¬ i < 0 ∧ ¬ 59 < i ∧ ¬ s < 0 ∧ ¬ 59 < s) → dfC y m d h i s = 3) := fun k => dfC_not (fun k => by have := k.h0; have := k.h1; have := k.i0; have := k.i1; have := k.s0; have := k.s1; omega)
  have HT : Hid ((¬ h < 0 ∧ ¬ 23 < h ∧ ¬ i < 0 ∧ ¬ 59 < i ∧ ¬ s < 0 ∧ ¬ 59 < s) → dfC y m d h i s = 0) := fun k => dfC_yes (dateB_of ⟨hd, by omega, by omega, by omega, by omega, by omega, by omega⟩)
  clear hd
  rcases hc with c | ⟨c1, c⟩ | ⟨c1, c2, c⟩ | ⟨c1, c2, c3, c⟩ | ⟨c1, c2, c3, c4, c⟩ | ⟨c1, c2, c3, c4, c5, c⟩ | ⟨c1, c2, c3, c4, c5, c6⟩
  all_goals
    go_enter Tryz.func133, Tryz.ntmps133
    go_wp2_with fail
    refine (H.out _).mono ?_
    rintro e w1 ⟨rfl, rfl⟩
    go_wp2
    go_ret
    exact ⟨ret_int (by first | rw [HF.out (by omega)] | rw [HT.out (by omega)]), (Below.refl _ _).alloc (Nat.le_refl _) _⟩
end Go.Proofs.YtgfbahjpaaanoaaGreatDoor
/-
  SecondsOf and WeekdayOf, on both sides.
-/
namespace Go.Proofs.YtgfbahjpaaanoaaGreatDoor
open Go.ChangeShapes Go.WideShapes Go.ChangeAt Go.RowKit Go.Sort
def soV (y m d h i s : Int) : Int := if dateB y m d h i s = true then secsD y m d h i s else 0
theorem soV_yes {y m d h i s : Int} (k : dateB y m d h i s = true) : soV y m d h i s = secsD y m d h i s := by simp [soV, k]
theorem soV_no {y m d h i s : Int} (k : dateB y m d h i s = false) : soV y m d h i s = 0 := by simp [soV, k]
set_option maxHeartbeats 1000000 in
theorem specSecs_any (y m d h i s : Int) (w : World) (k : DateOk y m d h i s) :
    Calls Tryz.prog 123 #[.agg #[.int .i64 y, .int .i64 m, .int .i64 d, .int .i64 h, .int .i64 i, .int .i64 s]] w fun e w' => e = .returned (.int .i64 (secsD y m d h i s)) ∧ Below w.heap.size w w' := by
  have H : Hid (∀ w, Calls Tryz.prog 148 #[.int .i64 y, .int .i64 m, .int .i64 d] w fun e w' => e = .returned (.int .i64 (daysD y m d)) ∧ w' = w) := fun w => specDays_any y m d w k.day
  have HD : Hid (secsD y m d h i s = daysD y m d * 86400 + h * 3600 + i * 60 + s) := rfl
  have ⟨hd0, hd1⟩ := daysD_bd k.day
  obtain ⟨_, h0, h1, i0, i1, s0, s1⟩ := k
  generalize daysD y m d = D at *
  go_enter Tryz.func123, Tryz.ntmps123
  go_wp2_with fail
  obtain ⟨W, hW⟩ : ∃ W, W = w.alloc (.cells #[.int .i64 y, .int .i64 m, .int .i64 d, .int .i64 h, .int .i64 i, .int .i64 s] 145) := ⟨_, rfl⟩
  rw [← hW]
  have KD : DateAtB W w.heap.size y m d h i s := by subst hW; exact dateAtB_new w y m d h i s _
  have KB : Hid (Below w.heap.size w W) := by subst hW; exact (Below.refl _ _).alloc (Nat.le_refl _) _
  clear hW
  have q0 := cell_regrown KD.c0
  have q1 := cell_regrown KD.c1
  have q2 := cell_regrown KD.c2
  have q3 := cell_regrown KD.c3
  have q4 := cell_regrown KD.c4
  have q5 := cell_regrown KD.c5
  clear KD
  have cS : ∀ d' os, Calls Tryz.prog 148 #[.int .i64 y, .int .i64 m, .int .i64 d] (grow (redrawn W d') os) fun e w'' => e = .returned (.int .i64 D) ∧ ∃ p : Regrown, w'' = grow (redrawn W p.d) p.os := fun d' os => Calls.regrown_of ((H.out _).mono fun _ _ ⟨h1, h2⟩ => ⟨h1, by rw [h2]; exact Below.refl _ _⟩)
  refine wp_region_quiet_below (by kernel_rfl) (by kernel_rfl) ?_
  repeat (go_big_quiet_step (first | (go_at_call 148; exact cS _ _)))
  refine wpQuiet_nil ?_
  intro W2 hW2
  have KB2 : Hid (Below w.heap.size w W2) := by
    obtain ⟨⟨d, os⟩, rfl⟩ := hW2
    exact KB.out.trans ((below_regrown W d os).mono KB.out.size)
  clear hW2 cS q0 q1 q2 q3 q4 q5
  go_wp2_with fail
  go_ret
  exact ⟨ret_int (by rw [HD.out]), KB2.out⟩
set_option maxHeartbeats 1000000 in
theorem implSecondsOf_any (y m d h i s : Int) (w : World) :
    Calls Tryz.prog 111 #[.agg #[.int .i64 y, .int .i64 m, .int .i64 d, .int .i64 h, .int .i64 i, .int .i64 s]] w fun e w' => e = .returned (.agg #[.int .i64 (dfC y m d h i s), .int .i64 (soV y m d h i s)]) ∧ Below w.heap.size w w' := by
  have H : Hid (∀ w, Calls Tryz.prog 133 #[.agg #[.int .i64 y, .int .i64 m, .int .i64 d, .int .i64 h, .int .i64 i, .int .i64 s]] w fun e w' => e = .returned (.int .i64 (dfC y m d h i s)) ∧ Below w.heap.size w w') := implFault_any y m d h i s
  cases hk : dateB y m d h i s
  · rw [soV_no hk]
    rw [dfC_no hk] at H ⊢
    clear hk
    go_enter Tryz.func111, Tryz.ntmps111
    go_wp2_with fail
    refine (H.out _).mono ?_
    rintro e w1 ⟨rfl, hb1⟩
    have KB : Hid (Below w.heap.size w w1) := (((Below.refl w.heap.size w).alloc (Nat.le_refl _) _).alloc (by simp) _).trans (hb1.mono (by simp; omega))
    have KD : Hid (DateAtB w1 w.heap.size y m d h i s) := ((dateAtB_new w y m d h i s 145).keep ((Below.refl _ _).alloc (Nat.le_refl _) _)).keep hb1
    have KR0 : Room2 w1 (w.heap.size + 1) 0 0 := by
      have := (room2_new (w.alloc (.cells #[.int .i64 y, .int .i64 m, .int .i64 d, .int .i64 h, .int .i64 i, .int .i64 s] 145)) 0 0 34).keep hb1
      simpa using this
    have KR : Hid (Room2 w1 (w.heap.size + 1) 0 0) := KR0
    clear KR0
    clear hb1
    obtain ⟨c0, c1, c2, c3, c4, c5, fr⟩ := KD.out
    obtain ⟨r0, r1, rf0, rf1⟩ := KR.out
    clear fr
    go_wp2
    obtain ⟨z0, z1⟩ := two_set (v0 := .int .i64 3) (v1 := .int .i64 (0)) r0 r1
    exact bodyPost_ret (v := .agg #[.int .i64 3, .int .i64 0]) (by simp [results, Tryz.results111, go_sem, z0, z1]) rfl ⟨rfl, (KB.out.setCell (Nat.le_succ _) _).setCell (Nat.le_succ _) _⟩
  · rw [soV_yes hk]
    rw [dfC_yes hk] at H ⊢
    have hday : dayB y m d = true := dayB_of (dateB_yes hk).day
    have H2 : Hid (∀ w, Calls Tryz.prog 134 #[.int .i64 y, .int .i64 m, .int .i64 d] w fun e w' => e = .returned (.agg #[.int .i64 0, .int .i64 (daysD y m d)]) ∧ Below w.heap.size w w') := by
      have := implDaysOf_any y m d
      rw [doC_yes hday, doV_yes hday] at this
      exact this
    have HD : Hid (secsD y m d h i s = daysD y m d * 86400 + h * 3600 + i * 60 + s) := rfl
    have ⟨hd0, hd1⟩ := daysD_bd (dateB_yes hk).day
    obtain ⟨_, h0, h1, i0, i1, s0, s1⟩ := dateB_yes hk
    generalize daysD y m d = D at *
    clear hk hday
    go_enter Tryz.func111, Tryz.ntmps111
    go_wp2_with fail
    refine (H.out _).mono ?_
    rintro e w1 ⟨rfl, hb1⟩
    have KB : Hid (Below w.heap.size w w1) := (((Below.refl w.heap.size w).alloc (Nat.le_refl _) _).alloc (by simp) _).trans (hb1.mono (by simp; omega))
    have KD : Hid (DateAtB w1 w.heap.size y m d h i s) := ((dateAtB_new w y m d h i s 145).keep ((Below.refl _ _).alloc (Nat.le_refl _) _)).keep hb1
    have KR0 : Room2 w1 (w.heap.size + 1) 0 0 := by
      have := (room2_new (w.alloc (.cells #[.int .i64 y, .int .i64 m, .int .i64 d, .int .i64 h, .int .i64 i, .int .i64 s] 145)) 0 0 34).keep hb1
      simpa using this
    have KR : Hid (Room2 w1 (w.heap.size + 1) 0 0) := KR0
    clear KR0
    clear hb1
    obtain ⟨c0, c1, c2, c3, c4, c5, fr⟩ := KD.out
    obtain ⟨r0, r1, rf0, rf1⟩ := KR.out
    clear fr
    go_wp2_with fail
    refine (H2.out _).mono ?_
    rintro e w2 ⟨rfl, hb2⟩
    have KB2 : Hid (Below w.heap.size w w2) := KB.out.trans (hb2.mono KB.out.size)
    have KD2 : Hid (DateAtB w2 w.heap.size y m d h i s) := KD.out.keep hb2
    have KR2 : Hid (Room2 w2 (w.heap.size + 1) 0 0) := KR.out.keep hb2
    clear hb2 KB KD KR c0 c1 c2 c3 c4 c5 r0 r1 rf0 rf1
    obtain ⟨c0, c1, c2, c3, c4, c5, fr⟩ := KD2.out
    obtain ⟨r0, r1, rf0, rf1⟩ := KR2.out
    clear fr
    have hfv := ifield_val
    go_wp2
    obtain ⟨z0, z1⟩ := two_set (v0 := .int .i64 0) (v1 := .int .i64 (D * 86400 + h * 3600 + i * 60 + s)) r0 r1
    exact bodyPost_ret (v := .agg #[.int .i64 0, .int .i64 (D * 86400 + h * 3600 + i * 60 + s)]) (by simp [results, Tryz.results111, go_sem, z0, z1]) rfl ⟨by rw [HD.out], (KB2.out.setCell (Nat.le_succ _) _).setCell (Nat.le_succ _) _⟩
end Go.Proofs.YtgfbahjpaaanoaaGreatDoor
/-
  digitsIn and monthIn: what they read, or that they die.
-/
namespace Go.Proofs.YtgfbahjpaaanoaaGreatDoor
open Go.ChangeShapes Go.WideShapes Go.ChangeAt Go.RowKit Go.Sort
/-- A call that dies of a value that is not nil. -/
def Dies (e : Ending) : Prop := ∃ u pv, e = .panicked [{ v := .iface u pv, recovered := false }]
theorem str_neB {a b : ByteArray} (h : a ≠ b) : (a.toList == b.toList) = false := by
  rw [beq_eq_false_iff_ne]
  intro e
  rw [ByteArray.toList_eq, ByteArray.toList_eq] at e
  exact h (ByteArray.ext (Array.ext' e))
set_option maxHeartbeats 1000000 in
theorem digitsIn_yes (t : ByteArray) (w : World) (h : okD t = true) :
    Calls Tryz.prog 112 #[.string t] w fun e w' => e = .returned (.int .i64 (numD t)) ∧ Below w.heap.size w w' := by
  have H := implDelta t w
  rw [dC_yes h, dV_yes h] at H
  rw [numD_yes t h]
  clear h
  generalize valD t.data.toList = v at *
  go_enter Tryz.func112, Tryz.ntmps112
  go_wp2_with fail
  refine H.mono ?_
  rintro e w1 ⟨rfl, hb⟩
  have KB : Hid (Below w.heap.size w w1) := hb
  clear hb H
  go_wp2_with fail
  go_ret
  exact ⟨rfl, KB.out.alloc KB.out.size _⟩
set_option maxHeartbeats 1000000 in
theorem digitsIn_no (t : ByteArray) (w : World) (h : okD t = false) :
    Calls Tryz.prog 112 #[.string t] w fun e w' => Dies e ∧ Below w.heap.size w w' := by
  have H := implDelta t w
  rw [dC_no h, dV_no h] at H
  clear h
  go_enter Tryz.func112, Tryz.ntmps112
  go_wp2_with fail
  refine H.mono ?_
  rintro e w1 ⟨rfl, hb⟩
  have KB : Hid (Below w.heap.size w w1) := hb
  clear hb H
  go_wp2_with fail
  exact ⟨rfl, ⟨_, _, rfl⟩, KB.out.alloc KB.out.size _⟩
/-- What monthIn does with a name. -/
def MonthOr (name : ByteArray) (e : Ending) : Prop := (∃ k : Int, 1 ≤ k ∧ k ≤ 12 ∧ moT k = name ∧ e = .returned (.int .i64 k)) ∨ (Dies e ∧ ∀ j : Int, 1 ≤ j → j ≤ 12 → moT j ≠ name)
set_option maxHeartbeats 2000000 in
theorem monthIn_any (name : ByteArray) (w : World) :
    Calls Tryz.prog 113 #[.string name] w fun e w' => MonthOr name e ∧ w' = w := by
  have HM : Hid (∀ p w, 0 ≤ p → p ≤ 11 → Calls Tryz.prog 135 #[.string monNames, .int .i64 p] w fun e w' => e = .returned (.string (moT (p + 1))) ∧ w' = w) := fun p w a b => nameAt_mon p a b w
  unfold monNames at HM
  go_enter Tryz.func113, Tryz.ntmps113
  go_wp2
  go_loop [3] (fun x => ∃ k : Int, 1 ≤ k ∧ k ≤ 13 ∧ x = .int .i64 k ∧ ∀ j : Int, 1 ≤ j → j < k → moT j ≠ name) (fun x => (13 - intOf x).toNat)
  case atStart => exact ⟨1, by omega, by omega, rfl, fun j h1 h2 => by omega⟩
  case round =>
    obtain ⟨k, hk0, hk1, rfl, hno⟩ := hrel
    have HNO : Hid (∀ j : Int, 1 ≤ j → j < k → moT j ≠ name) := hno
    clear hno
    by_cases hlt : k ≤ 12
    · go_wp2_with fail
      refine (HM.out (k - 1) _ (by omega) (by omega)).mono ?_
      rintro e w1 ⟨rfl, rfl⟩
      rw [show k - 1 + 1 = k by omega]
      by_cases heq : moT k = name
      · have HQ : Hid (moT k = name) := heq
        rw [heq]
        clear heq
        go_wp2_with fail
        go_ret
        exact ⟨.inl ⟨k, hk0, hlt, HQ.out, rfl⟩, rfl⟩
      · have HQ : Hid (moT k ≠ name) := heq
        have hne := str_neB heq
        clear heq
        obtain ⟨q, hq⟩ : ∃ q, Hid (moT k = q) := ⟨_, rfl⟩
        rw [hq.out] at hne ⊢
        go_wp2_with fail
        go_round
        case rel => exact ⟨k + 1, by omega, by omega, by go_num, fun j h1 h2 => by
          by_cases hj : j = k
          · subst hj; exact HQ.out
          · exact HNO.out j h1 (by omega)⟩
        case measure => simp [intOf]; omega
    · obtain rfl : k = 13 := by omega
      go_wp2_with fail
      exact ⟨rfl, .inr ⟨⟨_, _, rfl⟩, fun j h1 h2 => HNO.out j h1 (by omega)⟩, rfl⟩
end Go.Proofs.YtgfbahjpaaanoaaGreatDoor
/-
  The model's ParseDate.
-/
namespace Go.Proofs.YtgfbahjpaaanoaaGreatDoor
open Go.ChangeShapes Go.WideShapes Go.ChangeAt Go.RowKit Go.Sort
theorem l1Delta_fn (s : ByteArray) (w : World) : Calls Tryz.prog 67 #[.string s] w fun e w' => e = .returned (.int .i64 (numD s)) ∧ w' = w := by
  by_cases c : s.size < 1 ∨ 64 < s.size
  · exact l1Delta_size s w c
  · exact l1Delta_any s w (by omega) (by omega)
theorem cut_slice (s : ByteArray) (a b : Nat) (hab : a ≤ b) (hb : b ≤ s.size) (w : World) :
    (Instr.slice 9 (.string s) (some (.int .i64 (a : Int))) (some (.int .i64 (b : Int))) none).run Tryz.prog w = .ok (.string (s.extract a b)) w := by
  have := run_slice_string (P := Tryz.prog) w 9 s .i64 .i64 (a : Int) (b : Int) Tryz.underlying9 (by omega) (by omega) (by omega)
  simpa using this
set_option maxHeartbeats 1000000 in
theorem l3Number_any (s : ByteArray) (a k : Nat) (ha : a ≤ 100) (hk : k ≤ 100) (h : a + k ≤ s.size) (w : World) :
    Calls Tryz.prog 120 #[.string s, .int .i64 (a : Int), .int .i64 (k : Int)] w fun e w' => e = .returned (.int .i64 (numD (s.extract a (a + k)))) ∧ w' = w := by
  have hc := cut_slice s a (a + k) (by omega) h
  rw [show ((a + k : Nat) : Int) = (a : Int) + k by omega] at hc
  have H := l1Delta_fn (s.extract a (a + k))
  generalize s.extract a (a + k) = t at *
  go_enter Tryz.func120, Tryz.ntmps120
  go_wp2_with fail
  refine (H _).mono ?_
  rintro e w1 ⟨rfl, rfl⟩
  go_wp2_with fail
  go_ret
  exact ⟨rfl, rfl⟩
set_option maxRecDepth 100000 in
set_option maxHeartbeats 4000000 in
theorem l3Parse_any (s : ByteArray) (w : World) :
    Calls Tryz.prog 93 #[.string s] w fun e w' => e = .returned (.int .i64 (parI s)) ∧ Below w.heap.size w w' := by
  by_cases hz : ¬ s.size = 29
  · have HN : Hid (parI s = -1) := parI_no fun h => absurd h hz
    have hz2 : ¬ (s.size : Int) = 29 := by omega
    clear hz
    go_enter Tryz.func93, Tryz.ntmps93
    go_wp2
    go_ret
    exact ⟨ret_int (by rw [HN.out]), Below.refl _ _⟩
  have hz : s.size = 29 := Decidable.not_not.1 hz
  have HY : Hid (∀ m, Cand s m → parI s = parS s m) := fun m h => parI_yes hz h
  have HN : Hid ((∀ m, ¬ Cand s m) → parI s = -1) := fun h => parI_no fun _ => h
  have HA : Hid (∀ w, Calls Tryz.prog 120 #[.string s, .int .i64 12, .int .i64 4] w fun e w' => e = .returned (.int .i64 (numD (s.extract 12 16))) ∧ w' = w) := fun w => l3Number_any s 12 4 (by omega) (by omega) (by omega) w
  have HB : Hid (∀ w, Calls Tryz.prog 120 #[.string s, .int .i64 5, .int .i64 2] w fun e w' => e = .returned (.int .i64 (numD (s.extract 5 7))) ∧ w' = w) := fun w => l3Number_any s 5 2 (by omega) (by omega) (by omega) w
  have HC : Hid (∀ w, Calls Tryz.prog 120 #[.string s, .int .i64 17, .int .i64 2] w fun e w' => e = .returned (.int .i64 (numD (s.extract 17 19))) ∧ w' = w) := fun w => l3Number_any s 17 2 (by omega) (by omega) (by omega) w
  have HD : Hid (∀ w, Calls Tryz.prog 120 #[.string s, .int .i64 20, .int .i64 2] w fun e w' => e = .returned (.int .i64 (numD (s.extract 20 22))) ∧ w' = w) := fun w => l3Number_any s 20 2 (by omega) (by omega) (by omega) w
  have HE : Hid (∀ w, Calls Tryz.prog 120 #[.string s, .int .i64 23, .int .i64 2] w fun e w' => e = .returned (.int .i64 (numD (s.extract 23 25))) ∧ w' = w) := fun w => l3Number_any s 23 2 (by omega) (by omega) (by omega) w
  have HCA : Hid (∀ m, 1 ≤ m → m ≤ 12 → moT m = s.extract 8 11 → parB s m = true → fmtT (parS s m) = s → Cand s m) := fun m a b c d e => ⟨a, b, c, d, e⟩
  have HCB : Hid (∀ m, Cand s m → moT m = s.extract 8 11 ∧ parB s m = true ∧ fmtT (parS s m) = s ∧ 1 ≤ m ∧ m ≤ 12) := fun m h => ⟨h.mon, h.ok, h.same, h.m0, h.m1⟩
  have HPB : Hid (∀ m, parB s m = dateB (numD (s.extract 12 16)) m (numD (s.extract 5 7)) (numD (s.extract 17 19)) (numD (s.extract 20 22)) (numD (s.extract 23 25))) := fun m => rfl
  have HPS : Hid (∀ m, parS s m = secsD (numD (s.extract 12 16)) m (numD (s.extract 5 7)) (numD (s.extract 17 19)) (numD (s.extract 20 22)) (numD (s.extract 23 25))) := fun m => rfl
  generalize numD (s.extract 12 16) = y at *
  generalize numD (s.extract 5 7) = d at *
  generalize numD (s.extract 17 19) = h at *
  generalize numD (s.extract 20 22) = i at *
  generalize numD (s.extract 23 25) = c at *
  have hz2 : (s.size : Int) = 29 := by omega
  have hsm : Hid (∀ k, 1 ≤ k → k ≤ 12 → ∀ w, (Instr.slice 9 (.string monNames) (some (.int .i64 (3 * k - 3))) (some (.int .i64 (3 * k))) none).run Tryz.prog w = .ok (.string (moT k)) w) := fun k a b => mon_slice k a b
  unfold monNames at hsm
  clear hz
  go_enter Tryz.func93, Tryz.ntmps93
  go_wp2
  generalize (⟨#[74, 97, 110, 70, 101, 98, 77, 97, 114, 65, 112, 114, 77, 97, 121, 74, 117, 110, 74, 117, 108, 65, 117, 103, 83, 101, 112, 79, 99, 116, 78, 111, 118, 68, 101, 99]⟩ : ByteArray) = MN at *
  go_loopw [4] (fun x wr => ∃ k : Int, 1 ≤ k ∧ k ≤ 13 ∧ x = .int .i64 k ∧ (∀ j : Int, j < k → ¬ Cand s j) ∧ Below w.heap.size w wr) (fun x _ => (13 - intOf x).toNat)
  case atStart => exact ⟨1, by omega, by omega, rfl, fun j h hc => by have := (HCB.out j hc).2.2.2.1; omega, Below.refl _ _⟩
  case round =>
    obtain ⟨k, hk0, hk1, rfl, hno, hb⟩ := hrel
    have HNO : Hid (∀ j : Int, j < k → ¬ Cand s j) := hno
    have KB : Hid (Below w.heap.size w wr) := hb
    clear hno hb
    by_cases hlt : k ≤ 12
    · have hs2 := hsm.out k hk0 hlt
      by_cases hm : moT k = s.extract 8 11
      · have HM : Hid (moT k = s.extract 8 11) := hm
        rw [hm] at hs2
        clear hm
        go_wp2_with fail
        go_quiet (fail)
        go_wp2_with fail
        refine (HA.out _).mono ?_
        rintro e w1 ⟨rfl, hw1⟩
        have K1 : Hid (Below w.heap.size w w1) := by
          show Below _ _ _
          rw [hw1]
          first | exact below_drewN KB.out _ | exact KB.out
        clear hw1 KB
        go_wp2_with fail
        refine (HB.out _).mono ?_
        rintro e w2 ⟨rfl, rfl⟩
        go_wp2_with fail
        refine (HC.out _).mono ?_
        rintro e w2 ⟨rfl, rfl⟩
        go_wp2_with fail
        refine (HD.out _).mono ?_
        rintro e w2 ⟨rfl, rfl⟩
        go_wp2_with fail
        refine (HE.out _).mono ?_
        rintro e w2 ⟨rfl, rfl⟩
        go_wp2_with fail
        refine (specFault_any y k d h i c _).mono ?_
        rintro e w3 ⟨rfl, hb3⟩
        have K3 : Hid (Below w.heap.size w w3 ∧ DateAtB w3 w2.heap.size y k d h i c) := ⟨(K1.out.alloc K1.out.size _).trans (hb3.mono (by have := K1.out.size; simp; omega)), (dateAtB_new w2 y k d h i c 145).keep hb3⟩
        clear hb3 K1
        generalize w2.heap.size = Bd at *
        clear w2
        obtain ⟨c0, c1, c2, c3, c4, c5, fr⟩ := K3.out.2
        clear fr
        cases hbd : dateB y k d h i c
        · have HQ : Hid (¬ Cand s k) := fun hc => by
            have := (HCB.out k hc).2.1
            rw [HPB.out, hbd] at this
            cases this
          rw [dfC_no hbd]
          clear hbd
          go_wp2_with fail
          go_roundw
          case rel => exact ⟨k + 1, by omega, by omega, by go_num, fun j h1 => by
            by_cases hj : j = k
            · subst hj; exact HQ.out
            · exact HNO.out j (by omega), K3.out.1⟩
          case measure => simp [intOf]; omega
        · have HOK := dateB_yes hbd
          have HPO : Hid (parB s k = true) := by show _ = _; rw [HPB.out, hbd]
          rw [dfC_yes hbd]
          clear hbd
          have HSC : Hid (∀ w, Calls Tryz.prog 123 #[.agg #[.int .i64 y, .int .i64 k, .int .i64 d, .int .i64 h, .int .i64 i, .int .i64 c]] w fun e w' => e = .returned (.int .i64 (secsD y k d h i c)) ∧ Below w.heap.size w w') := fun w => specSecs_any y k d h i c w HOK
          have ⟨hv0, hv1⟩ := secsD_bd HOK
          have HPS2 : Hid (parS s k = secsD y k d h i c) := HPS.out k
          clear HOK
          generalize secsD y k d h i c = v at *
          have HFM : Hid (∀ w, Calls Tryz.prog 122 #[.int .i64 v] w fun e w' => e = .returned (.string (fmtT v)) ∧ Below w.heap.size w w') := fun w => l3Format_any v w hv0 hv1
          go_wp2_with fail
          refine (HSC.out _).mono ?_
          rintro e w4 ⟨rfl, hb4⟩
          have K4 : Hid (Below w.heap.size w w4 ∧ DateAtB w4 Bd y k d h i c) := ⟨K3.out.1.trans (hb4.mono K3.out.1.size), K3.out.2.keep hb4⟩
          clear hb4 K3 c0 c1 c2 c3 c4 c5
          go_wp2_with fail
          refine (HFM.out _).mono ?_
          rintro e w5 ⟨rfl, hb5⟩
          have K5 : Hid (Below w.heap.size w w5 ∧ DateAtB w5 Bd y k d h i c) := ⟨K4.out.1.trans (hb5.mono K4.out.1.size), K4.out.2.keep hb5⟩
          clear hb5 K4
          obtain ⟨c0, c1, c2, c3, c4, c5, fr⟩ := K5.out.2
          clear fr
          by_cases heq : fmtT v = s
          · have HX : Hid (parI s = v) := by
              show _ = _
              rw [HY.out k (HCA.out k hk0 hlt HM.out HPO.out (by rw [HPS2.out, heq])), HPS2.out]
            rw [heq]
            clear heq
            go_wp2_with fail
            refine (HSC.out _).mono ?_
            rintro e w6 ⟨rfl, hb6⟩
            have K6 : Hid (Below w.heap.size w w6) := K5.out.1.trans (hb6.mono K5.out.1.size)
            clear hb6 K5
            go_wp2_with fail
            go_ret
            exact ⟨ret_int (by rw [HX.out]), K6.out⟩
          · have HQ : Hid (¬ Cand s k) := fun hc => heq (by have := (HCB.out k hc).2.2.1; rw [HPS2.out] at this; exact this)
            have hne := str_neB heq
            clear heq
            generalize fmtT v = r at *
            go_wp2_with fail
            go_roundw
            case rel => exact ⟨k + 1, by omega, by omega, by go_num, fun j h1 => by
              by_cases hj : j = k
              · subst hj; exact HQ.out
              · exact HNO.out j (by omega), K5.out.1⟩
            case measure => simp [intOf]; omega
      · have HQ : Hid (¬ Cand s k) := fun hc => hm (HCB.out k hc).1
        have hne := str_neB (fun e : s.extract 8 11 = moT k => hm e.symm)
        obtain ⟨q, hq⟩ : ∃ q, Hid (moT k = q) := ⟨_, rfl⟩
        rw [hq.out] at hs2 hne
        clear hm
        go_wp2_with fail
        go_quiet (fail)
        go_wp2_with fail
        go_roundw
        case rel => exact ⟨k + 1, by omega, by omega, by go_num, fun j h1 => by
          by_cases hj : j = k
          · subst hj; exact HQ.out
          · exact HNO.out j (by omega), by first | exact below_drewN KB.out _ | exact KB.out⟩
        case measure => simp [intOf]; omega
    · obtain rfl : k = 13 := by omega
      have HX : Hid (parI s = -1) := HN.out fun m hc => by
        have := (HCB.out m hc).2.2.2.2
        exact HNO.out m (by omega) hc
      go_wp2_with fail
      go_ret
      exact ⟨ret_int (by rw [HX.out]), KB.out⟩
end Go.Proofs.YtgfbahjpaaanoaaGreatDoor
/-
  secondsIn: what it reads, or that it dies.
-/
namespace Go.Proofs.YtgfbahjpaaanoaaGreatDoor
open Go.ChangeShapes Go.WideShapes Go.ChangeAt Go.RowKit Go.Sort
open num
def DigOr (t : ByteArray) (e : Ending) : Prop := (okD t = true ∧ e = .returned (.int .i64 (numD t))) ∨ (okD t = false ∧ Dies e)
theorem digitsIn_any (t : ByteArray) (w : World) : Calls Tryz.prog 112 #[.string t] w fun e w' => DigOr t e ∧ Below w.heap.size w w' := by
  cases h : okD t
  · exact (digitsIn_no t w h).mono fun _ _ ⟨a, b⟩ => ⟨.inr ⟨h, a⟩, b⟩
  · exact (digitsIn_yes t w h).mono fun _ _ ⟨a, b⟩ => ⟨.inl ⟨h, a⟩, b⟩
theorem cand_num {s : ByteArray} {m : Int} (h : Cand s m) : okD (s.extract 12 16) = true ∧ okD (s.extract 5 7) = true ∧ okD (s.extract 17 19) = true ∧ okD (s.extract 20 22) = true ∧ okD (s.extract 23 25) = true := by
  have k := dateB_yes h.ok
  have hh : ∀ t, 0 ≤ numD t → okD t = true := by
    intro t ht
    cases e : okD t
    · rw [numD_no t e] at ht; omega
    · rfl
  exact ⟨hh _ (by have := k.day.y0; omega), hh _ (by have := k.day.d0; omega), hh _ k.h0, hh _ k.i0, hh _ k.s0⟩
/-- What secondsIn does with a text. -/
def SecOr (s : ByteArray) (e : Ending) : Prop := (s.size = 29 ∧ ∃ m, Cand s m ∧ e = .returned (.int .i64 (parS s m))) ∨ (Dies e ∧ (s.size = 29 → ∀ m, ¬ Cand s m))
/-- What lies behind the numbers' reading: the seconds' room. -/
def ReadAt (s : ByteArray) (w : World) (v : Value) (W : World) : Prop :=
  ∃ (B : Nat) (k : Int), v = .pointer (some ⟨B, 0, none⟩) ∧ (1 ≤ k ∧ k ≤ 12 ∧ moT k = s.extract 8 11) ∧ Below w.heap.size w W ∧
    Room2 W B (dfC (numD (s.extract 12 16)) k (numD (s.extract 5 7)) (numD (s.extract 17 19)) (numD (s.extract 20 22)) (numD (s.extract 23 25))) (soV (numD (s.extract 12 16)) k (numD (s.extract 5 7)) (numD (s.extract 17 19)) (numD (s.extract 20 22)) (numD (s.extract 23 25)))
theorem room2_set {w : World} {b : Nat} {c v c' v' : Int} (h : Room2 w b c v) : Room2 ((w.setCell ⟨b, 0, none⟩ (.int .i64 c')).setCell ⟨b, 1, none⟩ (.int .i64 v')) b c' v' := by
  obtain ⟨q0, q1⟩ := two_set (v0 := .int .i64 c') (v1 := .int .i64 v') h.c0 h.c1
  exact ⟨q0, q1, by rw [World.frozen?_setCell, World.frozen?_setCell, h.f0], by rw [World.frozen?_setCell, World.frozen?_setCell, h.f1]⟩
theorem tfield_text (c : Int) (t : ByteArray) (w : World) : (Instr.field 98 (.agg #[.int .i64 c, .string t]) 1).run Tryz.prog w = .ok (.string t) w := by kernel_rfl
set_option maxRecDepth 100000 in
set_option maxHeartbeats 16000000 in
theorem secondsIn_any (s : ByteArray) (w : World) (hp : PowIs w) :
    Calls Tryz.prog 82 #[.string s] w fun e w' => SecOr s e ∧ Below w.heap.size w w' := by
  by_cases hz : ¬ s.size = 29
  · have HZ : Hid (¬ s.size = 29) := hz
    have hz2 : ¬ (s.size : Int) = 29 := by omega
    clear hz hp
    go_enter Tryz.func82, Tryz.ntmps82
    go_wp2
    exact ⟨rfl, .inr ⟨⟨_, _, rfl⟩, fun h => absurd h HZ.out⟩, Below.refl _ _⟩
  have hz : s.size = 29 := Decidable.not_not.1 hz
  have HZ : Hid (s.size = 29) := hz
  have hz2 : (s.size : Int) = 29 := by omega
  have HP : Hid (PowIs w) := hp
  clear hp hz
  go_enter Tryz.func82, Tryz.ntmps82
  go_wp2_with fail
  go_cut [3] from 8 to 27 (fun s3 wx => ReadAt s w s3 wx)
  case first =>
    refine wp_region_any (by kernel_rfl) ?_
    change wpAny _ _ _ _ _ _ _ (World.drew _)
    obtain ⟨v0, hv0⟩ : ∃ X, X = w.drew := ⟨_, rfl⟩
    rw [← hv0]
    have KD : Hid (Below w.heap.size w v0) := by
      show Below _ _ _
      rw [hv0]
      exact (Below.refl _ _).drew
    clear hv0
    refine wpAny_take (i := 0) (v := .string s) rfl (by kernel_rfl) (by kernel_rfl) (by kernel_rfl) (fun _ _ _ h => h) (Or.inl ⟨by rfl, ?_⟩) ?_
    · intro w; go_simp
    refine wpAny_take (i := 1) (v := .string (s.extract 12 16)) rfl (by kernel_rfl) (by kernel_rfl) (by kernel_rfl) (fun _ _ _ h => h) (Or.inl ⟨by rfl, ?_⟩) ?_
    · intro w; go_simp
    refine wpAny_take (i := 3) (v := .string s) rfl (by kernel_rfl) (by kernel_rfl) (by kernel_rfl) (fun _ _ _ h => h) (Or.inl ⟨by rfl, ?_⟩) ?_
    · intro w; go_simp
    refine wpAny_take (i := 4) (v := .string (s.extract 8 11)) rfl (by kernel_rfl) (by kernel_rfl) (by kernel_rfl) (fun _ _ _ h => h) (Or.inl ⟨by rfl, ?_⟩) ?_
    · intro w; go_simp
    refine wpAny_take (i := 6) (v := .string s) rfl (by kernel_rfl) (by kernel_rfl) (by kernel_rfl) (fun _ _ _ h => h) (Or.inl ⟨by rfl, ?_⟩) ?_
    · intro w; go_simp
    refine wpAny_take (i := 7) (v := .string (s.extract 5 7)) rfl (by kernel_rfl) (by kernel_rfl) (by kernel_rfl) (fun _ _ _ h => h) (Or.inl ⟨by rfl, ?_⟩) ?_
    · intro w; go_simp
    refine wpAny_take (i := 9) (v := .string s) rfl (by kernel_rfl) (by kernel_rfl) (by kernel_rfl) (fun _ _ _ h => h) (Or.inl ⟨by rfl, ?_⟩) ?_
    · intro w; go_simp
    refine wpAny_take (i := 10) (v := .string (s.extract 17 19)) rfl (by kernel_rfl) (by kernel_rfl) (by kernel_rfl) (fun _ _ _ h => h) (Or.inl ⟨by rfl, ?_⟩) ?_
    · intro w; go_simp
    refine wpAny_take (i := 12) (v := .string s) rfl (by kernel_rfl) (by kernel_rfl) (by kernel_rfl) (fun _ _ _ h => h) (Or.inl ⟨by rfl, ?_⟩) ?_
    · intro w; go_simp
    refine wpAny_take (i := 13) (v := .string (s.extract 20 22)) rfl (by kernel_rfl) (by kernel_rfl) (by kernel_rfl) (fun _ _ _ h => h) (Or.inl ⟨by rfl, ?_⟩) ?_
    · intro w; go_simp
    refine wpAny_take (i := 15) (v := .string s) rfl (by kernel_rfl) (by kernel_rfl) (by kernel_rfl) (fun _ _ _ h => h) (Or.inl ⟨by rfl, ?_⟩) ?_
    · intro w; go_simp
    refine wpAny_take (i := 16) (v := .string (s.extract 23 25)) rfl (by kernel_rfl) (by kernel_rfl) (by kernel_rfl) (fun _ _ _ h => h) (Or.inl ⟨by rfl, ?_⟩) ?_
    · intro w; go_simp

    refine wpAny_ready (rs := [2, 20]) (by kernel_rfl) (by simp) ?_
    refine AllReady.cons rfl (fun K hK => ?_) (AllReady.cons rfl (fun K hK => ?_) AllReady.nil)
    · go_simp
      go_wp2_with fail
      refine (digitsIn_any _ _).mono ?_
      rintro e v1 ⟨h, hb⟩
      have Kv1 : Hid (Below w.heap.size w v1) := KD.out.trans (hb.mono KD.out.size)
      clear hb KD
      rcases h with ⟨h, rfl⟩ | ⟨h, u, pv, rfl⟩
      rotate_left
      · go_wp2_with fail
        exact ⟨rfl, .inr ⟨⟨_, _, rfl⟩, fun _ m hc => by have := (cand_num hc).1; rw [h] at this; cases this⟩, Kv1.out⟩
      clear h
      refine hK _ _ ?_
      clear hK K
      refine wpAny_ready (rs := [5, 20]) (by kernel_rfl) (by simp) ?_
      refine AllReady.cons rfl (fun K hK => ?_) (AllReady.cons rfl (fun K hK => ?_) AllReady.nil)
      · go_simp
        go_wp2_with fail
        refine (monthIn_any _ _).mono ?_
        rintro e v2 ⟨h, hw⟩
        have Kv2 : Hid (Below w.heap.size w v2) := by
          rw [hw]; exact Kv1.out
        clear hw Kv1
        rcases h with ⟨k, hk0, hk1, hkm, rfl⟩ | ⟨⟨u, pv, rfl⟩, hnm⟩
        rotate_left
        · go_wp2_with fail
          exact ⟨rfl, .inr ⟨⟨_, _, rfl⟩, fun _ m hc => hnm m hc.m0 hc.m1 hc.mon⟩, Kv2.out⟩
        have HM : Hid (1 ≤ k ∧ k ≤ 12 ∧ moT k = s.extract 8 11) := ⟨hk0, hk1, hkm⟩
        clear hk0 hk1 hkm
        refine hK _ _ ?_
        clear hK K
        refine wpAny_ready (rs := [8, 20]) (by kernel_rfl) (by simp) ?_
        refine AllReady.cons rfl (fun K hK => ?_) (AllReady.cons rfl (fun K hK => ?_) AllReady.nil)
        · go_simp
          go_wp2_with fail
          refine (digitsIn_any _ _).mono ?_
          rintro e v3 ⟨h, hb⟩
          have Kv3 : Hid (Below w.heap.size w v3) := Kv2.out.trans (hb.mono Kv2.out.size)
          clear hb Kv2
          rcases h with ⟨h, rfl⟩ | ⟨h, u, pv, rfl⟩
          rotate_left
          · go_wp2_with fail
            exact ⟨rfl, .inr ⟨⟨_, _, rfl⟩, fun _ m hc => by have := (cand_num hc).2.1; rw [h] at this; cases this⟩, Kv3.out⟩
          clear h
          refine hK _ _ ?_
          clear hK K
          refine wpAny_ready (rs := [11, 20]) (by kernel_rfl) (by simp) ?_
          refine AllReady.cons rfl (fun K hK => ?_) (AllReady.cons rfl (fun K hK => ?_) AllReady.nil)
          · go_simp
            go_wp2_with fail
            refine (digitsIn_any _ _).mono ?_
            rintro e v4 ⟨h, hb⟩
            have Kv4 : Hid (Below w.heap.size w v4) := Kv3.out.trans (hb.mono Kv3.out.size)
            clear hb Kv3
            rcases h with ⟨h, rfl⟩ | ⟨h, u, pv, rfl⟩
            rotate_left
            · go_wp2_with fail
              exact ⟨rfl, .inr ⟨⟨_, _, rfl⟩, fun _ m hc => by have := (cand_num hc).2.2.1; rw [h] at this; cases this⟩, Kv4.out⟩
            clear h
            refine hK _ _ ?_
            clear hK K
            refine wpAny_ready (rs := [14, 20]) (by kernel_rfl) (by simp) ?_
            refine AllReady.cons rfl (fun K hK => ?_) (AllReady.cons rfl (fun K hK => ?_) AllReady.nil)
            · go_simp
              go_wp2_with fail
              refine (digitsIn_any _ _).mono ?_
              rintro e v5 ⟨h, hb⟩
              have Kv5 : Hid (Below w.heap.size w v5) := Kv4.out.trans (hb.mono Kv4.out.size)
              clear hb Kv4
              rcases h with ⟨h, rfl⟩ | ⟨h, u, pv, rfl⟩
              rotate_left
              · go_wp2_with fail
                exact ⟨rfl, .inr ⟨⟨_, _, rfl⟩, fun _ m hc => by have := (cand_num hc).2.2.2.1; rw [h] at this; cases this⟩, Kv5.out⟩
              clear h
              refine hK _ _ ?_
              clear hK K
              refine wpAny_ready (rs := [17, 20]) (by kernel_rfl) (by simp) ?_
              refine AllReady.cons rfl (fun K hK => ?_) (AllReady.cons rfl (fun K hK => ?_) AllReady.nil)
              · go_simp
                go_wp2_with fail
                refine (digitsIn_any _ _).mono ?_
                rintro e v6 ⟨h, hb⟩
                have Kv6 : Hid (Below w.heap.size w v6) := Kv5.out.trans (hb.mono Kv5.out.size)
                clear hb Kv5
                rcases h with ⟨h, rfl⟩ | ⟨h, u, pv, rfl⟩
                rotate_left
                · go_wp2_with fail
                  exact ⟨rfl, .inr ⟨⟨_, _, rfl⟩, fun _ m hc => by have := (cand_num hc).2.2.2.2; rw [h] at this; cases this⟩, Kv6.out⟩
                clear h
                refine hK _ _ ?_
                clear hK K
                refine wpAny_take (i := 18) (v := .agg #[.int .i64 (numD (s.extract 12 16)), .int .i64 k, .int .i64 (numD (s.extract 5 7)), .int .i64 (numD (s.extract 17 19)), .int .i64 (numD (s.extract 20 22)), .int .i64 (numD (s.extract 23 25))]) rfl (by kernel_rfl) (by kernel_rfl) (by kernel_rfl) (fun _ _ _ h => h) (Or.inl ⟨by rfl, ?_⟩) ?_
                · intro w; go_simp
                refine wpAny_ready (rs := [19, 20]) (by kernel_rfl) (by simp) ?_
                refine AllReady.cons rfl (fun K hK => ?_) (AllReady.cons rfl (fun K hK => ?_) AllReady.nil)
                · go_simp
                  go_wp2_with fail
                  refine (implSecondsOf_any _ _ _ _ _ _ _).mono ?_
                  rintro e v7 ⟨rfl, hb⟩
                  have Kv7 : Hid (Below w.heap.size w v7) := Kv6.out.trans (hb.mono Kv6.out.size)
                  clear hb Kv6
                  refine hK _ _ ?_
                  clear hK K
                  refine wpAny_ready (rs := [20]) (by kernel_rfl) (by simp) ?_
                  refine AllReady.cons rfl (fun K hK => ?_) AllReady.nil
                  go_simp
                  refine hK _ _ ?_
                  clear hK K
                  obtain ⟨v8, hv8⟩ : ∃ X, X = (v7).alloc (.cells #[.int .i64 0, .int .i64 0] 34) := ⟨_, rfl⟩
                  have Kv8 : Hid (Below w.heap.size w v8 ∧ Room2 v8 (v7).heap.size 0 0) := by
                    rw [hv8]
                    exact ⟨Kv7.out.alloc Kv7.out.size _, room2_new _ 0 0 _⟩
                  try rw [← hv8]
                  clear hv8
                  have HB : Hid (w.heap.size ≤ (v7).heap.size) := Kv7.out.size
                  clear Kv7
                  generalize (v7).heap.size = B at *
                  obtain ⟨r0, r1, rf0, rf1⟩ := Kv8.out.2
                  refine wpAny_ready (rs := [21]) (by kernel_rfl) (by simp) ?_
                  refine AllReady.cons rfl (fun K hK => ?_) AllReady.nil
                  go_simp
                  refine hK _ _ ?_
                  clear hK K
                  refine wpAny_done (by kernel_rfl) ?_ _
                  go_wp2_with fail
                  go_meet
                  exact ⟨B, k, rfl, HM.out, (Kv8.out.1.setCell HB.out _).setCell HB.out _, room2_set Kv8.out.2⟩
                · go_simp
                  refine hK _ _ ?_
                  clear hK K
                  obtain ⟨v9, hv9⟩ : ∃ X, X = (v6).alloc (.cells #[.int .i64 0, .int .i64 0] 34) := ⟨_, rfl⟩
                  have Kv9 : Hid (Below w.heap.size w v9 ∧ Room2 v9 (v6).heap.size 0 0) := by
                    rw [hv9]
                    exact ⟨Kv6.out.alloc Kv6.out.size _, room2_new _ 0 0 _⟩
                  try rw [← hv9]
                  clear hv9
                  have HB : Hid (w.heap.size ≤ (v6).heap.size) := Kv6.out.size
                  clear Kv6
                  generalize (v6).heap.size = B at *
                  refine wpAny_ready (rs := [19]) (by kernel_rfl) (by simp) ?_
                  refine AllReady.cons rfl (fun K hK => ?_) AllReady.nil
                  go_simp
                  go_wp2_with fail
                  refine (implSecondsOf_any _ _ _ _ _ _ _).mono ?_
                  rintro e v10 ⟨rfl, hb⟩
                  have Kv10 : Hid (Below w.heap.size w v10 ∧ Room2 v10 B 0 0) := ⟨Kv9.out.1.trans (hb.mono Kv9.out.1.size), Kv9.out.2.keep hb⟩
                  clear hb Kv9
                  refine hK _ _ ?_
                  clear hK K
                  obtain ⟨r0, r1, rf0, rf1⟩ := Kv10.out.2
                  refine wpAny_ready (rs := [21]) (by kernel_rfl) (by simp) ?_
                  refine AllReady.cons rfl (fun K hK => ?_) AllReady.nil
                  go_simp
                  refine hK _ _ ?_
                  clear hK K
                  refine wpAny_done (by kernel_rfl) ?_ _
                  go_wp2_with fail
                  go_meet
                  exact ⟨B, k, rfl, HM.out, (Kv10.out.1.setCell HB.out _).setCell HB.out _, room2_set Kv10.out.2⟩
              · go_simp
                refine hK _ _ ?_
                clear hK K
                obtain ⟨v11, hv11⟩ : ∃ X, X = (v5).alloc (.cells #[.int .i64 0, .int .i64 0] 34) := ⟨_, rfl⟩
                have Kv11 : Hid (Below w.heap.size w v11 ∧ Room2 v11 (v5).heap.size 0 0) := by
                  rw [hv11]
                  exact ⟨Kv5.out.alloc Kv5.out.size _, room2_new _ 0 0 _⟩
                try rw [← hv11]
                clear hv11
                have HB : Hid (w.heap.size ≤ (v5).heap.size) := Kv5.out.size
                clear Kv5
                generalize (v5).heap.size = B at *
                refine wpAny_ready (rs := [17]) (by kernel_rfl) (by simp) ?_
                refine AllReady.cons rfl (fun K hK => ?_) AllReady.nil
                go_simp
                go_wp2_with fail
                refine (digitsIn_any _ _).mono ?_
                rintro e v12 ⟨h, hb⟩
                have Kv12 : Hid (Below w.heap.size w v12 ∧ Room2 v12 B 0 0) := ⟨Kv11.out.1.trans (hb.mono Kv11.out.1.size), Kv11.out.2.keep hb⟩
                clear hb Kv11
                rcases h with ⟨h, rfl⟩ | ⟨h, u, pv, rfl⟩
                rotate_left
                · go_wp2_with fail
                  exact ⟨rfl, .inr ⟨⟨_, _, rfl⟩, fun _ m hc => by have := (cand_num hc).2.2.2.2; rw [h] at this; cases this⟩, Kv12.out.1⟩
                clear h
                refine hK _ _ ?_
                clear hK K
                refine wpAny_take (i := 18) (v := .agg #[.int .i64 (numD (s.extract 12 16)), .int .i64 k, .int .i64 (numD (s.extract 5 7)), .int .i64 (numD (s.extract 17 19)), .int .i64 (numD (s.extract 20 22)), .int .i64 (numD (s.extract 23 25))]) rfl (by kernel_rfl) (by kernel_rfl) (by kernel_rfl) (fun _ _ _ h => h) (Or.inl ⟨by rfl, ?_⟩) ?_
                · intro w; go_simp
                refine wpAny_ready (rs := [19]) (by kernel_rfl) (by simp) ?_
                refine AllReady.cons rfl (fun K hK => ?_) AllReady.nil
                go_simp
                go_wp2_with fail
                refine (implSecondsOf_any _ _ _ _ _ _ _).mono ?_
                rintro e v13 ⟨rfl, hb⟩
                have Kv13 : Hid (Below w.heap.size w v13 ∧ Room2 v13 B 0 0) := ⟨Kv12.out.1.trans (hb.mono Kv12.out.1.size), Kv12.out.2.keep hb⟩
                clear hb Kv12
                refine hK _ _ ?_
                clear hK K
                obtain ⟨r0, r1, rf0, rf1⟩ := Kv13.out.2
                refine wpAny_ready (rs := [21]) (by kernel_rfl) (by simp) ?_
                refine AllReady.cons rfl (fun K hK => ?_) AllReady.nil
                go_simp
                refine hK _ _ ?_
                clear hK K
                refine wpAny_done (by kernel_rfl) ?_ _
                go_wp2_with fail
                go_meet
                exact ⟨B, k, rfl, HM.out, (Kv13.out.1.setCell HB.out _).setCell HB.out _, room2_set Kv13.out.2⟩
            · go_simp
              refine hK _ _ ?_
              clear hK K
              obtain ⟨v14, hv14⟩ : ∃ X, X = (v4).alloc (.cells #[.int .i64 0, .int .i64 0] 34) := ⟨_, rfl⟩
              have Kv14 : Hid (Below w.heap.size w v14 ∧ Room2 v14 (v4).heap.size 0 0) := by
                rw [hv14]
                exact ⟨Kv4.out.alloc Kv4.out.size _, room2_new _ 0 0 _⟩
              try rw [← hv14]
              clear hv14
              have HB : Hid (w.heap.size ≤ (v4).heap.size) := Kv4.out.size
              clear Kv4
              generalize (v4).heap.size = B at *
              refine wpAny_ready (rs := [14]) (by kernel_rfl) (by simp) ?_
              refine AllReady.cons rfl (fun K hK => ?_) AllReady.nil
              go_simp
              go_wp2_with fail
              refine (digitsIn_any _ _).mono ?_
              rintro e v15 ⟨h, hb⟩
              have Kv15 : Hid (Below w.heap.size w v15 ∧ Room2 v15 B 0 0) := ⟨Kv14.out.1.trans (hb.mono Kv14.out.1.size), Kv14.out.2.keep hb⟩
              clear hb Kv14
              rcases h with ⟨h, rfl⟩ | ⟨h, u, pv, rfl⟩
              rotate_left
              · go_wp2_with fail
                exact ⟨rfl, .inr ⟨⟨_, _, rfl⟩, fun _ m hc => by have := (cand_num hc).2.2.2.1; rw [h] at this; cases this⟩, Kv15.out.1⟩
              clear h
              refine hK _ _ ?_
              clear hK K
              refine wpAny_ready (rs := [17]) (by kernel_rfl) (by simp) ?_
              refine AllReady.cons rfl (fun K hK => ?_) AllReady.nil
              go_simp
              go_wp2_with fail
              refine (digitsIn_any _ _).mono ?_
              rintro e v16 ⟨h, hb⟩
              have Kv16 : Hid (Below w.heap.size w v16 ∧ Room2 v16 B 0 0) := ⟨Kv15.out.1.trans (hb.mono Kv15.out.1.size), Kv15.out.2.keep hb⟩
              clear hb Kv15
              rcases h with ⟨h, rfl⟩ | ⟨h, u, pv, rfl⟩
              rotate_left
              · go_wp2_with fail
                exact ⟨rfl, .inr ⟨⟨_, _, rfl⟩, fun _ m hc => by have := (cand_num hc).2.2.2.2; rw [h] at this; cases this⟩, Kv16.out.1⟩
              clear h
              refine hK _ _ ?_
              clear hK K
              refine wpAny_take (i := 18) (v := .agg #[.int .i64 (numD (s.extract 12 16)), .int .i64 k, .int .i64 (numD (s.extract 5 7)), .int .i64 (numD (s.extract 17 19)), .int .i64 (numD (s.extract 20 22)), .int .i64 (numD (s.extract 23 25))]) rfl (by kernel_rfl) (by kernel_rfl) (by kernel_rfl) (fun _ _ _ h => h) (Or.inl ⟨by rfl, ?_⟩) ?_
              · intro w; go_simp
              refine wpAny_ready (rs := [19]) (by kernel_rfl) (by simp) ?_
              refine AllReady.cons rfl (fun K hK => ?_) AllReady.nil
              go_simp
              go_wp2_with fail
              refine (implSecondsOf_any _ _ _ _ _ _ _).mono ?_
              rintro e v17 ⟨rfl, hb⟩
              have Kv17 : Hid (Below w.heap.size w v17 ∧ Room2 v17 B 0 0) := ⟨Kv16.out.1.trans (hb.mono Kv16.out.1.size), Kv16.out.2.keep hb⟩
              clear hb Kv16
              refine hK _ _ ?_
              clear hK K
              obtain ⟨r0, r1, rf0, rf1⟩ := Kv17.out.2
              refine wpAny_ready (rs := [21]) (by kernel_rfl) (by simp) ?_
              refine AllReady.cons rfl (fun K hK => ?_) AllReady.nil
              go_simp
              refine hK _ _ ?_
              clear hK K
              refine wpAny_done (by kernel_rfl) ?_ _
              go_wp2_with fail
              go_meet
              exact ⟨B, k, rfl, HM.out, (Kv17.out.1.setCell HB.out _).setCell HB.out _, room2_set Kv17.out.2⟩
          · go_simp
            refine hK _ _ ?_
            clear hK K
            obtain ⟨v18, hv18⟩ : ∃ X, X = (v3).alloc (.cells #[.int .i64 0, .int .i64 0] 34) := ⟨_, rfl⟩
            have Kv18 : Hid (Below w.heap.size w v18 ∧ Room2 v18 (v3).heap.size 0 0) := by
              rw [hv18]
              exact ⟨Kv3.out.alloc Kv3.out.size _, room2_new _ 0 0 _⟩
            try rw [← hv18]
            clear hv18
            have HB : Hid (w.heap.size ≤ (v3).heap.size) := Kv3.out.size
            clear Kv3
            generalize (v3).heap.size = B at *
            refine wpAny_ready (rs := [11]) (by kernel_rfl) (by simp) ?_
            refine AllReady.cons rfl (fun K hK => ?_) AllReady.nil
            go_simp
            go_wp2_with fail
            refine (digitsIn_any _ _).mono ?_
            rintro e v19 ⟨h, hb⟩
            have Kv19 : Hid (Below w.heap.size w v19 ∧ Room2 v19 B 0 0) := ⟨Kv18.out.1.trans (hb.mono Kv18.out.1.size), Kv18.out.2.keep hb⟩
            clear hb Kv18
            rcases h with ⟨h, rfl⟩ | ⟨h, u, pv, rfl⟩
            rotate_left
            · go_wp2_with fail
              exact ⟨rfl, .inr ⟨⟨_, _, rfl⟩, fun _ m hc => by have := (cand_num hc).2.2.1; rw [h] at this; cases this⟩, Kv19.out.1⟩
            clear h
            refine hK _ _ ?_
            clear hK K
            refine wpAny_ready (rs := [14]) (by kernel_rfl) (by simp) ?_
            refine AllReady.cons rfl (fun K hK => ?_) AllReady.nil
            go_simp
            go_wp2_with fail
            refine (digitsIn_any _ _).mono ?_
            rintro e v20 ⟨h, hb⟩
            have Kv20 : Hid (Below w.heap.size w v20 ∧ Room2 v20 B 0 0) := ⟨Kv19.out.1.trans (hb.mono Kv19.out.1.size), Kv19.out.2.keep hb⟩
            clear hb Kv19
            rcases h with ⟨h, rfl⟩ | ⟨h, u, pv, rfl⟩
            rotate_left
            · go_wp2_with fail
              exact ⟨rfl, .inr ⟨⟨_, _, rfl⟩, fun _ m hc => by have := (cand_num hc).2.2.2.1; rw [h] at this; cases this⟩, Kv20.out.1⟩
            clear h
            refine hK _ _ ?_
            clear hK K
            refine wpAny_ready (rs := [17]) (by kernel_rfl) (by simp) ?_
            refine AllReady.cons rfl (fun K hK => ?_) AllReady.nil
            go_simp
            go_wp2_with fail
            refine (digitsIn_any _ _).mono ?_
            rintro e v21 ⟨h, hb⟩
            have Kv21 : Hid (Below w.heap.size w v21 ∧ Room2 v21 B 0 0) := ⟨Kv20.out.1.trans (hb.mono Kv20.out.1.size), Kv20.out.2.keep hb⟩
            clear hb Kv20
            rcases h with ⟨h, rfl⟩ | ⟨h, u, pv, rfl⟩
            rotate_left
            · go_wp2_with fail
              exact ⟨rfl, .inr ⟨⟨_, _, rfl⟩, fun _ m hc => by have := (cand_num hc).2.2.2.2; rw [h] at this; cases this⟩, Kv21.out.1⟩
            clear h
            refine hK _ _ ?_
            clear hK K
            refine wpAny_take (i := 18) (v := .agg #[.int .i64 (numD (s.extract 12 16)), .int .i64 k, .int .i64 (numD (s.extract 5 7)), .int .i64 (numD (s.extract 17 19)), .int .i64 (numD (s.extract 20 22)), .int .i64 (numD (s.extract 23 25))]) rfl (by kernel_rfl) (by kernel_rfl) (by kernel_rfl) (fun _ _ _ h => h) (Or.inl ⟨by rfl, ?_⟩) ?_
            · intro w; go_simp
            refine wpAny_ready (rs := [19]) (by kernel_rfl) (by simp) ?_
            refine AllReady.cons rfl (fun K hK => ?_) AllReady.nil
            go_simp
            go_wp2_with fail
            refine (implSecondsOf_any _ _ _ _ _ _ _).mono ?_
            rintro e v22 ⟨rfl, hb⟩
            have Kv22 : Hid (Below w.heap.size w v22 ∧ Room2 v22 B 0 0) := ⟨Kv21.out.1.trans (hb.mono Kv21.out.1.size), Kv21.out.2.keep hb⟩
            clear hb Kv21
            refine hK _ _ ?_
            clear hK K
            obtain ⟨r0, r1, rf0, rf1⟩ := Kv22.out.2
            refine wpAny_ready (rs := [21]) (by kernel_rfl) (by simp) ?_
            refine AllReady.cons rfl (fun K hK => ?_) AllReady.nil
            go_simp
            refine hK _ _ ?_
            clear hK K
            refine wpAny_done (by kernel_rfl) ?_ _
            go_wp2_with fail
            go_meet
            exact ⟨B, k, rfl, HM.out, (Kv22.out.1.setCell HB.out _).setCell HB.out _, room2_set Kv22.out.2⟩
        · go_simp
          refine hK _ _ ?_
          clear hK K
          obtain ⟨v23, hv23⟩ : ∃ X, X = (v2).alloc (.cells #[.int .i64 0, .int .i64 0] 34) := ⟨_, rfl⟩
          have Kv23 : Hid (Below w.heap.size w v23 ∧ Room2 v23 (v2).heap.size 0 0) := by
            rw [hv23]
            exact ⟨Kv2.out.alloc Kv2.out.size _, room2_new _ 0 0 _⟩
          try rw [← hv23]
          clear hv23
          have HB : Hid (w.heap.size ≤ (v2).heap.size) := Kv2.out.size
          clear Kv2
          generalize (v2).heap.size = B at *
          refine wpAny_ready (rs := [8]) (by kernel_rfl) (by simp) ?_
          refine AllReady.cons rfl (fun K hK => ?_) AllReady.nil
          go_simp
          go_wp2_with fail
          refine (digitsIn_any _ _).mono ?_
          rintro e v24 ⟨h, hb⟩
          have Kv24 : Hid (Below w.heap.size w v24 ∧ Room2 v24 B 0 0) := ⟨Kv23.out.1.trans (hb.mono Kv23.out.1.size), Kv23.out.2.keep hb⟩
          clear hb Kv23
          rcases h with ⟨h, rfl⟩ | ⟨h, u, pv, rfl⟩
          rotate_left
          · go_wp2_with fail
            exact ⟨rfl, .inr ⟨⟨_, _, rfl⟩, fun _ m hc => by have := (cand_num hc).2.1; rw [h] at this; cases this⟩, Kv24.out.1⟩
          clear h
          refine hK _ _ ?_
          clear hK K
          refine wpAny_ready (rs := [11]) (by kernel_rfl) (by simp) ?_
          refine AllReady.cons rfl (fun K hK => ?_) AllReady.nil
          go_simp
          go_wp2_with fail
          refine (digitsIn_any _ _).mono ?_
          rintro e v25 ⟨h, hb⟩
          have Kv25 : Hid (Below w.heap.size w v25 ∧ Room2 v25 B 0 0) := ⟨Kv24.out.1.trans (hb.mono Kv24.out.1.size), Kv24.out.2.keep hb⟩
          clear hb Kv24
          rcases h with ⟨h, rfl⟩ | ⟨h, u, pv, rfl⟩
          rotate_left
          · go_wp2_with fail
            exact ⟨rfl, .inr ⟨⟨_, _, rfl⟩, fun _ m hc => by have := (cand_num hc).2.2.1; rw [h] at this; cases this⟩, Kv25.out.1⟩
          clear h
          refine hK _ _ ?_
          clear hK K
          refine wpAny_ready (rs := [14]) (by kernel_rfl) (by simp) ?_
          refine AllReady.cons rfl (fun K hK => ?_) AllReady.nil
          go_simp
          go_wp2_with fail
          refine (digitsIn_any _ _).mono ?_
          rintro e v26 ⟨h, hb⟩
          have Kv26 : Hid (Below w.heap.size w v26 ∧ Room2 v26 B 0 0) := ⟨Kv25.out.1.trans (hb.mono Kv25.out.1.size), Kv25.out.2.keep hb⟩
          clear hb Kv25
          rcases h with ⟨h, rfl⟩ | ⟨h, u, pv, rfl⟩
          rotate_left
          · go_wp2_with fail
            exact ⟨rfl, .inr ⟨⟨_, _, rfl⟩, fun _ m hc => by have := (cand_num hc).2.2.2.1; rw [h] at this; cases this⟩, Kv26.out.1⟩
          clear h
          refine hK _ _ ?_
          clear hK K
          refine wpAny_ready (rs := [17]) (by kernel_rfl) (by simp) ?_
          refine AllReady.cons rfl (fun K hK => ?_) AllReady.nil
          go_simp
          go_wp2_with fail
          refine (digitsIn_any _ _).mono ?_
          rintro e v27 ⟨h, hb⟩
          have Kv27 : Hid (Below w.heap.size w v27 ∧ Room2 v27 B 0 0) := ⟨Kv26.out.1.trans (hb.mono Kv26.out.1.size), Kv26.out.2.keep hb⟩
          clear hb Kv26
          rcases h with ⟨h, rfl⟩ | ⟨h, u, pv, rfl⟩
          rotate_left
          · go_wp2_with fail
            exact ⟨rfl, .inr ⟨⟨_, _, rfl⟩, fun _ m hc => by have := (cand_num hc).2.2.2.2; rw [h] at this; cases this⟩, Kv27.out.1⟩
          clear h
          refine hK _ _ ?_
          clear hK K
          refine wpAny_take (i := 18) (v := .agg #[.int .i64 (numD (s.extract 12 16)), .int .i64 k, .int .i64 (numD (s.extract 5 7)), .int .i64 (numD (s.extract 17 19)), .int .i64 (numD (s.extract 20 22)), .int .i64 (numD (s.extract 23 25))]) rfl (by kernel_rfl) (by kernel_rfl) (by kernel_rfl) (fun _ _ _ h => h) (Or.inl ⟨by rfl, ?_⟩) ?_
          · intro w; go_simp
          refine wpAny_ready (rs := [19]) (by kernel_rfl) (by simp) ?_
          refine AllReady.cons rfl (fun K hK => ?_) AllReady.nil
          go_simp
          go_wp2_with fail
          refine (implSecondsOf_any _ _ _ _ _ _ _).mono ?_
          rintro e v28 ⟨rfl, hb⟩
          have Kv28 : Hid (Below w.heap.size w v28 ∧ Room2 v28 B 0 0) := ⟨Kv27.out.1.trans (hb.mono Kv27.out.1.size), Kv27.out.2.keep hb⟩
          clear hb Kv27
          refine hK _ _ ?_
          clear hK K
          obtain ⟨r0, r1, rf0, rf1⟩ := Kv28.out.2
          refine wpAny_ready (rs := [21]) (by kernel_rfl) (by simp) ?_
          refine AllReady.cons rfl (fun K hK => ?_) AllReady.nil
          go_simp
          refine hK _ _ ?_
          clear hK K
          refine wpAny_done (by kernel_rfl) ?_ _
          go_wp2_with fail
          go_meet
          exact ⟨B, k, rfl, HM.out, (Kv28.out.1.setCell HB.out _).setCell HB.out _, room2_set Kv28.out.2⟩
      · go_simp
        refine hK _ _ ?_
        clear hK K
        obtain ⟨v29, hv29⟩ : ∃ X, X = (v1).alloc (.cells #[.int .i64 0, .int .i64 0] 34) := ⟨_, rfl⟩
        have Kv29 : Hid (Below w.heap.size w v29 ∧ Room2 v29 (v1).heap.size 0 0) := by
          rw [hv29]
          exact ⟨Kv1.out.alloc Kv1.out.size _, room2_new _ 0 0 _⟩
        try rw [← hv29]
        clear hv29
        have HB : Hid (w.heap.size ≤ (v1).heap.size) := Kv1.out.size
        clear Kv1
        generalize (v1).heap.size = B at *
        refine wpAny_ready (rs := [5]) (by kernel_rfl) (by simp) ?_
        refine AllReady.cons rfl (fun K hK => ?_) AllReady.nil
        go_simp
        go_wp2_with fail
        refine (monthIn_any _ _).mono ?_
        rintro e v30 ⟨h, hw⟩
        have Kv30 : Hid (Below w.heap.size w v30 ∧ Room2 v30 B 0 0) := by
          rw [hw]; exact Kv29.out
        clear hw Kv29
        rcases h with ⟨k, hk0, hk1, hkm, rfl⟩ | ⟨⟨u, pv, rfl⟩, hnm⟩
        rotate_left
        · go_wp2_with fail
          exact ⟨rfl, .inr ⟨⟨_, _, rfl⟩, fun _ m hc => hnm m hc.m0 hc.m1 hc.mon⟩, Kv30.out.1⟩
        have HM : Hid (1 ≤ k ∧ k ≤ 12 ∧ moT k = s.extract 8 11) := ⟨hk0, hk1, hkm⟩
        clear hk0 hk1 hkm
        refine hK _ _ ?_
        clear hK K
        refine wpAny_ready (rs := [8]) (by kernel_rfl) (by simp) ?_
        refine AllReady.cons rfl (fun K hK => ?_) AllReady.nil
        go_simp
        go_wp2_with fail
        refine (digitsIn_any _ _).mono ?_
        rintro e v31 ⟨h, hb⟩
        have Kv31 : Hid (Below w.heap.size w v31 ∧ Room2 v31 B 0 0) := ⟨Kv30.out.1.trans (hb.mono Kv30.out.1.size), Kv30.out.2.keep hb⟩
        clear hb Kv30
        rcases h with ⟨h, rfl⟩ | ⟨h, u, pv, rfl⟩
        rotate_left
        · go_wp2_with fail
          exact ⟨rfl, .inr ⟨⟨_, _, rfl⟩, fun _ m hc => by have := (cand_num hc).2.1; rw [h] at this; cases this⟩, Kv31.out.1⟩
        clear h
        refine hK _ _ ?_
        clear hK K
        refine wpAny_ready (rs := [11]) (by kernel_rfl) (by simp) ?_
        refine AllReady.cons rfl (fun K hK => ?_) AllReady.nil
        go_simp
        go_wp2_with fail
        refine (digitsIn_any _ _).mono ?_
        rintro e v32 ⟨h, hb⟩
        have Kv32 : Hid (Below w.heap.size w v32 ∧ Room2 v32 B 0 0) := ⟨Kv31.out.1.trans (hb.mono Kv31.out.1.size), Kv31.out.2.keep hb⟩
        clear hb Kv31
        rcases h with ⟨h, rfl⟩ | ⟨h, u, pv, rfl⟩
        rotate_left
        · go_wp2_with fail
          exact ⟨rfl, .inr ⟨⟨_, _, rfl⟩, fun _ m hc => by have := (cand_num hc).2.2.1; rw [h] at this; cases this⟩, Kv32.out.1⟩
        clear h
        refine hK _ _ ?_
        clear hK K
        refine wpAny_ready (rs := [14]) (by kernel_rfl) (by simp) ?_
        refine AllReady.cons rfl (fun K hK => ?_) AllReady.nil
        go_simp
        go_wp2_with fail
        refine (digitsIn_any _ _).mono ?_
        rintro e v33 ⟨h, hb⟩
        have Kv33 : Hid (Below w.heap.size w v33 ∧ Room2 v33 B 0 0) := ⟨Kv32.out.1.trans (hb.mono Kv32.out.1.size), Kv32.out.2.keep hb⟩
        clear hb Kv32
        rcases h with ⟨h, rfl⟩ | ⟨h, u, pv, rfl⟩
        rotate_left
        · go_wp2_with fail
          exact ⟨rfl, .inr ⟨⟨_, _, rfl⟩, fun _ m hc => by have := (cand_num hc).2.2.2.1; rw [h] at this; cases this⟩, Kv33.out.1⟩
        clear h
        refine hK _ _ ?_
        clear hK K
        refine wpAny_ready (rs := [17]) (by kernel_rfl) (by simp) ?_
        refine AllReady.cons rfl (fun K hK => ?_) AllReady.nil
        go_simp
        go_wp2_with fail
        refine (digitsIn_any _ _).mono ?_
        rintro e v34 ⟨h, hb⟩
        have Kv34 : Hid (Below w.heap.size w v34 ∧ Room2 v34 B 0 0) := ⟨Kv33.out.1.trans (hb.mono Kv33.out.1.size), Kv33.out.2.keep hb⟩
        clear hb Kv33
        rcases h with ⟨h, rfl⟩ | ⟨h, u, pv, rfl⟩
        rotate_left
        · go_wp2_with fail
          exact ⟨rfl, .inr ⟨⟨_, _, rfl⟩, fun _ m hc => by have := (cand_num hc).2.2.2.2; rw [h] at this; cases this⟩, Kv34.out.1⟩
        clear h
        refine hK _ _ ?_
        clear hK K
        refine wpAny_take (i := 18) (v := .agg #[.int .i64 (numD (s.extract 12 16)), .int .i64 k, .int .i64 (numD (s.extract 5 7)), .int .i64 (numD (s.extract 17 19)), .int .i64 (numD (s.extract 20 22)), .int .i64 (numD (s.extract 23 25))]) rfl (by kernel_rfl) (by kernel_rfl) (by kernel_rfl) (fun _ _ _ h => h) (Or.inl ⟨by rfl, ?_⟩) ?_
        · intro w; go_simp
        refine wpAny_ready (rs := [19]) (by kernel_rfl) (by simp) ?_
        refine AllReady.cons rfl (fun K hK => ?_) AllReady.nil
        go_simp
        go_wp2_with fail
        refine (implSecondsOf_any _ _ _ _ _ _ _).mono ?_
        rintro e v35 ⟨rfl, hb⟩
        have Kv35 : Hid (Below w.heap.size w v35 ∧ Room2 v35 B 0 0) := ⟨Kv34.out.1.trans (hb.mono Kv34.out.1.size), Kv34.out.2.keep hb⟩
        clear hb Kv34
        refine hK _ _ ?_
        clear hK K
        obtain ⟨r0, r1, rf0, rf1⟩ := Kv35.out.2
        refine wpAny_ready (rs := [21]) (by kernel_rfl) (by simp) ?_
        refine AllReady.cons rfl (fun K hK => ?_) AllReady.nil
        go_simp
        refine hK _ _ ?_
        clear hK K
        refine wpAny_done (by kernel_rfl) ?_ _
        go_wp2_with fail
        go_meet
        exact ⟨B, k, rfl, HM.out, (Kv35.out.1.setCell HB.out _).setCell HB.out _, room2_set Kv35.out.2⟩
    · go_simp
      refine hK _ _ ?_
      clear hK K
      obtain ⟨v36, hv36⟩ : ∃ X, X = (v0).alloc (.cells #[.int .i64 0, .int .i64 0] 34) := ⟨_, rfl⟩
      have Kv36 : Hid (Below w.heap.size w v36 ∧ Room2 v36 (v0).heap.size 0 0) := by
        rw [hv36]
        exact ⟨KD.out.alloc KD.out.size _, room2_new _ 0 0 _⟩
      try rw [← hv36]
      clear hv36
      have HB : Hid (w.heap.size ≤ (v0).heap.size) := KD.out.size
      clear KD
      generalize (v0).heap.size = B at *
      refine wpAny_ready (rs := [2]) (by kernel_rfl) (by simp) ?_
      refine AllReady.cons rfl (fun K hK => ?_) AllReady.nil
      go_simp
      go_wp2_with fail
      refine (digitsIn_any _ _).mono ?_
      rintro e v37 ⟨h, hb⟩
      have Kv37 : Hid (Below w.heap.size w v37 ∧ Room2 v37 B 0 0) := ⟨Kv36.out.1.trans (hb.mono Kv36.out.1.size), Kv36.out.2.keep hb⟩
      clear hb Kv36
      rcases h with ⟨h, rfl⟩ | ⟨h, u, pv, rfl⟩
      rotate_left
      · go_wp2_with fail
        exact ⟨rfl, .inr ⟨⟨_, _, rfl⟩, fun _ m hc => by have := (cand_num hc).1; rw [h] at this; cases this⟩, Kv37.out.1⟩
      clear h
      refine hK _ _ ?_
      clear hK K
      refine wpAny_ready (rs := [5]) (by kernel_rfl) (by simp) ?_
      refine AllReady.cons rfl (fun K hK => ?_) AllReady.nil
      go_simp
      go_wp2_with fail
      refine (monthIn_any _ _).mono ?_
      rintro e v38 ⟨h, hw⟩
      have Kv38 : Hid (Below w.heap.size w v38 ∧ Room2 v38 B 0 0) := by
        rw [hw]; exact Kv37.out
      clear hw Kv37
      rcases h with ⟨k, hk0, hk1, hkm, rfl⟩ | ⟨⟨u, pv, rfl⟩, hnm⟩
      rotate_left
      · go_wp2_with fail
        exact ⟨rfl, .inr ⟨⟨_, _, rfl⟩, fun _ m hc => hnm m hc.m0 hc.m1 hc.mon⟩, Kv38.out.1⟩
      have HM : Hid (1 ≤ k ∧ k ≤ 12 ∧ moT k = s.extract 8 11) := ⟨hk0, hk1, hkm⟩
      clear hk0 hk1 hkm
      refine hK _ _ ?_
      clear hK K
      refine wpAny_ready (rs := [8]) (by kernel_rfl) (by simp) ?_
      refine AllReady.cons rfl (fun K hK => ?_) AllReady.nil
      go_simp
      go_wp2_with fail
      refine (digitsIn_any _ _).mono ?_
      rintro e v39 ⟨h, hb⟩
      have Kv39 : Hid (Below w.heap.size w v39 ∧ Room2 v39 B 0 0) := ⟨Kv38.out.1.trans (hb.mono Kv38.out.1.size), Kv38.out.2.keep hb⟩
      clear hb Kv38
      rcases h with ⟨h, rfl⟩ | ⟨h, u, pv, rfl⟩
      rotate_left
      · go_wp2_with fail
        exact ⟨rfl, .inr ⟨⟨_, _, rfl⟩, fun _ m hc => by have := (cand_num hc).2.1; rw [h] at this; cases this⟩, Kv39.out.1⟩
      clear h
      refine hK _ _ ?_
      clear hK K
      refine wpAny_ready (rs := [11]) (by kernel_rfl) (by simp) ?_
      refine AllReady.cons rfl (fun K hK => ?_) AllReady.nil
      go_simp
      go_wp2_with fail
      refine (digitsIn_any _ _).mono ?_
      rintro e v40 ⟨h, hb⟩
      have Kv40 : Hid (Below w.heap.size w v40 ∧ Room2 v40 B 0 0) := ⟨Kv39.out.1.trans (hb.mono Kv39.out.1.size), Kv39.out.2.keep hb⟩
      clear hb Kv39
      rcases h with ⟨h, rfl⟩ | ⟨h, u, pv, rfl⟩
      rotate_left
      · go_wp2_with fail
        exact ⟨rfl, .inr ⟨⟨_, _, rfl⟩, fun _ m hc => by have := (cand_num hc).2.2.1; rw [h] at this; cases this⟩, Kv40.out.1⟩
      clear h
      refine hK _ _ ?_
      clear hK K
      refine wpAny_ready (rs := [14]) (by kernel_rfl) (by simp) ?_
      refine AllReady.cons rfl (fun K hK => ?_) AllReady.nil
      go_simp
      go_wp2_with fail
      refine (digitsIn_any _ _).mono ?_
      rintro e v41 ⟨h, hb⟩
      have Kv41 : Hid (Below w.heap.size w v41 ∧ Room2 v41 B 0 0) := ⟨Kv40.out.1.trans (hb.mono Kv40.out.1.size), Kv40.out.2.keep hb⟩
      clear hb Kv40
      rcases h with ⟨h, rfl⟩ | ⟨h, u, pv, rfl⟩
      rotate_left
      · go_wp2_with fail
        exact ⟨rfl, .inr ⟨⟨_, _, rfl⟩, fun _ m hc => by have := (cand_num hc).2.2.2.1; rw [h] at this; cases this⟩, Kv41.out.1⟩
      clear h
      refine hK _ _ ?_
      clear hK K
      refine wpAny_ready (rs := [17]) (by kernel_rfl) (by simp) ?_
      refine AllReady.cons rfl (fun K hK => ?_) AllReady.nil
      go_simp
      go_wp2_with fail
      refine (digitsIn_any _ _).mono ?_
      rintro e v42 ⟨h, hb⟩
      have Kv42 : Hid (Below w.heap.size w v42 ∧ Room2 v42 B 0 0) := ⟨Kv41.out.1.trans (hb.mono Kv41.out.1.size), Kv41.out.2.keep hb⟩
      clear hb Kv41
      rcases h with ⟨h, rfl⟩ | ⟨h, u, pv, rfl⟩
      rotate_left
      · go_wp2_with fail
        exact ⟨rfl, .inr ⟨⟨_, _, rfl⟩, fun _ m hc => by have := (cand_num hc).2.2.2.2; rw [h] at this; cases this⟩, Kv42.out.1⟩
      clear h
      refine hK _ _ ?_
      clear hK K
      refine wpAny_take (i := 18) (v := .agg #[.int .i64 (numD (s.extract 12 16)), .int .i64 k, .int .i64 (numD (s.extract 5 7)), .int .i64 (numD (s.extract 17 19)), .int .i64 (numD (s.extract 20 22)), .int .i64 (numD (s.extract 23 25))]) rfl (by kernel_rfl) (by kernel_rfl) (by kernel_rfl) (fun _ _ _ h => h) (Or.inl ⟨by rfl, ?_⟩) ?_
      · intro w; go_simp
      refine wpAny_ready (rs := [19]) (by kernel_rfl) (by simp) ?_
      refine AllReady.cons rfl (fun K hK => ?_) AllReady.nil
      go_simp
      go_wp2_with fail
      refine (implSecondsOf_any _ _ _ _ _ _ _).mono ?_
      rintro e v43 ⟨rfl, hb⟩
      have Kv43 : Hid (Below w.heap.size w v43 ∧ Room2 v43 B 0 0) := ⟨Kv42.out.1.trans (hb.mono Kv42.out.1.size), Kv42.out.2.keep hb⟩
      clear hb Kv42
      refine hK _ _ ?_
      clear hK K
      obtain ⟨r0, r1, rf0, rf1⟩ := Kv43.out.2
      refine wpAny_ready (rs := [21]) (by kernel_rfl) (by simp) ?_
      refine AllReady.cons rfl (fun K hK => ?_) AllReady.nil
      go_simp
      refine hK _ _ ?_
      clear hK K
      refine wpAny_done (by kernel_rfl) ?_ _
      go_wp2_with fail
      go_meet
      exact ⟨B, k, rfl, HM.out, (Kv43.out.1.setCell HB.out _).setCell HB.out _, room2_set Kv43.out.2⟩
  case rest =>
  obtain ⟨B, k, rfl, ⟨k0, k1, hM⟩, hb, hR⟩ := hcut
  have HB : Hid (Below w.heap.size w wc) := hb
  have HK : Hid (∀ m, Cand s m → m = k) := fun m hc => moT_inj hc.m0 hc.m1 k0 k1 (hc.mon.trans hM.symm)
  have HCA : Hid (parB s k = true → fmtT (parS s k) = s → Cand s k) := fun d e => ⟨k0, k1, hM, d, e⟩
  have HPB : Hid (parB s k = dateB (numD (s.extract 12 16)) k (numD (s.extract 5 7)) (numD (s.extract 17 19)) (numD (s.extract 20 22)) (numD (s.extract 23 25))) := rfl
  have HPS : Hid (parS s k = secsD (numD (s.extract 12 16)) k (numD (s.extract 5 7)) (numD (s.extract 17 19)) (numD (s.extract 20 22)) (numD (s.extract 23 25))) := rfl
  generalize numD (s.extract 12 16) = y at *
  generalize numD (s.extract 5 7) = d at *
  generalize numD (s.extract 17 19) = h at *
  generalize numD (s.extract 20 22) = i at *
  generalize numD (s.extract 23 25) = c at *
  clear hM hb
  cases hbd : dateB y k d h i c
  · rw [dfC_no hbd, soV_no hbd] at hR
    have HQ : Hid (∀ m, ¬ Cand s m) := fun m hc => by
      have e := HK.out m hc
      subst e
      have := hc.ok
      rw [HPB.out, hbd] at this
      cases this
    clear hbd
    obtain ⟨r0, r1, rf0, rf1⟩ := hR
    go_wp2_with fail
    exact ⟨rfl, .inr ⟨⟨_, _, rfl⟩, fun _ => HQ.out⟩, HB.out⟩
  · rw [dfC_yes hbd, soV_yes hbd] at hR
    have HPO : Hid (parB s k = true) := by show _ = _; rw [HPB.out, hbd]
    have ⟨hv0, hv1⟩ := secsD_bd (dateB_yes hbd)
    clear hbd
    generalize secsD y k d h i c = v at *
    have HF := implFormatDate v wc (HP.out.below HB.out)
    rw [kC_yes (knownB_of hv0 hv1), fdT_yes (knownB_of hv0 hv1)] at HF
    have hft := tfield_text
    obtain ⟨q0, q1, qf0, qf1⟩ := hR
    go_wp2_with fail
    refine HF.mono ?_
    rintro e w5 ⟨rfl, hb5⟩
    have KB5 : Hid (Below w.heap.size w w5) := HB.out.trans (hb5.mono HB.out.size)
    have p0 : w5.cell? ⟨B, 0, none⟩ = some (.int .i64 0) := by rw [hb5.cell (p := ⟨B, 0, none⟩) (block_lt_of_cell q0), q0]
    have p1 : w5.cell? ⟨B, 1, none⟩ = some (.int .i64 v) := by rw [hb5.cell (p := ⟨B, 1, none⟩) (block_lt_of_cell q1), q1]
    clear hb5 q0 q1 qf0 qf1 HF HB
    by_cases heq : fmtT v = s
    · have HC : Hid (Cand s k) := HCA.out HPO.out (by rw [HPS.out, heq])
      rw [heq]
      clear heq
      go_wp2_with fail
      go_ret
      exact ⟨.inl ⟨HZ.out, k, HC.out, by rw [HPS.out]; rfl⟩, KB5.out⟩
    · have HQ : Hid (∀ m, ¬ Cand s m) := fun m hc => by
        have e := HK.out m hc
        subst e
        have := hc.same
        rw [HPS.out] at this
        exact heq this
      have hne := str_neB heq
      clear heq
      generalize fmtT v = r at *
      go_wp2_with fail
      exact ⟨rfl, .inr ⟨⟨_, _, rfl⟩, fun _ => HQ.out⟩, KB5.out⟩
end Go.Proofs.YtgfbahjpaaanoaaGreatDoor
/-
  ParseDate: its deferred closure, and both its ways.
-/
namespace Go.Proofs.YtgfbahjpaaanoaaGreatDoor
open Go.ChangeShapes Go.WideShapes Go.ChangeAt Go.RowKit Go.Sort
open num
theorem catch_panicking (b : Nat) (c v : Int) (u : TypeId) (pv : Value) (older : List PanicEntry) (w : World) (h : Room2 w b c v) :
    CallsD Tryz.prog 81 #[.pointer (some ⟨b, 0, none⟩)] (.panicking ({ v := .iface u pv, recovered := false } :: older)) w fun e u' w' =>
      e = .returned (.tuple #[]) ∧ u' = .panicking ({ v := .iface u pv, recovered := true } :: older) ∧ w' = (w.setCell ⟨b, 0, none⟩ (.int .i64 5)).setCell ⟨b, 1, none⟩ (.int .i64 0) := by
  obtain ⟨c0, c1, f0, f1⟩ := h
  refine callsD_of_wpS Tryz.func81 rfl fun c₀ cs hu => ?_
  apply wpS_seq
  apply wpS_region
  simp [wpOpsS, go_sem, recoverD, hu, Tryz.ntmps81, Exit.thenS]
  refine wpS_cond (t := true) (by simp [Act.eval, Array.replicate]) ?_
  simp only [if_true]
  apply wpS_region
  simp [wpOpsS, go_sem, c0, c1, f0, f1, bodyPostS, results, Tryz.results81]
theorem catch_idle (p : Addr) (w : World) :
    CallsD Tryz.prog 81 #[.pointer (some p)] .returning w fun e u' w' => e = .returned (.tuple #[]) ∧ u' = .returning ∧ w' = w := by
  refine callsD_of_wpS Tryz.func81 rfl fun c₀ cs hu => ?_
  apply wpS_seq
  apply wpS_region
  simp [wpOpsS, go_sem, recoverD, hu, Tryz.ntmps81, Exit.thenS]
  refine wpS_cond (t := false) (by simp [Act.eval, Array.replicate]) ?_
  simp only [Bool.false_eq_true, if_false]
  refine wpS_of_wp (wp_skip ?_)
  cases c₀
  simp_all [bodyPostS, results, Tryz.results81]
end Go.Proofs.YtgfbahjpaaanoaaGreatDoor
/-
  ParseDate, both its ways; its law.
-/
namespace Go.Proofs.YtgfbahjpaaanoaaGreatDoor
open Go.ChangeShapes Go.WideShapes Go.ChangeAt Go.RowKit Go.Sort
open num
set_option maxHeartbeats 2000000 in
theorem implParseDate (s : ByteArray) (w : World) (hp : PowIs w) :
    Calls Tryz.prog 54 #[.string s] w fun e w' => e = .returned (.agg #[.int .i64 (pdC s), .int .i64 (pdV s)]) ∧ Below w.heap.size w w' := by
  have hmf : ∀ (fn : Fn) (first cap : Array Value) (w : World), (Instr.makeFunc fn first cap).run Tryz.prog w = .ok (.func fn first cap) w := fun _ _ _ _ => rfl
  have HS : Hid (∀ W, Below w.heap.size w W → Calls Tryz.prog 82 #[.string s] W fun e w' => SecOr s e ∧ Below W.heap.size W w') := fun W hb => secondsIn_any s W (hp.below hb)
  clear hp
  go_enter_defers Tryz.func54, Tryz.ntmps54
  go_wp2_with fail
  refine (HS.out _ ((Below.refl _ _).alloc (Nat.le_refl _) _)).mono ?_
  rintro e w1 ⟨h, hb⟩
  have KR : Hid (Room2 w1 w.heap.size 0 0) := (room2_new w 0 0 34).keep hb
  have KB : Hid (Below w.heap.size w w1) := ((Below.refl _ _).alloc (Nat.le_refl _) _).trans (hb.mono (by simp))
  clear hb
  obtain ⟨r0, r1, rf0, rf1⟩ := KR.out
  rcases h with ⟨hz, m, hc, rfl⟩ | ⟨⟨u, pv, rfl⟩, hno⟩
  · have E : Hid (pdC s = 0 ∧ pdV s = parS s m) := pd_yes hz hc
    generalize parS s m = v at *
    clear hc hz
    obtain ⟨z0, z1⟩ := two_set (v0 := .int .i64 0) (v1 := .int .i64 v) r0 r1
    go_wp2_with fail
    refine leaves_cons (f := 81) (args := #[.pointer (some ⟨w.heap.size, 0, none⟩)]) (by simp) (by simp [go_sem]) ?_
    refine (catch_idle ⟨w.heap.size, 0, none⟩ _).mono ?_
    rintro e u' w'' ⟨rfl, rfl, rfl⟩
    simp [Leaves, settle, results, Tryz.results54, go_sem, z0, z1, E.out.1, E.out.2]
    exact (KB.out.setCell (Nat.le_refl _) _).setCell (Nat.le_refl _) _
  · have E : Hid (pdC s = 5 ∧ pdV s = 0) := pd_no hno
    clear hno
    obtain ⟨z0, z1⟩ := two_set (v0 := .int .i64 5) (v1 := .int .i64 0) r0 r1
    go_wp2_with fail
    refine leaves_cons (f := 81) (args := #[.pointer (some ⟨w.heap.size, 0, none⟩)]) (by simp) (by simp [go_sem]) ?_
    refine (catch_panicking w.heap.size 0 0 u pv [] _ KR.out).mono ?_
    rintro e u' w'' ⟨rfl, rfl, rfl⟩
    simp [Leaves, settle, results, Tryz.results54, go_sem, z0, z1, E.out.1, E.out.2]
    exact (KB.out.setCell (Nat.le_refl _) _).setCell (Nat.le_refl _) _
end Go.Proofs.YtgfbahjpaaanoaaGreatDoor
/-
  The model's policy: its parts.
-/
namespace Go.Proofs.YtgfbahjpaaanoaaGreatDoor
open Go.ChangeShapes Go.WideShapes Go.ChangeAt Go.RowKit Go.Sort
def RecIn (w : World) (a : Option Addr) (L : List Rec) : Prop := L = [] ∨ ∃ b off, a = some ⟨b, off, none⟩ ∧ ItemsAt w b off L
theorem RecIn.keep {w w' : World} {a : Option Addr} {L : List Rec} (h : RecIn w a L) (hb : Below w.heap.size w w') : RecIn w' a L := by
  rcases h with h | ⟨b, off, e, h⟩
  · exact .inl h
  · exact .inr ⟨b, off, e, h.keep hb⟩
theorem pret_int {a b : Int} (h : a = b) : Ending.returned (.int .i64 a) = Ending.returned (.int .i64 b) := by rw [h]
theorem l1Max_0 (w : World) (x : Int) : Calls Tryz.prog 66 #[.int .i64 x, .int .i64 0] w fun e w' => e = .returned (.int .i64 (max0 x)) ∧ w' = w := by
  by_cases h : 0 < x
  · have HE : Hid (max0 x = x) := if_neg (by omega)
    go_enter Tryz.func66, Tryz.ntmps66
    go_wp2
    go_ret
    exact ⟨pret_int HE.out.symm, rfl⟩
  · have HE : Hid (max0 x = 0) := by show _ = _; unfold max0; split <;> omega
    go_enter Tryz.func66, Tryz.ntmps66
    go_wp2
    go_ret
    exact ⟨pret_int HE.out.symm, rfl⟩
theorem l1Delta_all (s : ByteArray) (w : World) : Calls Tryz.prog 67 #[.string s] w fun e w' => e = .returned (.int .i64 (numD s)) ∧ w' = w := by
  by_cases c : s.size < 1 ∨ 64 < s.size
  · exact l1Delta_size s w c
  · exact l1Delta_any s w (by omega) (by omega)
set_option maxHeartbeats 1000000 in
theorem l6Has_any (w : World) (a : Option Addr) (cap : Nat) (L : List Rec) (nm : ByteArray) (hl : L.length ≤ 1048576) (hnm : nm.size ≤ 1048576) (hs : ShortNames L) (hi : RecIn w a L) :
    Calls Tryz.prog 69 #[.slice a L.length cap, .string nm] w fun e w' => e = .returned (.bool (hasR nm L)) ∧ Below w.heap.size w w' := by
  have H := l2Find_any w a cap L nm hl hnm hs hi
  have HE : Hid (hasR nm L = decide (0 ≤ findR nm 0 L)) := rfl
  clear hi hs
  generalize hasR nm L = hr at *
  generalize findR nm 0 L = f at *
  generalize L.length = n at *
  go_enter Tryz.func69, Tryz.ntmps69
  go_wp2_with fail
  refine H.mono ?_
  rintro e w1 ⟨rfl, hb⟩
  have HB : Hid (Below w.heap.size w w1) := hb
  clear hb H
  go_wp2_with fail
  go_ret
  exact ⟨by rw [HE.out]; rfl, HB.out⟩
set_option maxRecDepth 100000 in
set_option maxHeartbeats 4000000 in
theorem l6Seconds_any (w : World) (a : Option Addr) (cap : Nat) (L : List Rec) (nm : ByteArray) (hl : L.length ≤ 1048576) (hnm : nm.size ≤ 1048576) (hs : ShortNames L) (hi : RecIn w a L) :
    Calls Tryz.prog 70 #[.slice a L.length cap, .string nm] w fun e w' => e = .returned (.int .i64 (secR nm L)) ∧ Below w.heap.size w w' := by
  have H := l2Find_any w a cap L nm hl hnm hs hi
  have HI : Hid (RecIn w a L) := hi
  have hlt := findR_lt nm L 0
  clear hi hs
  by_cases h0 : findR nm 0 L < 0
  · have HE : Hid (secR nm L = 0) := secR_none h0
    generalize secR nm L = sv at *
    generalize findR nm 0 L = f at *
    generalize L.length = n at *
    have h1 : decide (f < 0) = true := by simpa using h0
    go_enter Tryz.func70, Tryz.ntmps70
    go_wp2_with fail
    refine H.mono ?_
    rintro e w1 ⟨rfl, hb⟩
    have HB : Hid (Below w.heap.size w w1) := hb
    clear hb H
    have HB2 := HB
    go_wp2_with fail
    go_ret
    exact ⟨pret_int HE.out.symm, HB2.out⟩
  · obtain ⟨k, hk⟩ : ∃ k : Nat, findR nm 0 L = (k : Int) := ⟨(findR nm 0 L).toNat, by omega⟩
    have hkl : k < L.length := by omega
    obtain ⟨r, hr⟩ : ∃ r, L[k]? = some r := ⟨L[k], List.getElem?_eq_getElem hkl⟩
    have HE : Hid (secR nm L = if r.has = true then secD r.value else 0) := secR_at hk hr
    rcases HI.out with h | ⟨b, off, rfl, hat⟩
    · subst h; simp at hkl
    have HAT : Hid (∀ W, Below w.heap.size w W → W.cell? ⟨b, off + k * 3 + 1, none⟩ = some (.bool r.has) ∧ W.cell? ⟨b, off + k * 3 + 2, none⟩ = some (.string r.value)) := fun W hb => ((hat.keep hb) k r hr).2
    clear hat HI hr hlt
    rw [hk] at H
    clear hk h0
    generalize secR nm L = sv at *
    generalize L.length = n at *
    obtain ⟨rn, rh, rv⟩ := r
    have HD : Hid (∀ W, Calls Tryz.prog 67 #[.string rv] W fun e w' => e = .returned (.int .i64 (numD rv)) ∧ w' = W) := l1Delta_all rv
    have HM : Hid (∀ W, Calls Tryz.prog 66 #[.int .i64 (numD rv), .int .i64 0] W fun e w' => e = .returned (.int .i64 (max0 (numD rv))) ∧ w' = W) := fun W => l1Max_0 W _
    have hmb := max0_bd (numD_hi rv) (by omega)
    have HSD : Hid (secD rv = max0 (numD rv) * 1000) := rfl
    generalize secD rv = sd at *
    generalize max0 (numD rv) = mx at *
    generalize numD rv = nd at *
    have hw : IntKind.i64.wrap (mx * 1000) = mx * 1000 := by rw [IntKind.wrap_i64]; omega
    have g0 : (0 : Int) ≤ (k : Int) := by omega
    have g1 : (k : Int) < (n : Int) := by omega
    have h1 : decide ((k : Int) < 0) = false := by simp
    go_enter Tryz.func70, Tryz.ntmps70
    go_wp2_with fail
    refine H.mono ?_
    rintro e w1 ⟨rfl, hb⟩
    have HB : Hid (Below w.heap.size w w1) := hb
    clear hb H
    have p0 := (HAT.out _ HB.out).1
    have HB2 := HB
    have p2 := (HAT.out _ HB2.out).2
    cases rh
    · have HE0 : Hid (sv = 0) := by show _ = _; rw [HE.out]; rfl
      clear HE
      go_wp2_with fail
      go_ret
      exact ⟨pret_int HE0.out.symm, HB2.out⟩
    · have HE0 : Hid (sv = mx * 1000) := by show _ = _; rw [HE.out, ← HSD.out]; rfl
      clear HE
      go_wp2_with fail
      refine (HD.out _).mono ?_
      rintro e w3 ⟨rfl, rfl⟩
      go_wp2_with fail
      refine (HM.out _).mono ?_
      rintro e w4 ⟨rfl, rfl⟩
      go_wp2_with fail
      go_ret
      exact ⟨pret_int HE0.out.symm, HB2.out⟩
theorem expX_none {db : Bool} {e d : Int} : expX false db e d = -1 := rfl
theorem expX_zero {db : Bool} {e d : Int} (h : db = false ∨ e < 0 ∨ d < 0) : expX true db e d = 0 := by rw [expX, if_neg (by decide), if_pos h]
theorem expX_some {e d : Int} (h1 : ¬ e < 0) (h2 : ¬ d < 0) : expX true true e d = max0 (e - d) * 1000 := by rw [expX, if_neg (by decide), if_neg (by simp; omega)]
set_option maxRecDepth 100000 in
set_option maxHeartbeats 4000000 in
theorem l6Expires_any (w : World) (a : Option Addr) (cap : Nat) (l : List Hdr) (h0 : headsC l = 0) (hi : HdsIn w a l) :
    Calls Tryz.prog 71 #[.slice a l.length cap] w fun e w' => e = .returned (.int .i64 (expD l)) ∧ Below w.heap.size w w' := by
  obtain ⟨h20, hz⟩ := first_sizes h0
  have H1 : Hid (∀ W, Below w.heap.size w W → Calls Tryz.prog 65 #[.slice a l.length cap, .string ⟨#[101, 120, 112, 105, 114, 101, 115]⟩] W fun e w' => e = .returned (.tuple #[.string (firstV expN l), .bool (firstB expN l)]) ∧ Below W.heap.size W w') := fun W hb => by
    have := l6First_any W a cap l ⟨#[101, 120, 112, 105, 114, 101, 115]⟩ h20 hz (by decide) (hi.keep hb)
    rw [expS_low] at this
    exact this
  have H2 : Hid (∀ W, Below w.heap.size w W → Calls Tryz.prog 65 #[.slice a l.length cap, .string ⟨#[100, 97, 116, 101]⟩] W fun e w' => e = .returned (.tuple #[.string (firstV datN l), .bool (firstB datN l)]) ∧ Below W.heap.size W w') := fun W hb => by
    have := l6First_any W a cap l ⟨#[100, 97, 116, 101]⟩ h20 hz (by decide) (hi.keep hb)
    rw [datS_low] at this
    exact this
  have HE : Hid (expD l = expX (firstB expN l) (firstB datN l) (parI (firstV expN l)) (parI (firstV datN l))) := rfl
  clear hi hz h0 h20
  generalize expD l = xd at *
  generalize firstV expN l = ev at *
  generalize firstV datN l = dv at *
  generalize firstB expN l = eb at *
  generalize firstB datN l = db at *
  generalize l.length = n at *
  have HPE : Hid (∀ W, Calls Tryz.prog 93 #[.string ev] W fun e w' => e = .returned (.int .i64 (parI ev)) ∧ Below W.heap.size W w') := l3Parse_any ev
  have HPD : Hid (∀ W, Calls Tryz.prog 93 #[.string dv] W fun e w' => e = .returned (.int .i64 (parI dv)) ∧ Below W.heap.size W w') := l3Parse_any dv
  have be := parI_bd ev
  have bd := parI_bd dv
  generalize parI ev = pe at *
  generalize parI dv = pd at *
  go_enter Tryz.func71, Tryz.ntmps71
  go_wp2_with fail
  refine (H1.out _ (Below.refl _ _)).mono ?_
  rintro e w1 ⟨rfl, hb1⟩
  have HB1 : Hid (Below w.heap.size w w1) := hb1
  clear hb1 H1
  cases eb
  · have HX : Hid (xd = -1) := HE.out
    clear HE
    go_wp2_with fail
    go_ret
    exact ⟨pret_int HX.out.symm, HB1.out⟩
  go_wp2_with fail
  refine (H2.out _ HB1.out).mono ?_
  rintro e w2 ⟨rfl, hb2⟩
  have HB2 : Hid (Below w.heap.size w w2) := HB1.out.trans (hb2.mono HB1.out.size)
  clear hb2 H2 HB1
  cases db
  · have HX : Hid (xd = 0) := HE.out.trans (expX_zero (.inl rfl))
    clear HE
    go_wp2_with fail
    go_ret
    exact ⟨pret_int HX.out.symm, HB2.out⟩
  go_wp2_with fail
  refine (HPE.out _).mono ?_
  rintro e w3 ⟨rfl, hb3⟩
  have HB3 : Hid (Below w.heap.size w w3) := HB2.out.trans (hb3.mono HB2.out.size)
  clear hb3 HB2
  by_cases he : pe < 0
  · have HX : Hid (xd = 0) := HE.out.trans (expX_zero (.inr (.inl he)))
    have hd : decide (pe < 0) = true := by simpa using he
    clear HE
    go_wp2_with fail
    go_ret
    exact ⟨pret_int HX.out.symm, HB3.out⟩
  have hde : decide (pe < 0) = false := by simpa using he
  go_wp2_with fail
  refine (HPD.out _).mono ?_
  rintro e w4 ⟨rfl, hb4⟩
  have HB4 : Hid (Below w.heap.size w w4) := HB3.out.trans (hb4.mono HB3.out.size)
  clear hb4 HB3
  by_cases hd0 : pd < 0
  · have HX : Hid (xd = 0) := HE.out.trans (expX_zero (.inr (.inr hd0)))
    have hd : decide (pd < 0) = true := by simpa using hd0
    clear HE
    go_wp2_with fail
    go_ret
    exact ⟨pret_int HX.out.symm, HB4.out⟩
  have hdd : decide (pd < 0) = false := by simpa using hd0
  have HX : Hid (xd = max0 (pe - pd) * 1000) := HE.out.trans (expX_some (by omega) (by omega))
  clear HE
  go_wp2_with fail
  refine (HPE.out _).mono ?_
  rintro e w5 ⟨rfl, hb5⟩
  have HB5 : Hid (Below w.heap.size w w5) := HB4.out.trans (hb5.mono HB4.out.size)
  clear hb5 HB4 HPE
  go_wp2_with fail
  refine (HPD.out _).mono ?_
  rintro e w6 ⟨rfl, hb6⟩
  have HB6 : Hid (Below w.heap.size w w6) := HB5.out.trans (hb6.mono HB5.out.size)
  clear hb6 HB5 HPD
  have hw1 : IntKind.i64.wrap (pe - pd) = pe - pd := by rw [IntKind.wrap_i64]; omega
  have HM := fun W => l1Max_0 W (pe - pd)
  have hmb := max0_bd (x := pe - pd) (m := 253402300799) (by omega) (by omega)
  generalize max0 (pe - pd) = mx at *
  have hw : IntKind.i64.wrap (mx * 1000) = mx * 1000 := by rw [IntKind.wrap_i64]; omega
  go_wp2_with fail
  refine (HM _).mono ?_
  rintro e w7 ⟨rfl, rfl⟩
  go_wp2_with fail
  go_ret
  exact ⟨pret_int HX.out.symm, HB6.out⟩
end Go.Proofs.YtgfbahjpaaanoaaGreatDoor
/-
  The model's policy.
-/
namespace Go.Proofs.YtgfbahjpaaanoaaGreatDoor
open Go.ChangeShapes Go.WideShapes Go.ChangeAt Go.RowKit Go.Sort
section
variable {W : World} {b : Nat} {b0 b1 b2 : Bool} {l s e g : Int}
theorem PolAt.off (k : PolAt W b b0 b1 b2 l s e g) {B i : Nat} {x : Value} (h : B ≠ b) : PolAt (W.setCell ⟨B, i, none⟩ x) b b0 b1 b2 l s e g := by
  have ne : ∀ o : Nat, (⟨B, i, none⟩ : Addr) ≠ ⟨b, o, none⟩ := fun o q => h (congrArg Addr.block q)
  exact ⟨by rw [World.cell?_setCell_other _ _ _ _ (ne _)]; exact k.c0, by rw [World.cell?_setCell_other _ _ _ _ (ne _)]; exact k.c1, by rw [World.cell?_setCell_other _ _ _ _ (ne _)]; exact k.c2, by rw [World.cell?_setCell_other _ _ _ _ (ne _)]; exact k.c3, by rw [World.cell?_setCell_other _ _ _ _ (ne _)]; exact k.c4, by rw [World.cell?_setCell_other _ _ _ _ (ne _)]; exact k.c5, by rw [World.cell?_setCell_other _ _ _ _ (ne _)]; exact k.c6, fun o => by rw [World.frozen?_setCell]; exact k.fr o, by simpa using k.lt⟩
theorem PolAt.set0 (k : PolAt W b b0 b1 b2 l s e g) (x : Bool) : PolAt (W.setCell ⟨b, 0, none⟩ (.bool x)) b x b1 b2 l s e g :=
  ⟨World.cell?_setCell_same _ _ _ k.c0, by rw [World.cell?_setCell_other _ _ _ _ (by intro q; have := congrArg Addr.off q; simp at this)]; exact k.c1, by rw [World.cell?_setCell_other _ _ _ _ (by intro q; have := congrArg Addr.off q; simp at this)]; exact k.c2, by rw [World.cell?_setCell_other _ _ _ _ (by intro q; have := congrArg Addr.off q; simp at this)]; exact k.c3, by rw [World.cell?_setCell_other _ _ _ _ (by intro q; have := congrArg Addr.off q; simp at this)]; exact k.c4, by rw [World.cell?_setCell_other _ _ _ _ (by intro q; have := congrArg Addr.off q; simp at this)]; exact k.c5, by rw [World.cell?_setCell_other _ _ _ _ (by intro q; have := congrArg Addr.off q; simp at this)]; exact k.c6, fun o => by rw [World.frozen?_setCell]; exact k.fr o, by simpa using k.lt⟩
theorem PolAt.set1 (k : PolAt W b b0 b1 b2 l s e g) (x : Bool) : PolAt (W.setCell ⟨b, 1, none⟩ (.bool x)) b b0 x b2 l s e g :=
  ⟨by rw [World.cell?_setCell_other _ _ _ _ (by intro q; have := congrArg Addr.off q; simp at this)]; exact k.c0, World.cell?_setCell_same _ _ _ k.c1, by rw [World.cell?_setCell_other _ _ _ _ (by intro q; have := congrArg Addr.off q; simp at this)]; exact k.c2, by rw [World.cell?_setCell_other _ _ _ _ (by intro q; have := congrArg Addr.off q; simp at this)]; exact k.c3, by rw [World.cell?_setCell_other _ _ _ _ (by intro q; have := congrArg Addr.off q; simp at this)]; exact k.c4, by rw [World.cell?_setCell_other _ _ _ _ (by intro q; have := congrArg Addr.off q; simp at this)]; exact k.c5, by rw [World.cell?_setCell_other _ _ _ _ (by intro q; have := congrArg Addr.off q; simp at this)]; exact k.c6, fun o => by rw [World.frozen?_setCell]; exact k.fr o, by simpa using k.lt⟩
theorem PolAt.set2 (k : PolAt W b b0 b1 b2 l s e g) (x : Bool) : PolAt (W.setCell ⟨b, 2, none⟩ (.bool x)) b b0 b1 x l s e g :=
  ⟨by rw [World.cell?_setCell_other _ _ _ _ (by intro q; have := congrArg Addr.off q; simp at this)]; exact k.c0, by rw [World.cell?_setCell_other _ _ _ _ (by intro q; have := congrArg Addr.off q; simp at this)]; exact k.c1, World.cell?_setCell_same _ _ _ k.c2, by rw [World.cell?_setCell_other _ _ _ _ (by intro q; have := congrArg Addr.off q; simp at this)]; exact k.c3, by rw [World.cell?_setCell_other _ _ _ _ (by intro q; have := congrArg Addr.off q; simp at this)]; exact k.c4, by rw [World.cell?_setCell_other _ _ _ _ (by intro q; have := congrArg Addr.off q; simp at this)]; exact k.c5, by rw [World.cell?_setCell_other _ _ _ _ (by intro q; have := congrArg Addr.off q; simp at this)]; exact k.c6, fun o => by rw [World.frozen?_setCell]; exact k.fr o, by simpa using k.lt⟩
theorem PolAt.set3 (k : PolAt W b b0 b1 b2 l s e g) (x : Int) : PolAt (W.setCell ⟨b, 3, none⟩ (.int .i64 x)) b b0 b1 b2 x s e g :=
  ⟨by rw [World.cell?_setCell_other _ _ _ _ (by intro q; have := congrArg Addr.off q; simp at this)]; exact k.c0, by rw [World.cell?_setCell_other _ _ _ _ (by intro q; have := congrArg Addr.off q; simp at this)]; exact k.c1, by rw [World.cell?_setCell_other _ _ _ _ (by intro q; have := congrArg Addr.off q; simp at this)]; exact k.c2, World.cell?_setCell_same _ _ _ k.c3, by rw [World.cell?_setCell_other _ _ _ _ (by intro q; have := congrArg Addr.off q; simp at this)]; exact k.c4, by rw [World.cell?_setCell_other _ _ _ _ (by intro q; have := congrArg Addr.off q; simp at this)]; exact k.c5, by rw [World.cell?_setCell_other _ _ _ _ (by intro q; have := congrArg Addr.off q; simp at this)]; exact k.c6, fun o => by rw [World.frozen?_setCell]; exact k.fr o, by simpa using k.lt⟩
theorem PolAt.set4 (k : PolAt W b b0 b1 b2 l s e g) (x : Int) : PolAt (W.setCell ⟨b, 4, none⟩ (.int .i64 x)) b b0 b1 b2 l x e g :=
  ⟨by rw [World.cell?_setCell_other _ _ _ _ (by intro q; have := congrArg Addr.off q; simp at this)]; exact k.c0, by rw [World.cell?_setCell_other _ _ _ _ (by intro q; have := congrArg Addr.off q; simp at this)]; exact k.c1, by rw [World.cell?_setCell_other _ _ _ _ (by intro q; have := congrArg Addr.off q; simp at this)]; exact k.c2, by rw [World.cell?_setCell_other _ _ _ _ (by intro q; have := congrArg Addr.off q; simp at this)]; exact k.c3, World.cell?_setCell_same _ _ _ k.c4, by rw [World.cell?_setCell_other _ _ _ _ (by intro q; have := congrArg Addr.off q; simp at this)]; exact k.c5, by rw [World.cell?_setCell_other _ _ _ _ (by intro q; have := congrArg Addr.off q; simp at this)]; exact k.c6, fun o => by rw [World.frozen?_setCell]; exact k.fr o, by simpa using k.lt⟩
theorem PolAt.set5 (k : PolAt W b b0 b1 b2 l s e g) (x : Int) : PolAt (W.setCell ⟨b, 5, none⟩ (.int .i64 x)) b b0 b1 b2 l s x g :=
  ⟨by rw [World.cell?_setCell_other _ _ _ _ (by intro q; have := congrArg Addr.off q; simp at this)]; exact k.c0, by rw [World.cell?_setCell_other _ _ _ _ (by intro q; have := congrArg Addr.off q; simp at this)]; exact k.c1, by rw [World.cell?_setCell_other _ _ _ _ (by intro q; have := congrArg Addr.off q; simp at this)]; exact k.c2, by rw [World.cell?_setCell_other _ _ _ _ (by intro q; have := congrArg Addr.off q; simp at this)]; exact k.c3, by rw [World.cell?_setCell_other _ _ _ _ (by intro q; have := congrArg Addr.off q; simp at this)]; exact k.c4, World.cell?_setCell_same _ _ _ k.c5, by rw [World.cell?_setCell_other _ _ _ _ (by intro q; have := congrArg Addr.off q; simp at this)]; exact k.c6, fun o => by rw [World.frozen?_setCell]; exact k.fr o, by simpa using k.lt⟩
theorem PolAt.set6 (k : PolAt W b b0 b1 b2 l s e g) (x : Int) : PolAt (W.setCell ⟨b, 6, none⟩ (.int .i64 x)) b b0 b1 b2 l s e x :=
  ⟨by rw [World.cell?_setCell_other _ _ _ _ (by intro q; have := congrArg Addr.off q; simp at this)]; exact k.c0, by rw [World.cell?_setCell_other _ _ _ _ (by intro q; have := congrArg Addr.off q; simp at this)]; exact k.c1, by rw [World.cell?_setCell_other _ _ _ _ (by intro q; have := congrArg Addr.off q; simp at this)]; exact k.c2, by rw [World.cell?_setCell_other _ _ _ _ (by intro q; have := congrArg Addr.off q; simp at this)]; exact k.c3, by rw [World.cell?_setCell_other _ _ _ _ (by intro q; have := congrArg Addr.off q; simp at this)]; exact k.c4, by rw [World.cell?_setCell_other _ _ _ _ (by intro q; have := congrArg Addr.off q; simp at this)]; exact k.c5, World.cell?_setCell_same _ _ _ k.c6, fun o => by rw [World.frozen?_setCell]; exact k.fr o, by simpa using k.lt⟩
end
/-- What stands while a policy is told: the result's block, the policy's, the items. -/
structure PK (w : World) (b0 b1 b2 : Bool) (l s e g : Int) (ia : Option Addr) (n k : Nat) (L : List Rec) (X : World) : Prop where
  b : Below w.heap.size w X
  z : PolAt X w.heap.size false false false 0 0 0 0
  p : PolAt X (w.heap.size + 1) b0 b1 b2 l s e g
  o : OwnI X (w.heap.size + 2) (.slice ia n k) L
section
variable {w : World} {b0 b1 b2 : Bool} {l s e g : Int} {ia : Option Addr} {n k : Nat} {L : List Rec} {X Y : World}
theorem PK.keep (q : PK w b0 b1 b2 l s e g ia n k L X) (hb : Below X.heap.size X Y) : PK w b0 b1 b2 l s e g ia n k L Y :=
  ⟨q.b.trans (hb.mono q.b.size), q.z.keep hb, q.p.keep hb, q.o.below hb⟩
theorem PK.its (q : PK w b0 b1 b2 l s e g ia n k L X) : n = L.length ∧ RecIn X ia L := by
  obtain ⟨a', c', h, hi⟩ := q.o.at
  simp only [Value.slice.injEq] at h
  exact ⟨h.2.1, by rw [h.1]; exact hi⟩
theorem PK.set0 (q : PK w b0 b1 b2 l s e g ia n k L X) (x : Bool) : PK w x b1 b2 l s e g ia n k L (X.setCell ⟨w.heap.size + 1, 0, none⟩ (.bool x)) :=
  ⟨q.b.setCell (by show w.heap.size ≤ w.heap.size + 1; omega) _, q.z.off (by omega), q.p.set0 x, own_set q.o (by omega)⟩
theorem PK.set1 (q : PK w b0 b1 b2 l s e g ia n k L X) (x : Bool) : PK w b0 x b2 l s e g ia n k L (X.setCell ⟨w.heap.size + 1, 1, none⟩ (.bool x)) :=
  ⟨q.b.setCell (by show w.heap.size ≤ w.heap.size + 1; omega) _, q.z.off (by omega), q.p.set1 x, own_set q.o (by omega)⟩
theorem PK.set2 (q : PK w b0 b1 b2 l s e g ia n k L X) (x : Bool) : PK w b0 b1 x l s e g ia n k L (X.setCell ⟨w.heap.size + 1, 2, none⟩ (.bool x)) :=
  ⟨q.b.setCell (by show w.heap.size ≤ w.heap.size + 1; omega) _, q.z.off (by omega), q.p.set2 x, own_set q.o (by omega)⟩
theorem PK.set3 (q : PK w b0 b1 b2 l s e g ia n k L X) (x : Int) : PK w b0 b1 b2 x s e g ia n k L (X.setCell ⟨w.heap.size + 1, 3, none⟩ (.int .i64 x)) :=
  ⟨q.b.setCell (by show w.heap.size ≤ w.heap.size + 1; omega) _, q.z.off (by omega), q.p.set3 x, own_set q.o (by omega)⟩
theorem PK.set4 (q : PK w b0 b1 b2 l s e g ia n k L X) (x : Int) : PK w b0 b1 b2 l x e g ia n k L (X.setCell ⟨w.heap.size + 1, 4, none⟩ (.int .i64 x)) :=
  ⟨q.b.setCell (by show w.heap.size ≤ w.heap.size + 1; omega) _, q.z.off (by omega), q.p.set4 x, own_set q.o (by omega)⟩
theorem PK.set5 (q : PK w b0 b1 b2 l s e g ia n k L X) (x : Int) : PK w b0 b1 b2 l s x g ia n k L (X.setCell ⟨w.heap.size + 1, 5, none⟩ (.int .i64 x)) :=
  ⟨q.b.setCell (by show w.heap.size ≤ w.heap.size + 1; omega) _, q.z.off (by omega), q.p.set5 x, own_set q.o (by omega)⟩
theorem PK.set6 (q : PK w b0 b1 b2 l s e g ia n k L X) (x : Int) : PK w b0 b1 b2 l s e x ia n k L (X.setCell ⟨w.heap.size + 1, 6, none⟩ (.int .i64 x)) :=
  ⟨q.b.setCell (by show w.heap.size ≤ w.heap.size + 1; omega) _, q.z.off (by omega), q.p.set6 x, own_set q.o (by omega)⟩
theorem PK.done (q : PK w b0 b1 b2 l s e g ia n k L X) : PolAt (((((((X.setCell ⟨w.heap.size, 0, none⟩ (.bool b0)).setCell ⟨w.heap.size, 1, none⟩ (.bool b1)).setCell ⟨w.heap.size, 2, none⟩ (.bool b2)).setCell ⟨w.heap.size, 3, none⟩ (.int .i64 l)).setCell ⟨w.heap.size, 4, none⟩ (.int .i64 s)).setCell ⟨w.heap.size, 5, none⟩ (.int .i64 e)).setCell ⟨w.heap.size, 6, none⟩ (.int .i64 g)) w.heap.size b0 b1 b2 l s e g ∧ Below w.heap.size w (((((((X.setCell ⟨w.heap.size, 0, none⟩ (.bool b0)).setCell ⟨w.heap.size, 1, none⟩ (.bool b1)).setCell ⟨w.heap.size, 2, none⟩ (.bool b2)).setCell ⟨w.heap.size, 3, none⟩ (.int .i64 l)).setCell ⟨w.heap.size, 4, none⟩ (.int .i64 s)).setCell ⟨w.heap.size, 5, none⟩ (.int .i64 e)).setCell ⟨w.heap.size, 6, none⟩ (.int .i64 g)) :=
  ⟨((((((q.z.set0 b0).set1 b1).set2 b2).set3 l).set4 s).set5 e).set6 g, ((((((q.b.setCell (Nat.le_refl _) _).setCell (Nat.le_refl _) _).setCell (Nat.le_refl _) _).setCell (Nat.le_refl _) _).setCell (Nat.le_refl _) _).setCell (Nat.le_refl _) _).setCell (Nat.le_refl _) _⟩
end
def polV (q : Pol) : Value := .agg #[.bool q.b0, .bool q.b1, .bool q.b2, .int .i64 q.l, .int .i64 q.s, .int .i64 q.e, .int .i64 q.g]
theorem polV_ret {q : Pol} {b0 b1 b2 : Bool} {l s e g : Int} (h : q = ⟨b0, b1, b2, l, s, e, g⟩) : Ending.returned (.agg #[.bool b0, .bool b1, .bool b2, .int .i64 l, .int .i64 s, .int .i64 e, .int .i64 g]) = .returned (polV q) := by rw [h]; rfl
set_option maxRecDepth 100000 in
set_option maxHeartbeats 16000000 in
theorem l6Policy_any (w : World) (a : Option Addr) (cap : Nat) (l : List Hdr) (h0 : headsC l = 0) (hi : HdsIn w a l) :
    Calls Tryz.prog 30 #[.slice a l.length cap] w fun e w' => e = .returned (polV (polOf l)) ∧ Below w.heap.size w w' := by
  obtain ⟨h20, hz⟩ := first_sizes h0
  have HF : Hid (∀ W, Below w.heap.size w W → Calls Tryz.prog 65 #[.slice a l.length cap, .string ⟨#[97, 103, 101]⟩] W fun e w' => e = .returned (.tuple #[.string (firstV ageN l), .bool (firstB ageN l)]) ∧ Below W.heap.size W w') := fun W hb => by
    have := l6First_any W a cap l ⟨#[97, 103, 101]⟩ h20 hz (by decide) (hi.keep hb)
    rw [ageS_low] at this
    exact this
  have HI : Hid (∀ W, Below w.heap.size w W → Calls Tryz.prog 68 #[.slice a l.length cap, .string ⟨#[99, 97, 99, 104, 101, 45, 99, 111, 110, 116, 114, 111, 108]⟩] W fun e w' => (∃ ia n k, e = .returned (.tuple #[.slice ia n k, .bool (decide (parseC (underT ccN l) = 0))]) ∧ OwnI w' W.heap.size (.slice ia n k) (parseL (underT ccN l))) ∧ Below W.heap.size W w') := fun W hb => by
    have := l6Items_any W a cap l ⟨#[99, 97, 99, 104, 101, 45, 99, 111, 110, 116, 114, 111, 108]⟩ h0 (by decide) (hi.keep hb)
    rw [ccS_low] at this
    exact this
  have HX : Hid (∀ W, Below w.heap.size w W → Calls Tryz.prog 71 #[.slice a l.length cap] W fun e w' => e = .returned (.int .i64 (expD l)) ∧ Below W.heap.size W w') := fun W hb => l6Expires_any W a cap l h0 (hi.keep hb)
  have HSH : Hid (ShortNames (parseL (underT ccN l)) ∧ (parseL (underT ccN l)).length ≤ 1048576) := ⟨fun i r hr => by
    have := hword_max (parse_word (List.mem_of_getElem? hr))
    omega, by have := parseL_len (underT ccN l); omega⟩
  have HP0 : Hid (parseC (underT ccN l) = 0 → polOf l = ⟨hasR kNoStore (parseL (underT ccN l)) || hasR kPrivate (parseL (underT ccN l)), hasR kNoCache (parseL (underT ccN l)), mustR (parseL (underT ccN l)), lifeR (parseL (underT ccN l)) (expD l), if mustR (parseL (underT ccN l)) = true then 0 else secR kSwr (parseL (underT ccN l)), if mustR (parseL (underT ccN l)) = true then 0 else secR kSie (parseL (underT ccN l)), ageD l⟩) := fun h => by rw [polOf, if_pos h]
  have HP1 : Hid (¬ parseC (underT ccN l) = 0 → polOf l = ⟨true, false, false, 0, 0, 0, ageD l⟩) := fun h => by rw [polOf, if_neg h]
  have HAG : Hid (ageD l = if firstB ageN l = true then secD (firstV ageN l) else 0) := rfl
  clear hi hz h0 h20
  generalize polOf l = PO at *
  generalize ageD l = ag at *
  generalize expD l = xd at *
  generalize firstV ageN l = av at *
  generalize firstB ageN l = ab at *
  generalize parseC (underT ccN l) = pc at *
  generalize parseL (underT ccN l) = L at *
  generalize l.length = ln at *
  have HD : Hid (∀ W, Calls Tryz.prog 67 #[.string av] W fun e w' => e = .returned (.int .i64 (numD av)) ∧ w' = W) := l1Delta_all av
  have HM : Hid (∀ W, Calls Tryz.prog 66 #[.int .i64 (numD av), .int .i64 0] W fun e w' => e = .returned (.int .i64 (max0 (numD av))) ∧ w' = W) := fun W => l1Max_0 W _
  have hmb := max0_bd (numD_hi av) (by omega)
  have HSD : Hid (secD av = max0 (numD av) * 1000) := rfl
  generalize secD av = sd at *
  generalize max0 (numD av) = mx at *
  generalize numD av = nd at *
  have hw : IntKind.i64.wrap (mx * 1000) = mx * 1000 := by rw [IntKind.wrap_i64]; omega
  obtain ⟨W0, hW0⟩ : ∃ X, Hid (X = (w.alloc (.cells #[.bool false, .bool false, .bool false, .int .i64 0, .int .i64 0, .int .i64 0, .int .i64 0] 27)).alloc (.cells #[.bool false, .bool false, .bool false, .int .i64 0, .int .i64 0, .int .i64 0, .int .i64 0] 27)) := ⟨_, rfl⟩
  have Q0 : Hid (PK w false false false 0 0 0 0 none 0 0 [] W0) := by
    rw [hW0.out]
    have a1 : Below w.heap.size w (w.alloc (.cells #[.bool false, .bool false, .bool false, .int .i64 0, .int .i64 0, .int .i64 0, .int .i64 0] 27)) := (Below.refl _ _).alloc (Nat.le_refl _) _
    have a2 : Below (w.alloc (.cells #[.bool false, .bool false, .bool false, .int .i64 0, .int .i64 0, .int .i64 0, .int .i64 0] 27)).heap.size (w.alloc (.cells #[.bool false, .bool false, .bool false, .int .i64 0, .int .i64 0, .int .i64 0, .int .i64 0] 27)) ((w.alloc (.cells #[.bool false, .bool false, .bool false, .int .i64 0, .int .i64 0, .int .i64 0, .int .i64 0] 27)).alloc (.cells #[.bool false, .bool false, .bool false, .int .i64 0, .int .i64 0, .int .i64 0, .int .i64 0] 27)) := (Below.refl _ _).alloc (Nat.le_refl _) _
    have n2 := PolAt.new (w.alloc (.cells #[.bool false, .bool false, .bool false, .int .i64 0, .int .i64 0, .int .i64 0, .int .i64 0] 27)) false false false 0 0 0 0 27
    rw [World.size_alloc] at n2
    exact ⟨a1.trans (a2.mono (by simp)), (PolAt.new w _ _ _ _ _ _ _ _).keep a2, n2, OwnI.nil _ _⟩
  go_enter Tryz.func30, Tryz.ntmps30
  go_upto_region 2 with fail
  rw [← hW0.out]
  clear hW0
  go_wp2_with fail
  refine (HF.out _ Q0.out.b).mono ?_
  rintro e w1 ⟨rfl, hb1⟩
  have Q01 : Hid (PK w false false false 0 0 0 0 none 0 0 [] w1) := Q0.out.keep hb1
  clear hb1 Q0 HF
  cases ab
  case' false =>
    have HA : Hid (ag = 0) := HAG.out
    go_upto_region 5 with fail
    have Q1 : Hid (PK w false false false 0 0 0 ag none 0 0 [] w1) := by rw [HA.out]; exact Q01.out
    clear Q01 HA HD HM HSD HAG hmb hw
  case' true =>
    have HA : Hid (ag = mx * 1000) := HAG.out.trans HSD.out
    go_wp2_with fail
    refine (HD.out _).mono ?_
    rintro e w3 ⟨rfl, rfl⟩
    go_wp2_with fail
    refine (HM.out _).mono ?_
    rintro e w4 ⟨rfl, rfl⟩
    have y6 := Q01.out.p.c6
    have yf := Q01.out.p.fr 6
    have Q1 : Hid (PK w false false false 0 0 0 ag none 0 0 [] (w4.setCell ⟨w.heap.size + 1, 6, none⟩ (.int .i64 (mx * 1000)))) := by
      have := Q01.out.set6 (mx * 1000)
      rw [← HA.out] at this ⊢
      exact this
    obtain ⟨w1, hw1⟩ : ∃ X, Hid (X = w4.setCell ⟨w.heap.size + 1, 6, none⟩ (.int .i64 (mx * 1000))) := ⟨_, rfl⟩
    rw [← hw1.out] at Q1
    clear Q01
    go_upto_region 5 with fail
    rw [← hw1.out]
    clear hw1 y6 yf HA HD HM HSD HAG hmb hw
  all_goals
    go_wp2_with fail
    refine (HI.out _ Q1.out.b).mono ?_
    rintro e w2 ⟨⟨ia, n, k, rfl, ho⟩, hb2⟩
    have Q2 : Hid (PK w false false false 0 0 0 ag ia n k L w2) := ⟨(Q1.out.keep hb2).b, (Q1.out.keep hb2).z, (Q1.out.keep hb2).p, ho.lower (by have := Q1.out.p.lt; omega)⟩
    clear hb2 ho Q1 HI
    by_cases hp : pc = 0
    · have HPO := HP0.out hp
      have hd : decide (pc = 0) = true := by simpa using hp
      rw [hd]
      have HPX : Hid (PO = ⟨hasR kNoStore L || hasR kPrivate L, hasR kNoCache L, mustR L, lifeR L xd, if mustR L = true then 0 else secR kSwr L, if mustR L = true then 0 else secR kSie L, ag⟩) := HPO
      clear HPO HP0 HP1 hd hp
      have HN : Hid (n = L.length) := Q2.out.its.1
      have CkNoStore : Hid (∀ X, RecIn X ia L → Calls Tryz.prog 69 #[.slice ia n k, .string ⟨#[110, 111, 45, 115, 116, 111, 114, 101]⟩] X fun e w' => e = .returned (.bool (hasR kNoStore L)) ∧ Below X.heap.size X w') := fun X h => by
        have := l6Has_any X ia k L ⟨#[110, 111, 45, 115, 116, 111, 114, 101]⟩ HSH.out.2 (by decide) HSH.out.1 h
        rw [← HN.out] at this
        exact this
      have CkPrivate : Hid (∀ X, RecIn X ia L → Calls Tryz.prog 69 #[.slice ia n k, .string ⟨#[112, 114, 105, 118, 97, 116, 101]⟩] X fun e w' => e = .returned (.bool (hasR kPrivate L)) ∧ Below X.heap.size X w') := fun X h => by
        have := l6Has_any X ia k L ⟨#[112, 114, 105, 118, 97, 116, 101]⟩ HSH.out.2 (by decide) HSH.out.1 h
        rw [← HN.out] at this
        exact this
      have CkNoCache : Hid (∀ X, RecIn X ia L → Calls Tryz.prog 69 #[.slice ia n k, .string ⟨#[110, 111, 45, 99, 97, 99, 104, 101]⟩] X fun e w' => e = .returned (.bool (hasR kNoCache L)) ∧ Below X.heap.size X w') := fun X h => by
        have := l6Has_any X ia k L ⟨#[110, 111, 45, 99, 97, 99, 104, 101]⟩ HSH.out.2 (by decide) HSH.out.1 h
        rw [← HN.out] at this
        exact this
      have CkMust : Hid (∀ X, RecIn X ia L → Calls Tryz.prog 69 #[.slice ia n k, .string ⟨#[109, 117, 115, 116, 45, 114, 101, 118, 97, 108, 105, 100, 97, 116, 101]⟩] X fun e w' => e = .returned (.bool (hasR kMust L)) ∧ Below X.heap.size X w') := fun X h => by
        have := l6Has_any X ia k L ⟨#[109, 117, 115, 116, 45, 114, 101, 118, 97, 108, 105, 100, 97, 116, 101]⟩ HSH.out.2 (by decide) HSH.out.1 h
        rw [← HN.out] at this
        exact this
      have CkProxy : Hid (∀ X, RecIn X ia L → Calls Tryz.prog 69 #[.slice ia n k, .string ⟨#[112, 114, 111, 120, 121, 45, 114, 101, 118, 97, 108, 105, 100, 97, 116, 101]⟩] X fun e w' => e = .returned (.bool (hasR kProxy L)) ∧ Below X.heap.size X w') := fun X h => by
        have := l6Has_any X ia k L ⟨#[112, 114, 111, 120, 121, 45, 114, 101, 118, 97, 108, 105, 100, 97, 116, 101]⟩ HSH.out.2 (by decide) HSH.out.1 h
        rw [← HN.out] at this
        exact this
      have CkSMax : Hid (∀ X, RecIn X ia L → Calls Tryz.prog 69 #[.slice ia n k, .string ⟨#[115, 45, 109, 97, 120, 97, 103, 101]⟩] X fun e w' => e = .returned (.bool (hasR kSMax L)) ∧ Below X.heap.size X w') := fun X h => by
        have := l6Has_any X ia k L ⟨#[115, 45, 109, 97, 120, 97, 103, 101]⟩ HSH.out.2 (by decide) HSH.out.1 h
        rw [← HN.out] at this
        exact this
      have CkMax : Hid (∀ X, RecIn X ia L → Calls Tryz.prog 69 #[.slice ia n k, .string ⟨#[109, 97, 120, 45, 97, 103, 101]⟩] X fun e w' => e = .returned (.bool (hasR kMax L)) ∧ Below X.heap.size X w') := fun X h => by
        have := l6Has_any X ia k L ⟨#[109, 97, 120, 45, 97, 103, 101]⟩ HSH.out.2 (by decide) HSH.out.1 h
        rw [← HN.out] at this
        exact this
      have SkSMax : Hid (∀ X, RecIn X ia L → Calls Tryz.prog 70 #[.slice ia n k, .string ⟨#[115, 45, 109, 97, 120, 97, 103, 101]⟩] X fun e w' => e = .returned (.int .i64 (secR kSMax L)) ∧ Below X.heap.size X w') := fun X h => by
        have := l6Seconds_any X ia k L ⟨#[115, 45, 109, 97, 120, 97, 103, 101]⟩ HSH.out.2 (by decide) HSH.out.1 h
        rw [← HN.out] at this
        exact this
      have SkMax : Hid (∀ X, RecIn X ia L → Calls Tryz.prog 70 #[.slice ia n k, .string ⟨#[109, 97, 120, 45, 97, 103, 101]⟩] X fun e w' => e = .returned (.int .i64 (secR kMax L)) ∧ Below X.heap.size X w') := fun X h => by
        have := l6Seconds_any X ia k L ⟨#[109, 97, 120, 45, 97, 103, 101]⟩ HSH.out.2 (by decide) HSH.out.1 h
        rw [← HN.out] at this
        exact this
      have SkSwr : Hid (∀ X, RecIn X ia L → Calls Tryz.prog 70 #[.slice ia n k, .string ⟨#[115, 116, 97, 108, 101, 45, 119, 104, 105, 108, 101, 45, 114, 101, 118, 97, 108, 105, 100, 97, 116, 101]⟩] X fun e w' => e = .returned (.int .i64 (secR kSwr L)) ∧ Below X.heap.size X w') := fun X h => by
        have := l6Seconds_any X ia k L ⟨#[115, 116, 97, 108, 101, 45, 119, 104, 105, 108, 101, 45, 114, 101, 118, 97, 108, 105, 100, 97, 116, 101]⟩ HSH.out.2 (by decide) HSH.out.1 h
        rw [← HN.out] at this
        exact this
      have SkSie : Hid (∀ X, RecIn X ia L → Calls Tryz.prog 70 #[.slice ia n k, .string ⟨#[115, 116, 97, 108, 101, 45, 105, 102, 45, 101, 114, 114, 111, 114]⟩] X fun e w' => e = .returned (.int .i64 (secR kSie L)) ∧ Below X.heap.size X w') := fun X h => by
        have := l6Seconds_any X ia k L ⟨#[115, 116, 97, 108, 101, 45, 105, 102, 45, 101, 114, 114, 111, 114]⟩ HSH.out.2 (by decide) HSH.out.1 h
        rw [← HN.out] at this
        exact this
      have HMU : Hid (mustR L = (hasR kMust L || hasR kProxy L || hasR kSMax L)) := rfl
      have HLI : Hid (lifeR L xd = if hasR kSMax L = true then secR kSMax L else if hasR kMax L = true then secR kMax L else xd) := rfl
      clear HSH HN
      generalize mustR L = mu at *
      generalize lifeR L xd = li at *
      generalize hasR kNoStore L = hkNoStore at *
      generalize hasR kPrivate L = hkPrivate at *
      generalize hasR kNoCache L = hkNoCache at *
      generalize hasR kMust L = hkMust at *
      generalize hasR kProxy L = hkProxy at *
      generalize hasR kSMax L = hkSMax at *
      generalize hasR kMax L = hkMax at *
      generalize secR kSMax L = skSMax at *
      generalize secR kMax L = skMax at *
      generalize secR kSwr L = skSwr at *
      generalize secR kSie L = skSie at *
      go_upto_region 9 with fail
      go_cut [] from 29 to 35 (fun wx => PK w (hkNoStore || hkPrivate) false false 0 0 0 ag ia n k L wx)
      case first =>
        go_wp2_with fail
        refine (CkNoStore.out _ Q2.out.its.2).mono ?_
        rintro e w3 ⟨rfl, hbq⟩
        have Q3 : Hid (PK w false false false 0 0 0 ag ia n k L w3) := Q2.out.keep hbq
        clear hbq Q2
        cases hkNoStore
        · go_wp2_with fail
          refine (CkPrivate.out _ Q3.out.its.2).mono ?_
          rintro e w4 ⟨rfl, hbq⟩
          have Q4 : Hid (PK w false false false 0 0 0 ag ia n k L w4) := Q3.out.keep hbq
          clear hbq Q3
          have y0 := Q4.out.p.c0
          have yf := Q4.out.p.fr 0
          have Q5 : Hid (PK w hkPrivate false false 0 0 0 ag ia n k L (w4.setCell ⟨w.heap.size + 1, 0, none⟩ (.bool hkPrivate))) := Q4.out.set0 _
          go_wp2_with fail
          go_meet
          exact Q5.out
        · have y0 := Q3.out.p.c0
          have yf := Q3.out.p.fr 0
          have Q5 : Hid (PK w true false false 0 0 0 ag ia n k L (w3.setCell ⟨w.heap.size + 1, 0, none⟩ (.bool true))) := Q3.out.set0 _
          go_wp2_with fail
          go_meet
          exact Q5.out
      case rest =>
      have Q3 : Hid (PK w (hkNoStore || hkPrivate) false false 0 0 0 ag ia n k L wc) := hcut
      clear hcut Q2 CkNoStore CkPrivate
      generalize hns : (hkNoStore || hkPrivate) = ns at *
      generalize wc = w3 at *
      go_wp2_with fail
      refine (CkNoCache.out _ Q3.out.its.2).mono ?_
      rintro e w4 ⟨rfl, hbq⟩
      have Q4 : Hid (PK w ns false false 0 0 0 ag ia n k L w4) := Q3.out.keep hbq
      clear hbq Q3
      have y1 := Q4.out.p.c1
      have yf1 := Q4.out.p.fr 1
      have Q5 : Hid (PK w ns hkNoCache false 0 0 0 ag ia n k L (w4.setCell ⟨w.heap.size + 1, 1, none⟩ (.bool hkNoCache))) := Q4.out.set1 _
      obtain ⟨w5, hw5⟩ : ∃ X, Hid (X = w4.setCell ⟨w.heap.size + 1, 1, none⟩ (.bool hkNoCache)) := ⟨_, rfl⟩
      rw [← hw5.out] at Q5
      clear Q4
      go_upto_region 11 with fail
      rw [← hw5.out]
      clear hw5 y1 yf1
      go_cut [] from 39 to 49 (fun wx => PK w ns hkNoCache mu 0 0 0 ag ia n k L wx)
      case first =>
        go_wp2_with fail
        refine (CkMust.out _ Q5.out.its.2).mono ?_
        rintro e w6 ⟨rfl, hbq⟩
        have Q6 : Hid (PK w ns hkNoCache false 0 0 0 ag ia n k L w6) := Q5.out.keep hbq
        clear hbq Q5
        cases hkMust
        · go_wp2_with fail
          refine (CkProxy.out _ Q6.out.its.2).mono ?_
          rintro e w7 ⟨rfl, hbq⟩
          have Q7 : Hid (PK w ns hkNoCache false 0 0 0 ag ia n k L w7) := Q6.out.keep hbq
          clear hbq Q6
          cases hkProxy
          · go_wp2_with fail
            refine (CkSMax.out _ Q7.out.its.2).mono ?_
            rintro e w8 ⟨rfl, hbq⟩
            have Q8 : Hid (PK w ns hkNoCache false 0 0 0 ag ia n k L w8) := Q7.out.keep hbq
            clear hbq Q7
            have HM8 : Hid (mu = hkSMax) := HMU.out
            have y2 := Q8.out.p.c2
            have yf := Q8.out.p.fr 2
            have Q9 : Hid (PK w ns hkNoCache hkSMax 0 0 0 ag ia n k L (w8.setCell ⟨w.heap.size + 1, 2, none⟩ (.bool hkSMax))) := Q8.out.set2 _
            go_wp2_with fail
            go_meet
            rw [HM8.out]
            exact Q9.out
          · have HM8 : Hid (mu = true) := HMU.out
            have y2 := Q7.out.p.c2
            have yf := Q7.out.p.fr 2
            have Q9 : Hid (PK w ns hkNoCache true 0 0 0 ag ia n k L (w7.setCell ⟨w.heap.size + 1, 2, none⟩ (.bool true))) := Q7.out.set2 _
            go_wp2_with fail
            go_meet
            rw [HM8.out]
            exact Q9.out
        · have HM8 : Hid (mu = true) := HMU.out
          have y2 := Q6.out.p.c2
          have yf := Q6.out.p.fr 2
          have Q9 : Hid (PK w ns hkNoCache true 0 0 0 ag ia n k L (w6.setCell ⟨w.heap.size + 1, 2, none⟩ (.bool true))) := Q6.out.set2 _
          go_wp2_with fail
          go_meet
          rw [HM8.out]
          exact Q9.out
      case rest =>
      have Q6 : Hid (PK w ns hkNoCache mu 0 0 0 ag ia n k L wc) := hcut
      clear hcut Q5 HMU CkMust CkProxy
      generalize wc = w6 at *
      try clear w5
      go_upto_block 0 with fail
      go_cut [] from 50 to 64 (fun wx => PK w ns hkNoCache mu li 0 0 ag ia n k L wx)
      case first =>
        go_wp2_with fail
        refine (CkSMax.out _ Q6.out.its.2).mono ?_
        rintro e w7 ⟨rfl, hbq⟩
        have Q7 : Hid (PK w ns hkNoCache mu 0 0 0 ag ia n k L w7) := Q6.out.keep hbq
        clear hbq Q6
        cases hkSMax
        · go_wp2_with fail
          refine (CkMax.out _ Q7.out.its.2).mono ?_
          rintro e w8 ⟨rfl, hbq⟩
          have Q8 : Hid (PK w ns hkNoCache mu 0 0 0 ag ia n k L w8) := Q7.out.keep hbq
          clear hbq Q7
          cases hkMax
          · have HL : Hid (li = xd) := HLI.out
            go_wp2_with fail
            refine (HX.out _ Q8.out.b).mono ?_
            rintro e w9 ⟨rfl, hbq⟩
            have Q9 : Hid (PK w ns hkNoCache mu 0 0 0 ag ia n k L w9) := Q8.out.keep hbq
            clear hbq
            have y3 := Q9.out.p.c3
            have yf := Q9.out.p.fr 3
            have QA : Hid (PK w ns hkNoCache mu xd 0 0 ag ia n k L (w9.setCell ⟨w.heap.size + 1, 3, none⟩ (.int .i64 xd))) := Q9.out.set3 _
            go_wp2_with fail
            go_meet
            rw [HL.out]
            exact QA.out
          · have HL : Hid (li = skMax) := HLI.out
            go_wp2_with fail
            refine (SkMax.out _ Q8.out.its.2).mono ?_
            rintro e w9 ⟨rfl, hbq⟩
            have Q9 : Hid (PK w ns hkNoCache mu 0 0 0 ag ia n k L w9) := Q8.out.keep hbq
            clear hbq Q8
            have y3 := Q9.out.p.c3
            have yf := Q9.out.p.fr 3
            have QA : Hid (PK w ns hkNoCache mu skMax 0 0 ag ia n k L (w9.setCell ⟨w.heap.size + 1, 3, none⟩ (.int .i64 skMax))) := Q9.out.set3 _
            go_wp2_with fail
            go_meet
            rw [HL.out]
            exact QA.out
        · have HL : Hid (li = skSMax) := HLI.out
          go_wp2_with fail
          refine (SkSMax.out _ Q7.out.its.2).mono ?_
          rintro e w9 ⟨rfl, hbq⟩
          have Q9 : Hid (PK w ns hkNoCache mu 0 0 0 ag ia n k L w9) := Q7.out.keep hbq
          clear hbq Q7
          have y3 := Q9.out.p.c3
          have yf := Q9.out.p.fr 3
          have QA : Hid (PK w ns hkNoCache mu skSMax 0 0 ag ia n k L (w9.setCell ⟨w.heap.size + 1, 3, none⟩ (.int .i64 skSMax))) := Q9.out.set3 _
          go_wp2_with fail
          go_meet
          rw [HL.out]
          exact QA.out
      case rest =>
      have Q7 : Hid (PK w ns hkNoCache mu li 0 0 ag ia n k L wc) := hcut
      clear hcut Q6 HLI CkSMax CkMax SkMax SkSMax HX
      generalize wc = w7 at *
      try clear w6
      have y2 := Q7.out.p.c2
      cases mu
      · go_wp2_with fail
        clear y2
        refine (SkSwr.out _ Q7.out.its.2).mono ?_
        rintro e w8 ⟨rfl, hbq⟩
        have Q8 : Hid (PK w ns hkNoCache false li 0 0 ag ia n k L w8) := Q7.out.keep hbq
        clear hbq Q7
        have y4 := Q8.out.p.c4
        have yf := Q8.out.p.fr 4
        have Q9 : Hid (PK w ns hkNoCache false li skSwr 0 ag ia n k L (w8.setCell ⟨w.heap.size + 1, 4, none⟩ (.int .i64 skSwr))) := Q8.out.set4 _
        obtain ⟨w9, hw9⟩ : ∃ X, Hid (X = w8.setCell ⟨w.heap.size + 1, 4, none⟩ (.int .i64 skSwr)) := ⟨_, rfl⟩
        rw [← hw9.out] at Q9
        clear Q8
        go_upto_region 19 with fail
        rw [← hw9.out]
        clear hw9 y4 yf
        go_wp2_with fail
        refine (SkSie.out _ Q9.out.its.2).mono ?_
        rintro e w10 ⟨rfl, hbq⟩
        have QA : Hid (PK w ns hkNoCache false li skSwr 0 ag ia n k L w10) := Q9.out.keep hbq
        clear hbq Q9
        have y5 := QA.out.p.c5
        have yf := QA.out.p.fr 5
        have QB : Hid (PK w ns hkNoCache false li skSwr skSie ag ia n k L (w10.setCell ⟨w.heap.size + 1, 5, none⟩ (.int .i64 skSie))) := QA.out.set5 _
        obtain ⟨w11, hw11⟩ : ∃ X, Hid (X = w10.setCell ⟨w.heap.size + 1, 5, none⟩ (.int .i64 skSie)) := ⟨_, rfl⟩
        rw [← hw11.out] at QB
        clear QA
        go_upto_region 20 with fail
        rw [← hw11.out]
        clear hw11 y5 yf
        have zz := QB.out.done
        have z0 := QB.out.z.c0
        have z1 := QB.out.z.c1
        have z2 := QB.out.z.c2
        have z3 := QB.out.z.c3
        have z4 := QB.out.z.c4
        have z5 := QB.out.z.c5
        have z6 := QB.out.z.c6
        have zf0 := QB.out.z.fr 0
        have zf1 := QB.out.z.fr 1
        have zf2 := QB.out.z.fr 2
        have zf3 := QB.out.z.fr 3
        have zf4 := QB.out.z.fr 4
        have zf5 := QB.out.z.fr 5
        have zf6 := QB.out.z.fr 6
        have y0 := QB.out.p.c0
        have y1 := QB.out.p.c1
        have y2 := QB.out.p.c2
        have y3 := QB.out.p.c3
        have y4 := QB.out.p.c4
        have y5 := QB.out.p.c5
        have y6 := QB.out.p.c6
        have ZZ : Hid _ := zz
        clear zz
        go_wp2_with fail
        have r0 := ZZ.out.1.c0
        have r1 := ZZ.out.1.c1
        have r2 := ZZ.out.1.c2
        have r3 := ZZ.out.1.c3
        have r4 := ZZ.out.1.c4
        have r5 := ZZ.out.1.c5
        have r6 := ZZ.out.1.c6
        exact bodyPost_ret (v := .agg #[.bool ns, .bool hkNoCache, .bool false, .int .i64 li, .int .i64 skSwr, .int .i64 skSie, .int .i64 ag]) (by simp [results, Tryz.results30, go_sem, r0, r1, r2, r3, r4, r5, r6]) rfl ⟨polV_ret (by rw [HPX.out]; rfl), ZZ.out.2⟩
      · go_upto_region 20 with fail
        clear y2
        have zz := Q7.out.done
        have z0 := Q7.out.z.c0
        have z1 := Q7.out.z.c1
        have z2 := Q7.out.z.c2
        have z3 := Q7.out.z.c3
        have z4 := Q7.out.z.c4
        have z5 := Q7.out.z.c5
        have z6 := Q7.out.z.c6
        have zf0 := Q7.out.z.fr 0
        have zf1 := Q7.out.z.fr 1
        have zf2 := Q7.out.z.fr 2
        have zf3 := Q7.out.z.fr 3
        have zf4 := Q7.out.z.fr 4
        have zf5 := Q7.out.z.fr 5
        have zf6 := Q7.out.z.fr 6
        have y0 := Q7.out.p.c0
        have y1 := Q7.out.p.c1
        have y2 := Q7.out.p.c2
        have y3 := Q7.out.p.c3
        have y4 := Q7.out.p.c4
        have y5 := Q7.out.p.c5
        have y6 := Q7.out.p.c6
        have ZZ : Hid _ := zz
        clear zz
        go_wp2_with fail
        have r0 := ZZ.out.1.c0
        have r1 := ZZ.out.1.c1
        have r2 := ZZ.out.1.c2
        have r3 := ZZ.out.1.c3
        have r4 := ZZ.out.1.c4
        have r5 := ZZ.out.1.c5
        have r6 := ZZ.out.1.c6
        exact bodyPost_ret (v := .agg #[.bool ns, .bool hkNoCache, .bool true, .int .i64 li, .int .i64 0, .int .i64 0, .int .i64 ag]) (by simp [results, Tryz.results30, go_sem, r0, r1, r2, r3, r4, r5, r6]) rfl ⟨polV_ret (by rw [HPX.out]; rfl), ZZ.out.2⟩
    · have HPX : Hid (PO = ⟨true, false, false, 0, 0, 0, ag⟩) := HP1.out hp
      have hd : decide (pc = 0) = false := by simpa using hp
      rw [hd]
      clear hd hp HP0 HP1
      have y0 := Q2.out.p.c0
      have yf := Q2.out.p.fr 0
      have Q3 : Hid (PK w true false false 0 0 0 ag ia n k L (w2.setCell ⟨w.heap.size + 1, 0, none⟩ (.bool true))) := Q2.out.set0 _
      obtain ⟨w3, hw3⟩ : ∃ X, Hid (X = w2.setCell ⟨w.heap.size + 1, 0, none⟩ (.bool true)) := ⟨_, rfl⟩
      rw [← hw3.out] at Q3
      clear Q2
      go_upto_region 8 with fail
      rw [← hw3.out]
      clear hw3 y0 yf
      have zz := Q3.out.done
      have z0 := Q3.out.z.c0
      have z1 := Q3.out.z.c1
      have z2 := Q3.out.z.c2
      have z3 := Q3.out.z.c3
      have z4 := Q3.out.z.c4
      have z5 := Q3.out.z.c5
      have z6 := Q3.out.z.c6
      have zf0 := Q3.out.z.fr 0
      have zf1 := Q3.out.z.fr 1
      have zf2 := Q3.out.z.fr 2
      have zf3 := Q3.out.z.fr 3
      have zf4 := Q3.out.z.fr 4
      have zf5 := Q3.out.z.fr 5
      have zf6 := Q3.out.z.fr 6
      have y0 := Q3.out.p.c0
      have y1 := Q3.out.p.c1
      have y2 := Q3.out.p.c2
      have y3 := Q3.out.p.c3
      have y4 := Q3.out.p.c4
      have y5 := Q3.out.p.c5
      have y6 := Q3.out.p.c6
      have ZZ : Hid _ := zz
      clear zz
      go_wp2_with fail
      have r0 := ZZ.out.1.c0
      have r1 := ZZ.out.1.c1
      have r2 := ZZ.out.1.c2
      have r3 := ZZ.out.1.c3
      have r4 := ZZ.out.1.c4
      have r5 := ZZ.out.1.c5
      have r6 := ZZ.out.1.c6
      exact bodyPost_ret (v := .agg #[.bool true, .bool false, .bool false, .int .i64 0, .int .i64 0, .int .i64 0, .int .i64 ag]) (by simp [results, Tryz.results30, go_sem, r0, r1, r2, r3, r4, r5, r6]) rfl ⟨polV_ret HPX.out, ZZ.out.2⟩
end Go.Proofs.YtgfbahjpaaanoaaGreatDoor
/-
  What MulTime's model and MulTime itself answer, for any two numbers: one contract a function and a case.
-/
namespace Go.Proofs.YtgfbahjpaaanoaaGreatDoor
open Go.ChangeShapes Go.WideShapes Go.ChangeAt Go.RowKit
set_option maxHeartbeats 400000 in
theorem implMul_bad (a b : Int) (h : a < 0 ∨ 1000000000000000 < a ∨ b < 0 ∨ 1000000000000000 < b) (w : World) :
    Calls Tryz.prog 75 #[.int .i64 a, .int .i64 b] w fun e w' => e = .returned (.agg #[.int .i64 3, .int .i64 0]) ∧ Below w.heap.size w w' := by
  by_cases c1 : a < 0
  · clear h
    go_enter Tryz.func75, Tryz.ntmps75
    go_wp2
    exact bodyPost_ret (v := .agg #[.int .i64 3, .int .i64 0]) (by simp [results, Tryz.results75, go_sem]) rfl ⟨rfl, (Below.refl _ _).alloc (Nat.le_refl _) _⟩
  · by_cases c2 : 1000000000000000 < a
    · clear h
      have d2 : decide (a ≤ 1000000000000000) = false := by simp; omega
      go_enter Tryz.func75, Tryz.ntmps75
      go_wp2
      exact bodyPost_ret (v := .agg #[.int .i64 3, .int .i64 0]) (by simp [results, Tryz.results75, go_sem]) rfl ⟨rfl, (Below.refl _ _).alloc (Nat.le_refl _) _⟩
    · have d2 : decide (a ≤ 1000000000000000) = true := by simp; omega
      by_cases c3 : b < 0
      · clear h
        go_enter Tryz.func75, Tryz.ntmps75
        go_wp2
        exact bodyPost_ret (v := .agg #[.int .i64 3, .int .i64 0]) (by simp [results, Tryz.results75, go_sem]) rfl ⟨rfl, (Below.refl _ _).alloc (Nat.le_refl _) _⟩
      · have c4 : 1000000000000000 < b := by omega
        have d4 : decide (b ≤ 1000000000000000) = false := by simp; omega
        clear h
        go_enter Tryz.func75, Tryz.ntmps75
        go_wp2
        exact bodyPost_ret (v := .agg #[.int .i64 3, .int .i64 0]) (by simp [results, Tryz.results75, go_sem]) rfl ⟨rfl, (Below.refl _ _).alloc (Nat.le_refl _) _⟩
set_option maxHeartbeats 400000 in
theorem implMul_zero (a : Int) (a0 : 0 ≤ a) (a1 : a ≤ 1000000000000000) (w : World) :
    Calls Tryz.prog 75 #[.int .i64 a, .int .i64 0] w fun e w' => e = .returned (.agg #[.int .i64 0, .int .i64 0]) ∧ Below w.heap.size w w' := by
  have d2 : decide (a ≤ 1000000000000000) = true := by simp; omega
  go_enter Tryz.func75, Tryz.ntmps75
  go_wp2
  exact bodyPost_ret (v := .agg #[.int .i64 0, .int .i64 0]) (by simp [results, Tryz.results75, go_sem]) rfl ⟨rfl, (Below.refl _ _).alloc (Nat.le_refl _) _⟩
set_option maxHeartbeats 400000 in
theorem implMul_over (a b : Int) (a0 : 0 ≤ a) (a1 : a ≤ 1000000000000000) (b0 : 0 < b) (b1 : b ≤ 1000000000000000) (h : 1000000000000000 / b < a) (w : World) :
    Calls Tryz.prog 75 #[.int .i64 a, .int .i64 b] w fun e w' => e = .returned (.agg #[.int .i64 0, .int .i64 1000000000000000]) ∧ Below w.heap.size w w' := by
  have d2 : decide (a ≤ 1000000000000000) = true := by simp; omega
  have d4 : decide (b ≤ 1000000000000000) = true := by simp; omega
  have hne : ¬ b = 0 := by omega
  have hn2 : (b != 0) = true := by simp; omega
  have d5 : decide (1000000000000000 / b < a) = true := by simpa using h
  go_enter Tryz.func75, Tryz.ntmps75
  go_wp2
  exact bodyPost_ret (v := .agg #[.int .i64 0, .int .i64 1000000000000000]) (by simp [results, Tryz.results75, go_sem]) rfl ⟨rfl, (Below.refl _ _).alloc (Nat.le_refl _) _⟩
set_option maxHeartbeats 400000 in
theorem implMul_under (a b : Int) (a0 : 0 ≤ a) (a1 : a ≤ 1000000000000000) (b0 : 0 < b) (b1 : b ≤ 1000000000000000) (h : ¬ 1000000000000000 / b < a) (hp : 0 ≤ a * b) (hm : a * b ≤ 1000000000000000) (w : World) :
    Calls Tryz.prog 75 #[.int .i64 a, .int .i64 b] w fun e w' => e = .returned (.agg #[.int .i64 0, .int .i64 (a * b)]) ∧ Below w.heap.size w w' := by
  have d2 : decide (a ≤ 1000000000000000) = true := by simp; omega
  have d4 : decide (b ≤ 1000000000000000) = true := by simp; omega
  have hne : ¬ b = 0 := by omega
  have hn2 : (b != 0) = true := by simp; omega
  have d5 : decide (1000000000000000 / b < a) = false := by simpa using h
  go_enter Tryz.func75, Tryz.ntmps75
  go_wp2
  exact bodyPost_ret (v := .agg #[.int .i64 0, .int .i64 (a * b)]) (by simp [results, Tryz.results75, go_sem]) rfl ⟨rfl, (Below.refl _ _).alloc (Nat.le_refl _) _⟩
end Go.Proofs.YtgfbahjpaaanoaaGreatDoor
/-
  The parts of PolicyOf.
-/
namespace Go.Proofs.YtgfbahjpaaanoaaGreatDoor
open Go.ChangeShapes Go.WideShapes Go.ChangeAt Go.RowKit Go.Sort
theorem ifieldV (c v : Int) (w : World) : (Instr.field 34 (.agg #[.int .i64 c, .int .i64 v]) 1).run Tryz.prog w = .ok (.int .i64 v) w := by kernel_rfl
set_option maxHeartbeats 1000000 in
theorem inThousandths_any (x : Int) (h0 : 0 ≤ x) (h1 : x ≤ 1000000000000) (w : World) : Calls Tryz.prog 50 #[.int .i64 x] w fun e w' => e = .returned (.int .i64 (x * 1000)) ∧ Below w.heap.size w w' := by
  have H := implMul_under x 1000 h0 (by omega) (by omega) (by omega) (by omega) (by omega) (by omega) w
  generalize x * 1000 = y at *
  have hf := ifieldV 0 y
  go_enter Tryz.func50, Tryz.ntmps50
  go_wp2_with fail
  refine H.mono ?_
  rintro e w1 ⟨rfl, hb⟩
  have HB : Hid (Below w.heap.size w w1) := hb
  clear hb H
  go_wp2_with fail
  go_ret
  exact ⟨rfl, HB.out⟩
theorem secD_dV (s : ByteArray) : secD s = dV s * 1000 ∧ 0 ≤ dV s ∧ dV s ≤ 2147483648 := by
  cases h : okD s
  · rw [secD, dV_no h, numD_no s h]; exact ⟨rfl, by omega, by omega⟩
  · have b := okD_bd s h
    rw [secD, dV_yes h, numD_yes s h]
    refine ⟨?_, b.1, b.2⟩
    unfold max0
    rw [if_neg (by omega)]
set_option maxHeartbeats 1000000 in
theorem spanIn_any (s : ByteArray) (w : World) : Calls Tryz.prog 24 #[.string s] w fun e w' => e = .returned (.int .i64 (secD s)) ∧ Below w.heap.size w w' := by
  have H := implDelta s w
  obtain ⟨e1, h0, h1⟩ := secD_dV s
  have H2 : Hid (∀ W, Calls Tryz.prog 50 #[.int .i64 (dV s)] W fun e w' => e = .returned (.int .i64 (secD s)) ∧ Below W.heap.size W w') := fun W => by
    rw [e1]; exact inThousandths_any (dV s) h0 (by omega) W
  clear e1 h0 h1
  generalize secD s = sd at *
  generalize dV s = dv at *
  generalize dC s = dc at *
  have hf := ifieldV dc dv
  go_enter Tryz.func24, Tryz.ntmps24
  go_wp2_with fail
  refine H.mono ?_
  rintro e w1 ⟨rfl, hb⟩
  have HB : Hid (Below w.heap.size w w1) := hb
  clear hb H
  go_wp2_with fail
  refine (H2.out _).mono ?_
  rintro e w2 ⟨rfl, hb2⟩
  have HB2 : Hid (Below w.heap.size w w2) := HB.out.trans (hb2.mono HB.out.size)
  clear hb2 HB
  go_wp2_with fail
  go_ret
  exact ⟨rfl, HB2.out⟩
theorem pd_of (s : ByteArray) : (parI s < 0 ∧ pdC s = 5) ∨ (0 ≤ parI s ∧ pdC s = 0 ∧ pdV s = parI s) := by
  by_cases h : parI s < 0
  · exact .inl ⟨h, by rw [pdC, if_pos h]⟩
  · exact .inr ⟨by omega, by rw [pdC, if_neg h], by rw [pdV, if_neg h]⟩
theorem firstV_off {x : ByteArray} {l : List Hdr} (h : firstB x l = false) : firstV x l = ⟨#[]⟩ := by
  cases hf : firstAt x l with
  | none => exact (firstV_none hf).1
  | some i =>
    have hil := firstAt_lt hf
    have := (firstV_some hf (List.getElem?_eq_getElem hil)).2
    rw [h] at this
    cases this
theorem parI_empty : parI ⟨#[]⟩ = -1 := parI_no fun h => absurd h (by decide)
/-- What is told by both dates. -/
theorem expX_imp {db : Bool} {e d : Int} (hdb : db = false → d < 0) : expX true db e d = if d < 0 ∨ e < 0 ∨ e ≤ d then 0 else (e - d) * 1000 := by
  rw [expX, if_neg (by decide)]
  by_cases c : db = false ∨ e < 0 ∨ d < 0
  · rw [if_pos c, if_pos]
    rcases c with c | c | c
    · exact .inl (hdb c)
    · exact .inr (.inl c)
    · exact .inl c
  · rw [if_neg c]
    have n1 : ¬ e < 0 := fun q => c (.inr (.inl q))
    have n2 : ¬ d < 0 := fun q => c (.inr (.inr q))
    by_cases c2 : e ≤ d
    · have r : (if d < 0 ∨ e < 0 ∨ e ≤ d then (0 : Int) else (e - d) * 1000) = 0 := if_pos (.inr (.inr c2))
      rw [r]
      unfold max0
      split <;> omega
    · have r : (if d < 0 ∨ e < 0 ∨ e ≤ d then (0 : Int) else (e - d) * 1000) = (e - d) * 1000 := if_neg (by omega)
      rw [r]
      unfold max0
      rw [if_neg (by omega)]
set_option maxRecDepth 100000 in
set_option maxHeartbeats 4000000 in
theorem lifeByDates_any (w : World) (a : Option Addr) (cap : Nat) (l : List Hdr) (h0 : headsC l = 0) (hp : num.PowIs w) (hi : HdsIn w a l) :
    Calls Tryz.prog 26 #[.slice a l.length cap] w fun e w' => e = .returned (.int .i64 (expD l)) ∧ Below w.heap.size w w' := by
  obtain ⟨h20, hz⟩ := first_sizes h0
  have H1 : Hid (∀ W, Below w.heap.size w W → Calls Tryz.prog 23 #[.slice a l.length cap, .string ⟨#[69, 120, 112, 105, 114, 101, 115]⟩] W fun e w' => e = .returned (.tuple #[.string (firstV expN l), .bool (firstB expN l)]) ∧ Below W.heap.size W w') := fun W hb => by
    have := firstValue_any W a cap l ⟨#[69, 120, 112, 105, 114, 101, 115]⟩ h20 hz (by decide) (hi.keep hb)
    rw [expI_low] at this
    exact this
  have H2 : Hid (∀ W, Below w.heap.size w W → Calls Tryz.prog 23 #[.slice a l.length cap, .string ⟨#[68, 97, 116, 101]⟩] W fun e w' => e = .returned (.tuple #[.string (firstV datN l), .bool (firstB datN l)]) ∧ Below W.heap.size W w') := fun W hb => by
    have := firstValue_any W a cap l ⟨#[68, 97, 116, 101]⟩ h20 hz (by decide) (hi.keep hb)
    rw [datI_low] at this
    exact this
  have HE : Hid (expD l = expX (firstB expN l) (firstB datN l) (parI (firstV expN l)) (parI (firstV datN l))) := rfl
  have HDB : Hid (firstB datN l = false → parI (firstV datN l) < 0) := fun h => by rw [firstV_off h, parI_empty]; decide
  clear hi hz h0 h20
  generalize expD l = xd at *
  generalize firstV expN l = ev at *
  generalize firstV datN l = dv at *
  generalize firstB expN l = eb at *
  generalize firstB datN l = db at *
  generalize l.length = n at *
  have HPE : Hid (∀ W, Below w.heap.size w W → Calls Tryz.prog 54 #[.string ev] W fun e w' => e = .returned (.agg #[.int .i64 (pdC ev), .int .i64 (pdV ev)]) ∧ Below W.heap.size W w') := fun W hb => implParseDate ev W (hp.below hb)
  have HPD : Hid (∀ W, Below w.heap.size w W → Calls Tryz.prog 54 #[.string dv] W fun e w' => e = .returned (.agg #[.int .i64 (pdC dv), .int .i64 (pdV dv)]) ∧ Below W.heap.size W w') := fun W hb => implParseDate dv W (hp.below hb)
  have be := parI_bd ev
  have bd := parI_bd dv
  have oe := pd_of ev
  have od := pd_of dv
  clear hp
  generalize parI ev = pe at *
  generalize parI dv = pd at *
  generalize pdC ev = ce at *
  generalize pdC dv = cd at *
  generalize pdV ev = ve at *
  generalize pdV dv = vd at *
  go_enter Tryz.func26, Tryz.ntmps26
  go_wp2_with fail
  refine (H1.out _ (Below.refl _ _)).mono ?_
  rintro e w1 ⟨rfl, hb1⟩
  have HB1 : Hid (Below w.heap.size w w1) := hb1
  clear hb1 H1
  cases eb
  · have HX : Hid (xd = -1) := HE.out
    clear HE
    go_wp2_with fail
    go_ret
    exact ⟨pret_int HX.out.symm, HB1.out⟩
  have HX : Hid (xd = if pd < 0 ∨ pe < 0 ∨ pe ≤ pd then 0 else (pe - pd) * 1000) := HE.out.trans (expX_imp HDB.out)
  have HO : Hid (((pe < 0 ∧ ce = 5) ∨ (0 ≤ pe ∧ ce = 0 ∧ ve = pe)) ∧ ((pd < 0 ∧ cd = 5) ∨ (0 ≤ pd ∧ cd = 0 ∧ vd = pd))) := ⟨oe, od⟩
  clear HE oe od
  go_wp2_with fail
  refine (H2.out _ HB1.out).mono ?_
  rintro e w2 ⟨rfl, hb2⟩
  have HB2 : Hid (Below w.heap.size w w2) := HB1.out.trans (hb2.mono HB1.out.size)
  clear hb2 H2 HB1
  go_wp2_with fail
  refine (HPD.out _ HB2.out).mono ?_
  rintro e w3 ⟨rfl, hb3⟩
  have HB3 : Hid (Below w.heap.size w w3) := HB2.out.trans (hb3.mono HB2.out.size)
  clear hb3 HB2 HPD
  go_wp2_with fail
  refine (HPE.out _ HB3.out).mono ?_
  rintro e w4 ⟨rfl, hb4⟩
  have HB4 : Hid (Below w.heap.size w w4) := HB3.out.trans (hb4.mono HB3.out.size)
  clear hb4 HB3 HPE
  have HBA : Hid (Below w.heap.size w ((w4.alloc (.cells #[.int .i64 cd, .int .i64 vd] 34)).alloc (.cells #[.int .i64 ce, .int .i64 ve] 34))) := (HB4.out.alloc HB4.out.size _).alloc (by have := HB4.out.size; simp; omega) _
  rcases HO.out.2 with ⟨d0, rfl⟩ | ⟨d0, rfl, rfl⟩
  · have HX0 : Hid (xd = 0) := HX.out.trans (if_pos (.inl d0))
    clear HX HO
    go_wp2_with fail
    go_ret
    exact ⟨pret_int HX0.out.symm, HBA.out⟩
  rcases HO.out.1 with ⟨e0, rfl⟩ | ⟨e0, rfl, rfl⟩
  · have HX0 : Hid (xd = 0) := HX.out.trans (if_pos (.inr (.inl e0)))
    clear HX HO
    go_wp2_with fail
    go_ret
    exact ⟨pret_int HX0.out.symm, HBA.out⟩
  by_cases hle : ve ≤ vd
  · have HX0 : Hid (xd = 0) := HX.out.trans (if_pos (.inr (.inr hle)))
    have hld : decide (ve ≤ vd) = true := by simpa using hle
    clear HX HO
    go_wp2_with fail
    go_ret
    exact ⟨pret_int HX0.out.symm, HBA.out⟩
  · have HX0 : Hid (xd = (ve - vd) * 1000) := HX.out.trans (if_neg (by omega))
    have hld : decide (ve ≤ vd) = false := by simpa using hle
    have hw1 : IntKind.i64.wrap (ve - vd) = ve - vd := by rw [IntKind.wrap_i64]; omega
    have H5 : Hid (∀ W, Calls Tryz.prog 50 #[.int .i64 (ve - vd)] W fun e w' => e = .returned (.int .i64 ((ve - vd) * 1000)) ∧ Below W.heap.size W w') := fun W => inThousandths_any (ve - vd) (by omega) (by omega) W
    clear HX HO
    generalize hq : (ve - vd) * 1000 = q at *
    go_wp2_with fail
    refine (H5.out _).mono ?_
    rintro e w5 ⟨rfl, hb5⟩
    have HB5 : Hid (Below w.heap.size w w5) := HBA.out.trans (hb5.mono HBA.out.size)
    clear hb5 HBA
    go_wp2_with fail
    go_ret
    exact ⟨pret_int (by rw [HX0.out]), HB5.out⟩
set_option maxHeartbeats 2000000 in
theorem withNoStore_any (b0 b1 b2 : Bool) (l s e g t : Int) (w : World) : Calls Tryz.prog 55 #[.agg #[.bool b0, .bool b1, .bool b2, .int .i64 l, .int .i64 s, .int .i64 e, .int .i64 g], .int .i64 t] w fun r w' => r = .returned (.agg #[.bool true, .bool b1, .bool b2, .int .i64 l, .int .i64 s, .int .i64 e, .int .i64 g]) ∧ Below w.heap.size w w' := by
  go_enter Tryz.func55, Tryz.ntmps55
  go_wp2
  refine bodyPost_ret (v := .agg #[.bool true, .bool b1, .bool b2, .int .i64 l, .int .i64 s, .int .i64 e, .int .i64 g]) (by simp [results, Tryz.results55, go_sem]) rfl ⟨rfl, ?_⟩
  have al := ((Below.refl w.heap.size w).alloc (Nat.le_refl _) (.cells #[.bool b0, .bool b1, .bool b2, .int .i64 l, .int .i64 s, .int .i64 e, .int .i64 g] 27))
  first | exact (((Below.refl w.heap.size w).alloc (Nat.le_refl _) _).alloc (by simp) _) | (repeat (first | exact Below.refl _ _ | refine Below.setCell ?_ (by simp) _ | refine Below.alloc ?_ (by simp) _ | refine Below.alloc ?_ (by simp; omega) _))
set_option maxHeartbeats 2000000 in
theorem withNoCache_any (b0 b1 b2 : Bool) (l s e g t : Int) (w : World) : Calls Tryz.prog 56 #[.agg #[.bool b0, .bool b1, .bool b2, .int .i64 l, .int .i64 s, .int .i64 e, .int .i64 g], .int .i64 t] w fun r w' => r = .returned (.agg #[.bool b0, .bool true, .bool b2, .int .i64 l, .int .i64 s, .int .i64 e, .int .i64 g]) ∧ Below w.heap.size w w' := by
  go_enter Tryz.func56, Tryz.ntmps56
  go_wp2
  refine bodyPost_ret (v := .agg #[.bool b0, .bool true, .bool b2, .int .i64 l, .int .i64 s, .int .i64 e, .int .i64 g]) (by simp [results, Tryz.results56, go_sem]) rfl ⟨rfl, ?_⟩
  have al := ((Below.refl w.heap.size w).alloc (Nat.le_refl _) (.cells #[.bool b0, .bool b1, .bool b2, .int .i64 l, .int .i64 s, .int .i64 e, .int .i64 g] 27))
  first | exact (((Below.refl w.heap.size w).alloc (Nat.le_refl _) _).alloc (by simp) _) | (repeat (first | exact Below.refl _ _ | refine Below.setCell ?_ (by simp) _ | refine Below.alloc ?_ (by simp) _ | refine Below.alloc ?_ (by simp; omega) _))
set_option maxHeartbeats 2000000 in
theorem withMust_any (b0 b1 b2 : Bool) (l s e g t : Int) (w : World) : Calls Tryz.prog 57 #[.agg #[.bool b0, .bool b1, .bool b2, .int .i64 l, .int .i64 s, .int .i64 e, .int .i64 g], .int .i64 t] w fun r w' => r = .returned (.agg #[.bool b0, .bool b1, .bool true, .int .i64 l, .int .i64 s, .int .i64 e, .int .i64 g]) ∧ Below w.heap.size w w' := by
  go_enter Tryz.func57, Tryz.ntmps57
  go_wp2
  refine bodyPost_ret (v := .agg #[.bool b0, .bool b1, .bool true, .int .i64 l, .int .i64 s, .int .i64 e, .int .i64 g]) (by simp [results, Tryz.results57, go_sem]) rfl ⟨rfl, ?_⟩
  have al := ((Below.refl w.heap.size w).alloc (Nat.le_refl _) (.cells #[.bool b0, .bool b1, .bool b2, .int .i64 l, .int .i64 s, .int .i64 e, .int .i64 g] 27))
  first | exact (((Below.refl w.heap.size w).alloc (Nat.le_refl _) _).alloc (by simp) _) | (repeat (first | exact Below.refl _ _ | refine Below.setCell ?_ (by simp) _ | refine Below.alloc ?_ (by simp) _ | refine Below.alloc ?_ (by simp; omega) _))
set_option maxHeartbeats 2000000 in
theorem withLife_any (b0 b1 b2 : Bool) (l s e g t : Int) (w : World) : Calls Tryz.prog 58 #[.agg #[.bool b0, .bool b1, .bool b2, .int .i64 l, .int .i64 s, .int .i64 e, .int .i64 g], .int .i64 t] w fun r w' => r = .returned (.agg #[.bool b0, .bool b1, .bool b2, .int .i64 t, .int .i64 s, .int .i64 e, .int .i64 g]) ∧ Below w.heap.size w w' := by
  go_enter Tryz.func58, Tryz.ntmps58
  go_wp2
  refine bodyPost_ret (v := .agg #[.bool b0, .bool b1, .bool b2, .int .i64 t, .int .i64 s, .int .i64 e, .int .i64 g]) (by simp [results, Tryz.results58, go_sem]) rfl ⟨rfl, ?_⟩
  have al := ((Below.refl w.heap.size w).alloc (Nat.le_refl _) (.cells #[.bool b0, .bool b1, .bool b2, .int .i64 l, .int .i64 s, .int .i64 e, .int .i64 g] 27))
  first | exact (((Below.refl w.heap.size w).alloc (Nat.le_refl _) _).alloc (by simp) _) | (repeat (first | exact Below.refl _ _ | refine Below.setCell ?_ (by simp) _ | refine Below.alloc ?_ (by simp) _ | refine Below.alloc ?_ (by simp; omega) _))
set_option maxHeartbeats 2000000 in
theorem withSharedLife_any (b0 b1 b2 : Bool) (l s e g t : Int) (w : World) : Calls Tryz.prog 59 #[.agg #[.bool b0, .bool b1, .bool b2, .int .i64 l, .int .i64 s, .int .i64 e, .int .i64 g], .int .i64 t] w fun r w' => r = .returned (.agg #[.bool b0, .bool b1, .bool true, .int .i64 t, .int .i64 s, .int .i64 e, .int .i64 g]) ∧ Below w.heap.size w w' := by
  go_enter Tryz.func59, Tryz.ntmps59
  go_wp2
  refine bodyPost_ret (v := .agg #[.bool b0, .bool b1, .bool true, .int .i64 t, .int .i64 s, .int .i64 e, .int .i64 g]) (by simp [results, Tryz.results59, go_sem]) rfl ⟨rfl, ?_⟩
  have al := ((Below.refl w.heap.size w).alloc (Nat.le_refl _) (.cells #[.bool b0, .bool b1, .bool b2, .int .i64 l, .int .i64 s, .int .i64 e, .int .i64 g] 27))
  first | exact (((Below.refl w.heap.size w).alloc (Nat.le_refl _) _).alloc (by simp) _) | (repeat (first | exact Below.refl _ _ | refine Below.setCell ?_ (by simp) _ | refine Below.alloc ?_ (by simp) _ | refine Below.alloc ?_ (by simp; omega) _))
set_option maxHeartbeats 2000000 in
theorem withSwr_any (b0 b1 b2 : Bool) (l s e g t : Int) (w : World) : Calls Tryz.prog 60 #[.agg #[.bool b0, .bool b1, .bool b2, .int .i64 l, .int .i64 s, .int .i64 e, .int .i64 g], .int .i64 t] w fun r w' => r = .returned (.agg #[.bool b0, .bool b1, .bool b2, .int .i64 l, .int .i64 (if b2 = true then s else t), .int .i64 e, .int .i64 g]) ∧ Below w.heap.size w w' := by
  cases b2
  · go_enter Tryz.func60, Tryz.ntmps60
    go_wp2
    refine bodyPost_ret (v := .agg #[.bool b0, .bool b1, .bool false, .int .i64 l, .int .i64 t, .int .i64 e, .int .i64 g]) (by simp [results, Tryz.results60, go_sem]) rfl ⟨rfl, ?_⟩
    have al := ((Below.refl w.heap.size w).alloc (Nat.le_refl _) (.cells #[.bool b0, .bool b1, .bool false, .int .i64 l, .int .i64 s, .int .i64 e, .int .i64 g] 27))
    first | exact (((Below.refl w.heap.size w).alloc (Nat.le_refl _) _).alloc (by simp) _) | (repeat (first | exact Below.refl _ _ | refine Below.setCell ?_ (by simp) _ | refine Below.alloc ?_ (by simp) _ | refine Below.alloc ?_ (by simp; omega) _))
  · go_enter Tryz.func60, Tryz.ntmps60
    go_wp2
    refine bodyPost_ret (v := .agg #[.bool b0, .bool b1, .bool true, .int .i64 l, .int .i64 s, .int .i64 e, .int .i64 g]) (by simp [results, Tryz.results60, go_sem]) rfl ⟨rfl, ?_⟩
    have al := ((Below.refl w.heap.size w).alloc (Nat.le_refl _) (.cells #[.bool b0, .bool b1, .bool true, .int .i64 l, .int .i64 s, .int .i64 e, .int .i64 g] 27))
    first | exact (((Below.refl w.heap.size w).alloc (Nat.le_refl _) _).alloc (by simp) _) | (repeat (first | exact Below.refl _ _ | refine Below.setCell ?_ (by simp) _ | refine Below.alloc ?_ (by simp) _ | refine Below.alloc ?_ (by simp; omega) _))
set_option maxHeartbeats 2000000 in
theorem withSie_any (b0 b1 b2 : Bool) (l s e g t : Int) (w : World) : Calls Tryz.prog 61 #[.agg #[.bool b0, .bool b1, .bool b2, .int .i64 l, .int .i64 s, .int .i64 e, .int .i64 g], .int .i64 t] w fun r w' => r = .returned (.agg #[.bool b0, .bool b1, .bool b2, .int .i64 l, .int .i64 s, .int .i64 (if b2 = true then e else t), .int .i64 g]) ∧ Below w.heap.size w w' := by
  cases b2
  · go_enter Tryz.func61, Tryz.ntmps61
    go_wp2
    refine bodyPost_ret (v := .agg #[.bool b0, .bool b1, .bool false, .int .i64 l, .int .i64 s, .int .i64 t, .int .i64 g]) (by simp [results, Tryz.results61, go_sem]) rfl ⟨rfl, ?_⟩
    have al := ((Below.refl w.heap.size w).alloc (Nat.le_refl _) (.cells #[.bool b0, .bool b1, .bool false, .int .i64 l, .int .i64 s, .int .i64 e, .int .i64 g] 27))
    first | exact (((Below.refl w.heap.size w).alloc (Nat.le_refl _) _).alloc (by simp) _) | (repeat (first | exact Below.refl _ _ | refine Below.setCell ?_ (by simp) _ | refine Below.alloc ?_ (by simp) _ | refine Below.alloc ?_ (by simp; omega) _))
  · go_enter Tryz.func61, Tryz.ntmps61
    go_wp2
    refine bodyPost_ret (v := .agg #[.bool b0, .bool b1, .bool true, .int .i64 l, .int .i64 s, .int .i64 e, .int .i64 g]) (by simp [results, Tryz.results61, go_sem]) rfl ⟨rfl, ?_⟩
    have al := ((Below.refl w.heap.size w).alloc (Nat.le_refl _) (.cells #[.bool b0, .bool b1, .bool true, .int .i64 l, .int .i64 s, .int .i64 e, .int .i64 g] 27))
    first | exact (((Below.refl w.heap.size w).alloc (Nat.le_refl _) _).alloc (by simp) _) | (repeat (first | exact Below.refl _ _ | refine Below.setCell ?_ (by simp) _ | refine Below.alloc ?_ (by simp) _ | refine Below.alloc ?_ (by simp; omega) _))
end Go.Proofs.YtgfbahjpaaanoaaGreatDoor
/-
  A policy told word by word, plainly.
-/
namespace Go.Proofs.YtgfbahjpaaanoaaGreatDoor
theorem readR_novalue {s : ByteArray} {r : Rec} (h : readR s = some r) (hn : r.has = false) : r.value = ⟨#[]⟩ := by
  unfold readR at h
  split at h
  · cases h
  · split at h
    · obtain rfl := Option.some.inj h
      rfl
    · split at h
      · obtain rfl := Option.some.inj h
        cases hn
      · split at h
        · obtain rfl := Option.some.inj h
          cases hn
        · cases h
theorem readP_novalue : ∀ (ps : List (List UInt8)) (L : List Rec), readP ps = some L → ∀ r ∈ L, r.has = false → r.value = ⟨#[]⟩
  | [], L, h, r, hr => by
    simp [readP] at h
    subst h
    simp at hr
  | p :: ps, L, h, r, hr => by
    rw [readP] at h
    split at h
    · exact readP_novalue ps L h r hr
    · split at h
      · cases h
      · rename_i q hq
        obtain ⟨M, hM, rfl⟩ := Option.map_eq_some_iff.1 h
        rcases List.mem_cons.1 hr with rfl | hr
        · exact readR_novalue hq
        · exact readP_novalue ps M hM r hr
theorem parse_novalue {s : ByteArray} {r : Rec} (h : r ∈ parseL s) : r.has = false → r.value = ⟨#[]⟩ := by
  unfold parseL at h
  split at h
  · simp at h
  · split at h
    · simp at h
    · rename_i L hL
      split at h
      · simp at h
      · exact readP_novalue _ L hL r h
theorem secD_empty : secD ⟨#[]⟩ = 0 := by
  rw [secD, numD_no _ (okD_short _ (by decide))]
  rfl
/-- What the program tells of a word that is there: the seconds of its value, whether it has one or not. -/
theorem secR_value {nm : ByteArray} {L : List Rec} {k : Nat} {r : Rec} (hv : ∀ r ∈ L, r.has = false → r.value = ⟨#[]⟩) (h : findR nm 0 L = (k : Int)) (hr : L[k]? = some r) : secR nm L = secD r.value := by
  rw [secR_at h hr]
  cases hh : r.has
  · rw [hv r (List.mem_of_getElem? hr) hh, secD_empty]; rfl
  · rfl
def kName : Nat → ByteArray
  | 0 => kNoStore
  | 1 => kPrivate
  | 2 => kNoCache
  | 3 => kMust
  | 4 => kProxy
  | 5 => kMax
  | 6 => kSMax
  | 7 => kSwr
  | _ => kSie
def turnP : Nat → Pol → Int → Pol
  | 0, p, _ => { p with b0 := true }
  | 1, p, _ => { p with b0 := true }
  | 2, p, _ => { p with b1 := true }
  | 3, p, _ => { p with b2 := true }
  | 4, p, _ => { p with b2 := true }
  | 5, p, t => { p with l := t }
  | 6, p, t => { p with b2 := true, l := t }
  | 7, p, t => { p with s := if p.b2 = true then p.s else t }
  | _, p, t => { p with e := if p.b2 = true then p.e else t }
def stepP (L : List Rec) (k : Nat) (p : Pol) : Pol := if hasR (kName k) L = true then turnP k p (secR (kName k) L) else p
def foldP (L : List Rec) (p : Pol) : Nat → Pol
  | 0 => p
  | k + 1 => stepP L k (foldP L p k)
theorem secR_no {nm : ByteArray} {L : List Rec} (h : hasR nm L = false) : secR nm L = 0 := secR_none (by
  simp only [hasR, decide_eq_false_iff_not] at h
  omega)
section
variable (L : List Rec) (b0 b1 b2 : Bool) (l s e g : Int)
theorem step0 : stepP L 0 ⟨b0, b1, b2, l, s, e, g⟩ = ⟨(b0 || hasR kNoStore L), b1, b2, l, s, e, g⟩ := by
  show (if hasR kNoStore L = true then turnP 0 ⟨b0, b1, b2, l, s, e, g⟩ (secR kNoStore L) else ⟨b0, b1, b2, l, s, e, g⟩) = _
  cases hasR kNoStore L <;> simp [turnP]
theorem step1 : stepP L 1 ⟨b0, b1, b2, l, s, e, g⟩ = ⟨(b0 || hasR kPrivate L), b1, b2, l, s, e, g⟩ := by
  show (if hasR kPrivate L = true then turnP 1 ⟨b0, b1, b2, l, s, e, g⟩ (secR kPrivate L) else ⟨b0, b1, b2, l, s, e, g⟩) = _
  cases hasR kPrivate L <;> simp [turnP]
theorem step2 : stepP L 2 ⟨b0, b1, b2, l, s, e, g⟩ = ⟨b0, (b1 || hasR kNoCache L), b2, l, s, e, g⟩ := by
  show (if hasR kNoCache L = true then turnP 2 ⟨b0, b1, b2, l, s, e, g⟩ (secR kNoCache L) else ⟨b0, b1, b2, l, s, e, g⟩) = _
  cases hasR kNoCache L <;> simp [turnP]
theorem step3 : stepP L 3 ⟨b0, b1, b2, l, s, e, g⟩ = ⟨b0, b1, (b2 || hasR kMust L), l, s, e, g⟩ := by
  show (if hasR kMust L = true then turnP 3 ⟨b0, b1, b2, l, s, e, g⟩ (secR kMust L) else ⟨b0, b1, b2, l, s, e, g⟩) = _
  cases hasR kMust L <;> simp [turnP]
theorem step4 : stepP L 4 ⟨b0, b1, b2, l, s, e, g⟩ = ⟨b0, b1, (b2 || hasR kProxy L), l, s, e, g⟩ := by
  show (if hasR kProxy L = true then turnP 4 ⟨b0, b1, b2, l, s, e, g⟩ (secR kProxy L) else ⟨b0, b1, b2, l, s, e, g⟩) = _
  cases hasR kProxy L <;> simp [turnP]
theorem step5 : stepP L 5 ⟨b0, b1, b2, l, s, e, g⟩ = ⟨b0, b1, b2, (if hasR kMax L = true then secR kMax L else l), s, e, g⟩ := by
  show (if hasR kMax L = true then turnP 5 ⟨b0, b1, b2, l, s, e, g⟩ (secR kMax L) else ⟨b0, b1, b2, l, s, e, g⟩) = _
  cases hasR kMax L <;> simp [turnP]
theorem step6 : stepP L 6 ⟨b0, b1, b2, l, s, e, g⟩ = ⟨b0, b1, (b2 || hasR kSMax L), (if hasR kSMax L = true then secR kSMax L else l), s, e, g⟩ := by
  show (if hasR kSMax L = true then turnP 6 ⟨b0, b1, b2, l, s, e, g⟩ (secR kSMax L) else ⟨b0, b1, b2, l, s, e, g⟩) = _
  cases hasR kSMax L <;> simp [turnP]
theorem step7 : stepP L 7 ⟨b0, b1, b2, l, s, e, g⟩ = ⟨b0, b1, b2, l, (if hasR kSwr L = true then (if b2 = true then s else secR kSwr L) else s), e, g⟩ := by
  show (if hasR kSwr L = true then turnP 7 ⟨b0, b1, b2, l, s, e, g⟩ (secR kSwr L) else ⟨b0, b1, b2, l, s, e, g⟩) = _
  cases hasR kSwr L <;> simp [turnP]
theorem step8 : stepP L 8 ⟨b0, b1, b2, l, s, e, g⟩ = ⟨b0, b1, b2, l, s, (if hasR kSie L = true then (if b2 = true then e else secR kSie L) else e), g⟩ := by
  show (if hasR kSie L = true then turnP 8 ⟨b0, b1, b2, l, s, e, g⟩ (secR kSie L) else ⟨b0, b1, b2, l, s, e, g⟩) = _
  cases hasR kSie L <;> simp [turnP]
end
theorem fold_all (L : List Rec) (x g : Int) : foldP L ⟨false, false, false, x, 0, 0, g⟩ 9 = ⟨hasR kNoStore L || hasR kPrivate L, hasR kNoCache L, mustR L, lifeR L x, if mustR L = true then 0 else secR kSwr L, if mustR L = true then 0 else secR kSie L, g⟩ := by
  have z1 : hasR kSwr L = false → secR kSwr L = 0 := secR_no
  have z2 : hasR kSie L = false → secR kSie L = 0 := secR_no
  show stepP L 8 (stepP L 7 (stepP L 6 (stepP L 5 (stepP L 4 (stepP L 3 (stepP L 2 (stepP L 1 (stepP L 0 ⟨false, false, false, x, 0, 0, g⟩)))))))) = _
  rw [step0, step1, step2, step3, step4, step5, step6, step7, step8]
  have em : ((false || hasR kMust L) || hasR kProxy L || hasR kSMax L) = mustR L := by rw [Bool.false_or]; rfl
  rw [em, Bool.false_or, Bool.false_or]
  generalize mustR L = mu
  congr 1
  · cases h : hasR kSwr L
    · rw [z1 h]; simp
    · simp
  · cases h : hasR kSie L
    · rw [z2 h]; simp
    · simp
theorem pol_ok {l : List Hdr} (h : parseC (underT ccN l) = 0) : polOf l = foldP (parseL (underT ccN l)) ⟨false, false, false, expD l, 0, 0, ageD l⟩ 9 := by
  rw [fold_all, polOf, if_pos h]
theorem pol_bad {l : List Hdr} (h : ¬ parseC (underT ccN l) = 0) : polOf l = ⟨true, false, false, 0, 0, 0, ageD l⟩ := by rw [polOf, if_neg h]
/-- A line that is not there is told as an empty one. -/
theorem age_first (l : List Hdr) : ageD l = secD (firstV ageN l) := by
  rw [ageD]
  cases h : firstB ageN l
  · have : firstV ageN l = ⟨#[]⟩ := by
      cases hf : firstAt ageN l with
      | none => exact (firstV_none hf).1
      | some i =>
        have := (firstV_some hf (List.getElem?_eq_getElem (firstAt_lt hf))).2
        rw [h] at this
        cases this
    rw [this, secD_empty]; rfl
  · rfl
noncomputable def polR (l : List Hdr) : Pol := if headsC l = 0 then polOf l else ⟨false, false, false, 0, 0, 0, 0⟩
end Go.Proofs.YtgfbahjpaaanoaaGreatDoor
