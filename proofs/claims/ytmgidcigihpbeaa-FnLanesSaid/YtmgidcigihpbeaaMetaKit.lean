/-
  What is kept with an answer: faults, ages and phases, on both sides.
-/
import Derived.Test.YtmgidcigihpbeaaPolLife
import Derived.Test.YtmgidcigihpbeaaAddW
import Derived.Lib.QuietBelow
import Derived.BigQuiet
import Derived.Deep.QuietTactic
namespace Go.Proofs.Ytmgidcigihpbeaa
open Go.ChangeShapes Go.WideShapes Go.ChangeAt Go.RowKit
/-- What is kept with an answer, in memory. -/
structure MetaAt (w : World) (b : Nat) (t g l s e : Int) (b1 b2 : Bool) : Prop where
  c0 : w.cell? ⟨b, 0, none⟩ = some (.int .i64 t)
  c1 : w.cell? ⟨b, 1, none⟩ = some (.int .i64 g)
  c2 : w.cell? ⟨b, 2, none⟩ = some (.int .i64 l)
  c3 : w.cell? ⟨b, 3, none⟩ = some (.int .i64 s)
  c4 : w.cell? ⟨b, 4, none⟩ = some (.int .i64 e)
  c5 : w.cell? ⟨b, 5, none⟩ = some (.bool b1)
  c6 : w.cell? ⟨b, 6, none⟩ = some (.bool b2)
  fr : ∀ o, w.frozen? ⟨b, o, none⟩ = false
  lt : b < w.heap.size
theorem MetaAt.keep {w w' : World} {b : Nat} {t g l s e : Int} {b1 b2 : Bool} (k : MetaAt w b t g l s e b1 b2) (hb : Below w.heap.size w w') : MetaAt w' b t g l s e b1 b2 :=
  ⟨by rw [hb.cell (p := ⟨b, 0, none⟩) k.lt]; exact k.c0, by rw [hb.cell (p := ⟨b, 1, none⟩) k.lt]; exact k.c1, by rw [hb.cell (p := ⟨b, 2, none⟩) k.lt]; exact k.c2, by rw [hb.cell (p := ⟨b, 3, none⟩) k.lt]; exact k.c3, by rw [hb.cell (p := ⟨b, 4, none⟩) k.lt]; exact k.c4, by rw [hb.cell (p := ⟨b, 5, none⟩) k.lt]; exact k.c5, by rw [hb.cell (p := ⟨b, 6, none⟩) k.lt]; exact k.c6,
    fun o => by rw [hb.frozen (p := ⟨b, o, none⟩) k.lt]; exact k.fr o, Nat.lt_of_lt_of_le k.lt hb.size⟩
theorem MetaAt.new (w : World) (t g l s e : Int) (b1 b2 : Bool) (x : TypeId) : MetaAt (w.alloc (.cells #[.int .i64 t, .int .i64 g, .int .i64 l, .int .i64 s, .int .i64 e, .bool b1, .bool b2] x)) w.heap.size t g l s e b1 b2 :=
  ⟨by simp, by simp, by simp, by simp, by simp, by simp, by simp, fun o => by simp, by simp⟩
def addT (a b : Int) : Int := if 1000000000000000 < a + b then 1000000000000000 else a + b
theorem addT_time {a b : Int} (ha : 0 ≤ a) (hb : 0 ≤ b) : 0 ≤ addT a b ∧ addT a b ≤ 1000000000000000 := by unfold addT; split <;> omega
def metaB (t g l s e : Int) : Bool := timeB t && timeB g && timeB l && timeB s && timeB e
def metaC (t g l s e : Int) : Int := if metaB t g l s e = true then 0 else 3
theorem metaC_ok {t g l s e : Int} (h : metaB t g l s e = true) : metaC t g l s e = 0 := by rw [metaC, if_pos h]
theorem metaC_bad {t g l s e : Int} (h : metaB t g l s e = false) : metaC t g l s e = 3 := by rw [metaC, if_neg (by rw [h]; decide)]
theorem metaB_of {t g l s e : Int} (h : metaB t g l s e = true) : (0 ≤ t ∧ t ≤ 1000000000000000) ∧ (0 ≤ g ∧ g ≤ 1000000000000000) ∧ (0 ≤ l ∧ l ≤ 1000000000000000) ∧ (0 ≤ s ∧ s ≤ 1000000000000000) ∧ (0 ≤ e ∧ e ≤ 1000000000000000) := by
  simp only [metaB, Bool.and_eq_true] at h
  exact ⟨timeB_of h.1.1.1.1, timeB_of h.1.1.1.2, timeB_of h.1.1.2, timeB_of h.1.2, timeB_of h.2⟩
def askB (t g l s e n : Int) : Bool := metaB t g l s e && timeB n && decide (t ≤ n)
def askM (t g l s e n : Int) : Int := if askB t g l s e n = true then 0 else 3
theorem askM_ok {t g l s e n : Int} (h : askB t g l s e n = true) : askM t g l s e n = 0 := by rw [askM, if_pos h]
theorem askM_bad {t g l s e n : Int} (h : askB t g l s e n = false) : askM t g l s e n = 3 := by rw [askM, if_neg (by rw [h]; decide)]
theorem askB_of {t g l s e n : Int} (h : askB t g l s e n = true) : metaB t g l s e = true ∧ (0 ≤ n ∧ n ≤ 1000000000000000) ∧ t ≤ n := by
  simp only [askB, Bool.and_eq_true, decide_eq_true_eq] at h
  exact ⟨h.1.1, timeB_of h.1.2, h.2⟩
def ageM (t g n : Int) : Int := addT g (n - t)
def ageA (t g l s e n : Int) : Int := if askB t g l s e n = true then ageM t g n else 0
theorem ageA_ok {t g l s e n : Int} (h : askB t g l s e n = true) : ageA t g l s e n = ageM t g n := by rw [ageA, if_pos h]
theorem ageA_bad {t g l s e n : Int} (h : askB t g l s e n = false) : ageA t g l s e n = 0 := by rw [ageA, if_neg (by rw [h]; decide)]
def lifeM (l : Int) (b1 b2 : Bool) : Int := if (b1 || b2) = true then 0 else l
/-- The phase of an answer of this age, with this life. -/
def phaseV (a li s e : Int) (b2 : Bool) : Int := if a < li then 1 else if (!b2 && decide (a < addT li s)) = true then 2 else if a < addT li e then 3 else 0
def phaseM (t g l s e : Int) (b1 b2 : Bool) (n : Int) : Int := phaseV (ageM t g n) (lifeM l b1 b2) s e b2
def phaseA (t g l s e : Int) (b1 b2 : Bool) (n : Int) : Int := if askB t g l s e n = true then phaseM t g l s e b1 b2 n else 0
theorem phaseA_ok {t g l s e n : Int} {b1 b2 : Bool} (h : askB t g l s e n = true) : phaseA t g l s e b1 b2 n = phaseM t g l s e b1 b2 n := by rw [phaseA, if_pos h]
theorem phaseA_bad {t g l s e n : Int} {b1 b2 : Bool} (h : askB t g l s e n = false) : phaseA t g l s e b1 b2 n = 0 := by rw [phaseA, if_neg (by rw [h]; decide)]
theorem phase1 {a li s e : Int} {b2 : Bool} (h : a < li) : phaseV a li s e b2 = 1 := by rw [phaseV, if_pos h]
theorem phase2 {a li s e : Int} {b2 : Bool} (h : ¬ a < li) (h2 : (!b2 && decide (a < addT li s)) = true) : phaseV a li s e b2 = 2 := by rw [phaseV, if_neg h, if_pos h2]
theorem phase3 {a li s e : Int} {b2 : Bool} (h : ¬ a < li) (h2 : ¬ (!b2 && decide (a < addT li s)) = true) (h3 : a < addT li e) : phaseV a li s e b2 = 3 := by rw [phaseV, if_neg h, if_neg h2, if_pos h3]
theorem phase0 {a li s e : Int} {b2 : Bool} (h : ¬ a < li) (h2 : ¬ (!b2 && decide (a < addT li s)) = true) (h3 : ¬ a < addT li e) : phaseV a li s e b2 = 0 := by rw [phaseV, if_neg h, if_neg h2, if_neg h3]
theorem lifeM_time {l : Int} {b1 b2 : Bool} (h : 0 ≤ l ∧ l ≤ 1000000000000000) : 0 ≤ lifeM l b1 b2 ∧ lifeM l b1 b2 ≤ 1000000000000000 := by unfold lifeM; split <;> omega
theorem ageM_time {t g n : Int} (h : 0 ≤ g) (h2 : t ≤ n) : 0 ≤ ageM t g n ∧ ageM t g n ≤ 1000000000000000 := addT_time h (by omega)
theorem l1Min_all (x y : Int) (w : World) : Calls Try.prog 83 #[.int .i64 x, .int .i64 y] w fun r w' => r = .returned (.int .i64 (if x < y then x else y)) ∧ w' = w := by
  by_cases c : x < y
  · rw [if_pos c]
    go_enter Try.func83, Try.ntmps83
    go_wp2
    go_ret
    exact ⟨rfl, rfl⟩
  · rw [if_neg c]
    go_enter Try.func83, Try.ntmps83
    go_wp2
    go_ret
    exact ⟨rfl, rfl⟩
theorem l1Add_all (x y : Int) (hx : 0 ≤ x ∧ x ≤ 1000000000000000) (hy : 0 ≤ y ∧ y ≤ 1000000000000000) (w : World) : Calls Try.prog 49 #[.int .i64 x, .int .i64 y] w fun r w' => r = .returned (.int .i64 (addT x y)) ∧ w' = w := by
  have HM : Hid (∀ w, Calls Try.prog 83 #[.int .i64 (x + y), .int .i64 1000000000000000] w fun r w' => r = .returned (.int .i64 (addT x y)) ∧ w' = w) := fun w => by
    have := l1Min_all (x + y) 1000000000000000 w
    have e : (if x + y < 1000000000000000 then x + y else 1000000000000000) = addT x y := by unfold addT; split <;> split <;> omega
    rw [e] at this
    exact this
  obtain ⟨x0, x1⟩ := hx
  obtain ⟨y0, y1⟩ := hy
  generalize addT x y = z at *
  go_enter Try.func49, Try.ntmps49
  go_wp2_with fail
  refine (HM.out _).mono ?_
  rintro r w1 ⟨rfl, rfl⟩
  go_wp2_with fail
  go_ret
  exact ⟨rfl, rfl⟩
theorem plus_all (x y : Int) (hx : 0 ≤ x ∧ x ≤ 1000000000000000) (hy : 0 ≤ y ∧ y ≤ 1000000000000000) (w : World) : Calls Try.prog 44 #[.int .i64 x, .int .i64 y] w fun r w' => r = .returned (.int .i64 (addT x y)) ∧ w' = w := by
  obtain ⟨x0, x1⟩ := hx
  obtain ⟨y0, y1⟩ := hy
  by_cases c : 1000000000000000 - y < x
  · have e : addT x y = 1000000000000000 := by rw [addT, if_pos (by omega)]
    rw [e]
    go_enter Try.func44, Try.ntmps44
    go_wp2
    go_ret
    exact ⟨rfl, rfl⟩
  · have e : addT x y = x + y := by rw [addT, if_neg (by omega)]
    rw [e]
    go_enter Try.func44, Try.ntmps44
    go_wp2
    go_ret
    exact ⟨rfl, rfl⟩
end Go.Proofs.Ytmgidcigihpbeaa
