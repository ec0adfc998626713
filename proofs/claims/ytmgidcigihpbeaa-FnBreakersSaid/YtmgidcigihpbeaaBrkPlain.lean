/-
  What is asked of a breaker, in plain words.
-/
import Derived.Test.YtmgidcigihpbeaaBrkIn
import Derived.Test.YtmgidcigihpbeaaMkTo
namespace Go.Proofs.Ytmgidcigihpbeaa
open Go.ChangeShapes Go.WideShapes Go.ChangeAt Go.RowKit Go.Sort
def brkHB (s t o : Int) : Bool := inW 0 2 s && timeB t && inW 0 5 o
def timesM (l : List Mk) : Bool := l.all fun r => timeB r.tm
def sortedM : List Mk → Bool
  | [] => true
  | [_] => true
  | x :: y :: l => decide (x.tm ≤ y.tm) && sortedM (y :: l)
def stateB (s o : Int) (n : Nat) : Bool := (decide (n = 0) || decide (s = 0)) && (decide (o = 0) || decide (s = 2))
def brkC (s t o : Int) (l : List Mk) : Int := if brkHB s t o = false then 3 else if 60 < l.length then 2 else if timesM l = false then 3 else if sortedM l = false then 1 else if stateB s o l.length = false then 8 else 0
theorem sortedM_iff : ∀ l : List Mk, sortedM l = true ↔ ∀ (i : Nat) x y, l[i]? = some x → l[i + 1]? = some y → x.tm ≤ y.tm
  | [] => by simp [sortedM]
  | [z] => by
    simp only [sortedM, true_iff]
    intro i x y _ hy
    simp at hy
  | x :: y :: l => by
    rw [sortedM, Bool.and_eq_true, decide_eq_true_eq, sortedM_iff (y :: l)]
    constructor
    · rintro ⟨h0, h⟩ i u v hu hv
      cases i with
      | zero =>
        simp only [List.getElem?_cons_zero, Option.some.injEq, Nat.zero_add, List.getElem?_cons_succ] at hu hv
        subst hu; subst hv; exact h0
      | succ i => exact h i u v (by simpa using hu) (by simpa using hv)
    · intro h
      exact ⟨h 0 x y (by simp) (by simp), fun i u v hu hv => h (i + 1) u v (by simpa using hu) (by simpa using hv)⟩
theorem timesM_iff (l : List Mk) : timesM l = true ↔ ∀ (i : Nat) x, l[i]? = some x → timeB x.tm = true := by
  unfold timesM
  rw [List.all_eq_true]
  constructor
  · intro h i x hx
    exact h x (List.mem_of_getElem? hx)
  · intro h x hx
    obtain ⟨i, hi⟩ := List.getElem?_of_mem hx
    exact h i x hi
theorem timesM_no {l : List Mk} {i : Nat} {x : Mk} (hx : l[i]? = some x) (h : timeB x.tm = false) : timesM l = false := by
  cases e : timesM l with
  | false => rfl
  | true => rw [(timesM_iff l).1 e i x hx] at h; cases h
theorem sortedM_no {l : List Mk} {i : Nat} {x y : Mk} (hx : l[i]? = some x) (hy : l[i + 1]? = some y) (h : y.tm < x.tm) : sortedM l = false := by
  cases e : sortedM l with
  | false => rfl
  | true => have := (sortedM_iff l).1 e i x y hx hy; omega
theorem brkC_head {s t o : Int} {l : List Mk} (h : brkHB s t o = false) : brkC s t o l = 3 := by rw [brkC, if_pos h]
theorem brkC_many {s t o : Int} {l : List Mk} (h : brkHB s t o = true) (h2 : 60 < l.length) : brkC s t o l = 2 := by rw [brkC, if_neg (by rw [h]; decide), if_pos h2]
theorem brkC_time {s t o : Int} {l : List Mk} (h : brkHB s t o = true) (h2 : ¬ 60 < l.length) (h3 : timesM l = false) : brkC s t o l = 3 := by rw [brkC, if_neg (by rw [h]; decide), if_neg h2, if_pos h3]
theorem brkC_form {s t o : Int} {l : List Mk} (h : brkHB s t o = true) (h2 : ¬ 60 < l.length) (h3 : timesM l = true) (h4 : sortedM l = false) : brkC s t o l = 1 := by rw [brkC, if_neg (by rw [h]; decide), if_neg h2, if_neg (by rw [h3]; decide), if_pos h4]
theorem brkC_state {s t o : Int} {l : List Mk} (h : brkHB s t o = true) (h2 : ¬ 60 < l.length) (h3 : timesM l = true) (h4 : sortedM l = true) (h5 : stateB s o l.length = false) : brkC s t o l = 8 := by rw [brkC, if_neg (by rw [h]; decide), if_neg h2, if_neg (by rw [h3]; decide), if_neg (by rw [h4]; decide), if_pos h5]
theorem brkC_ok {s t o : Int} {l : List Mk} (h : brkHB s t o = true) (h2 : ¬ 60 < l.length) (h3 : timesM l = true) (h4 : sortedM l = true) (h5 : stateB s o l.length = true) : brkC s t o l = 0 := by rw [brkC, if_neg (by rw [h]; decide), if_neg h2, if_neg (by rw [h3]; decide), if_neg (by rw [h4]; decide), if_neg (by rw [h5]; decide)]
theorem brkC_of {s t o : Int} {l : List Mk} (h : brkC s t o l = 0) : brkHB s t o = true ∧ l.length ≤ 60 ∧ timesM l = true ∧ sortedM l = true ∧ stateB s o l.length = true := by
  unfold brkC at h
  split at h
  · cases h
  · split at h
    · cases h
    · split at h
      · cases h
      · split at h
        · cases h
        · split at h
          · cases h
          · rename_i h1 h2 h3 h4 h5
            exact ⟨by simpa using h1, by omega, by simpa using h3, by simpa using h4, by simpa using h5⟩
def badM (l : List Mk) : Nat := (l.filter fun r => !r.gd).length
theorem badM_le (l : List Mk) : badM l ≤ l.length := List.length_filter_le _ _
theorem badM_take {l : List Mk} {k : Nat} {r : Mk} (hr : l[k]? = some r) : badM (l.take (k + 1)) = badM (l.take k) + (if r.gd = true then 0 else 1) := by
  obtain ⟨hk, rfl⟩ := List.getElem?_eq_some_iff.1 hr
  rw [List.take_succ_eq_append_getElem hk, badM, badM, List.filter_append, List.length_append]
  cases h : l[k].gd <;> simp [List.filter, h]
end Go.Proofs.Ytmgidcigihpbeaa
