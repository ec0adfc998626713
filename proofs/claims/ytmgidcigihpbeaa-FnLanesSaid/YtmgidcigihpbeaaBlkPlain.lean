/-
  What is asked of a bulkhead, in plain words.
-/
import Derived.Test.YtmgidcigihpbeaaBlkIn
namespace Go.Proofs.Ytmgidcigihpbeaa
open Go.ChangeShapes Go.WideShapes Go.ChangeAt Go.RowKit Go.Sort
def waitB (r : Wt) : Bool := timeB r.wi && timeB r.du
def waitsB (l : List Wt) : Bool := l.all waitB
def nodupW (l : List Wt) : Bool := decide ((l.map Wt.wi).Nodup)
def hasW (l : List Wt) (x : Int) : Bool := l.any fun r => decide (r.wi = x)
theorem waitsB_iff (l : List Wt) : waitsB l = true ↔ ∀ (i : Nat) x, l[i]? = some x → waitB x = true := by
  unfold waitsB
  rw [List.all_eq_true]
  constructor
  · intro h i x hx
    exact h x (List.mem_of_getElem? hx)
  · intro h x hx
    obtain ⟨i, hi⟩ := List.getElem?_of_mem hx
    exact h i x hi
theorem waitsB_no {l : List Wt} {i : Nat} {x : Wt} (hx : l[i]? = some x) (h : waitB x = false) : waitsB l = false := by
  cases e : waitsB l with
  | false => rfl
  | true => rw [(waitsB_iff l).1 e i x hx] at h; cases h
theorem nodupW_iff (l : List Wt) : nodupW l = true ↔ ∀ (i j : Nat) x y, j < i → l[i]? = some x → l[j]? = some y → x.wi ≠ y.wi := by
  unfold nodupW
  rw [decide_eq_true_eq, List.Nodup, List.pairwise_iff_getElem]
  constructor
  · intro h i j x y hji hx hy e
    obtain ⟨hi, rfl⟩ := List.getElem?_eq_some_iff.1 hx
    obtain ⟨hj, rfl⟩ := List.getElem?_eq_some_iff.1 hy
    exact h j i (by simpa using hj) (by simpa using hi) hji (by simpa using e.symm)
  · intro h i j hi hj hij
    simp only [List.length_map] at hi hj
    simp only [List.getElem_map]
    exact fun e => h j i _ _ hij (List.getElem?_eq_getElem hj) (List.getElem?_eq_getElem hi) e.symm
theorem nodupW_no {l : List Wt} {i j : Nat} {x y : Wt} (hji : j < i) (hx : l[i]? = some x) (hy : l[j]? = some y) (h : x.wi = y.wi) : nodupW l = false := by
  cases e : nodupW l with
  | false => rfl
  | true => exact absurd h ((nodupW_iff l).1 e i j x y hji hx hy)
theorem hasW_of {l : List Wt} {k : Nat} {r : Wt} {x : Int} (hr : l[k]? = some r) (h : r.wi = x) : hasW l x = true := List.any_eq_true.2 ⟨r, List.mem_of_getElem? hr, by simpa using h⟩
theorem hasW_no {l : List Wt} {x : Int} (h : ∀ (j : Nat) r, l[j]? = some r → r.wi ≠ x) : hasW l x = false := by
  unfold hasW
  rw [List.any_eq_false]
  intro r hr
  obtain ⟨i, hi⟩ := List.getElem?_of_mem hr
  simpa using h i r hi
theorem hasW_get {l : List Wt} {x : Int} (h : hasW l x = true) : ∃ (j : Nat) (r : Wt), l[j]? = some r ∧ r.wi = x := by
  obtain ⟨r, hr, e⟩ := List.any_eq_true.1 h
  obtain ⟨i, hi⟩ := List.getElem?_of_mem hr
  exact ⟨i, r, hi, by simpa using e⟩
theorem hasW_none {l : List Wt} {x : Int} (h : hasW l x = false) {j : Nat} {r : Wt} (hr : l[j]? = some r) : r.wi ≠ x := by
  intro e
  rw [hasW_of hr e] at h; cases h
def blkC (y : Int) (l : List Wt) (s c t : Int) : Int := if lanesB s c t = false then 3 else if inW 0 s y = false then 3 else if c < (l.length : Int) then 2 else if waitsB l = false then 3 else if nodupW l = false then 6 else 0
section
variable {y s c t : Int} {l : List Wt}
theorem blkC_lanes (h : lanesB s c t = false) : blkC y l s c t = 3 := by rw [blkC, if_pos h]
theorem blkC_busy (h : lanesB s c t = true) (h1 : inW 0 s y = false) : blkC y l s c t = 3 := by rw [blkC, if_neg (by rw [h]; decide), if_pos h1]
theorem blkC_many (h : lanesB s c t = true) (h1 : inW 0 s y = true) (h2 : c < (l.length : Int)) : blkC y l s c t = 2 := by rw [blkC, if_neg (by rw [h]; decide), if_neg (by rw [h1]; decide), if_pos h2]
theorem blkC_range (h : lanesB s c t = true) (h1 : inW 0 s y = true) (h2 : ¬ c < (l.length : Int)) (h3 : waitsB l = false) : blkC y l s c t = 3 := by rw [blkC, if_neg (by rw [h]; decide), if_neg (by rw [h1]; decide), if_neg h2, if_pos h3]
theorem blkC_taken (h : lanesB s c t = true) (h1 : inW 0 s y = true) (h2 : ¬ c < (l.length : Int)) (h3 : waitsB l = true) (h4 : nodupW l = false) : blkC y l s c t = 6 := by rw [blkC, if_neg (by rw [h]; decide), if_neg (by rw [h1]; decide), if_neg h2, if_neg (by rw [h3]; decide), if_pos h4]
theorem blkC_ok (h : lanesB s c t = true) (h1 : inW 0 s y = true) (h2 : ¬ c < (l.length : Int)) (h3 : waitsB l = true) (h4 : nodupW l = true) : blkC y l s c t = 0 := by rw [blkC, if_neg (by rw [h]; decide), if_neg (by rw [h1]; decide), if_neg h2, if_neg (by rw [h3]; decide), if_neg (by rw [h4]; decide)]
theorem blkC_of (h : blkC y l s c t = 0) : lanesB s c t = true ∧ inW 0 s y = true ∧ (l.length : Int) ≤ c ∧ waitsB l = true ∧ nodupW l = true := by
  unfold blkC at h
  split at h
  · cases h
  · split at h
    · cases h
    · split at h
      · cases h
      · split at h
        · cases h
        · split at h
          · cases h
          · rename_i h1 h2 h3 h4 h5
            exact ⟨by simpa using h1, by simpa using h2, by omega, by simpa using h4, by simpa using h5⟩
end
end Go.Proofs.Ytmgidcigihpbeaa
