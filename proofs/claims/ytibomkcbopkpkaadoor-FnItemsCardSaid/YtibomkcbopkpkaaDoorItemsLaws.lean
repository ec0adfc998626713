/-
  What the laws over lists of items share.
-/
import Derived.Test.YtibomkcbopkpkaaDoorItemsTo
namespace Go.Proofs.YtibomkcbopkpkaaDoor
open Go.ChangeShapes Go.WideShapes Go.ChangeAt Go.RowKit
/-- The slice at a holds the items l. -/
def ItsIn (w : World) (a : Option Addr) (l : List Rec) : Prop := l = [] ∨ ∃ b off, a = some ⟨b, off, none⟩ ∧ ItemsAt w b off l
theorem ItsIn.keep {w w' : World} {a : Option Addr} {l : List Rec} (h : ItsIn w a l) (hb : Below w.heap.size w w') : ItsIn w' a l := by
  rcases h with h | ⟨b, off, e, hat⟩
  · exact .inl h
  · exact .inr ⟨b, off, e, hat.keep hb⟩
theorem szR_room {left : Int} {r : Rec} (h : ¬ szR left r < 0) : (r.name.size : Int) ≤ left ∧ (r.value.size : Int) ≤ left ∧ szR left r ≤ left := by
  by_cases c1 : left - (r.name.size : Int) < 0
  · rw [show szR left r = -1 from by simp [szR, c1]] at h; omega
  · by_cases c2 : left - (r.name.size : Int) - (r.value.size : Int) < 0
    · rw [show szR left r = -1 from by simp [szR, c1, c2]] at h; omega
    · have e : szR left r = left - (r.name.size : Int) - (r.value.size : Int) := by simp [szR, c1, c2]
      rw [e]
      omega
theorem szRs_room (l : List Rec) : ∀ left : Int, ¬ szRs left l < 0 → left ≤ 1048576 → ∀ (i : Nat) r, l[i]? = some r → r.name.size ≤ 1048576 ∧ r.value.size ≤ 1048576 := by
  induction l with
  | nil => intro left _ _ i r hr; simp at hr
  | cons x l ih =>
    intro left h hl i r hr
    rw [szRs] at h
    by_cases c : szR left x < 0
    · rw [if_pos c] at h; omega
    · rw [if_neg c] at h
      obtain ⟨z1, z2, z3⟩ := szR_room c
      cases i with
      | zero => simp at hr; subst hr; omega
      | succ i => exact ih _ h (by omega) i r (by simpa using hr)
theorem szL_room {l : List Rec} {left : Int} (hl : left ≤ 1048576) (h : ¬ szL left l < 0) : (l.length : Int) ≤ 1048576 ∧ ∀ (i : Nat) r, l[i]? = some r → r.name.size ≤ 1048576 ∧ r.value.size ≤ 1048576 := by
  unfold szL at h
  by_cases c : left - (l.length : Int) < 0
  · rw [if_pos c] at h; omega
  · rw [if_neg c] at h
    exact ⟨by omega, szRs_room l _ h (by omega)⟩
theorem szRs_le (l : List Rec) : ∀ left : Int, szRs left l ≤ left ∨ szRs left l < 0 := by
  induction l with
  | nil => intro left; exact .inl (Int.le_refl _)
  | cons x l ih =>
    intro left
    rw [szRs]
    by_cases c : szR left x < 0
    · rw [if_pos c]; right; decide
    · rw [if_neg c]
      have := (szR_room c).2.2
      rcases ih (szR left x) with h | h
      · left; omega
      · right; exact h
theorem szL_le {l : List Rec} {left : Int} (h : ¬ szL left l < 0) : szL left l ≤ left := by
  unfold szL at h ⊢
  by_cases c : left - (l.length : Int) < 0
  · rw [if_pos c] at h; omega
  · rw [if_neg c] at h ⊢
    rcases szRs_le l (left - (l.length : Int)) with x | x <;> omega
end Go.Proofs.YtibomkcbopkpkaaDoor
