/-
  What the laws over lists of items share.
-/
import Derived.Test.YtjdkkfbijneedaaHeadsTo
namespace Go.Proofs.Ytjdkkfbijneedaa
open Go.ChangeShapes Go.WideShapes Go.ChangeAt Go.RowKit
/-- The slice at a holds the items l. -/
def HdsIn (w : World) (a : Option Addr) (l : List Hdr) : Prop := l = [] ∨ ∃ b off, a = some ⟨b, off, none⟩ ∧ HeadsAt w b off l
theorem HdsIn.keep {w w' : World} {a : Option Addr} {l : List Hdr} (h : HdsIn w a l) (hb : Below w.heap.size w w') : HdsIn w' a l := by
  rcases h with h | ⟨b, off, e, hat⟩
  · exact .inl h
  · exact .inr ⟨b, off, e, hat.keep hb⟩
theorem szH_room {left : Int} {r : Hdr} (h : ¬ szH left r < 0) : (r.name.size : Int) ≤ left ∧ (r.value.size : Int) ≤ left ∧ szH left r ≤ left := by
  by_cases c1 : left - (r.name.size : Int) < 0
  · rw [show szH left r = -1 from by simp [szH, c1]] at h; omega
  · by_cases c2 : left - (r.name.size : Int) - (r.value.size : Int) < 0
    · rw [show szH left r = -1 from by simp [szH, c1, c2]] at h; omega
    · have e : szH left r = left - (r.name.size : Int) - (r.value.size : Int) := by simp [szH, c1, c2]
      rw [e]
      omega
theorem szHs_room (l : List Hdr) : ∀ left : Int, ¬ szHs left l < 0 → left ≤ 1048576 → ∀ (i : Nat) r, l[i]? = some r → r.name.size ≤ 1048576 ∧ r.value.size ≤ 1048576 := by
  induction l with
  | nil => intro left _ _ i r hr; simp at hr
  | cons x l ih =>
    intro left h hl i r hr
    rw [szHs] at h
    by_cases c : szH left x < 0
    · rw [if_pos c] at h; omega
    · rw [if_neg c] at h
      obtain ⟨z1, z2, z3⟩ := szH_room c
      cases i with
      | zero => simp at hr; subst hr; omega
      | succ i => exact ih _ h (by omega) i r (by simpa using hr)
theorem szHL_room {l : List Hdr} {left : Int} (hl : left ≤ 1048576) (h : ¬ szHL left l < 0) : (l.length : Int) ≤ 1048576 ∧ ∀ (i : Nat) r, l[i]? = some r → r.name.size ≤ 1048576 ∧ r.value.size ≤ 1048576 := by
  unfold szHL at h
  by_cases c : left - (l.length : Int) < 0
  · rw [if_pos c] at h; omega
  · rw [if_neg c] at h
    exact ⟨by omega, szHs_room l _ h (by omega)⟩
theorem szHs_le (l : List Hdr) : ∀ left : Int, szHs left l ≤ left ∨ szHs left l < 0 := by
  induction l with
  | nil => intro left; exact .inl (Int.le_refl _)
  | cons x l ih =>
    intro left
    rw [szHs]
    by_cases c : szH left x < 0
    · rw [if_pos c]; right; decide
    · rw [if_neg c]
      have := (szH_room c).2.2
      rcases ih (szH left x) with h | h
      · left; omega
      · right; exact h
theorem szHL_le {l : List Hdr} {left : Int} (h : ¬ szHL left l < 0) : szHL left l ≤ left := by
  unfold szHL at h ⊢
  by_cases c : left - (l.length : Int) < 0
  · rw [if_pos c] at h; omega
  · rw [if_neg c] at h ⊢
    rcases szHs_le l (left - (l.length : Int)) with x | x <;> omega
end Go.Proofs.Ytjdkkfbijneedaa
