/-
  Plain mathematics of decimal digits that stay at their greatest: no Go in sight.
-/
import Derived.Test.YtibomkcbopkpkaaDoorBase
namespace Go.Proofs.YtibomkcbopkpkaaDoor
def digB (c : UInt8) : Bool := decide (48 ≤ (c.toNat : Int)) && decide ((c.toNat : Int) ≤ 57)
def accD (n : Int) (c : UInt8) : Int := if n * 10 + ((c.toNat : Int) - 48) < 2147483648 then n * 10 + ((c.toNat : Int) - 48) else 2147483648
def valD (l : List UInt8) : Int := l.foldl accD 0
def allD (l : List UInt8) : Bool := l.all digB
theorem accD_bd (n : Int) (c : UInt8) (h0 : 0 ≤ n) (hc : digB c = true) : 0 ≤ accD n c ∧ accD n c ≤ 2147483648 := by
  simp [digB] at hc
  unfold accD
  split <;> omega
theorem foldD_bd (l : List UInt8) : ∀ n : Int, 0 ≤ n → n ≤ 2147483648 → l.all digB = true → 0 ≤ l.foldl accD n ∧ l.foldl accD n ≤ 2147483648 := by
  induction l with
  | nil => intro n h0 h1 _; exact ⟨h0, h1⟩
  | cons c l ih =>
    intro n h0 h1 h
    simp only [List.all_cons, Bool.and_eq_true] at h
    have := accD_bd n c h0 h.1
    exact ih _ this.1 this.2 h.2
theorem valD_bd (l : List UInt8) (h : allD l = true) : 0 ≤ valD l ∧ valD l ≤ 2147483648 := foldD_bd l 0 (by omega) (by omega) h
theorem valD_snoc (l : List UInt8) (c : UInt8) : valD (l ++ [c]) = accD (valD l) c := by simp [valD]
theorem allD_snoc (l : List UInt8) (c : UInt8) : allD (l ++ [c]) = (allD l && digB c) := by simp [allD]
theorem allD_of_take (l : List UInt8) (k : Nat) (h : allD (l.take k) = false) : allD l = false := by
  have e := List.take_append_drop k l
  rw [← e]
  simp only [allD] at h ⊢
  rw [List.all_append, h, Bool.false_and]
/-- Digits as a number; -1 where they are none. -/
def okD (s : ByteArray) : Bool := decide (1 ≤ s.size) && decide (s.size ≤ 64) && allD s.data.toList
def numD (s : ByteArray) : Int := if okD s = true then valD s.data.toList else -1
theorem okD_short (s : ByteArray) (h : s.size < 1) : okD s = false := by simp [okD]; omega
theorem okD_long (s : ByteArray) (h : 64 < s.size) : okD s = false := by simp [okD]; omega
theorem okD_not (s : ByteArray) (k : Nat) (h : k < s.size) (hd : digB s[k] = false) : okD s = false := by
  have : allD s.data.toList = false := by
    refine allD_of_take _ (k + 1) ?_
    rw [take_snoc s k h, allD_snoc, hd, Bool.and_false]
  simp [okD, this]
theorem okD_yes (s : ByteArray) (h1 : 1 ≤ s.size) (h2 : s.size ≤ 64) (h : allD s.data.toList = true) : okD s = true := by simp [okD, h, h1, h2]
theorem numD_no (s : ByteArray) (h : okD s = false) : numD s = -1 := by simp [numD, h]
theorem numD_yes (s : ByteArray) (h : okD s = true) : numD s = valD s.data.toList := by simp [numD, h]
theorem okD_bd (s : ByteArray) (h : okD s = true) : 0 ≤ valD s.data.toList ∧ valD s.data.toList ≤ 2147483648 := by
  refine valD_bd _ ?_
  simp [okD] at h
  exact h.2
end Go.Proofs.YtibomkcbopkpkaaDoor
