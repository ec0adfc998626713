/-
  SameBreakers, on both sides.
-/
import Derived.Test.YtnepafpaimoadaaSameMk
import Derived.Test.YtnepafpaimoadaaSFour
namespace Go.Proofs.Ytnepafpaimoadaa
open Go.ChangeShapes Go.WideShapes Go.ChangeAt Go.RowKit Go.Sort
def sameK (s1 t1 o1 : Int) (l1 : List Mk) (s2 t2 o2 : Int) (l2 : List Mk) : Bool := decide (s1 = s2) && decide (t1 = t2) && decide (o1 = o2) && sameMs l1 l2
set_option maxHeartbeats 4000000 in
theorem specSameK_any (w : World) (s1 t1 o1 : Int) (a1 : Option Addr) (c1 : Nat) (l1 : List Mk) (s2 t2 o2 : Int) (a2 : Option Addr) (c2 : Nat) (l2 : List Mk) (hl : l1.length ≤ 1048576) (h1 : MkIn w a1 l1) (h2 : MkIn w a2 l2) :
    Calls Try.prog 50 #[.agg #[.int .i64 s1, .int .i64 t1, .int .i64 o1, .slice a1 l1.length c1], .agg #[.int .i64 s2, .int .i64 t2, .int .i64 o2, .slice a2 l2.length c2]] w fun e w' => e = .returned (.bool (sameK s1 t1 o1 l1 s2 t2 o2 l2)) ∧ Below w.heap.size w w' := by
  have HQ : Hid (∀ X, Below w.heap.size w X → Calls Try.prog 90 #[.slice a1 l1.length c1, .slice a2 l2.length c2] X fun e w' => e = .returned (.bool (sameMs l1 l2)) ∧ Below X.heap.size X w') := fun X hb => specSameM_any X a1 a2 c1 c2 l1 l2 hl (h1.keep hb) (h2.keep hb)
  clear h1 h2 hl
  by_cases hs : s1 = s2
  rotate_left
  · have HE : Hid (sameK s1 t1 o1 l1 s2 t2 o2 l2 = false) := by show _ = _; simp [sameK, hs]
    have g : (s1 == s2) = false := by simpa using hs
    have g2 : decide (s1 = s2) = false := by simpa using hs
    clear HQ
    generalize sameK s1 t1 o1 l1 s2 t2 o2 l2 = b at *
    generalize l1.length = n1 at *
    generalize l2.length = n2 at *
    go_enter Try.func50, Try.ntmps50
    go_wp2_with fail
    go_ret
    exact ⟨ret_bool HE.out.symm, ((Below.refl _ _).alloc (Nat.le_refl _) _).alloc (by simp) _⟩
  subst hs
  by_cases ht : t1 = t2
  rotate_left
  · have HE : Hid (sameK s1 t1 o1 l1 s1 t2 o2 l2 = false) := by show _ = _; simp [sameK, ht]
    have g : (t1 == t2) = false := by simpa using ht
    have g2 : decide (t1 = t2) = false := by simpa using ht
    clear HQ
    generalize sameK s1 t1 o1 l1 s1 t2 o2 l2 = b at *
    generalize l1.length = n1 at *
    generalize l2.length = n2 at *
    go_enter Try.func50, Try.ntmps50
    go_wp2_with fail
    go_ret
    exact ⟨ret_bool HE.out.symm, ((Below.refl _ _).alloc (Nat.le_refl _) _).alloc (by simp) _⟩
  subst ht
  by_cases ho : o1 = o2
  rotate_left
  · have HE : Hid (sameK s1 t1 o1 l1 s1 t1 o2 l2 = false) := by show _ = _; simp [sameK, ho]
    have g : (o1 == o2) = false := by simpa using ho
    have g2 : decide (o1 = o2) = false := by simpa using ho
    clear HQ
    generalize sameK s1 t1 o1 l1 s1 t1 o2 l2 = b at *
    generalize l1.length = n1 at *
    generalize l2.length = n2 at *
    go_enter Try.func50, Try.ntmps50
    go_wp2_with fail
    go_ret
    exact ⟨ret_bool HE.out.symm, ((Below.refl _ _).alloc (Nat.le_refl _) _).alloc (by simp) _⟩
  subst ho
  have HE : Hid (sameK s1 t1 o1 l1 s1 t1 o1 l2 = sameMs l1 l2) := by show _ = _; simp [sameK]
  generalize sameK s1 t1 o1 l1 s1 t1 o1 l2 = b at *
  generalize sameMs l1 l2 = m at *
  generalize l1.length = n1 at *
  generalize l2.length = n2 at *
  go_enter Try.func50, Try.ntmps50
  go_wp2_with fail
  refine (HQ.out _ (((Below.refl _ _).alloc (Nat.le_refl _) _).alloc (by simp) _)).mono ?_
  rintro e w1 ⟨rfl, hb⟩
  have HB : Hid (Below w.heap.size w w1) := (((Below.refl _ _).alloc (Nat.le_refl _) _).alloc (by simp) _).trans (hb.mono (by simp; omega))
  clear hb HQ
  go_wp2_with fail
  go_ret
  exact ⟨ret_bool HE.out.symm, HB.out⟩
set_option maxHeartbeats 4000000 in
theorem implSameK_any (w : World) (s1 t1 o1 : Int) (a1 : Option Addr) (c1 : Nat) (l1 : List Mk) (s2 t2 o2 : Int) (a2 : Option Addr) (c2 : Nat) (l2 : List Mk) (hl : l1.length ≤ 1048576) (h1 : MkIn w a1 l1) (h2 : MkIn w a2 l2) :
    Calls Try.prog 26 #[.agg #[.int .i64 s1, .int .i64 t1, .int .i64 o1, .slice a1 l1.length c1], .agg #[.int .i64 s2, .int .i64 t2, .int .i64 o2, .slice a2 l2.length c2]] w fun e w' => e = .returned (.bool (sameK s1 t1 o1 l1 s2 t2 o2 l2)) ∧ Below w.heap.size w w' := by
  have HQ : Hid (∀ X, Below w.heap.size w X → Calls Try.prog 73 #[.slice a1 l1.length c1, .slice a2 l2.length c2] X fun e w' => e = .returned (.bool (sameMs l1 l2)) ∧ Below X.heap.size X w') := fun X hb => equalMarks_any X a1 a2 c1 c2 l1 l2 hl (h1.keep hb) (h2.keep hb)
  clear h1 h2 hl
  by_cases hs : s1 = s2
  rotate_left
  · have HE : Hid (sameK s1 t1 o1 l1 s2 t2 o2 l2 = false) := by show _ = _; simp [sameK, hs]
    have g : (s1 == s2) = false := by simpa using hs
    have g2 : decide (s1 = s2) = false := by simpa using hs
    clear HQ
    generalize sameK s1 t1 o1 l1 s2 t2 o2 l2 = b at *
    generalize l1.length = n1 at *
    generalize l2.length = n2 at *
    go_enter Try.func26, Try.ntmps26
    go_wp2_with fail
    go_ret
    exact ⟨ret_bool HE.out.symm, ((Below.refl _ _).alloc (Nat.le_refl _) _).alloc (by simp) _⟩
  subst hs
  by_cases ht : t1 = t2
  rotate_left
  · have HE : Hid (sameK s1 t1 o1 l1 s1 t2 o2 l2 = false) := by show _ = _; simp [sameK, ht]
    have g : (t1 == t2) = false := by simpa using ht
    have g2 : decide (t1 = t2) = false := by simpa using ht
    clear HQ
    generalize sameK s1 t1 o1 l1 s1 t2 o2 l2 = b at *
    generalize l1.length = n1 at *
    generalize l2.length = n2 at *
    go_enter Try.func26, Try.ntmps26
    go_wp2_with fail
    go_ret
    exact ⟨ret_bool HE.out.symm, ((Below.refl _ _).alloc (Nat.le_refl _) _).alloc (by simp) _⟩
  subst ht
  by_cases ho : o1 = o2
  rotate_left
  · have HE : Hid (sameK s1 t1 o1 l1 s1 t1 o2 l2 = false) := by show _ = _; simp [sameK, ho]
    have g : (o1 == o2) = false := by simpa using ho
    have g2 : decide (o1 = o2) = false := by simpa using ho
    clear HQ
    generalize sameK s1 t1 o1 l1 s1 t1 o2 l2 = b at *
    generalize l1.length = n1 at *
    generalize l2.length = n2 at *
    go_enter Try.func26, Try.ntmps26
    go_wp2_with fail
    go_ret
    exact ⟨ret_bool HE.out.symm, ((Below.refl _ _).alloc (Nat.le_refl _) _).alloc (by simp) _⟩
  subst ho
  have HE : Hid (sameK s1 t1 o1 l1 s1 t1 o1 l2 = sameMs l1 l2) := by show _ = _; simp [sameK]
  generalize sameK s1 t1 o1 l1 s1 t1 o1 l2 = b at *
  generalize sameMs l1 l2 = m at *
  generalize l1.length = n1 at *
  generalize l2.length = n2 at *
  go_enter Try.func26, Try.ntmps26
  go_wp2_with fail
  refine (HQ.out _ (((Below.refl _ _).alloc (Nat.le_refl _) _).alloc (by simp) _)).mono ?_
  rintro e w1 ⟨rfl, hb⟩
  have HB : Hid (Below w.heap.size w w1) := (((Below.refl _ _).alloc (Nat.le_refl _) _).alloc (by simp) _).trans (hb.mono (by simp; omega))
  clear hb HQ
  go_wp2_with fail
  go_ret
  exact ⟨ret_bool HE.out.symm, HB.out⟩
end Go.Proofs.Ytnepafpaimoadaa
