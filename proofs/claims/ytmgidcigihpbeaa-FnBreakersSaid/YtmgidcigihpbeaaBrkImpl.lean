/-
  The program's BreakerFault.
-/
import Derived.Test.YtmgidcigihpbeaaBrkFun
namespace Go.Proofs.Ytmgidcigihpbeaa
open Go.ChangeShapes Go.WideShapes Go.ChangeAt Go.RowKit Go.Sort
theorem anyNotM (l : List Mk) : (l.any fun r => !timeB r.tm) = !timesM l := by
  unfold timesM
  rw [List.not_all_eq_any_not]
set_option maxRecDepth 100000 in
set_option maxHeartbeats 8000000 in
theorem implBrk_any (s t o : Int) (a : Option Addr) (cap : Nat) (l : List Mk) (w : World) (hi : MkIn w a l) :
    Calls Try.prog 28 #[.agg #[.int .i64 s, .int .i64 t, .int .i64 o, .slice a l.length cap]] w fun r w' => r = .returned (.int .i64 (brkC s t o l)) ∧ Below w.heap.size w w' := by
  have HT : Hid (∀ x lo hi w, Calls Try.prog 40 #[.int .i64 x, .int .i64 lo, .int .i64 hi] w fun r w' => r = .returned (.bool (inW lo hi x)) ∧ w' = w) := isWithin_all
  have HU : Hid (∀ x w, Calls Try.prog 41 #[.int .i64 x] w fun r w' => r = .returned (.bool (timeB x)) ∧ w' = w) := isTime_all
  have HI : Hid (MkIn w a l) := hi
  have HS : Hid (S4 (w.alloc (.cells #[.int .i64 s, .int .i64 t, .int .i64 o, .slice a l.length cap] 51)) w.heap.size (.int .i64 s) (.int .i64 t) (.int .i64 o) (.slice a l.length cap)) := S4.new _ _ _ _ _ _
  have HB : Hid (Below w.heap.size w (w.alloc (.cells #[.int .i64 s, .int .i64 t, .int .i64 o, .slice a l.length cap] 51))) := (Below.refl _ _).alloc (Nat.le_refl _) _
  clear hi
  cases h0 : inW 0 2 s
  · rw [brkC_head (by simp [brkHB, h0])]
    clear HI HS
    generalize l.length = n at *
    go_enter Try.func28, Try.ntmps28
    go_wp2_with fail
    refine (HT.out s 0 2 _).mono ?_
    rintro r w1 ⟨rfl, rfl⟩
    rw [h0]
    go_wp2_with fail
    go_ret
    exact ⟨rfl, HB.out⟩
  cases h1 : timeB t
  · rw [brkC_head (by simp [brkHB, h1])]
    clear HI HS
    generalize l.length = n at *
    go_enter Try.func28, Try.ntmps28
    go_wp2_with fail
    refine (HT.out s 0 2 _).mono ?_
    rintro r w1 ⟨rfl, rfl⟩
    rw [h0]
    go_wp2_with fail
    refine (HU.out t _).mono ?_
    rintro r w1 ⟨rfl, rfl⟩
    rw [h1]
    go_wp2_with fail
    go_ret
    exact ⟨rfl, HB.out⟩
  cases h2 : inW 0 5 o
  · rw [brkC_head (by simp [brkHB, h2])]
    clear HI HS
    generalize l.length = n at *
    go_enter Try.func28, Try.ntmps28
    go_wp2_with fail
    refine (HT.out s 0 2 _).mono ?_
    rintro r w1 ⟨rfl, rfl⟩
    rw [h0]
    go_wp2_with fail
    refine (HU.out t _).mono ?_
    rintro r w1 ⟨rfl, rfl⟩
    rw [h1]
    go_wp2_with fail
    refine (HT.out o 0 5 _).mono ?_
    rintro r w1 ⟨rfl, rfl⟩
    rw [h2]
    go_wp2_with fail
    go_ret
    exact ⟨rfl, HB.out⟩
  have hH : brkHB s t o = true := by simp [brkHB, h0, h1, h2]
  by_cases hm : 60 < l.length
  · rw [brkC_many hH hm]
    clear HI HS
    have hm' : (60 : Int) < (l.length : Int) := by omega
    generalize l.length = n at *
    go_enter Try.func28, Try.ntmps28
    go_wp2_with fail
    refine (HT.out s 0 2 _).mono ?_
    rintro r w1 ⟨rfl, rfl⟩
    rw [h0]
    go_wp2_with fail
    refine (HU.out t _).mono ?_
    rintro r w1 ⟨rfl, rfl⟩
    rw [h1]
    go_wp2_with fail
    refine (HT.out o 0 5 _).mono ?_
    rintro r w1 ⟨rfl, rfl⟩
    rw [h2]
    go_wp2_with fail
    go_ret
    exact ⟨rfl, HB.out⟩
  have HTM : Hid (timesM l = false → brkC s t o l = 3) := fun h => brkC_time hH hm h
  have HSM : Hid (timesM l = true → sortedM l = false → brkC s t o l = 1) := fun h h2 => brkC_form hH hm h h2
  have HST : Hid (timesM l = true → sortedM l = true → stateB s o l.length = false → brkC s t o l = 8) := fun h h2 h3 => brkC_state hH hm h h2 h3
  have HOK : Hid (timesM l = true → sortedM l = true → stateB s o l.length = true → brkC s t o l = 0) := fun h h2 h3 => brkC_ok hH hm h h2 h3
  have hm' : ¬ (60 : Int) < (l.length : Int) := by omega
  have HC : Hid (∀ W, MkIn W a l → Calls Try.prog 68 #[.slice a l.length cap, .func (.func 69) #[] #[]] W fun e w' => e = .returned (.bool (!timesM l)) ∧ Below W.heap.size W w') := fun W h => by
    rw [← anyNotM]
    exact containsMk_any W _ _ _ a cap l (by omega) h (notTime_any W)
  have HO : Hid (∀ W, MkIn W a l → Calls Try.prog 70 #[.slice a l.length cap, .func (.func 71) #[] #[]] W fun e w' => e = .returned (.bool (sortedM l)) ∧ Below W.heap.size W w') := fun W h => sortedMk_any W a cap l (by omega) h
  clear hm hH
  generalize l.length = n at *
  generalize brkC s t o l = c at *
  have HI1 : Hid (MkIn (w.alloc (.cells #[.int .i64 s, .int .i64 t, .int .i64 o, .slice a n cap] 51)) a l) := HI.out.keep HB.out
  obtain ⟨c0, c1, c2, c3, fr, _⟩ := HS.out
  go_enter Try.func28, Try.ntmps28
  go_wp2_with fail
  refine (HT.out s 0 2 _).mono ?_
  rintro r w1 ⟨rfl, rfl⟩
  rw [h0]
  go_wp2_with fail
  refine (HU.out t _).mono ?_
  rintro r w1 ⟨rfl, rfl⟩
  rw [h1]
  go_wp2_with fail
  refine (HT.out o 0 5 _).mono ?_
  rintro r w1 ⟨rfl, rfl⟩
  rw [h2]
  go_wp2_with fail
  refine (HC.out _ HI1.out).mono ?_
  rintro e w2 ⟨rfl, hb2⟩
  have HB3 : Hid (Below w.heap.size w w2) := HB.out.trans (hb2.mono HB.out.size)
  have HS3 : Hid (S4 w2 w.heap.size (.int .i64 s) (.int .i64 t) (.int .i64 o) (.slice a n cap)) := HS.out.keep hb2
  clear hb2 HB HI1 HC HS c0 c1 c2 c3 fr
  cases hT : timesM l
  · have HE : Hid (c = 3) := HTM.out hT
    clear HTM HSM HST HOK HS3
    go_wp2_with fail
    go_ret
    exact ⟨ret_int HE.out.symm, HB3.out⟩
  have HSM2 : Hid (sortedM l = false → c = 1) := HSM.out hT
  have HST2 : Hid (sortedM l = true → stateB s o n = false → c = 8) := HST.out hT
  have HOK2 : Hid (sortedM l = true → stateB s o n = true → c = 0) := HOK.out hT
  clear HTM HSM HST HOK hT
  obtain ⟨c0, c1, c2, c3, fr, _⟩ := HS3.out
  go_wp2_with fail
  refine (HO.out _ (HI.out.keep HB3.out)).mono ?_
  rintro e w3 ⟨rfl, hb3⟩
  have HB4 : Hid (Below w.heap.size w w3) := HB3.out.trans (hb3.mono HB3.out.size)
  have HS4 : Hid (S4 w3 w.heap.size (.int .i64 s) (.int .i64 t) (.int .i64 o) (.slice a n cap)) := HS3.out.keep hb3
  clear hb3 HB3 HS3 HO HI c0 c1 c2 c3 fr
  cases hT : sortedM l
  · have HE : Hid (c = 1) := HSM2.out hT
    clear HSM2 HST2 HOK2 HS4
    go_wp2_with fail
    go_ret
    exact ⟨ret_int HE.out.symm, HB4.out⟩
  have HST3 : Hid (stateB s o n = false → c = 8) := HST2.out hT
  have HOK3 : Hid (stateB s o n = true → c = 0) := HOK2.out hT
  clear HSM2 HST2 HOK2 hT
  obtain ⟨c0, c1, c2, c3, fr, _⟩ := HS4.out
  clear HS4
  by_cases en : n = 0
  · subst en
    by_cases e1 : o = 0
    · subst e1
      have HE : Hid (c = 0) := HOK3.out (by simp [stateB])
      clear HOK3 HST3
      go_wp2_with fail
      go_ret
      exact ⟨ret_int HE.out.symm, HB4.out⟩
    · have n1 : (o != 0) = true := by simpa using e1
      by_cases e2 : s = 2
      · subst e2
        have HE : Hid (c = 0) := HOK3.out (by simp [stateB])
        clear HOK3 HST3
        go_wp2_with fail
        go_ret
        exact ⟨ret_int HE.out.symm, HB4.out⟩
      · have n2 : (s != 2) = true := by simpa using e2
        have HE : Hid (c = 8) := HST3.out (by simp [stateB, e1, e2])
        clear HOK3 HST3
        go_wp2_with fail
        go_ret
        exact ⟨ret_int HE.out.symm, HB4.out⟩
  · have gp : (0 : Int) < (n : Int) := by omega
    by_cases e0 : s = 0
    · subst e0
      by_cases e1 : o = 0
      · subst e1
        have HE : Hid (c = 0) := HOK3.out (by simp [stateB])
        clear HOK3 HST3
        go_wp2_with fail
        go_ret
        exact ⟨ret_int HE.out.symm, HB4.out⟩
      · have n1 : (o != 0) = true := by simpa using e1
        have HE : Hid (c = 8) := HST3.out (by simp [stateB, e1])
        clear HOK3 HST3
        go_wp2_with fail
        go_ret
        exact ⟨ret_int HE.out.symm, HB4.out⟩
    · have n0 : (s != 0) = true := by simpa using e0
      have HE : Hid (c = 8) := HST3.out (by simp [stateB, en, e0])
      clear HOK3 HST3
      go_wp2_with fail
      go_ret
      exact ⟨ret_int HE.out.symm, HB4.out⟩
end Go.Proofs.Ytmgidcigihpbeaa
