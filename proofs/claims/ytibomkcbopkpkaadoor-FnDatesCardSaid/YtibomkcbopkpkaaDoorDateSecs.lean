/-
  SecondsOf and WeekdayOf, on both sides.
-/
import Derived.Test.YtibomkcbopkpkaaDoorDateFault
import Derived.Test.YtibomkcbopkpkaaDoorDateRoom
import Derived.Lib.QuietBelow
import Derived.Deep.RegionWith
import Derived.BigQuiet
namespace Go.Proofs.YtibomkcbopkpkaaDoor
open Go.ChangeShapes Go.WideShapes Go.ChangeAt Go.RowKit Go.Sort
def soV (y m d h i s : Int) : Int := if dateB y m d h i s = true then secsD y m d h i s else 0
theorem soV_yes {y m d h i s : Int} (k : dateB y m d h i s = true) : soV y m d h i s = secsD y m d h i s := by simp [soV, k]
theorem soV_no {y m d h i s : Int} (k : dateB y m d h i s = false) : soV y m d h i s = 0 := by simp [soV, k]
set_option maxHeartbeats 1000000 in
theorem specSecs_any (y m d h i s : Int) (w : World) (k : DateOk y m d h i s) :
    Calls Tryd.prog 137 #[.agg #[.int .i64 y, .int .i64 m, .int .i64 d, .int .i64 h, .int .i64 i, .int .i64 s]] w fun e w' => e = .returned (.int .i64 (secsD y m d h i s)) ∧ Below w.heap.size w w' := by
  have H : Hid (∀ w, Calls Tryd.prog 156 #[.int .i64 y, .int .i64 m, .int .i64 d] w fun e w' => e = .returned (.int .i64 (daysD y m d)) ∧ w' = w) := fun w => specDays_any y m d w k.day
  have HD : Hid (secsD y m d h i s = daysD y m d * 86400 + h * 3600 + i * 60 + s) := rfl
  have ⟨hd0, hd1⟩ := daysD_bd k.day
  obtain ⟨_, h0, h1, i0, i1, s0, s1⟩ := k
  generalize daysD y m d = D at *
  go_enter Tryd.func137, Tryd.ntmps137
  go_wp2_with fail
  obtain ⟨W, hW⟩ : ∃ W, W = w.alloc (.cells #[.int .i64 y, .int .i64 m, .int .i64 d, .int .i64 h, .int .i64 i, .int .i64 s] 48) := ⟨_, rfl⟩
  rw [← hW]
  have KD : DateAtB W w.heap.size y m d h i s := by subst hW; exact dateAtB_new w y m d h i s _
  have KB : Hid (Below w.heap.size w W) := by subst hW; exact (Below.refl _ _).alloc (Nat.le_refl _) _
  clear hW
  have q0 := cell_regrown KD.c0
  have q1 := cell_regrown KD.c1
  have q2 := cell_regrown KD.c2
  have q3 := cell_regrown KD.c3
  have q4 := cell_regrown KD.c4
  have q5 := cell_regrown KD.c5
  clear KD
  have cS : ∀ d' os, Calls Tryd.prog 156 #[.int .i64 y, .int .i64 m, .int .i64 d] (grow (redrawn W d') os) fun e w'' => e = .returned (.int .i64 D) ∧ ∃ p : Regrown, w'' = grow (redrawn W p.d) p.os := fun d' os => Calls.regrown_of ((H.out _).mono fun _ _ ⟨h1, h2⟩ => ⟨h1, by rw [h2]; exact Below.refl _ _⟩)
  refine wp_region_quiet_below (by kernel_rfl) (by kernel_rfl) ?_
  repeat (go_big_quiet_step (first | (go_at_call 156; exact cS _ _)))
  refine wpQuiet_nil ?_
  intro W2 hW2
  have KB2 : Hid (Below w.heap.size w W2) := by
    obtain ⟨⟨d, os⟩, rfl⟩ := hW2
    exact KB.out.trans ((below_regrown W d os).mono KB.out.size)
  clear hW2 cS q0 q1 q2 q3 q4 q5
  go_wp2_with fail
  go_ret
  exact ⟨ret_int (by rw [HD.out]), KB2.out⟩
set_option maxHeartbeats 1000000 in
theorem implSecondsOf_any (y m d h i s : Int) (w : World) :
    Calls Tryd.prog 39 #[.agg #[.int .i64 y, .int .i64 m, .int .i64 d, .int .i64 h, .int .i64 i, .int .i64 s]] w fun e w' => e = .returned (.agg #[.int .i64 (dfC y m d h i s), .int .i64 (soV y m d h i s)]) ∧ Below w.heap.size w w' := by
  have H : Hid (∀ w, Calls Tryd.prog 44 #[.agg #[.int .i64 y, .int .i64 m, .int .i64 d, .int .i64 h, .int .i64 i, .int .i64 s]] w fun e w' => e = .returned (.int .i64 (dfC y m d h i s)) ∧ Below w.heap.size w w') := implFault_any y m d h i s
  cases hk : dateB y m d h i s
  · rw [soV_no hk]
    rw [dfC_no hk] at H ⊢
    clear hk
    go_enter Tryd.func39, Tryd.ntmps39
    go_wp2_with fail
    refine (H.out _).mono ?_
    rintro e w1 ⟨rfl, hb1⟩
    have KB : Hid (Below w.heap.size w w1) := (((Below.refl w.heap.size w).alloc (Nat.le_refl _) _).alloc (by simp) _).trans (hb1.mono (by simp; omega))
    have KD : Hid (DateAtB w1 w.heap.size y m d h i s) := ((dateAtB_new w y m d h i s 48).keep ((Below.refl _ _).alloc (Nat.le_refl _) _)).keep hb1
    have KR0 : Room2 w1 (w.heap.size + 1) 0 0 := by
      have := (room2_new (w.alloc (.cells #[.int .i64 y, .int .i64 m, .int .i64 d, .int .i64 h, .int .i64 i, .int .i64 s] 48)) 0 0 32).keep hb1
      simpa using this
    have KR : Hid (Room2 w1 (w.heap.size + 1) 0 0) := KR0
    clear KR0
    clear hb1
    obtain ⟨c0, c1, c2, c3, c4, c5, fr⟩ := KD.out
    obtain ⟨r0, r1, rf0, rf1⟩ := KR.out
    clear fr
    go_wp2
    obtain ⟨z0, z1⟩ := two_set (v0 := .int .i64 3) (v1 := .int .i64 (0)) r0 r1
    exact bodyPost_ret (v := .agg #[.int .i64 3, .int .i64 0]) (by simp [results, Tryd.results39, go_sem, z0, z1]) rfl ⟨rfl, (KB.out.setCell (Nat.le_succ _) _).setCell (Nat.le_succ _) _⟩
  · rw [soV_yes hk]
    rw [dfC_yes hk] at H ⊢
    have hday : dayB y m d = true := dayB_of (dateB_yes hk).day
    have H2 : Hid (∀ w, Calls Tryd.prog 86 #[.int .i64 y, .int .i64 m, .int .i64 d] w fun e w' => e = .returned (.agg #[.int .i64 0, .int .i64 (daysD y m d)]) ∧ Below w.heap.size w w') := by
      have := implDaysOf_any y m d
      rw [doC_yes hday, doV_yes hday] at this
      exact this
    have HD : Hid (secsD y m d h i s = daysD y m d * 86400 + h * 3600 + i * 60 + s) := rfl
    have ⟨hd0, hd1⟩ := daysD_bd (dateB_yes hk).day
    obtain ⟨_, h0, h1, i0, i1, s0, s1⟩ := dateB_yes hk
    generalize daysD y m d = D at *
    clear hk hday
    go_enter Tryd.func39, Tryd.ntmps39
    go_wp2_with fail
    refine (H.out _).mono ?_
    rintro e w1 ⟨rfl, hb1⟩
    have KB : Hid (Below w.heap.size w w1) := (((Below.refl w.heap.size w).alloc (Nat.le_refl _) _).alloc (by simp) _).trans (hb1.mono (by simp; omega))
    have KD : Hid (DateAtB w1 w.heap.size y m d h i s) := ((dateAtB_new w y m d h i s 48).keep ((Below.refl _ _).alloc (Nat.le_refl _) _)).keep hb1
    have KR0 : Room2 w1 (w.heap.size + 1) 0 0 := by
      have := (room2_new (w.alloc (.cells #[.int .i64 y, .int .i64 m, .int .i64 d, .int .i64 h, .int .i64 i, .int .i64 s] 48)) 0 0 32).keep hb1
      simpa using this
    have KR : Hid (Room2 w1 (w.heap.size + 1) 0 0) := KR0
    clear KR0
    clear hb1
    obtain ⟨c0, c1, c2, c3, c4, c5, fr⟩ := KD.out
    obtain ⟨r0, r1, rf0, rf1⟩ := KR.out
    clear fr
    go_wp2_with fail
    refine (H2.out _).mono ?_
    rintro e w2 ⟨rfl, hb2⟩
    have KB2 : Hid (Below w.heap.size w w2) := KB.out.trans (hb2.mono KB.out.size)
    have KD2 : Hid (DateAtB w2 w.heap.size y m d h i s) := KD.out.keep hb2
    have KR2 : Hid (Room2 w2 (w.heap.size + 1) 0 0) := KR.out.keep hb2
    clear hb2 KB KD KR c0 c1 c2 c3 c4 c5 r0 r1 rf0 rf1
    obtain ⟨c0, c1, c2, c3, c4, c5, fr⟩ := KD2.out
    obtain ⟨r0, r1, rf0, rf1⟩ := KR2.out
    clear fr
    have hfv := ifield_val
    go_wp2
    obtain ⟨z0, z1⟩ := two_set (v0 := .int .i64 0) (v1 := .int .i64 (D * 86400 + h * 3600 + i * 60 + s)) r0 r1
    exact bodyPost_ret (v := .agg #[.int .i64 0, .int .i64 (D * 86400 + h * 3600 + i * 60 + s)]) (by simp [results, Tryd.results39, go_sem, z0, z1]) rfl ⟨by rw [HD.out], (KB2.out.setCell (Nat.le_succ _) _).setCell (Nat.le_succ _) _⟩
end Go.Proofs.YtibomkcbopkpkaaDoor
