/-
  Texts of one claim, one behind the other.
-/
import Derived.BigQuiet
import Derived.Deep.CutBlock
import Derived.Deep.CutRange
import Derived.Deep.RegionHeld3
import Derived.Deep.RegionWith
import Derived.Defers
import Derived.Laws.Pointers
import Derived.Lib.QuietBelow
import Derived.Recover
import Derived.StillTail
import Derived.Test.YtgfbahjpaaanoaaGreatDoorPfB
/-
  SecondsOf and WeekdayOf, on both sides.
-/
namespace Go.Proofs.YtgfbahjpaaanoaaGreatDoor
open Go.ChangeShapes Go.WideShapes Go.ChangeAt Go.RowKit Go.Sort
def soV (y m d h i s : Int) : Int := if dateB y m d h i s = true then secsD y m d h i s else 0
theorem soV_yes {y m d h i s : Int} (k : dateB y m d h i s = true) : soV y m d h i s = secsD y m d h i s := by simp [soV, k]
theorem soV_no {y m d h i s : Int} (k : dateB y m d h i s = false) : soV y m d h i s = 0 := by simp [soV, k]
set_option maxHeartbeats 1000000 in
theorem specSecs_any (y m d h i s : Int) (w : World) (k : DateOk y m d h i s) :
    Calls Tryz.prog 123 #[.agg #[.int .i64 y, .int .i64 m, .int .i64 d, .int .i64 h, .int .i64 i, .int .i64 s]] w fun e w' => e = .returned (.int .i64 (secsD y m d h i s)) ∧ Below w.heap.size w w' := by
  have H : Hid (∀ w, Calls Tryz.prog 148 #[.int .i64 y, .int .i64 m, .int .i64 d] w fun e w' => e = .returned (.int .i64 (daysD y m d)) ∧ w' = w) := fun w => specDays_any y m d w k.day
  have HD : Hid (secsD y m d h i s = daysD y m d * 86400 + h * 3600 + i * 60 + s) := rfl
  have ⟨hd0, hd1⟩ := daysD_bd k.day
  obtain ⟨_, h0, h1, i0, i1, s0, s1⟩ := k
  generalize daysD y m d = D at *
  go_enter Tryz.func123, Tryz.ntmps123
  go_wp2_with fail
  obtain ⟨W, hW⟩ : ∃ W, W = w.alloc (.cells #[.int .i64 y, .int .i64 m, .int .i64 d, .int .i64 h, .int .i64 i, .int .i64 s] 145) := ⟨_, rfl⟩
  rw [← hW]
  have KD : DateAtB W w.heap.size y m d h i s := by subst hW; exact dateAtB_new w y m d h i s _
  have KB : Hid (Below w.heap.size w W) := by subst hW; exact (Below.refl _ _).alloc (Nat.le_refl _) _
  clear hW
  have q0 := cell_regrown KD.c0
  have q1 := cell_regrown KD.c1
  have q2 := cell_regrown KD.c2
  have q3 := cell_regrown KD.c3
  have q4 := cell_regrown KD.c4
  have q5 := cell_regrown KD.c5
  clear KD
  have cS : ∀ d' os, Calls Tryz.prog 148 #[.int .i64 y, .int .i64 m, .int .i64 d] (grow (redrawn W d') os) fun e w'' => e = .returned (.int .i64 D) ∧ ∃ p : Regrown, w'' = grow (redrawn W p.d) p.os := fun d' os => Calls.regrown_of ((H.out _).mono fun _ _ ⟨h1, h2⟩ => ⟨h1, by rw [h2]; exact Below.refl _ _⟩)
  refine wp_region_quiet_below (by kernel_rfl) (by kernel_rfl) ?_
  repeat (go_big_quiet_step (first | (go_at_call 148; exact cS _ _)))
  refine wpQuiet_nil ?_
  intro W2 hW2
  have KB2 : Hid (Below w.heap.size w W2) := by
    obtain ⟨⟨d, os⟩, rfl⟩ := hW2
    exact KB.out.trans ((below_regrown W d os).mono KB.out.size)
  clear hW2 cS q0 q1 q2 q3 q4 q5
  go_wp2_with fail
  go_ret
  exact ⟨ret_int (by rw [HD.out]), KB2.out⟩
set_option maxHeartbeats 1000000 in
theorem implSecondsOf_any (y m d h i s : Int) (w : World) :
    Calls Tryz.prog 111 #[.agg #[.int .i64 y, .int .i64 m, .int .i64 d, .int .i64 h, .int .i64 i, .int .i64 s]] w fun e w' => e = .returned (.agg #[.int .i64 (dfC y m d h i s), .int .i64 (soV y m d h i s)]) ∧ Below w.heap.size w w' := by
  have H : Hid (∀ w, Calls Tryz.prog 133 #[.agg #[.int .i64 y, .int .i64 m, .int .i64 d, .int .i64 h, .int .i64 i, .int .i64 s]] w fun e w' => e = .returned (.int .i64 (dfC y m d h i s)) ∧ Below w.heap.size w w') := implFault_any y m d h i s
  cases hk : dateB y m d h i s
  · rw [soV_no hk]
    rw [dfC_no hk] at H ⊢
    clear hk
    go_enter Tryz.func111, Tryz.ntmps111
    go_wp2_with fail
    refine (H.out _).mono ?_
    rintro e w1 ⟨rfl, hb1⟩
    have KB : Hid (Below w.heap.size w w1) := (((Below.refl w.heap.size w).alloc (Nat.le_refl _) _).alloc (by simp) _).trans (hb1.mono (by simp; omega))
    have KD : Hid (DateAtB w1 w.heap.size y m d h i s) := ((dateAtB_new w y m d h i s 145).keep ((Below.refl _ _).alloc (Nat.le_refl _) _)).keep hb1
    have KR0 : Room2 w1 (w.heap.size + 1) 0 0 := by
      have := (room2_new (w.alloc (.cells #[.int .i64 y, .int .i64 m, .int .i64 d, .int .i64 h, .int .i64 i, .int .i64 s] 145)) 0 0 34).keep hb1
      simpa using this
    have KR : Hid (Room2 w1 (w.heap.size + 1) 0 0) := KR0
    clear KR0
    clear hb1
    obtain ⟨c0, c1, c2, c3, c4, c5, fr⟩ := KD.out
    obtain ⟨r0, r1, rf0, rf1⟩ := KR.out
    clear fr
    go_wp2
    obtain ⟨z0, z1⟩ := two_set (v0 := .int .i64 3) (v1 := .int .i64 (0)) r0 r1
    exact bodyPost_ret (v := .agg #[.int .i64 3, .int .i64 0]) (by simp [results, Tryz.results111, go_sem, z0, z1]) rfl ⟨rfl, (KB.out.setCell (Nat.le_succ _) _).setCell (Nat.le_succ _) _⟩
  · rw [soV_yes hk]
    rw [dfC_yes hk] at H ⊢
    have hday : dayB y m d = true := dayB_of (dateB_yes hk).day
    have H2 : Hid (∀ w, Calls Tryz.prog 134 #[.int .i64 y, .int .i64 m, .int .i64 d] w fun e w' => e = .returned (.agg #[.int .i64 0, .int .i64 (daysD y m d)]) ∧ Below w.heap.size w w') := by
      have := implDaysOf_any y m d
      rw [doC_yes hday, doV_yes hday] at this
      exact this
    have HD : Hid (secsD y m d h i s = daysD y m d * 86400 + h * 3600 + i * 60 + s) := rfl
    have ⟨hd0, hd1⟩ := daysD_bd (dateB_yes hk).day
    obtain ⟨_, h0, h1, i0, i1, s0, s1⟩ := dateB_yes hk
    generalize daysD y m d = D at *
    clear hk hday
    go_enter Tryz.func111, Tryz.ntmps111
    go_wp2_with fail
    refine (H.out _).mono ?_
    rintro e w1 ⟨rfl, hb1⟩
    have KB : Hid (Below w.heap.size w w1) := (((Below.refl w.heap.size w).alloc (Nat.le_refl _) _).alloc (by simp) _).trans (hb1.mono (by simp; omega))
    have KD : Hid (DateAtB w1 w.heap.size y m d h i s) := ((dateAtB_new w y m d h i s 145).keep ((Below.refl _ _).alloc (Nat.le_refl _) _)).keep hb1
    have KR0 : Room2 w1 (w.heap.size + 1) 0 0 := by
      have := (room2_new (w.alloc (.cells #[.int .i64 y, .int .i64 m, .int .i64 d, .int .i64 h, .int .i64 i, .int .i64 s] 145)) 0 0 34).keep hb1
      simpa using this
    have KR : Hid (Room2 w1 (w.heap.size + 1) 0 0) := KR0
    clear KR0
    clear hb1
    obtain ⟨c0, c1, c2, c3, c4, c5, fr⟩ := KD.out
    obtain ⟨r0, r1, rf0, rf1⟩ := KR.out
    clear fr
    go_wp2_with fail
    refine (H2.out _).mono ?_
    rintro e w2 ⟨rfl, hb2⟩
    have KB2 : Hid (Below w.heap.size w w2) := KB.out.trans (hb2.mono KB.out.size)
    have KD2 : Hid (DateAtB w2 w.heap.size y m d h i s) := KD.out.keep hb2
    have KR2 : Hid (Room2 w2 (w.heap.size + 1) 0 0) := KR.out.keep hb2
    clear hb2 KB KD KR c0 c1 c2 c3 c4 c5 r0 r1 rf0 rf1
    obtain ⟨c0, c1, c2, c3, c4, c5, fr⟩ := KD2.out
    obtain ⟨r0, r1, rf0, rf1⟩ := KR2.out
    clear fr
    have hfv := ifield_val
    go_wp2
    obtain ⟨z0, z1⟩ := two_set (v0 := .int .i64 0) (v1 := .int .i64 (D * 86400 + h * 3600 + i * 60 + s)) r0 r1
    exact bodyPost_ret (v := .agg #[.int .i64 0, .int .i64 (D * 86400 + h * 3600 + i * 60 + s)]) (by simp [results, Tryz.results111, go_sem, z0, z1]) rfl ⟨by rw [HD.out], (KB2.out.setCell (Nat.le_succ _) _).setCell (Nat.le_succ _) _⟩
end Go.Proofs.YtgfbahjpaaanoaaGreatDoor
/-
  digitsIn and monthIn: what they read, or that they die.
-/
namespace Go.Proofs.YtgfbahjpaaanoaaGreatDoor
open Go.ChangeShapes Go.WideShapes Go.ChangeAt Go.RowKit Go.Sort
/-- A call that dies of a value that is not nil. -/
def Dies (e : Ending) : Prop := ∃ u pv, e = .panicked [{ v := .iface u pv, recovered := false }]
theorem str_neB {a b : ByteArray} (h : a ≠ b) : (a.toList == b.toList) = false := by
  rw [beq_eq_false_iff_ne]
  intro e
  rw [ByteArray.toList_eq, ByteArray.toList_eq] at e
  exact h (ByteArray.ext (Array.ext' e))
set_option maxHeartbeats 1000000 in
theorem digitsIn_yes (t : ByteArray) (w : World) (h : okD t = true) :
    Calls Tryz.prog 112 #[.string t] w fun e w' => e = .returned (.int .i64 (numD t)) ∧ Below w.heap.size w w' := by
  have H := implDelta t w
  rw [dC_yes h, dV_yes h] at H
  rw [numD_yes t h]
  clear h
  generalize valD t.data.toList = v at *
  go_enter Tryz.func112, Tryz.ntmps112
  go_wp2_with fail
  refine H.mono ?_
  rintro e w1 ⟨rfl, hb⟩
  have KB : Hid (Below w.heap.size w w1) := hb
  clear hb H
  go_wp2_with fail
  go_ret
  exact ⟨rfl, KB.out.alloc KB.out.size _⟩
set_option maxHeartbeats 1000000 in
theorem digitsIn_no (t : ByteArray) (w : World) (h : okD t = false) :
    Calls Tryz.prog 112 #[.string t] w fun e w' => Dies e ∧ Below w.heap.size w w' := by
  have H := implDelta t w
  rw [dC_no h, dV_no h] at H
  clear h
  go_enter Tryz.func112, Tryz.ntmps112
  go_wp2_with fail
  refine H.mono ?_
  rintro e w1 ⟨rfl, hb⟩
  have KB : Hid (Below w.heap.size w w1) := hb
  clear hb H
  go_wp2_with fail
  exact ⟨rfl, ⟨_, _, rfl⟩, KB.out.alloc KB.out.size _⟩
/-- What monthIn does with a name. -/
def MonthOr (name : ByteArray) (e : Ending) : Prop := (∃ k : Int, 1 ≤ k ∧ k ≤ 12 ∧ moT k = name ∧ e = .returned (.int .i64 k)) ∨ (Dies e ∧ ∀ j : Int, 1 ≤ j → j ≤ 12 → moT j ≠ name)
set_option maxHeartbeats 2000000 in
theorem monthIn_any (name : ByteArray) (w : World) :
    Calls Tryz.prog 113 #[.string name] w fun e w' => MonthOr name e ∧ w' = w := by
  have HM : Hid (∀ p w, 0 ≤ p → p ≤ 11 → Calls Tryz.prog 135 #[.string monNames, .int .i64 p] w fun e w' => e = .returned (.string (moT (p + 1))) ∧ w' = w) := fun p w a b => nameAt_mon p a b w
  unfold monNames at HM
  go_enter Tryz.func113, Tryz.ntmps113
  go_wp2
  go_loop [3] (fun x => ∃ k : Int, 1 ≤ k ∧ k ≤ 13 ∧ x = .int .i64 k ∧ ∀ j : Int, 1 ≤ j → j < k → moT j ≠ name) (fun x => (13 - intOf x).toNat)
  case atStart => exact ⟨1, by omega, by omega, rfl, fun j h1 h2 => by omega⟩
  case round =>
    obtain ⟨k, hk0, hk1, rfl, hno⟩ := hrel
    have HNO : Hid (∀ j : Int, 1 ≤ j → j < k → moT j ≠ name) := hno
    clear hno
    by_cases hlt : k ≤ 12
    · go_wp2_with fail
      refine (HM.out (k - 1) _ (by omega) (by omega)).mono ?_
      rintro e w1 ⟨rfl, rfl⟩
      rw [show k - 1 + 1 = k by omega]
      by_cases heq : moT k = name
      · have HQ : Hid (moT k = name) := heq
        rw [heq]
        clear heq
        go_wp2_with fail
        go_ret
        exact ⟨.inl ⟨k, hk0, hlt, HQ.out, rfl⟩, rfl⟩
      · have HQ : Hid (moT k ≠ name) := heq
        have hne := str_neB heq
        clear heq
        obtain ⟨q, hq⟩ : ∃ q, Hid (moT k = q) := ⟨_, rfl⟩
        rw [hq.out] at hne ⊢
        go_wp2_with fail
        go_round
        case rel => exact ⟨k + 1, by omega, by omega, by go_num, fun j h1 h2 => by
          by_cases hj : j = k
          · subst hj; exact HQ.out
          · exact HNO.out j h1 (by omega)⟩
        case measure => simp [intOf]; omega
    · obtain rfl : k = 13 := by omega
      go_wp2_with fail
      exact ⟨rfl, .inr ⟨⟨_, _, rfl⟩, fun j h1 h2 => HNO.out j h1 (by omega)⟩, rfl⟩
end Go.Proofs.YtgfbahjpaaanoaaGreatDoor
/-
  The model's ParseDate.
-/
namespace Go.Proofs.YtgfbahjpaaanoaaGreatDoor
open Go.ChangeShapes Go.WideShapes Go.ChangeAt Go.RowKit Go.Sort
theorem l1Delta_fn (s : ByteArray) (w : World) : Calls Tryz.prog 67 #[.string s] w fun e w' => e = .returned (.int .i64 (numD s)) ∧ w' = w := by
  by_cases c : s.size < 1 ∨ 64 < s.size
  · exact l1Delta_size s w c
  · exact l1Delta_any s w (by omega) (by omega)
theorem cut_slice (s : ByteArray) (a b : Nat) (hab : a ≤ b) (hb : b ≤ s.size) (w : World) :
    (Instr.slice 9 (.string s) (some (.int .i64 (a : Int))) (some (.int .i64 (b : Int))) none).run Tryz.prog w = .ok (.string (s.extract a b)) w := by
  have := run_slice_string (P := Tryz.prog) w 9 s .i64 .i64 (a : Int) (b : Int) Tryz.underlying9 (by omega) (by omega) (by omega)
  simpa using this
set_option maxHeartbeats 1000000 in
theorem l3Number_any (s : ByteArray) (a k : Nat) (ha : a ≤ 100) (hk : k ≤ 100) (h : a + k ≤ s.size) (w : World) :
    Calls Tryz.prog 120 #[.string s, .int .i64 (a : Int), .int .i64 (k : Int)] w fun e w' => e = .returned (.int .i64 (numD (s.extract a (a + k)))) ∧ w' = w := by
  have hc := cut_slice s a (a + k) (by omega) h
  rw [show ((a + k : Nat) : Int) = (a : Int) + k by omega] at hc
  have H := l1Delta_fn (s.extract a (a + k))
  generalize s.extract a (a + k) = t at *
  go_enter Tryz.func120, Tryz.ntmps120
  go_wp2_with fail
  refine (H _).mono ?_
  rintro e w1 ⟨rfl, rfl⟩
  go_wp2_with fail
  go_ret
  exact ⟨rfl, rfl⟩
set_option maxRecDepth 100000 in
set_option maxHeartbeats 4000000 in
theorem l3Parse_any (s : ByteArray) (w : World) :
    Calls Tryz.prog 93 #[.string s] w fun e w' => e = .returned (.int .i64 (parI s)) ∧ Below w.heap.size w w' := by
  by_cases hz : ¬ s.size = 29
  · have HN : Hid (parI s = -1) := parI_no fun h => absurd h hz
    have hz2 : ¬ (s.size : Int) = 29 := by omega
    clear hz
    go_enter Tryz.func93, Tryz.ntmps93
    go_wp2
    go_ret
    exact ⟨ret_int (by rw [HN.out]), Below.refl _ _⟩
  have hz : s.size = 29 := Decidable.not_not.1 hz
  have HY : Hid (∀ m, Cand s m → parI s = parS s m) := fun m h => parI_yes hz h
  have HN : Hid ((∀ m, ¬ Cand s m) → parI s = -1) := fun h => parI_no fun _ => h
  have HA : Hid (∀ w, Calls Tryz.prog 120 #[.string s, .int .i64 12, .int .i64 4] w fun e w' => e = .returned (.int .i64 (numD (s.extract 12 16))) ∧ w' = w) := fun w => l3Number_any s 12 4 (by omega) (by omega) (by omega) w
  have HB : Hid (∀ w, Calls Tryz.prog 120 #[.string s, .int .i64 5, .int .i64 2] w fun e w' => e = .returned (.int .i64 (numD (s.extract 5 7))) ∧ w' = w) := fun w => l3Number_any s 5 2 (by omega) (by omega) (by omega) w
  have HC : Hid (∀ w, Calls Tryz.prog 120 #[.string s, .int .i64 17, .int .i64 2] w fun e w' => e = .returned (.int .i64 (numD (s.extract 17 19))) ∧ w' = w) := fun w => l3Number_any s 17 2 (by omega) (by omega) (by omega) w
  have HD : Hid (∀ w, Calls Tryz.prog 120 #[.string s, .int .i64 20, .int .i64 2] w fun e w' => e = .returned (.int .i64 (numD (s.extract 20 22))) ∧ w' = w) := fun w => l3Number_any s 20 2 (by omega) (by omega) (by omega) w
  have HE : Hid (∀ w, Calls Tryz.prog 120 #[.string s, .int .i64 23, .int .i64 2] w fun e w' => e = .returned (.int .i64 (numD (s.extract 23 25))) ∧ w' = w) := fun w => l3Number_any s 23 2 (by omega) (by omega) (by omega) w
  have HCA : Hid (∀ m, 1 ≤ m → m ≤ 12 → moT m = s.extract 8 11 → parB s m = true → fmtT (parS s m) = s → Cand s m) := fun m a b c d e => ⟨a, b, c, d, e⟩
  have HCB : Hid (∀ m, Cand s m → moT m = s.extract 8 11 ∧ parB s m = true ∧ fmtT (parS s m) = s ∧ 1 ≤ m ∧ m ≤ 12) := fun m h => ⟨h.mon, h.ok, h.same, h.m0, h.m1⟩
  have HPB : Hid (∀ m, parB s m = dateB (numD (s.extract 12 16)) m (numD (s.extract 5 7)) (numD (s.extract 17 19)) (numD (s.extract 20 22)) (numD (s.extract 23 25))) := fun m => rfl
  have HPS : Hid (∀ m, parS s m = secsD (numD (s.extract 12 16)) m (numD (s.extract 5 7)) (numD (s.extract 17 19)) (numD (s.extract 20 22)) (numD (s.extract 23 25))) := fun m => rfl
  generalize numD (s.extract 12 16) = y at *
  generalize numD (s.extract 5 7) = d at *
  generalize numD (s.extract 17 19) = h at *
  generalize numD (s.extract 20 22) = i at *
  generalize numD (s.extract 23 25) = c at *
  have hz2 : (s.size : Int) = 29 := by omega
  have hsm : Hid (∀ k, 1 ≤ k → k ≤ 12 → ∀ w, (Instr.slice 9 (.string monNames) (some (.int .i64 (3 * k - 3))) (some (.int .i64 (3 * k))) none).run Tryz.prog w = .ok (.string (moT k)) w) := fun k a b => mon_slice k a b
  unfold monNames at hsm
  clear hz
  go_enter Tryz.func93, Tryz.ntmps93
  go_wp2
  generalize (⟨#[74, 97, 110, 70, 101, 98, 77, 97, 114, 65, 112, 114, 77, 97, 121, 74, 117, 110, 74, 117, 108, 65, 117, 103, 83, 101, 112, 79, 99, 116, 78, 111, 118, 68, 101, 99]⟩ : ByteArray) = MN at *
  go_loopw [4] (fun x wr => ∃ k : Int, 1 ≤ k ∧ k ≤ 13 ∧ x = .int .i64 k ∧ (∀ j : Int, j < k → ¬ Cand s j) ∧ Below w.heap.size w wr) (fun x _ => (13 - intOf x).toNat)
  case atStart => exact ⟨1, by omega, by omega, rfl, fun j h hc => by have := (HCB.out j hc).2.2.2.1; omega, Below.refl _ _⟩
  case round =>
    obtain ⟨k, hk0, hk1, rfl, hno, hb⟩ := hrel
    have HNO : Hid (∀ j : Int, j < k → ¬ Cand s j) := hno
    have KB : Hid (Below w.heap.size w wr) := hb
    clear hno hb
    by_cases hlt : k ≤ 12
    · have hs2 := hsm.out k hk0 hlt
      by_cases hm : moT k = s.extract 8 11
      · have HM : Hid (moT k = s.extract 8 11) := hm
        rw [hm] at hs2
        clear hm
        go_wp2_with fail
        go_quiet (fail)
        go_wp2_with fail
        refine (HA.out _).mono ?_
        rintro e w1 ⟨rfl, hw1⟩
        have K1 : Hid (Below w.heap.size w w1) := by
          show Below _ _ _
          rw [hw1]
          first | exact below_drewN KB.out _ | exact KB.out
        clear hw1 KB
        go_wp2_with fail
        refine (HB.out _).mono ?_
        rintro e w2 ⟨rfl, rfl⟩
        go_wp2_with fail
        refine (HC.out _).mono ?_
        rintro e w2 ⟨rfl, rfl⟩
        go_wp2_with fail
        refine (HD.out _).mono ?_
        rintro e w2 ⟨rfl, rfl⟩
        go_wp2_with fail
        refine (HE.out _).mono ?_
        rintro e w2 ⟨rfl, rfl⟩
        go_wp2_with fail
        refine (specFault_any y k d h i c _).mono ?_
        rintro e w3 ⟨rfl, hb3⟩
        have K3 : Hid (Below w.heap.size w w3 ∧ DateAtB w3 w2.heap.size y k d h i c) := ⟨(K1.out.alloc K1.out.size _).trans (hb3.mono (by have := K1.out.size; simp; omega)), (dateAtB_new w2 y k d h i c 145).keep hb3⟩
        clear hb3 K1
        generalize w2.heap.size = Bd at *
        clear w2
        obtain ⟨c0, c1, c2, c3, c4, c5, fr⟩ := K3.out.2
        clear fr
        cases hbd : dateB y k d h i c
        · have HQ : Hid (¬ Cand s k) := fun hc => by
            have := (HCB.out k hc).2.1
            rw [HPB.out, hbd] at this
            cases this
          rw [dfC_no hbd]
          clear hbd
          go_wp2_with fail
          go_roundw
          case rel => exact ⟨k + 1, by omega, by omega, by go_num, fun j h1 => by
            by_cases hj : j = k
            · subst hj; exact HQ.out
            · exact HNO.out j (by omega), K3.out.1⟩
          case measure => simp [intOf]; omega
        · have HOK := dateB_yes hbd
          have HPO : Hid (parB s k = true) := by show _ = _; rw [HPB.out, hbd]
          rw [dfC_yes hbd]
          clear hbd
          have HSC : Hid (∀ w, Calls Tryz.prog 123 #[.agg #[.int .i64 y, .int .i64 k, .int .i64 d, .int .i64 h, .int .i64 i, .int .i64 c]] w fun e w' => e = .returned (.int .i64 (secsD y k d h i c)) ∧ Below w.heap.size w w') := fun w => specSecs_any y k d h i c w HOK
          have ⟨hv0, hv1⟩ := secsD_bd HOK
          have HPS2 : Hid (parS s k = secsD y k d h i c) := HPS.out k
          clear HOK
          generalize secsD y k d h i c = v at *
          have HFM : Hid (∀ w, Calls Tryz.prog 122 #[.int .i64 v] w fun e w' => e = .returned (.string (fmtT v)) ∧ Below w.heap.size w w') := fun w => l3Format_any v w hv0 hv1
          go_wp2_with fail
          refine (HSC.out _).mono ?_
          rintro e w4 ⟨rfl, hb4⟩
          have K4 : Hid (Below w.heap.size w w4 ∧ DateAtB w4 Bd y k d h i c) := ⟨K3.out.1.trans (hb4.mono K3.out.1.size), K3.out.2.keep hb4⟩
          clear hb4 K3 c0 c1 c2 c3 c4 c5
          go_wp2_with fail
          refine (HFM.out _).mono ?_
          rintro e w5 ⟨rfl, hb5⟩
          have K5 : Hid (Below w.heap.size w w5 ∧ DateAtB w5 Bd y k d h i c) := ⟨K4.out.1.trans (hb5.mono K4.out.1.size), K4.out.2.keep hb5⟩
          clear hb5 K4
          obtain ⟨c0, c1, c2, c3, c4, c5, fr⟩ := K5.out.2
          clear fr
          by_cases heq : fmtT v = s
          · have HX : Hid (parI s = v) := by
              show _ = _
              rw [HY.out k (HCA.out k hk0 hlt HM.out HPO.out (by rw [HPS2.out, heq])), HPS2.out]
            rw [heq]
            clear heq
            go_wp2_with fail
            refine (HSC.out _).mono ?_
            rintro e w6 ⟨rfl, hb6⟩
            have K6 : Hid (Below w.heap.size w w6) := K5.out.1.trans (hb6.mono K5.out.1.size)
            clear hb6 K5
            go_wp2_with fail
            go_ret
            exact ⟨ret_int (by rw [HX.out]), K6.out⟩
          · have HQ : Hid (¬ Cand s k) := fun hc => heq (by have := (HCB.out k hc).2.2.1; rw [HPS2.out] at this; exact this)
            have hne := str_neB heq
            clear heq
            generalize fmtT v = r at *
            go_wp2_with fail
            go_roundw
            case rel => exact ⟨k + 1, by omega, by omega, by go_num, fun j h1 => by
              by_cases hj : j = k
              · subst hj; exact HQ.out
              · exact HNO.out j (by omega), K5.out.1⟩
            case measure => simp [intOf]; omega
      · have HQ : Hid (¬ Cand s k) := fun hc => hm (HCB.out k hc).1
        have hne := str_neB (fun e : s.extract 8 11 = moT k => hm e.symm)
        obtain ⟨q, hq⟩ : ∃ q, Hid (moT k = q) := ⟨_, rfl⟩
        rw [hq.out] at hs2 hne
        clear hm
        go_wp2_with fail
        go_quiet (fail)
        go_wp2_with fail
        go_roundw
        case rel => exact ⟨k + 1, by omega, by omega, by go_num, fun j h1 => by
          by_cases hj : j = k
          · subst hj; exact HQ.out
          · exact HNO.out j (by omega), by first | exact below_drewN KB.out _ | exact KB.out⟩
        case measure => simp [intOf]; omega
    · obtain rfl : k = 13 := by omega
      have HX : Hid (parI s = -1) := HN.out fun m hc => by
        have := (HCB.out m hc).2.2.2.2
        exact HNO.out m (by omega) hc
      go_wp2_with fail
      go_ret
      exact ⟨ret_int (by rw [HX.out]), KB.out⟩
end Go.Proofs.YtgfbahjpaaanoaaGreatDoor
/-
  secondsIn: what it reads, or that it dies.
-/
namespace Go.Proofs.YtgfbahjpaaanoaaGreatDoor
open Go.ChangeShapes Go.WideShapes Go.ChangeAt Go.RowKit Go.Sort
open num
def DigOr (t : ByteArray) (e : Ending) : Prop := (okD t = true ∧ e = .returned (.int .i64 (numD t))) ∨ (okD t = false ∧ Dies e)
theorem digitsIn_any (t : ByteArray) (w : World) : Calls Tryz.prog 112 #[.string t] w fun e w' => DigOr t e ∧ Below w.heap.size w w' := by
  cases h : okD t
  · exact (digitsIn_no t w h).mono fun _ _ ⟨a, b⟩ => ⟨.inr ⟨h, a⟩, b⟩
  · exact (digitsIn_yes t w h).mono fun _ _ ⟨a, b⟩ => ⟨.inl ⟨h, a⟩, b⟩
theorem cand_num {s : ByteArray} {m : Int} (h : Cand s m) : okD (s.extract 12 16) = true ∧ okD (s.extract 5 7) = true ∧ okD (s.extract 17 19) = true ∧ okD (s.extract 20 22) = true ∧ okD (s.extract 23 25) = true := by
  have k := dateB_yes h.ok
  have hh : ∀ t, 0 ≤ numD t → okD t = true := by
    intro t ht
    cases e : okD t
    · rw [numD_no t e] at ht; omega
    · rfl
  exact ⟨hh _ (by have := k.day.y0; omega), hh _ (by have := k.day.d0; omega), hh _ k.h0, hh _ k.i0, hh _ k.s0⟩
/-- What secondsIn does with a text. -/
def SecOr (s : ByteArray) (e : Ending) : Prop := (s.size = 29 ∧ ∃ m, Cand s m ∧ e = .returned (.int .i64 (parS s m))) ∨ (Dies e ∧ (s.size = 29 → ∀ m, ¬ Cand s m))
/-- What lies behind the numbers' reading: the seconds' room. -/
def ReadAt (s : ByteArray) (w : World) (v : Value) (W : World) : Prop :=
  ∃ (B : Nat) (k : Int), v = .pointer (some ⟨B, 0, none⟩) ∧ (1 ≤ k ∧ k ≤ 12 ∧ moT k = s.extract 8 11) ∧ Below w.heap.size w W ∧
    Room2 W B (dfC (numD (s.extract 12 16)) k (numD (s.extract 5 7)) (numD (s.extract 17 19)) (numD (s.extract 20 22)) (numD (s.extract 23 25))) (soV (numD (s.extract 12 16)) k (numD (s.extract 5 7)) (numD (s.extract 17 19)) (numD (s.extract 20 22)) (numD (s.extract 23 25)))
theorem room2_set {w : World} {b : Nat} {c v c' v' : Int} (h : Room2 w b c v) : Room2 ((w.setCell ⟨b, 0, none⟩ (.int .i64 c')).setCell ⟨b, 1, none⟩ (.int .i64 v')) b c' v' := by
  obtain ⟨q0, q1⟩ := two_set (v0 := .int .i64 c') (v1 := .int .i64 v') h.c0 h.c1
  exact ⟨q0, q1, by rw [World.frozen?_setCell, World.frozen?_setCell, h.f0], by rw [World.frozen?_setCell, World.frozen?_setCell, h.f1]⟩
theorem tfield_text (c : Int) (t : ByteArray) (w : World) : (Instr.field 98 (.agg #[.int .i64 c, .string t]) 1).run Tryz.prog w = .ok (.string t) w := by kernel_rfl
set_option maxRecDepth 100000 in
set_option maxHeartbeats 16000000 in
theorem secondsIn_any (s : ByteArray) (w : World) (hp : PowIs w) :
    Calls Tryz.prog 82 #[.string s] w fun e w' => SecOr s e ∧ Below w.heap.size w w' := by
  by_cases hz : ¬ s.size = 29
  · have HZ : Hid (¬ s.size = 29) := hz
    have hz2 : ¬ (s.size : Int) = 29 := by omega
    clear hz hp
    go_enter Tryz.func82, Tryz.ntmps82
    go_wp2
    exact ⟨rfl, .inr ⟨⟨_, _, rfl⟩, fun h => absurd h HZ.out⟩, Below.refl _ _⟩
  have hz : s.size = 29 := Decidable.not_not.1 hz
  have HZ : Hid (s.size = 29) := hz
  have hz2 : (s.size : Int) = 29 := by omega
  have HP : Hid (PowIs w) := hp
  clear hp hz
  go_enter Tryz.func82, Tryz.ntmps82
  go_wp2_with fail
  go_cut [3] from 8 to 27 (fun s3 wx => ReadAt s w s3 wx)
  case first =>
    refine wp_region_any (by kernel_rfl) ?_
    change wpAny _ _ _ _ _ _ _ (World.drew _)
    obtain ⟨v0, hv0⟩ : ∃ X, X = w.drew := ⟨_, rfl⟩
    rw [← hv0]
    have KD : Hid (Below w.heap.size w v0) := by
      show Below _ _ _
      rw [hv0]
      exact (Below.refl _ _).drew
    clear hv0
    refine wpAny_take (i := 0) (v := .string s) rfl (by kernel_rfl) (by kernel_rfl) (by kernel_rfl) (fun _ _ _ h => h) (Or.inl ⟨by rfl, ?_⟩) ?_
    · intro w; go_simp
    refine wpAny_take (i := 1) (v := .string (s.extract 12 16)) rfl (by kernel_rfl) (by kernel_rfl) (by kernel_rfl) (fun _ _ _ h => h) (Or.inl ⟨by rfl, ?_⟩) ?_
    · intro w; go_simp
    refine wpAny_take (i := 3) (v := .string s) rfl (by kernel_rfl) (by kernel_rfl) (by kernel_rfl) (fun _ _ _ h => h) (Or.inl ⟨by rfl, ?_⟩) ?_
    · intro w; go_simp
    refine wpAny_take (i := 4) (v := .string (s.extract 8 11)) rfl (by kernel_rfl) (by kernel_rfl) (by kernel_rfl) (fun _ _ _ h => h) (Or.inl ⟨by rfl, ?_⟩) ?_
    · intro w; go_simp
    refine wpAny_take (i := 6) (v := .string s) rfl (by kernel_rfl) (by kernel_rfl) (by kernel_rfl) (fun _ _ _ h => h) (Or.inl ⟨by rfl, ?_⟩) ?_
    · intro w; go_simp
    refine wpAny_take (i := 7) (v := .string (s.extract 5 7)) rfl (by kernel_rfl) (by kernel_rfl) (by kernel_rfl) (fun _ _ _ h => h) (Or.inl ⟨by rfl, ?_⟩) ?_
    · intro w; go_simp
    refine wpAny_take (i := 9) (v := .string s) rfl (by kernel_rfl) (by kernel_rfl) (by kernel_rfl) (fun _ _ _ h => h) (Or.inl ⟨by rfl, ?_⟩) ?_
    · intro w; go_simp
    refine wpAny_take (i := 10) (v := .string (s.extract 17 19)) rfl (by kernel_rfl) (by kernel_rfl) (by kernel_rfl) (fun _ _ _ h => h) (Or.inl ⟨by rfl, ?_⟩) ?_
    · intro w; go_simp
    refine wpAny_take (i := 12) (v := .string s) rfl (by kernel_rfl) (by kernel_rfl) (by kernel_rfl) (fun _ _ _ h => h) (Or.inl ⟨by rfl, ?_⟩) ?_
    · intro w; go_simp
    refine wpAny_take (i := 13) (v := .string (s.extract 20 22)) rfl (by kernel_rfl) (by kernel_rfl) (by kernel_rfl) (fun _ _ _ h => h) (Or.inl ⟨by rfl, ?_⟩) ?_
    · intro w; go_simp
    refine wpAny_take (i := 15) (v := .string s) rfl (by kernel_rfl) (by kernel_rfl) (by kernel_rfl) (fun _ _ _ h => h) (Or.inl ⟨by rfl, ?_⟩) ?_
    · intro w; go_simp
    refine wpAny_take (i := 16) (v := .string (s.extract 23 25)) rfl (by kernel_rfl) (by kernel_rfl) (by kernel_rfl) (fun _ _ _ h => h) (Or.inl ⟨by rfl, ?_⟩) ?_
    · intro w; go_simp

    refine wpAny_ready (rs := [2, 20]) (by kernel_rfl) (by simp) ?_
    refine AllReady.cons rfl (fun K hK => ?_) (AllReady.cons rfl (fun K hK => ?_) AllReady.nil)
    · go_simp
      go_wp2_with fail
      refine (digitsIn_any _ _).mono ?_
      rintro e v1 ⟨h, hb⟩
      have Kv1 : Hid (Below w.heap.size w v1) := KD.out.trans (hb.mono KD.out.size)
      clear hb KD
      rcases h with ⟨h, rfl⟩ | ⟨h, u, pv, rfl⟩
      rotate_left
      · go_wp2_with fail
        exact ⟨rfl, .inr ⟨⟨_, _, rfl⟩, fun _ m hc => by have := (cand_num hc).1; rw [h] at this; cases this⟩, Kv1.out⟩
      clear h
      refine hK _ _ ?_
      clear hK K
      refine wpAny_ready (rs := [5, 20]) (by kernel_rfl) (by simp) ?_
      refine AllReady.cons rfl (fun K hK => ?_) (AllReady.cons rfl (fun K hK => ?_) AllReady.nil)
      · go_simp
        go_wp2_with fail
        refine (monthIn_any _ _).mono ?_
        rintro e v2 ⟨h, hw⟩
        have Kv2 : Hid (Below w.heap.size w v2) := by
          rw [hw]; exact Kv1.out
        clear hw Kv1
        rcases h with ⟨k, hk0, hk1, hkm, rfl⟩ | ⟨⟨u, pv, rfl⟩, hnm⟩
        rotate_left
        · go_wp2_with fail
          exact ⟨rfl, .inr ⟨⟨_, _, rfl⟩, fun _ m hc => hnm m hc.m0 hc.m1 hc.mon⟩, Kv2.out⟩
        have HM : Hid (1 ≤ k ∧ k ≤ 12 ∧ moT k = s.extract 8 11) := ⟨hk0, hk1, hkm⟩
        clear hk0 hk1 hkm
        refine hK _ _ ?_
        clear hK K
        refine wpAny_ready (rs := [8, 20]) (by kernel_rfl) (by simp) ?_
        refine AllReady.cons rfl (fun K hK => ?_) (AllReady.cons rfl (fun K hK => ?_) AllReady.nil)
        · go_simp
          go_wp2_with fail
          refine (digitsIn_any _ _).mono ?_
          rintro e v3 ⟨h, hb⟩
          have Kv3 : Hid (Below w.heap.size w v3) := Kv2.out.trans (hb.mono Kv2.out.size)
          clear hb Kv2
          rcases h with ⟨h, rfl⟩ | ⟨h, u, pv, rfl⟩
          rotate_left
          · go_wp2_with fail
            exact ⟨rfl, .inr ⟨⟨_, _, rfl⟩, fun _ m hc => by have := (cand_num hc).2.1; rw [h] at this; cases this⟩, Kv3.out⟩
          clear h
          refine hK _ _ ?_
          clear hK K
          refine wpAny_ready (rs := [11, 20]) (by kernel_rfl) (by simp) ?_
          refine AllReady.cons rfl (fun K hK => ?_) (AllReady.cons rfl (fun K hK => ?_) AllReady.nil)
          · go_simp
            go_wp2_with fail
            refine (digitsIn_any _ _).mono ?_
            rintro e v4 ⟨h, hb⟩
            have Kv4 : Hid (Below w.heap.size w v4) := Kv3.out.trans (hb.mono Kv3.out.size)
            clear hb Kv3
            rcases h with ⟨h, rfl⟩ | ⟨h, u, pv, rfl⟩
            rotate_left
            · go_wp2_with fail
              exact ⟨rfl, .inr ⟨⟨_, _, rfl⟩, fun _ m hc => by have := (cand_num hc).2.2.1; rw [h] at this; cases this⟩, Kv4.out⟩
            clear h
            refine hK _ _ ?_
            clear hK K
            refine wpAny_ready (rs := [14, 20]) (by kernel_rfl) (by simp) ?_
            refine AllReady.cons rfl (fun K hK => ?_) (AllReady.cons rfl (fun K hK => ?_) AllReady.nil)
            · go_simp
              go_wp2_with fail
              refine (digitsIn_any _ _).mono ?_
              rintro e v5 ⟨h, hb⟩
              have Kv5 : Hid (Below w.heap.size w v5) := Kv4.out.trans (hb.mono Kv4.out.size)
              clear hb Kv4
              rcases h with ⟨h, rfl⟩ | ⟨h, u, pv, rfl⟩
              rotate_left
              · go_wp2_with fail
                exact ⟨rfl, .inr ⟨⟨_, _, rfl⟩, fun _ m hc => by have := (cand_num hc).2.2.2.1; rw [h] at this; cases this⟩, Kv5.out⟩
              clear h
              refine hK _ _ ?_
              clear hK K
              refine wpAny_ready (rs := [17, 20]) (by kernel_rfl) (by simp) ?_
              refine AllReady.cons rfl (fun K hK => ?_) (AllReady.cons rfl (fun K hK => ?_) AllReady.nil)
              · go_simp
                go_wp2_with fail
                refine (digitsIn_any _ _).mono ?_
                rintro e v6 ⟨h, hb⟩
                have Kv6 : Hid (Below w.heap.size w v6) := Kv5.out.trans (hb.mono Kv5.out.size)
                clear hb Kv5
                rcases h with ⟨h, rfl⟩ | ⟨h, u, pv, rfl⟩
                rotate_left
                · go_wp2_with fail
                  exact ⟨rfl, .inr ⟨⟨_, _, rfl⟩, fun _ m hc => by have := (cand_num hc).2.2.2.2; rw [h] at this; cases this⟩, Kv6.out⟩
                clear h
                refine hK _ _ ?_
                clear hK K
                refine wpAny_take (i := 18) (v := .agg #[.int .i64 (numD (s.extract 12 16)), .int .i64 k, .int .i64 (numD (s.extract 5 7)), .int .i64 (numD (s.extract 17 19)), .int .i64 (numD (s.extract 20 22)), .int .i64 (numD (s.extract 23 25))]) rfl (by kernel_rfl) (by kernel_rfl) (by kernel_rfl) (fun _ _ _ h => h) (Or.inl ⟨by rfl, ?_⟩) ?_
                · intro w; go_simp
                refine wpAny_ready (rs := [19, 20]) (by kernel_rfl) (by simp) ?_
                refine AllReady.cons rfl (fun K hK => ?_) (AllReady.cons rfl (fun K hK => ?_) AllReady.nil)
                · go_simp
                  go_wp2_with fail
                  refine (implSecondsOf_any _ _ _ _ _ _ _).mono ?_
                  rintro e v7 ⟨rfl, hb⟩
                  have Kv7 : Hid (Below w.heap.size w v7) := Kv6.out.trans (hb.mono Kv6.out.size)
                  clear hb Kv6
                  refine hK _ _ ?_
                  clear hK K
                  refine wpAny_ready (rs := [20]) (by kernel_rfl) (by simp) ?_
                  refine AllReady.cons rfl (fun K hK => ?_) AllReady.nil
                  go_simp
                  refine hK _ _ ?_
                  clear hK K
                  obtain ⟨v8, hv8⟩ : ∃ X, X = (v7).alloc (.cells #[.int .i64 0, .int .i64 0] 34) := ⟨_, rfl⟩
                  have Kv8 : Hid (Below w.heap.size w v8 ∧ Room2 v8 (v7).heap.size 0 0) := by
                    rw [hv8]
                    exact ⟨Kv7.out.alloc Kv7.out.size _, room2_new _ 0 0 _⟩
                  try rw [← hv8]
                  clear hv8
                  have HB : Hid (w.heap.size ≤ (v7).heap.size) := Kv7.out.size
                  clear Kv7
                  generalize (v7).heap.size = B at *
                  obtain ⟨r0, r1, rf0, rf1⟩ := Kv8.out.2
                  refine wpAny_ready (rs := [21]) (by kernel_rfl) (by simp) ?_
                  refine AllReady.cons rfl (fun K hK => ?_) AllReady.nil
                  go_simp
                  refine hK _ _ ?_
                  clear hK K
                  refine wpAny_done (by kernel_rfl) ?_ _
                  go_wp2_with fail
                  go_meet
                  exact ⟨B, k, rfl, HM.out, (Kv8.out.1.setCell HB.out _).setCell HB.out _, room2_set Kv8.out.2⟩
                · go_simp
                  refine hK _ _ ?_
                  clear hK K
                  obtain ⟨v9, hv9⟩ : ∃ X, X = (v6).alloc (.cells #[.int .i64 0, .int .i64 0] 34) := ⟨_, rfl⟩
                  have Kv9 : Hid (Below w.heap.size w v9 ∧ Room2 v9 (v6).heap.size 0 0) := by
                    rw [hv9]
                    exact ⟨Kv6.out.alloc Kv6.out.size _, room2_new _ 0 0 _⟩
                  try rw [← hv9]
                  clear hv9
                  have HB : Hid (w.heap.size ≤ (v6).heap.size) := Kv6.out.size
                  clear Kv6
                  generalize (v6).heap.size = B at *
                  refine wpAny_ready (rs := [19]) (by kernel_rfl) (by simp) ?_
                  refine AllReady.cons rfl (fun K hK => ?_) AllReady.nil
                  go_simp
                  go_wp2_with fail
                  refine (implSecondsOf_any _ _ _ _ _ _ _).mono ?_
                  rintro e v10 ⟨rfl, hb⟩
                  have Kv10 : Hid (Below w.heap.size w v10 ∧ Room2 v10 B 0 0) := ⟨Kv9.out.1.trans (hb.mono Kv9.out.1.size), Kv9.out.2.keep hb⟩
                  clear hb Kv9
                  refine hK _ _ ?_
                  clear hK K
                  obtain ⟨r0, r1, rf0, rf1⟩ := Kv10.out.2
                  refine wpAny_ready (rs := [21]) (by kernel_rfl) (by simp) ?_
                  refine AllReady.cons rfl (fun K hK => ?_) AllReady.nil
                  go_simp
                  refine hK _ _ ?_
                  clear hK K
                  refine wpAny_done (by kernel_rfl) ?_ _
                  go_wp2_with fail
                  go_meet
                  exact ⟨B, k, rfl, HM.out, (Kv10.out.1.setCell HB.out _).setCell HB.out _, room2_set Kv10.out.2⟩
              · go_simp
                refine hK _ _ ?_
                clear hK K
                obtain ⟨v11, hv11⟩ : ∃ X, X = (v5).alloc (.cells #[.int .i64 0, .int .i64 0] 34) := ⟨_, rfl⟩
                have Kv11 : Hid (Below w.heap.size w v11 ∧ Room2 v11 (v5).heap.size 0 0) := by
                  rw [hv11]
                  exact ⟨Kv5.out.alloc Kv5.out.size _, room2_new _ 0 0 _⟩
                try rw [← hv11]
                clear hv11
                have HB : Hid (w.heap.size ≤ (v5).heap.size) := Kv5.out.size
                clear Kv5
                generalize (v5).heap.size = B at *
                refine wpAny_ready (rs := [17]) (by kernel_rfl) (by simp) ?_
                refine AllReady.cons rfl (fun K hK => ?_) AllReady.nil
                go_simp
                go_wp2_with fail
                refine (digitsIn_any _ _).mono ?_
                rintro e v12 ⟨h, hb⟩
                have Kv12 : Hid (Below w.heap.size w v12 ∧ Room2 v12 B 0 0) := ⟨Kv11.out.1.trans (hb.mono Kv11.out.1.size), Kv11.out.2.keep hb⟩
                clear hb Kv11
                rcases h with ⟨h, rfl⟩ | ⟨h, u, pv, rfl⟩
                rotate_left
                · go_wp2_with fail
                  exact ⟨rfl, .inr ⟨⟨_, _, rfl⟩, fun _ m hc => by have := (cand_num hc).2.2.2.2; rw [h] at this; cases this⟩, Kv12.out.1⟩
                clear h
                refine hK _ _ ?_
                clear hK K
                refine wpAny_take (i := 18) (v := .agg #[.int .i64 (numD (s.extract 12 16)), .int .i64 k, .int .i64 (numD (s.extract 5 7)), .int .i64 (numD (s.extract 17 19)), .int .i64 (numD (s.extract 20 22)), .int .i64 (numD (s.extract 23 25))]) rfl (by kernel_rfl) (by kernel_rfl) (by kernel_rfl) (fun _ _ _ h => h) (Or.inl ⟨by rfl, ?_⟩) ?_
                · intro w; go_simp
                refine wpAny_ready (rs := [19]) (by kernel_rfl) (by simp) ?_
                refine AllReady.cons rfl (fun K hK => ?_) AllReady.nil
                go_simp
                go_wp2_with fail
                refine (implSecondsOf_any _ _ _ _ _ _ _).mono ?_
                rintro e v13 ⟨rfl, hb⟩
                have Kv13 : Hid (Below w.heap.size w v13 ∧ Room2 v13 B 0 0) := ⟨Kv12.out.1.trans (hb.mono Kv12.out.1.size), Kv12.out.2.keep hb⟩
                clear hb Kv12
                refine hK _ _ ?_
                clear hK K
                obtain ⟨r0, r1, rf0, rf1⟩ := Kv13.out.2
                refine wpAny_ready (rs := [21]) (by kernel_rfl) (by simp) ?_
                refine AllReady.cons rfl (fun K hK => ?_) AllReady.nil
                go_simp
                refine hK _ _ ?_
                clear hK K
                refine wpAny_done (by kernel_rfl) ?_ _
                go_wp2_with fail
                go_meet
                exact ⟨B, k, rfl, HM.out, (Kv13.out.1.setCell HB.out _).setCell HB.out _, room2_set Kv13.out.2⟩
            · go_simp
              refine hK _ _ ?_
              clear hK K
              obtain ⟨v14, hv14⟩ : ∃ X, X = (v4).alloc (.cells #[.int .i64 0, .int .i64 0] 34) := ⟨_, rfl⟩
              have Kv14 : Hid (Below w.heap.size w v14 ∧ Room2 v14 (v4).heap.size 0 0) := by
                rw [hv14]
                exact ⟨Kv4.out.alloc Kv4.out.size _, room2_new _ 0 0 _⟩
              try rw [← hv14]
              clear hv14
              have HB : Hid (w.heap.size ≤ (v4).heap.size) := Kv4.out.size
              clear Kv4
              generalize (v4).heap.size = B at *
              refine wpAny_ready (rs := [14]) (by kernel_rfl) (by simp) ?_
              refine AllReady.cons rfl (fun K hK => ?_) AllReady.nil
              go_simp
              go_wp2_with fail
              refine (digitsIn_any _ _).mono ?_
              rintro e v15 ⟨h, hb⟩
              have Kv15 : Hid (Below w.heap.size w v15 ∧ Room2 v15 B 0 0) := ⟨Kv14.out.1.trans (hb.mono Kv14.out.1.size), Kv14.out.2.keep hb⟩
              clear hb Kv14
              rcases h with ⟨h, rfl⟩ | ⟨h, u, pv, rfl⟩
              rotate_left
              · go_wp2_with fail
                exact ⟨rfl, .inr ⟨⟨_, _, rfl⟩, fun _ m hc => by have := (cand_num hc).2.2.2.1; rw [h] at this; cases this⟩, Kv15.out.1⟩
              clear h
              refine hK _ _ ?_
              clear hK K
              refine wpAny_ready (rs := [17]) (by kernel_rfl) (by simp) ?_
              refine AllReady.cons rfl (fun K hK => ?_) AllReady.nil
              go_simp
              go_wp2_with fail
              refine (digitsIn_any _ _).mono ?_
              rintro e v16 ⟨h, hb⟩
              have Kv16 : Hid (Below w.heap.size w v16 ∧ Room2 v16 B 0 0) := ⟨Kv15.out.1.trans (hb.mono Kv15.out.1.size), Kv15.out.2.keep hb⟩
              clear hb Kv15
              rcases h with ⟨h, rfl⟩ | ⟨h, u, pv, rfl⟩
              rotate_left
              · go_wp2_with fail
                exact ⟨rfl, .inr ⟨⟨_, _, rfl⟩, fun _ m hc => by have := (cand_num hc).2.2.2.2; rw [h] at this; cases this⟩, Kv16.out.1⟩
              clear h
              refine hK _ _ ?_
              clear hK K
              refine wpAny_take (i := 18) (v := .agg #[.int .i64 (numD (s.extract 12 16)), .int .i64 k, .int .i64 (numD (s.extract 5 7)), .int .i64 (numD (s.extract 17 19)), .int .i64 (numD (s.extract 20 22)), .int .i64 (numD (s.extract 23 25))]) rfl (by kernel_rfl) (by kernel_rfl) (by kernel_rfl) (fun _ _ _ h => h) (Or.inl ⟨by rfl, ?_⟩) ?_
              · intro w; go_simp
              refine wpAny_ready (rs := [19]) (by kernel_rfl) (by simp) ?_
              refine AllReady.cons rfl (fun K hK => ?_) AllReady.nil
              go_simp
              go_wp2_with fail
              refine (implSecondsOf_any _ _ _ _ _ _ _).mono ?_
              rintro e v17 ⟨rfl, hb⟩
              have Kv17 : Hid (Below w.heap.size w v17 ∧ Room2 v17 B 0 0) := ⟨Kv16.out.1.trans (hb.mono Kv16.out.1.size), Kv16.out.2.keep hb⟩
              clear hb Kv16
              refine hK _ _ ?_
              clear hK K
              obtain ⟨r0, r1, rf0, rf1⟩ := Kv17.out.2
              refine wpAny_ready (rs := [21]) (by kernel_rfl) (by simp) ?_
              refine AllReady.cons rfl (fun K hK => ?_) AllReady.nil
              go_simp
              refine hK _ _ ?_
              clear hK K
              refine wpAny_done (by kernel_rfl) ?_ _
              go_wp2_with fail
              go_meet
              exact ⟨B, k, rfl, HM.out, (Kv17.out.1.setCell HB.out _).setCell HB.out _, room2_set Kv17.out.2⟩
          · go_simp
            refine hK _ _ ?_
            clear hK K
            obtain ⟨v18, hv18⟩ : ∃ X, X = (v3).alloc (.cells #[.int .i64 0, .int .i64 0] 34) := ⟨_, rfl⟩
            have Kv18 : Hid (Below w.heap.size w v18 ∧ Room2 v18 (v3).heap.size 0 0) := by
              rw [hv18]
              exact ⟨Kv3.out.alloc Kv3.out.size _, room2_new _ 0 0 _⟩
            try rw [← hv18]
            clear hv18
            have HB : Hid (w.heap.size ≤ (v3).heap.size) := Kv3.out.size
            clear Kv3
            generalize (v3).heap.size = B at *
            refine wpAny_ready (rs := [11]) (by kernel_rfl) (by simp) ?_
            refine AllReady.cons rfl (fun K hK => ?_) AllReady.nil
            go_simp
            go_wp2_with fail
            refine (digitsIn_any _ _).mono ?_
            rintro e v19 ⟨h, hb⟩
            have Kv19 : Hid (Below w.heap.size w v19 ∧ Room2 v19 B 0 0) := ⟨Kv18.out.1.trans (hb.mono Kv18.out.1.size), Kv18.out.2.keep hb⟩
            clear hb Kv18
            rcases h with ⟨h, rfl⟩ | ⟨h, u, pv, rfl⟩
            rotate_left
            · go_wp2_with fail
              exact ⟨rfl, .inr ⟨⟨_, _, rfl⟩, fun _ m hc => by have := (cand_num hc).2.2.1; rw [h] at this; cases this⟩, Kv19.out.1⟩
            clear h
            refine hK _ _ ?_
            clear hK K
            refine wpAny_ready (rs := [14]) (by kernel_rfl) (by simp) ?_
            refine AllReady.cons rfl (fun K hK => ?_) AllReady.nil
            go_simp
            go_wp2_with fail
            refine (digitsIn_any _ _).mono ?_
            rintro e v20 ⟨h, hb⟩
            have Kv20 : Hid (Below w.heap.size w v20 ∧ Room2 v20 B 0 0) := ⟨Kv19.out.1.trans (hb.mono Kv19.out.1.size), Kv19.out.2.keep hb⟩
            clear hb Kv19
            rcases h with ⟨h, rfl⟩ | ⟨h, u, pv, rfl⟩
            rotate_left
            · go_wp2_with fail
              exact ⟨rfl, .inr ⟨⟨_, _, rfl⟩, fun _ m hc => by have := (cand_num hc).2.2.2.1; rw [h] at this; cases this⟩, Kv20.out.1⟩
            clear h
            refine hK _ _ ?_
            clear hK K
            refine wpAny_ready (rs := [17]) (by kernel_rfl) (by simp) ?_
            refine AllReady.cons rfl (fun K hK => ?_) AllReady.nil
            go_simp
            go_wp2_with fail
            refine (digitsIn_any _ _).mono ?_
            rintro e v21 ⟨h, hb⟩
            have Kv21 : Hid (Below w.heap.size w v21 ∧ Room2 v21 B 0 0) := ⟨Kv20.out.1.trans (hb.mono Kv20.out.1.size), Kv20.out.2.keep hb⟩
            clear hb Kv20
            rcases h with ⟨h, rfl⟩ | ⟨h, u, pv, rfl⟩
            rotate_left
            · go_wp2_with fail
              exact ⟨rfl, .inr ⟨⟨_, _, rfl⟩, fun _ m hc => by have := (cand_num hc).2.2.2.2; rw [h] at this; cases this⟩, Kv21.out.1⟩
            clear h
            refine hK _ _ ?_
            clear hK K
            refine wpAny_take (i := 18) (v := .agg #[.int .i64 (numD (s.extract 12 16)), .int .i64 k, .int .i64 (numD (s.extract 5 7)), .int .i64 (numD (s.extract 17 19)), .int .i64 (numD (s.extract 20 22)), .int .i64 (numD (s.extract 23 25))]) rfl (by kernel_rfl) (by kernel_rfl) (by kernel_rfl) (fun _ _ _ h => h) (Or.inl ⟨by rfl, ?_⟩) ?_
            · intro w; go_simp
            refine wpAny_ready (rs := [19]) (by kernel_rfl) (by simp) ?_
            refine AllReady.cons rfl (fun K hK => ?_) AllReady.nil
            go_simp
            go_wp2_with fail
            refine (implSecondsOf_any _ _ _ _ _ _ _).mono ?_
            rintro e v22 ⟨rfl, hb⟩
            have Kv22 : Hid (Below w.heap.size w v22 ∧ Room2 v22 B 0 0) := ⟨Kv21.out.1.trans (hb.mono Kv21.out.1.size), Kv21.out.2.keep hb⟩
            clear hb Kv21
            refine hK _ _ ?_
            clear hK K
            obtain ⟨r0, r1, rf0, rf1⟩ := Kv22.out.2
            refine wpAny_ready (rs := [21]) (by kernel_rfl) (by simp) ?_
            refine AllReady.cons rfl (fun K hK => ?_) AllReady.nil
            go_simp
            refine hK _ _ ?_
            clear hK K
            refine wpAny_done (by kernel_rfl) ?_ _
            go_wp2_with fail
            go_meet
            exact ⟨B, k, rfl, HM.out, (Kv22.out.1.setCell HB.out _).setCell HB.out _, room2_set Kv22.out.2⟩
        · go_simp
          refine hK _ _ ?_
          clear hK K
          obtain ⟨v23, hv23⟩ : ∃ X, X = (v2).alloc (.cells #[.int .i64 0, .int .i64 0] 34) := ⟨_, rfl⟩
          have Kv23 : Hid (Below w.heap.size w v23 ∧ Room2 v23 (v2).heap.size 0 0) := by
            rw [hv23]
            exact ⟨Kv2.out.alloc Kv2.out.size _, room2_new _ 0 0 _⟩
          try rw [← hv23]
          clear hv23
          have HB : Hid (w.heap.size ≤ (v2).heap.size) := Kv2.out.size
          clear Kv2
          generalize (v2).heap.size = B at *
          refine wpAny_ready (rs := [8]) (by kernel_rfl) (by simp) ?_
          refine AllReady.cons rfl (fun K hK => ?_) AllReady.nil
          go_simp
          go_wp2_with fail
          refine (digitsIn_any _ _).mono ?_
          rintro e v24 ⟨h, hb⟩
          have Kv24 : Hid (Below w.heap.size w v24 ∧ Room2 v24 B 0 0) := ⟨Kv23.out.1.trans (hb.mono Kv23.out.1.size), Kv23.out.2.keep hb⟩
          clear hb Kv23
          rcases h with ⟨h, rfl⟩ | ⟨h, u, pv, rfl⟩
          rotate_left
          · go_wp2_with fail
            exact ⟨rfl, .inr ⟨⟨_, _, rfl⟩, fun _ m hc => by have := (cand_num hc).2.1; rw [h] at this; cases this⟩, Kv24.out.1⟩
          clear h
          refine hK _ _ ?_
          clear hK K
          refine wpAny_ready (rs := [11]) (by kernel_rfl) (by simp) ?_
          refine AllReady.cons rfl (fun K hK => ?_) AllReady.nil
          go_simp
          go_wp2_with fail
          refine (digitsIn_any _ _).mono ?_
          rintro e v25 ⟨h, hb⟩
          have Kv25 : Hid (Below w.heap.size w v25 ∧ Room2 v25 B 0 0) := ⟨Kv24.out.1.trans (hb.mono Kv24.out.1.size), Kv24.out.2.keep hb⟩
          clear hb Kv24
          rcases h with ⟨h, rfl⟩ | ⟨h, u, pv, rfl⟩
          rotate_left
          · go_wp2_with fail
            exact ⟨rfl, .inr ⟨⟨_, _, rfl⟩, fun _ m hc => by have := (cand_num hc).2.2.1; rw [h] at this; cases this⟩, Kv25.out.1⟩
          clear h
          refine hK _ _ ?_
          clear hK K
          refine wpAny_ready (rs := [14]) (by kernel_rfl) (by simp) ?_
          refine AllReady.cons rfl (fun K hK => ?_) AllReady.nil
          go_simp
          go_wp2_with fail
          refine (digitsIn_any _ _).mono ?_
          rintro e v26 ⟨h, hb⟩
          have Kv26 : Hid (Below w.heap.size w v26 ∧ Room2 v26 B 0 0) := ⟨Kv25.out.1.trans (hb.mono Kv25.out.1.size), Kv25.out.2.keep hb⟩
          clear hb Kv25
          rcases h with ⟨h, rfl⟩ | ⟨h, u, pv, rfl⟩
          rotate_left
          · go_wp2_with fail
            exact ⟨rfl, .inr ⟨⟨_, _, rfl⟩, fun _ m hc => by have := (cand_num hc).2.2.2.1; rw [h] at this; cases this⟩, Kv26.out.1⟩
          clear h
          refine hK _ _ ?_
          clear hK K
          refine wpAny_ready (rs := [17]) (by kernel_rfl) (by simp) ?_
          refine AllReady.cons rfl (fun K hK => ?_) AllReady.nil
          go_simp
          go_wp2_with fail
          refine (digitsIn_any _ _).mono ?_
          rintro e v27 ⟨h, hb⟩
          have Kv27 : Hid (Below w.heap.size w v27 ∧ Room2 v27 B 0 0) := ⟨Kv26.out.1.trans (hb.mono Kv26.out.1.size), Kv26.out.2.keep hb⟩
          clear hb Kv26
          rcases h with ⟨h, rfl⟩ | ⟨h, u, pv, rfl⟩
          rotate_left
          · go_wp2_with fail
            exact ⟨rfl, .inr ⟨⟨_, _, rfl⟩, fun _ m hc => by have := (cand_num hc).2.2.2.2; rw [h] at this; cases this⟩, Kv27.out.1⟩
          clear h
          refine hK _ _ ?_
          clear hK K
          refine wpAny_take (i := 18) (v := .agg #[.int .i64 (numD (s.extract 12 16)), .int .i64 k, .int .i64 (numD (s.extract 5 7)), .int .i64 (numD (s.extract 17 19)), .int .i64 (numD (s.extract 20 22)), .int .i64 (numD (s.extract 23 25))]) rfl (by kernel_rfl) (by kernel_rfl) (by kernel_rfl) (fun _ _ _ h => h) (Or.inl ⟨by rfl, ?_⟩) ?_
          · intro w; go_simp
          refine wpAny_ready (rs := [19]) (by kernel_rfl) (by simp) ?_
          refine AllReady.cons rfl (fun K hK => ?_) AllReady.nil
          go_simp
          go_wp2_with fail
          refine (implSecondsOf_any _ _ _ _ _ _ _).mono ?_
          rintro e v28 ⟨rfl, hb⟩
          have Kv28 : Hid (Below w.heap.size w v28 ∧ Room2 v28 B 0 0) := ⟨Kv27.out.1.trans (hb.mono Kv27.out.1.size), Kv27.out.2.keep hb⟩
          clear hb Kv27
          refine hK _ _ ?_
          clear hK K
          obtain ⟨r0, r1, rf0, rf1⟩ := Kv28.out.2
          refine wpAny_ready (rs := [21]) (by kernel_rfl) (by simp) ?_
          refine AllReady.cons rfl (fun K hK => ?_) AllReady.nil
          go_simp
          refine hK _ _ ?_
          clear hK K
          refine wpAny_done (by kernel_rfl) ?_ _
          go_wp2_with fail
          go_meet
          exact ⟨B, k, rfl, HM.out, (Kv28.out.1.setCell HB.out _).setCell HB.out _, room2_set Kv28.out.2⟩
      · go_simp
        refine hK _ _ ?_
        clear hK K
        obtain ⟨v29, hv29⟩ : ∃ X, X = (v1).alloc (.cells #[.int .i64 0, .int .i64 0] 34) := ⟨_, rfl⟩
        have Kv29 : Hid (Below w.heap.size w v29 ∧ Room2 v29 (v1).heap.size 0 0) := by
          rw [hv29]
          exact ⟨Kv1.out.alloc Kv1.out.size _, room2_new _ 0 0 _⟩
        try rw [← hv29]
        clear hv29
        have HB : Hid (w.heap.size ≤ (v1).heap.size) := Kv1.out.size
        clear Kv1
        generalize (v1).heap.size = B at *
        refine wpAny_ready (rs := [5]) (by kernel_rfl) (by simp) ?_
        refine AllReady.cons rfl (fun K hK => ?_) AllReady.nil
        go_simp
        go_wp2_with fail
        refine (monthIn_any _ _).mono ?_
        rintro e v30 ⟨h, hw⟩
        have Kv30 : Hid (Below w.heap.size w v30 ∧ Room2 v30 B 0 0) := by
          rw [hw]; exact Kv29.out
        clear hw Kv29
        rcases h with ⟨k, hk0, hk1, hkm, rfl⟩ | ⟨⟨u, pv, rfl⟩, hnm⟩
        rotate_left
        · go_wp2_with fail
          exact ⟨rfl, .inr ⟨⟨_, _, rfl⟩, fun _ m hc => hnm m hc.m0 hc.m1 hc.mon⟩, Kv30.out.1⟩
        have HM : Hid (1 ≤ k ∧ k ≤ 12 ∧ moT k = s.extract 8 11) := ⟨hk0, hk1, hkm⟩
        clear hk0 hk1 hkm
        refine hK _ _ ?_
        clear hK K
        refine wpAny_ready (rs := [8]) (by kernel_rfl) (by simp) ?_
        refine AllReady.cons rfl (fun K hK => ?_) AllReady.nil
        go_simp
        go_wp2_with fail
        refine (digitsIn_any _ _).mono ?_
        rintro e v31 ⟨h, hb⟩
        have Kv31 : Hid (Below w.heap.size w v31 ∧ Room2 v31 B 0 0) := ⟨Kv30.out.1.trans (hb.mono Kv30.out.1.size), Kv30.out.2.keep hb⟩
        clear hb Kv30
        rcases h with ⟨h, rfl⟩ | ⟨h, u, pv, rfl⟩
        rotate_left
        · go_wp2_with fail
          exact ⟨rfl, .inr ⟨⟨_, _, rfl⟩, fun _ m hc => by have := (cand_num hc).2.1; rw [h] at this; cases this⟩, Kv31.out.1⟩
        clear h
        refine hK _ _ ?_
        clear hK K
        refine wpAny_ready (rs := [11]) (by kernel_rfl) (by simp) ?_
        refine AllReady.cons rfl (fun K hK => ?_) AllReady.nil
        go_simp
        go_wp2_with fail
        refine (digitsIn_any _ _).mono ?_
        rintro e v32 ⟨h, hb⟩
        have Kv32 : Hid (Below w.heap.size w v32 ∧ Room2 v32 B 0 0) := ⟨Kv31.out.1.trans (hb.mono Kv31.out.1.size), Kv31.out.2.keep hb⟩
        clear hb Kv31
        rcases h with ⟨h, rfl⟩ | ⟨h, u, pv, rfl⟩
        rotate_left
        · go_wp2_with fail
          exact ⟨rfl, .inr ⟨⟨_, _, rfl⟩, fun _ m hc => by have := (cand_num hc).2.2.1; rw [h] at this; cases this⟩, Kv32.out.1⟩
        clear h
        refine hK _ _ ?_
        clear hK K
        refine wpAny_ready (rs := [14]) (by kernel_rfl) (by simp) ?_
        refine AllReady.cons rfl (fun K hK => ?_) AllReady.nil
        go_simp
        go_wp2_with fail
        refine (digitsIn_any _ _).mono ?_
        rintro e v33 ⟨h, hb⟩
        have Kv33 : Hid (Below w.heap.size w v33 ∧ Room2 v33 B 0 0) := ⟨Kv32.out.1.trans (hb.mono Kv32.out.1.size), Kv32.out.2.keep hb⟩
        clear hb Kv32
        rcases h with ⟨h, rfl⟩ | ⟨h, u, pv, rfl⟩
        rotate_left
        · go_wp2_with fail
          exact ⟨rfl, .inr ⟨⟨_, _, rfl⟩, fun _ m hc => by have := (cand_num hc).2.2.2.1; rw [h] at this; cases this⟩, Kv33.out.1⟩
        clear h
        refine hK _ _ ?_
        clear hK K
        refine wpAny_ready (rs := [17]) (by kernel_rfl) (by simp) ?_
        refine AllReady.cons rfl (fun K hK => ?_) AllReady.nil
        go_simp
        go_wp2_with fail
        refine (digitsIn_any _ _).mono ?_
        rintro e v34 ⟨h, hb⟩
        have Kv34 : Hid (Below w.heap.size w v34 ∧ Room2 v34 B 0 0) := ⟨Kv33.out.1.trans (hb.mono Kv33.out.1.size), Kv33.out.2.keep hb⟩
        clear hb Kv33
        rcases h with ⟨h, rfl⟩ | ⟨h, u, pv, rfl⟩
        rotate_left
        · go_wp2_with fail
          exact ⟨rfl, .inr ⟨⟨_, _, rfl⟩, fun _ m hc => by have := (cand_num hc).2.2.2.2; rw [h] at this; cases this⟩, Kv34.out.1⟩
        clear h
        refine hK _ _ ?_
        clear hK K
        refine wpAny_take (i := 18) (v := .agg #[.int .i64 (numD (s.extract 12 16)), .int .i64 k, .int .i64 (numD (s.extract 5 7)), .int .i64 (numD (s.extract 17 19)), .int .i64 (numD (s.extract 20 22)), .int .i64 (numD (s.extract 23 25))]) rfl (by kernel_rfl) (by kernel_rfl) (by kernel_rfl) (fun _ _ _ h => h) (Or.inl ⟨by rfl, ?_⟩) ?_
        · intro w; go_simp
        refine wpAny_ready (rs := [19]) (by kernel_rfl) (by simp) ?_
        refine AllReady.cons rfl (fun K hK => ?_) AllReady.nil
        go_simp
        go_wp2_with fail
        refine (implSecondsOf_any _ _ _ _ _ _ _).mono ?_
        rintro e v35 ⟨rfl, hb⟩
        have Kv35 : Hid (Below w.heap.size w v35 ∧ Room2 v35 B 0 0) := ⟨Kv34.out.1.trans (hb.mono Kv34.out.1.size), Kv34.out.2.keep hb⟩
        clear hb Kv34
        refine hK _ _ ?_
        clear hK K
        obtain ⟨r0, r1, rf0, rf1⟩ := Kv35.out.2
        refine wpAny_ready (rs := [21]) (by kernel_rfl) (by simp) ?_
        refine AllReady.cons rfl (fun K hK => ?_) AllReady.nil
        go_simp
        refine hK _ _ ?_
        clear hK K
        refine wpAny_done (by kernel_rfl) ?_ _
        go_wp2_with fail
        go_meet
        exact ⟨B, k, rfl, HM.out, (Kv35.out.1.setCell HB.out _).setCell HB.out _, room2_set Kv35.out.2⟩
    · go_simp
      refine hK _ _ ?_
      clear hK K
      obtain ⟨v36, hv36⟩ : ∃ X, X = (v0).alloc (.cells #[.int .i64 0, .int .i64 0] 34) := ⟨_, rfl⟩
      have Kv36 : Hid (Below w.heap.size w v36 ∧ Room2 v36 (v0).heap.size 0 0) := by
        rw [hv36]
        exact ⟨KD.out.alloc KD.out.size _, room2_new _ 0 0 _⟩
      try rw [← hv36]
      clear hv36
      have HB : Hid (w.heap.size ≤ (v0).heap.size) := KD.out.size
      clear KD
      generalize (v0).heap.size = B at *
      refine wpAny_ready (rs := [2]) (by kernel_rfl) (by simp) ?_
      refine AllReady.cons rfl (fun K hK => ?_) AllReady.nil
      go_simp
      go_wp2_with fail
      refine (digitsIn_any _ _).mono ?_
      rintro e v37 ⟨h, hb⟩
      have Kv37 : Hid (Below w.heap.size w v37 ∧ Room2 v37 B 0 0) := ⟨Kv36.out.1.trans (hb.mono Kv36.out.1.size), Kv36.out.2.keep hb⟩
      clear hb Kv36
      rcases h with ⟨h, rfl⟩ | ⟨h, u, pv, rfl⟩
      rotate_left
      · go_wp2_with fail
        exact ⟨rfl, .inr ⟨⟨_, _, rfl⟩, fun _ m hc => by have := (cand_num hc).1; rw [h] at this; cases this⟩, Kv37.out.1⟩
      clear h
      refine hK _ _ ?_
      clear hK K
      refine wpAny_ready (rs := [5]) (by kernel_rfl) (by simp) ?_
      refine AllReady.cons rfl (fun K hK => ?_) AllReady.nil
      go_simp
      go_wp2_with fail
      refine (monthIn_any _ _).mono ?_
      rintro e v38 ⟨h, hw⟩
      have Kv38 : Hid (Below w.heap.size w v38 ∧ Room2 v38 B 0 0) := by
        rw [hw]; exact Kv37.out
      clear hw Kv37
      rcases h with ⟨k, hk0, hk1, hkm, rfl⟩ | ⟨⟨u, pv, rfl⟩, hnm⟩
      rotate_left
      · go_wp2_with fail
        exact ⟨rfl, .inr ⟨⟨_, _, rfl⟩, fun _ m hc => hnm m hc.m0 hc.m1 hc.mon⟩, Kv38.out.1⟩
      have HM : Hid (1 ≤ k ∧ k ≤ 12 ∧ moT k = s.extract 8 11) := ⟨hk0, hk1, hkm⟩
      clear hk0 hk1 hkm
      refine hK _ _ ?_
      clear hK K
      refine wpAny_ready (rs := [8]) (by kernel_rfl) (by simp) ?_
      refine AllReady.cons rfl (fun K hK => ?_) AllReady.nil
      go_simp
      go_wp2_with fail
      refine (digitsIn_any _ _).mono ?_
      rintro e v39 ⟨h, hb⟩
      have Kv39 : Hid (Below w.heap.size w v39 ∧ Room2 v39 B 0 0) := ⟨Kv38.out.1.trans (hb.mono Kv38.out.1.size), Kv38.out.2.keep hb⟩
      clear hb Kv38
      rcases h with ⟨h, rfl⟩ | ⟨h, u, pv, rfl⟩
      rotate_left
      · go_wp2_with fail
        exact ⟨rfl, .inr ⟨⟨_, _, rfl⟩, fun _ m hc => by have := (cand_num hc).2.1; rw [h] at this; cases this⟩, Kv39.out.1⟩
      clear h
      refine hK _ _ ?_
      clear hK K
      refine wpAny_ready (rs := [11]) (by kernel_rfl) (by simp) ?_
      refine AllReady.cons rfl (fun K hK => ?_) AllReady.nil
      go_simp
      go_wp2_with fail
      refine (digitsIn_any _ _).mono ?_
      rintro e v40 ⟨h, hb⟩
      have Kv40 : Hid (Below w.heap.size w v40 ∧ Room2 v40 B 0 0) := ⟨Kv39.out.1.trans (hb.mono Kv39.out.1.size), Kv39.out.2.keep hb⟩
      clear hb Kv39
      rcases h with ⟨h, rfl⟩ | ⟨h, u, pv, rfl⟩
      rotate_left
      · go_wp2_with fail
        exact ⟨rfl, .inr ⟨⟨_, _, rfl⟩, fun _ m hc => by have := (cand_num hc).2.2.1; rw [h] at this; cases this⟩, Kv40.out.1⟩
      clear h
      refine hK _ _ ?_
      clear hK K
      refine wpAny_ready (rs := [14]) (by kernel_rfl) (by simp) ?_
      refine AllReady.cons rfl (fun K hK => ?_) AllReady.nil
      go_simp
      go_wp2_with fail
      refine (digitsIn_any _ _).mono ?_
      rintro e v41 ⟨h, hb⟩
      have Kv41 : Hid (Below w.heap.size w v41 ∧ Room2 v41 B 0 0) := ⟨Kv40.out.1.trans (hb.mono Kv40.out.1.size), Kv40.out.2.keep hb⟩
      clear hb Kv40
      rcases h with ⟨h, rfl⟩ | ⟨h, u, pv, rfl⟩
      rotate_left
      · go_wp2_with fail
        exact ⟨rfl, .inr ⟨⟨_, _, rfl⟩, fun _ m hc => by have := (cand_num hc).2.2.2.1; rw [h] at this; cases this⟩, Kv41.out.1⟩
      clear h
      refine hK _ _ ?_
      clear hK K
      refine wpAny_ready (rs := [17]) (by kernel_rfl) (by simp) ?_
      refine AllReady.cons rfl (fun K hK => ?_) AllReady.nil
      go_simp
      go_wp2_with fail
      refine (digitsIn_any _ _).mono ?_
      rintro e v42 ⟨h, hb⟩
      have Kv42 : Hid (Below w.heap.size w v42 ∧ Room2 v42 B 0 0) := ⟨Kv41.out.1.trans (hb.mono Kv41.out.1.size), Kv41.out.2.keep hb⟩
      clear hb Kv41
      rcases h with ⟨h, rfl⟩ | ⟨h, u, pv, rfl⟩
      rotate_left
      · go_wp2_with fail
        exact ⟨rfl, .inr ⟨⟨_, _, rfl⟩, fun _ m hc => by have := (cand_num hc).2.2.2.2; rw [h] at this; cases this⟩, Kv42.out.1⟩
      clear h
      refine hK _ _ ?_
      clear hK K
      refine wpAny_take (i := 18) (v := .agg #[.int .i64 (numD (s.extract 12 16)), .int .i64 k, .int .i64 (numD (s.extract 5 7)), .int .i64 (numD (s.extract 17 19)), .int .i64 (numD (s.extract 20 22)), .int .i64 (numD (s.extract 23 25))]) rfl (by kernel_rfl) (by kernel_rfl) (by kernel_rfl) (fun _ _ _ h => h) (Or.inl ⟨by rfl, ?_⟩) ?_
      · intro w; go_simp
      refine wpAny_ready (rs := [19]) (by kernel_rfl) (by simp) ?_
      refine AllReady.cons rfl (fun K hK => ?_) AllReady.nil
      go_simp
      go_wp2_with fail
      refine (implSecondsOf_any _ _ _ _ _ _ _).mono ?_
      rintro e v43 ⟨rfl, hb⟩
      have Kv43 : Hid (Below w.heap.size w v43 ∧ Room2 v43 B 0 0) := ⟨Kv42.out.1.trans (hb.mono Kv42.out.1.size), Kv42.out.2.keep hb⟩
      clear hb Kv42
      refine hK _ _ ?_
      clear hK K
      obtain ⟨r0, r1, rf0, rf1⟩ := Kv43.out.2
      refine wpAny_ready (rs := [21]) (by kernel_rfl) (by simp) ?_
      refine AllReady.cons rfl (fun K hK => ?_) AllReady.nil
      go_simp
      refine hK _ _ ?_
      clear hK K
      refine wpAny_done (by kernel_rfl) ?_ _
      go_wp2_with fail
      go_meet
      exact ⟨B, k, rfl, HM.out, (Kv43.out.1.setCell HB.out _).setCell HB.out _, room2_set Kv43.out.2⟩
  case rest =>
  obtain ⟨B, k, rfl, ⟨k0, k1, hM⟩, hb, hR⟩ := hcut
  have HB : Hid (Below w.heap.size w wc) := hb
  have HK : Hid (∀ m, Cand s m → m = k) := fun m hc => moT_inj hc.m0 hc.m1 k0 k1 (hc.mon.trans hM.symm)
  have HCA : Hid (parB s k = true → fmtT (parS s k) = s → Cand s k) := fun d e => ⟨k0, k1, hM, d, e⟩
  have HPB : Hid (parB s k = dateB (numD (s.extract 12 16)) k (numD (s.extract 5 7)) (numD (s.extract 17 19)) (numD (s.extract 20 22)) (numD (s.extract 23 25))) := rfl
  have HPS : Hid (parS s k = secsD (numD (s.extract 12 16)) k (numD (s.extract 5 7)) (numD (s.extract 17 19)) (numD (s.extract 20 22)) (numD (s.extract 23 25))) := rfl
  generalize numD (s.extract 12 16) = y at *
  generalize numD (s.extract 5 7) = d at *
  generalize numD (s.extract 17 19) = h at *
  generalize numD (s.extract 20 22) = i at *
  generalize numD (s.extract 23 25) = c at *
  clear hM hb
  cases hbd : dateB y k d h i c
  · rw [dfC_no hbd, soV_no hbd] at hR
    have HQ : Hid (∀ m, ¬ Cand s m) := fun m hc => by
      have e := HK.out m hc
      subst e
      have := hc.ok
      rw [HPB.out, hbd] at this
      cases this
    clear hbd
    obtain ⟨r0, r1, rf0, rf1⟩ := hR
    go_wp2_with fail
    exact ⟨rfl, .inr ⟨⟨_, _, rfl⟩, fun _ => HQ.out⟩, HB.out⟩
  · rw [dfC_yes hbd, soV_yes hbd] at hR
    have HPO : Hid (parB s k = true) := by show _ = _; rw [HPB.out, hbd]
    have ⟨hv0, hv1⟩ := secsD_bd (dateB_yes hbd)
    clear hbd
    generalize secsD y k d h i c = v at *
    have HF := implFormatDate v wc (HP.out.below HB.out)
    rw [kC_yes (knownB_of hv0 hv1), fdT_yes (knownB_of hv0 hv1)] at HF
    have hft := tfield_text
    obtain ⟨q0, q1, qf0, qf1⟩ := hR
    go_wp2_with fail
    refine HF.mono ?_
    rintro e w5 ⟨rfl, hb5⟩
    have KB5 : Hid (Below w.heap.size w w5) := HB.out.trans (hb5.mono HB.out.size)
    have p0 : w5.cell? ⟨B, 0, none⟩ = some (.int .i64 0) := by rw [hb5.cell (p := ⟨B, 0, none⟩) (block_lt_of_cell q0), q0]
    have p1 : w5.cell? ⟨B, 1, none⟩ = some (.int .i64 v) := by rw [hb5.cell (p := ⟨B, 1, none⟩) (block_lt_of_cell q1), q1]
    clear hb5 q0 q1 qf0 qf1 HF HB
    by_cases heq : fmtT v = s
    · have HC : Hid (Cand s k) := HCA.out HPO.out (by rw [HPS.out, heq])
      rw [heq]
      clear heq
      go_wp2_with fail
      go_ret
      exact ⟨.inl ⟨HZ.out, k, HC.out, by rw [HPS.out]; rfl⟩, KB5.out⟩
    · have HQ : Hid (∀ m, ¬ Cand s m) := fun m hc => by
        have e := HK.out m hc
        subst e
        have := hc.same
        rw [HPS.out] at this
        exact heq this
      have hne := str_neB heq
      clear heq
      generalize fmtT v = r at *
      go_wp2_with fail
      exact ⟨rfl, .inr ⟨⟨_, _, rfl⟩, fun _ => HQ.out⟩, KB5.out⟩
end Go.Proofs.YtgfbahjpaaanoaaGreatDoor
/-
  ParseDate: its deferred closure, and both its ways.
-/
namespace Go.Proofs.YtgfbahjpaaanoaaGreatDoor
open Go.ChangeShapes Go.WideShapes Go.ChangeAt Go.RowKit Go.Sort
open num
theorem catch_panicking (b : Nat) (c v : Int) (u : TypeId) (pv : Value) (older : List PanicEntry) (w : World) (h : Room2 w b c v) :
    CallsD Tryz.prog 81 #[.pointer (some ⟨b, 0, none⟩)] (.panicking ({ v := .iface u pv, recovered := false } :: older)) w fun e u' w' =>
      e = .returned (.tuple #[]) ∧ u' = .panicking ({ v := .iface u pv, recovered := true } :: older) ∧ w' = (w.setCell ⟨b, 0, none⟩ (.int .i64 5)).setCell ⟨b, 1, none⟩ (.int .i64 0) := by
  obtain ⟨c0, c1, f0, f1⟩ := h
  refine callsD_of_wpS Tryz.func81 rfl fun c₀ cs hu => ?_
  apply wpS_seq
  apply wpS_region
  simp [wpOpsS, go_sem, recoverD, hu, Tryz.ntmps81, Exit.thenS]
  refine wpS_cond (t := true) (by simp [Act.eval, Array.replicate]) ?_
  simp only [if_true]
  apply wpS_region
  simp [wpOpsS, go_sem, c0, c1, f0, f1, bodyPostS, results, Tryz.results81]
theorem catch_idle (p : Addr) (w : World) :
    CallsD Tryz.prog 81 #[.pointer (some p)] .returning w fun e u' w' => e = .returned (.tuple #[]) ∧ u' = .returning ∧ w' = w := by
  refine callsD_of_wpS Tryz.func81 rfl fun c₀ cs hu => ?_
  apply wpS_seq
  apply wpS_region
  simp [wpOpsS, go_sem, recoverD, hu, Tryz.ntmps81, Exit.thenS]
  refine wpS_cond (t := false) (by simp [Act.eval, Array.replicate]) ?_
  simp only [Bool.false_eq_true, if_false]
  refine wpS_of_wp (wp_skip ?_)
  cases c₀
  simp_all [bodyPostS, results, Tryz.results81]
end Go.Proofs.YtgfbahjpaaanoaaGreatDoor
/-
  ParseDate, both its ways; its law.
-/
namespace Go.Proofs.YtgfbahjpaaanoaaGreatDoor
open Go.ChangeShapes Go.WideShapes Go.ChangeAt Go.RowKit Go.Sort
open num
set_option maxHeartbeats 2000000 in
theorem implParseDate (s : ByteArray) (w : World) (hp : PowIs w) :
    Calls Tryz.prog 54 #[.string s] w fun e w' => e = .returned (.agg #[.int .i64 (pdC s), .int .i64 (pdV s)]) ∧ Below w.heap.size w w' := by
  have hmf : ∀ (fn : Fn) (first cap : Array Value) (w : World), (Instr.makeFunc fn first cap).run Tryz.prog w = .ok (.func fn first cap) w := fun _ _ _ _ => rfl
  have HS : Hid (∀ W, Below w.heap.size w W → Calls Tryz.prog 82 #[.string s] W fun e w' => SecOr s e ∧ Below W.heap.size W w') := fun W hb => secondsIn_any s W (hp.below hb)
  clear hp
  go_enter_defers Tryz.func54, Tryz.ntmps54
  go_wp2_with fail
  refine (HS.out _ ((Below.refl _ _).alloc (Nat.le_refl _) _)).mono ?_
  rintro e w1 ⟨h, hb⟩
  have KR : Hid (Room2 w1 w.heap.size 0 0) := (room2_new w 0 0 34).keep hb
  have KB : Hid (Below w.heap.size w w1) := ((Below.refl _ _).alloc (Nat.le_refl _) _).trans (hb.mono (by simp))
  clear hb
  obtain ⟨r0, r1, rf0, rf1⟩ := KR.out
  rcases h with ⟨hz, m, hc, rfl⟩ | ⟨⟨u, pv, rfl⟩, hno⟩
  · have E : Hid (pdC s = 0 ∧ pdV s = parS s m) := pd_yes hz hc
    generalize parS s m = v at *
    clear hc hz
    obtain ⟨z0, z1⟩ := two_set (v0 := .int .i64 0) (v1 := .int .i64 v) r0 r1
    go_wp2_with fail
    refine leaves_cons (f := 81) (args := #[.pointer (some ⟨w.heap.size, 0, none⟩)]) (by simp) (by simp [go_sem]) ?_
    refine (catch_idle ⟨w.heap.size, 0, none⟩ _).mono ?_
    rintro e u' w'' ⟨rfl, rfl, rfl⟩
    simp [Leaves, settle, results, Tryz.results54, go_sem, z0, z1, E.out.1, E.out.2]
    exact (KB.out.setCell (Nat.le_refl _) _).setCell (Nat.le_refl _) _
  · have E : Hid (pdC s = 5 ∧ pdV s = 0) := pd_no hno
    clear hno
    obtain ⟨z0, z1⟩ := two_set (v0 := .int .i64 5) (v1 := .int .i64 0) r0 r1
    go_wp2_with fail
    refine leaves_cons (f := 81) (args := #[.pointer (some ⟨w.heap.size, 0, none⟩)]) (by simp) (by simp [go_sem]) ?_
    refine (catch_panicking w.heap.size 0 0 u pv [] _ KR.out).mono ?_
    rintro e u' w'' ⟨rfl, rfl, rfl⟩
    simp [Leaves, settle, results, Tryz.results54, go_sem, z0, z1, E.out.1, E.out.2]
    exact (KB.out.setCell (Nat.le_refl _) _).setCell (Nat.le_refl _) _
end Go.Proofs.YtgfbahjpaaanoaaGreatDoor
/-
  The model's policy: its parts.
-/
namespace Go.Proofs.YtgfbahjpaaanoaaGreatDoor
open Go.ChangeShapes Go.WideShapes Go.ChangeAt Go.RowKit Go.Sort
def RecIn (w : World) (a : Option Addr) (L : List Rec) : Prop := L = [] ∨ ∃ b off, a = some ⟨b, off, none⟩ ∧ ItemsAt w b off L
theorem RecIn.keep {w w' : World} {a : Option Addr} {L : List Rec} (h : RecIn w a L) (hb : Below w.heap.size w w') : RecIn w' a L := by
  rcases h with h | ⟨b, off, e, h⟩
  · exact .inl h
  · exact .inr ⟨b, off, e, h.keep hb⟩
theorem pret_int {a b : Int} (h : a = b) : Ending.returned (.int .i64 a) = Ending.returned (.int .i64 b) := by rw [h]
theorem l1Max_0 (w : World) (x : Int) : Calls Tryz.prog 66 #[.int .i64 x, .int .i64 0] w fun e w' => e = .returned (.int .i64 (max0 x)) ∧ w' = w := by
  by_cases h : 0 < x
  · have HE : Hid (max0 x = x) := if_neg (by omega)
    go_enter Tryz.func66, Tryz.ntmps66
    go_wp2
    go_ret
    exact ⟨pret_int HE.out.symm, rfl⟩
  · have HE : Hid (max0 x = 0) := by show _ = _; unfold max0; split <;> omega
    go_enter Tryz.func66, Tryz.ntmps66
    go_wp2
    go_ret
    exact ⟨pret_int HE.out.symm, rfl⟩
theorem l1Delta_all (s : ByteArray) (w : World) : Calls Tryz.prog 67 #[.string s] w fun e w' => e = .returned (.int .i64 (numD s)) ∧ w' = w := by
  by_cases c : s.size < 1 ∨ 64 < s.size
  · exact l1Delta_size s w c
  · exact l1Delta_any s w (by omega) (by omega)
set_option maxHeartbeats 1000000 in
theorem l6Has_any (w : World) (a : Option Addr) (cap : Nat) (L : List Rec) (nm : ByteArray) (hl : L.length ≤ 1048576) (hnm : nm.size ≤ 1048576) (hs : ShortNames L) (hi : RecIn w a L) :
    Calls Tryz.prog 69 #[.slice a L.length cap, .string nm] w fun e w' => e = .returned (.bool (hasR nm L)) ∧ Below w.heap.size w w' := by
  have H := l2Find_any w a cap L nm hl hnm hs hi
  have HE : Hid (hasR nm L = decide (0 ≤ findR nm 0 L)) := rfl
  clear hi hs
  generalize hasR nm L = hr at *
  generalize findR nm 0 L = f at *
  generalize L.length = n at *
  go_enter Tryz.func69, Tryz.ntmps69
  go_wp2_with fail
  refine H.mono ?_
  rintro e w1 ⟨rfl, hb⟩
  have HB : Hid (Below w.heap.size w w1) := hb
  clear hb H
  go_wp2_with fail
  go_ret
  exact ⟨by rw [HE.out]; rfl, HB.out⟩
set_option maxRecDepth 100000 in
set_option maxHeartbeats 4000000 in
theorem l6Seconds_any (w : World) (a : Option Addr) (cap : Nat) (L : List Rec) (nm : ByteArray) (hl : L.length ≤ 1048576) (hnm : nm.size ≤ 1048576) (hs : ShortNames L) (hi : RecIn w a L) :
    Calls Tryz.prog 70 #[.slice a L.length cap, .string nm] w fun e w' => e = .returned (.int .i64 (secR nm L)) ∧ Below w.heap.size w w' := by
  have H := l2Find_any w a cap L nm hl hnm hs hi
  have HI : Hid (RecIn w a L) := hi
  have hlt := findR_lt nm L 0
  clear hi hs
  by_cases h0 : findR nm 0 L < 0
  · have HE : Hid (secR nm L = 0) := secR_none h0
    generalize secR nm L = sv at *
    generalize findR nm 0 L = f at *
    generalize L.length = n at *
    have h1 : decide (f < 0) = true := by simpa using h0
    go_enter Tryz.func70, Tryz.ntmps70
    go_wp2_with fail
    refine H.mono ?_
    rintro e w1 ⟨rfl, hb⟩
    have HB : Hid (Below w.heap.size w w1) := hb
    clear hb H
    have HB2 := HB
    go_wp2_with fail
    go_ret
    exact ⟨pret_int HE.out.symm, HB2.out⟩
  · obtain ⟨k, hk⟩ : ∃ k : Nat, findR nm 0 L = (k : Int) := ⟨(findR nm 0 L).toNat, by omega⟩
    have hkl : k < L.length := by omega
    obtain ⟨r, hr⟩ : ∃ r, L[k]? = some r := ⟨L[k], List.getElem?_eq_getElem hkl⟩
    have HE : Hid (secR nm L = if r.has = true then secD r.value else 0) := secR_at hk hr
    rcases HI.out with h | ⟨b, off, rfl, hat⟩
    · subst h; simp at hkl
    have HAT : Hid (∀ W, Below w.heap.size w W → W.cell? ⟨b, off + k * 3 + 1, none⟩ = some (.bool r.has) ∧ W.cell? ⟨b, off + k * 3 + 2, none⟩ = some (.string r.value)) := fun W hb => ((hat.keep hb) k r hr).2
    clear hat HI hr hlt
    rw [hk] at H
    clear hk h0
    generalize secR nm L = sv at *
    generalize L.length = n at *
    obtain ⟨rn, rh, rv⟩ := r
    have HD : Hid (∀ W, Calls Tryz.prog 67 #[.string rv] W fun e w' => e = .returned (.int .i64 (numD rv)) ∧ w' = W) := l1Delta_all rv
    have HM : Hid (∀ W, Calls Tryz.prog 66 #[.int .i64 (numD rv), .int .i64 0] W fun e w' => e = .returned (.int .i64 (max0 (numD rv))) ∧ w' = W) := fun W => l1Max_0 W _
    have hmb := max0_bd (numD_hi rv) (by omega)
    have HSD : Hid (secD rv = max0 (numD rv) * 1000) := rfl
    generalize secD rv = sd at *
    generalize max0 (numD rv) = mx at *
    generalize numD rv = nd at *
    have hw : IntKind.i64.wrap (mx * 1000) = mx * 1000 := by rw [IntKind.wrap_i64]; omega
    have g0 : (0 : Int) ≤ (k : Int) := by omega
    have g1 : (k : Int) < (n : Int) := by omega
    have h1 : decide ((k : Int) < 0) = false := by simp
    go_enter Tryz.func70, Tryz.ntmps70
    go_wp2_with fail
    refine H.mono ?_
    rintro e w1 ⟨rfl, hb⟩
    have HB : Hid (Below w.heap.size w w1) := hb
    clear hb H
    have p0 := (HAT.out _ HB.out).1
    have HB2 := HB
    have p2 := (HAT.out _ HB2.out).2
    cases rh
    · have HE0 : Hid (sv = 0) := by show _ = _; rw [HE.out]; rfl
      clear HE
      go_wp2_with fail
      go_ret
      exact ⟨pret_int HE0.out.symm, HB2.out⟩
    · have HE0 : Hid (sv = mx * 1000) := by show _ = _; rw [HE.out, ← HSD.out]; rfl
      clear HE
      go_wp2_with fail
      refine (HD.out _).mono ?_
      rintro e w3 ⟨rfl, rfl⟩
      go_wp2_with fail
      refine (HM.out _).mono ?_
      rintro e w4 ⟨rfl, rfl⟩
      go_wp2_with fail
      go_ret
      exact ⟨pret_int HE0.out.symm, HB2.out⟩
theorem expX_none {db : Bool} {e d : Int} : expX false db e d = -1 := rfl
theorem expX_zero {db : Bool} {e d : Int} (h : db = false ∨ e < 0 ∨ d < 0) : expX true db e d = 0 := by rw [expX, if_neg (by decide), if_pos h]
theorem expX_some {e d : Int} (h1 : ¬ e < 0) (h2 : ¬ d < 0) : expX true true e d = max0 (e - d) * 1000 := by rw [expX, if_neg (by decide), if_neg (by simp; omega)]
set_option maxRecDepth 100000 in
set_option maxHeartbeats 4000000 in
theorem l6Expires_any (w : World) (a : Option Addr) (cap : Nat) (l : List Hdr) (h0 : headsC l = 0) (hi : HdsIn w a l) :
    Calls Tryz.prog 71 #[.slice a l.length cap] w fun e w' => e = .returned (.int .i64 (expD l)) ∧ Below w.heap.size w w' := by
  obtain ⟨h20, hz⟩ := first_sizes h0
  have H1 : Hid (∀ W, Below w.heap.size w W → Calls Tryz.prog 65 #[.slice a l.length cap, .string ⟨#[101, 120, 112, 105, 114, 101, 115]⟩] W fun e w' => e = .returned (.tuple #[.string (firstV expN l), .bool (firstB expN l)]) ∧ Below W.heap.size W w') := fun W hb => by
    have := l6First_any W a cap l ⟨#[101, 120, 112, 105, 114, 101, 115]⟩ h20 hz (by decide) (hi.keep hb)
    rw [expS_low] at this
    exact this
  have H2 : Hid (∀ W, Below w.heap.size w W → Calls Tryz.prog 65 #[.slice a l.length cap, .string ⟨#[100, 97, 116, 101]⟩] W fun e w' => e = .returned (.tuple #[.string (firstV datN l), .bool (firstB datN l)]) ∧ Below W.heap.size W w') := fun W hb => by
    have := l6First_any W a cap l ⟨#[100, 97, 116, 101]⟩ h20 hz (by decide) (hi.keep hb)
    rw [datS_low] at this
    exact this
  have HE : Hid (expD l = expX (firstB expN l) (firstB datN l) (parI (firstV expN l)) (parI (firstV datN l))) := rfl
  clear hi hz h0 h20
  generalize expD l = xd at *
  generalize firstV expN l = ev at *
  generalize firstV datN l = dv at *
  generalize firstB expN l = eb at *
  generalize firstB datN l = db at *
  generalize l.length = n at *
  have HPE : Hid (∀ W, Calls Tryz.prog 93 #[.string ev] W fun e w' => e = .returned (.int .i64 (parI ev)) ∧ Below W.heap.size W w') := l3Parse_any ev
  have HPD : Hid (∀ W, Calls Tryz.prog 93 #[.string dv] W fun e w' => e = .returned (.int .i64 (parI dv)) ∧ Below W.heap.size W w') := l3Parse_any dv
  have be := parI_bd ev
  have bd := parI_bd dv
  generalize parI ev = pe at *
  generalize parI dv = pd at *
  go_enter Tryz.func71, Tryz.ntmps71
  go_wp2_with fail
  refine (H1.out _ (Below.refl _ _)).mono ?_
  rintro e w1 ⟨rfl, hb1⟩
  have HB1 : Hid (Below w.heap.size w w1) := hb1
  clear hb1 H1
  cases eb
  · have HX : Hid (xd = -1) := HE.out
    clear HE
    go_wp2_with fail
    go_ret
    exact ⟨pret_int HX.out.symm, HB1.out⟩
  go_wp2_with fail
  refine (H2.out _ HB1.out).mono ?_
  rintro e w2 ⟨rfl, hb2⟩
  have HB2 : Hid (Below w.heap.size w w2) := HB1.out.trans (hb2.mono HB1.out.size)
  clear hb2 H2 HB1
  cases db
  · have HX : Hid (xd = 0) := HE.out.trans (expX_zero (.inl rfl))
    clear HE
    go_wp2_with fail
    go_ret
    exact ⟨pret_int HX.out.symm, HB2.out⟩
  go_wp2_with fail
  refine (HPE.out _).mono ?_
  rintro e w3 ⟨rfl, hb3⟩
  have HB3 : Hid (Below w.heap.size w w3) := HB2.out.trans (hb3.mono HB2.out.size)
  clear hb3 HB2
  by_cases he : pe < 0
  · have HX : Hid (xd = 0) := HE.out.trans (expX_zero (.inr (.inl he)))
    have hd : decide (pe < 0) = true := by simpa using he
    clear HE
    go_wp2_with fail
    go_ret
    exact ⟨pret_int HX.out.symm, HB3.out⟩
  have hde : decide (pe < 0) = false := by simpa using he
  go_wp2_with fail
  refine (HPD.out _).mono ?_
  rintro e w4 ⟨rfl, hb4⟩
  have HB4 : Hid (Below w.heap.size w w4) := HB3.out.trans (hb4.mono HB3.out.size)
  clear hb4 HB3
  by_cases hd0 : pd < 0
  · have HX : Hid (xd = 0) := HE.out.trans (expX_zero (.inr (.inr hd0)))
    have hd : decide (pd < 0) = true := by simpa using hd0
    clear HE
    go_wp2_with fail
    go_ret
    exact ⟨pret_int HX.out.symm, HB4.out⟩
  have hdd : decide (pd < 0) = false := by simpa using hd0
  have HX : Hid (xd = max0 (pe - pd) * 1000) := HE.out.trans (expX_some (by omega) (by omega))
  clear HE
  go_wp2_with fail
  refine (HPE.out _).mono ?_
  rintro e w5 ⟨rfl, hb5⟩
  have HB5 : Hid (Below w.heap.size w w5) := HB4.out.trans (hb5.mono HB4.out.size)
  clear hb5 HB4 HPE
  go_wp2_with fail
  refine (HPD.out _).mono ?_
  rintro e w6 ⟨rfl, hb6⟩
  have HB6 : Hid (Below w.heap.size w w6) := HB5.out.trans (hb6.mono HB5.out.size)
  clear hb6 HB5 HPD
  have hw1 : IntKind.i64.wrap (pe - pd) = pe - pd := by rw [IntKind.wrap_i64]; omega
  have HM := fun W => l1Max_0 W (pe - pd)
  have hmb := max0_bd (x := pe - pd) (m := 253402300799) (by omega) (by omega)
  generalize max0 (pe - pd) = mx at *
  have hw : IntKind.i64.wrap (mx * 1000) = mx * 1000 := by rw [IntKind.wrap_i64]; omega
  go_wp2_with fail
  refine (HM _).mono ?_
  rintro e w7 ⟨rfl, rfl⟩
  go_wp2_with fail
  go_ret
  exact ⟨pret_int HX.out.symm, HB6.out⟩
end Go.Proofs.YtgfbahjpaaanoaaGreatDoor
/-
  PolicyFault, on both sides; policies that lie in memory.
-/
namespace Go.Proofs.YtgfbahjpaaanoaaGreatDoor
open Go.ChangeShapes Go.WideShapes Go.ChangeAt Go.RowKit
/-- A policy in memory. -/
structure PolAt (w : World) (b : Nat) (b0 b1 b2 : Bool) (l s e g : Int) : Prop where
  c0 : w.cell? ⟨b, 0, none⟩ = some (.bool b0)
  c1 : w.cell? ⟨b, 1, none⟩ = some (.bool b1)
  c2 : w.cell? ⟨b, 2, none⟩ = some (.bool b2)
  c3 : w.cell? ⟨b, 3, none⟩ = some (.int .i64 l)
  c4 : w.cell? ⟨b, 4, none⟩ = some (.int .i64 s)
  c5 : w.cell? ⟨b, 5, none⟩ = some (.int .i64 e)
  c6 : w.cell? ⟨b, 6, none⟩ = some (.int .i64 g)
  fr : ∀ o, w.frozen? ⟨b, o, none⟩ = false
  lt : b < w.heap.size
theorem PolAt.keep {w w' : World} {b : Nat} {b0 b1 b2 : Bool} {l s e g : Int} (k : PolAt w b b0 b1 b2 l s e g) (hb : Below w.heap.size w w') : PolAt w' b b0 b1 b2 l s e g :=
  ⟨by rw [hb.cell (p := ⟨b, 0, none⟩) k.lt]; exact k.c0, by rw [hb.cell (p := ⟨b, 1, none⟩) k.lt]; exact k.c1, by rw [hb.cell (p := ⟨b, 2, none⟩) k.lt]; exact k.c2, by rw [hb.cell (p := ⟨b, 3, none⟩) k.lt]; exact k.c3, by rw [hb.cell (p := ⟨b, 4, none⟩) k.lt]; exact k.c4, by rw [hb.cell (p := ⟨b, 5, none⟩) k.lt]; exact k.c5, by rw [hb.cell (p := ⟨b, 6, none⟩) k.lt]; exact k.c6,
    fun o => by rw [hb.frozen (p := ⟨b, o, none⟩) k.lt]; exact k.fr o, Nat.lt_of_lt_of_le k.lt hb.size⟩
theorem PolAt.new (w : World) (b0 b1 b2 : Bool) (l s e g : Int) (t : TypeId) : PolAt (w.alloc (.cells #[.bool b0, .bool b1, .bool b2, .int .i64 l, .int .i64 s, .int .i64 e, .int .i64 g] t)) w.heap.size b0 b1 b2 l s e g :=
  ⟨by simp, by simp, by simp, by simp, by simp, by simp, by simp, fun o => by simp, by simp⟩
def timeB (x : Int) : Bool := decide (0 ≤ x) && decide (x ≤ 1000000000000000)
theorem timeB_yes {x : Int} (h0 : 0 ≤ x) (h1 : x ≤ 1000000000000000) : timeB x = true := by simp [timeB, h0, h1]
theorem timeB_of {x : Int} (h : timeB x = true) : 0 ≤ x ∧ x ≤ 1000000000000000 := by simpa [timeB] using h
theorem l1Time_all (x : Int) (w : World) : Calls Tryz.prog 37 #[.int .i64 x] w fun r w' => r = .returned (.bool (timeB x)) ∧ w' = w := by
  by_cases c1 : 0 ≤ x
  · by_cases c2 : x ≤ 1000000000000000
    · rw [timeB_yes c1 c2]
      have d2 : decide (x ≤ 1000000000000000) = true := by simp; omega
      go_enter Tryz.func37, Tryz.ntmps37
      go_wp2
      go_ret
      exact ⟨rfl, rfl⟩
    · have e : timeB x = false := by simp [timeB]; omega
      rw [e]
      have d2 : decide (x ≤ 1000000000000000) = false := by simp; omega
      go_enter Tryz.func37, Tryz.ntmps37
      go_wp2
      go_ret
      exact ⟨rfl, rfl⟩
  · have e : timeB x = false := by simp [timeB]; omega
    rw [e]
    go_enter Tryz.func37, Tryz.ntmps37
    go_wp2
    go_ret
    exact ⟨rfl, rfl⟩
theorem isTime_all (x : Int) (w : World) : Calls Tryz.prog 34 #[.int .i64 x] w fun r w' => r = .returned (.bool (timeB x)) ∧ w' = w := by
  by_cases c1 : 0 ≤ x
  · by_cases c2 : x ≤ 1000000000000000
    · rw [timeB_yes c1 c2]
      have d2 : decide (x ≤ 1000000000000000) = true := by simp; omega
      go_enter Tryz.func34, Tryz.ntmps34
      go_wp2
      go_ret
      exact ⟨rfl, rfl⟩
    · have e : timeB x = false := by simp [timeB]; omega
      rw [e]
      have d2 : decide (x ≤ 1000000000000000) = false := by simp; omega
      go_enter Tryz.func34, Tryz.ntmps34
      go_wp2
      go_ret
      exact ⟨rfl, rfl⟩
  · have e : timeB x = false := by simp [timeB]; omega
    rw [e]
    go_enter Tryz.func34, Tryz.ntmps34
    go_wp2
    go_ret
    exact ⟨rfl, rfl⟩
def polB (l s e g : Int) : Bool := (timeB l || decide (l = -1)) && timeB s && timeB e && timeB g
def polC (l s e g : Int) : Int := if polB l s e g = true then 0 else 3
theorem polC_ok {l s e g : Int} (h : polB l s e g = true) : polC l s e g = 0 := by rw [polC, if_pos h]
theorem polC_bad {l s e g : Int} (h : polB l s e g = false) : polC l s e g = 3 := by rw [polC, if_neg (by rw [h]; decide)]
set_option maxHeartbeats 4000000 in
theorem specPol_any (b0 b1 b2 : Bool) (l s e g : Int) (w : World) :
    Calls Tryz.prog 13 #[.agg #[.bool b0, .bool b1, .bool b2, .int .i64 l, .int .i64 s, .int .i64 e, .int .i64 g]] w fun r w' => r = .returned (.int .i64 (polC l s e g)) ∧ Below w.heap.size w w' := by
  have HT : Hid (∀ x w, Calls Tryz.prog 37 #[.int .i64 x] w fun r w' => r = .returned (.bool (timeB x)) ∧ w' = w) := l1Time_all
  have HB : Hid (Below w.heap.size w (w.alloc (.cells #[.bool b0, .bool b1, .bool b2, .int .i64 l, .int .i64 s, .int .i64 e, .int .i64 g] 27))) := (Below.refl _ _).alloc (Nat.le_refl _) _
  cases hl : timeB l
  · by_cases hm : l = -1
    · have hn : (l != -1) = false := by simp [hm]
      have HM : Hid (l = -1) := hm
      clear hm
      cases hs : timeB s
      · rw [polC_bad (by simp [polB, hs])]
        go_enter Tryz.func13, Tryz.ntmps13
        go_wp2_with fail
        refine (HT.out l _).mono ?_
        rintro r w1 ⟨rfl, rfl⟩
        rw [hl]
        go_wp2_with fail
        refine (HT.out s _).mono ?_
        rintro r w1 ⟨rfl, rfl⟩
        rw [hs]
        go_wp2_with fail
        go_ret
        exact ⟨rfl, HB.out⟩
      cases he : timeB e
      · rw [polC_bad (by simp [polB, he])]
        go_enter Tryz.func13, Tryz.ntmps13
        go_wp2_with fail
        refine (HT.out l _).mono ?_
        rintro r w1 ⟨rfl, rfl⟩
        rw [hl]
        go_wp2_with fail
        refine (HT.out s _).mono ?_
        rintro r w1 ⟨rfl, rfl⟩
        rw [hs]
        go_wp2_with fail
        refine (HT.out e _).mono ?_
        rintro r w1 ⟨rfl, rfl⟩
        rw [he]
        go_wp2_with fail
        go_ret
        exact ⟨rfl, HB.out⟩
      cases hg : timeB g
      · rw [polC_bad (by simp [polB, hg])]
        go_enter Tryz.func13, Tryz.ntmps13
        go_wp2_with fail
        refine (HT.out l _).mono ?_
        rintro r w1 ⟨rfl, rfl⟩
        rw [hl]
        go_wp2_with fail
        refine (HT.out s _).mono ?_
        rintro r w1 ⟨rfl, rfl⟩
        rw [hs]
        go_wp2_with fail
        refine (HT.out e _).mono ?_
        rintro r w1 ⟨rfl, rfl⟩
        rw [he]
        go_wp2_with fail
        refine (HT.out g _).mono ?_
        rintro r w1 ⟨rfl, rfl⟩
        rw [hg]
        go_wp2_with fail
        go_ret
        exact ⟨rfl, HB.out⟩
      rw [polC_ok (by simp [polB, HM.out, hs, he, hg])]
      go_enter Tryz.func13, Tryz.ntmps13
      go_wp2_with fail
      refine (HT.out l _).mono ?_
      rintro r w1 ⟨rfl, rfl⟩
      rw [hl]
      go_wp2_with fail
      refine (HT.out s _).mono ?_
      rintro r w1 ⟨rfl, rfl⟩
      rw [hs]
      go_wp2_with fail
      refine (HT.out e _).mono ?_
      rintro r w1 ⟨rfl, rfl⟩
      rw [he]
      go_wp2_with fail
      refine (HT.out g _).mono ?_
      rintro r w1 ⟨rfl, rfl⟩
      rw [hg]
      go_wp2_with fail
      go_ret
      exact ⟨rfl, HB.out⟩
    · have hn : (l != -1) = true := by simpa using hm
      rw [polC_bad (by simp [polB, hl, hm])]
      go_enter Tryz.func13, Tryz.ntmps13
      go_wp2_with fail
      refine (HT.out l _).mono ?_
      rintro r w1 ⟨rfl, rfl⟩
      rw [hl]
      go_wp2_with fail
      go_ret
      exact ⟨rfl, HB.out⟩
  · skip
    cases hs : timeB s
    · rw [polC_bad (by simp [polB, hs])]
      go_enter Tryz.func13, Tryz.ntmps13
      go_wp2_with fail
      refine (HT.out l _).mono ?_
      rintro r w1 ⟨rfl, rfl⟩
      rw [hl]
      go_wp2_with fail
      refine (HT.out s _).mono ?_
      rintro r w1 ⟨rfl, rfl⟩
      rw [hs]
      go_wp2_with fail
      go_ret
      exact ⟨rfl, HB.out⟩
    cases he : timeB e
    · rw [polC_bad (by simp [polB, he])]
      go_enter Tryz.func13, Tryz.ntmps13
      go_wp2_with fail
      refine (HT.out l _).mono ?_
      rintro r w1 ⟨rfl, rfl⟩
      rw [hl]
      go_wp2_with fail
      refine (HT.out s _).mono ?_
      rintro r w1 ⟨rfl, rfl⟩
      rw [hs]
      go_wp2_with fail
      refine (HT.out e _).mono ?_
      rintro r w1 ⟨rfl, rfl⟩
      rw [he]
      go_wp2_with fail
      go_ret
      exact ⟨rfl, HB.out⟩
    cases hg : timeB g
    · rw [polC_bad (by simp [polB, hg])]
      go_enter Tryz.func13, Tryz.ntmps13
      go_wp2_with fail
      refine (HT.out l _).mono ?_
      rintro r w1 ⟨rfl, rfl⟩
      rw [hl]
      go_wp2_with fail
      refine (HT.out s _).mono ?_
      rintro r w1 ⟨rfl, rfl⟩
      rw [hs]
      go_wp2_with fail
      refine (HT.out e _).mono ?_
      rintro r w1 ⟨rfl, rfl⟩
      rw [he]
      go_wp2_with fail
      refine (HT.out g _).mono ?_
      rintro r w1 ⟨rfl, rfl⟩
      rw [hg]
      go_wp2_with fail
      go_ret
      exact ⟨rfl, HB.out⟩
    rw [polC_ok (by simp [polB, hl, hs, he, hg])]
    go_enter Tryz.func13, Tryz.ntmps13
    go_wp2_with fail
    refine (HT.out l _).mono ?_
    rintro r w1 ⟨rfl, rfl⟩
    rw [hl]
    go_wp2_with fail
    refine (HT.out s _).mono ?_
    rintro r w1 ⟨rfl, rfl⟩
    rw [hs]
    go_wp2_with fail
    refine (HT.out e _).mono ?_
    rintro r w1 ⟨rfl, rfl⟩
    rw [he]
    go_wp2_with fail
    refine (HT.out g _).mono ?_
    rintro r w1 ⟨rfl, rfl⟩
    rw [hg]
    go_wp2_with fail
    go_ret
    exact ⟨rfl, HB.out⟩
set_option maxHeartbeats 4000000 in
theorem implPol_any (b0 b1 b2 : Bool) (l s e g : Int) (w : World) :
    Calls Tryz.prog 12 #[.agg #[.bool b0, .bool b1, .bool b2, .int .i64 l, .int .i64 s, .int .i64 e, .int .i64 g]] w fun r w' => r = .returned (.int .i64 (polC l s e g)) ∧ Below w.heap.size w w' := by
  have HT : Hid (∀ x w, Calls Tryz.prog 34 #[.int .i64 x] w fun r w' => r = .returned (.bool (timeB x)) ∧ w' = w) := isTime_all
  have HB : Hid (Below w.heap.size w (w.alloc (.cells #[.bool b0, .bool b1, .bool b2, .int .i64 l, .int .i64 s, .int .i64 e, .int .i64 g] 27))) := (Below.refl _ _).alloc (Nat.le_refl _) _
  by_cases hm : l = -1
  · have hn : (l != -1) = false := by simp [hm]
    have HM : Hid (l = -1) := hm
    clear hm
    cases hs : timeB s
    · rw [polC_bad (by simp [polB, hs])]
      go_enter Tryz.func12, Tryz.ntmps12
      go_wp2_with fail
      refine (HT.out s _).mono ?_
      rintro r w1 ⟨rfl, rfl⟩
      rw [hs]
      go_wp2_with fail
      go_ret
      exact ⟨rfl, HB.out⟩
    cases he : timeB e
    · rw [polC_bad (by simp [polB, he])]
      go_enter Tryz.func12, Tryz.ntmps12
      go_wp2_with fail
      refine (HT.out s _).mono ?_
      rintro r w1 ⟨rfl, rfl⟩
      rw [hs]
      go_wp2_with fail
      refine (HT.out e _).mono ?_
      rintro r w1 ⟨rfl, rfl⟩
      rw [he]
      go_wp2_with fail
      go_ret
      exact ⟨rfl, HB.out⟩
    cases hg : timeB g
    · rw [polC_bad (by simp [polB, hg])]
      go_enter Tryz.func12, Tryz.ntmps12
      go_wp2_with fail
      refine (HT.out s _).mono ?_
      rintro r w1 ⟨rfl, rfl⟩
      rw [hs]
      go_wp2_with fail
      refine (HT.out e _).mono ?_
      rintro r w1 ⟨rfl, rfl⟩
      rw [he]
      go_wp2_with fail
      refine (HT.out g _).mono ?_
      rintro r w1 ⟨rfl, rfl⟩
      rw [hg]
      go_wp2_with fail
      go_ret
      exact ⟨rfl, HB.out⟩
    rw [polC_ok (by simp [polB, HM.out, hs, he, hg])]
    go_enter Tryz.func12, Tryz.ntmps12
    go_wp2_with fail
    refine (HT.out s _).mono ?_
    rintro r w1 ⟨rfl, rfl⟩
    rw [hs]
    go_wp2_with fail
    refine (HT.out e _).mono ?_
    rintro r w1 ⟨rfl, rfl⟩
    rw [he]
    go_wp2_with fail
    refine (HT.out g _).mono ?_
    rintro r w1 ⟨rfl, rfl⟩
    rw [hg]
    go_wp2_with fail
    go_ret
    exact ⟨rfl, HB.out⟩
  have hn : (l != -1) = true := by simpa using hm
  cases hl : timeB l
  · rw [polC_bad (by simp [polB, hl, hm])]
    go_enter Tryz.func12, Tryz.ntmps12
    go_wp2_with fail
    refine (HT.out l _).mono ?_
    rintro r w1 ⟨rfl, rfl⟩
    rw [hl]
    go_wp2_with fail
    go_ret
    exact ⟨rfl, HB.out⟩
  cases hs : timeB s
  · rw [polC_bad (by simp [polB, hs])]
    go_enter Tryz.func12, Tryz.ntmps12
    go_wp2_with fail
    refine (HT.out l _).mono ?_
    rintro r w1 ⟨rfl, rfl⟩
    rw [hl]
    go_wp2_with fail
    refine (HT.out s _).mono ?_
    rintro r w1 ⟨rfl, rfl⟩
    rw [hs]
    go_wp2_with fail
    go_ret
    exact ⟨rfl, HB.out⟩
  cases he : timeB e
  · rw [polC_bad (by simp [polB, he])]
    go_enter Tryz.func12, Tryz.ntmps12
    go_wp2_with fail
    refine (HT.out l _).mono ?_
    rintro r w1 ⟨rfl, rfl⟩
    rw [hl]
    go_wp2_with fail
    refine (HT.out s _).mono ?_
    rintro r w1 ⟨rfl, rfl⟩
    rw [hs]
    go_wp2_with fail
    refine (HT.out e _).mono ?_
    rintro r w1 ⟨rfl, rfl⟩
    rw [he]
    go_wp2_with fail
    go_ret
    exact ⟨rfl, HB.out⟩
  cases hg : timeB g
  · rw [polC_bad (by simp [polB, hg])]
    go_enter Tryz.func12, Tryz.ntmps12
    go_wp2_with fail
    refine (HT.out l _).mono ?_
    rintro r w1 ⟨rfl, rfl⟩
    rw [hl]
    go_wp2_with fail
    refine (HT.out s _).mono ?_
    rintro r w1 ⟨rfl, rfl⟩
    rw [hs]
    go_wp2_with fail
    refine (HT.out e _).mono ?_
    rintro r w1 ⟨rfl, rfl⟩
    rw [he]
    go_wp2_with fail
    refine (HT.out g _).mono ?_
    rintro r w1 ⟨rfl, rfl⟩
    rw [hg]
    go_wp2_with fail
    go_ret
    exact ⟨rfl, HB.out⟩
  rw [polC_ok (by simp [polB, hl, hs, he, hg])]
  go_enter Tryz.func12, Tryz.ntmps12
  go_wp2_with fail
  refine (HT.out l _).mono ?_
  rintro r w1 ⟨rfl, rfl⟩
  rw [hl]
  go_wp2_with fail
  refine (HT.out s _).mono ?_
  rintro r w1 ⟨rfl, rfl⟩
  rw [hs]
  go_wp2_with fail
  refine (HT.out e _).mono ?_
  rintro r w1 ⟨rfl, rfl⟩
  rw [he]
  go_wp2_with fail
  refine (HT.out g _).mono ?_
  rintro r w1 ⟨rfl, rfl⟩
  rw [hg]
  go_wp2_with fail
  go_ret
  exact ⟨rfl, HB.out⟩
end Go.Proofs.YtgfbahjpaaanoaaGreatDoor
/-
  The model's policy.
-/
namespace Go.Proofs.YtgfbahjpaaanoaaGreatDoor
open Go.ChangeShapes Go.WideShapes Go.ChangeAt Go.RowKit Go.Sort
section
variable {W : World} {b : Nat} {b0 b1 b2 : Bool} {l s e g : Int}
theorem PolAt.off (k : PolAt W b b0 b1 b2 l s e g) {B i : Nat} {x : Value} (h : B ≠ b) : PolAt (W.setCell ⟨B, i, none⟩ x) b b0 b1 b2 l s e g := by
  have ne : ∀ o : Nat, (⟨B, i, none⟩ : Addr) ≠ ⟨b, o, none⟩ := fun o q => h (congrArg Addr.block q)
  exact ⟨by rw [World.cell?_setCell_other _ _ _ _ (ne _)]; exact k.c0, by rw [World.cell?_setCell_other _ _ _ _ (ne _)]; exact k.c1, by rw [World.cell?_setCell_other _ _ _ _ (ne _)]; exact k.c2, by rw [World.cell?_setCell_other _ _ _ _ (ne _)]; exact k.c3, by rw [World.cell?_setCell_other _ _ _ _ (ne _)]; exact k.c4, by rw [World.cell?_setCell_other _ _ _ _ (ne _)]; exact k.c5, by rw [World.cell?_setCell_other _ _ _ _ (ne _)]; exact k.c6, fun o => by rw [World.frozen?_setCell]; exact k.fr o, by simpa using k.lt⟩
theorem PolAt.set0 (k : PolAt W b b0 b1 b2 l s e g) (x : Bool) : PolAt (W.setCell ⟨b, 0, none⟩ (.bool x)) b x b1 b2 l s e g :=
  ⟨World.cell?_setCell_same _ _ _ k.c0, by rw [World.cell?_setCell_other _ _ _ _ (by intro q; have := congrArg Addr.off q; simp at this)]; exact k.c1, by rw [World.cell?_setCell_other _ _ _ _ (by intro q; have := congrArg Addr.off q; simp at this)]; exact k.c2, by rw [World.cell?_setCell_other _ _ _ _ (by intro q; have := congrArg Addr.off q; simp at this)]; exact k.c3, by rw [World.cell?_setCell_other _ _ _ _ (by intro q; have := congrArg Addr.off q; simp at this)]; exact k.c4, by rw [World.cell?_setCell_other _ _ _ _ (by intro q; have := congrArg Addr.off q; simp at this)]; exact k.c5, by rw [World.cell?_setCell_other _ _ _ _ (by intro q; have := congrArg Addr.off q; simp at this)]; exact k.c6, fun o => by rw [World.frozen?_setCell]; exact k.fr o, by simpa using k.lt⟩
theorem PolAt.set1 (k : PolAt W b b0 b1 b2 l s e g) (x : Bool) : PolAt (W.setCell ⟨b, 1, none⟩ (.bool x)) b b0 x b2 l s e g :=
  ⟨by rw [World.cell?_setCell_other _ _ _ _ (by intro q; have := congrArg Addr.off q; simp at this)]; exact k.c0, World.cell?_setCell_same _ _ _ k.c1, by rw [World.cell?_setCell_other _ _ _ _ (by intro q; have := congrArg Addr.off q; simp at this)]; exact k.c2, by rw [World.cell?_setCell_other _ _ _ _ (by intro q; have := congrArg Addr.off q; simp at this)]; exact k.c3, by rw [World.cell?_setCell_other _ _ _ _ (by intro q; have := congrArg Addr.off q; simp at this)]; exact k.c4, by rw [World.cell?_setCell_other _ _ _ _ (by intro q; have := congrArg Addr.off q; simp at this)]; exact k.c5, by rw [World.cell?_setCell_other _ _ _ _ (by intro q; have := congrArg Addr.off q; simp at this)]; exact k.c6, fun o => by rw [World.frozen?_setCell]; exact k.fr o, by simpa using k.lt⟩
theorem PolAt.set2 (k : PolAt W b b0 b1 b2 l s e g) (x : Bool) : PolAt (W.setCell ⟨b, 2, none⟩ (.bool x)) b b0 b1 x l s e g :=
  ⟨by rw [World.cell?_setCell_other _ _ _ _ (by intro q; have := congrArg Addr.off q; simp at this)]; exact k.c0, by rw [World.cell?_setCell_other _ _ _ _ (by intro q; have := congrArg Addr.off q; simp at this)]; exact k.c1, World.cell?_setCell_same _ _ _ k.c2, by rw [World.cell?_setCell_other _ _ _ _ (by intro q; have := congrArg Addr.off q; simp at this)]; exact k.c3, by rw [World.cell?_setCell_other _ _ _ _ (by intro q; have := congrArg Addr.off q; simp at this)]; exact k.c4, by rw [World.cell?_setCell_other _ _ _ _ (by intro q; have := congrArg Addr.off q; simp at this)]; exact k.c5, by rw [World.cell?_setCell_other _ _ _ _ (by intro q; have := congrArg Addr.off q; simp at this)]; exact k.c6, fun o => by rw [World.frozen?_setCell]; exact k.fr o, by simpa using k.lt⟩
theorem PolAt.set3 (k : PolAt W b b0 b1 b2 l s e g) (x : Int) : PolAt (W.setCell ⟨b, 3, none⟩ (.int .i64 x)) b b0 b1 b2 x s e g :=
  ⟨by rw [World.cell?_setCell_other _ _ _ _ (by intro q; have := congrArg Addr.off q; simp at this)]; exact k.c0, by rw [World.cell?_setCell_other _ _ _ _ (by intro q; have := congrArg Addr.off q; simp at this)]; exact k.c1, by rw [World.cell?_setCell_other _ _ _ _ (by intro q; have := congrArg Addr.off q; simp at this)]; exact k.c2, World.cell?_setCell_same _ _ _ k.c3, by rw [World.cell?_setCell_other _ _ _ _ (by intro q; have := congrArg Addr.off q; simp at this)]; exact k.c4, by rw [World.cell?_setCell_other _ _ _ _ (by intro q; have := congrArg Addr.off q; simp at this)]; exact k.c5, by rw [World.cell?_setCell_other _ _ _ _ (by intro q; have := congrArg Addr.off q; simp at this)]; exact k.c6, fun o => by rw [World.frozen?_setCell]; exact k.fr o, by simpa using k.lt⟩
theorem PolAt.set4 (k : PolAt W b b0 b1 b2 l s e g) (x : Int) : PolAt (W.setCell ⟨b, 4, none⟩ (.int .i64 x)) b b0 b1 b2 l x e g :=
  ⟨by rw [World.cell?_setCell_other _ _ _ _ (by intro q; have := congrArg Addr.off q; simp at this)]; exact k.c0, by rw [World.cell?_setCell_other _ _ _ _ (by intro q; have := congrArg Addr.off q; simp at this)]; exact k.c1, by rw [World.cell?_setCell_other _ _ _ _ (by intro q; have := congrArg Addr.off q; simp at this)]; exact k.c2, by rw [World.cell?_setCell_other _ _ _ _ (by intro q; have := congrArg Addr.off q; simp at this)]; exact k.c3, World.cell?_setCell_same _ _ _ k.c4, by rw [World.cell?_setCell_other _ _ _ _ (by intro q; have := congrArg Addr.off q; simp at this)]; exact k.c5, by rw [World.cell?_setCell_other _ _ _ _ (by intro q; have := congrArg Addr.off q; simp at this)]; exact k.c6, fun o => by rw [World.frozen?_setCell]; exact k.fr o, by simpa using k.lt⟩
theorem PolAt.set5 (k : PolAt W b b0 b1 b2 l s e g) (x : Int) : PolAt (W.setCell ⟨b, 5, none⟩ (.int .i64 x)) b b0 b1 b2 l s x g :=
  ⟨by rw [World.cell?_setCell_other _ _ _ _ (by intro q; have := congrArg Addr.off q; simp at this)]; exact k.c0, by rw [World.cell?_setCell_other _ _ _ _ (by intro q; have := congrArg Addr.off q; simp at this)]; exact k.c1, by rw [World.cell?_setCell_other _ _ _ _ (by intro q; have := congrArg Addr.off q; simp at this)]; exact k.c2, by rw [World.cell?_setCell_other _ _ _ _ (by intro q; have := congrArg Addr.off q; simp at this)]; exact k.c3, by rw [World.cell?_setCell_other _ _ _ _ (by intro q; have := congrArg Addr.off q; simp at this)]; exact k.c4, World.cell?_setCell_same _ _ _ k.c5, by rw [World.cell?_setCell_other _ _ _ _ (by intro q; have := congrArg Addr.off q; simp at this)]; exact k.c6, fun o => by rw [World.frozen?_setCell]; exact k.fr o, by simpa using k.lt⟩
theorem PolAt.set6 (k : PolAt W b b0 b1 b2 l s e g) (x : Int) : PolAt (W.setCell ⟨b, 6, none⟩ (.int .i64 x)) b b0 b1 b2 l s e x :=
  ⟨by rw [World.cell?_setCell_other _ _ _ _ (by intro q; have := congrArg Addr.off q; simp at this)]; exact k.c0, by rw [World.cell?_setCell_other _ _ _ _ (by intro q; have := congrArg Addr.off q; simp at this)]; exact k.c1, by rw [World.cell?_setCell_other _ _ _ _ (by intro q; have := congrArg Addr.off q; simp at this)]; exact k.c2, by rw [World.cell?_setCell_other _ _ _ _ (by intro q; have := congrArg Addr.off q; simp at this)]; exact k.c3, by rw [World.cell?_setCell_other _ _ _ _ (by intro q; have := congrArg Addr.off q; simp at this)]; exact k.c4, by rw [World.cell?_setCell_other _ _ _ _ (by intro q; have := congrArg Addr.off q; simp at this)]; exact k.c5, World.cell?_setCell_same _ _ _ k.c6, fun o => by rw [World.frozen?_setCell]; exact k.fr o, by simpa using k.lt⟩
end
/-- What stands while a policy is told: the result's block, the policy's, the items. -/
structure PK (w : World) (b0 b1 b2 : Bool) (l s e g : Int) (ia : Option Addr) (n k : Nat) (L : List Rec) (X : World) : Prop where
  b : Below w.heap.size w X
  z : PolAt X w.heap.size false false false 0 0 0 0
  p : PolAt X (w.heap.size + 1) b0 b1 b2 l s e g
  o : OwnI X (w.heap.size + 2) (.slice ia n k) L
section
variable {w : World} {b0 b1 b2 : Bool} {l s e g : Int} {ia : Option Addr} {n k : Nat} {L : List Rec} {X Y : World}
theorem PK.keep (q : PK w b0 b1 b2 l s e g ia n k L X) (hb : Below X.heap.size X Y) : PK w b0 b1 b2 l s e g ia n k L Y :=
  ⟨q.b.trans (hb.mono q.b.size), q.z.keep hb, q.p.keep hb, q.o.below hb⟩
theorem PK.its (q : PK w b0 b1 b2 l s e g ia n k L X) : n = L.length ∧ RecIn X ia L := by
  obtain ⟨a', c', h, hi⟩ := q.o.at
  simp only [Value.slice.injEq] at h
  exact ⟨h.2.1, by rw [h.1]; exact hi⟩
theorem PK.set0 (q : PK w b0 b1 b2 l s e g ia n k L X) (x : Bool) : PK w x b1 b2 l s e g ia n k L (X.setCell ⟨w.heap.size + 1, 0, none⟩ (.bool x)) :=
  ⟨q.b.setCell (by show w.heap.size ≤ w.heap.size + 1; omega) _, q.z.off (by omega), q.p.set0 x, own_set q.o (by omega)⟩
theorem PK.set1 (q : PK w b0 b1 b2 l s e g ia n k L X) (x : Bool) : PK w b0 x b2 l s e g ia n k L (X.setCell ⟨w.heap.size + 1, 1, none⟩ (.bool x)) :=
  ⟨q.b.setCell (by show w.heap.size ≤ w.heap.size + 1; omega) _, q.z.off (by omega), q.p.set1 x, own_set q.o (by omega)⟩
theorem PK.set2 (q : PK w b0 b1 b2 l s e g ia n k L X) (x : Bool) : PK w b0 b1 x l s e g ia n k L (X.setCell ⟨w.heap.size + 1, 2, none⟩ (.bool x)) :=
  ⟨q.b.setCell (by show w.heap.size ≤ w.heap.size + 1; omega) _, q.z.off (by omega), q.p.set2 x, own_set q.o (by omega)⟩
theorem PK.set3 (q : PK w b0 b1 b2 l s e g ia n k L X) (x : Int) : PK w b0 b1 b2 x s e g ia n k L (X.setCell ⟨w.heap.size + 1, 3, none⟩ (.int .i64 x)) :=
  ⟨q.b.setCell (by show w.heap.size ≤ w.heap.size + 1; omega) _, q.z.off (by omega), q.p.set3 x, own_set q.o (by omega)⟩
theorem PK.set4 (q : PK w b0 b1 b2 l s e g ia n k L X) (x : Int) : PK w b0 b1 b2 l x e g ia n k L (X.setCell ⟨w.heap.size + 1, 4, none⟩ (.int .i64 x)) :=
  ⟨q.b.setCell (by show w.heap.size ≤ w.heap.size + 1; omega) _, q.z.off (by omega), q.p.set4 x, own_set q.o (by omega)⟩
theorem PK.set5 (q : PK w b0 b1 b2 l s e g ia n k L X) (x : Int) : PK w b0 b1 b2 l s x g ia n k L (X.setCell ⟨w.heap.size + 1, 5, none⟩ (.int .i64 x)) :=
  ⟨q.b.setCell (by show w.heap.size ≤ w.heap.size + 1; omega) _, q.z.off (by omega), q.p.set5 x, own_set q.o (by omega)⟩
theorem PK.set6 (q : PK w b0 b1 b2 l s e g ia n k L X) (x : Int) : PK w b0 b1 b2 l s e x ia n k L (X.setCell ⟨w.heap.size + 1, 6, none⟩ (.int .i64 x)) :=
  ⟨q.b.setCell (by show w.heap.size ≤ w.heap.size + 1; omega) _, q.z.off (by omega), q.p.set6 x, own_set q.o (by omega)⟩
theorem PK.done (q : PK w b0 b1 b2 l s e g ia n k L X) : PolAt (((((((X.setCell ⟨w.heap.size, 0, none⟩ (.bool b0)).setCell ⟨w.heap.size, 1, none⟩ (.bool b1)).setCell ⟨w.heap.size, 2, none⟩ (.bool b2)).setCell ⟨w.heap.size, 3, none⟩ (.int .i64 l)).setCell ⟨w.heap.size, 4, none⟩ (.int .i64 s)).setCell ⟨w.heap.size, 5, none⟩ (.int .i64 e)).setCell ⟨w.heap.size, 6, none⟩ (.int .i64 g)) w.heap.size b0 b1 b2 l s e g ∧ Below w.heap.size w (((((((X.setCell ⟨w.heap.size, 0, none⟩ (.bool b0)).setCell ⟨w.heap.size, 1, none⟩ (.bool b1)).setCell ⟨w.heap.size, 2, none⟩ (.bool b2)).setCell ⟨w.heap.size, 3, none⟩ (.int .i64 l)).setCell ⟨w.heap.size, 4, none⟩ (.int .i64 s)).setCell ⟨w.heap.size, 5, none⟩ (.int .i64 e)).setCell ⟨w.heap.size, 6, none⟩ (.int .i64 g)) :=
  ⟨((((((q.z.set0 b0).set1 b1).set2 b2).set3 l).set4 s).set5 e).set6 g, ((((((q.b.setCell (Nat.le_refl _) _).setCell (Nat.le_refl _) _).setCell (Nat.le_refl _) _).setCell (Nat.le_refl _) _).setCell (Nat.le_refl _) _).setCell (Nat.le_refl _) _).setCell (Nat.le_refl _) _⟩
end
def polV (q : Pol) : Value := .agg #[.bool q.b0, .bool q.b1, .bool q.b2, .int .i64 q.l, .int .i64 q.s, .int .i64 q.e, .int .i64 q.g]
theorem polV_ret {q : Pol} {b0 b1 b2 : Bool} {l s e g : Int} (h : q = ⟨b0, b1, b2, l, s, e, g⟩) : Ending.returned (.agg #[.bool b0, .bool b1, .bool b2, .int .i64 l, .int .i64 s, .int .i64 e, .int .i64 g]) = .returned (polV q) := by rw [h]; rfl
set_option maxRecDepth 100000 in
set_option maxHeartbeats 16000000 in
theorem l6Policy_any (w : World) (a : Option Addr) (cap : Nat) (l : List Hdr) (h0 : headsC l = 0) (hi : HdsIn w a l) :
    Calls Tryz.prog 30 #[.slice a l.length cap] w fun e w' => e = .returned (polV (polOf l)) ∧ Below w.heap.size w w' := by
  obtain ⟨h20, hz⟩ := first_sizes h0
  have HF : Hid (∀ W, Below w.heap.size w W → Calls Tryz.prog 65 #[.slice a l.length cap, .string ⟨#[97, 103, 101]⟩] W fun e w' => e = .returned (.tuple #[.string (firstV ageN l), .bool (firstB ageN l)]) ∧ Below W.heap.size W w') := fun W hb => by
    have := l6First_any W a cap l ⟨#[97, 103, 101]⟩ h20 hz (by decide) (hi.keep hb)
    rw [ageS_low] at this
    exact this
  have HI : Hid (∀ W, Below w.heap.size w W → Calls Tryz.prog 68 #[.slice a l.length cap, .string ⟨#[99, 97, 99, 104, 101, 45, 99, 111, 110, 116, 114, 111, 108]⟩] W fun e w' => (∃ ia n k, e = .returned (.tuple #[.slice ia n k, .bool (decide (parseC (underT ccN l) = 0))]) ∧ OwnI w' W.heap.size (.slice ia n k) (parseL (underT ccN l))) ∧ Below W.heap.size W w') := fun W hb => by
    have := l6Items_any W a cap l ⟨#[99, 97, 99, 104, 101, 45, 99, 111, 110, 116, 114, 111, 108]⟩ h0 (by decide) (hi.keep hb)
    rw [ccS_low] at this
    exact this
  have HX : Hid (∀ W, Below w.heap.size w W → Calls Tryz.prog 71 #[.slice a l.length cap] W fun e w' => e = .returned (.int .i64 (expD l)) ∧ Below W.heap.size W w') := fun W hb => l6Expires_any W a cap l h0 (hi.keep hb)
  have HSH : Hid (ShortNames (parseL (underT ccN l)) ∧ (parseL (underT ccN l)).length ≤ 1048576) := ⟨fun i r hr => by
    have := hword_max (parse_word (List.mem_of_getElem? hr))
    omega, by have := parseL_len (underT ccN l); omega⟩
  have HP0 : Hid (parseC (underT ccN l) = 0 → polOf l = ⟨hasR kNoStore (parseL (underT ccN l)) || hasR kPrivate (parseL (underT ccN l)), hasR kNoCache (parseL (underT ccN l)), mustR (parseL (underT ccN l)), lifeR (parseL (underT ccN l)) (expD l), if mustR (parseL (underT ccN l)) = true then 0 else secR kSwr (parseL (underT ccN l)), if mustR (parseL (underT ccN l)) = true then 0 else secR kSie (parseL (underT ccN l)), ageD l⟩) := fun h => by rw [polOf, if_pos h]
  have HP1 : Hid (¬ parseC (underT ccN l) = 0 → polOf l = ⟨true, false, false, 0, 0, 0, ageD l⟩) := fun h => by rw [polOf, if_neg h]
  have HAG : Hid (ageD l = if firstB ageN l = true then secD (firstV ageN l) else 0) := rfl
  clear hi hz h0 h20
  generalize polOf l = PO at *
  generalize ageD l = ag at *
  generalize expD l = xd at *
  generalize firstV ageN l = av at *
  generalize firstB ageN l = ab at *
  generalize parseC (underT ccN l) = pc at *
  generalize parseL (underT ccN l) = L at *
  generalize l.length = ln at *
  have HD : Hid (∀ W, Calls Tryz.prog 67 #[.string av] W fun e w' => e = .returned (.int .i64 (numD av)) ∧ w' = W) := l1Delta_all av
  have HM : Hid (∀ W, Calls Tryz.prog 66 #[.int .i64 (numD av), .int .i64 0] W fun e w' => e = .returned (.int .i64 (max0 (numD av))) ∧ w' = W) := fun W => l1Max_0 W _
  have hmb := max0_bd (numD_hi av) (by omega)
  have HSD : Hid (secD av = max0 (numD av) * 1000) := rfl
  generalize secD av = sd at *
  generalize max0 (numD av) = mx at *
  generalize numD av = nd at *
  have hw : IntKind.i64.wrap (mx * 1000) = mx * 1000 := by rw [IntKind.wrap_i64]; omega
  obtain ⟨W0, hW0⟩ : ∃ X, Hid (X = (w.alloc (.cells #[.bool false, .bool false, .bool false, .int .i64 0, .int .i64 0, .int .i64 0, .int .i64 0] 27)).alloc (.cells #[.bool false, .bool false, .bool false, .int .i64 0, .int .i64 0, .int .i64 0, .int .i64 0] 27)) := ⟨_, rfl⟩
  have Q0 : Hid (PK w false false false 0 0 0 0 none 0 0 [] W0) := by
    rw [hW0.out]
    have a1 : Below w.heap.size w (w.alloc (.cells #[.bool false, .bool false, .bool false, .int .i64 0, .int .i64 0, .int .i64 0, .int .i64 0] 27)) := (Below.refl _ _).alloc (Nat.le_refl _) _
    have a2 : Below (w.alloc (.cells #[.bool false, .bool false, .bool false, .int .i64 0, .int .i64 0, .int .i64 0, .int .i64 0] 27)).heap.size (w.alloc (.cells #[.bool false, .bool false, .bool false, .int .i64 0, .int .i64 0, .int .i64 0, .int .i64 0] 27)) ((w.alloc (.cells #[.bool false, .bool false, .bool false, .int .i64 0, .int .i64 0, .int .i64 0, .int .i64 0] 27)).alloc (.cells #[.bool false, .bool false, .bool false, .int .i64 0, .int .i64 0, .int .i64 0, .int .i64 0] 27)) := (Below.refl _ _).alloc (Nat.le_refl _) _
    have n2 := PolAt.new (w.alloc (.cells #[.bool false, .bool false, .bool false, .int .i64 0, .int .i64 0, .int .i64 0, .int .i64 0] 27)) false false false 0 0 0 0 27
    rw [World.size_alloc] at n2
    exact ⟨a1.trans (a2.mono (by simp)), (PolAt.new w _ _ _ _ _ _ _ _).keep a2, n2, OwnI.nil _ _⟩
  go_enter Tryz.func30, Tryz.ntmps30
  go_upto_region 2 with fail
  rw [← hW0.out]
  clear hW0
  go_wp2_with fail
  refine (HF.out _ Q0.out.b).mono ?_
  rintro e w1 ⟨rfl, hb1⟩
  have Q01 : Hid (PK w false false false 0 0 0 0 none 0 0 [] w1) := Q0.out.keep hb1
  clear hb1 Q0 HF
  cases ab
  case' false =>
    have HA : Hid (ag = 0) := HAG.out
    go_upto_region 5 with fail
    have Q1 : Hid (PK w false false false 0 0 0 ag none 0 0 [] w1) := by rw [HA.out]; exact Q01.out
    clear Q01 HA HD HM HSD HAG hmb hw
  case' true =>
    have HA : Hid (ag = mx * 1000) := HAG.out.trans HSD.out
    go_wp2_with fail
    refine (HD.out _).mono ?_
    rintro e w3 ⟨rfl, rfl⟩
    go_wp2_with fail
    refine (HM.out _).mono ?_
    rintro e w4 ⟨rfl, rfl⟩
    have y6 := Q01.out.p.c6
    have yf := Q01.out.p.fr 6
    have Q1 : Hid (PK w false false false 0 0 0 ag none 0 0 [] (w4.setCell ⟨w.heap.size + 1, 6, none⟩ (.int .i64 (mx * 1000)))) := by
      have := Q01.out.set6 (mx * 1000)
      rw [← HA.out] at this ⊢
      exact this
    obtain ⟨w1, hw1⟩ : ∃ X, Hid (X = w4.setCell ⟨w.heap.size + 1, 6, none⟩ (.int .i64 (mx * 1000))) := ⟨_, rfl⟩
    rw [← hw1.out] at Q1
    clear Q01
    go_upto_region 5 with fail
    rw [← hw1.out]
    clear hw1 y6 yf HA HD HM HSD HAG hmb hw
  all_goals
    go_wp2_with fail
    refine (HI.out _ Q1.out.b).mono ?_
    rintro e w2 ⟨⟨ia, n, k, rfl, ho⟩, hb2⟩
    have Q2 : Hid (PK w false false false 0 0 0 ag ia n k L w2) := ⟨(Q1.out.keep hb2).b, (Q1.out.keep hb2).z, (Q1.out.keep hb2).p, ho.lower (by have := Q1.out.p.lt; omega)⟩
    clear hb2 ho Q1 HI
    by_cases hp : pc = 0
    · have HPO := HP0.out hp
      have hd : decide (pc = 0) = true := by simpa using hp
      rw [hd]
      have HPX : Hid (PO = ⟨hasR kNoStore L || hasR kPrivate L, hasR kNoCache L, mustR L, lifeR L xd, if mustR L = true then 0 else secR kSwr L, if mustR L = true then 0 else secR kSie L, ag⟩) := HPO
      clear HPO HP0 HP1 hd hp
      have HN : Hid (n = L.length) := Q2.out.its.1
      have CkNoStore : Hid (∀ X, RecIn X ia L → Calls Tryz.prog 69 #[.slice ia n k, .string ⟨#[110, 111, 45, 115, 116, 111, 114, 101]⟩] X fun e w' => e = .returned (.bool (hasR kNoStore L)) ∧ Below X.heap.size X w') := fun X h => by
        have := l6Has_any X ia k L ⟨#[110, 111, 45, 115, 116, 111, 114, 101]⟩ HSH.out.2 (by decide) HSH.out.1 h
        rw [← HN.out] at this
        exact this
      have CkPrivate : Hid (∀ X, RecIn X ia L → Calls Tryz.prog 69 #[.slice ia n k, .string ⟨#[112, 114, 105, 118, 97, 116, 101]⟩] X fun e w' => e = .returned (.bool (hasR kPrivate L)) ∧ Below X.heap.size X w') := fun X h => by
        have := l6Has_any X ia k L ⟨#[112, 114, 105, 118, 97, 116, 101]⟩ HSH.out.2 (by decide) HSH.out.1 h
        rw [← HN.out] at this
        exact this
      have CkNoCache : Hid (∀ X, RecIn X ia L → Calls Tryz.prog 69 #[.slice ia n k, .string ⟨#[110, 111, 45, 99, 97, 99, 104, 101]⟩] X fun e w' => e = .returned (.bool (hasR kNoCache L)) ∧ Below X.heap.size X w') := fun X h => by
        have := l6Has_any X ia k L ⟨#[110, 111, 45, 99, 97, 99, 104, 101]⟩ HSH.out.2 (by decide) HSH.out.1 h
        rw [← HN.out] at this
        exact this
      have CkMust : Hid (∀ X, RecIn X ia L → Calls Tryz.prog 69 #[.slice ia n k, .string ⟨#[109, 117, 115, 116, 45, 114, 101, 118, 97, 108, 105, 100, 97, 116, 101]⟩] X fun e w' => e = .returned (.bool (hasR kMust L)) ∧ Below X.heap.size X w') := fun X h => by
        have := l6Has_any X ia k L ⟨#[109, 117, 115, 116, 45, 114, 101, 118, 97, 108, 105, 100, 97, 116, 101]⟩ HSH.out.2 (by decide) HSH.out.1 h
        rw [← HN.out] at this
        exact this
      have CkProxy : Hid (∀ X, RecIn X ia L → Calls Tryz.prog 69 #[.slice ia n k, .string ⟨#[112, 114, 111, 120, 121, 45, 114, 101, 118, 97, 108, 105, 100, 97, 116, 101]⟩] X fun e w' => e = .returned (.bool (hasR kProxy L)) ∧ Below X.heap.size X w') := fun X h => by
        have := l6Has_any X ia k L ⟨#[112, 114, 111, 120, 121, 45, 114, 101, 118, 97, 108, 105, 100, 97, 116, 101]⟩ HSH.out.2 (by decide) HSH.out.1 h
        rw [← HN.out] at this
        exact this
      have CkSMax : Hid (∀ X, RecIn X ia L → Calls Tryz.prog 69 #[.slice ia n k, .string ⟨#[115, 45, 109, 97, 120, 97, 103, 101]⟩] X fun e w' => e = .returned (.bool (hasR kSMax L)) ∧ Below X.heap.size X w') := fun X h => by
        have := l6Has_any X ia k L ⟨#[115, 45, 109, 97, 120, 97, 103, 101]⟩ HSH.out.2 (by decide) HSH.out.1 h
        rw [← HN.out] at this
        exact this
      have CkMax : Hid (∀ X, RecIn X ia L → Calls Tryz.prog 69 #[.slice ia n k, .string ⟨#[109, 97, 120, 45, 97, 103, 101]⟩] X fun e w' => e = .returned (.bool (hasR kMax L)) ∧ Below X.heap.size X w') := fun X h => by
        have := l6Has_any X ia k L ⟨#[109, 97, 120, 45, 97, 103, 101]⟩ HSH.out.2 (by decide) HSH.out.1 h
        rw [← HN.out] at this
        exact this
      have SkSMax : Hid (∀ X, RecIn X ia L → Calls Tryz.prog 70 #[.slice ia n k, .string ⟨#[115, 45, 109, 97, 120, 97, 103, 101]⟩] X fun e w' => e = .returned (.int .i64 (secR kSMax L)) ∧ Below X.heap.size X w') := fun X h => by
        have := l6Seconds_any X ia k L ⟨#[115, 45, 109, 97, 120, 97, 103, 101]⟩ HSH.out.2 (by decide) HSH.out.1 h
        rw [← HN.out] at this
        exact this
      have SkMax : Hid (∀ X, RecIn X ia L → Calls Tryz.prog 70 #[.slice ia n k, .string ⟨#[109, 97, 120, 45, 97, 103, 101]⟩] X fun e w' => e = .returned (.int .i64 (secR kMax L)) ∧ Below X.heap.size X w') := fun X h => by
        have := l6Seconds_any X ia k L ⟨#[109, 97, 120, 45, 97, 103, 101]⟩ HSH.out.2 (by decide) HSH.out.1 h
        rw [← HN.out] at this
        exact this
      have SkSwr : Hid (∀ X, RecIn X ia L → Calls Tryz.prog 70 #[.slice ia n k, .string ⟨#[115, 116, 97, 108, 101, 45, 119, 104, 105, 108, 101, 45, 114, 101, 118, 97, 108, 105, 100, 97, 116, 101]⟩] X fun e w' => e = .returned (.int .i64 (secR kSwr L)) ∧ Below X.heap.size X w') := fun X h => by
        have := l6Seconds_any X ia k L ⟨#[115, 116, 97, 108, 101, 45, 119, 104, 105, 108, 101, 45, 114, 101, 118, 97, 108, 105, 100, 97, 116, 101]⟩ HSH.out.2 (by decide) HSH.out.1 h
        rw [← HN.out] at this
        exact this
      have SkSie : Hid (∀ X, RecIn X ia L → Calls Tryz.prog 70 #[.slice ia n k, .string ⟨#[115, 116, 97, 108, 101, 45, 105, 102, 45, 101, 114, 114, 111, 114]⟩] X fun e w' => e = .returned (.int .i64 (secR kSie L)) ∧ Below X.heap.size X w') := fun X h => by
        have := l6Seconds_any X ia k L ⟨#[115, 116, 97, 108, 101, 45, 105, 102, 45, 101, 114, 114, 111, 114]⟩ HSH.out.2 (by decide) HSH.out.1 h
        rw [← HN.out] at this
        exact this
      have HMU : Hid (mustR L = (hasR kMust L || hasR kProxy L || hasR kSMax L)) := rfl
      have HLI : Hid (lifeR L xd = if hasR kSMax L = true then secR kSMax L else if hasR kMax L = true then secR kMax L else xd) := rfl
      clear HSH HN
      generalize mustR L = mu at *
      generalize lifeR L xd = li at *
      generalize hasR kNoStore L = hkNoStore at *
      generalize hasR kPrivate L = hkPrivate at *
      generalize hasR kNoCache L = hkNoCache at *
      generalize hasR kMust L = hkMust at *
      generalize hasR kProxy L = hkProxy at *
      generalize hasR kSMax L = hkSMax at *
      generalize hasR kMax L = hkMax at *
      generalize secR kSMax L = skSMax at *
      generalize secR kMax L = skMax at *
      generalize secR kSwr L = skSwr at *
      generalize secR kSie L = skSie at *
      go_upto_region 9 with fail
      go_cut [] from 29 to 35 (fun wx => PK w (hkNoStore || hkPrivate) false false 0 0 0 ag ia n k L wx)
      case first =>
        go_wp2_with fail
        refine (CkNoStore.out _ Q2.out.its.2).mono ?_
        rintro e w3 ⟨rfl, hbq⟩
        have Q3 : Hid (PK w false false false 0 0 0 ag ia n k L w3) := Q2.out.keep hbq
        clear hbq Q2
        cases hkNoStore
        · go_wp2_with fail
          refine (CkPrivate.out _ Q3.out.its.2).mono ?_
          rintro e w4 ⟨rfl, hbq⟩
          have Q4 : Hid (PK w false false false 0 0 0 ag ia n k L w4) := Q3.out.keep hbq
          clear hbq Q3
          have y0 := Q4.out.p.c0
          have yf := Q4.out.p.fr 0
          have Q5 : Hid (PK w hkPrivate false false 0 0 0 ag ia n k L (w4.setCell ⟨w.heap.size + 1, 0, none⟩ (.bool hkPrivate))) := Q4.out.set0 _
          go_wp2_with fail
          go_meet
          exact Q5.out
        · have y0 := Q3.out.p.c0
          have yf := Q3.out.p.fr 0
          have Q5 : Hid (PK w true false false 0 0 0 ag ia n k L (w3.setCell ⟨w.heap.size + 1, 0, none⟩ (.bool true))) := Q3.out.set0 _
          go_wp2_with fail
          go_meet
          exact Q5.out
      case rest =>
      have Q3 : Hid (PK w (hkNoStore || hkPrivate) false false 0 0 0 ag ia n k L wc) := hcut
      clear hcut Q2 CkNoStore CkPrivate
      generalize hns : (hkNoStore || hkPrivate) = ns at *
      generalize wc = w3 at *
      go_wp2_with fail
      refine (CkNoCache.out _ Q3.out.its.2).mono ?_
      rintro e w4 ⟨rfl, hbq⟩
      have Q4 : Hid (PK w ns false false 0 0 0 ag ia n k L w4) := Q3.out.keep hbq
      clear hbq Q3
      have y1 := Q4.out.p.c1
      have yf1 := Q4.out.p.fr 1
      have Q5 : Hid (PK w ns hkNoCache false 0 0 0 ag ia n k L (w4.setCell ⟨w.heap.size + 1, 1, none⟩ (.bool hkNoCache))) := Q4.out.set1 _
      obtain ⟨w5, hw5⟩ : ∃ X, Hid (X = w4.setCell ⟨w.heap.size + 1, 1, none⟩ (.bool hkNoCache)) := ⟨_, rfl⟩
      rw [← hw5.out] at Q5
      clear Q4
      go_upto_region 11 with fail
      rw [← hw5.out]
      clear hw5 y1 yf1
      go_cut [] from 39 to 49 (fun wx => PK w ns hkNoCache mu 0 0 0 ag ia n k L wx)
      case first =>
        go_wp2_with fail
        refine (CkMust.out _ Q5.out.its.2).mono ?_
        rintro e w6 ⟨rfl, hbq⟩
        have Q6 : Hid (PK w ns hkNoCache false 0 0 0 ag ia n k L w6) := Q5.out.keep hbq
        clear hbq Q5
        cases hkMust
        · go_wp2_with fail
          refine (CkProxy.out _ Q6.out.its.2).mono ?_
          rintro e w7 ⟨rfl, hbq⟩
          have Q7 : Hid (PK w ns hkNoCache false 0 0 0 ag ia n k L w7) := Q6.out.keep hbq
          clear hbq Q6
          cases hkProxy
          · go_wp2_with fail
            refine (CkSMax.out _ Q7.out.its.2).mono ?_
            rintro e w8 ⟨rfl, hbq⟩
            have Q8 : Hid (PK w ns hkNoCache false 0 0 0 ag ia n k L w8) := Q7.out.keep hbq
            clear hbq Q7
            have HM8 : Hid (mu = hkSMax) := HMU.out
            have y2 := Q8.out.p.c2
            have yf := Q8.out.p.fr 2
            have Q9 : Hid (PK w ns hkNoCache hkSMax 0 0 0 ag ia n k L (w8.setCell ⟨w.heap.size + 1, 2, none⟩ (.bool hkSMax))) := Q8.out.set2 _
            go_wp2_with fail
            go_meet
            rw [HM8.out]
            exact Q9.out
          · have HM8 : Hid (mu = true) := HMU.out
            have y2 := Q7.out.p.c2
            have yf := Q7.out.p.fr 2
            have Q9 : Hid (PK w ns hkNoCache true 0 0 0 ag ia n k L (w7.setCell ⟨w.heap.size + 1, 2, none⟩ (.bool true))) := Q7.out.set2 _
            go_wp2_with fail
            go_meet
            rw [HM8.out]
            exact Q9.out
        · have HM8 : Hid (mu = true) := HMU.out
          have y2 := Q6.out.p.c2
          have yf := Q6.out.p.fr 2
          have Q9 : Hid (PK w ns hkNoCache true 0 0 0 ag ia n k L (w6.setCell ⟨w.heap.size + 1, 2, none⟩ (.bool true))) := Q6.out.set2 _
          go_wp2_with fail
          go_meet
          rw [HM8.out]
          exact Q9.out
      case rest =>
      have Q6 : Hid (PK w ns hkNoCache mu 0 0 0 ag ia n k L wc) := hcut
      clear hcut Q5 HMU CkMust CkProxy
      generalize wc = w6 at *
      try clear w5
      go_upto_block 0 with fail
      go_cut [] from 50 to 64 (fun wx => PK w ns hkNoCache mu li 0 0 ag ia n k L wx)
      case first =>
        go_wp2_with fail
        refine (CkSMax.out _ Q6.out.its.2).mono ?_
        rintro e w7 ⟨rfl, hbq⟩
        have Q7 : Hid (PK w ns hkNoCache mu 0 0 0 ag ia n k L w7) := Q6.out.keep hbq
        clear hbq Q6
        cases hkSMax
        · go_wp2_with fail
          refine (CkMax.out _ Q7.out.its.2).mono ?_
          rintro e w8 ⟨rfl, hbq⟩
          have Q8 : Hid (PK w ns hkNoCache mu 0 0 0 ag ia n k L w8) := Q7.out.keep hbq
          clear hbq Q7
          cases hkMax
          · have HL : Hid (li = xd) := HLI.out
            go_wp2_with fail
            refine (HX.out _ Q8.out.b).mono ?_
            rintro e w9 ⟨rfl, hbq⟩
            have Q9 : Hid (PK w ns hkNoCache mu 0 0 0 ag ia n k L w9) := Q8.out.keep hbq
            clear hbq
            have y3 := Q9.out.p.c3
            have yf := Q9.out.p.fr 3
            have QA : Hid (PK w ns hkNoCache mu xd 0 0 ag ia n k L (w9.setCell ⟨w.heap.size + 1, 3, none⟩ (.int .i64 xd))) := Q9.out.set3 _
            go_wp2_with fail
            go_meet
            rw [HL.out]
            exact QA.out
          · have HL : Hid (li = skMax) := HLI.out
            go_wp2_with fail
            refine (SkMax.out _ Q8.out.its.2).mono ?_
            rintro e w9 ⟨rfl, hbq⟩
            have Q9 : Hid (PK w ns hkNoCache mu 0 0 0 ag ia n k L w9) := Q8.out.keep hbq
            clear hbq Q8
            have y3 := Q9.out.p.c3
            have yf := Q9.out.p.fr 3
            have QA : Hid (PK w ns hkNoCache mu skMax 0 0 ag ia n k L (w9.setCell ⟨w.heap.size + 1, 3, none⟩ (.int .i64 skMax))) := Q9.out.set3 _
            go_wp2_with fail
            go_meet
            rw [HL.out]
            exact QA.out
        · have HL : Hid (li = skSMax) := HLI.out
          go_wp2_with fail
          refine (SkSMax.out _ Q7.out.its.2).mono ?_
          rintro e w9 ⟨rfl, hbq⟩
          have Q9 : Hid (PK w ns hkNoCache mu 0 0 0 ag ia n k L w9) := Q7.out.keep hbq
          clear hbq Q7
          have y3 := Q9.out.p.c3
          have yf := Q9.out.p.fr 3
          have QA : Hid (PK w ns hkNoCache mu skSMax 0 0 ag ia n k L (w9.setCell ⟨w.heap.size + 1, 3, none⟩ (.int .i64 skSMax))) := Q9.out.set3 _
          go_wp2_with fail
          go_meet
          rw [HL.out]
          exact QA.out
      case rest =>
      have Q7 : Hid (PK w ns hkNoCache mu li 0 0 ag ia n k L wc) := hcut
      clear hcut Q6 HLI CkSMax CkMax SkMax SkSMax HX
      generalize wc = w7 at *
      try clear w6
      have y2 := Q7.out.p.c2
      cases mu
      · go_wp2_with fail
        clear y2
        refine (SkSwr.out _ Q7.out.its.2).mono ?_
        rintro e w8 ⟨rfl, hbq⟩
        have Q8 : Hid (PK w ns hkNoCache false li 0 0 ag ia n k L w8) := Q7.out.keep hbq
        clear hbq Q7
        have y4 := Q8.out.p.c4
        have yf := Q8.out.p.fr 4
        have Q9 : Hid (PK w ns hkNoCache false li skSwr 0 ag ia n k L (w8.setCell ⟨w.heap.size + 1, 4, none⟩ (.int .i64 skSwr))) := Q8.out.set4 _
        obtain ⟨w9, hw9⟩ : ∃ X, Hid (X = w8.setCell ⟨w.heap.size + 1, 4, none⟩ (.int .i64 skSwr)) := ⟨_, rfl⟩
        rw [← hw9.out] at Q9
        clear Q8
        go_upto_region 19 with fail
        rw [← hw9.out]
        clear hw9 y4 yf
        go_wp2_with fail
        refine (SkSie.out _ Q9.out.its.2).mono ?_
        rintro e w10 ⟨rfl, hbq⟩
        have QA : Hid (PK w ns hkNoCache false li skSwr 0 ag ia n k L w10) := Q9.out.keep hbq
        clear hbq Q9
        have y5 := QA.out.p.c5
        have yf := QA.out.p.fr 5
        have QB : Hid (PK w ns hkNoCache false li skSwr skSie ag ia n k L (w10.setCell ⟨w.heap.size + 1, 5, none⟩ (.int .i64 skSie))) := QA.out.set5 _
        obtain ⟨w11, hw11⟩ : ∃ X, Hid (X = w10.setCell ⟨w.heap.size + 1, 5, none⟩ (.int .i64 skSie)) := ⟨_, rfl⟩
        rw [← hw11.out] at QB
        clear QA
        go_upto_region 20 with fail
        rw [← hw11.out]
        clear hw11 y5 yf
        have zz := QB.out.done
        have z0 := QB.out.z.c0
        have z1 := QB.out.z.c1
        have z2 := QB.out.z.c2
        have z3 := QB.out.z.c3
        have z4 := QB.out.z.c4
        have z5 := QB.out.z.c5
        have z6 := QB.out.z.c6
        have zf0 := QB.out.z.fr 0
        have zf1 := QB.out.z.fr 1
        have zf2 := QB.out.z.fr 2
        have zf3 := QB.out.z.fr 3
        have zf4 := QB.out.z.fr 4
        have zf5 := QB.out.z.fr 5
        have zf6 := QB.out.z.fr 6
        have y0 := QB.out.p.c0
        have y1 := QB.out.p.c1
        have y2 := QB.out.p.c2
        have y3 := QB.out.p.c3
        have y4 := QB.out.p.c4
        have y5 := QB.out.p.c5
        have y6 := QB.out.p.c6
        have ZZ : Hid _ := zz
        clear zz
        go_wp2_with fail
        have r0 := ZZ.out.1.c0
        have r1 := ZZ.out.1.c1
        have r2 := ZZ.out.1.c2
        have r3 := ZZ.out.1.c3
        have r4 := ZZ.out.1.c4
        have r5 := ZZ.out.1.c5
        have r6 := ZZ.out.1.c6
        exact bodyPost_ret (v := .agg #[.bool ns, .bool hkNoCache, .bool false, .int .i64 li, .int .i64 skSwr, .int .i64 skSie, .int .i64 ag]) (by simp [results, Tryz.results30, go_sem, r0, r1, r2, r3, r4, r5, r6]) rfl ⟨polV_ret (by rw [HPX.out]; rfl), ZZ.out.2⟩
      · go_upto_region 20 with fail
        clear y2
        have zz := Q7.out.done
        have z0 := Q7.out.z.c0
        have z1 := Q7.out.z.c1
        have z2 := Q7.out.z.c2
        have z3 := Q7.out.z.c3
        have z4 := Q7.out.z.c4
        have z5 := Q7.out.z.c5
        have z6 := Q7.out.z.c6
        have zf0 := Q7.out.z.fr 0
        have zf1 := Q7.out.z.fr 1
        have zf2 := Q7.out.z.fr 2
        have zf3 := Q7.out.z.fr 3
        have zf4 := Q7.out.z.fr 4
        have zf5 := Q7.out.z.fr 5
        have zf6 := Q7.out.z.fr 6
        have y0 := Q7.out.p.c0
        have y1 := Q7.out.p.c1
        have y2 := Q7.out.p.c2
        have y3 := Q7.out.p.c3
        have y4 := Q7.out.p.c4
        have y5 := Q7.out.p.c5
        have y6 := Q7.out.p.c6
        have ZZ : Hid _ := zz
        clear zz
        go_wp2_with fail
        have r0 := ZZ.out.1.c0
        have r1 := ZZ.out.1.c1
        have r2 := ZZ.out.1.c2
        have r3 := ZZ.out.1.c3
        have r4 := ZZ.out.1.c4
        have r5 := ZZ.out.1.c5
        have r6 := ZZ.out.1.c6
        exact bodyPost_ret (v := .agg #[.bool ns, .bool hkNoCache, .bool true, .int .i64 li, .int .i64 0, .int .i64 0, .int .i64 ag]) (by simp [results, Tryz.results30, go_sem, r0, r1, r2, r3, r4, r5, r6]) rfl ⟨polV_ret (by rw [HPX.out]; rfl), ZZ.out.2⟩
    · have HPX : Hid (PO = ⟨true, false, false, 0, 0, 0, ag⟩) := HP1.out hp
      have hd : decide (pc = 0) = false := by simpa using hp
      rw [hd]
      clear hd hp HP0 HP1
      have y0 := Q2.out.p.c0
      have yf := Q2.out.p.fr 0
      have Q3 : Hid (PK w true false false 0 0 0 ag ia n k L (w2.setCell ⟨w.heap.size + 1, 0, none⟩ (.bool true))) := Q2.out.set0 _
      obtain ⟨w3, hw3⟩ : ∃ X, Hid (X = w2.setCell ⟨w.heap.size + 1, 0, none⟩ (.bool true)) := ⟨_, rfl⟩
      rw [← hw3.out] at Q3
      clear Q2
      go_upto_region 8 with fail
      rw [← hw3.out]
      clear hw3 y0 yf
      have zz := Q3.out.done
      have z0 := Q3.out.z.c0
      have z1 := Q3.out.z.c1
      have z2 := Q3.out.z.c2
      have z3 := Q3.out.z.c3
      have z4 := Q3.out.z.c4
      have z5 := Q3.out.z.c5
      have z6 := Q3.out.z.c6
      have zf0 := Q3.out.z.fr 0
      have zf1 := Q3.out.z.fr 1
      have zf2 := Q3.out.z.fr 2
      have zf3 := Q3.out.z.fr 3
      have zf4 := Q3.out.z.fr 4
      have zf5 := Q3.out.z.fr 5
      have zf6 := Q3.out.z.fr 6
      have y0 := Q3.out.p.c0
      have y1 := Q3.out.p.c1
      have y2 := Q3.out.p.c2
      have y3 := Q3.out.p.c3
      have y4 := Q3.out.p.c4
      have y5 := Q3.out.p.c5
      have y6 := Q3.out.p.c6
      have ZZ : Hid _ := zz
      clear zz
      go_wp2_with fail
      have r0 := ZZ.out.1.c0
      have r1 := ZZ.out.1.c1
      have r2 := ZZ.out.1.c2
      have r3 := ZZ.out.1.c3
      have r4 := ZZ.out.1.c4
      have r5 := ZZ.out.1.c5
      have r6 := ZZ.out.1.c6
      exact bodyPost_ret (v := .agg #[.bool true, .bool false, .bool false, .int .i64 0, .int .i64 0, .int .i64 0, .int .i64 ag]) (by simp [results, Tryz.results30, go_sem, r0, r1, r2, r3, r4, r5, r6]) rfl ⟨polV_ret HPX.out, ZZ.out.2⟩
end Go.Proofs.YtgfbahjpaaanoaaGreatDoor
/-
  What MulTime's model and MulTime itself answer, for any two numbers: one contract a function and a case.
-/
namespace Go.Proofs.YtgfbahjpaaanoaaGreatDoor
open Go.ChangeShapes Go.WideShapes Go.ChangeAt Go.RowKit
set_option maxHeartbeats 400000 in
theorem implMul_bad (a b : Int) (h : a < 0 ∨ 1000000000000000 < a ∨ b < 0 ∨ 1000000000000000 < b) (w : World) :
    Calls Tryz.prog 75 #[.int .i64 a, .int .i64 b] w fun e w' => e = .returned (.agg #[.int .i64 3, .int .i64 0]) ∧ Below w.heap.size w w' := by
  by_cases c1 : a < 0
  · clear h
    go_enter Tryz.func75, Tryz.ntmps75
    go_wp2
    exact bodyPost_ret (v := .agg #[.int .i64 3, .int .i64 0]) (by simp [results, Tryz.results75, go_sem]) rfl ⟨rfl, (Below.refl _ _).alloc (Nat.le_refl _) _⟩
  · by_cases c2 : 1000000000000000 < a
    · clear h
      have d2 : decide (a ≤ 1000000000000000) = false := by simp; omega
      go_enter Tryz.func75, Tryz.ntmps75
      go_wp2
      exact bodyPost_ret (v := .agg #[.int .i64 3, .int .i64 0]) (by simp [results, Tryz.results75, go_sem]) rfl ⟨rfl, (Below.refl _ _).alloc (Nat.le_refl _) _⟩
    · have d2 : decide (a ≤ 1000000000000000) = true := by simp; omega
      by_cases c3 : b < 0
      · clear h
        go_enter Tryz.func75, Tryz.ntmps75
        go_wp2
        exact bodyPost_ret (v := .agg #[.int .i64 3, .int .i64 0]) (by simp [results, Tryz.results75, go_sem]) rfl ⟨rfl, (Below.refl _ _).alloc (Nat.le_refl _) _⟩
      · have c4 : 1000000000000000 < b := by omega
        have d4 : decide (b ≤ 1000000000000000) = false := by simp; omega
        clear h
        go_enter Tryz.func75, Tryz.ntmps75
        go_wp2
        exact bodyPost_ret (v := .agg #[.int .i64 3, .int .i64 0]) (by simp [results, Tryz.results75, go_sem]) rfl ⟨rfl, (Below.refl _ _).alloc (Nat.le_refl _) _⟩
set_option maxHeartbeats 400000 in
theorem implMul_zero (a : Int) (a0 : 0 ≤ a) (a1 : a ≤ 1000000000000000) (w : World) :
    Calls Tryz.prog 75 #[.int .i64 a, .int .i64 0] w fun e w' => e = .returned (.agg #[.int .i64 0, .int .i64 0]) ∧ Below w.heap.size w w' := by
  have d2 : decide (a ≤ 1000000000000000) = true := by simp; omega
  go_enter Tryz.func75, Tryz.ntmps75
  go_wp2
  exact bodyPost_ret (v := .agg #[.int .i64 0, .int .i64 0]) (by simp [results, Tryz.results75, go_sem]) rfl ⟨rfl, (Below.refl _ _).alloc (Nat.le_refl _) _⟩
set_option maxHeartbeats 400000 in
theorem implMul_over (a b : Int) (a0 : 0 ≤ a) (a1 : a ≤ 1000000000000000) (b0 : 0 < b) (b1 : b ≤ 1000000000000000) (h : 1000000000000000 / b < a) (w : World) :
    Calls Tryz.prog 75 #[.int .i64 a, .int .i64 b] w fun e w' => e = .returned (.agg #[.int .i64 0, .int .i64 1000000000000000]) ∧ Below w.heap.size w w' := by
  have d2 : decide (a ≤ 1000000000000000) = true := by simp; omega
  have d4 : decide (b ≤ 1000000000000000) = true := by simp; omega
  have hne : ¬ b = 0 := by omega
  have hn2 : (b != 0) = true := by simp; omega
  have d5 : decide (1000000000000000 / b < a) = true := by simpa using h
  go_enter Tryz.func75, Tryz.ntmps75
  go_wp2
  exact bodyPost_ret (v := .agg #[.int .i64 0, .int .i64 1000000000000000]) (by simp [results, Tryz.results75, go_sem]) rfl ⟨rfl, (Below.refl _ _).alloc (Nat.le_refl _) _⟩
set_option maxHeartbeats 400000 in
theorem implMul_under (a b : Int) (a0 : 0 ≤ a) (a1 : a ≤ 1000000000000000) (b0 : 0 < b) (b1 : b ≤ 1000000000000000) (h : ¬ 1000000000000000 / b < a) (hp : 0 ≤ a * b) (hm : a * b ≤ 1000000000000000) (w : World) :
    Calls Tryz.prog 75 #[.int .i64 a, .int .i64 b] w fun e w' => e = .returned (.agg #[.int .i64 0, .int .i64 (a * b)]) ∧ Below w.heap.size w w' := by
  have d2 : decide (a ≤ 1000000000000000) = true := by simp; omega
  have d4 : decide (b ≤ 1000000000000000) = true := by simp; omega
  have hne : ¬ b = 0 := by omega
  have hn2 : (b != 0) = true := by simp; omega
  have d5 : decide (1000000000000000 / b < a) = false := by simpa using h
  go_enter Tryz.func75, Tryz.ntmps75
  go_wp2
  exact bodyPost_ret (v := .agg #[.int .i64 0, .int .i64 (a * b)]) (by simp [results, Tryz.results75, go_sem]) rfl ⟨rfl, (Below.refl _ _).alloc (Nat.le_refl _) _⟩
end Go.Proofs.YtgfbahjpaaanoaaGreatDoor
/-
  The parts of PolicyOf.
-/
namespace Go.Proofs.YtgfbahjpaaanoaaGreatDoor
open Go.ChangeShapes Go.WideShapes Go.ChangeAt Go.RowKit Go.Sort
theorem ifieldV (c v : Int) (w : World) : (Instr.field 34 (.agg #[.int .i64 c, .int .i64 v]) 1).run Tryz.prog w = .ok (.int .i64 v) w := by kernel_rfl
set_option maxHeartbeats 1000000 in
theorem inThousandths_any (x : Int) (h0 : 0 ≤ x) (h1 : x ≤ 1000000000000) (w : World) : Calls Tryz.prog 50 #[.int .i64 x] w fun e w' => e = .returned (.int .i64 (x * 1000)) ∧ Below w.heap.size w w' := by
  have H := implMul_under x 1000 h0 (by omega) (by omega) (by omega) (by omega) (by omega) (by omega) w
  generalize x * 1000 = y at *
  have hf := ifieldV 0 y
  go_enter Tryz.func50, Tryz.ntmps50
  go_wp2_with fail
  refine H.mono ?_
  rintro e w1 ⟨rfl, hb⟩
  have HB : Hid (Below w.heap.size w w1) := hb
  clear hb H
  go_wp2_with fail
  go_ret
  exact ⟨rfl, HB.out⟩
theorem secD_dV (s : ByteArray) : secD s = dV s * 1000 ∧ 0 ≤ dV s ∧ dV s ≤ 2147483648 := by
  cases h : okD s
  · rw [secD, dV_no h, numD_no s h]; exact ⟨rfl, by omega, by omega⟩
  · have b := okD_bd s h
    rw [secD, dV_yes h, numD_yes s h]
    refine ⟨?_, b.1, b.2⟩
    unfold max0
    rw [if_neg (by omega)]
set_option maxHeartbeats 1000000 in
theorem spanIn_any (s : ByteArray) (w : World) : Calls Tryz.prog 24 #[.string s] w fun e w' => e = .returned (.int .i64 (secD s)) ∧ Below w.heap.size w w' := by
  have H := implDelta s w
  obtain ⟨e1, h0, h1⟩ := secD_dV s
  have H2 : Hid (∀ W, Calls Tryz.prog 50 #[.int .i64 (dV s)] W fun e w' => e = .returned (.int .i64 (secD s)) ∧ Below W.heap.size W w') := fun W => by
    rw [e1]; exact inThousandths_any (dV s) h0 (by omega) W
  clear e1 h0 h1
  generalize secD s = sd at *
  generalize dV s = dv at *
  generalize dC s = dc at *
  have hf := ifieldV dc dv
  go_enter Tryz.func24, Tryz.ntmps24
  go_wp2_with fail
  refine H.mono ?_
  rintro e w1 ⟨rfl, hb⟩
  have HB : Hid (Below w.heap.size w w1) := hb
  clear hb H
  go_wp2_with fail
  refine (H2.out _).mono ?_
  rintro e w2 ⟨rfl, hb2⟩
  have HB2 : Hid (Below w.heap.size w w2) := HB.out.trans (hb2.mono HB.out.size)
  clear hb2 HB
  go_wp2_with fail
  go_ret
  exact ⟨rfl, HB2.out⟩
theorem pd_of (s : ByteArray) : (parI s < 0 ∧ pdC s = 5) ∨ (0 ≤ parI s ∧ pdC s = 0 ∧ pdV s = parI s) := by
  by_cases h : parI s < 0
  · exact .inl ⟨h, by rw [pdC, if_pos h]⟩
  · exact .inr ⟨by omega, by rw [pdC, if_neg h], by rw [pdV, if_neg h]⟩
theorem firstV_off {x : ByteArray} {l : List Hdr} (h : firstB x l = false) : firstV x l = ⟨#[]⟩ := by
  cases hf : firstAt x l with
  | none => exact (firstV_none hf).1
  | some i =>
    have hil := firstAt_lt hf
    have := (firstV_some hf (List.getElem?_eq_getElem hil)).2
    rw [h] at this
    cases this
theorem parI_empty : parI ⟨#[]⟩ = -1 := parI_no fun h => absurd h (by decide)
/-- What is told by both dates. -/
theorem expX_imp {db : Bool} {e d : Int} (hdb : db = false → d < 0) : expX true db e d = if d < 0 ∨ e < 0 ∨ e ≤ d then 0 else (e - d) * 1000 := by
  rw [expX, if_neg (by decide)]
  by_cases c : db = false ∨ e < 0 ∨ d < 0
  · rw [if_pos c, if_pos]
    rcases c with c | c | c
    · exact .inl (hdb c)
    · exact .inr (.inl c)
    · exact .inl c
  · rw [if_neg c]
    have n1 : ¬ e < 0 := fun q => c (.inr (.inl q))
    have n2 : ¬ d < 0 := fun q => c (.inr (.inr q))
    by_cases c2 : e ≤ d
    · have r : (if d < 0 ∨ e < 0 ∨ e ≤ d then (0 : Int) else (e - d) * 1000) = 0 := if_pos (.inr (.inr c2))
      rw [r]
      unfold max0
      split <;> omega
    · have r : (if d < 0 ∨ e < 0 ∨ e ≤ d then (0 : Int) else (e - d) * 1000) = (e - d) * 1000 := if_neg (by omega)
      rw [r]
      unfold max0
      rw [if_neg (by omega)]
set_option maxRecDepth 100000 in
set_option maxHeartbeats 4000000 in
theorem lifeByDates_any (w : World) (a : Option Addr) (cap : Nat) (l : List Hdr) (h0 : headsC l = 0) (hp : num.PowIs w) (hi : HdsIn w a l) :
    Calls Tryz.prog 26 #[.slice a l.length cap] w fun e w' => e = .returned (.int .i64 (expD l)) ∧ Below w.heap.size w w' := by
  obtain ⟨h20, hz⟩ := first_sizes h0
  have H1 : Hid (∀ W, Below w.heap.size w W → Calls Tryz.prog 23 #[.slice a l.length cap, .string ⟨#[69, 120, 112, 105, 114, 101, 115]⟩] W fun e w' => e = .returned (.tuple #[.string (firstV expN l), .bool (firstB expN l)]) ∧ Below W.heap.size W w') := fun W hb => by
    have := firstValue_any W a cap l ⟨#[69, 120, 112, 105, 114, 101, 115]⟩ h20 hz (by decide) (hi.keep hb)
    rw [expI_low] at this
    exact this
  have H2 : Hid (∀ W, Below w.heap.size w W → Calls Tryz.prog 23 #[.slice a l.length cap, .string ⟨#[68, 97, 116, 101]⟩] W fun e w' => e = .returned (.tuple #[.string (firstV datN l), .bool (firstB datN l)]) ∧ Below W.heap.size W w') := fun W hb => by
    have := firstValue_any W a cap l ⟨#[68, 97, 116, 101]⟩ h20 hz (by decide) (hi.keep hb)
    rw [datI_low] at this
    exact this
  have HE : Hid (expD l = expX (firstB expN l) (firstB datN l) (parI (firstV expN l)) (parI (firstV datN l))) := rfl
  have HDB : Hid (firstB datN l = false → parI (firstV datN l) < 0) := fun h => by rw [firstV_off h, parI_empty]; decide
  clear hi hz h0 h20
  generalize expD l = xd at *
  generalize firstV expN l = ev at *
  generalize firstV datN l = dv at *
  generalize firstB expN l = eb at *
  generalize firstB datN l = db at *
  generalize l.length = n at *
  have HPE : Hid (∀ W, Below w.heap.size w W → Calls Tryz.prog 54 #[.string ev] W fun e w' => e = .returned (.agg #[.int .i64 (pdC ev), .int .i64 (pdV ev)]) ∧ Below W.heap.size W w') := fun W hb => implParseDate ev W (hp.below hb)
  have HPD : Hid (∀ W, Below w.heap.size w W → Calls Tryz.prog 54 #[.string dv] W fun e w' => e = .returned (.agg #[.int .i64 (pdC dv), .int .i64 (pdV dv)]) ∧ Below W.heap.size W w') := fun W hb => implParseDate dv W (hp.below hb)
  have be := parI_bd ev
  have bd := parI_bd dv
  have oe := pd_of ev
  have od := pd_of dv
  clear hp
  generalize parI ev = pe at *
  generalize parI dv = pd at *
  generalize pdC ev = ce at *
  generalize pdC dv = cd at *
  generalize pdV ev = ve at *
  generalize pdV dv = vd at *
  go_enter Tryz.func26, Tryz.ntmps26
  go_wp2_with fail
  refine (H1.out _ (Below.refl _ _)).mono ?_
  rintro e w1 ⟨rfl, hb1⟩
  have HB1 : Hid (Below w.heap.size w w1) := hb1
  clear hb1 H1
  cases eb
  · have HX : Hid (xd = -1) := HE.out
    clear HE
    go_wp2_with fail
    go_ret
    exact ⟨pret_int HX.out.symm, HB1.out⟩
  have HX : Hid (xd = if pd < 0 ∨ pe < 0 ∨ pe ≤ pd then 0 else (pe - pd) * 1000) := HE.out.trans (expX_imp HDB.out)
  have HO : Hid (((pe < 0 ∧ ce = 5) ∨ (0 ≤ pe ∧ ce = 0 ∧ ve = pe)) ∧ ((pd < 0 ∧ cd = 5) ∨ (0 ≤ pd ∧ cd = 0 ∧ vd = pd))) := ⟨oe, od⟩
  clear HE oe od
  go_wp2_with fail
  refine (H2.out _ HB1.out).mono ?_
  rintro e w2 ⟨rfl, hb2⟩
  have HB2 : Hid (Below w.heap.size w w2) := HB1.out.trans (hb2.mono HB1.out.size)
  clear hb2 H2 HB1
  go_wp2_with fail
  refine (HPD.out _ HB2.out).mono ?_
  rintro e w3 ⟨rfl, hb3⟩
  have HB3 : Hid (Below w.heap.size w w3) := HB2.out.trans (hb3.mono HB2.out.size)
  clear hb3 HB2 HPD
  go_wp2_with fail
  refine (HPE.out _ HB3.out).mono ?_
  rintro e w4 ⟨rfl, hb4⟩
  have HB4 : Hid (Below w.heap.size w w4) := HB3.out.trans (hb4.mono HB3.out.size)
  clear hb4 HB3 HPE
  have HBA : Hid (Below w.heap.size w ((w4.alloc (.cells #[.int .i64 cd, .int .i64 vd] 34)).alloc (.cells #[.int .i64 ce, .int .i64 ve] 34))) := (HB4.out.alloc HB4.out.size _).alloc (by have := HB4.out.size; simp; omega) _
  rcases HO.out.2 with ⟨d0, rfl⟩ | ⟨d0, rfl, rfl⟩
  · have HX0 : Hid (xd = 0) := HX.out.trans (if_pos (.inl d0))
    clear HX HO
    go_wp2_with fail
    go_ret
    exact ⟨pret_int HX0.out.symm, HBA.out⟩
  rcases HO.out.1 with ⟨e0, rfl⟩ | ⟨e0, rfl, rfl⟩
  · have HX0 : Hid (xd = 0) := HX.out.trans (if_pos (.inr (.inl e0)))
    clear HX HO
    go_wp2_with fail
    go_ret
    exact ⟨pret_int HX0.out.symm, HBA.out⟩
  by_cases hle : ve ≤ vd
  · have HX0 : Hid (xd = 0) := HX.out.trans (if_pos (.inr (.inr hle)))
    have hld : decide (ve ≤ vd) = true := by simpa using hle
    clear HX HO
    go_wp2_with fail
    go_ret
    exact ⟨pret_int HX0.out.symm, HBA.out⟩
  · have HX0 : Hid (xd = (ve - vd) * 1000) := HX.out.trans (if_neg (by omega))
    have hld : decide (ve ≤ vd) = false := by simpa using hle
    have hw1 : IntKind.i64.wrap (ve - vd) = ve - vd := by rw [IntKind.wrap_i64]; omega
    have H5 : Hid (∀ W, Calls Tryz.prog 50 #[.int .i64 (ve - vd)] W fun e w' => e = .returned (.int .i64 ((ve - vd) * 1000)) ∧ Below W.heap.size W w') := fun W => inThousandths_any (ve - vd) (by omega) (by omega) W
    clear HX HO
    generalize hq : (ve - vd) * 1000 = q at *
    go_wp2_with fail
    refine (H5.out _).mono ?_
    rintro e w5 ⟨rfl, hb5⟩
    have HB5 : Hid (Below w.heap.size w w5) := HBA.out.trans (hb5.mono HBA.out.size)
    clear hb5 HBA
    go_wp2_with fail
    go_ret
    exact ⟨pret_int (by rw [HX0.out]), HB5.out⟩
set_option maxHeartbeats 2000000 in
theorem withNoStore_any (b0 b1 b2 : Bool) (l s e g t : Int) (w : World) : Calls Tryz.prog 55 #[.agg #[.bool b0, .bool b1, .bool b2, .int .i64 l, .int .i64 s, .int .i64 e, .int .i64 g], .int .i64 t] w fun r w' => r = .returned (.agg #[.bool true, .bool b1, .bool b2, .int .i64 l, .int .i64 s, .int .i64 e, .int .i64 g]) ∧ Below w.heap.size w w' := by
  go_enter Tryz.func55, Tryz.ntmps55
  go_wp2
  refine bodyPost_ret (v := .agg #[.bool true, .bool b1, .bool b2, .int .i64 l, .int .i64 s, .int .i64 e, .int .i64 g]) (by simp [results, Tryz.results55, go_sem]) rfl ⟨rfl, ?_⟩
  have al := ((Below.refl w.heap.size w).alloc (Nat.le_refl _) (.cells #[.bool b0, .bool b1, .bool b2, .int .i64 l, .int .i64 s, .int .i64 e, .int .i64 g] 27))
  first | exact (((Below.refl w.heap.size w).alloc (Nat.le_refl _) _).alloc (by simp) _) | (repeat (first | exact Below.refl _ _ | refine Below.setCell ?_ (by simp) _ | refine Below.alloc ?_ (by simp) _ | refine Below.alloc ?_ (by simp; omega) _))
set_option maxHeartbeats 2000000 in
theorem withNoCache_any (b0 b1 b2 : Bool) (l s e g t : Int) (w : World) : Calls Tryz.prog 56 #[.agg #[.bool b0, .bool b1, .bool b2, .int .i64 l, .int .i64 s, .int .i64 e, .int .i64 g], .int .i64 t] w fun r w' => r = .returned (.agg #[.bool b0, .bool true, .bool b2, .int .i64 l, .int .i64 s, .int .i64 e, .int .i64 g]) ∧ Below w.heap.size w w' := by
  go_enter Tryz.func56, Tryz.ntmps56
  go_wp2
  refine bodyPost_ret (v := .agg #[.bool b0, .bool true, .bool b2, .int .i64 l, .int .i64 s, .int .i64 e, .int .i64 g]) (by simp [results, Tryz.results56, go_sem]) rfl ⟨rfl, ?_⟩
  have al := ((Below.refl w.heap.size w).alloc (Nat.le_refl _) (.cells #[.bool b0, .bool b1, .bool b2, .int .i64 l, .int .i64 s, .int .i64 e, .int .i64 g] 27))
  first | exact (((Below.refl w.heap.size w).alloc (Nat.le_refl _) _).alloc (by simp) _) | (repeat (first | exact Below.refl _ _ | refine Below.setCell ?_ (by simp) _ | refine Below.alloc ?_ (by simp) _ | refine Below.alloc ?_ (by simp; omega) _))
set_option maxHeartbeats 2000000 in
theorem withMust_any (b0 b1 b2 : Bool) (l s e g t : Int) (w : World) : Calls Tryz.prog 57 #[.agg #[.bool b0, .bool b1, .bool b2, .int .i64 l, .int .i64 s, .int .i64 e, .int .i64 g], .int .i64 t] w fun r w' => r = .returned (.agg #[.bool b0, .bool b1, .bool true, .int .i64 l, .int .i64 s, .int .i64 e, .int .i64 g]) ∧ Below w.heap.size w w' := by
  go_enter Tryz.func57, Tryz.ntmps57
  go_wp2
  refine bodyPost_ret (v := .agg #[.bool b0, .bool b1, .bool true, .int .i64 l, .int .i64 s, .int .i64 e, .int .i64 g]) (by simp [results, Tryz.results57, go_sem]) rfl ⟨rfl, ?_⟩
  have al := ((Below.refl w.heap.size w).alloc (Nat.le_refl _) (.cells #[.bool b0, .bool b1, .bool b2, .int .i64 l, .int .i64 s, .int .i64 e, .int .i64 g] 27))
  first | exact (((Below.refl w.heap.size w).alloc (Nat.le_refl _) _).alloc (by simp) _) | (repeat (first | exact Below.refl _ _ | refine Below.setCell ?_ (by simp) _ | refine Below.alloc ?_ (by simp) _ | refine Below.alloc ?_ (by simp; omega) _))
set_option maxHeartbeats 2000000 in
theorem withLife_any (b0 b1 b2 : Bool) (l s e g t : Int) (w : World) : Calls Tryz.prog 58 #[.agg #[.bool b0, .bool b1, .bool b2, .int .i64 l, .int .i64 s, .int .i64 e, .int .i64 g], .int .i64 t] w fun r w' => r = .returned (.agg #[.bool b0, .bool b1, .bool b2, .int .i64 t, .int .i64 s, .int .i64 e, .int .i64 g]) ∧ Below w.heap.size w w' := by
  go_enter Tryz.func58, Tryz.ntmps58
  go_wp2
  refine bodyPost_ret (v := .agg #[.bool b0, .bool b1, .bool b2, .int .i64 t, .int .i64 s, .int .i64 e, .int .i64 g]) (by simp [results, Tryz.results58, go_sem]) rfl ⟨rfl, ?_⟩
  have al := ((Below.refl w.heap.size w).alloc (Nat.le_refl _) (.cells #[.bool b0, .bool b1, .bool b2, .int .i64 l, .int .i64 s, .int .i64 e, .int .i64 g] 27))
  first | exact (((Below.refl w.heap.size w).alloc (Nat.le_refl _) _).alloc (by simp) _) | (repeat (first | exact Below.refl _ _ | refine Below.setCell ?_ (by simp) _ | refine Below.alloc ?_ (by simp) _ | refine Below.alloc ?_ (by simp; omega) _))
set_option maxHeartbeats 2000000 in
theorem withSharedLife_any (b0 b1 b2 : Bool) (l s e g t : Int) (w : World) : Calls Tryz.prog 59 #[.agg #[.bool b0, .bool b1, .bool b2, .int .i64 l, .int .i64 s, .int .i64 e, .int .i64 g], .int .i64 t] w fun r w' => r = .returned (.agg #[.bool b0, .bool b1, .bool true, .int .i64 t, .int .i64 s, .int .i64 e, .int .i64 g]) ∧ Below w.heap.size w w' := by
  go_enter Tryz.func59, Tryz.ntmps59
  go_wp2
  refine bodyPost_ret (v := .agg #[.bool b0, .bool b1, .bool true, .int .i64 t, .int .i64 s, .int .i64 e, .int .i64 g]) (by simp [results, Tryz.results59, go_sem]) rfl ⟨rfl, ?_⟩
  have al := ((Below.refl w.heap.size w).alloc (Nat.le_refl _) (.cells #[.bool b0, .bool b1, .bool b2, .int .i64 l, .int .i64 s, .int .i64 e, .int .i64 g] 27))
  first | exact (((Below.refl w.heap.size w).alloc (Nat.le_refl _) _).alloc (by simp) _) | (repeat (first | exact Below.refl _ _ | refine Below.setCell ?_ (by simp) _ | refine Below.alloc ?_ (by simp) _ | refine Below.alloc ?_ (by simp; omega) _))
set_option maxHeartbeats 2000000 in
theorem withSwr_any (b0 b1 b2 : Bool) (l s e g t : Int) (w : World) : Calls Tryz.prog 60 #[.agg #[.bool b0, .bool b1, .bool b2, .int .i64 l, .int .i64 s, .int .i64 e, .int .i64 g], .int .i64 t] w fun r w' => r = .returned (.agg #[.bool b0, .bool b1, .bool b2, .int .i64 l, .int .i64 (if b2 = true then s else t), .int .i64 e, .int .i64 g]) ∧ Below w.heap.size w w' := by
  cases b2
  · go_enter Tryz.func60, Tryz.ntmps60
    go_wp2
    refine bodyPost_ret (v := .agg #[.bool b0, .bool b1, .bool false, .int .i64 l, .int .i64 t, .int .i64 e, .int .i64 g]) (by simp [results, Tryz.results60, go_sem]) rfl ⟨rfl, ?_⟩
    have al := ((Below.refl w.heap.size w).alloc (Nat.le_refl _) (.cells #[.bool b0, .bool b1, .bool false, .int .i64 l, .int .i64 s, .int .i64 e, .int .i64 g] 27))
    first | exact (((Below.refl w.heap.size w).alloc (Nat.le_refl _) _).alloc (by simp) _) | (repeat (first | exact Below.refl _ _ | refine Below.setCell ?_ (by simp) _ | refine Below.alloc ?_ (by simp) _ | refine Below.alloc ?_ (by simp; omega) _))
  · go_enter Tryz.func60, Tryz.ntmps60
    go_wp2
    refine bodyPost_ret (v := .agg #[.bool b0, .bool b1, .bool true, .int .i64 l, .int .i64 s, .int .i64 e, .int .i64 g]) (by simp [results, Tryz.results60, go_sem]) rfl ⟨rfl, ?_⟩
    have al := ((Below.refl w.heap.size w).alloc (Nat.le_refl _) (.cells #[.bool b0, .bool b1, .bool true, .int .i64 l, .int .i64 s, .int .i64 e, .int .i64 g] 27))
    first | exact (((Below.refl w.heap.size w).alloc (Nat.le_refl _) _).alloc (by simp) _) | (repeat (first | exact Below.refl _ _ | refine Below.setCell ?_ (by simp) _ | refine Below.alloc ?_ (by simp) _ | refine Below.alloc ?_ (by simp; omega) _))
set_option maxHeartbeats 2000000 in
theorem withSie_any (b0 b1 b2 : Bool) (l s e g t : Int) (w : World) : Calls Tryz.prog 61 #[.agg #[.bool b0, .bool b1, .bool b2, .int .i64 l, .int .i64 s, .int .i64 e, .int .i64 g], .int .i64 t] w fun r w' => r = .returned (.agg #[.bool b0, .bool b1, .bool b2, .int .i64 l, .int .i64 s, .int .i64 (if b2 = true then e else t), .int .i64 g]) ∧ Below w.heap.size w w' := by
  cases b2
  · go_enter Tryz.func61, Tryz.ntmps61
    go_wp2
    refine bodyPost_ret (v := .agg #[.bool b0, .bool b1, .bool false, .int .i64 l, .int .i64 s, .int .i64 t, .int .i64 g]) (by simp [results, Tryz.results61, go_sem]) rfl ⟨rfl, ?_⟩
    have al := ((Below.refl w.heap.size w).alloc (Nat.le_refl _) (.cells #[.bool b0, .bool b1, .bool false, .int .i64 l, .int .i64 s, .int .i64 e, .int .i64 g] 27))
    first | exact (((Below.refl w.heap.size w).alloc (Nat.le_refl _) _).alloc (by simp) _) | (repeat (first | exact Below.refl _ _ | refine Below.setCell ?_ (by simp) _ | refine Below.alloc ?_ (by simp) _ | refine Below.alloc ?_ (by simp; omega) _))
  · go_enter Tryz.func61, Tryz.ntmps61
    go_wp2
    refine bodyPost_ret (v := .agg #[.bool b0, .bool b1, .bool true, .int .i64 l, .int .i64 s, .int .i64 e, .int .i64 g]) (by simp [results, Tryz.results61, go_sem]) rfl ⟨rfl, ?_⟩
    have al := ((Below.refl w.heap.size w).alloc (Nat.le_refl _) (.cells #[.bool b0, .bool b1, .bool true, .int .i64 l, .int .i64 s, .int .i64 e, .int .i64 g] 27))
    first | exact (((Below.refl w.heap.size w).alloc (Nat.le_refl _) _).alloc (by simp) _) | (repeat (first | exact Below.refl _ _ | refine Below.setCell ?_ (by simp) _ | refine Below.alloc ?_ (by simp) _ | refine Below.alloc ?_ (by simp; omega) _))
end Go.Proofs.YtgfbahjpaaanoaaGreatDoor
/-
  A policy told word by word, plainly.
-/
namespace Go.Proofs.YtgfbahjpaaanoaaGreatDoor
theorem readR_novalue {s : ByteArray} {r : Rec} (h : readR s = some r) (hn : r.has = false) : r.value = ⟨#[]⟩ := by
  unfold readR at h
  split at h
  · cases h
  · split at h
    · obtain rfl := Option.some.inj h
      rfl
    · split at h
      · obtain rfl := Option.some.inj h
        cases hn
      · split at h
        · obtain rfl := Option.some.inj h
          cases hn
        · cases h
theorem readP_novalue : ∀ (ps : List (List UInt8)) (L : List Rec), readP ps = some L → ∀ r ∈ L, r.has = false → r.value = ⟨#[]⟩
  | [], L, h, r, hr => by
    simp [readP] at h
    subst h
    simp at hr
  | p :: ps, L, h, r, hr => by
    rw [readP] at h
    split at h
    · exact readP_novalue ps L h r hr
    · split at h
      · cases h
      · rename_i q hq
        obtain ⟨M, hM, rfl⟩ := Option.map_eq_some_iff.1 h
        rcases List.mem_cons.1 hr with rfl | hr
        · exact readR_novalue hq
        · exact readP_novalue ps M hM r hr
theorem parse_novalue {s : ByteArray} {r : Rec} (h : r ∈ parseL s) : r.has = false → r.value = ⟨#[]⟩ := by
  unfold parseL at h
  split at h
  · simp at h
  · split at h
    · simp at h
    · rename_i L hL
      split at h
      · simp at h
      · exact readP_novalue _ L hL r h
theorem secD_empty : secD ⟨#[]⟩ = 0 := by
  rw [secD, numD_no _ (okD_short _ (by decide))]
  rfl
/-- What the program tells of a word that is there: the seconds of its value, whether it has one or not. -/
theorem secR_value {nm : ByteArray} {L : List Rec} {k : Nat} {r : Rec} (hv : ∀ r ∈ L, r.has = false → r.value = ⟨#[]⟩) (h : findR nm 0 L = (k : Int)) (hr : L[k]? = some r) : secR nm L = secD r.value := by
  rw [secR_at h hr]
  cases hh : r.has
  · rw [hv r (List.mem_of_getElem? hr) hh, secD_empty]; rfl
  · rfl
def kName : Nat → ByteArray
  | 0 => kNoStore
  | 1 => kPrivate
  | 2 => kNoCache
  | 3 => kMust
  | 4 => kProxy
  | 5 => kMax
  | 6 => kSMax
  | 7 => kSwr
  | _ => kSie
def turnP : Nat → Pol → Int → Pol
  | 0, p, _ => { p with b0 := true }
  | 1, p, _ => { p with b0 := true }
  | 2, p, _ => { p with b1 := true }
  | 3, p, _ => { p with b2 := true }
  | 4, p, _ => { p with b2 := true }
  | 5, p, t => { p with l := t }
  | 6, p, t => { p with b2 := true, l := t }
  | 7, p, t => { p with s := if p.b2 = true then p.s else t }
  | _, p, t => { p with e := if p.b2 = true then p.e else t }
def stepP (L : List Rec) (k : Nat) (p : Pol) : Pol := if hasR (kName k) L = true then turnP k p (secR (kName k) L) else p
def foldP (L : List Rec) (p : Pol) : Nat → Pol
  | 0 => p
  | k + 1 => stepP L k (foldP L p k)
theorem secR_no {nm : ByteArray} {L : List Rec} (h : hasR nm L = false) : secR nm L = 0 := secR_none (by
  simp only [hasR, decide_eq_false_iff_not] at h
  omega)
section
variable (L : List Rec) (b0 b1 b2 : Bool) (l s e g : Int)
theorem step0 : stepP L 0 ⟨b0, b1, b2, l, s, e, g⟩ = ⟨(b0 || hasR kNoStore L), b1, b2, l, s, e, g⟩ := by
  show (if hasR kNoStore L = true then turnP 0 ⟨b0, b1, b2, l, s, e, g⟩ (secR kNoStore L) else ⟨b0, b1, b2, l, s, e, g⟩) = _
  cases hasR kNoStore L <;> simp [turnP]
theorem step1 : stepP L 1 ⟨b0, b1, b2, l, s, e, g⟩ = ⟨(b0 || hasR kPrivate L), b1, b2, l, s, e, g⟩ := by
  show (if hasR kPrivate L = true then turnP 1 ⟨b0, b1, b2, l, s, e, g⟩ (secR kPrivate L) else ⟨b0, b1, b2, l, s, e, g⟩) = _
  cases hasR kPrivate L <;> simp [turnP]
theorem step2 : stepP L 2 ⟨b0, b1, b2, l, s, e, g⟩ = ⟨b0, (b1 || hasR kNoCache L), b2, l, s, e, g⟩ := by
  show (if hasR kNoCache L = true then turnP 2 ⟨b0, b1, b2, l, s, e, g⟩ (secR kNoCache L) else ⟨b0, b1, b2, l, s, e, g⟩) = _
  cases hasR kNoCache L <;> simp [turnP]
theorem step3 : stepP L 3 ⟨b0, b1, b2, l, s, e, g⟩ = ⟨b0, b1, (b2 || hasR kMust L), l, s, e, g⟩ := by
  show (if hasR kMust L = true then turnP 3 ⟨b0, b1, b2, l, s, e, g⟩ (secR kMust L) else ⟨b0, b1, b2, l, s, e, g⟩) = _
  cases hasR kMust L <;> simp [turnP]
theorem step4 : stepP L 4 ⟨b0, b1, b2, l, s, e, g⟩ = ⟨b0, b1, (b2 || hasR kProxy L), l, s, e, g⟩ := by
  show (if hasR kProxy L = true then turnP 4 ⟨b0, b1, b2, l, s, e, g⟩ (secR kProxy L) else ⟨b0, b1, b2, l, s, e, g⟩) = _
  cases hasR kProxy L <;> simp [turnP]
theorem step5 : stepP L 5 ⟨b0, b1, b2, l, s, e, g⟩ = ⟨b0, b1, b2, (if hasR kMax L = true then secR kMax L else l), s, e, g⟩ := by
  show (if hasR kMax L = true then turnP 5 ⟨b0, b1, b2, l, s, e, g⟩ (secR kMax L) else ⟨b0, b1, b2, l, s, e, g⟩) = _
  cases hasR kMax L <;> simp [turnP]
theorem step6 : stepP L 6 ⟨b0, b1, b2, l, s, e, g⟩ = ⟨b0, b1, (b2 || hasR kSMax L), (if hasR kSMax L = true then secR kSMax L else l), s, e, g⟩ := by
  show (if hasR kSMax L = true then turnP 6 ⟨b0, b1, b2, l, s, e, g⟩ (secR kSMax L) else ⟨b0, b1, b2, l, s, e, g⟩) = _
  cases hasR kSMax L <;> simp [turnP]
theorem step7 : stepP L 7 ⟨b0, b1, b2, l, s, e, g⟩ = ⟨b0, b1, b2, l, (if hasR kSwr L = true then (if b2 = true then s else secR kSwr L) else s), e, g⟩ := by
  show (if hasR kSwr L = true then turnP 7 ⟨b0, b1, b2, l, s, e, g⟩ (secR kSwr L) else ⟨b0, b1, b2, l, s, e, g⟩) = _
  cases hasR kSwr L <;> simp [turnP]
theorem step8 : stepP L 8 ⟨b0, b1, b2, l, s, e, g⟩ = ⟨b0, b1, b2, l, s, (if hasR kSie L = true then (if b2 = true then e else secR kSie L) else e), g⟩ := by
  show (if hasR kSie L = true then turnP 8 ⟨b0, b1, b2, l, s, e, g⟩ (secR kSie L) else ⟨b0, b1, b2, l, s, e, g⟩) = _
  cases hasR kSie L <;> simp [turnP]
end
theorem fold_all (L : List Rec) (x g : Int) : foldP L ⟨false, false, false, x, 0, 0, g⟩ 9 = ⟨hasR kNoStore L || hasR kPrivate L, hasR kNoCache L, mustR L, lifeR L x, if mustR L = true then 0 else secR kSwr L, if mustR L = true then 0 else secR kSie L, g⟩ := by
  have z1 : hasR kSwr L = false → secR kSwr L = 0 := secR_no
  have z2 : hasR kSie L = false → secR kSie L = 0 := secR_no
  show stepP L 8 (stepP L 7 (stepP L 6 (stepP L 5 (stepP L 4 (stepP L 3 (stepP L 2 (stepP L 1 (stepP L 0 ⟨false, false, false, x, 0, 0, g⟩)))))))) = _
  rw [step0, step1, step2, step3, step4, step5, step6, step7, step8]
  have em : ((false || hasR kMust L) || hasR kProxy L || hasR kSMax L) = mustR L := by rw [Bool.false_or]; rfl
  rw [em, Bool.false_or, Bool.false_or]
  generalize mustR L = mu
  congr 1
  · cases h : hasR kSwr L
    · rw [z1 h]; simp
    · simp
  · cases h : hasR kSie L
    · rw [z2 h]; simp
    · simp
theorem pol_ok {l : List Hdr} (h : parseC (underT ccN l) = 0) : polOf l = foldP (parseL (underT ccN l)) ⟨false, false, false, expD l, 0, 0, ageD l⟩ 9 := by
  rw [fold_all, polOf, if_pos h]
theorem pol_bad {l : List Hdr} (h : ¬ parseC (underT ccN l) = 0) : polOf l = ⟨true, false, false, 0, 0, 0, ageD l⟩ := by rw [polOf, if_neg h]
/-- A line that is not there is told as an empty one. -/
theorem age_first (l : List Hdr) : ageD l = secD (firstV ageN l) := by
  rw [ageD]
  cases h : firstB ageN l
  · have : firstV ageN l = ⟨#[]⟩ := by
      cases hf : firstAt ageN l with
      | none => exact (firstV_none hf).1
      | some i =>
        have := (firstV_some hf (List.getElem?_eq_getElem (firstAt_lt hf))).2
        rw [h] at this
        cases this
    rw [this, secD_empty]; rfl
  · rfl
noncomputable def polR (l : List Hdr) : Pol := if headsC l = 0 then polOf l else ⟨false, false, false, 0, 0, 0, 0⟩
end Go.Proofs.YtgfbahjpaaanoaaGreatDoor
/-
  PolicyOf: the model's answer; eight cells of a result.
-/
namespace Go.Proofs.YtgfbahjpaaanoaaGreatDoor
open Go.ChangeShapes Go.WideShapes Go.ChangeAt Go.RowKit Go.Sort
theorem Z8.done {w X : World} {u0 u1 u2 u3 u4 u5 u6 u7 : Value} (k : Z8 X w.heap.size u0 u1 u2 u3 u4 u5 u6 u7) (hb : Below w.heap.size w X) (c : Int) (b0 b1 b2 : Bool) (l s e g : Int) : Z8 ((((((((X.setCell ⟨w.heap.size, 0, none⟩ (.int .i64 c)).setCell ⟨w.heap.size, 1, none⟩ (.bool b0)).setCell ⟨w.heap.size, 2, none⟩ (.bool b1)).setCell ⟨w.heap.size, 3, none⟩ (.bool b2)).setCell ⟨w.heap.size, 4, none⟩ (.int .i64 l)).setCell ⟨w.heap.size, 5, none⟩ (.int .i64 s)).setCell ⟨w.heap.size, 6, none⟩ (.int .i64 e)).setCell ⟨w.heap.size, 7, none⟩ (.int .i64 g)) w.heap.size (.int .i64 c) (.bool b0) (.bool b1) (.bool b2) (.int .i64 l) (.int .i64 s) (.int .i64 e) (.int .i64 g) ∧ Below w.heap.size w ((((((((X.setCell ⟨w.heap.size, 0, none⟩ (.int .i64 c)).setCell ⟨w.heap.size, 1, none⟩ (.bool b0)).setCell ⟨w.heap.size, 2, none⟩ (.bool b1)).setCell ⟨w.heap.size, 3, none⟩ (.bool b2)).setCell ⟨w.heap.size, 4, none⟩ (.int .i64 l)).setCell ⟨w.heap.size, 5, none⟩ (.int .i64 s)).setCell ⟨w.heap.size, 6, none⟩ (.int .i64 e)).setCell ⟨w.heap.size, 7, none⟩ (.int .i64 g)) :=
  ⟨(((((((k.set0 _).set1 _).set2 _).set3 _).set4 _).set5 _).set6 _).set7 _, (((((((hb.setCell (Nat.le_refl _) _).setCell (Nat.le_refl _) _).setCell (Nat.le_refl _) _).setCell (Nat.le_refl _) _).setCell (Nat.le_refl _) _).setCell (Nat.le_refl _) _).setCell (Nat.le_refl _) _).setCell (Nat.le_refl _) _⟩
def polRV (c : Int) (q : Pol) : Value := .agg #[.int .i64 c, .bool q.b0, .bool q.b1, .bool q.b2, .int .i64 q.l, .int .i64 q.s, .int .i64 q.e, .int .i64 q.g]
theorem polR_bad {l : List Hdr} (h : ¬ headsC l = 0) : polR l = ⟨false, false, false, 0, 0, 0, 0⟩ := by rw [polR, if_neg h]
theorem polR_ok {l : List Hdr} (h : headsC l = 0) : polR l = polOf l := by rw [polR, if_pos h]
theorem polRV_ret {d c : Int} {q : Pol} {b0 b1 b2 : Bool} {l s e g : Int} (h0 : d = c) (h : q = ⟨b0, b1, b2, l, s, e, g⟩) : Ending.returned (.agg #[.int .i64 c, .bool b0, .bool b1, .bool b2, .int .i64 l, .int .i64 s, .int .i64 e, .int .i64 g]) = .returned (polRV d q) := by rw [h, h0]; rfl
set_option maxRecDepth 100000 in
set_option maxHeartbeats 4000000 in
theorem specPolicy_any (w : World) (a : Option Addr) (cap : Nat) (l : List Hdr) (hl : l.length ≤ 1048576) (hi : HdsIn w a l) :
    Calls Tryz.prog 8 #[.slice a l.length cap] w fun e w' => e = .returned (polRV (headsC l) (polR l)) ∧ Below w.heap.size w w' := by
  have HA : Hid (∀ W, Below w.heap.size w W → Calls Tryz.prog 29 #[.slice a l.length cap] W fun e w' => e = .returned (.int .i64 (headsC l)) ∧ Below W.heap.size W w') := fun W hb => specHFault_any W a cap l hl (hi.keep hb)
  have HZ0 : Hid (Z8 (w.alloc (.cells #[.int .i64 0, .bool false, .bool false, .bool false, .int .i64 0, .int .i64 0, .int .i64 0, .int .i64 0] 29)) w.heap.size (.int .i64 0) (.bool false) (.bool false) (.bool false) (.int .i64 0) (.int .i64 0) (.int .i64 0) (.int .i64 0)) := Z8.new w _ _ _ _ _ _ _ _ _
  have HB0 : Hid (Below w.heap.size w (w.alloc (.cells #[.int .i64 0, .bool false, .bool false, .bool false, .int .i64 0, .int .i64 0, .int .i64 0, .int .i64 0] 29))) := (Below.refl _ _).alloc (Nat.le_refl _) _
  by_cases h0 : headsC l = 0
  · have HP : Hid (∀ W, Below w.heap.size w W → Calls Tryz.prog 30 #[.slice a l.length cap] W fun e w' => e = .returned (polV (polOf l)) ∧ Below W.heap.size W w') := fun W hb => l6Policy_any W a cap l h0 (hi.keep hb)
    rw [h0] at HA ⊢
    have HR : Hid (polR l = polOf l) := polR_ok h0
    clear hi h0
    generalize polR l = pr at *
    generalize polOf l = po at *
    obtain ⟨b0, b1, b2, x3, x4, x5, x6⟩ := po
    have HP2 : Hid (∀ W, Below w.heap.size w W → Calls Tryz.prog 30 #[.slice a l.length cap] W fun e w' => e = .returned (.agg #[.bool b0, .bool b1, .bool b2, .int .i64 x3, .int .i64 x4, .int .i64 x5, .int .i64 x6]) ∧ Below W.heap.size W w') := HP.out
    clear HP
    generalize l.length = n at *
    go_enter Tryz.func8, Tryz.ntmps8
    go_wp2_with fail
    refine (HA.out _ HB0.out).mono ?_
    rintro e w1 ⟨rfl, hb1⟩
    have HB1 : Hid (Below w.heap.size w w1) := HB0.out.trans (hb1.mono HB0.out.size)
    have HZ1 : Hid (Z8 w1 w.heap.size (.int .i64 0) (.bool false) (.bool false) (.bool false) (.int .i64 0) (.int .i64 0) (.int .i64 0) (.int .i64 0)) := HZ0.out.keep hb1
    clear hb1 HB0 HZ0 HA
    go_wp2_with fail
    refine (HP2.out _ HB1.out).mono ?_
    rintro e w2 ⟨rfl, hb2⟩
    have HB2 : Hid (Below w.heap.size w w2) := HB1.out.trans (hb2.mono HB1.out.size)
    have HZ2 : Hid (Z8 w2 w.heap.size (.int .i64 0) (.bool false) (.bool false) (.bool false) (.int .i64 0) (.int .i64 0) (.int .i64 0) (.int .i64 0)) := HZ1.out.keep hb2
    clear hb2 HB1 HZ1 HP2
    have ZZ : Hid _ := HZ2.out.done HB2.out 0 b0 b1 b2 x3 x4 x5 x6
    have z0 := HZ2.out.c0
    have z1 := HZ2.out.c1
    have z2 := HZ2.out.c2
    have z3 := HZ2.out.c3
    have z4 := HZ2.out.c4
    have z5 := HZ2.out.c5
    have z6 := HZ2.out.c6
    have z7 := HZ2.out.c7
    have zf0 := HZ2.out.fr 0
    have zf1 := HZ2.out.fr 1
    have zf2 := HZ2.out.fr 2
    have zf3 := HZ2.out.fr 3
    have zf4 := HZ2.out.fr 4
    have zf5 := HZ2.out.fr 5
    have zf6 := HZ2.out.fr 6
    have zf7 := HZ2.out.fr 7
    go_wp2_with fail
    have r0 := ZZ.out.1.c0
    have r1 := ZZ.out.1.c1
    have r2 := ZZ.out.1.c2
    have r3 := ZZ.out.1.c3
    have r4 := ZZ.out.1.c4
    have r5 := ZZ.out.1.c5
    have r6 := ZZ.out.1.c6
    have r7 := ZZ.out.1.c7
    exact bodyPost_ret (v := .agg #[.int .i64 0, .bool b0, .bool b1, .bool b2, .int .i64 x3, .int .i64 x4, .int .i64 x5, .int .i64 x6]) (by simp [results, Tryz.results8, go_sem, r0, r1, r2, r3, r4, r5, r6, r7]) rfl ⟨polRV_ret rfl HR.out, ZZ.out.2⟩
  · have HR : Hid (polR l = ⟨false, false, false, 0, 0, 0, 0⟩) := polR_bad h0
    clear hi
    generalize polR l = pr at *
    generalize headsC l = hc at *
    generalize l.length = n at *
    go_enter Tryz.func8, Tryz.ntmps8
    go_wp2_with fail
    refine (HA.out _ HB0.out).mono ?_
    rintro e w2 ⟨rfl, hb1⟩
    have HB2 : Hid (Below w.heap.size w w2) := HB0.out.trans (hb1.mono HB0.out.size)
    have HZ2 : Hid (Z8 w2 w.heap.size (.int .i64 0) (.bool false) (.bool false) (.bool false) (.int .i64 0) (.int .i64 0) (.int .i64 0) (.int .i64 0)) := HZ0.out.keep hb1
    clear hb1 HB0 HZ0 HA
    have ZZ : Hid _ := HZ2.out.done HB2.out hc false false false 0 0 0 0
    have z0 := HZ2.out.c0
    have z1 := HZ2.out.c1
    have z2 := HZ2.out.c2
    have z3 := HZ2.out.c3
    have z4 := HZ2.out.c4
    have z5 := HZ2.out.c5
    have z6 := HZ2.out.c6
    have z7 := HZ2.out.c7
    have zf0 := HZ2.out.fr 0
    have zf1 := HZ2.out.fr 1
    have zf2 := HZ2.out.fr 2
    have zf3 := HZ2.out.fr 3
    have zf4 := HZ2.out.fr 4
    have zf5 := HZ2.out.fr 5
    have zf6 := HZ2.out.fr 6
    have zf7 := HZ2.out.fr 7
    go_wp2_with fail
    have r0 := ZZ.out.1.c0
    have r1 := ZZ.out.1.c1
    have r2 := ZZ.out.1.c2
    have r3 := ZZ.out.1.c3
    have r4 := ZZ.out.1.c4
    have r5 := ZZ.out.1.c5
    have r6 := ZZ.out.1.c6
    have r7 := ZZ.out.1.c7
    exact bodyPost_ret (v := .agg #[.int .i64 hc, .bool false, .bool false, .bool false, .int .i64 0, .int .i64 0, .int .i64 0, .int .i64 0]) (by simp [results, Tryz.results8, go_sem, r0, r1, r2, r3, r4, r5, r6, r7]) rfl ⟨polRV_ret rfl HR.out, ZZ.out.2⟩
set_option maxRecDepth 100000 in
set_option maxHeartbeats 2000000 in
theorem eqPolicy_same (b0 b1 b2 : Bool) (l s e g : Int) (w : World) : Calls Tryz.prog 41 #[.agg #[.bool b0, .bool b1, .bool b2, .int .i64 l, .int .i64 s, .int .i64 e, .int .i64 g], .agg #[.bool b0, .bool b1, .bool b2, .int .i64 l, .int .i64 s, .int .i64 e, .int .i64 g]] w fun r w' => r = .returned (.bool true) ∧ Below w.heap.size w w' := by
  go_enter Tryz.func41, Tryz.ntmps41
  go_wp2
  go_ret
  exact ⟨rfl, ((Below.refl _ _).alloc (Nat.le_refl _) _).alloc (by simp) _⟩
set_option maxRecDepth 100000 in
set_option maxHeartbeats 2000000 in
theorem eqPolicyResult_same (c : Int) (q : Pol) (w : World) : Calls Tryz.prog 16 #[polRV c q, polRV c q] w fun r w' => r = .returned (.bool true) ∧ Below w.heap.size w w' := by
  obtain ⟨b0, b1, b2, l, s, e, g⟩ := q
  show Calls Tryz.prog 16 #[.agg #[.int .i64 c, .bool b0, .bool b1, .bool b2, .int .i64 l, .int .i64 s, .int .i64 e, .int .i64 g], .agg #[.int .i64 c, .bool b0, .bool b1, .bool b2, .int .i64 l, .int .i64 s, .int .i64 e, .int .i64 g]] w _
  have H := fun W => eqPolicy_same b0 b1 b2 l s e g W
  go_enter Tryz.func16, Tryz.ntmps16
  go_wp2_with fail
  refine (H _).mono ?_
  rintro r w1 ⟨rfl, hb⟩
  have KB : Hid (Below w.heap.size w w1) := (((Below.refl w.heap.size w).alloc (Nat.le_refl _) _).alloc (by simp) _).trans (hb.mono (by simp; omega))
  clear hb H
  go_wp2_with fail
  go_ret
  exact ⟨rfl, KB.out⟩
end Go.Proofs.YtgfbahjpaaanoaaGreatDoor
/-
  StoreLife, on both sides.
-/
namespace Go.Proofs.YtgfbahjpaaanoaaGreatDoor
open Go.ChangeShapes Go.WideShapes Go.ChangeAt Go.RowKit
/-- Two cells that may be written. -/
structure IR (w : World) (b : Nat) (v0 v1 : Value) : Prop where
  c0 : w.cell? ⟨b, 0, none⟩ = some v0
  c1 : w.cell? ⟨b, 1, none⟩ = some v1
  fr : ∀ o, w.frozen? ⟨b, o, none⟩ = false
  lt : b < w.heap.size
theorem IR.keep {w w' : World} {b : Nat} {v0 v1 : Value} (k : IR w b v0 v1) (hb : Below w.heap.size w w') : IR w' b v0 v1 :=
  ⟨by rw [hb.cell (p := ⟨b, 0, none⟩) k.lt]; exact k.c0, by rw [hb.cell (p := ⟨b, 1, none⟩) k.lt]; exact k.c1, fun o => by rw [hb.frozen (p := ⟨b, o, none⟩) k.lt]; exact k.fr o, Nat.lt_of_lt_of_le k.lt hb.size⟩
theorem IR.new (w : World) (v0 v1 : Value) (t : TypeId) : IR (w.alloc (.cells #[v0, v1] t)) w.heap.size v0 v1 :=
  ⟨by rw [World.cell?_alloc_mark]; rfl, by rw [World.cell?_alloc_mark]; rfl, fun o => by have e := heap_alloc_new w (.cells #[v0, v1] t); unfold World.frozen?; rw [e]; simp, by simp⟩
def statB (st : Int) : Bool := decide (st = 200) || decide (st = 404) || decide (st = 410)
/-- Whether an answer may be kept. -/
def keepB (b0 : Bool) (l st : Int) : Bool := !b0 && statB st && !(decide (st = 200) && decide (l = -1))
def lifeX (l ng : Int) : Int := if l = -1 then ng else l
def rangeB (st ng : Int) : Bool := decide (200 ≤ st) && decide (st ≤ 599) && timeB ng
def lifeC (b0 : Bool) (l s e g st ng : Int) : Int := if polB l s e g = true then (if rangeB st ng = true then (if keepB b0 l st = true then 0 else 4) else 3) else 3
def lifeV (b0 : Bool) (l s e g st ng : Int) : Int := if lifeC b0 l s e g st ng = 0 then lifeX l ng else 0
theorem life_pol {b0 : Bool} {l s e g st ng : Int} (h : polB l s e g = false) : lifeC b0 l s e g st ng = 3 ∧ lifeV b0 l s e g st ng = 0 := by
  have c : lifeC b0 l s e g st ng = 3 := by rw [lifeC, if_neg (by rw [h]; decide)]
  exact ⟨c, by rw [lifeV, c, if_neg (by decide)]⟩
theorem life_range {b0 : Bool} {l s e g st ng : Int} (h : polB l s e g = true) (h2 : rangeB st ng = false) : lifeC b0 l s e g st ng = 3 ∧ lifeV b0 l s e g st ng = 0 := by
  have c : lifeC b0 l s e g st ng = 3 := by rw [lifeC, if_pos h, if_neg (by rw [h2]; decide)]
  exact ⟨c, by rw [lifeV, c, if_neg (by decide)]⟩
theorem life_none {b0 : Bool} {l s e g st ng : Int} (h : polB l s e g = true) (h2 : rangeB st ng = true) (h3 : keepB b0 l st = false) : lifeC b0 l s e g st ng = 4 ∧ lifeV b0 l s e g st ng = 0 := by
  have c : lifeC b0 l s e g st ng = 4 := by rw [lifeC, if_pos h, if_pos h2, if_neg (by rw [h3]; decide)]
  exact ⟨c, by rw [lifeV, c, if_neg (by decide)]⟩
theorem life_ok {b0 : Bool} {l s e g st ng : Int} (h : polB l s e g = true) (h2 : rangeB st ng = true) (h3 : keepB b0 l st = true) : lifeC b0 l s e g st ng = 0 ∧ lifeV b0 l s e g st ng = lifeX l ng := by
  have c : lifeC b0 l s e g st ng = 0 := by rw [lifeC, if_pos h, if_pos h2, if_pos h3]
  exact ⟨c, by rw [lifeV, if_pos c]⟩
theorem lifeX_told {l ng : Int} (h : ¬ l = -1) : lifeX l ng = l := by rw [lifeX, if_neg h]
theorem lifeX_not {ng : Int} : lifeX (-1) ng = ng := by rw [lifeX, if_pos rfl]
theorem mayKeep_any (st : Int) (w : World) : Calls Tryz.prog 35 #[.int .i64 st] w fun r w' => r = .returned (.bool (statB st)) ∧ w' = w := by
  by_cases c1 : st = 200
  · subst c1
    have e : statB 200 = true := by decide
    rw [e]
    go_enter Tryz.func35, Tryz.ntmps35
    go_wp2
    go_ret
    exact ⟨rfl, rfl⟩
  by_cases c2 : st = 404
  · subst c2
    have e : statB 404 = true := by decide
    rw [e]
    go_enter Tryz.func35, Tryz.ntmps35
    go_wp2
    go_ret
    exact ⟨rfl, rfl⟩
  by_cases c3 : st = 410
  · subst c3
    have e : statB 410 = true := by decide
    rw [e]
    go_enter Tryz.func35, Tryz.ntmps35
    go_wp2
    go_ret
    exact ⟨rfl, rfl⟩
  have e : statB st = false := by simp [statB, c1, c2, c3]
  rw [e]
  have d1 : (st == 200) = false := by simpa using c1
  have d2 : (st == 404) = false := by simpa using c2
  have d3 : (st == 410) = false := by simpa using c3
  go_enter Tryz.func35, Tryz.ntmps35
  go_wp2
  go_ret
  exact ⟨rfl, rfl⟩
theorem l1In_all (x lo hi : Int) (w : World) : Calls Tryz.prog 36 #[.int .i64 x, .int .i64 lo, .int .i64 hi] w fun r w' => r = .returned (.bool (decide (lo ≤ x) && decide (x ≤ hi))) ∧ w' = w := by
  by_cases c1 : lo ≤ x
  · by_cases c2 : x ≤ hi
    · have e : (decide (lo ≤ x) && decide (x ≤ hi)) = true := by simp [c1, c2]
      rw [e]
      have d2 : decide (x ≤ hi) = true := by simp [c2]
      go_enter Tryz.func36, Tryz.ntmps36
      go_wp2
      go_ret
      exact ⟨rfl, rfl⟩
    · have e : (decide (lo ≤ x) && decide (x ≤ hi)) = false := by simp [c2]
      rw [e]
      have d2 : decide (x ≤ hi) = false := by simp [c2]
      go_enter Tryz.func36, Tryz.ntmps36
      go_wp2
      go_ret
      exact ⟨rfl, rfl⟩
  · have e : (decide (lo ≤ x) && decide (x ≤ hi)) = false := by simp [c1]
    rw [e]
    go_enter Tryz.func36, Tryz.ntmps36
    go_wp2
    go_ret
    exact ⟨rfl, rfl⟩
def lifeT (b0 : Bool) (l st ng : Int) : Value := .tuple #[.int .i64 (if keepB b0 l st = true then lifeX l ng else 0), .bool (keepB b0 l st)]
set_option maxHeartbeats 4000000 in
theorem l6Life_any (w : World) (B : Nat) (b0 b1 b2 : Bool) (l s e g st ng : Int) (hp : PolAt w B b0 b1 b2 l s e g) :
    Calls Tryz.prog 38 #[.pointer (some ⟨B, 0, none⟩), .int .i64 st, .int .i64 ng] w fun r w' => r = .returned (lifeT b0 l st ng) ∧ w' = w := by
  obtain ⟨c0, _, _, c3, _, _, _, _, _⟩ := hp
  cases b0
  · by_cases hl : l = -1
    · subst hl
      by_cases h200 : st = 200
      · subst h200
        have e : lifeT false (-1) 200 ng = .tuple #[.int .i64 0, .bool false] := by have k : keepB false (-1) 200 = false := (by decide); simp [lifeT, k]
        rw [e]
        go_enter Tryz.func38, Tryz.ntmps38
        go_wp2_with fail
        go_ret2
        exact ⟨rfl, rfl⟩
      by_cases h404 : st = 404
      · subst h404
        have e : lifeT false (-1) 404 ng = .tuple #[.int .i64 ng, .bool true] := by have k : keepB false (-1) 404 = true := (by decide); simp [lifeT, k, lifeX_not]
        rw [e]
        go_enter Tryz.func38, Tryz.ntmps38
        go_wp2_with fail
        go_ret2
        exact ⟨rfl, rfl⟩
      by_cases h410 : st = 410
      · subst h410
        have e : lifeT false (-1) 410 ng = .tuple #[.int .i64 ng, .bool true] := by have k : keepB false (-1) 410 = true := (by decide); simp [lifeT, k, lifeX_not]
        rw [e]
        go_enter Tryz.func38, Tryz.ntmps38
        go_wp2_with fail
        go_ret2
        exact ⟨rfl, rfl⟩
      have e : lifeT false (-1) st ng = .tuple #[.int .i64 0, .bool false] := by have k : keepB false (-1) st = false := (by simp [keepB, statB, h200, h404, h410]); simp [lifeT, k]
      rw [e]
      have d1 : (st != 200) = true := by simpa using h200
      have d2 : (st != 404) = true := by simpa using h404
      have d3 : (st != 410) = true := by simpa using h410
      have d4 : (st == 200) = false := by simpa using h200
      go_enter Tryz.func38, Tryz.ntmps38
      go_wp2_with fail
      go_ret2
      exact ⟨rfl, rfl⟩
    · have hl1 : (l != -1) = true := by simpa using hl
      by_cases h200 : st = 200
      · subst h200
        have e : lifeT false l 200 ng = .tuple #[.int .i64 l, .bool true] := by have k : keepB false l 200 = true := (by simp [keepB, statB, hl]); simp [lifeT, k, lifeX_told hl]
        rw [e]
        go_enter Tryz.func38, Tryz.ntmps38
        go_wp2_with fail
        go_ret2
        exact ⟨rfl, rfl⟩
      by_cases h404 : st = 404
      · subst h404
        have e : lifeT false l 404 ng = .tuple #[.int .i64 l, .bool true] := by have k : keepB false l 404 = true := (by simp [keepB, statB, hl]); simp [lifeT, k, lifeX_told hl]
        rw [e]
        go_enter Tryz.func38, Tryz.ntmps38
        go_wp2_with fail
        go_ret2
        exact ⟨rfl, rfl⟩
      by_cases h410 : st = 410
      · subst h410
        have e : lifeT false l 410 ng = .tuple #[.int .i64 l, .bool true] := by have k : keepB false l 410 = true := (by simp [keepB, statB, hl]); simp [lifeT, k, lifeX_told hl]
        rw [e]
        go_enter Tryz.func38, Tryz.ntmps38
        go_wp2_with fail
        go_ret2
        exact ⟨rfl, rfl⟩
      have e : lifeT false l st ng = .tuple #[.int .i64 0, .bool false] := by have k : keepB false l st = false := (by simp [keepB, statB, h200, h404, h410]); simp [lifeT, k]
      rw [e]
      have d1 : (st != 200) = true := by simpa using h200
      have d2 : (st != 404) = true := by simpa using h404
      have d3 : (st != 410) = true := by simpa using h410
      have d4 : (st == 200) = false := by simpa using h200
      go_enter Tryz.func38, Tryz.ntmps38
      go_wp2_with fail
      go_ret2
      exact ⟨rfl, rfl⟩
  · have e : lifeT true l st ng = .tuple #[.int .i64 0, .bool false] := by have k : keepB true l st = false := (by simp [keepB]); simp [lifeT, k]
    rw [e]
    go_enter Tryz.func38, Tryz.ntmps38
    go_wp2_with fail
    go_ret2
    exact ⟨rfl, rfl⟩
set_option maxHeartbeats 8000000 in
theorem specLife_any (b0 b1 b2 : Bool) (l s e g st ng : Int) (w : World) :
    Calls Tryz.prog 11 #[.agg #[.bool b0, .bool b1, .bool b2, .int .i64 l, .int .i64 s, .int .i64 e, .int .i64 g], .int .i64 st, .int .i64 ng] w fun r w' => r = .returned (.agg #[.int .i64 (lifeC b0 l s e g st ng), .int .i64 (lifeV b0 l s e g st ng)]) ∧ Below w.heap.size w w' := by
  have HP : Hid (∀ w, Calls Tryz.prog 13 #[.agg #[.bool b0, .bool b1, .bool b2, .int .i64 l, .int .i64 s, .int .i64 e, .int .i64 g]] w fun r w' => r = .returned (.int .i64 (polC l s e g)) ∧ Below w.heap.size w w') := specPol_any b0 b1 b2 l s e g
  have HT : Hid (∀ x w, Calls Tryz.prog 37 #[.int .i64 x] w fun r w' => r = .returned (.bool (timeB x)) ∧ w' = w) := l1Time_all
  have K0 : Hid (∀ w1, Below (w.heap.size + 2) ((w.alloc (.cells #[.bool b0, .bool b1, .bool b2, .int .i64 l, .int .i64 s, .int .i64 e, .int .i64 g] 27)).alloc (.cells #[.int .i64 0, .int .i64 0] 34)) w1 → Below w.heap.size w w1 ∧ PolAt w1 w.heap.size b0 b1 b2 l s e g ∧ IR w1 (w.heap.size + 1) (.int .i64 0) (.int .i64 0)) := fun w1 hb => by
    have a1 : Below w.heap.size w (w.alloc (.cells #[.bool b0, .bool b1, .bool b2, .int .i64 l, .int .i64 s, .int .i64 e, .int .i64 g] 27)) := (Below.refl _ _).alloc (Nat.le_refl _) _
    have p1 := PolAt.new w b0 b1 b2 l s e g 27
    have i1 := IR.new (w.alloc (.cells #[.bool b0, .bool b1, .bool b2, .int .i64 l, .int .i64 s, .int .i64 e, .int .i64 g] 27)) (.int .i64 0) (.int .i64 0) 34
    have a2 : Below (w.alloc (.cells #[.bool b0, .bool b1, .bool b2, .int .i64 l, .int .i64 s, .int .i64 e, .int .i64 g] 27)).heap.size (w.alloc (.cells #[.bool b0, .bool b1, .bool b2, .int .i64 l, .int .i64 s, .int .i64 e, .int .i64 g] 27)) ((w.alloc (.cells #[.bool b0, .bool b1, .bool b2, .int .i64 l, .int .i64 s, .int .i64 e, .int .i64 g] 27)).alloc (.cells #[.int .i64 0, .int .i64 0] 34)) := (Below.refl _ _).alloc (Nat.le_refl _) _
    have ez : (w.alloc (.cells #[.bool b0, .bool b1, .bool b2, .int .i64 l, .int .i64 s, .int .i64 e, .int .i64 g] 27)).heap.size = w.heap.size + 1 := by simp
    have hb' : Below ((w.alloc (.cells #[.bool b0, .bool b1, .bool b2, .int .i64 l, .int .i64 s, .int .i64 e, .int .i64 g] 27)).alloc (.cells #[.int .i64 0, .int .i64 0] 34)).heap.size ((w.alloc (.cells #[.bool b0, .bool b1, .bool b2, .int .i64 l, .int .i64 s, .int .i64 e, .int .i64 g] 27)).alloc (.cells #[.int .i64 0, .int .i64 0] 34)) w1 := by simpa using hb
    refine ⟨a1.trans ((a2.mono (by simp)).trans (hb.mono (by omega))), (p1.keep a2).keep hb', ?_⟩
    rw [ez] at i1
    exact i1.keep hb'
  cases hp : polB l s e g
  · rw [(life_pol hp).1, (life_pol hp).2]
    rw [polC_bad hp] at HP
    go_enter Tryz.func11, Tryz.ntmps11
    go_wp2_with fail
    refine (HP.out _).mono ?_
    rintro r w1 ⟨rfl, hb1⟩
    have K1 : Hid (Below w.heap.size w w1 ∧ PolAt w1 w.heap.size b0 b1 b2 l s e g ∧ IR w1 (w.heap.size + 1) (.int .i64 0) (.int .i64 0)) := K0.out w1 (by simpa using hb1)
    clear hb1 K0
    obtain ⟨r0, r1, rf, _⟩ := K1.out.2.2
    have rf0 := rf 0
    have rf1 := rf 1
    clear rf
    go_wp2_with fail
    refine bodyPost_ret (v := .agg #[.int .i64 3, .int .i64 0]) ?_ rfl ⟨rfl, (K1.out.1.setCell (by simp) _).setCell (by simp) _⟩
    simp [results, Tryz.results11, go_sem, r0, r1]
  rw [polC_ok hp] at HP
  have HI : Hid (∀ w, Calls Tryz.prog 36 #[.int .i64 st, .int .i64 200, .int .i64 599] w fun r w' => r = .returned (.bool (decide (200 ≤ st) && decide (st ≤ 599))) ∧ w' = w) := l1In_all st 200 599
  cases hr : (decide (200 ≤ st) && decide (st ≤ 599))
  · have hq : rangeB st ng = false := by rw [rangeB, hr]; rfl
    rw [(life_range hp hq).1, (life_range hp hq).2]
    rw [hr] at HI
    go_enter Tryz.func11, Tryz.ntmps11
    go_wp2_with fail
    refine (HP.out _).mono ?_
    rintro r w1 ⟨rfl, hb1⟩
    have K1 : Hid (Below w.heap.size w w1 ∧ PolAt w1 w.heap.size b0 b1 b2 l s e g ∧ IR w1 (w.heap.size + 1) (.int .i64 0) (.int .i64 0)) := K0.out w1 (by simpa using hb1)
    clear hb1 K0
    go_wp2_with fail
    refine (HI.out _).mono ?_
    rintro r w2 ⟨rfl, rfl⟩
    obtain ⟨r0, r1, rf, _⟩ := K1.out.2.2
    have rf0 := rf 0
    have rf1 := rf 1
    clear rf
    go_wp2_with fail
    refine bodyPost_ret (v := .agg #[.int .i64 3, .int .i64 0]) ?_ rfl ⟨rfl, (K1.out.1.setCell (by simp) _).setCell (by simp) _⟩
    simp [results, Tryz.results11, go_sem, r0, r1]
  rw [hr] at HI
  cases ht : timeB ng
  · have hq : rangeB st ng = false := by rw [rangeB, hr, ht]; rfl
    rw [(life_range hp hq).1, (life_range hp hq).2]
    go_enter Tryz.func11, Tryz.ntmps11
    go_wp2_with fail
    refine (HP.out _).mono ?_
    rintro r w1 ⟨rfl, hb1⟩
    have K1 : Hid (Below w.heap.size w w1 ∧ PolAt w1 w.heap.size b0 b1 b2 l s e g ∧ IR w1 (w.heap.size + 1) (.int .i64 0) (.int .i64 0)) := K0.out w1 (by simpa using hb1)
    clear hb1 K0
    go_wp2_with fail
    refine (HI.out _).mono ?_
    rintro r w2 ⟨rfl, rfl⟩
    go_wp2_with fail
    refine (HT.out ng _).mono ?_
    rintro r w2 ⟨rfl, rfl⟩
    rw [ht]
    obtain ⟨r0, r1, rf, _⟩ := K1.out.2.2
    have rf0 := rf 0
    have rf1 := rf 1
    clear rf
    go_wp2_with fail
    refine bodyPost_ret (v := .agg #[.int .i64 3, .int .i64 0]) ?_ rfl ⟨rfl, (K1.out.1.setCell (by simp) _).setCell (by simp) _⟩
    simp [results, Tryz.results11, go_sem, r0, r1]
  have hq : rangeB st ng = true := by rw [rangeB, hr, ht]; rfl
  have HL : Hid (∀ X, PolAt X w.heap.size b0 b1 b2 l s e g → Calls Tryz.prog 38 #[.pointer (some ⟨w.heap.size, 0, none⟩), .int .i64 st, .int .i64 ng] X fun r w' => r = .returned (lifeT b0 l st ng) ∧ w' = X) := fun X hX => l6Life_any X _ b0 b1 b2 l s e g st ng hX
  unfold lifeT at HL
  cases hk : keepB b0 l st
  · rw [(life_none hp hq hk).1, (life_none hp hq hk).2]
    rw [hk, if_neg (by decide)] at HL
    go_enter Tryz.func11, Tryz.ntmps11
    go_wp2_with fail
    refine (HP.out _).mono ?_
    rintro r w1 ⟨rfl, hb1⟩
    have K1 : Hid (Below w.heap.size w w1 ∧ PolAt w1 w.heap.size b0 b1 b2 l s e g ∧ IR w1 (w.heap.size + 1) (.int .i64 0) (.int .i64 0)) := K0.out w1 (by simpa using hb1)
    clear hb1 K0
    go_wp2_with fail
    refine (HI.out _).mono ?_
    rintro r w2 ⟨rfl, rfl⟩
    go_wp2_with fail
    refine (HT.out ng _).mono ?_
    rintro r w2 ⟨rfl, rfl⟩
    rw [ht]
    go_wp2_with fail
    refine (HL.out _ K1.out.2.1).mono ?_
    rintro r w2 ⟨rfl, rfl⟩
    obtain ⟨r0, r1, rf, _⟩ := K1.out.2.2
    have rf0 := rf 0
    have rf1 := rf 1
    clear rf
    go_wp2_with fail
    refine bodyPost_ret (v := .agg #[.int .i64 4, .int .i64 0]) ?_ rfl ⟨rfl, (K1.out.1.setCell (by simp) _).setCell (by simp) _⟩
    simp [results, Tryz.results11, go_sem, r0, r1]
  rw [(life_ok hp hq hk).1, (life_ok hp hq hk).2]
  rw [hk, if_pos rfl] at HL
  generalize lifeX l ng = x at *
  go_enter Tryz.func11, Tryz.ntmps11
  go_wp2_with fail
  refine (HP.out _).mono ?_
  rintro r w1 ⟨rfl, hb1⟩
  have K1 : Hid (Below w.heap.size w w1 ∧ PolAt w1 w.heap.size b0 b1 b2 l s e g ∧ IR w1 (w.heap.size + 1) (.int .i64 0) (.int .i64 0)) := K0.out w1 (by simpa using hb1)
  clear hb1 K0
  go_wp2_with fail
  refine (HI.out _).mono ?_
  rintro r w2 ⟨rfl, rfl⟩
  go_wp2_with fail
  refine (HT.out ng _).mono ?_
  rintro r w2 ⟨rfl, rfl⟩
  rw [ht]
  go_wp2_with fail
  refine (HL.out _ K1.out.2.1).mono ?_
  rintro r w2 ⟨rfl, rfl⟩
  obtain ⟨r0, r1, rf, _⟩ := K1.out.2.2
  have rf0 := rf 0
  have rf1 := rf 1
  clear rf
  go_wp2_with fail
  refine bodyPost_ret (v := .agg #[.int .i64 0, .int .i64 x]) ?_ rfl ⟨rfl, (K1.out.1.setCell (by simp) _).setCell (by simp) _⟩
  simp [results, Tryz.results11, go_sem, r0, r1]
set_option maxHeartbeats 8000000 in
theorem implLife_any (b0 b1 b2 : Bool) (l s e g st ng : Int) (w : World) :
    Calls Tryz.prog 10 #[.agg #[.bool b0, .bool b1, .bool b2, .int .i64 l, .int .i64 s, .int .i64 e, .int .i64 g], .int .i64 st, .int .i64 ng] w fun r w' => r = .returned (.agg #[.int .i64 (lifeC b0 l s e g st ng), .int .i64 (lifeV b0 l s e g st ng)]) ∧ Below w.heap.size w w' := by
  have HP : Hid (∀ w, Calls Tryz.prog 12 #[.agg #[.bool b0, .bool b1, .bool b2, .int .i64 l, .int .i64 s, .int .i64 e, .int .i64 g]] w fun r w' => r = .returned (.int .i64 (polC l s e g)) ∧ Below w.heap.size w w') := implPol_any b0 b1 b2 l s e g
  have HT : Hid (∀ x w, Calls Tryz.prog 34 #[.int .i64 x] w fun r w' => r = .returned (.bool (timeB x)) ∧ w' = w) := isTime_all
  have K0 : Hid (∀ w1, Below (w.heap.size + 2) ((w.alloc (.cells #[.bool b0, .bool b1, .bool b2, .int .i64 l, .int .i64 s, .int .i64 e, .int .i64 g] 27)).alloc (.cells #[.int .i64 0, .int .i64 0] 34)) w1 → Below w.heap.size w w1 ∧ PolAt w1 w.heap.size b0 b1 b2 l s e g ∧ IR w1 (w.heap.size + 1) (.int .i64 0) (.int .i64 0)) := fun w1 hb => by
    have a1 : Below w.heap.size w (w.alloc (.cells #[.bool b0, .bool b1, .bool b2, .int .i64 l, .int .i64 s, .int .i64 e, .int .i64 g] 27)) := (Below.refl _ _).alloc (Nat.le_refl _) _
    have p1 := PolAt.new w b0 b1 b2 l s e g 27
    have i1 := IR.new (w.alloc (.cells #[.bool b0, .bool b1, .bool b2, .int .i64 l, .int .i64 s, .int .i64 e, .int .i64 g] 27)) (.int .i64 0) (.int .i64 0) 34
    have a2 : Below (w.alloc (.cells #[.bool b0, .bool b1, .bool b2, .int .i64 l, .int .i64 s, .int .i64 e, .int .i64 g] 27)).heap.size (w.alloc (.cells #[.bool b0, .bool b1, .bool b2, .int .i64 l, .int .i64 s, .int .i64 e, .int .i64 g] 27)) ((w.alloc (.cells #[.bool b0, .bool b1, .bool b2, .int .i64 l, .int .i64 s, .int .i64 e, .int .i64 g] 27)).alloc (.cells #[.int .i64 0, .int .i64 0] 34)) := (Below.refl _ _).alloc (Nat.le_refl _) _
    have ez : (w.alloc (.cells #[.bool b0, .bool b1, .bool b2, .int .i64 l, .int .i64 s, .int .i64 e, .int .i64 g] 27)).heap.size = w.heap.size + 1 := by simp
    have hb' : Below ((w.alloc (.cells #[.bool b0, .bool b1, .bool b2, .int .i64 l, .int .i64 s, .int .i64 e, .int .i64 g] 27)).alloc (.cells #[.int .i64 0, .int .i64 0] 34)).heap.size ((w.alloc (.cells #[.bool b0, .bool b1, .bool b2, .int .i64 l, .int .i64 s, .int .i64 e, .int .i64 g] 27)).alloc (.cells #[.int .i64 0, .int .i64 0] 34)) w1 := by simpa using hb
    refine ⟨a1.trans ((a2.mono (by simp)).trans (hb.mono (by omega))), (p1.keep a2).keep hb', ?_⟩
    rw [ez] at i1
    exact i1.keep hb'
  cases hp : polB l s e g
  · rw [(life_pol hp).1, (life_pol hp).2]
    rw [polC_bad hp] at HP
    go_enter Tryz.func10, Tryz.ntmps10
    go_wp2_with fail
    refine (HP.out _).mono ?_
    rintro r w1 ⟨rfl, hb1⟩
    have K1 : Hid (Below w.heap.size w w1 ∧ PolAt w1 w.heap.size b0 b1 b2 l s e g ∧ IR w1 (w.heap.size + 1) (.int .i64 0) (.int .i64 0)) := K0.out w1 (by simpa using hb1)
    clear hb1 K0
    obtain ⟨r0, r1, rf, _⟩ := K1.out.2.2
    have rf0 := rf 0
    have rf1 := rf 1
    clear rf
    go_wp2_with fail
    refine bodyPost_ret (v := .agg #[.int .i64 3, .int .i64 0]) ?_ rfl ⟨rfl, (K1.out.1.setCell (by simp) _).setCell (by simp) _⟩
    simp [results, Tryz.results10, go_sem, r0, r1]
  rw [polC_ok hp] at HP
  have HM : Hid (∀ w, Calls Tryz.prog 35 #[.int .i64 st] w fun r w' => r = .returned (.bool (statB st)) ∧ w' = w) := mayKeep_any st
  by_cases h1 : st < 200
  · have hq : rangeB st ng = false := by simp [rangeB]; omega
    rw [(life_range hp hq).1, (life_range hp hq).2]
    go_enter Tryz.func10, Tryz.ntmps10
    go_wp2_with fail
    refine (HP.out _).mono ?_
    rintro r w1 ⟨rfl, hb1⟩
    have K1 : Hid (Below w.heap.size w w1 ∧ PolAt w1 w.heap.size b0 b1 b2 l s e g ∧ IR w1 (w.heap.size + 1) (.int .i64 0) (.int .i64 0)) := K0.out w1 (by simpa using hb1)
    clear hb1 K0
    obtain ⟨r0, r1, rf, _⟩ := K1.out.2.2
    have rf0 := rf 0
    have rf1 := rf 1
    clear rf
    go_wp2_with fail
    refine bodyPost_ret (v := .agg #[.int .i64 3, .int .i64 0]) ?_ rfl ⟨rfl, (K1.out.1.setCell (by simp) _).setCell (by simp) _⟩
    simp [results, Tryz.results10, go_sem, r0, r1]
  by_cases h2 : 599 < st
  · have hq : rangeB st ng = false := by simp [rangeB]; omega
    have d2 : decide (599 < st) = true := by simp [h2]
    rw [(life_range hp hq).1, (life_range hp hq).2]
    go_enter Tryz.func10, Tryz.ntmps10
    go_wp2_with fail
    refine (HP.out _).mono ?_
    rintro r w1 ⟨rfl, hb1⟩
    have K1 : Hid (Below w.heap.size w w1 ∧ PolAt w1 w.heap.size b0 b1 b2 l s e g ∧ IR w1 (w.heap.size + 1) (.int .i64 0) (.int .i64 0)) := K0.out w1 (by simpa using hb1)
    clear hb1 K0
    obtain ⟨r0, r1, rf, _⟩ := K1.out.2.2
    have rf0 := rf 0
    have rf1 := rf 1
    clear rf
    go_wp2_with fail
    refine bodyPost_ret (v := .agg #[.int .i64 3, .int .i64 0]) ?_ rfl ⟨rfl, (K1.out.1.setCell (by simp) _).setCell (by simp) _⟩
    simp [results, Tryz.results10, go_sem, r0, r1]
  have d2 : decide (599 < st) = false := by simp; omega
  cases ht : timeB ng
  · have hq : rangeB st ng = false := by rw [rangeB, ht]; simp
    rw [(life_range hp hq).1, (life_range hp hq).2]
    go_enter Tryz.func10, Tryz.ntmps10
    go_wp2_with fail
    refine (HP.out _).mono ?_
    rintro r w1 ⟨rfl, hb1⟩
    have K1 : Hid (Below w.heap.size w w1 ∧ PolAt w1 w.heap.size b0 b1 b2 l s e g ∧ IR w1 (w.heap.size + 1) (.int .i64 0) (.int .i64 0)) := K0.out w1 (by simpa using hb1)
    clear hb1 K0
    go_wp2_with fail
    refine (HT.out ng _).mono ?_
    rintro r w2 ⟨rfl, rfl⟩
    rw [ht]
    obtain ⟨r0, r1, rf, _⟩ := K1.out.2.2
    have rf0 := rf 0
    have rf1 := rf 1
    clear rf
    go_wp2_with fail
    refine bodyPost_ret (v := .agg #[.int .i64 3, .int .i64 0]) ?_ rfl ⟨rfl, (K1.out.1.setCell (by simp) _).setCell (by simp) _⟩
    simp [results, Tryz.results10, go_sem, r0, r1]
  have hq : rangeB st ng = true := by simp [rangeB, ht]; omega
  rcases Bool.eq_false_or_eq_true b0 with hb | hb
  · have HB0 : Hid (b0 = true) := hb
    clear hb
    have hk : keepB b0 l st = false := by simp [keepB, HB0.out]
    rw [(life_none hp hq hk).1, (life_none hp hq hk).2]
    go_enter Tryz.func10, Tryz.ntmps10
    go_wp2_with fail
    refine (HP.out _).mono ?_
    rintro r w1 ⟨rfl, hb1⟩
    have K1 : Hid (Below w.heap.size w w1 ∧ PolAt w1 w.heap.size b0 b1 b2 l s e g ∧ IR w1 (w.heap.size + 1) (.int .i64 0) (.int .i64 0)) := K0.out w1 (by simpa using hb1)
    clear hb1 K0
    obtain ⟨c0, _, _, c3, _, _, _, _, _⟩ := K1.out.2.1
    rw [HB0.out] at c0
    go_wp2_with fail
    refine (HT.out ng _).mono ?_
    rintro r w2 ⟨rfl, rfl⟩
    rw [ht]
    obtain ⟨r0, r1, rf, _⟩ := K1.out.2.2
    have rf0 := rf 0
    have rf1 := rf 1
    clear rf
    go_wp2_with fail
    refine bodyPost_ret (v := .agg #[.int .i64 4, .int .i64 0]) ?_ rfl ⟨rfl, (K1.out.1.setCell (by simp) _).setCell (by simp) _⟩
    simp [results, Tryz.results10, go_sem, r0, r1]
  have HB0 : Hid (b0 = false) := hb
  clear hb
  cases hs : statB st
  · have hk : keepB b0 l st = false := by simp [keepB, hs]
    rw [(life_none hp hq hk).1, (life_none hp hq hk).2]
    go_enter Tryz.func10, Tryz.ntmps10
    go_wp2_with fail
    refine (HP.out _).mono ?_
    rintro r w1 ⟨rfl, hb1⟩
    have K1 : Hid (Below w.heap.size w w1 ∧ PolAt w1 w.heap.size b0 b1 b2 l s e g ∧ IR w1 (w.heap.size + 1) (.int .i64 0) (.int .i64 0)) := K0.out w1 (by simpa using hb1)
    clear hb1 K0
    obtain ⟨c0, _, _, c3, _, _, _, _, _⟩ := K1.out.2.1
    rw [HB0.out] at c0
    go_wp2_with fail
    refine (HT.out ng _).mono ?_
    rintro r w2 ⟨rfl, rfl⟩
    rw [ht]
    go_wp2_with fail
    refine (HM.out _).mono ?_
    rintro r w2 ⟨rfl, rfl⟩
    rw [hs]
    obtain ⟨r0, r1, rf, _⟩ := K1.out.2.2
    have rf0 := rf 0
    have rf1 := rf 1
    clear rf
    go_wp2_with fail
    refine bodyPost_ret (v := .agg #[.int .i64 4, .int .i64 0]) ?_ rfl ⟨rfl, (K1.out.1.setCell (by simp) _).setCell (by simp) _⟩
    simp [results, Tryz.results10, go_sem, r0, r1]
  by_cases hl : l = -1
  · have HLM : Hid (l = -1) := hl
    clear hl
    by_cases h200 : st = 200
    · have d200 : (st == 200) = true := by simp [h200]
      have hk : keepB b0 l st = false := by simp [keepB, h200, HLM.out]
      clear h200
      rw [(life_none hp hq hk).1, (life_none hp hq hk).2]
      go_enter Tryz.func10, Tryz.ntmps10
      go_wp2_with fail
      refine (HP.out _).mono ?_
      rintro r w1 ⟨rfl, hb1⟩
      have K1 : Hid (Below w.heap.size w w1 ∧ PolAt w1 w.heap.size b0 b1 b2 l s e g ∧ IR w1 (w.heap.size + 1) (.int .i64 0) (.int .i64 0)) := K0.out w1 (by simpa using hb1)
      clear hb1 K0
      obtain ⟨c0, _, _, c3, _, _, _, _, _⟩ := K1.out.2.1
      rw [HB0.out] at c0
      rw [HLM.out] at c3
      go_wp2_with fail
      refine (HT.out ng _).mono ?_
      rintro r w2 ⟨rfl, rfl⟩
      rw [ht]
      go_wp2_with fail
      refine (HM.out _).mono ?_
      rintro r w2 ⟨rfl, rfl⟩
      rw [hs]
      obtain ⟨r0, r1, rf, _⟩ := K1.out.2.2
      have rf0 := rf 0
      have rf1 := rf 1
      clear rf
      go_wp2_with fail
      refine bodyPost_ret (v := .agg #[.int .i64 4, .int .i64 0]) ?_ rfl ⟨rfl, (K1.out.1.setCell (by simp) _).setCell (by simp) _⟩
      simp [results, Tryz.results10, go_sem, r0, r1]
    have d200 : (st == 200) = false := by simpa using h200
    have hk : keepB b0 l st = true := by simp [keepB, hs, h200, HB0.out]
    have hx : lifeX l ng = ng := by rw [HLM.out, lifeX_not]
    rw [(life_ok hp hq hk).1, (life_ok hp hq hk).2, hx]
    go_enter Tryz.func10, Tryz.ntmps10
    go_wp2_with fail
    refine (HP.out _).mono ?_
    rintro r w1 ⟨rfl, hb1⟩
    have K1 : Hid (Below w.heap.size w w1 ∧ PolAt w1 w.heap.size b0 b1 b2 l s e g ∧ IR w1 (w.heap.size + 1) (.int .i64 0) (.int .i64 0)) := K0.out w1 (by simpa using hb1)
    clear hb1 K0
    obtain ⟨c0, _, _, c3, _, _, _, _, _⟩ := K1.out.2.1
    rw [HB0.out] at c0
    rw [HLM.out] at c3
    go_wp2_with fail
    refine (HT.out ng _).mono ?_
    rintro r w2 ⟨rfl, rfl⟩
    rw [ht]
    go_wp2_with fail
    refine (HM.out _).mono ?_
    rintro r w2 ⟨rfl, rfl⟩
    rw [hs]
    obtain ⟨r0, r1, rf, _⟩ := K1.out.2.2
    have rf0 := rf 0
    have rf1 := rf 1
    clear rf
    go_wp2_with fail
    refine bodyPost_ret (v := .agg #[.int .i64 0, .int .i64 ng]) ?_ rfl ⟨rfl, (K1.out.1.setCell (by simp) _).setCell (by simp) _⟩
    simp [results, Tryz.results10, go_sem, r0, r1]
  have dl : (l == -1) = false := by simpa using hl
  have hk : keepB b0 l st = true := by simp [keepB, hs, hl, HB0.out]
  rw [(life_ok hp hq hk).1, (life_ok hp hq hk).2, lifeX_told hl]
  by_cases h200 : st = 200
  · have d200 : (st == 200) = true := by simp [h200]
    clear h200
    go_enter Tryz.func10, Tryz.ntmps10
    go_wp2_with fail
    refine (HP.out _).mono ?_
    rintro r w1 ⟨rfl, hb1⟩
    have K1 : Hid (Below w.heap.size w w1 ∧ PolAt w1 w.heap.size b0 b1 b2 l s e g ∧ IR w1 (w.heap.size + 1) (.int .i64 0) (.int .i64 0)) := K0.out w1 (by simpa using hb1)
    clear hb1 K0
    obtain ⟨c0, _, _, c3, _, _, _, _, _⟩ := K1.out.2.1
    rw [HB0.out] at c0
    go_wp2_with fail
    refine (HT.out ng _).mono ?_
    rintro r w2 ⟨rfl, rfl⟩
    rw [ht]
    go_wp2_with fail
    refine (HM.out _).mono ?_
    rintro r w2 ⟨rfl, rfl⟩
    rw [hs]
    obtain ⟨r0, r1, rf, _⟩ := K1.out.2.2
    have rf0 := rf 0
    have rf1 := rf 1
    clear rf
    go_wp2_with fail
    refine bodyPost_ret (v := .agg #[.int .i64 0, .int .i64 l]) ?_ rfl ⟨rfl, (K1.out.1.setCell (by simp) _).setCell (by simp) _⟩
    simp [results, Tryz.results10, go_sem, r0, r1]
  have d200 : (st == 200) = false := by simpa using h200
  go_enter Tryz.func10, Tryz.ntmps10
  go_wp2_with fail
  refine (HP.out _).mono ?_
  rintro r w1 ⟨rfl, hb1⟩
  have K1 : Hid (Below w.heap.size w w1 ∧ PolAt w1 w.heap.size b0 b1 b2 l s e g ∧ IR w1 (w.heap.size + 1) (.int .i64 0) (.int .i64 0)) := K0.out w1 (by simpa using hb1)
  clear hb1 K0
  obtain ⟨c0, _, _, c3, _, _, _, _, _⟩ := K1.out.2.1
  rw [HB0.out] at c0
  go_wp2_with fail
  refine (HT.out ng _).mono ?_
  rintro r w2 ⟨rfl, rfl⟩
  rw [ht]
  go_wp2_with fail
  refine (HM.out _).mono ?_
  rintro r w2 ⟨rfl, rfl⟩
  rw [hs]
  obtain ⟨r0, r1, rf, _⟩ := K1.out.2.2
  have rf0 := rf 0
  have rf1 := rf 1
  clear rf
  go_wp2_with fail
  refine bodyPost_ret (v := .agg #[.int .i64 0, .int .i64 l]) ?_ rfl ⟨rfl, (K1.out.1.setCell (by simp) _).setCell (by simp) _⟩
  simp [results, Tryz.results10, go_sem, r0, r1]
end Go.Proofs.YtgfbahjpaaanoaaGreatDoor
/-
  What FindItem answers.
-/
namespace Go.Proofs.YtgfbahjpaaanoaaGreatDoor
open Go.ChangeShapes Go.WideShapes Go.ChangeAt Go.RowKit Go.Sort
def lwC (s : ByteArray) : Int := if 1000 < s.size then 2 else 0
def lwT (s : ByteArray) : ByteArray := if 1000 < s.size then ⟨#[]⟩ else lowS s
theorem implLower_fn (s : ByteArray) (w : World) : Calls Tryz.prog 63 #[.string s] w fun e w' => e = .returned (.agg #[.int .i64 (lwC s), .string (lwT s)]) ∧ Below w.heap.size w w' := by
  by_cases h : 1000 < s.size
  · rw [show lwC s = 2 from by simp [lwC, h], show lwT s = ⟨#[]⟩ from by simp [lwT, h]]
    exact implLower_long s w h
  · rw [show lwC s = 0 from by simp [lwC, h], show lwT s = lowS s from by simp [lwT, h]]
    exact implLower_any s w (by omega)
theorem word_size {s : ByteArray} (h : wordS s = true) : 1 ≤ s.size ∧ s.size ≤ 64 := by
  constructor
  · by_cases c : s.size < 1
    · rw [wordS_short s c] at h; cases h
    · omega
  · by_cases c : 64 < s.size
    · rw [wordS_long s c] at h; cases h
    · omega
theorem lowS_sz (s : ByteArray) : (lowS s).size = s.size := by
  have h : (lowS s).data.toList.length = s.data.toList.length := by simp [lowS]
  simpa using h
theorem low_same {rn name : ByteArray} (h : wordS name = true) : lwT rn = lowS name ↔ lowS rn = lowS name := by
  obtain ⟨h1, h2⟩ := word_size h
  unfold lwT
  split
  · rename_i hb
    constructor
    · intro e
      have h0 := congrArg ByteArray.size e
      rw [lowS_sz] at h0
      have h3 : (⟨#[]⟩ : ByteArray).size = 0 := rfl
      omega
    · intro e
      have := congrArg ByteArray.size e
      rw [lowS_sz, lowS_sz] at this
      omega
  · exact Iff.rfl
theorem find_at {l : List Rec} {name : ByteArray} (h20 : ¬ 20 < l.length) (hw : wordS name = true) (x : Int) (hx : findR name 0 l = x) : (x < 0 → findC l name = 4 ∧ findV l name = 0) ∧ (¬ x < 0 → findC l name = 0 ∧ findV l name = x) := by
  subst hx
  constructor
  · intro hn
    have ec : findC l name = 4 := by simp only [findC]; rw [if_neg h20, if_pos hw, if_pos hn]
    exact ⟨ec, by unfold findV; rw [ec]; rfl⟩
  · intro hn
    have ec : findC l name = 0 := by simp only [findC]; rw [if_neg h20, if_pos hw, if_neg hn]
    exact ⟨ec, by unfold findV; rw [ec]; rfl⟩
theorem ret_ii {a b c d : Int} (h : c = a ∧ d = b) : Ending.returned (.agg #[.int .i64 a, .int .i64 b]) = .returned (.agg #[.int .i64 c, .int .i64 d]) := by rw [h.1, h.2]
set_option maxRecDepth 100000 in
set_option maxHeartbeats 4000000 in
theorem implFind_word (w : World) (a : Option Addr) (cap : Nat) (l : List Rec) (name : ByteArray) (hset : SetIs w) (h20 : ¬ 20 < l.length) (hw : wordS name = true) (hi : l = [] ∨ ∃ b off, a = some ⟨b, off, none⟩ ∧ ItemsAt w b off l) :
    Calls Tryz.prog 28 #[.slice a l.length cap, .string name] w fun e w' => e = .returned (.agg #[.int .i64 (findC l name), .int .i64 (findV l name)]) ∧ Below w.heap.size w w' := by
  have HFC : Hid (∀ x, findR name 0 l = x → (x < 0 → findC l name = 4 ∧ findV l name = 0) ∧ (¬ x < 0 → findC l name = 0 ∧ findV l name = x)) := find_at h20 hw
  have HI : Hid (l = [] ∨ ∃ b off, a = some ⟨b, off, none⟩ ∧ ItemsAt w b off l) := hi
  have HS : Hid (SetIs w) := hset
  have HW : Hid (wordS name = true) := hw
  obtain ⟨z1, z2⟩ := word_size hw
  clear hi hset hw
  generalize hn : l.length = n at *
  have HN : Hid (l.length = n) := hn
  clear hn
  have g : ¬ (20 : Int) < (n : Int) := by omega
  go_enter Tryz.func28, Tryz.ntmps28
  go_wp2_with fail
  refine (implIsWord_set name _ (HS.out.below ((Below.refl _ _).alloc (Nat.le_refl _) _))).mono ?_
  rintro e w1 ⟨rfl, hb1⟩
  rw [HW.out]
  rw [World.size_alloc] at hb1
  go_wp2_with fail
  refine (implLower_any name w1 (by omega)).mono ?_
  rintro e w2 ⟨rfl, hb2⟩
  have hb2' : Below (w.heap.size + 1) (w.alloc (.cells #[.int .i64 0, .int .i64 0] 34)) w2 := hb1.trans (hb2.mono (by have := hb1.size; rwa [World.size_alloc] at this))
  have hz2 : w.heap.size + 1 ≤ w2.heap.size := by have := hb2'.size; rwa [World.size_alloc] at this
  clear hb1 hb2
  generalize hq : lowS name = q
  have HQ : Hid (q = lowS name) := hq.symm
  clear hq
  obtain ⟨W0, hW0⟩ : ∃ W0, W0 = w2.alloc (.cells #[.int .i64 0, .string q] 98) := ⟨_, rfl⟩
  have HB0 : Hid (Below (w.heap.size + 1) (w.alloc (.cells #[.int .i64 0, .int .i64 0] 34)) W0) := by
    show Below _ _ _
    rw [hW0]; exact hb2'.alloc hz2 _
  have HC0 : Hid (W0.cell? ⟨w2.heap.size, 1, none⟩ = some (.string q)) := by show _ = _; rw [hW0]; simp
  have HWW : Hid (W0 = w2.alloc (.cells #[.int .i64 0, .string q] 98)) := hW0
  clear hW0 hb2'
  go_wp2_with fail
  rw [← HWW.out]
  clear HWW
  generalize w2.heap.size = Bw at *
  clear w2 w1
  go_loopw [20] (fun i wr => ∃ k : Nat, k ≤ n ∧ i = .int .i64 k ∧ findR name 0 l = findR name k (l.drop k) ∧ Below W0.heap.size W0 wr) (fun i _ => n - (intOf i).toNat)
  case atStart => exact ⟨0, Nat.zero_le _, rfl, rfl, Below.refl _ _⟩
  case round =>
    obtain ⟨k, hk, rfl, hf, hb⟩ := hrel
    have HF : Hid (findR name 0 l = findR name k (l.drop k)) := hf
    clear hf
    have hzW : w.heap.size + 1 ≤ W0.heap.size := by have := HB0.out.size; rwa [World.size_alloc] at this
    have HBr : Hid (Below (w.heap.size + 1) (w.alloc (.cells #[.int .i64 0, .int .i64 0] 34)) wr) := HB0.out.trans (hb.mono hzW)
    by_cases hlt : k < n
    · obtain ⟨r, hr⟩ : ∃ r, l[k]? = some r := ⟨l[k]'(by have := HN.out; omega), List.getElem?_eq_getElem _⟩
      rcases HI.out with h | ⟨b, off, rfl, hat⟩
      · subst h; simp at hr
      have hwr : Below w.heap.size w wr := ((Below.refl _ _).alloc (Nat.le_refl _) _).trans (HBr.out.mono (Nat.le_succ _))
      obtain ⟨p1, p2, p3⟩ := (hat.keep hwr) k r hr
      have HG : Hid (findR name 0 l = if lowS r.name = lowS name then (k : Int) else findR name (k + 1) (l.drop (k + 1))) := by
        show _ = _
        rw [HF.out, drop_rec l k r hr, findR]
      have gk : (k : Int) < n := by omega
      have c5 := f_keep hb HC0.out
      clear HF hr hat HI
      obtain ⟨rn, rh, rv⟩ := r
      simp only at p1 p2 p3 HG
      obtain ⟨W, hW⟩ : ∃ W, W = wr.alloc (.cells #[.string rn, .bool rh, .string rv] 65) := ⟨_, rfl⟩
      have HWW : Hid (W = wr.alloc (.cells #[.string rn, .bool rh, .string rv] 65)) := hW
      have C1 : Hid (W.cell? ⟨wr.heap.size, 0, none⟩ = some (.string rn) ∧ W.cell? ⟨Bw, 1, none⟩ = some (.string q) ∧ Below W0.heap.size W0 W) := by
        refine ⟨by rw [hW]; simp, by rw [hW]; exact f_keepA _ c5, by rw [hW]; exact hb.alloc hb.size _⟩
      clear hW c5
      go_wp2_with fail
      rw [← HWW.out]
      clear HWW p1 p2 p3 hwr
      obtain ⟨c1, c2, hbW⟩ := C1.out
      clear C1
      have HBW : Hid (Below W0.heap.size W0 W) := hbW
      clear hbW
      generalize wr.heap.size = Br at *
      have q1 := cell_regrown c1
      have q2 := cell_regrown c2
      have SQ : Hid (∀ w, Calls Tryz.prog 63 #[.string rn] w fun e w' => e = .returned (.agg #[.int .i64 (lwC rn), .string (lwT rn)]) ∧ Below w.heap.size w w') := implLower_fn rn
      have hf2 := f_field_text
      by_cases he : lwT rn = lowS name
      · have HE : Hid (findR name 0 l = (k : Int)) := by show _ = _; rw [HG.out, if_pos ((low_same HW.out).1 he)]
        rw [he, ← HQ.out] at SQ
        generalize lwC rn = lc at *
        have cSQ : ∀ d' os, Calls Tryz.prog 63 #[.string rn] (grow (redrawn W d') os) fun e w'' => e = .returned (.agg #[.int .i64 lc, .string q]) ∧ ∃ p : Regrown, w'' = grow (redrawn W p.d) p.os := fun d' os => Calls.regrown_of (SQ.out _)
        clear he HG
        refine wp_region_quiet_below (by kernel_rfl) (by kernel_rfl) ?_
        repeat (go_big_quiet_step (first | (go_at_call 63; exact cSQ _ _)))
        refine wpQuiet_nil ?_
        intro W2 hW2
        have hbW2 : Below W.heap.size W W2 := by
          obtain ⟨⟨d, os⟩, rfl⟩ := hW2
          exact below_regrown W d os
        have hb02 : Below (w.heap.size + 1) (w.alloc (.cells #[.int .i64 0, .int .i64 0] 34)) W2 := HB0.out.trans ((HBW.out.trans (hbW2.mono HBW.out.size)).mono hzW)
        obtain ⟨hz, p0, p1, f0, f1, kb⟩ := int_room hb02
        obtain ⟨r0, r1⟩ := two_set (v0 := .int .i64 0) (v1 := .int .i64 k) p0 p1
        have hk0 : ¬ (k : Int) < 0 := by omega
        clear hW2 hbW2 hb02 cSQ q1 q2 c1 c2 SQ HBr HB0 HC0
        go_wp2_with fail
        exact bodyPost_ret (v := .agg #[.int .i64 0, .int .i64 k]) (by simp [results, Tryz.results28, go_sem, r0, r1]) rfl ⟨ret_ii ((HFC.out _ HE.out).2 hk0), (kb.setCell (Nat.le_refl _) _).setCell (Nat.le_refl _) _⟩
      · have HE : Hid (findR name 0 l = findR name (k + 1) (l.drop (k + 1))) := by show _ = _; rw [HG.out, if_neg (fun x => he ((low_same HW.out).2 x))]
        have hne : lwT rn ≠ q := by rw [HQ.out]; exact he
        have hq := str_ne hne
        generalize lwT rn = lt at *
        generalize lwC rn = lc at *
        have cSQ : ∀ d' os, Calls Tryz.prog 63 #[.string rn] (grow (redrawn W d') os) fun e w'' => e = .returned (.agg #[.int .i64 lc, .string lt]) ∧ ∃ p : Regrown, w'' = grow (redrawn W p.d) p.os := fun d' os => Calls.regrown_of (SQ.out _)
        clear he HG hne
        refine wp_region_quiet_below (by kernel_rfl) (by kernel_rfl) ?_
        repeat (go_big_quiet_step (first | (go_at_call 63; exact cSQ _ _)))
        refine wpQuiet_nil ?_
        intro W2 hW2
        have hbW2 : Below W.heap.size W W2 := by
          obtain ⟨⟨d, os⟩, rfl⟩ := hW2
          exact below_regrown W d os
        have hb02 : Below W0.heap.size W0 W2 := HBW.out.trans (hbW2.mono HBW.out.size)
        clear hW2 hbW2 cSQ q1 q2 c1 c2 SQ HBr HB0 HC0
        go_wp2_with fail
        go_roundw
        case rel => exact ⟨k + 1, by omega, by go_num, HE.out, hb02⟩
        case measure => simp [intOf]; omega
    · have HE : Hid (findR name 0 l = -1) := by
        show _ = _
        rw [HF.out, List.drop_of_length_le (by have := HN.out; omega), findR]
      clear HF
      obtain ⟨hz, p0, p1, f0, f1, kb⟩ := int_room HBr.out
      obtain ⟨r0, r1⟩ := two_set (v0 := .int .i64 4) (v1 := .int .i64 0) p0 p1
      clear HBr HB0 HC0
      go_wp2_with fail
      exact bodyPost_ret (v := .agg #[.int .i64 4, .int .i64 0]) (by simp [results, Tryz.results28, go_sem, r0, r1]) rfl ⟨ret_ii ((HFC.out _ HE.out).1 (by decide)), (kb.setCell (Nat.le_refl _) _).setCell (Nat.le_refl _) _⟩
set_option maxHeartbeats 1000000 in
theorem implFind_any (w : World) (a : Option Addr) (cap : Nat) (l : List Rec) (name : ByteArray) (hset : SetIs w) (hi : l = [] ∨ ∃ b off, a = some ⟨b, off, none⟩ ∧ ItemsAt w b off l) :
    Calls Tryz.prog 28 #[.slice a l.length cap, .string name] w fun e w' => e = .returned (.agg #[.int .i64 (findC l name), .int .i64 (findV l name)]) ∧ Below w.heap.size w w' := by
  by_cases h20 : 20 < l.length
  · have ec : findC l name = 2 := by simp [findC, h20]
    have ev : findV l name = 0 := by simp [findV, ec]
    rw [ec, ev]
    have g : (20 : Int) < (l.length : Int) := by omega
    clear ec ev hset
    go_enter Tryz.func28, Tryz.ntmps28
    go_wp2
    exact bodyPost_ret (v := .agg #[.int .i64 2, .int .i64 0]) (by simp [results, Tryz.results28, go_sem]) rfl ⟨rfl, (Below.refl _ _).alloc (Nat.le_refl _) _⟩
  have g : ¬ (20 : Int) < (l.length : Int) := by omega
  cases hw : wordS name
  · have ec : findC l name = 5 := by simp [findC, h20, hw]
    have ev : findV l name = 0 := by simp [findV, ec]
    rw [ec, ev]
    have HW : Hid (wordS name = false) := hw
    have HS : Hid (SetIs w) := hset
    clear ec ev hw hset hi
    go_enter Tryz.func28, Tryz.ntmps28
    go_wp2_with fail
    refine (implIsWord_set name _ (HS.out.below ((Below.refl _ _).alloc (Nat.le_refl _) _))).mono ?_
    rintro e w1 ⟨rfl, hb1⟩
    rw [HW.out]
    rw [World.size_alloc] at hb1
    obtain ⟨hz, p0, p1, f0, f1, kb⟩ := int_room hb1
    obtain ⟨r0, r1⟩ := two_set (v0 := .int .i64 5) (v1 := .int .i64 0) p0 p1
    clear hb1
    go_wp2
    exact bodyPost_ret (v := .agg #[.int .i64 5, .int .i64 0]) (by simp [results, Tryz.results28, go_sem, r0, r1]) rfl ⟨rfl, (kb.setCell (Nat.le_refl _) _).setCell (Nat.le_refl _) _⟩
  · exact implFind_word w a cap l name hset h20 hw hi
end Go.Proofs.YtgfbahjpaaanoaaGreatDoor
/-
  A region that draws its order, whose last operation waits for all others: what is held of the world is held behind each operation but that last one.
-/
namespace Go.Proofs.YtgfbahjpaaanoaaGreatDoor
open Go Go.ChangeShapes Go.WideShapes Go.ChangeAt Go.RowKit
section
variable {P : Program} {ops : Array Oper} {Q : Exit → Act → World → Prop} {S : World → Prop} {m : Nat}
/-- Whatever may come up; behind it S is shown, but where it was operation m. -/
def butLast (P : Program) (ops : Array Oper) (Q : Exit → Act → World → Prop) (S : World → Prop) (m : Nat) : Nat → Array Bool → Act → World → Prop
  | 0, done, a, w => Region.ready .any ops done = [] ∧ Q .normal a w
  | n + 1, done, a, w => (Region.ready .any ops done = [] → Q .normal a w) ∧
      ∀ i ∈ Region.ready .any ops done, wpOp P ops Q i (fun a' w' => (i = m ∨ S w') ∧ butLast P ops Q S m n (done.setIfInBounds i true) a' w') a w
theorem butLast_any : ∀ (n : Nat) (done : Array Bool) (a : Act) (w : World), butLast P ops Q S m n done a w → wpAny P .any ops Q n done a w := by
  intro n
  induction n with
  | zero => intro done a w h; exact h
  | succ n ih => intro done a w h; exact ⟨h.1, fun i hi => wpOp_mono (fun a' w' k => ih _ a' w' k.2) (h.2 i hi)⟩
theorem ready_not_done {done : Array Bool} {i : Nat} (h : i ∈ Region.ready .any ops done) (k : done.getD i false = true) : False := by
  have q := (mem_ready.1 h).1
  rcases Nat.lt_or_ge i done.size with z | z
  · simp [z] at q k
    rw [q] at k
    cases k
  · simp [Array.getElem?_eq_none z] at k
/-- While operation i has not come up, one that waits for it cannot. -/
theorem waits_not {done : Array Bool} {i j : Nat} (hi : i ∈ Region.ready .any ops done) (hj : j ∈ Region.ready .any ops done) (hw : Region.waitsFor .any ops j i = true) : False := by
  obtain ⟨oj, hoj, e, he, hb, rfl⟩ := Region.waitsFor_spec hw
  obtain ⟨_, oj', hoj', hall⟩ := mem_ready.1 hj
  rw [hoj] at hoj'
  cases hoj'
  exact ready_not_done hi (hall e he hb)
/-- One that yields in every world that meets S may be taken first, if the last one waits for it. -/
theorem butLast_first {i : Nat} {oi : Oper} {v : Value} (hi : ops[i]? = some oi) (hsel : ∀ (j : Nat) (o : Oper) cs b, ops[j]? = some o → o.op ≠ .select cs b)
    (hw : Region.waitsFor .any ops m i = true) (hQ : ∀ c a w, Q (.panic c) (a.put oi.dst v) w → Q (.panic c) a w) :
    ∀ (n : Nat) (done : Array Bool) (a : Act) (w : World), (∀ j oj, ops[j]? = some oj → j ≠ i → done.getD j true = false → (∀ e ∈ oj.after, Region.binds .any e = true → e.on ≠ i) → oi.apart ops oj = true) →
      i ∈ Region.ready .any ops done → YieldsIf P ops S oi v a → S w → butLast P ops Q S m n (done.setIfInBounds i true) (a.put oi.dst v) w → butLast P ops Q S m (n + 1) done a w := by
  intro n
  induction n with
  | zero =>
    intro done a w _ hr hy hS H
    refine ⟨fun z => (by rw [z] at hr; cases hr), fun j hj => ?_⟩
    by_cases e : j = i
    · rw [e]; exact hy.wpOp hi hS ⟨.inr hS, H⟩
    · have k := ready_mono hj e
      rw [H.1] at k
      cases k
  | succ n ih =>
    intro done a w hap hr hy hS H
    refine ⟨fun z => (by rw [z] at hr; cases hr), fun j hj => ?_⟩
    by_cases e : j = i
    · rw [e]; exact hy.wpOp hi hS ⟨.inr hS, H⟩
    · have hjm : j ≠ m := fun q => waits_not hr hj (by rw [q]; exact hw)
      obtain ⟨hun, oj, hoj, hall⟩ := mem_ready.1 hj
      have hno : ∀ x ∈ oj.after, Region.binds .any x = true → x.on ≠ i := fun x hx hb q => ready_not_done hr (by have := hall x hx hb; rwa [q] at this)
      have step := wpOp_putIf hoj (hap j oj hoj e hun hno) (fun cs b => hsel i oi cs b hi) (fun cs b => hsel j oj cs b hoj) hQ hy (H.2 j (ready_mono hj e))
      refine wpOp_mono (fun a' w' k => ?_) step
      have hS' : S w' := k.2.1.resolve_left hjm
      refine ⟨.inr hS', ih (done.setIfInBounds j true) a' w' (fun c oc hc hci hcu hcn => hap c oc hc hci ?_ hcn) (ready_mono hr (Ne.symm e)) k.1 hS' ?_⟩
      · by_cases q : j = c
        · rw [← q]; exact hun
        · rwa [getD_set_ne true q] at hcu
      · rw [Array.setIfInBounds_comm _ _ e]
        exact k.2.2
theorem butLast_take {i : Nat} {oi : Oper} {v : Value} {n : Nat} {done : Array Bool} {a : Act} {w : World} (hi : ops[i]? = some oi) (hs : Region.noSelect ops = true)
    (hf : Region.free .any ops done i = true) (hr : (Region.ready .any ops done).contains i = true) (hw : Region.waitsFor .any ops m i = true)
    (hQ : ∀ c a w, Q (.panic c) (a.put oi.dst v) w → Q (.panic c) a w) (hy : YieldsIf P ops S oi v a) (hS : S w)
    (h : butLast P ops Q S m n (done.setIfInBounds i true) (a.put oi.dst v) w) : butLast P ops Q S m (n + 1) done a w :=
  butLast_first hi (Region.noSelect_spec hs) hw hQ n done a w (Region.free_spec hi hf) (by simpa using hr) hy hS h
/-- Only one may come up. -/
theorem butLast_one {i n : Nat} {o : Oper} {done : Array Bool} {a : Act} {w : World} (ho : ops[i]? = some o) (hr : Region.ready .any ops done = [i])
    (h : ∀ K : Act → World → Prop, (∀ a' w', (i = m ∨ S w') → butLast P ops Q S m n (done.setIfInBounds i true) a' w' → K a' w') → if Region.wanted o (yielded ops a.tmps) = true then Oper.wp P o a w K Q else K (a.put o.dst undef) w) :
    butLast P ops Q S m (n + 1) done a w := by
  refine ⟨fun z => (by rw [z] at hr; cases hr), fun j hj => ?_⟩
  rw [hr, List.mem_singleton] at hj
  rw [hj]
  exact wpOp_step ho fun K hK => h K fun a' w' h1 h2 => hK a' w' ⟨h1, h2⟩
theorem butLast_end {done : Array Bool} {a : Act} {w : World} {n : Nat} (hr : Region.ready .any ops done = []) (h : Q .normal a w) : butLast P ops Q S m n done a w := by
  cases n with
  | zero => exact ⟨hr, h⟩
  | succ n => exact ⟨fun _ => h, by rw [hr]; simp⟩
theorem wp_region_last (S : World → Prop) (m : Nat) {id : Nat} {a : Act} {w : World} (hm : P.follows .mixedOrders = true) (h : butLast P ops Q S m ops.size (Array.replicate ops.size false) a w.drew) : (Code.region id ops true).wp P Q a w :=
  wp_region_any hm (butLast_any _ _ _ _ h)
end
end Go.Proofs.YtgfbahjpaaanoaaGreatDoor
/-
  PolicyOf: the program's answer.
-/
namespace Go.Proofs.YtgfbahjpaaanoaaGreatDoor
open Go.ChangeShapes Go.WideShapes Go.ChangeAt Go.RowKit Go.Sort
def tabL : List Value := [.string ⟨#[110, 111, 45, 115, 116, 111, 114, 101]⟩, .func (.func 55) #[] #[], .string ⟨#[112, 114, 105, 118, 97, 116, 101]⟩, .func (.func 55) #[] #[], .string ⟨#[110, 111, 45, 99, 97, 99, 104, 101]⟩, .func (.func 56) #[] #[], .string ⟨#[109, 117, 115, 116, 45, 114, 101, 118, 97, 108, 105, 100, 97, 116, 101]⟩, .func (.func 57) #[] #[], .string ⟨#[112, 114, 111, 120, 121, 45, 114, 101, 118, 97, 108, 105, 100, 97, 116, 101]⟩, .func (.func 57) #[] #[], .string ⟨#[109, 97, 120, 45, 97, 103, 101]⟩, .func (.func 58) #[] #[], .string ⟨#[115, 45, 109, 97, 120, 97, 103, 101]⟩, .func (.func 59) #[] #[], .string ⟨#[115, 116, 97, 108, 101, 45, 119, 104, 105, 108, 101, 45, 114, 101, 118, 97, 108, 105, 100, 97, 116, 101]⟩, .func (.func 60) #[] #[], .string ⟨#[115, 116, 97, 108, 101, 45, 105, 102, 45, 101, 114, 114, 111, 114]⟩, .func (.func 61) #[] #[]]
structure TabAt (X : World) (T : Nat) : Prop where
  at0 : ∀ (i : Nat) v, tabL[i]? = some v → X.cell? ⟨T, i, none⟩ = some v
  lt : T < X.heap.size
theorem TabAt.keep {X Y : World} {T : Nat} (h : TabAt X T) (hb : Below X.heap.size X Y) : TabAt Y T := ⟨fun i v hv => by rw [hb.cell (p := ⟨T, i, none⟩) h.lt]; exact h.at0 i v hv, Nat.lt_of_lt_of_le h.lt hb.size⟩
theorem TabAt.off {X : World} {T B i : Nat} {x : Value} (h : TabAt X T) (hn : B ≠ T) : TabAt (X.setCell ⟨B, i, none⟩ x) T := ⟨fun j v hv => by rw [World.cell?_setCell_other _ _ _ _ (by intro q; exact hn (congrArg Addr.block q))]; exact h.at0 j v hv, by simpa using h.lt⟩
theorem store_func (w : World) (a : Addr) (m : Mode) (f : Fn) : (store a (.func f #[] #[]) m).run Tryz.prog w = stored Tryz.prog w a (.func f #[] #[]) m := run_store Tryz.prog w a _ m rfl
theorem IR.off {X : World} {b B i : Nat} {v0 v1 x : Value} (k : IR X b v0 v1) (hn : B ≠ b) : IR (X.setCell ⟨B, i, none⟩ x) b v0 v1 :=
  ⟨by rw [World.cell?_setCell_other _ _ _ _ (by intro q; exact hn (congrArg Addr.block q))]; exact k.c0, by rw [World.cell?_setCell_other _ _ _ _ (by intro q; exact hn (congrArg Addr.block q))]; exact k.c1, fun o => by rw [World.frozen?_setCell]; exact k.fr o, by simpa using k.lt⟩
set_option maxRecDepth 100000 in
set_option maxHeartbeats 2000000 in
theorem policyWords_any (w : World) : Calls Tryz.prog 27 #[] w fun e w' => e = .returned (.slice (some ⟨w.heap.size, 0, none⟩) 9 9) ∧ TabAt w' w.heap.size ∧ Below w.heap.size w w' := by
  go_enter Tryz.func27, Tryz.ntmps27
  go_wp2
  go_ret
  refine ⟨rfl, ⟨fun i v hv => ?_, by simp⟩, (Below.refl _ _).alloc (Nat.le_refl _) _⟩
  rw [World.cell?_alloc_mark]
  simpa [tabL] using hv
/-- What stands while words turn a policy. -/
structure PJ (w : World) (P R T : Nat) (q : Pol) (ia : Option Addr) (n k : Nat) (L : List Rec) (X : World) : Prop where
  b : Below w.heap.size w X
  z : Z8 X w.heap.size (.int .i64 0) (.bool false) (.bool false) (.bool false) (.int .i64 0) (.int .i64 0) (.int .i64 0) (.int .i64 0)
  p : PolAt X P q.b0 q.b1 q.b2 q.l q.s q.e q.g
  r : IR X R (.int .i64 0) (.slice ia n k)
  o : OwnI X (P + 1) (.slice ia n k) L
  t : TabAt X T
  lw : w.heap.size < P
  lr : P ≠ R
  lt : P ≠ T
section
variable {w : World} {P R T : Nat} {p : Pol} {ia : Option Addr} {n k : Nat} {L : List Rec} {X Y : World}
theorem PJ.keep (j : PJ w P R T p ia n k L X) (hb : Below X.heap.size X Y) : PJ w P R T p ia n k L Y :=
  ⟨j.b.trans (hb.mono j.b.size), j.z.keep hb, j.p.keep hb, j.r.keep hb, j.o.below hb, j.t.keep hb, j.lw, j.lr, j.lt⟩
theorem PJ.its (j : PJ w P R T p ia n k L X) : n = L.length ∧ RecIn X ia L := by
  obtain ⟨a', c', h, hi⟩ := j.o.at
  simp only [Value.slice.injEq] at h
  exact ⟨h.2.1, by rw [h.1]; exact hi⟩
theorem PJ.put (j : PJ w P R T p ia n k L X) (q : Pol) : PJ w P R T q ia n k L (((((((X.setCell ⟨P, 0, none⟩ (.bool q.b0)).setCell ⟨P, 1, none⟩ (.bool q.b1)).setCell ⟨P, 2, none⟩ (.bool q.b2)).setCell ⟨P, 3, none⟩ (.int .i64 q.l)).setCell ⟨P, 4, none⟩ (.int .i64 q.s)).setCell ⟨P, 5, none⟩ (.int .i64 q.e)).setCell ⟨P, 6, none⟩ (.int .i64 q.g)) := by
  have lw := j.lw
  have ne : P ≠ w.heap.size := by omega
  have bb : ∀ {X : World} (i : Nat) (x : Value), Below w.heap.size w X → Below w.heap.size w (X.setCell ⟨P, i, none⟩ x) := fun i x h => h.setCell (by show w.heap.size ≤ P; omega) _
  exact ⟨bb _ _ (bb _ _ (bb _ _ (bb _ _ (bb _ _ (bb _ _ (bb _ _ j.b)))))), ((((((j.z.off ne).off ne).off ne).off ne).off ne).off ne).off ne, ((((((j.p.set0 _).set1 _).set2 _).set3 _).set4 _).set5 _).set6 _,
    ((((((j.r.off j.lr).off j.lr).off j.lr).off j.lr).off j.lr).off j.lr).off j.lr, own_set (own_set (own_set (own_set (own_set (own_set (own_set j.o (by omega)) (by omega)) (by omega)) (by omega)) (by omega)) (by omega)) (by omega), ((((((j.t.off j.lt).off j.lt).off j.lt).off j.lt).off j.lt).off j.lt).off j.lt, j.lw, j.lr, j.lt⟩
end
/-- The result's block and the policy's. -/
structure PK2 (w : World) (P : Nat) (b0 b1 b2 : Bool) (l s e g : Int) (X : World) : Prop where
  b : Below w.heap.size w X
  z : Z8 X w.heap.size (.int .i64 0) (.bool false) (.bool false) (.bool false) (.int .i64 0) (.int .i64 0) (.int .i64 0) (.int .i64 0)
  p : PolAt X P b0 b1 b2 l s e g
theorem own_block_ge {X : World} {base : Nat} {ib io n k : Nat} {L : List Rec} (h : OwnI X base (.slice (some ⟨ib, io, none⟩) n k) L) : base ≤ ib := by
  obtain ⟨_, h | ⟨g, c, cur, e, hg, _⟩⟩ := h
  · exact absurd h.1 (by simp)
  · simp only [Value.slice.injEq, Option.some.injEq] at e
    have := congrArg Addr.block e.1
    simp only at this
    omega

theorem tab_row (j : Nat) (h : j < 9) : ∃ nm f, tabL[j * 2]? = some (.string nm) ∧ tabL[j * 2 + 1]? = some (.func (.func f) #[] #[]) ∧ nm = kName j ∧ (∀ (x y : Value) (W : World), (callFunc f #[x, y]).run Tryz.prog W = .ok (.enter f #[x, y]) W) ∧ (∀ b0 b1 b2 x3 x4 x5 x6 sd W, Calls Tryz.prog f #[.agg #[.bool b0, .bool b1, .bool b2, .int .i64 x3, .int .i64 x4, .int .i64 x5, .int .i64 x6], .int .i64 sd] W fun r w' => r = .returned (polV (turnP j ⟨b0, b1, b2, x3, x4, x5, x6⟩ sd)) ∧ Below W.heap.size W w') := by
  have hjs : j = 0 ∨ j = 1 ∨ j = 2 ∨ j = 3 ∨ j = 4 ∨ j = 5 ∨ j = 6 ∨ j = 7 ∨ j = 8 := by omega
  rcases hjs with rfl | rfl | rfl | rfl | rfl | rfl | rfl | rfl | rfl
  · exact ⟨_, _, rfl, rfl, rfl, fun x y W => by kernel_rfl, fun b0 b1 b2 x3 x4 x5 x6 sd W => withNoStore_any b0 b1 b2 x3 x4 x5 x6 sd W⟩
  · exact ⟨_, _, rfl, rfl, rfl, fun x y W => by kernel_rfl, fun b0 b1 b2 x3 x4 x5 x6 sd W => withNoStore_any b0 b1 b2 x3 x4 x5 x6 sd W⟩
  · exact ⟨_, _, rfl, rfl, rfl, fun x y W => by kernel_rfl, fun b0 b1 b2 x3 x4 x5 x6 sd W => withNoCache_any b0 b1 b2 x3 x4 x5 x6 sd W⟩
  · exact ⟨_, _, rfl, rfl, rfl, fun x y W => by kernel_rfl, fun b0 b1 b2 x3 x4 x5 x6 sd W => withMust_any b0 b1 b2 x3 x4 x5 x6 sd W⟩
  · exact ⟨_, _, rfl, rfl, rfl, fun x y W => by kernel_rfl, fun b0 b1 b2 x3 x4 x5 x6 sd W => withMust_any b0 b1 b2 x3 x4 x5 x6 sd W⟩
  · exact ⟨_, _, rfl, rfl, rfl, fun x y W => by kernel_rfl, fun b0 b1 b2 x3 x4 x5 x6 sd W => withLife_any b0 b1 b2 x3 x4 x5 x6 sd W⟩
  · exact ⟨_, _, rfl, rfl, rfl, fun x y W => by kernel_rfl, fun b0 b1 b2 x3 x4 x5 x6 sd W => withSharedLife_any b0 b1 b2 x3 x4 x5 x6 sd W⟩
  · exact ⟨_, _, rfl, rfl, rfl, fun x y W => by kernel_rfl, fun b0 b1 b2 x3 x4 x5 x6 sd W => withSwr_any b0 b1 b2 x3 x4 x5 x6 sd W⟩
  · exact ⟨_, _, rfl, rfl, rfl, fun x y W => by kernel_rfl, fun b0 b1 b2 x3 x4 x5 x6 sd W => withSie_any b0 b1 b2 x3 x4 x5 x6 sd W⟩
theorem step_no {L : List Rec} {k : Nat} {q : Pol} (h : findR (kName k) 0 L < 0) : stepP L k q = q := by
  have : hasR (kName k) L = false := by simp only [hasR, decide_eq_false_iff_not]; omega
  rw [stepP, this]; rfl
theorem step_yes {L : List Rec} {k j : Nat} {q : Pol} {r : Rec} (hv : ∀ r ∈ L, r.has = false → r.value = ⟨#[]⟩) (h : findR (kName k) 0 L = (j : Int)) (hr : L[j]? = some r) : stepP L k q = turnP k q (secD r.value) := by
  have : hasR (kName k) L = true := by simp only [hasR, decide_eq_true_eq]; omega
  rw [stepP, this, if_pos rfl, secR_value hv h hr]
theorem find_no {L : List Rec} {nm : ByteArray} (hl : L.length ≤ 20) (hw : wordS nm = true) (h : findR nm 0 L < 0) : findC L nm = 4 := by rw [findC, if_neg (by omega), if_pos hw, if_pos h]
theorem find_yes {L : List Rec} {nm : ByteArray} (hl : L.length ≤ 20) (hw : wordS nm = true) (h : ¬ findR nm 0 L < 0) : findC L nm = 0 ∧ findV L nm = findR nm 0 L := by
  have c : findC L nm = 0 := by rw [findC, if_neg (by omega), if_pos hw, if_neg h]
  exact ⟨c, by rw [findV, if_pos c]⟩
theorem kName_word : ∀ k, wordS (kName k) = true
  | 0 | 1 | 2 | 3 | 4 | 5 | 6 | 7 => by decide +kernel
  | _ + 8 => by show wordS kSie = true; decide +kernel
set_option maxRecDepth 100000 in
set_option linter.unusedSimpArgs false in
set_option maxHeartbeats 40000000 in
theorem implPolicy_ok (w : World) (a : Option Addr) (cap : Nat) (l : List Hdr) (h0 : headsC l = 0) (hcap : l.length ≤ cap) (hset : SetIs w) (hpow : num.PowIs w) (hi : HdsIn w a l) :
    Calls Tryz.prog 7 #[.slice a l.length cap] w fun e w' => e = .returned (polRV 0 (polOf l)) ∧ Below w.heap.size w w' := by
  obtain ⟨h20, hz⟩ := first_sizes h0
  have HA : Hid (∀ W, Below w.heap.size w W → Calls Tryz.prog 22 #[.slice a l.length cap] W fun e w' => e = .returned (.int .i64 0) ∧ Below W.heap.size W w') := fun W hb => by
    have := implHFault_any W a cap l (by omega) (hset.below hb) (hi.keep hb)
    rw [h0] at this
    exact this
  have HF : Hid (∀ W, Below w.heap.size w W → Calls Tryz.prog 23 #[.slice a l.length cap, .string ⟨#[65, 103, 101]⟩] W fun e w' => e = .returned (.tuple #[.string (firstV ageN l), .bool (firstB ageN l)]) ∧ Below W.heap.size W w') := fun W hb => by
    have := firstValue_any W a cap l ⟨#[65, 103, 101]⟩ h20 hz (by decide) (hi.keep hb)
    rw [ageI_low] at this
    exact this
  have HI : Hid (∀ W, Below w.heap.size w W → Calls Tryz.prog 25 #[.slice a l.length cap, .string ⟨#[67, 97, 99, 104, 101, 45, 67, 111, 110, 116, 114, 111, 108]⟩] W fun e w' => (∃ ia n k, e = .returned (.agg #[.int .i64 (parseC (underT ccN l)), .slice ia n k]) ∧ OwnI w' W.heap.size (.slice ia n k) (parseL (underT ccN l))) ∧ Below W.heap.size W w') := fun W hb => by
    have := itemsUnder_any W a cap l ⟨#[67, 97, 99, 104, 101, 45, 67, 111, 110, 116, 114, 111, 108]⟩ h0 ccI_word hcap (hset.below hb) (hi.keep hb)
    rw [ccI_low] at this
    refine this.mono ?_
    rintro e w' ⟨⟨v, rfl, ho⟩, hb⟩
    obtain ⟨ia, k, rfl, _⟩ := ho.at
    exact ⟨⟨ia, _, k, rfl, ho⟩, hb⟩
  have HX : Hid (∀ W, Below w.heap.size w W → Calls Tryz.prog 26 #[.slice a l.length cap] W fun e w' => e = .returned (.int .i64 (expD l)) ∧ Below W.heap.size W w') := fun W hb => lifeByDates_any W a cap l h0 (hpow.below hb) (hi.keep hb)
  have HFI : Hid (∀ W ia k nm, Below w.heap.size w W → RecIn W ia (parseL (underT ccN l)) → Calls Tryz.prog 28 #[.slice ia (parseL (underT ccN l)).length k, .string nm] W fun e w' => e = .returned (.agg #[.int .i64 (findC (parseL (underT ccN l)) nm), .int .i64 (findV (parseL (underT ccN l)) nm)]) ∧ Below W.heap.size W w') := fun W ia k nm hb h => implFind_any W ia k _ nm (hset.below hb) h
  have HNV : Hid ((∀ r ∈ parseL (underT ccN l), r.has = false → r.value = ⟨#[]⟩) ∧ (parseL (underT ccN l)).length ≤ 20) := ⟨fun r hr => parse_novalue hr, parseL_len _⟩
  have HP0 : Hid (parseC (underT ccN l) = 0 → polOf l = foldP (parseL (underT ccN l)) ⟨false, false, false, expD l, 0, 0, ageD l⟩ 9) := fun h => pol_ok h
  have HP1 : Hid (¬ parseC (underT ccN l) = 0 → polOf l = ⟨true, false, false, 0, 0, 0, ageD l⟩) := fun h => pol_bad h
  have HAG := age_first l
  clear hi hz h0 h20 hcap hset hpow
  generalize polOf l = PO at *
  generalize ageD l = ag at *
  generalize expD l = xd at *
  generalize firstB ageN l = ab at *
  generalize firstV ageN l = av at *
  generalize parseC (underT ccN l) = pc at *
  generalize parseL (underT ccN l) = L at *
  generalize l.length = ln at *
  have HSP : Hid (∀ W, Calls Tryz.prog 24 #[.string av] W fun e w' => e = .returned (.int .i64 ag) ∧ Below W.heap.size W w') := fun W => by rw [HAG]; exact spanIn_any av W
  clear HAG
  have HZ0 : Hid (Z8 (w.alloc (.cells #[.int .i64 0, .bool false, .bool false, .bool false, .int .i64 0, .int .i64 0, .int .i64 0, .int .i64 0] 29)) w.heap.size (.int .i64 0) (.bool false) (.bool false) (.bool false) (.int .i64 0) (.int .i64 0) (.int .i64 0) (.int .i64 0)) := Z8.new w _ _ _ _ _ _ _ _ _
  have HB0 : Hid (Below w.heap.size w (w.alloc (.cells #[.int .i64 0, .bool false, .bool false, .bool false, .int .i64 0, .int .i64 0, .int .i64 0, .int .i64 0] 29))) := (Below.refl _ _).alloc (Nat.le_refl _) _
  go_enter Tryz.func7, Tryz.ntmps7
  go_wp2_with fail
  refine (HA.out _ HB0.out).mono ?_
  rintro e w1 ⟨rfl, hb1⟩
  have HB1 : Hid (Below w.heap.size w w1) := HB0.out.trans (hb1.mono HB0.out.size)
  have HZ1 : Hid (Z8 w1 w.heap.size (.int .i64 0) (.bool false) (.bool false) (.bool false) (.int .i64 0) (.int .i64 0) (.int .i64 0) (.int .i64 0)) := HZ0.out.keep hb1
  clear hb1 HB0 HZ0 HA
  go_wp2_with fail
  refine (HF.out _ HB1.out).mono ?_
  rintro e w2 ⟨rfl, hb2⟩
  have HB2 : Hid (Below w.heap.size w w2) := HB1.out.trans (hb2.mono HB1.out.size)
  have HZ2 : Hid (Z8 w2 w.heap.size (.int .i64 0) (.bool false) (.bool false) (.bool false) (.int .i64 0) (.int .i64 0) (.int .i64 0) (.int .i64 0)) := HZ1.out.keep hb2
  clear hb2 HB1 HZ1 HF
  go_wp2_with fail
  refine (HSP.out _).mono ?_
  rintro e w3 ⟨rfl, hb3⟩
  have HB3 : Hid (Below w.heap.size w w3) := HB2.out.trans (hb3.mono HB2.out.size)
  have HZ3 : Hid (Z8 w3 w.heap.size (.int .i64 0) (.bool false) (.bool false) (.bool false) (.int .i64 0) (.int .i64 0) (.int .i64 0) (.int .i64 0)) := HZ2.out.keep hb3
  clear hb3 HB2 HZ2 HSP
  have al3 : Below w3.heap.size w3 (w3.alloc (.cells #[.bool false, .bool false, .bool false, .int .i64 0, .int .i64 0, .int .i64 0, .int .i64 ag] 27)) := (Below.refl _ _).alloc (Nat.le_refl _) _
  obtain ⟨v3, hv3⟩ : ∃ X, Hid (X = w3.alloc (.cells #[.bool false, .bool false, .bool false, .int .i64 0, .int .i64 0, .int .i64 0, .int .i64 ag] 27)) := ⟨_, rfl⟩
  have F3 : Hid (Below w.heap.size w v3 ∧ Z8 v3 w.heap.size (.int .i64 0) (.bool false) (.bool false) (.bool false) (.int .i64 0) (.int .i64 0) (.int .i64 0) (.int .i64 0) ∧ PolAt v3 w3.heap.size false false false 0 0 0 ag ∧ w.heap.size < w3.heap.size) := by
    rw [hv3.out]
    exact ⟨HB3.out.trans (al3.mono HB3.out.size), HZ3.out.keep al3, PolAt.new w3 _ _ _ _ _ _ _ _, HZ3.out.lt⟩
  clear al3 HB3 HZ3
  go_upto_region 6 with fail
  rw [← hv3.out]
  clear hv3
  generalize w3.heap.size = P at *
  clear w3
  go_wp2_with fail
  refine (HI.out _ F3.out.1).mono ?_
  rintro e w4 ⟨⟨ia, n, k, rfl, ho⟩, hb4⟩
  have al4 : Below w4.heap.size w4 (w4.alloc (.cells #[.int .i64 pc, .slice ia n k] 56)) := (Below.refl _ _).alloc (Nat.le_refl _) _
  obtain ⟨v4, hv4⟩ : ∃ X, Hid (X = w4.alloc (.cells #[.int .i64 pc, .slice ia n k] 56)) := ⟨_, rfl⟩
  have F4 : Hid (Below w.heap.size w v4 ∧ Z8 v4 w.heap.size (.int .i64 0) (.bool false) (.bool false) (.bool false) (.int .i64 0) (.int .i64 0) (.int .i64 0) (.int .i64 0) ∧ PolAt v4 P false false false 0 0 0 ag ∧ w.heap.size < P ∧ IR v4 w4.heap.size (.int .i64 pc) (.slice ia n k) ∧ OwnI v4 (P + 1) (.slice ia n k) L ∧ P < w4.heap.size) := by
    rw [hv4.out]
    obtain ⟨f1, f2, f3, f4⟩ := F3.out
    have b4 := f1.trans (hb4.mono f1.size)
    exact ⟨b4.trans (al4.mono b4.size), (f2.keep hb4).keep al4, (f3.keep hb4).keep al4, f4, IR.new w4 _ _ _, (ho.below al4).lower f3.lt, (f3.keep hb4).lt⟩
  clear al4 F3 hb4 ho HI
  try clear v3
  go_upto_region 7 with fail
  rw [← hv4.out]
  clear hv4
  generalize w4.heap.size = R at *
  clear w4
  have r0 := F4.out.2.2.2.2.1.c0
  by_cases hp : pc = 0
  · subst hp
    have HPO : Hid (PO = foldP L ⟨false, false, false, xd, 0, 0, ag⟩ 9) := HP0.out rfl
    clear HP0 HP1
    go_wp2_with fail
    clear r0
    refine (HX.out _ F4.out.1).mono ?_
    rintro e w5 ⟨rfl, hb5⟩
    have F5 : Hid (Below w.heap.size w w5 ∧ Z8 w5 w.heap.size (.int .i64 0) (.bool false) (.bool false) (.bool false) (.int .i64 0) (.int .i64 0) (.int .i64 0) (.int .i64 0) ∧ PolAt w5 P false false false 0 0 0 ag ∧ w.heap.size < P ∧ IR w5 R (.int .i64 0) (.slice ia n k) ∧ OwnI w5 (P + 1) (.slice ia n k) L ∧ P < R) := by
      obtain ⟨f1, f2, f3, f4, f5, f6, f7⟩ := F4.out
      exact ⟨f1.trans (hb5.mono f1.size), f2.keep hb5, f3.keep hb5, f4, f5.keep hb5, f6.below hb5, f7⟩
    clear hb5 F4 HX
    have y3 := F5.out.2.2.1.c3
    have yf := F5.out.2.2.1.fr 3
    obtain ⟨v5, hv5⟩ : ∃ X, Hid (X = w5.setCell ⟨P, 3, none⟩ (.int .i64 xd)) := ⟨_, rfl⟩
    have F6 : Hid (Below w.heap.size w v5 ∧ Z8 v5 w.heap.size (.int .i64 0) (.bool false) (.bool false) (.bool false) (.int .i64 0) (.int .i64 0) (.int .i64 0) (.int .i64 0) ∧ PolAt v5 P false false false xd 0 0 ag ∧ w.heap.size < P ∧ IR v5 R (.int .i64 0) (.slice ia n k) ∧ OwnI v5 (P + 1) (.slice ia n k) L ∧ P < R) := by
      rw [hv5.out]
      obtain ⟨f1, f2, f3, f4, f5, f6, f7⟩ := F5.out
      exact ⟨f1.setCell (by show w.heap.size ≤ P; omega) _, f2.off (by omega), f3.set3 _, f4, f5.off (by omega), own_set f6 (by omega), f7⟩
    clear F5
    go_upto_region 11 with fail
    rw [← hv5.out]
    clear hv5 y3 yf
    try clear w5
    go_wp2_with fail
    refine (policyWords_any _).mono ?_
    rintro e w6 ⟨rfl, ht6, hb6⟩
    have J0 : Hid (PJ w P R v5.heap.size ⟨false, false, false, xd, 0, 0, ag⟩ ia n k L w6) := by
      obtain ⟨f1, f2, f3, f4, f5, f6, f7⟩ := F6.out
      exact ⟨f1.trans (hb6.mono f1.size), f2.keep hb6, f3.keep hb6, f5.keep hb6, f6.below hb6, ht6, f4, by omega, by have := f3.lt; omega⟩
    clear ht6 hb6 F6
    generalize v5.heap.size = T at *
    clear v5
    have HN : Hid (n = L.length) := J0.out.its.1
    have HFJ : Hid (∀ W nm, Below w.heap.size w W → RecIn W ia L → Calls Tryz.prog 28 #[.slice ia n k, .string nm] W fun e w' => e = .returned (.agg #[.int .i64 (findC L nm), .int .i64 (findV L nm)]) ∧ Below W.heap.size W w') := fun W nm hb h => by
      have := HFI.out W ia k nm hb h
      rw [← HN.out] at this
      exact this
    clear HFI
    go_wp2_with fail
    go_loopw [9, 10, 38] (fun _ _ i wr => ∃ j : Nat, j ≤ 9 ∧ i = .int .i64 (j : Int) ∧ PJ w P R T (foldP L ⟨false, false, false, xd, 0, 0, ag⟩ j) ia n k L wr) (fun _ _ i _ => 9 - (intOf i).toNat)
    case atStart => exact ⟨0, Nat.zero_le _, rfl, J0.out⟩
    case round =>
      obtain ⟨j, hj, rfl, hJ⟩ := hrel
      have J1 : Hid (PJ w P R T (foldP L ⟨false, false, false, xd, 0, 0, ag⟩ j) ia n k L wr) := hJ
      clear hJ J0
      have hsf := store_func
      by_cases h9 : j < 9
      · obtain ⟨nm, f, t0, t1, hnm, hcf, hct⟩ := tab_row j h9
        have HCF : Hid (∀ (x y : Value) (W : World), (callFunc f #[x, y]).run Tryz.prog W = .ok (.enter f #[x, y]) W) := hcf
        have HCT : Hid (∀ b0 b1 b2 x3 x4 x5 x6 sd W, Calls Tryz.prog f #[.agg #[.bool b0, .bool b1, .bool b2, .int .i64 x3, .int .i64 x4, .int .i64 x5, .int .i64 x6], .int .i64 sd] W fun r w' => r = .returned (polV (turnP j ⟨b0, b1, b2, x3, x4, x5, x6⟩ sd)) ∧ Below W.heap.size W w') := hct
        have HNM : Hid (nm = kName j) := hnm
        have c0 : wr.cell? ⟨T, j * 2, none⟩ = some (.string nm) := J1.out.t.at0 (j * 2) _ t0
        have c1 : wr.cell? ⟨T, j * 2 + 1, none⟩ = some (.func (.func f) #[] #[]) := J1.out.t.at0 (j * 2 + 1) _ t1
        have g0 : (0 : Int) ≤ (j : Int) := by omega
        have g1 : (j : Int) < 9 := by omega
        clear hct hcf hnm t0 t1
        have HQ : Hid (foldP L ⟨false, false, false, xd, 0, 0, ag⟩ (j + 1) = stepP L j (foldP L ⟨false, false, false, xd, 0, 0, ag⟩ j)) := rfl
        generalize hqq : foldP L ⟨false, false, false, xd, 0, 0, ag⟩ j = q at *
        clear hqq
        obtain ⟨b0, b1, b2, x3, x4, x5, x6⟩ := q
        have al1 : Below wr.heap.size wr (wr.alloc (.cells #[.string nm, .func (.func f) #[] #[]] 62)) := (Below.refl _ _).alloc (Nat.le_refl _) _
        obtain ⟨v1, hv1⟩ : ∃ X, Hid (X = wr.alloc (.cells #[.string nm, .func (.func f) #[] #[]] 62)) := ⟨_, rfl⟩
        have G1 : Hid (PJ w P R T ⟨b0, b1, b2, x3, x4, x5, x6⟩ ia n k L v1 ∧ IR v1 wr.heap.size (.string nm) (.func (.func f) #[] #[]) ∧ P < wr.heap.size) := by
          rw [hv1.out]
          exact ⟨J1.out.keep al1, IR.new wr _ _ _, J1.out.p.lt⟩
        clear J1 al1
        go_upto_region 14 with fail
        rw [← hv1.out]
        clear hv1 c0 c1
        generalize wr.heap.size = B9 at *
        try clear wr
        have d0 := G1.out.2.1.c0
        have d1 := G1.out.1.r.c1
        have HC := HFJ.out v1 nm G1.out.1.b G1.out.1.its.2
        clear HFJ
        go_wp2_with fail
        clear d0 d1
        refine HC.mono ?_
        rintro e w2 ⟨rfl, hb2⟩
        clear HC
        obtain ⟨fc, hfc⟩ : ∃ x, Hid (findC L nm = x) := ⟨_, rfl⟩
        obtain ⟨fv, hfv⟩ : ∃ x, Hid (findV L nm = x) := ⟨_, rfl⟩
        rw [hfc.out, hfv.out]
        have al2 : Below w2.heap.size w2 (w2.alloc (.cells #[.int .i64 fc, .int .i64 fv] 34)) := (Below.refl _ _).alloc (Nat.le_refl _) _
        obtain ⟨v2, hv2⟩ : ∃ X, Hid (X = w2.alloc (.cells #[.int .i64 fc, .int .i64 fv] 34)) := ⟨_, rfl⟩
        have G2 : Hid (PJ w P R T ⟨b0, b1, b2, x3, x4, x5, x6⟩ ia n k L v2 ∧ IR v2 B9 (.string nm) (.func (.func f) #[] #[]) ∧ P < B9 ∧ IR v2 w2.heap.size (.int .i64 fc) (.int .i64 fv) ∧ P < w2.heap.size) := by
          rw [hv2.out]
          obtain ⟨g1, g2, g3⟩ := G1.out
          exact ⟨(g1.keep hb2).keep al2, (g2.keep hb2).keep al2, g3, IR.new w2 _ _ _, (g1.keep hb2).p.lt⟩
        clear G1 hb2 al2
        try clear v1
        go_upto_region 15 with fail
        rw [← hv2.out]
        clear hv2
        generalize w2.heap.size = B10 at *
        try clear w2
        have d0 := G2.out.2.2.2.1.c0
        by_cases hf : findR nm 0 L < 0
        · have HQ2 : Hid (foldP L ⟨false, false, false, xd, 0, 0, ag⟩ (j + 1) = ⟨b0, b1, b2, x3, x4, x5, x6⟩) := HQ.out.trans (step_no (k := j) (by rw [← HNM.out]; exact hf))
          have e4 : fc = 4 := hfc.out.symm.trans (find_no HNV.out.2 (by rw [HNM.out]; exact kName_word j) hf)
          subst e4
          clear HQ hfc hfv hf
          go_wp2_with fail
          go_roundw
          case rel => exact ⟨j + 1, by omega, by go_num, by rw [HQ2.out]; exact G2.out.1⟩
          case measure => simp [intOf]; omega
        · obtain ⟨m, hm⟩ : ∃ m : Nat, findR nm 0 L = (m : Int) := ⟨(findR nm 0 L).toNat, by omega⟩
          have hml : m < L.length := by have := findR_lt nm L 0; omega
          obtain ⟨⟨rn, rh, rv⟩, hr⟩ : ∃ r, L[m]? = some r := ⟨L[m], List.getElem?_eq_getElem hml⟩
          have hm2 : findR (kName j) 0 L = (m : Int) := by rw [← HNM.out]; exact hm
          have hsy : stepP L j ⟨b0, b1, b2, x3, x4, x5, x6⟩ = turnP j ⟨b0, b1, b2, x3, x4, x5, x6⟩ (secD rv) := step_yes (k := j) (j := m) (q := ⟨b0, b1, b2, x3, x4, x5, x6⟩) (r := ⟨rn, rh, rv⟩) HNV.out.1 hm2 hr
          have HQ2 : Hid (foldP L ⟨false, false, false, xd, 0, 0, ag⟩ (j + 1) = turnP j ⟨b0, b1, b2, x3, x4, x5, x6⟩ (secD rv)) := by
            have q := HQ.out
            rw [hsy] at q
            exact q
          clear hm2 hsy
          have hwn : wordS nm = true := by rw [HNM.out]; exact kName_word j
          have fy := find_yes HNV.out.2 hwn hf
          have e4 : fc = 0 := hfc.out.symm.trans fy.1
          have e5 : fv = (m : Int) := hfv.out.symm.trans (fy.2.trans hm)
          clear fy hwn
          subst e4
          subst e5
          obtain ⟨ib, io, rfl, hat⟩ : ∃ ib io, ia = some ⟨ib, io, none⟩ ∧ ItemsAt v2 ib io L := by
            rcases G2.out.1.its.2 with h | ⟨b, off, e, h⟩
            · subst h; simp at hml
            · exact ⟨b, off, e, h⟩
          have hmn : (m : Int) < (n : Int) := by have := HN.out; omega
          have hm0 : (0 : Int) ≤ (m : Int) := by omega
          have HV : Hid (v2.cell? ⟨ib, io + m * 3 + 2, none⟩ = some (.string rv)) := (hat m _ hr).2.2
          clear HQ hfc hfv hf hat hr hm hml
          have HSV : Hid (∀ W, Calls Tryz.prog 24 #[.string rv] W fun e w' => e = .returned (.int .i64 (secD rv)) ∧ Below W.heap.size W w') := fun W => spanIn_any rv W
          generalize secD rv = sd at *
          have HTV : Hid (∀ W, Calls Tryz.prog f #[.agg #[.bool b0, .bool b1, .bool b2, .int .i64 x3, .int .i64 x4, .int .i64 x5, .int .i64 x6], .int .i64 sd] W fun r w' => r = .returned (polV (turnP j ⟨b0, b1, b2, x3, x4, x5, x6⟩ sd)) ∧ Below W.heap.size W w') := fun W => HCT.out b0 b1 b2 x3 x4 x5 x6 sd W
          clear HCT
          generalize turnP j ⟨b0, b1, b2, x3, x4, x5, x6⟩ sd = q2 at *
          obtain ⟨n0, n1, n2, n3, n4, n5, n6⟩ := q2
          have HKP : Hid (∀ X, Below v2.heap.size v2 X → PolAt X P b0 b1 b2 x3 x4 x5 x6) := fun X hb => G2.out.1.p.keep hb
          have HKS : Hid (∀ X, Below v2.heap.size v2 X → (fun X : World => X.cell? ⟨B9, 1, none⟩ = some (.func (.func f) #[] #[]) ∧ (X.cell? ⟨P, 0, none⟩ = some (.bool b0) ∧ X.cell? ⟨P, 1, none⟩ = some (.bool b1) ∧ X.cell? ⟨P, 2, none⟩ = some (.bool b2) ∧ X.cell? ⟨P, 3, none⟩ = some (.int .i64 x3) ∧ X.cell? ⟨P, 4, none⟩ = some (.int .i64 x4) ∧ X.cell? ⟨P, 5, none⟩ = some (.int .i64 x5) ∧ X.cell? ⟨P, 6, none⟩ = some (.int .i64 x6)) ∧ X.cell? ⟨R, 1, none⟩ = some (.slice (some ⟨ib, io, none⟩) n k) ∧ X.cell? ⟨B10, 1, none⟩ = some (.int .i64 (m : Int)) ∧ X.cell? ⟨ib, io + m * 3 + 2, none⟩ = some (.string rv)) X) := fun X hb => ⟨(G2.out.2.1.keep hb).c1, ⟨(HKP.out X hb).c0, (HKP.out X hb).c1, (HKP.out X hb).c2, (HKP.out X hb).c3, (HKP.out X hb).c4, (HKP.out X hb).c5, (HKP.out X hb).c6⟩, (G2.out.1.r.keep hb).c1, (G2.out.2.2.2.1.keep hb).c1, by rw [hb.cell (block_lt_of_cell HV.out)]; exact HV.out⟩
          have B0 : Hid (Below v2.heap.size v2 v2.drew) := (Below.refl _ _).drew
          have HS0 : Hid ((fun X : World => X.cell? ⟨B9, 1, none⟩ = some (.func (.func f) #[] #[]) ∧ (X.cell? ⟨P, 0, none⟩ = some (.bool b0) ∧ X.cell? ⟨P, 1, none⟩ = some (.bool b1) ∧ X.cell? ⟨P, 2, none⟩ = some (.bool b2) ∧ X.cell? ⟨P, 3, none⟩ = some (.int .i64 x3) ∧ X.cell? ⟨P, 4, none⟩ = some (.int .i64 x4) ∧ X.cell? ⟨P, 5, none⟩ = some (.int .i64 x5) ∧ X.cell? ⟨P, 6, none⟩ = some (.int .i64 x6)) ∧ X.cell? ⟨R, 1, none⟩ = some (.slice (some ⟨ib, io, none⟩) n k) ∧ X.cell? ⟨B10, 1, none⟩ = some (.int .i64 (m : Int)) ∧ X.cell? ⟨ib, io + m * 3 + 2, none⟩ = some (.string rv)) v2.drew) := HKS.out _ B0.out
          go_upto_region 16 with fail
          clear d0
          refine wp_region_last (fun X : World => X.cell? ⟨B9, 1, none⟩ = some (.func (.func f) #[] #[]) ∧ (X.cell? ⟨P, 0, none⟩ = some (.bool b0) ∧ X.cell? ⟨P, 1, none⟩ = some (.bool b1) ∧ X.cell? ⟨P, 2, none⟩ = some (.bool b2) ∧ X.cell? ⟨P, 3, none⟩ = some (.int .i64 x3) ∧ X.cell? ⟨P, 4, none⟩ = some (.int .i64 x4) ∧ X.cell? ⟨P, 5, none⟩ = some (.int .i64 x5) ∧ X.cell? ⟨P, 6, none⟩ = some (.int .i64 x6)) ∧ X.cell? ⟨R, 1, none⟩ = some (.slice (some ⟨ib, io, none⟩) n k) ∧ X.cell? ⟨B10, 1, none⟩ = some (.int .i64 (m : Int)) ∧ X.cell? ⟨ib, io + m * 3 + 2, none⟩ = some (.string rv)) 12 (by kernel_rfl) ?_
          refine butLast_take (i := 0) (v := .pointer (some ⟨B9, 1, none⟩)) rfl (by kernel_rfl) (by kernel_rfl) (by kernel_rfl) (by kernel_rfl) (fun _ _ _ h => h) (Or.inl ⟨by kernel_rfl, ?_⟩) HS0.out ?_
          · rintro X ⟨s1, ⟨p0, p1, p2, p3, p4, p5, p6⟩, s2, s3, s4⟩
            go_simp
          try simp only [Act.put, List.setIfInBounds_toArray, List.set_cons_zero, List.set_cons_succ]
          refine butLast_take (i := 1) (v := .func (.func f) #[] #[]) rfl (by kernel_rfl) (by kernel_rfl) (by kernel_rfl) (by kernel_rfl) (fun _ _ _ h => h) (Or.inl ⟨by kernel_rfl, ?_⟩) HS0.out ?_
          · rintro X ⟨s1, ⟨p0, p1, p2, p3, p4, p5, p6⟩, s2, s3, s4⟩
            go_simp
          try simp only [Act.put, List.setIfInBounds_toArray, List.set_cons_zero, List.set_cons_succ]
          refine butLast_take (i := 2) (v := .agg #[.bool b0, .bool b1, .bool b2, .int .i64 x3, .int .i64 x4, .int .i64 x5, .int .i64 x6]) rfl (by kernel_rfl) (by kernel_rfl) (by kernel_rfl) (by kernel_rfl) (fun _ _ _ h => h) (Or.inl ⟨by kernel_rfl, ?_⟩) HS0.out ?_
          · rintro X ⟨s1, ⟨p0, p1, p2, p3, p4, p5, p6⟩, s2, s3, s4⟩
            go_simp
          try simp only [Act.put, List.setIfInBounds_toArray, List.set_cons_zero, List.set_cons_succ]
          refine butLast_take (i := 3) (v := .pointer (some ⟨R, 1, none⟩)) rfl (by kernel_rfl) (by kernel_rfl) (by kernel_rfl) (by kernel_rfl) (fun _ _ _ h => h) (Or.inl ⟨by kernel_rfl, ?_⟩) HS0.out ?_
          · rintro X ⟨s1, ⟨p0, p1, p2, p3, p4, p5, p6⟩, s2, s3, s4⟩
            go_simp
          try simp only [Act.put, List.setIfInBounds_toArray, List.set_cons_zero, List.set_cons_succ]
          refine butLast_take (i := 4) (v := .slice (some ⟨ib, io, none⟩) n k) rfl (by kernel_rfl) (by kernel_rfl) (by kernel_rfl) (by kernel_rfl) (fun _ _ _ h => h) (Or.inl ⟨by kernel_rfl, ?_⟩) HS0.out ?_
          · rintro X ⟨s1, ⟨p0, p1, p2, p3, p4, p5, p6⟩, s2, s3, s4⟩
            go_simp
          try simp only [Act.put, List.setIfInBounds_toArray, List.set_cons_zero, List.set_cons_succ]
          refine butLast_take (i := 5) (v := .pointer (some ⟨B10, 1, none⟩)) rfl (by kernel_rfl) (by kernel_rfl) (by kernel_rfl) (by kernel_rfl) (fun _ _ _ h => h) (Or.inl ⟨by kernel_rfl, ?_⟩) HS0.out ?_
          · rintro X ⟨s1, ⟨p0, p1, p2, p3, p4, p5, p6⟩, s2, s3, s4⟩
            go_simp
          try simp only [Act.put, List.setIfInBounds_toArray, List.set_cons_zero, List.set_cons_succ]
          refine butLast_take (i := 6) (v := .int .i64 (m : Int)) rfl (by kernel_rfl) (by kernel_rfl) (by kernel_rfl) (by kernel_rfl) (fun _ _ _ h => h) (Or.inl ⟨by kernel_rfl, ?_⟩) HS0.out ?_
          · rintro X ⟨s1, ⟨p0, p1, p2, p3, p4, p5, p6⟩, s2, s3, s4⟩
            go_simp
          try simp only [Act.put, List.setIfInBounds_toArray, List.set_cons_zero, List.set_cons_succ]
          refine butLast_take (i := 7) (v := .pointer (some ⟨ib, io + m * 3, none⟩)) rfl (by kernel_rfl) (by kernel_rfl) (by kernel_rfl) (by kernel_rfl) (fun _ _ _ h => h) (Or.inl ⟨by kernel_rfl, ?_⟩) HS0.out ?_
          · rintro X ⟨s1, ⟨p0, p1, p2, p3, p4, p5, p6⟩, s2, s3, s4⟩
            go_simp
          try simp only [Act.put, List.setIfInBounds_toArray, List.set_cons_zero, List.set_cons_succ]
          refine butLast_take (i := 8) (v := .pointer (some ⟨ib, io + m * 3 + 2, none⟩)) rfl (by kernel_rfl) (by kernel_rfl) (by kernel_rfl) (by kernel_rfl) (fun _ _ _ h => h) (Or.inl ⟨by kernel_rfl, ?_⟩) HS0.out ?_
          · rintro X ⟨s1, ⟨p0, p1, p2, p3, p4, p5, p6⟩, s2, s3, s4⟩
            go_simp
          try simp only [Act.put, List.setIfInBounds_toArray, List.set_cons_zero, List.set_cons_succ]
          refine butLast_take (i := 9) (v := .string rv) rfl (by kernel_rfl) (by kernel_rfl) (by kernel_rfl) (by kernel_rfl) (fun _ _ _ h => h) (Or.inl ⟨by kernel_rfl, ?_⟩) HS0.out ?_
          · rintro X ⟨s1, ⟨p0, p1, p2, p3, p4, p5, p6⟩, s2, s3, s4⟩
            go_simp
          try simp only [Act.put, List.setIfInBounds_toArray, List.set_cons_zero, List.set_cons_succ]
          refine butLast_one (i := 10) rfl (by kernel_rfl) (fun K hK => ?_)
          go_simp
          refine (HSV.out _).mono ?_
          rintro e wa ⟨rfl, hba⟩
          have BA : Hid (Below v2.heap.size v2 wa) := B0.out.trans (hba.mono B0.out.size)
          clear hba
          refine hK _ _ (.inr (HKS.out _ BA.out)) ?_
          clear hK K
          try simp only [Act.put, List.setIfInBounds_toArray, List.set_cons_zero, List.set_cons_succ]
          refine butLast_one (i := 11) rfl (by kernel_rfl) (fun K hK => ?_)
          have hcf := HCF.out
          go_simp
          refine (HTV.out _).mono ?_
          rintro e wb ⟨rfl, hbb⟩
          have BB : Hid (Below v2.heap.size v2 wb) := BA.out.trans (hbb.mono BA.out.size)
          clear hbb
          refine hK _ _ (.inr (HKS.out _ BB.out)) ?_
          clear hK K
          try simp only [Act.put, List.setIfInBounds_toArray, List.set_cons_zero, List.set_cons_succ]
          have HPB := HKP.out _ BB.out
          have f0 := HPB.c0
          have f1 := HPB.c1
          have f2 := HPB.c2
          have f3 := HPB.c3
          have f4 := HPB.c4
          have f5 := HPB.c5
          have f6 := HPB.c6
          have z0 := HPB.fr 0
          have z1 := HPB.fr 1
          have z2 := HPB.fr 2
          have z3 := HPB.fr 3
          have z4 := HPB.fr 4
          have z5 := HPB.fr 5
          have z6 := HPB.fr 6
          clear HPB
          refine butLast_one (i := 12) rfl (by kernel_rfl) (fun K hK => ?_)
          have hpv : polV ⟨n0, n1, n2, n3, n4, n5, n6⟩ = .agg #[.bool n0, .bool n1, .bool n2, .int .i64 n3, .int .i64 n4, .int .i64 n5, .int .i64 n6] := rfl
          rw [hpv]
          clear hpv
          go_simp
          refine hK _ _ (.inl rfl) ?_
          clear hK K
          refine butLast_end (by kernel_rfl) ?_
          have JE : Hid _ := (G2.out.1.keep BB.out).put ⟨n0, n1, n2, n3, n4, n5, n6⟩
          clear f0 f1 f2 f3 f4 f5 f6 z0 z1 z2 z3 z4 z5 z6
          go_wp2_with fail
          go_roundw
          case rel => exact ⟨j + 1, by omega, by go_num, by rw [HQ2.out]; exact JE.out⟩
          case measure => simp [intOf]; omega
      · obtain rfl : j = 9 := by omega
        have HR9 : Hid (PO = foldP L ⟨false, false, false, xd, 0, 0, ag⟩ 9) := HPO.out
        generalize foldP L ⟨false, false, false, xd, 0, 0, ag⟩ 9 = q at *
        obtain ⟨b0, b1, b2, x3, x4, x5, x6⟩ := q
        clear HPO
        go_upto_region 18 with fail
        have ZZ : Hid _ := J1.out.z.done J1.out.b 0 b0 b1 b2 x3 x4 x5 x6
        have z0 := J1.out.z.c0
        have z1 := J1.out.z.c1
        have z2 := J1.out.z.c2
        have z3 := J1.out.z.c3
        have z4 := J1.out.z.c4
        have z5 := J1.out.z.c5
        have z6 := J1.out.z.c6
        have z7 := J1.out.z.c7
        have zf0 := J1.out.z.fr 0
        have zf1 := J1.out.z.fr 1
        have zf2 := J1.out.z.fr 2
        have zf3 := J1.out.z.fr 3
        have zf4 := J1.out.z.fr 4
        have zf5 := J1.out.z.fr 5
        have zf6 := J1.out.z.fr 6
        have zf7 := J1.out.z.fr 7
        have y0 := J1.out.p.c0
        have y1 := J1.out.p.c1
        have y2 := J1.out.p.c2
        have y3 := J1.out.p.c3
        have y4 := J1.out.p.c4
        have y5 := J1.out.p.c5
        have y6 := J1.out.p.c6
        go_wp2_with fail
        have r0 := ZZ.out.1.c0
        have r1 := ZZ.out.1.c1
        have r2 := ZZ.out.1.c2
        have r3 := ZZ.out.1.c3
        have r4 := ZZ.out.1.c4
        have r5 := ZZ.out.1.c5
        have r6 := ZZ.out.1.c6
        have r7 := ZZ.out.1.c7
        exact bodyPost_ret (v := .agg #[.int .i64 0, .bool b0, .bool b1, .bool b2, .int .i64 x3, .int .i64 x4, .int .i64 x5, .int .i64 x6]) (by simp [results, Tryz.results7, go_sem, r0, r1, r2, r3, r4, r5, r6, r7]) rfl ⟨polRV_ret rfl HR9.out, ZZ.out.2⟩
  · have HPX : Hid (PO = ⟨true, false, false, 0, 0, 0, ag⟩) := HP1.out hp
    have hn : (pc != 0) = true := by simpa using hp
    obtain ⟨f1, f2, f3, f4, f5, f6, f7⟩ := F4.out
    have y0 := f3.c0
    have yf := f3.fr 0
    obtain ⟨v5, hv5⟩ : ∃ X, Hid (X = v4.setCell ⟨P, 0, none⟩ (.bool true)) := ⟨_, rfl⟩
    have Q : Hid (PK2 w P true false false 0 0 0 ag v5) := by
      rw [hv5.out]
      exact ⟨f1.setCell (by show w.heap.size ≤ P; omega) _, f2.off (by omega), f3.set0 _⟩
    clear f1 f2 f3 f4 f5 f6 f7 F4 HP0 HP1
    go_upto_region 9 with fail
    rw [← hv5.out]
    clear hv5 y0 yf r0
    have ZZ : Hid _ := Q.out.z.done Q.out.b 0 true false false 0 0 0 ag
    have z0 := Q.out.z.c0
    have z1 := Q.out.z.c1
    have z2 := Q.out.z.c2
    have z3 := Q.out.z.c3
    have z4 := Q.out.z.c4
    have z5 := Q.out.z.c5
    have z6 := Q.out.z.c6
    have z7 := Q.out.z.c7
    have zf0 := Q.out.z.fr 0
    have zf1 := Q.out.z.fr 1
    have zf2 := Q.out.z.fr 2
    have zf3 := Q.out.z.fr 3
    have zf4 := Q.out.z.fr 4
    have zf5 := Q.out.z.fr 5
    have zf6 := Q.out.z.fr 6
    have zf7 := Q.out.z.fr 7
    have y0 := Q.out.p.c0
    have y1 := Q.out.p.c1
    have y2 := Q.out.p.c2
    have y3 := Q.out.p.c3
    have y4 := Q.out.p.c4
    have y5 := Q.out.p.c5
    have y6 := Q.out.p.c6
    go_wp2_with fail
    have r0 := ZZ.out.1.c0
    have r1 := ZZ.out.1.c1
    have r2 := ZZ.out.1.c2
    have r3 := ZZ.out.1.c3
    have r4 := ZZ.out.1.c4
    have r5 := ZZ.out.1.c5
    have r6 := ZZ.out.1.c6
    have r7 := ZZ.out.1.c7
    exact bodyPost_ret (v := .agg #[.int .i64 0, .bool true, .bool false, .bool false, .int .i64 0, .int .i64 0, .int .i64 0, .int .i64 ag]) (by simp [results, Tryz.results7, go_sem, r0, r1, r2, r3, r4, r5, r6, r7]) rfl ⟨polRV_ret rfl HPX.out, ZZ.out.2⟩
end Go.Proofs.YtgfbahjpaaanoaaGreatDoor
/-
  The laws' comparing of two lists of items that are alike.
-/
namespace Go.Proofs.YtgfbahjpaaanoaaGreatDoor
open Go.ChangeShapes Go.WideShapes Go.ChangeAt Go.RowKit Go.Sort
set_option maxRecDepth 100000 in
set_option maxHeartbeats 2000000 in
theorem eqHeaderS_same (w : World) (b1 o1 b2 o2 c1 c2 : Nat) (l : List Hdr) (hl : l.length ≤ 1048576) (h1 : HeadsAt w b1 o1 l) (h2 : HeadsAt w b2 o2 l) :
    Calls Tryz.prog 17 #[.slice (some ⟨b1, o1, none⟩) l.length c1, .slice (some ⟨b2, o2, none⟩) l.length c2] w fun e w' => e = .returned (.bool true) ∧ Below w.heap.size w w' := by
  have H1 : Hid (HeadsAt w b1 o1 l) := h1
  have H2 : Hid (HeadsAt w b2 o2 l) := h2
  clear h1 h2
  generalize hn : l.length = n at *
  have HN : Hid (l.length = n) := hn
  clear hn
  go_enter Tryz.func17, Tryz.ntmps17
  go_wp2_with fail
  go_loopw [5] (fun i wr => ∃ k : Nat, k ≤ n ∧ i = .int .i64 k ∧ Below w.heap.size w wr) (fun i _ => n - (intOf i).toNat)
  case atStart => exact ⟨0, Nat.zero_le _, rfl, Below.refl _ _⟩
  case round =>
    obtain ⟨k, hk, rfl, hb⟩ := hrel
    by_cases hlt : k < n
    · obtain ⟨r, hr⟩ : ∃ r, l[k]? = some r := ⟨l[k]'(by have := HN.out; omega), List.getElem?_eq_getElem _⟩
      obtain ⟨p1, p3⟩ := (H1.out.keep hb) k r hr
      obtain ⟨q1, q3⟩ := (H2.out.keep hb) k r hr
      have x1 := cell_regrown p1
      have x3 := cell_regrown p3
      have y1 := cell_regrown q1
      have y3 := cell_regrown q3
      have cE : ∀ d os, Calls Tryz.prog 42 #[.agg #[.string r.name, .string r.value], .agg #[.string r.name, .string r.value]] (grow (redrawn wr d) os) fun e w'' => e = .returned (.bool true) ∧ ∃ p : Regrown, w'' = grow (redrawn wr p.d) p.os := fun d os => Calls.regrown_of (eqHeader_same r _)
      have g0 : (0 : Int) ≤ k := by omega
      have g : (k : Int) < n := by omega
      clear hr p1 p3 q1 q3
      generalize r.name = rn at *
      generalize r.value = rv at *
      go_wp2_with fail
      refine wp_region_quiet_below (by kernel_rfl) (by kernel_rfl) ?_
      repeat (go_big_quiet_step ((go_at_call 42; exact cE _ _)))
      refine wpQuiet_nil ?_
      intro w2 hw2
      have hbb : Below w.heap.size w w2 := by
        obtain ⟨⟨d, os⟩, rfl⟩ := hw2
        exact hb.trans ((below_regrown wr d os).mono hb.size)
      clear x1 x3 y1 y3 cE hw2 hb
      go_wp2_with fail
      go_roundw
      case rel => exact ⟨k + 1, by omega, by go_num, hbb⟩
      case measure => simp [intOf]; omega
    · go_wp2_with fail
      go_ret
      exact ⟨rfl, hb⟩
end Go.Proofs.YtgfbahjpaaanoaaGreatDoor
/-
  Two text results that are alike.
-/
namespace Go.Proofs.YtgfbahjpaaanoaaGreatDoor
open Go.ChangeShapes Go.WideShapes Go.ChangeAt Go.RowKit
end Go.Proofs.YtgfbahjpaaanoaaGreatDoor
/-
  The law of EtagOf.
-/
namespace Go.Proofs.YtgfbahjpaaanoaaGreatDoor
open Go.ChangeShapes Go.WideShapes Go.ChangeAt Go.RowKit
end Go.Proofs.YtgfbahjpaaanoaaGreatDoor
