/-
  DateFault and SecondsOf, on both sides.
-/
import Derived.Test.YtibomkcbopkpkaaDoorDateOf
namespace Go.Proofs.YtibomkcbopkpkaaDoor
open Go.ChangeShapes Go.WideShapes Go.ChangeAt Go.RowKit
def dfC (y m d h i s : Int) : Int := if dateB y m d h i s = true then 0 else 3
theorem dfC_yes {y m d h i s : Int} (k : dateB y m d h i s = true) : dfC y m d h i s = 0 := by simp [dfC, k]
theorem dfC_no {y m d h i s : Int} (k : dateB y m d h i s = false) : dfC y m d h i s = 3 := by simp [dfC, k]
theorem dfC_day {y m d h i s : Int} (k : dayB y m d = false) : dfC y m d h i s = 3 := by simp [dfC, dateB, k]
theorem dfC_not {y m d h i s : Int} (k : ¬ DateOk y m d h i s) : dfC y m d h i s = 3 := by
  refine dfC_no ?_
  cases e : dateB y m d h i s
  · rfl
  · exact absurd (dateB_yes e) k
set_option maxHeartbeats 1000000 in
theorem specFault_any (y m d h i s : Int) (w : World) :
    Calls Tryd.prog 45 #[.agg #[.int .i64 y, .int .i64 m, .int .i64 d, .int .i64 h, .int .i64 i, .int .i64 s]] w fun e w' => e = .returned (.int .i64 (dfC y m d h i s)) ∧ Below w.heap.size w w' := by
  have H : Hid (∀ w, Calls Tryd.prog 96 #[.int .i64 y, .int .i64 m, .int .i64 d] w fun e w' => e = .returned (.bool (dayB y m d)) ∧ w' = w) := specDay_any y m d
  cases hk : dayB y m d
  · rw [dfC_day hk]
    rw [hk] at H
    clear hk
    go_enter Tryd.func45, Tryd.ntmps45
    go_wp2_with fail
    refine (H.out _).mono ?_
    rintro e w1 ⟨rfl, rfl⟩
    go_wp2
    go_ret
    exact ⟨rfl, (Below.refl _ _).alloc (Nat.le_refl _) _⟩
  have hd := dayB_yes hk
  rw [hk] at H
  clear hk
  by_cases ch : h < 0 ∨ 23 < h
  · rw [dfC_not (fun k => by have := k.h0; have := k.h1; omega)]
    have H1 : Hid (∀ w, Calls Tryd.prog 97 #[.int .i64 h, .int .i64 0, .int .i64 23] w fun e w' => e = .returned (.bool false) ∧ w' = w) := fun w => l1In_no h 0 23 w ch
    clear hd ch
    go_enter Tryd.func45, Tryd.ntmps45
    go_wp2_with fail
    refine (H.out _).mono ?_
    rintro e w1 ⟨rfl, rfl⟩
    go_wp2_with fail
    refine (H1.out _).mono ?_
    rintro e w1 ⟨rfl, rfl⟩
    go_wp2
    go_ret
    exact ⟨rfl, (Below.refl _ _).alloc (Nat.le_refl _) _⟩
  have H1 : Hid (∀ w, Calls Tryd.prog 97 #[.int .i64 h, .int .i64 0, .int .i64 23] w fun e w' => e = .returned (.bool true) ∧ w' = w) := fun w => l1In_yes h 0 23 w (by omega) (by omega)
  by_cases ci : i < 0 ∨ 59 < i
  · rw [dfC_not (fun k => by have := k.i0; have := k.i1; omega)]
    have H2 : Hid (∀ w, Calls Tryd.prog 97 #[.int .i64 i, .int .i64 0, .int .i64 59] w fun e w' => e = .returned (.bool false) ∧ w' = w) := fun w => l1In_no i 0 59 w ci
    clear hd ci ch
    go_enter Tryd.func45, Tryd.ntmps45
    go_wp2_with fail
    refine (H.out _).mono ?_
    rintro e w1 ⟨rfl, rfl⟩
    go_wp2_with fail
    refine (H1.out _).mono ?_
    rintro e w1 ⟨rfl, rfl⟩
    go_wp2_with fail
    refine (H2.out _).mono ?_
    rintro e w1 ⟨rfl, rfl⟩
    go_wp2
    go_ret
    exact ⟨rfl, (Below.refl _ _).alloc (Nat.le_refl _) _⟩
  have H2 : Hid (∀ w, Calls Tryd.prog 97 #[.int .i64 i, .int .i64 0, .int .i64 59] w fun e w' => e = .returned (.bool true) ∧ w' = w) := fun w => l1In_yes i 0 59 w (by omega) (by omega)
  by_cases cs : s < 0 ∨ 59 < s
  · rw [dfC_not (fun k => by have := k.s0; have := k.s1; omega)]
    have H3 : Hid (∀ w, Calls Tryd.prog 97 #[.int .i64 s, .int .i64 0, .int .i64 59] w fun e w' => e = .returned (.bool false) ∧ w' = w) := fun w => l1In_no s 0 59 w cs
    clear hd ci ch cs
    go_enter Tryd.func45, Tryd.ntmps45
    go_wp2_with fail
    refine (H.out _).mono ?_
    rintro e w1 ⟨rfl, rfl⟩
    go_wp2_with fail
    refine (H1.out _).mono ?_
    rintro e w1 ⟨rfl, rfl⟩
    go_wp2_with fail
    refine (H2.out _).mono ?_
    rintro e w1 ⟨rfl, rfl⟩
    go_wp2_with fail
    refine (H3.out _).mono ?_
    rintro e w1 ⟨rfl, rfl⟩
    go_wp2
    go_ret
    exact ⟨rfl, (Below.refl _ _).alloc (Nat.le_refl _) _⟩
  have H3 : Hid (∀ w, Calls Tryd.prog 97 #[.int .i64 s, .int .i64 0, .int .i64 59] w fun e w' => e = .returned (.bool true) ∧ w' = w) := fun w => l1In_yes s 0 59 w (by omega) (by omega)
  rw [dfC_yes (dateB_of ⟨hd, by omega, by omega, by omega, by omega, by omega, by omega⟩)]
  clear hd ci ch cs
  go_enter Tryd.func45, Tryd.ntmps45
  go_wp2_with fail
  refine (H.out _).mono ?_
  rintro e w1 ⟨rfl, rfl⟩
  go_wp2_with fail
  refine (H1.out _).mono ?_
  rintro e w1 ⟨rfl, rfl⟩
  go_wp2_with fail
  refine (H2.out _).mono ?_
  rintro e w1 ⟨rfl, rfl⟩
  go_wp2_with fail
  refine (H3.out _).mono ?_
  rintro e w1 ⟨rfl, rfl⟩
  go_wp2
  go_ret
  exact ⟨rfl, (Below.refl _ _).alloc (Nat.le_refl _) _⟩
set_option maxHeartbeats 2000000 in
theorem implFault_any (y m d h i s : Int) (w : World) :
    Calls Tryd.prog 44 #[.agg #[.int .i64 y, .int .i64 m, .int .i64 d, .int .i64 h, .int .i64 i, .int .i64 s]] w fun e w' => e = .returned (.int .i64 (dfC y m d h i s)) ∧ Below w.heap.size w w' := by
  have H : Hid (∀ w, Calls Tryd.prog 95 #[.int .i64 y, .int .i64 m, .int .i64 d] w fun e w' => e = .returned (.bool (dayB y m d)) ∧ w' = w) := implDay_any y m d
  cases hk : dayB y m d
  · rw [dfC_day hk]
    rw [hk] at H
    clear hk
    go_enter Tryd.func44, Tryd.ntmps44
    go_wp2_with fail
    refine (H.out _).mono ?_
    rintro e w1 ⟨rfl, rfl⟩
    go_wp2
    go_ret
    exact ⟨rfl, (Below.refl _ _).alloc (Nat.le_refl _) _⟩
  have hd := dayB_yes hk
  rw [hk] at H
  clear hk
  have hc : h < 0 ∨ (¬ h < 0 ∧ 23 < h) ∨ (¬ h < 0 ∧ ¬ 23 < h ∧ i < 0) ∨ (¬ h < 0 ∧ ¬ 23 < h ∧ ¬ i < 0 ∧ 59 < i) ∨ (¬ h < 0 ∧ ¬ 23 < h ∧ ¬ i < 0 ∧ ¬ 59 < i ∧ s < 0) ∨ (¬ h < 0 ∧ ¬ 23 < h ∧ ¬ i < 0 ∧ ¬ 59 < i ∧ ¬ s < 0 ∧ 59 < s) ∨ (¬ h < 0 ∧ ¬ 23 < h ∧ ¬ i < 0 ∧ ¬ 59 < i ∧ ¬ s < 0 ∧ ¬ 59 < s) := by omega
  have HF : Hid (¬ (¬ h < 0 ∧ ¬ 23 < h ∧ ¬ i < 0 ∧ ¬ 59 < i ∧ ¬ s < 0 ∧ ¬ 59 < s) → dfC y m d h i s = 3) := fun k => dfC_not (fun k => by have := k.h0; have := k.h1; have := k.i0; have := k.i1; have := k.s0; have := k.s1; omega)
  have HT : Hid ((¬ h < 0 ∧ ¬ 23 < h ∧ ¬ i < 0 ∧ ¬ 59 < i ∧ ¬ s < 0 ∧ ¬ 59 < s) → dfC y m d h i s = 0) := fun k => dfC_yes (dateB_of ⟨hd, by omega, by omega, by omega, by omega, by omega, by omega⟩)
  clear hd
  rcases hc with c | ⟨c1, c⟩ | ⟨c1, c2, c⟩ | ⟨c1, c2, c3, c⟩ | ⟨c1, c2, c3, c4, c⟩ | ⟨c1, c2, c3, c4, c5, c⟩ | ⟨c1, c2, c3, c4, c5, c6⟩
  all_goals
    go_enter Tryd.func44, Tryd.ntmps44
    go_wp2_with fail
    refine (H.out _).mono ?_
    rintro e w1 ⟨rfl, rfl⟩
    go_wp2
    go_ret
    exact ⟨ret_int (by first | rw [HF.out (by omega)] | rw [HT.out (by omega)]), (Below.refl _ _).alloc (Nat.le_refl _) _⟩
end Go.Proofs.YtibomkcbopkpkaaDoor
