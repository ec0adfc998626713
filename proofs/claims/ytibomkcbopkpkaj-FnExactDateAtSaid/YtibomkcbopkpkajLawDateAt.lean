/-
  The law of DateAt.
-/
import Derived.Test.YtibomkcbopkpkajDateAtI
namespace Go.Proofs.Ytibomkcbopkpkaj
open Go.ChangeShapes Go.WideShapes Go.ChangeAt Go.RowKit
namespace lawDateAt
set_option maxHeartbeats 400000 in
theorem eq_same (c y m d h i s : Int) (w : World) :
    Calls Try.prog 24 #[.agg #[.int .i64 c, .int .i64 y, .int .i64 m, .int .i64 d, .int .i64 h, .int .i64 i, .int .i64 s], .agg #[.int .i64 c, .int .i64 y, .int .i64 m, .int .i64 d, .int .i64 h, .int .i64 i, .int .i64 s]] w fun e w' => e = .returned (.bool true) ∧ Below w.heap.size w w' := by
  have HD : Hid (∀ w, Calls Try.prog 42 #[.agg #[.int .i64 y, .int .i64 m, .int .i64 d, .int .i64 h, .int .i64 i, .int .i64 s], .agg #[.int .i64 y, .int .i64 m, .int .i64 d, .int .i64 h, .int .i64 i, .int .i64 s]] w fun e w' => e = .returned (.bool true) ∧ Below w.heap.size w w') := by
    intro w
    go_enter Try.func42, Try.ntmps42
    go_wp2
    go_ret
    exact ⟨rfl, ((Below.refl _ _).alloc (Nat.le_refl _) _).alloc (by simp) _⟩
  go_enter Try.func24, Try.ntmps24
  go_wp2_with fail
  refine (HD.out _).mono ?_
  rintro e w1 ⟨rfl, hb1⟩
  have K1 : Hid (Below w.heap.size w w1) := (((Below.refl _ _).alloc (Nat.le_refl _) _).alloc (by simp) _).trans (hb1.mono (by simp; omega))
  clear hb1
  go_wp2
  go_ret
  exact ⟨rfl, K1.out⟩
set_option maxHeartbeats 1000000 in
theorem law (n : Int) (c y m d h i s : Int) (w : World)
    (h10 : Hid (∀ w, Calls Try.prog 22 #[.int .i64 n] w fun e w' => e = .returned (.agg #[.int .i64 c, .int .i64 y, .int .i64 m, .int .i64 d, .int .i64 h, .int .i64 i, .int .i64 s]) ∧ Below w.heap.size w w'))
    (h11 : Hid (∀ w, Calls Try.prog 23 #[.int .i64 n] w fun e w' => e = .returned (.agg #[.int .i64 c, .int .i64 y, .int .i64 m, .int .i64 d, .int .i64 h, .int .i64 i, .int .i64 s]) ∧ Below w.heap.size w w')) :
    Calls Try.prog 7 #[.int .i64 n] w fun e w' => e = .returned (.bool true) ∧ Below w.heap.size w w' := by
  go_enter Try.func7, Try.ntmps7
  go_wp2_with fail
  refine (h10.out _).mono ?_
  rintro e w1 ⟨rfl, hb1⟩
  have K1 : Hid (Below w.heap.size w w1) := hb1
  clear hb1
  go_wp2_with fail
  refine (h11.out _).mono ?_
  rintro e w2 ⟨rfl, hb2⟩
  have hz2 := hb2.size
  obtain ⟨hc2, hf2⟩ := bcell hb2
  simp only [World.size_alloc] at hz2
  have hz3 : w1.heap.size < w2.heap.size := by omega
  have K2 : Hid (Below w.heap.size w w2) := (K1.out.alloc K1.out.size _).trans (hb2.mono (by have := K1.out.size; simp; omega))
  clear hb2
  go_wp2_with fail
  refine (eq_same _ _ _ _ _ _ _ _).mono ?_
  rintro e w3 ⟨rfl, hb3⟩
  have hz4 := hb3.size
  simp only [World.size_alloc] at hz4
  have K3 : Hid (Below w.heap.size w w3) := (K2.out.alloc K2.out.size _).trans (hb3.mono (by have := K2.out.size; simp; omega))
  clear hb3
  go_wp2
  go_ret
  exact ⟨rfl, K3.out⟩
end lawDateAt
set_option maxHeartbeats 1000000 in
theorem specDateAt_bad (n : Int) (w : World) (hk : knownB n = false) :
    Calls Try.prog 22 #[.int .i64 n] w fun e w' => e = .returned (.agg #[.int .i64 3, .int .i64 0, .int .i64 0, .int .i64 0, .int .i64 0, .int .i64 0, .int .i64 0]) ∧ Below w.heap.size w w' := by
  have H : Hid (∀ w, Calls Try.prog 38 #[.int .i64 n] w fun e w' => e = .returned (.bool (knownB n)) ∧ w' = w) := specKnown_any n
  rw [hk] at H
  clear hk
  go_enter Try.func22, Try.ntmps22
  go_wp2_with fail
  refine (H.out _).mono ?_
  rintro e w1 ⟨rfl, rfl⟩
  go_wp2
  exact bodyPost_ret (v := .agg #[.int .i64 3, .int .i64 0, .int .i64 0, .int .i64 0, .int .i64 0, .int .i64 0, .int .i64 0]) (by simp [results, Try.results22, go_sem]) rfl ⟨rfl, (Below.refl _ _).alloc (Nat.le_refl _) _⟩
set_option maxHeartbeats 1000000 in
theorem implDateAt_bad (n : Int) (w : World) (hk : knownB n = false) :
    Calls Try.prog 23 #[.int .i64 n] w fun e w' => e = .returned (.agg #[.int .i64 3, .int .i64 0, .int .i64 0, .int .i64 0, .int .i64 0, .int .i64 0, .int .i64 0]) ∧ Below w.heap.size w w' := by
  have H : Hid (∀ w, Calls Try.prog 40 #[.int .i64 n] w fun e w' => e = .returned (.bool (knownB n)) ∧ w' = w) := implKnown_any n
  rw [hk] at H
  clear hk
  go_enter Try.func23, Try.ntmps23
  go_wp2_with fail
  refine (H.out _).mono ?_
  rintro e w1 ⟨rfl, rfl⟩
  go_wp2
  exact bodyPost_ret (v := .agg #[.int .i64 3, .int .i64 0, .int .i64 0, .int .i64 0, .int .i64 0, .int .i64 0, .int .i64 0]) (by simp [results, Try.results23, go_sem]) rfl ⟨rfl, (Below.refl _ _).alloc (Nat.le_refl _) _⟩
set_option maxHeartbeats 2000000 in
theorem specDateAt_any (n : Int) (w : World) (h0 : 0 ≤ n) (h1 : n ≤ 253402300799) :
    Calls Try.prog 22 #[.int .i64 n] w fun e w' => e = .returned (.agg #[.int .i64 0, .int .i64 (dY n), .int .i64 (dM n), .int .i64 (dD n), .int .i64 (dH n), .int .i64 (dI n), .int .i64 (dS n)]) ∧ Below w.heap.size w w' := by
  have H : Hid (∀ w, Calls Try.prog 38 #[.int .i64 n] w fun e w' => e = .returned (.bool true) ∧ w' = w) := by
    have := specKnown_any n
    rw [knownB_of h0 h1] at this
    exact this
  have H2 : Hid (∀ w, Calls Try.prog 39 #[.int .i64 n] w fun e w' => e = .returned (.agg #[.int .i64 (dY n), .int .i64 (dM n), .int .i64 (dD n), .int .i64 (dH n), .int .i64 (dI n), .int .i64 (dS n)]) ∧ Below w.heap.size w w') := fun w => specAt_any n w h0 h1
  generalize dY n = y at *
  generalize dM n = m at *
  generalize dD n = d at *
  generalize dH n = h at *
  generalize dI n = i at *
  generalize dS n = s at *
  go_enter Try.func22, Try.ntmps22
  go_wp2_with fail
  refine (H.out _).mono ?_
  rintro e w1 ⟨rfl, rfl⟩
  go_wp2_with fail
  refine (H2.out _).mono ?_
  rintro e w2 ⟨rfl, hb2⟩
  have hz := hb2.size
  simp only [World.size_alloc] at hz
  have q0 := hb2.cell (p := ⟨w.heap.size, 0, none⟩) (by simp)
  have q1 := hb2.cell (p := ⟨w.heap.size, 1, none⟩) (by simp)
  have q2 := hb2.cell (p := ⟨w.heap.size, 2, none⟩) (by simp)
  have q3 := hb2.cell (p := ⟨w.heap.size, 3, none⟩) (by simp)
  have q4 := hb2.cell (p := ⟨w.heap.size, 4, none⟩) (by simp)
  have q5 := hb2.cell (p := ⟨w.heap.size, 5, none⟩) (by simp)
  have q6 := hb2.cell (p := ⟨w.heap.size, 6, none⟩) (by simp)
  have g0 := hb2.frozen (p := ⟨w.heap.size, 0, none⟩) (by simp)
  have g1 := hb2.frozen (p := ⟨w.heap.size, 1, none⟩) (by simp)
  have g2 := hb2.frozen (p := ⟨w.heap.size, 2, none⟩) (by simp)
  have g3 := hb2.frozen (p := ⟨w.heap.size, 3, none⟩) (by simp)
  have g4 := hb2.frozen (p := ⟨w.heap.size, 4, none⟩) (by simp)
  have g5 := hb2.frozen (p := ⟨w.heap.size, 5, none⟩) (by simp)
  have g6 := hb2.frozen (p := ⟨w.heap.size, 6, none⟩) (by simp)
  simp at q0 q1 q2 q3 q4 q5 q6 g0 g1 g2 g3 g4 g5 g6
  have K2 : Hid (Below w.heap.size w w2) := ((Below.refl _ _).alloc (Nat.le_refl _) _).trans (hb2.mono (by simp))
  clear hb2
  go_wp2
  refine bodyPost_ret (v := .agg #[.int .i64 0, .int .i64 y, .int .i64 m, .int .i64 d, .int .i64 h, .int .i64 i, .int .i64 s]) ?_ rfl ⟨rfl, ?_⟩
  · simp [results, Try.results22, go_sem, q0, q1, q2, q3, q4, q5, q6]
  · exact ((((((K2.out.setCell (Nat.le_refl _) _).setCell (Nat.le_refl _) _).setCell (Nat.le_refl _) _).setCell (Nat.le_refl _) _).setCell (Nat.le_refl _) _).setCell (Nat.le_refl _) _).setCell (Nat.le_refl _) _
theorem lawDateAt.whole (n : Int) (w : World) :
    Calls Try.prog 7 #[.int .i64 n] w fun e w' => e = .returned (.bool true) ∧ Below w.heap.size w w' := by
  cases hk : knownB n
  · exact lawDateAt.law n _ _ _ _ _ _ _ w (fun w => specDateAt_bad n w hk) (fun w => implDateAt_bad n w hk)
  · have ⟨h0, h1⟩ := knownB_yes hk
    exact lawDateAt.law n _ _ _ _ _ _ _ w (fun w => specDateAt_any n w h0 h1) (fun w => implAt_any n w h0 h1)
end Go.Proofs.Ytibomkcbopkpkaj
