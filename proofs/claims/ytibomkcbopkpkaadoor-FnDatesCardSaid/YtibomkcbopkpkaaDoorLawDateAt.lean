/-
  The law of DateAt.
-/
import Derived.Test.YtibomkcbopkpkaaDoorDateAtI
namespace Go.Proofs.YtibomkcbopkpkaaDoor
open Go.ChangeShapes Go.WideShapes Go.ChangeAt Go.RowKit
namespace lawDateAt
end lawDateAt
set_option maxHeartbeats 1000000 in
theorem specDateAt_bad (n : Int) (w : World) (hk : knownB n = false) :
    Calls Tryd.prog 46 #[.int .i64 n] w fun e w' => e = .returned (.agg #[.int .i64 3, .int .i64 0, .int .i64 0, .int .i64 0, .int .i64 0, .int .i64 0, .int .i64 0]) ∧ Below w.heap.size w w' := by
  have H : Hid (∀ w, Calls Tryd.prog 98 #[.int .i64 n] w fun e w' => e = .returned (.bool (knownB n)) ∧ w' = w) := specKnown_any n
  rw [hk] at H
  clear hk
  go_enter Tryd.func46, Tryd.ntmps46
  go_wp2_with fail
  refine (H.out _).mono ?_
  rintro e w1 ⟨rfl, rfl⟩
  go_wp2
  exact bodyPost_ret (v := .agg #[.int .i64 3, .int .i64 0, .int .i64 0, .int .i64 0, .int .i64 0, .int .i64 0, .int .i64 0]) (by simp [results, Tryd.results46, go_sem]) rfl ⟨rfl, (Below.refl _ _).alloc (Nat.le_refl _) _⟩
set_option maxHeartbeats 1000000 in
theorem implDateAt_bad (n : Int) (w : World) (hk : knownB n = false) :
    Calls Tryd.prog 41 #[.int .i64 n] w fun e w' => e = .returned (.agg #[.int .i64 3, .int .i64 0, .int .i64 0, .int .i64 0, .int .i64 0, .int .i64 0, .int .i64 0]) ∧ Below w.heap.size w w' := by
  have H : Hid (∀ w, Calls Tryd.prog 88 #[.int .i64 n] w fun e w' => e = .returned (.bool (knownB n)) ∧ w' = w) := implKnown_any n
  rw [hk] at H
  clear hk
  go_enter Tryd.func41, Tryd.ntmps41
  go_wp2_with fail
  refine (H.out _).mono ?_
  rintro e w1 ⟨rfl, rfl⟩
  go_wp2
  exact bodyPost_ret (v := .agg #[.int .i64 3, .int .i64 0, .int .i64 0, .int .i64 0, .int .i64 0, .int .i64 0, .int .i64 0]) (by simp [results, Tryd.results41, go_sem]) rfl ⟨rfl, (Below.refl _ _).alloc (Nat.le_refl _) _⟩
set_option maxHeartbeats 2000000 in
theorem specDateAt_any (n : Int) (w : World) (h0 : 0 ≤ n) (h1 : n ≤ 253402300799) :
    Calls Tryd.prog 46 #[.int .i64 n] w fun e w' => e = .returned (.agg #[.int .i64 0, .int .i64 (dY n), .int .i64 (dM n), .int .i64 (dD n), .int .i64 (dH n), .int .i64 (dI n), .int .i64 (dS n)]) ∧ Below w.heap.size w w' := by
  have H : Hid (∀ w, Calls Tryd.prog 98 #[.int .i64 n] w fun e w' => e = .returned (.bool true) ∧ w' = w) := by
    have := specKnown_any n
    rw [knownB_of h0 h1] at this
    exact this
  have H2 : Hid (∀ w, Calls Tryd.prog 99 #[.int .i64 n] w fun e w' => e = .returned (.agg #[.int .i64 (dY n), .int .i64 (dM n), .int .i64 (dD n), .int .i64 (dH n), .int .i64 (dI n), .int .i64 (dS n)]) ∧ Below w.heap.size w w') := fun w => specAt_any n w h0 h1
  generalize dY n = y at *
  generalize dM n = m at *
  generalize dD n = d at *
  generalize dH n = h at *
  generalize dI n = i at *
  generalize dS n = s at *
  go_enter Tryd.func46, Tryd.ntmps46
  go_wp2_with fail
  refine (H.out _).mono ?_
  rintro e w1 ⟨rfl, rfl⟩
  go_wp2_with fail
  refine (H2.out _).mono ?_
  rintro e w2 ⟨rfl, hb2⟩
  have hz := hb2.size
  simp only [World.size_alloc] at hz
  have q0 := hb2.cell (p := ⟨w.heap.size, 0, none⟩) (by simp)
  have q1 := hb2.cell (p := ⟨w.heap.size, 1, none⟩) (by simp)
  have q2 := hb2.cell (p := ⟨w.heap.size, 2, none⟩) (by simp)
  have q3 := hb2.cell (p := ⟨w.heap.size, 3, none⟩) (by simp)
  have q4 := hb2.cell (p := ⟨w.heap.size, 4, none⟩) (by simp)
  have q5 := hb2.cell (p := ⟨w.heap.size, 5, none⟩) (by simp)
  have q6 := hb2.cell (p := ⟨w.heap.size, 6, none⟩) (by simp)
  have g0 := hb2.frozen (p := ⟨w.heap.size, 0, none⟩) (by simp)
  have g1 := hb2.frozen (p := ⟨w.heap.size, 1, none⟩) (by simp)
  have g2 := hb2.frozen (p := ⟨w.heap.size, 2, none⟩) (by simp)
  have g3 := hb2.frozen (p := ⟨w.heap.size, 3, none⟩) (by simp)
  have g4 := hb2.frozen (p := ⟨w.heap.size, 4, none⟩) (by simp)
  have g5 := hb2.frozen (p := ⟨w.heap.size, 5, none⟩) (by simp)
  have g6 := hb2.frozen (p := ⟨w.heap.size, 6, none⟩) (by simp)
  simp at q0 q1 q2 q3 q4 q5 q6 g0 g1 g2 g3 g4 g5 g6
  have K2 : Hid (Below w.heap.size w w2) := ((Below.refl _ _).alloc (Nat.le_refl _) _).trans (hb2.mono (by simp))
  clear hb2
  go_wp2
  refine bodyPost_ret (v := .agg #[.int .i64 0, .int .i64 y, .int .i64 m, .int .i64 d, .int .i64 h, .int .i64 i, .int .i64 s]) ?_ rfl ⟨rfl, ?_⟩
  · simp [results, Tryd.results46, go_sem, q0, q1, q2, q3, q4, q5, q6]
  · exact ((((((K2.out.setCell (Nat.le_refl _) _).setCell (Nat.le_refl _) _).setCell (Nat.le_refl _) _).setCell (Nat.le_refl _) _).setCell (Nat.le_refl _) _).setCell (Nat.le_refl _) _).setCell (Nat.le_refl _) _
end Go.Proofs.YtibomkcbopkpkaaDoor
