/-
  Texts of one claim, one behind the other.
-/
import Derived.Test.YtgejegmilkmiiaaGreatDoorMgD
/-
  The law of FlightsFault.
-/
namespace Go.Proofs.YtgejegmilkmiiaaGreatDoor
open Go.ChangeShapes Go.WideShapes Go.ChangeAt Go.RowKit Go.Sort
theorem specFls_new (w : World) (l : List (Fl × FlR)) (G : Nat) (hl : l.length ≤ 1048576) (hf : ∀ q ∈ l, FlFit q.1) (h : FlsNew w G l) :
    Calls Tryz.prog 27 #[.slice (some ⟨G, 0, none⟩) l.length l.length] w fun e w' => e = .returned (.int .i64 (flsC (l.map Prod.fst))) ∧ Below w.heap.size w w' := by
  obtain ⟨m, e1, h⟩ := h
  rw [← flen_map e1, ← e1]
  exact specFls_any w _ _ m (ffit_map e1 hf) (by rw [flen_map e1]; exact hl) h.in
theorem implFls_new (E : Errs) (w : World) (l : List (Fl × FlR)) (G : Nat) (hl : l.length ≤ 1048576) (hf : ∀ q ∈ l, FlFit q.1) (hset : SetIs w) (hE : ErrsIs w E) (h : FlsNew w G l) :
    Calls Tryz.prog 26 #[.slice (some ⟨G, 0, none⟩) l.length l.length] w fun e w' => e = .returned (.int .i64 (flsC (l.map Prod.fst))) ∧ Below w.heap.size w w' := by
  obtain ⟨m, e1, h⟩ := h
  rw [← flen_map e1, ← e1]
  exact implFls_any E w _ _ m (ffit_map e1 hf) (by rw [flen_map e1]; exact hl) hset hE h.in
set_option maxRecDepth 100000 in
set_option maxHeartbeats 8000000 in
theorem lawFlightsFault (E : Errs) (w : World) (a1 : Option Addr) (c1 : Nat) (l1 : List (Fl × FlR)) (hset : SetIs w) (hE : ErrsIs w E) (z1 : l1.length ≤ maxLen) (s1 : ∀ q ∈ l1, FlSm q.1) (i1 : FlsIn w a1 l1) :
    Calls Tryz.prog 6 #[.slice a1 l1.length c1] w fun r w' => r = .returned (.bool true) ∧ Below w.heap.size w w' := by
  have HZ1 : Hid (Calls Tryz.prog 32 #[.slice a1 l1.length c1, .int .i64 1048576] w fun e w' => e = .returned (.int .i64 (szFL 1048576 l1)) ∧ Below w.heap.size w w') := szFlightS_any w a1 c1 l1 z1 i1 s1 _ (by omega) (by omega)
  have HR1 : Hid (¬ szFL 1048576 l1 < 0 → l1.length ≤ 1048576 ∧ (∀ q ∈ l1, FlFit q.1) ∧ szFL 1048576 l1 ≤ 1048576 ∧ 0 ≤ szFL 1048576 l1) := szFL_room (by omega)
  have HT1 : Hid (l1.length ≤ 1048576 → (∀ q ∈ l1, FlFit q.1) → ∀ X, Below w.heap.size w X → Calls Tryz.prog 33 #[.slice a1 l1.length c1] X fun e w' => e = .returned (.slice (some ⟨X.heap.size, 0, none⟩) l1.length l1.length) ∧ FlsNew w' X.heap.size l1 ∧ Below X.heap.size X w') := fun h hf X hX => toFlightS_any X a1 c1 l1 h (i1.keep hX) hf
  have HS : Hid (l1.length ≤ 1048576 → (∀ q ∈ l1, FlFit q.1) → ∀ X G1, FlsNew X G1 l1 → Calls Tryz.prog 27 #[.slice (some ⟨G1, 0, none⟩) l1.length l1.length] X fun e w' => e = .returned (.int .i64 (flsC (l1.map Prod.fst))) ∧ Below X.heap.size X w') := fun h hf X G1 k1 => specFls_new X l1 G1 h hf k1
  have HG : Hid (l1.length ≤ 1048576 → (∀ q ∈ l1, FlFit q.1) → ∀ X G1, Below w.heap.size w X → FlsNew X G1 l1 → Calls Tryz.prog 26 #[.slice (some ⟨G1, 0, none⟩) l1.length l1.length] X fun e w' => e = .returned (.int .i64 (flsC (l1.map Prod.fst))) ∧ Below X.heap.size X w') := fun h hf X G1 hX k1 => implFls_new E X l1 G1 h hf (hset.below hX) (hE.below hX) k1
  have HQ1 : Hid (l1.length ≤ 1048576 → (∀ q ∈ l1, FlFit q.1) → ∀ X G1 G2, FlsNew X G1 l1 → FlsNew X G2 l1 → Calls Tryz.prog 34 #[.slice (some ⟨G1, 0, none⟩) l1.length l1.length, .slice (some ⟨G2, 0, none⟩) l1.length l1.length] X fun e w' => e = .returned (.bool true) ∧ Below X.heap.size X w') := fun h hf X G1 G2 k1 k2 => eqFls_new X l1 G1 G2 h hf k1 k2
  clear z1 s1 i1 hset hE
  generalize flsC (l1.map Prod.fst) = S at *
  generalize szFL 1048576 l1 = y1 at *
  generalize l1.length = n1 at *
  go_enter Tryz.func6, Tryz.ntmps6
  go_wp2_with fail
  refine HZ1.out.mono ?_
  rintro r w1 ⟨rfl, hb1⟩
  have B1 : Hid (Below w.heap.size w w1) := hb1
  clear hb1
  by_cases d1 : y1 < 0
  · go_wp2_with fail
    go_ret
    exact ⟨rfl, B1.out⟩
  obtain ⟨m1, f1, r1, r0⟩ := HR1.out (by omega)
  have HS1 := hidF (HS.out m1 f1)
  have HG1 := hidF (HG.out m1 f1)
  have HQ11 := hidF (HQ1.out m1 f1)
  have HT11 := hidF (HT1.out m1 f1)
  clear HS HG HQ1 HT1 HR1 f1 m1 r1 r0
  go_wp2_with fail
  refine (HT11.out _ B1.out).mono ?_
  rintro r w3 ⟨rfl, k3, hb3⟩
  have B3 : Hid (Below w.heap.size w w3) := B1.out.trans (hb3.mono B1.out.size)
  obtain ⟨g3, hg3⟩ : ∃ g, w1.heap.size = g := ⟨_, rfl⟩
  rw [hg3] at k3 ⊢
  have K3 : Hid (FlsNew w3 g3 l1) := k3
  clear hb3 k3 hg3
  go_wp2_with fail
  refine (HS1.out _ _ K3.out).mono ?_
  rintro r w5 ⟨rfl, hb5⟩
  have B5 : Hid (Below w.heap.size w w5) := B3.out.trans (hb5.mono B3.out.size)
  clear hb5 K3 HS1 B3
  go_wp2_with fail
  refine (HT11.out _ B5.out).mono ?_
  rintro r w6 ⟨rfl, k6, hb6⟩
  have B6 : Hid (Below w.heap.size w w6) := B5.out.trans (hb6.mono B5.out.size)
  obtain ⟨g6, hg6⟩ : ∃ g, w5.heap.size = g := ⟨_, rfl⟩
  rw [hg6] at k6 ⊢
  have K6 : Hid (∀ X, Below w6.heap.size w6 X → FlsNew X g6 l1) := fun X hX => k6.keep hX
  clear hb6 k6 hg6 B5
  go_wp2_with fail
  refine (HG1.out _ _ B6.out (K6.out _ (Below.refl _ _))).mono ?_
  rintro r w8 ⟨rfl, hb8⟩
  have B8 : Hid (Below w.heap.size w w8 ∧ Below w6.heap.size w6 w8) := ⟨B6.out.trans (hb8.mono B6.out.size), hb8⟩
  clear hb8 HG1
  go_wp2_with fail
  refine (HT11.out _ B8.out.1).mono ?_
  rintro r w9 ⟨rfl, k9, hb9⟩
  have B9 : Hid (Below w.heap.size w w9 ∧ Below w6.heap.size w6 w9) := ⟨B8.out.1.trans (hb9.mono B8.out.1.size), B8.out.2.trans (hb9.mono B8.out.2.size)⟩
  obtain ⟨g9, hg9⟩ : ∃ g, w8.heap.size = g := ⟨_, rfl⟩
  rw [hg9] at k9 ⊢
  have K9 : Hid (FlsNew w9 g6 l1 ∧ FlsNew w9 g9 l1) := ⟨K6.out _ B9.out.2, k9⟩
  clear hb9 k9 hg9 B8
  go_wp2_with fail
  refine (HQ11.out _ _ _ K9.out.1 K9.out.2).mono ?_
  rintro r w10 ⟨rfl, hb10⟩
  have B10 : Hid (Below w.heap.size w w10) := B9.out.1.trans (hb10.mono B9.out.1.size)
  clear hb10 K9 B9
  go_wp2_with fail
  go_ret
  exact ⟨rfl, B10.out⟩
end Go.Proofs.YtgejegmilkmiiaaGreatDoor
