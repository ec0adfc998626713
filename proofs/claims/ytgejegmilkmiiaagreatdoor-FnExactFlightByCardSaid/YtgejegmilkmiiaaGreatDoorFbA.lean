/-
  Texts of one claim, one behind the other.
-/
import Derived.Test.YtgejegmilkmiiaaGreatDoorMgE
/-
  The law of FlightBy.
-/
namespace Go.Proofs.YtgejegmilkmiiaaGreatDoor
open Go.ChangeShapes Go.WideShapes Go.ChangeAt Go.RowKit Go.Sort
set_option maxHeartbeats 1000000 in
theorem eqIRBy (c v : Int) (w : World) : Calls Tryz.prog 35 #[.agg #[.int .i64 c, .int .i64 v], .agg #[.int .i64 c, .int .i64 v]] w fun e w' => e = .returned (.bool true) ∧ Below w.heap.size w w' := by
  have HB : Hid (Below w.heap.size w ((w.alloc (.cells #[.int .i64 c, .int .i64 v] 47)).alloc (.cells #[.int .i64 c, .int .i64 v] 47))) := ((Below.refl _ _).alloc (Nat.le_refl _) _).alloc (by simp) _
  go_enter Tryz.func35, Tryz.ntmps35
  go_wp2_with fail
  go_ret
  exact ⟨rfl, HB.out⟩
theorem specBy_new (w : World) (l : List (Fl × FlR)) (G : Nat) (key : Int) (hl : l.length ≤ 1048576) (hf : ∀ q ∈ l, FlFit q.1) (h : FlsNew w G l) :
    Calls Tryz.prog 25 #[.slice (some ⟨G, 0, none⟩) l.length l.length, .int .i64 key] w fun e w' => e = .returned (.agg #[.int .i64 (placeR (l.map Prod.fst) ⟨0, key, ⟨#[]⟩⟩).1, .int .i64 (placeR (l.map Prod.fst) ⟨0, key, ⟨#[]⟩⟩).2]) ∧ Below w.heap.size w w' := by
  obtain ⟨m, e1, h⟩ := h
  rw [← flen_map e1, ← e1]
  exact specBy_any w _ _ m key (ffit_map e1 hf) (by rw [flen_map e1]; exact hl) h.in
theorem implBy_new (E : Errs) (w : World) (l : List (Fl × FlR)) (G : Nat) (key : Int) (hok : SgOk ⟨0, key, ⟨#[]⟩⟩) (hl : l.length ≤ 1048576) (hf : ∀ q ∈ l, FlFit q.1) (hset : SetIs w) (hE : ErrsIs w E) (h : FlsNew w G l) :
    Calls Tryz.prog 23 #[.slice (some ⟨G, 0, none⟩) l.length l.length, .int .i64 key] w fun e w' => e = .returned (.agg #[.int .i64 (placeR (l.map Prod.fst) ⟨0, key, ⟨#[]⟩⟩).1, .int .i64 (placeR (l.map Prod.fst) ⟨0, key, ⟨#[]⟩⟩).2]) ∧ Below w.heap.size w w' := by
  obtain ⟨m, e1, h⟩ := h
  rw [← flen_map e1, ← e1]
  exact implBy_any E w _ _ m key hok (ffit_map e1 hf) (by rw [flen_map e1]; exact hl) hset hE h.in
theorem boxBy (w : World) (r1 r2 : Int) : ∀ X, Below (w.alloc (.cells #[.int .i64 r1, .int .i64 r2] 47)).heap.size (w.alloc (.cells #[.int .i64 r1, .int .i64 r2] 47)) X → X.cell? ⟨w.heap.size, 0, none⟩ = some (.int .i64 r1) ∧ X.cell? ⟨w.heap.size, 1, none⟩ = some (.int .i64 r2) := fun X hX => by
  have hs : w.heap.size < (w.alloc (.cells #[.int .i64 r1, .int .i64 r2] 47)).heap.size := by simp
  refine ⟨?_, ?_⟩
  · rw [hX.cell (p := ⟨w.heap.size, 0, none⟩) hs]; simp
  · rw [hX.cell (p := ⟨w.heap.size, 1, none⟩) hs]; simp
set_option maxRecDepth 100000 in
set_option maxHeartbeats 8000000 in
theorem lawFlightBy (E : Errs) (w : World) (a1 : Option Addr) (c1 : Nat) (l1 : List (Fl × FlR)) (key : Int) (hwf : (Lit.int .i64 key).wf = true) (hset : SetIs w) (hE : ErrsIs w E) (z1 : l1.length ≤ maxLen) (s1 : ∀ q ∈ l1, FlSm q.1) (i1 : FlsIn w a1 l1) :
    Calls Tryz.prog 8 #[.slice a1 l1.length c1, .int .i64 key] w fun r w' => r = .returned (.bool true) ∧ Below w.heap.size w w' := by
  have hok : SgOk ⟨0, key, ⟨#[]⟩⟩ := ⟨by show (Lit.int .i64 0).wf = true; decide, hwf, by show (⟨#[]⟩ : ByteArray).size ≤ maxLen; unfold maxLen; simp [ByteArray.size]⟩
  have HZ1 : Hid (Calls Tryz.prog 32 #[.slice a1 l1.length c1, .int .i64 1048576] w fun e w' => e = .returned (.int .i64 (szFL 1048576 l1)) ∧ Below w.heap.size w w') := szFlightS_any w a1 c1 l1 z1 i1 s1 _ (by omega) (by omega)
  have HR1 : Hid (¬ szFL 1048576 l1 < 0 → l1.length ≤ 1048576 ∧ (∀ q ∈ l1, FlFit q.1) ∧ szFL 1048576 l1 ≤ 1048576 ∧ 0 ≤ szFL 1048576 l1) := szFL_room (by omega)
  have HT1 : Hid (l1.length ≤ 1048576 → (∀ q ∈ l1, FlFit q.1) → ∀ X, Below w.heap.size w X → Calls Tryz.prog 33 #[.slice a1 l1.length c1] X fun e w' => e = .returned (.slice (some ⟨X.heap.size, 0, none⟩) l1.length l1.length) ∧ FlsNew w' X.heap.size l1 ∧ Below X.heap.size X w') := fun h hf X hX => toFlightS_any X a1 c1 l1 h (i1.keep hX) hf
  have HS : Hid (l1.length ≤ 1048576 → (∀ q ∈ l1, FlFit q.1) → ∀ X G1, FlsNew X G1 l1 → Calls Tryz.prog 25 #[.slice (some ⟨G1, 0, none⟩) l1.length l1.length, .int .i64 key] X fun e w' => e = .returned (.agg #[.int .i64 (placeR (l1.map Prod.fst) ⟨0, key, ⟨#[]⟩⟩).1, .int .i64 (placeR (l1.map Prod.fst) ⟨0, key, ⟨#[]⟩⟩).2]) ∧ Below X.heap.size X w') := fun h hf X G1 k1 => specBy_new X l1 G1 key h hf k1
  have HG : Hid (l1.length ≤ 1048576 → (∀ q ∈ l1, FlFit q.1) → ∀ X G1, Below w.heap.size w X → FlsNew X G1 l1 → Calls Tryz.prog 23 #[.slice (some ⟨G1, 0, none⟩) l1.length l1.length, .int .i64 key] X fun e w' => e = .returned (.agg #[.int .i64 (placeR (l1.map Prod.fst) ⟨0, key, ⟨#[]⟩⟩).1, .int .i64 (placeR (l1.map Prod.fst) ⟨0, key, ⟨#[]⟩⟩).2]) ∧ Below X.heap.size X w') := fun h hf X G1 hX k1 => implBy_new E X l1 G1 key hok h hf (hset.below hX) (hE.below hX) k1
  have HQ1 : Hid (l1.length ≤ 1048576 → (∀ q ∈ l1, FlFit q.1) → ∀ X G1 G2, FlsNew X G1 l1 → FlsNew X G2 l1 → Calls Tryz.prog 34 #[.slice (some ⟨G1, 0, none⟩) l1.length l1.length, .slice (some ⟨G2, 0, none⟩) l1.length l1.length] X fun e w' => e = .returned (.bool true) ∧ Below X.heap.size X w') := fun h hf X G1 G2 k1 k2 => eqFls_new X l1 G1 G2 h hf k1 k2
  clear z1 s1 i1 hset hE hok
  generalize (placeR (l1.map Prod.fst) ⟨0, key, ⟨#[]⟩⟩).1 = r1 at *
  generalize (placeR (l1.map Prod.fst) ⟨0, key, ⟨#[]⟩⟩).2 = r2 at *
  generalize szFL 1048576 l1 = y1 at *
  generalize l1.length = n1 at *
  go_enter Tryz.func8, Tryz.ntmps8
  go_wp2_with fail
  refine HZ1.out.mono ?_
  rintro r w1 ⟨rfl, hb1⟩
  have B1 : Hid (Below w.heap.size w w1) := hb1
  clear hb1
  by_cases d1 : y1 < 0
  · go_wp2_with fail
    go_ret
    exact ⟨rfl, B1.out⟩
  obtain ⟨m1, f1, q1, q0⟩ := HR1.out (by omega)
  have HS1 := hidF (HS.out m1 f1)
  have HG1 := hidF (HG.out m1 f1)
  have HQ11 := hidF (HQ1.out m1 f1)
  have HT11 := hidF (HT1.out m1 f1)
  clear HS HG HQ1 HT1 HR1 f1 m1 q1 q0
  go_wp2_with fail
  refine (HT11.out _ B1.out).mono ?_
  rintro r w3 ⟨rfl, k3, hb3⟩
  have B3 : Hid (Below w.heap.size w w3) := B1.out.trans (hb3.mono B1.out.size)
  obtain ⟨g3, hg3⟩ : ∃ g, w1.heap.size = g := ⟨_, rfl⟩
  rw [hg3] at k3 ⊢
  have K3 : Hid (FlsNew w3 g3 l1) := k3
  clear hb3 k3 hg3
  go_wp2_with fail
  refine (HS1.out _ _ K3.out).mono ?_
  rintro r w5 ⟨rfl, hb5⟩
  obtain ⟨V, hV⟩ : ∃ V, V = w5.alloc (.cells #[.int .i64 r1, .int .i64 r2] 47) := ⟨_, rfl⟩
  have HV : Hid (V = w5.alloc (.cells #[.int .i64 r1, .int .i64 r2] 47)) := hV
  have K5 : Hid (∀ X, Below V.heap.size V X → Below w.heap.size w X ∧ X.cell? ⟨w5.heap.size, 0, none⟩ = some (.int .i64 r1) ∧ X.cell? ⟨w5.heap.size, 1, none⟩ = some (.int .i64 r2)) := fun X hX => by
    have al : Below w5.heap.size w5 V := by rw [hV]; exact (Below.refl _ _).alloc (Nat.le_refl _) _
    have b5 := B3.out.trans (hb5.mono B3.out.size)
    have b6 := b5.trans (al.mono b5.size)
    rw [hV] at hX
    have z := boxBy w5 r1 r2 X hX
    rw [← hV] at hX
    exact ⟨b6.trans (hX.mono b6.size), z⟩
  clear hb5 K3 HS1 B3 hV
  go_upto_region 6 with fail
  rw [← HV.out]
  clear HV
  generalize w5.heap.size = M1 at *
  clear w5
  go_wp2_with fail
  refine (HT11.out _ (K5.out V (Below.refl _ _)).1).mono ?_
  rintro r w6 ⟨rfl, k6, hb6⟩
  obtain ⟨g6, hg6⟩ : ∃ g, V.heap.size = g := ⟨_, rfl⟩
  rw [hg6] at k6 ⊢
  have K6 : Hid (∀ X, Below w6.heap.size w6 X → FlsNew X g6 l1 ∧ Below w.heap.size w X ∧ X.cell? ⟨M1, 0, none⟩ = some (.int .i64 r1) ∧ X.cell? ⟨M1, 1, none⟩ = some (.int .i64 r2)) := fun X hX => ⟨k6.keep hX, K5.out X (hb6.trans (hX.mono hb6.size))⟩
  clear hb6 k6 hg6 K5
  go_wp2_with fail
  refine (HG1.out _ _ (K6.out w6 (Below.refl _ _)).2.1 (K6.out w6 (Below.refl _ _)).1).mono ?_
  rintro r w8 ⟨rfl, hb8⟩
  obtain ⟨U, hU⟩ : ∃ U, U = w8.alloc (.cells #[.int .i64 r1, .int .i64 r2] 47) := ⟨_, rfl⟩
  have HU : Hid (U = w8.alloc (.cells #[.int .i64 r1, .int .i64 r2] 47)) := hU
  have K8 : Hid (∀ X, Below U.heap.size U X → FlsNew X g6 l1 ∧ Below w.heap.size w X ∧ (X.cell? ⟨M1, 0, none⟩ = some (.int .i64 r1) ∧ X.cell? ⟨M1, 1, none⟩ = some (.int .i64 r2)) ∧ X.cell? ⟨w8.heap.size, 0, none⟩ = some (.int .i64 r1) ∧ X.cell? ⟨w8.heap.size, 1, none⟩ = some (.int .i64 r2)) := fun X hX => by
    have al : Below w8.heap.size w8 U := by rw [hU]; exact (Below.refl _ _).alloc (Nat.le_refl _) _
    have b8 := hb8.trans (al.mono hb8.size)
    have q := K6.out X (b8.trans (hX.mono b8.size))
    rw [hU] at hX
    exact ⟨q.1, q.2.1, q.2.2, boxBy w8 r1 r2 X hX⟩
  clear hb8 HG1 hU K6
  go_upto_region 8 with fail
  rw [← HU.out]
  clear HU
  generalize w8.heap.size = M2 at *
  clear w8
  obtain ⟨_, bU, ⟨e0, e1⟩, e2, e3⟩ := K8.out U (Below.refl _ _)
  go_wp2_with fail
  refine (eqIRBy r1 r2 U).mono ?_
  rintro r w9 ⟨rfl, hb9⟩
  have K9 : Hid (∀ X, Below w9.heap.size w9 X → FlsNew X g6 l1 ∧ Below w.heap.size w X) := fun X hX => by
    have q := K8.out X (hb9.trans (hX.mono hb9.size))
    exact ⟨q.1, q.2.1⟩
  clear hb9 K8 e0 e1 e2 e3 bU
  go_wp2_with fail
  refine (HT11.out _ (K9.out w9 (Below.refl _ _)).2).mono ?_
  rintro r w10 ⟨rfl, k10, hb10⟩
  obtain ⟨g9, hg9⟩ : ∃ g, w9.heap.size = g := ⟨_, rfl⟩
  rw [hg9] at k10 ⊢
  have K10 : Hid (FlsNew w10 g6 l1 ∧ FlsNew w10 g9 l1 ∧ Below w.heap.size w w10) := ⟨(K9.out _ hb10).1, k10, (K9.out _ hb10).2⟩
  clear hb10 k10 hg9 K9
  go_wp2_with fail
  refine (HQ11.out _ _ _ K10.out.1 K10.out.2.1).mono ?_
  rintro r w11 ⟨rfl, hb11⟩
  have B11 : Hid (Below w.heap.size w w11) := K10.out.2.2.trans (hb11.mono K10.out.2.2.size)
  clear hb11 K10
  go_wp2_with fail
  go_ret
  exact ⟨rfl, B11.out⟩
end Go.Proofs.YtgejegmilkmiiaaGreatDoor
