/-
  The law of SameFlights.
-/
import Derived.Test.YtgejegmilkmiiaaSameFlL
import Derived.Test.YtgejegmilkmiiaaFlEqS
namespace Go.Proofs.Ytgejegmilkmiiaa
open Go.ChangeShapes Go.WideShapes Go.ChangeAt Go.RowKit Go.Sort
/-- A list of flights that was copied. -/
def FlsNew (W : World) (G : Nat) (l : List (Fl × FlR)) : Prop := ∃ l', l'.map Prod.fst = l.map Prod.fst ∧ FlsMine W G l'
theorem FlsNew.keep {W W' : World} {G : Nat} {l : List (Fl × FlR)} (h : FlsNew W G l) (hb : Below W.heap.size W W') : FlsNew W' G l := by
  obtain ⟨l', e, m⟩ := h
  exact ⟨l', e, m.keep hb⟩
theorem flen_map {l l' : List (Fl × FlR)} (h : l'.map Prod.fst = l.map Prod.fst) : l'.length = l.length := by simpa using congrArg List.length h
theorem ffit_map {l l' : List (Fl × FlR)} (h : l'.map Prod.fst = l.map Prod.fst) (hf : ∀ q ∈ l, FlFit q.1) : ∀ q ∈ l', FlFit q.1 := fun q hq => by
  have : q.1 ∈ l.map Prod.fst := h ▸ List.mem_map_of_mem hq
  obtain ⟨q', hq', e⟩ := List.mem_map.1 this
  rw [← e]
  exact hf q' hq'
theorem specSame_new (w : World) (l m : List (Fl × FlR)) (G1 G2 : Nat) (hl : l.length ≤ 1048576) (hf : ∀ q ∈ l, FlFit q.1) (h : FlsNew w G1 l) (k : FlsNew w G2 m) :
    Calls Try.prog 5 #[.slice (some ⟨G1, 0, none⟩) l.length l.length, .slice (some ⟨G2, 0, none⟩) m.length m.length] w fun e w' => e = .returned (.bool (sameFs (l.map Prod.fst) (m.map Prod.fst))) ∧ Below w.heap.size w w' := by
  obtain ⟨a, e1, h⟩ := h
  obtain ⟨b, e2, k⟩ := k
  rw [← flen_map e1, ← flen_map e2, ← e1, ← e2]
  exact specSameF_any w _ _ _ _ a b (by rw [flen_map e1]; exact hl) (ffit_map e1 hf) h.in k.in
theorem implSame_new (w : World) (l m : List (Fl × FlR)) (G1 G2 : Nat) (hl : l.length ≤ 1048576) (hf : ∀ q ∈ l, FlFit q.1) (h : FlsNew w G1 l) (k : FlsNew w G2 m) :
    Calls Try.prog 7 #[.slice (some ⟨G1, 0, none⟩) l.length l.length, .slice (some ⟨G2, 0, none⟩) m.length m.length] w fun e w' => e = .returned (.bool (sameFs (l.map Prod.fst) (m.map Prod.fst))) ∧ Below w.heap.size w w' := by
  obtain ⟨a, e1, h⟩ := h
  obtain ⟨b, e2, k⟩ := k
  rw [← flen_map e1, ← flen_map e2, ← e1, ← e2]
  exact implSameFs_any w _ _ _ _ a b (by rw [flen_map e1]; exact hl) (ffit_map e1 hf) h.in k.in
theorem eqFls_new (w : World) (l : List (Fl × FlR)) (G1 G2 : Nat) (hl : l.length ≤ 1048576) (hf : ∀ q ∈ l, FlFit q.1) (h : FlsNew w G1 l) (k : FlsNew w G2 l) :
    Calls Try.prog 8 #[.slice (some ⟨G1, 0, none⟩) l.length l.length, .slice (some ⟨G2, 0, none⟩) l.length l.length] w fun e w' => e = .returned (.bool true) ∧ Below w.heap.size w w' := by
  obtain ⟨a, e1, h⟩ := h
  obtain ⟨b, e2, k⟩ := k
  rw [← flen_map e1]
  exact eqFlightS_same w _ _ _ _ a b (by rw [flen_map e1]; exact hl) (ffit_map e1 hf) (e1.trans e2.symm) h.in k.in
theorem hidF {p : Prop} (h : p) : Hid p := h
set_option maxRecDepth 100000 in
set_option maxHeartbeats 8000000 in
theorem lawSameFlights (w : World) (a1 a2 : Option Addr) (c1 c2 : Nat) (l1 l2 : List (Fl × FlR)) (z1 : l1.length ≤ maxLen) (z2 : l2.length ≤ maxLen) (s1 : ∀ q ∈ l1, FlSm q.1) (s2 : ∀ q ∈ l2, FlSm q.1) (i1 : FlsIn w a1 l1) (i2 : FlsIn w a2 l2) :
    Calls Try.prog 3 #[.slice a1 l1.length c1, .slice a2 l2.length c2] w fun r w' => r = .returned (.bool true) ∧ Below w.heap.size w w' := by
  have HZ1 : Hid (Calls Try.prog 4 #[.slice a1 l1.length c1, .int .i64 1048576] w fun e w' => e = .returned (.int .i64 (szFL 1048576 l1)) ∧ Below w.heap.size w w') := szFlightS_any w a1 c1 l1 z1 i1 s1 _ (by omega) (by omega)
  have HR1 : Hid (¬ szFL 1048576 l1 < 0 → l1.length ≤ 1048576 ∧ (∀ q ∈ l1, FlFit q.1) ∧ szFL 1048576 l1 ≤ 1048576 ∧ 0 ≤ szFL 1048576 l1) := szFL_room (by omega)
  have HZ2 : Hid (∀ X, Below w.heap.size w X → 0 ≤ szFL 1048576 l1 → szFL 1048576 l1 ≤ 1048576 → Calls Try.prog 4 #[.slice a2 l2.length c2, .int .i64 (szFL 1048576 l1)] X fun e w' => e = .returned (.int .i64 (szFL (szFL 1048576 l1) l2)) ∧ Below X.heap.size X w') := fun X hX h0 h1 => szFlightS_any X a2 c2 l2 z2 (i2.keep hX) s2 _ h0 h1
  have HR2 : Hid (szFL 1048576 l1 ≤ 1048576 → ¬ szFL (szFL 1048576 l1) l2 < 0 → l2.length ≤ 1048576 ∧ (∀ q ∈ l2, FlFit q.1)) := fun h h' => ⟨(szFL_room h h').1, (szFL_room h h').2.1⟩
  have HT1 : Hid (l1.length ≤ 1048576 → (∀ q ∈ l1, FlFit q.1) → ∀ X, Below w.heap.size w X → Calls Try.prog 6 #[.slice a1 l1.length c1] X fun e w' => e = .returned (.slice (some ⟨X.heap.size, 0, none⟩) l1.length l1.length) ∧ FlsNew w' X.heap.size l1 ∧ Below X.heap.size X w') := fun h hf X hX => toFlightS_any X a1 c1 l1 h (i1.keep hX) hf
  have HT2 : Hid (l2.length ≤ 1048576 → (∀ q ∈ l2, FlFit q.1) → ∀ X, Below w.heap.size w X → Calls Try.prog 6 #[.slice a2 l2.length c2] X fun e w' => e = .returned (.slice (some ⟨X.heap.size, 0, none⟩) l2.length l2.length) ∧ FlsNew w' X.heap.size l2 ∧ Below X.heap.size X w') := fun h hf X hX => toFlightS_any X a2 c2 l2 h (i2.keep hX) hf
  have HS : Hid (l1.length ≤ 1048576 → (∀ q ∈ l1, FlFit q.1) → ∀ X G1 G2, FlsNew X G1 l1 → FlsNew X G2 l2 → Calls Try.prog 5 #[.slice (some ⟨G1, 0, none⟩) l1.length l1.length, .slice (some ⟨G2, 0, none⟩) l2.length l2.length] X fun e w' => e = .returned (.bool (sameFs (l1.map Prod.fst) (l2.map Prod.fst))) ∧ Below X.heap.size X w') := fun h hf X G1 G2 k1 k2 => specSame_new X l1 l2 G1 G2 h hf k1 k2
  have HG : Hid (l1.length ≤ 1048576 → (∀ q ∈ l1, FlFit q.1) → ∀ X G1 G2, FlsNew X G1 l1 → FlsNew X G2 l2 → Calls Try.prog 7 #[.slice (some ⟨G1, 0, none⟩) l1.length l1.length, .slice (some ⟨G2, 0, none⟩) l2.length l2.length] X fun e w' => e = .returned (.bool (sameFs (l1.map Prod.fst) (l2.map Prod.fst))) ∧ Below X.heap.size X w') := fun h hf X G1 G2 k1 k2 => implSame_new X l1 l2 G1 G2 h hf k1 k2
  have HQ1 : Hid (l1.length ≤ 1048576 → (∀ q ∈ l1, FlFit q.1) → ∀ X G1 G2, FlsNew X G1 l1 → FlsNew X G2 l1 → Calls Try.prog 8 #[.slice (some ⟨G1, 0, none⟩) l1.length l1.length, .slice (some ⟨G2, 0, none⟩) l1.length l1.length] X fun e w' => e = .returned (.bool true) ∧ Below X.heap.size X w') := fun h hf X G1 G2 k1 k2 => eqFls_new X l1 G1 G2 h hf k1 k2
  have HQ2 : Hid (l2.length ≤ 1048576 → (∀ q ∈ l2, FlFit q.1) → ∀ X G1 G2, FlsNew X G1 l2 → FlsNew X G2 l2 → Calls Try.prog 8 #[.slice (some ⟨G1, 0, none⟩) l2.length l2.length, .slice (some ⟨G2, 0, none⟩) l2.length l2.length] X fun e w' => e = .returned (.bool true) ∧ Below X.heap.size X w') := fun h hf X G1 G2 k1 k2 => eqFls_new X l2 G1 G2 h hf k1 k2
  have HL1 : Hid (∀ n, l1.length = n → (¬ szFL 1048576 l1 < 0 → n ≤ 1048576)) := fun n e h => e ▸ (HR1.out h).1
  clear z1 z2 s1 s2 i1 i2
  generalize sameFs (l1.map Prod.fst) (l2.map Prod.fst) = S at *
  generalize szFL (szFL 1048576 l1) l2 = y2 at *
  generalize szFL 1048576 l1 = y1 at *
  generalize l1.length = n1 at *
  generalize l2.length = n2 at *
  go_enter Try.func3, Try.ntmps3
  go_wp2_with fail
  refine HZ1.out.mono ?_
  rintro r w1 ⟨rfl, hb1⟩
  have B1 : Hid (Below w.heap.size w w1) := hb1
  clear hb1
  by_cases d1 : y1 < 0
  · go_wp2_with fail
    go_ret
    exact ⟨rfl, B1.out⟩
  obtain ⟨m1, f1, r1, r0⟩ := HR1.out (by omega)
  have HS1 := hidF (HS.out m1 f1)
  have HG1 := hidF (HG.out m1 f1)
  have HQ11 := hidF (HQ1.out m1 f1)
  have HT11 := hidF (HT1.out m1 f1)
  have HZ22 := hidF (fun X hX => HZ2.out X hX r0 r1)
  have HR22 := hidF (HR2.out r1)
  clear HS HG HQ1 HT1 HZ2 HR2 HR1 HL1 f1 m1
  go_wp2_with fail
  refine (HZ22.out _ B1.out).mono ?_
  rintro r w2 ⟨rfl, hb2⟩
  have B2 : Hid (Below w.heap.size w w2) := B1.out.trans (hb2.mono B1.out.size)
  clear hb2 B1 r0 r1
  by_cases d2 : y2 < 0
  · go_wp2_with fail
    go_ret
    exact ⟨rfl, B2.out⟩
  obtain ⟨m2, f2⟩ := HR22.out (by omega)
  have HQ22 := hidF (HQ2.out m2 f2)
  have HT22 := hidF (HT2.out m2 f2)
  clear HQ2 HT2 HR22 f2 m2 HZ22
  go_wp2_with fail
  refine (HT11.out _ B2.out).mono ?_
  rintro r w3 ⟨rfl, k3, hb3⟩
  have B3 : Hid (Below w.heap.size w w3) := B2.out.trans (hb3.mono B2.out.size)
  obtain ⟨g3, hg3⟩ : ∃ g, w2.heap.size = g := ⟨_, rfl⟩
  rw [hg3] at k3 ⊢
  have K3 : Hid (∀ X, Below w3.heap.size w3 X → FlsNew X g3 l1) := fun X hX => k3.keep hX
  clear hb3 k3 hg3
  go_wp2_with fail
  refine (HT22.out _ B3.out).mono ?_
  rintro r w4 ⟨rfl, k4, hb4⟩
  have B4 : Hid (Below w.heap.size w w4) := B3.out.trans (hb4.mono B3.out.size)
  have q3 := K3.out _ hb4
  obtain ⟨g4, hg4⟩ : ∃ g, w3.heap.size = g := ⟨_, rfl⟩
  rw [hg4] at k4 ⊢
  have K4 : Hid (FlsNew w4 g3 l1 ∧ FlsNew w4 g4 l2) := ⟨q3, k4⟩
  clear hb4 k4 hg4 K3 q3
  go_wp2_with fail
  refine (HS1.out _ _ _ K4.out.1 K4.out.2).mono ?_
  rintro r w5 ⟨rfl, hb5⟩
  have B5 : Hid (Below w.heap.size w w5) := B4.out.trans (hb5.mono B4.out.size)
  clear hb5 K4 HS1
  go_wp2_with fail
  refine (HT11.out _ B5.out).mono ?_
  rintro r w6 ⟨rfl, k6, hb6⟩
  have B6 : Hid (Below w.heap.size w w6) := B5.out.trans (hb6.mono B5.out.size)
  obtain ⟨g6, hg6⟩ : ∃ g, w5.heap.size = g := ⟨_, rfl⟩
  rw [hg6] at k6 ⊢
  have K6 : Hid (∀ X, Below w6.heap.size w6 X → FlsNew X g6 l1) := fun X hX => k6.keep hX
  clear hb6 k6 hg6
  go_wp2_with fail
  refine (HT22.out _ B6.out).mono ?_
  rintro r w7 ⟨rfl, k7, hb7⟩
  have B7 : Hid (Below w.heap.size w w7) := B6.out.trans (hb7.mono B6.out.size)
  have q6 := K6.out _ hb7
  obtain ⟨g7, hg7⟩ : ∃ g, w6.heap.size = g := ⟨_, rfl⟩
  rw [hg7] at k7 ⊢
  have K7 : Hid (∀ X, Below w7.heap.size w7 X → FlsNew X g6 l1 ∧ FlsNew X g7 l2) := fun X hX => ⟨q6.keep hX, k7.keep hX⟩
  clear hb7 k7 hg7 K6 q6
  go_wp2_with fail
  refine (HG1.out _ _ _ (K7.out _ (Below.refl _ _)).1 (K7.out _ (Below.refl _ _)).2).mono ?_
  rintro r w8 ⟨rfl, hb8⟩
  have B8 : Hid (Below w.heap.size w w8 ∧ Below w7.heap.size w7 w8) := ⟨B7.out.trans (hb8.mono B7.out.size), hb8⟩
  clear hb8 HG1
  go_wp2_with fail
  refine (HT11.out _ B8.out.1).mono ?_
  rintro r w9 ⟨rfl, k9, hb9⟩
  have B9 : Hid (Below w.heap.size w w9 ∧ Below w7.heap.size w7 w9) := ⟨B8.out.1.trans (hb9.mono B8.out.1.size), B8.out.2.trans (hb9.mono B8.out.2.size)⟩
  obtain ⟨g9, hg9⟩ : ∃ g, w8.heap.size = g := ⟨_, rfl⟩
  rw [hg9] at k9 ⊢
  have K9 : Hid (FlsNew w9 g6 l1 ∧ FlsNew w9 g9 l1) := ⟨(K7.out _ B9.out.2).1, k9⟩
  clear hb9 k9 hg9 B8
  go_wp2_with fail
  refine (HQ11.out _ _ _ K9.out.1 K9.out.2).mono ?_
  rintro r w10 ⟨rfl, hb10⟩
  have B10 : Hid (Below w.heap.size w w10 ∧ Below w7.heap.size w7 w10) := ⟨B9.out.1.trans (hb10.mono B9.out.1.size), B9.out.2.trans (hb10.mono B9.out.2.size)⟩
  clear hb10 K9 B9
  go_wp2_with fail
  refine (HT22.out _ B10.out.1).mono ?_
  rintro r w11 ⟨rfl, k11, hb11⟩
  have B11 : Hid (Below w.heap.size w w11 ∧ Below w7.heap.size w7 w11) := ⟨B10.out.1.trans (hb11.mono B10.out.1.size), B10.out.2.trans (hb11.mono B10.out.2.size)⟩
  obtain ⟨g11, hg11⟩ : ∃ g, w10.heap.size = g := ⟨_, rfl⟩
  rw [hg11] at k11 ⊢
  have K11 : Hid (FlsNew w11 g7 l2 ∧ FlsNew w11 g11 l2) := ⟨(K7.out _ B11.out.2).2, k11⟩
  clear hb11 k11 hg11 B10
  go_wp2_with fail
  refine (HQ22.out _ _ _ K11.out.1 K11.out.2).mono ?_
  rintro r w12 ⟨rfl, hb12⟩
  have B12 : Hid (Below w.heap.size w w12) := B11.out.1.trans (hb12.mono B11.out.1.size)
  clear hb12 K11 B11
  go_wp2_with fail
  go_ret
  exact ⟨rfl, B12.out⟩
end Go.Proofs.Ytgejegmilkmiiaa
