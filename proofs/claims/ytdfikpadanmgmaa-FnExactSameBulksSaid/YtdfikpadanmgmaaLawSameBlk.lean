/-
  The law of SameBulks.
-/
import Derived.Test.YtdfikpadanmgmaaBlkLaw
import Derived.Test.YtdfikpadanmgmaaSameBlk
import Derived.Deep.RegionHeld3
namespace Go.Proofs.Ytdfikpadanmgmaa
open Go.ChangeShapes Go.WideShapes Go.ChangeAt Go.RowKit Go.Sort
set_option maxRecDepth 100000 in
set_option maxHeartbeats 16000000 in
theorem lawSameBulks (w : World) (y1 : Int) (a1 : Option Addr) (c1 : Nat) (l1 : List Wt) (y2 : Int) (a2 : Option Addr) (c2 : Nat) (l2 : List Wt) (hm1 : l1.length ≤ maxLen) (hi1 : WtIn w a1 l1) (hm2 : l2.length ≤ maxLen) (hi2 : WtIn w a2 l2) :
    Calls Try.prog 5 #[.agg #[.int .i64 y1, .slice a1 l1.length c1], .agg #[.int .i64 y2, .slice a2 l2.length c2]] w fun r w' => r = .returned (.bool true) ∧ Below w.heap.size w w' := by
  obtain ⟨W, hW⟩ : ∃ W, W = ((w.alloc (.cells #[.int .i64 y1, .slice a1 l1.length c1] 30)).alloc (.cells #[.int .i64 y2, .slice a2 l2.length c2] 30)) := ⟨_, rfl⟩
  have HW : Hid (W = ((w.alloc (.cells #[.int .i64 y1, .slice a1 l1.length c1] 30)).alloc (.cells #[.int .i64 y2, .slice a2 l2.length c2] 30))) := hW
  have K0 : Hid (Below w.heap.size w W ∧ D2 W w.heap.size (.int .i64 y1) (.slice a1 l1.length c1) ∧ D2 W (w.heap.size + 1) (.int .i64 y2) (.slice a2 l2.length c2)) := by
    have h1 : D2 (w.alloc (.cells #[.int .i64 y1, .slice a1 l1.length c1] 30)) w.heap.size (.int .i64 y1) (.slice a1 l1.length c1) := D2.new w _ _ _
    have h2 := D2.new (w.alloc (.cells #[.int .i64 y1, .slice a1 l1.length c1] 30)) (.int .i64 y2) (.slice a2 l2.length c2) 30
    rw [show (w.alloc (.cells #[.int .i64 y1, .slice a1 l1.length c1] 30)).heap.size = w.heap.size + 1 by simp] at h2
    rw [hW]; exact ⟨((Below.refl _ _).alloc (Nat.le_refl _) _).alloc (by simp) _, h1.keep ((Below.refl _ _).alloc (Nat.le_refl _) _), h2⟩
  have HZ1 : Hid (∀ X (z : Int), 0 ≤ z → z ≤ 1048576 → Calls Try.prog 18 #[.agg #[.int .i64 y1, .slice a1 l1.length c1], .int .i64 z] X fun e w' => e = .returned (.int .i64 (szWt z l1.length)) ∧ Below X.heap.size X w') := fun X z h0 h1 => szBulk_any X y1 a1 c1 l1 hm1 z h0 h1
  have HR1 : Hid (∀ z : Int, z ≤ 1048576 → ¬ szWt z l1.length < 0 → l1.length ≤ 1048576 ∧ szWt z l1.length ≤ 1048576 ∧ 0 ≤ szWt z l1.length) := fun z hz h => by have := szWt_room hz h; exact ⟨by omega, by omega, this.2.2⟩
  have HT1 : Hid (l1.length ≤ 1048576 → ∀ X, Below w.heap.size w X → Calls Try.prog 20 #[.agg #[.int .i64 y1, .slice a1 l1.length c1]] X fun e w' => (∃ G, e = .returned (.agg #[.int .i64 y1, .slice (some ⟨G, 0, none⟩) l1.length l1.length]) ∧ BlkNew w' G l1 ∧ X.heap.size ≤ G) ∧ Below X.heap.size X w') := fun hl X hb => toBulk_any X y1 a1 c1 l1 hl (hi1.keep hb)
  have HQ1 : Hid (l1.length ≤ 1048576 → ∀ X G J, BlkNew X G l1 → BlkNew X J l1 → Calls Try.prog 22 #[.agg #[.int .i64 y1, .slice (some ⟨G, 0, none⟩) l1.length l1.length], .agg #[.int .i64 y1, .slice (some ⟨J, 0, none⟩) l1.length l1.length]] X fun r w' => r = .returned (.bool true) ∧ Below X.heap.size X w') := fun hl X G J h k => eqBulk_same X y1 _ _ _ _ l1 hl h.in k.in
  have HZ2 : Hid (∀ X (z : Int), 0 ≤ z → z ≤ 1048576 → Calls Try.prog 18 #[.agg #[.int .i64 y2, .slice a2 l2.length c2], .int .i64 z] X fun e w' => e = .returned (.int .i64 (szWt z l2.length)) ∧ Below X.heap.size X w') := fun X z h0 h1 => szBulk_any X y2 a2 c2 l2 hm2 z h0 h1
  have HR2 : Hid (∀ z : Int, z ≤ 1048576 → ¬ szWt z l2.length < 0 → l2.length ≤ 1048576 ∧ szWt z l2.length ≤ 1048576 ∧ 0 ≤ szWt z l2.length) := fun z hz h => by have := szWt_room hz h; exact ⟨by omega, by omega, this.2.2⟩
  have HT2 : Hid (l2.length ≤ 1048576 → ∀ X, Below w.heap.size w X → Calls Try.prog 20 #[.agg #[.int .i64 y2, .slice a2 l2.length c2]] X fun e w' => (∃ G, e = .returned (.agg #[.int .i64 y2, .slice (some ⟨G, 0, none⟩) l2.length l2.length]) ∧ BlkNew w' G l2 ∧ X.heap.size ≤ G) ∧ Below X.heap.size X w') := fun hl X hb => toBulk_any X y2 a2 c2 l2 hl (hi2.keep hb)
  have HQ2 : Hid (l2.length ≤ 1048576 → ∀ X G J, BlkNew X G l2 → BlkNew X J l2 → Calls Try.prog 22 #[.agg #[.int .i64 y2, .slice (some ⟨G, 0, none⟩) l2.length l2.length], .agg #[.int .i64 y2, .slice (some ⟨J, 0, none⟩) l2.length l2.length]] X fun r w' => r = .returned (.bool true) ∧ Below X.heap.size X w') := fun hl X G J h k => eqBulk_same X y2 _ _ _ _ l2 hl h.in k.in
  have HS : Hid (l1.length ≤ 1048576 → ∀ X G J, BlkNew X G l1 → BlkNew X J l2 → Calls Try.prog 23 #[.agg #[.int .i64 y1, .slice (some ⟨G, 0, none⟩) l1.length l1.length], .agg #[.int .i64 y2, .slice (some ⟨J, 0, none⟩) l2.length l2.length]] X fun e w' => e = .returned (.bool (sameB y1 l1 y2 l2)) ∧ Below X.heap.size X w') := fun hl X G J h k => specSameB_any X y1 _ _ l1 y2 _ _ l2 hl h.in k.in
  have HG : Hid (l1.length ≤ 1048576 → ∀ X G J, BlkNew X G l1 → BlkNew X J l2 → Calls Try.prog 24 #[.agg #[.int .i64 y1, .slice (some ⟨G, 0, none⟩) l1.length l1.length], .agg #[.int .i64 y2, .slice (some ⟨J, 0, none⟩) l2.length l2.length]] X fun e w' => e = .returned (.bool (sameB y1 l1 y2 l2)) ∧ Below X.heap.size X w') := fun hl X G J h k => implSameB_any X y1 _ _ l1 y2 _ _ l2 hl h.in k.in
  clear hW hi1 hm1 hi2 hm2
  generalize sameB y1 l1 y2 l2 = b at *
  have HZ1' := HZ1.out
  obtain ⟨z1, hz1⟩ : ∃ z1, szWt 1048576 l1.length = z1 := ⟨_, rfl⟩
  have HZA : Hid (∀ X, Calls Try.prog 18 #[.agg #[.int .i64 y1, .slice a1 l1.length c1], .int .i64 1048576] X fun e w' => e = .returned (.int .i64 z1) ∧ Below X.heap.size X w') := fun X => by rw [← hz1]; exact HZ1.out X 1048576 (by omega) (by omega)
  have HRA : Hid (¬ z1 < 0 → l1.length ≤ 1048576 ∧ z1 ≤ 1048576 ∧ 0 ≤ z1) := fun h => by rw [← hz1] at h ⊢; exact HR1.out 1048576 (by omega) h
  obtain ⟨z2, hz2⟩ : ∃ z2, szWt z1 l2.length = z2 := ⟨_, rfl⟩
  have HZB : Hid (0 ≤ z1 → z1 ≤ 1048576 → ∀ X, Calls Try.prog 18 #[.agg #[.int .i64 y2, .slice a2 l2.length c2], .int .i64 z1] X fun e w' => e = .returned (.int .i64 z2) ∧ Below X.heap.size X w') := fun h0 h1 X => by rw [← hz2]; exact HZ2.out X z1 h0 h1
  have HRB : Hid (z1 ≤ 1048576 → ¬ z2 < 0 → l2.length ≤ 1048576) := fun h0 h => by rw [← hz2] at h; exact (HR2.out z1 h0 h).1
  clear HZ1 HZ2 HR1 HR2 HZ1' hz1 hz2
  generalize l1.length = n1 at *
  generalize l2.length = n2 at *
  go_enter Try.func5, Try.ntmps5
  go_wp2_with fail
  rw [← HW.out]
  refine (HZA.out _).mono ?_
  rintro e0 w1 ⟨rfl, hb1⟩
  have K1 : Hid (Below w.heap.size w w1 ∧ D2 w1 w.heap.size (.int .i64 y1) (.slice a1 n1 c1) ∧ D2 w1 (w.heap.size + 1) (.int .i64 y2) (.slice a2 n2 c2)) := ⟨K0.out.1.trans (hb1.mono K0.out.1.size), K0.out.2.1.keep hb1, K0.out.2.2.keep hb1⟩
  clear K0 HW HZA hb1
  by_cases cz : z1 < 0
  · clear HRA HZB HRB HT1 HQ1 HT2 HQ2 HS HG
    go_wp2_with fail
    go_ret
    exact ⟨rfl, K1.out.1⟩
  obtain ⟨hf1, hz1a, hz1b⟩ := HRA.out (by omega)
  have HF1 : Hid (n1 ≤ 1048576) := hf1
  have HZC := hid11 (HZB.out hz1b hz1a)
  have HRC := hid11 (HRB.out hz1a)
  clear HRA HZB HRB hf1 hz1a hz1b
  obtain ⟨e0, e1, ef, _⟩ := K1.out.2.2
  go_wp2_with fail
  refine (HZC.out _).mono ?_
  rintro e0 w2 ⟨rfl, hb2⟩
  have HK2 : Hid (∀ X, Below w2.heap.size w2 X → Below w.heap.size w X ∧ D2 X w.heap.size (.int .i64 y1) (.slice a1 n1 c1) ∧ D2 X (w.heap.size + 1) (.int .i64 y2) (.slice a2 n2 c2)) := fun X hX => by
    have hb : Below w1.heap.size w1 X := hb2.trans (hX.mono hb2.size)
    exact ⟨K1.out.1.trans (hb.mono K1.out.1.size), K1.out.2.1.keep hb, K1.out.2.2.keep hb⟩
  clear K1 HZC hb2 e0 e1 ef
  by_cases cy : z2 < 0
  · clear HRC HT1 HQ1 HT2 HQ2 HS HG
    go_wp2_with fail
    go_ret
    exact ⟨rfl, (HK2.out _ (Below.refl _ _)).1⟩
  have HF2 : Hid (n2 ≤ 1048576) := HRC.out (by omega)
  clear HRC
  have HKS : Hid (∀ X, Below w2.heap.size w2 X → X.cell? ⟨w.heap.size, 0, none⟩ = some (.int .i64 y1) ∧ X.cell? ⟨w.heap.size, 1, none⟩ = some (.slice a1 n1 c1) ∧ X.cell? ⟨(w.heap.size + 1), 0, none⟩ = some (.int .i64 y2) ∧ X.cell? ⟨(w.heap.size + 1), 1, none⟩ = some (.slice a2 n2 c2)) := fun X hb => ⟨(HK2.out X hb).2.1.c0, (HK2.out X hb).2.1.c1, (HK2.out X hb).2.2.c0, (HK2.out X hb).2.2.c1⟩
  have B0 : Hid (Below w2.heap.size w2 w2.drew) := (Below.refl _ _).drew
  go_wp2_with fail
  go_region_held3 (fun X => X.cell? ⟨w.heap.size, 0, none⟩ = some (.int .i64 y1) ∧ X.cell? ⟨w.heap.size, 1, none⟩ = some (.slice a1 n1 c1) ∧ X.cell? ⟨(w.heap.size + 1), 0, none⟩ = some (.int .i64 y2) ∧ X.cell? ⟨(w.heap.size + 1), 1, none⟩ = some (.slice a2 n2 c2))
    (first | exact HKS.out _ BC.out | exact HKS.out _ BB.out | exact HKS.out _ BA.out | exact HKS.out _ B0.out)
    (first
    | (go_at_call 23; refine (HS.out HF1.out _ _ _ (MA.out.keep (KB.out)) MB.out).mono ?_; rintro r0 wc ⟨rfl, hbc⟩; have BC : Hid (Below w2.heap.size w2 wc) := BB.out.trans (hbc.mono BB.out.size); clear hbc)
    | (go_at_call 20; refine (HT2.out HF2.out _ (HK2.out _ BA.out).1).mono ?_; rintro r0 wb ⟨⟨I2, rfl, mb, _⟩, hbb⟩; have BB : Hid (Below w2.heap.size w2 wb) := BA.out.trans (hbb.mono BA.out.size); have MB : Hid (BlkNew wb I2 l2) := mb; have KB : Hid (Below wa.heap.size wa wb) := hbb; clear hbb mb)
    | (go_at_call 20; refine (HT1.out HF1.out _ (HK2.out _ B0.out).1).mono ?_; rintro r0 wa ⟨⟨I1, rfl, ma, _⟩, hba⟩; have BA : Hid (Below w2.heap.size w2 wa) := B0.out.trans (hba.mono B0.out.size); have MA : Hid (BlkNew wa I1 l1) := ma; clear hba ma))
  have HK3 : Hid (∀ X, Below wc.heap.size wc X → Below w.heap.size w X ∧ D2 X w.heap.size (.int .i64 y1) (.slice a1 n1 c1) ∧ D2 X (w.heap.size + 1) (.int .i64 y2) (.slice a2 n2 c2)) := fun X hX => HK2.out X (BC.out.trans (hX.mono BC.out.size))
  clear HK2 HKS B0 BA BB BC MA MB KB HS
  obtain ⟨e0, e1, ef, _⟩ := (HK3.out _ (Below.refl _ _)).2.1
  go_wp2_with fail
  refine (HT1.out HF1.out _ (HK3.out _ (Below.refl _ _)).1).mono ?_
  rintro r0 w4 ⟨⟨G1, rfl, m4, _⟩, hb4⟩
  clear e0 e1 ef
  obtain ⟨V4, hV4⟩ : ∃ V, V = w4.alloc (.cells #[.int .i64 y1, .slice (some ⟨G1, 0, none⟩) n1 n1] 35) := ⟨_, rfl⟩
  have HV4 : Hid (V4 = w4.alloc (.cells #[.int .i64 y1, .slice (some ⟨G1, 0, none⟩) n1 n1] 35)) := hV4
  have a4 : Below w4.heap.size w4 V4 := by rw [hV4]; exact (Below.refl _ _).alloc (Nat.le_refl _) _
  have HK4 : Hid (∀ X, Below V4.heap.size V4 X → Below w.heap.size w X ∧ (D2 X w.heap.size (.int .i64 y1) (.slice a1 n1 c1) ∧ D2 X (w.heap.size + 1) (.int .i64 y2) (.slice a2 n2 c2)) ∧ D2 X w4.heap.size (.int .i64 y1) (.slice (some ⟨G1, 0, none⟩) n1 n1) ∧ BlkNew X G1 l1) := fun X hX => by
    have q4 : Below w4.heap.size w4 X := a4.trans (hX.mono a4.size)
    have p4 := HK3.out X (hb4.trans (q4.mono hb4.size))
    exact ⟨p4.1, p4.2, (by rw [hV4]; exact D2.new w4 _ _ _ : D2 V4 w4.heap.size (.int .i64 y1) (.slice (some ⟨G1, 0, none⟩) n1 n1)).keep hX, m4.keep q4⟩
  clear HK3 hb4 m4 hV4 a4
  obtain ⟨e0, e1, ef, _⟩ := (HK4.out _ (Below.refl _ _)).2.1.2
  rw [HV4.out] at e0 e1 ef
  go_wp2_with fail
  rw [← HV4.out]
  clear e0 e1 ef HV4
  generalize w4.heap.size = x1 at *
  refine (HT2.out HF2.out _ (HK4.out _ (Below.refl _ _)).1).mono ?_
  rintro r0 w5 ⟨⟨G2, rfl, m5, _⟩, hb5⟩
  obtain ⟨V5, hV5⟩ : ∃ V, V = w5.alloc (.cells #[.int .i64 y2, .slice (some ⟨G2, 0, none⟩) n2 n2] 35) := ⟨_, rfl⟩
  have HV5 : Hid (V5 = w5.alloc (.cells #[.int .i64 y2, .slice (some ⟨G2, 0, none⟩) n2 n2] 35)) := hV5
  have a5 : Below w5.heap.size w5 V5 := by rw [hV5]; exact (Below.refl _ _).alloc (Nat.le_refl _) _
  have HK5 : Hid (∀ X, Below V5.heap.size V5 X → Below w.heap.size w X ∧ (D2 X w.heap.size (.int .i64 y1) (.slice a1 n1 c1) ∧ D2 X (w.heap.size + 1) (.int .i64 y2) (.slice a2 n2 c2)) ∧ D2 X x1 (.int .i64 y1) (.slice (some ⟨G1, 0, none⟩) n1 n1) ∧ BlkNew X G1 l1 ∧ D2 X w5.heap.size (.int .i64 y2) (.slice (some ⟨G2, 0, none⟩) n2 n2) ∧ BlkNew X G2 l2) := fun X hX => by
    have q4 : Below w5.heap.size w5 X := a5.trans (hX.mono a5.size)
    have p4 := HK4.out X (hb5.trans (q4.mono hb5.size))
    exact ⟨p4.1, p4.2.1, p4.2.2.1, p4.2.2.2, (by rw [hV5]; exact D2.new w5 _ _ _ : D2 V5 w5.heap.size (.int .i64 y2) (.slice (some ⟨G2, 0, none⟩) n2 n2)).keep hX, m5.keep q4⟩
  clear HK4 hb5 m5 hV5 a5
  obtain ⟨e0, e1, ef, _⟩ := (HK5.out _ (Below.refl _ _)).2.2.1
  rw [HV5.out] at e0 e1 ef
  go_wp2_with fail
  rw [← HV5.out]
  clear e0 e1 ef HV5
  generalize w5.heap.size = x2 at *
  refine (HG.out HF1.out _ _ _ (HK5.out _ (Below.refl _ _)).2.2.2.1 (HK5.out _ (Below.refl _ _)).2.2.2.2.2).mono ?_
  rintro r0 w6 ⟨rfl, hb6⟩
  have HK6 : Hid (∀ X, Below w6.heap.size w6 X → Below w.heap.size w X ∧ (D2 X w.heap.size (.int .i64 y1) (.slice a1 n1 c1) ∧ D2 X (w.heap.size + 1) (.int .i64 y2) (.slice a2 n2 c2)) ∧ D2 X x1 (.int .i64 y1) (.slice (some ⟨G1, 0, none⟩) n1 n1) ∧ BlkNew X G1 l1 ∧ D2 X x2 (.int .i64 y2) (.slice (some ⟨G2, 0, none⟩) n2 n2) ∧ BlkNew X G2 l2) := fun X hX => HK5.out X (hb6.trans (hX.mono hb6.size))
  clear HK5 hb6 HG
  have HKS : Hid (∀ X, Below w6.heap.size w6 X → X.cell? ⟨w.heap.size, 0, none⟩ = some (.int .i64 y1) ∧ X.cell? ⟨w.heap.size, 1, none⟩ = some (.slice a1 n1 c1) ∧ X.cell? ⟨x1, 0, none⟩ = some (.int .i64 y1) ∧ X.cell? ⟨x1, 1, none⟩ = some (.slice (some ⟨G1, 0, none⟩) n1 n1)) := fun X hb => ⟨(HK6.out X hb).2.1.1.c0, (HK6.out X hb).2.1.1.c1, (HK6.out X hb).2.2.1.c0, (HK6.out X hb).2.2.1.c1⟩
  have B0 : Hid (Below w6.heap.size w6 w6.drew) := (Below.refl _ _).drew
  go_wp2_with fail
  go_region_held3 (fun X => X.cell? ⟨w.heap.size, 0, none⟩ = some (.int .i64 y1) ∧ X.cell? ⟨w.heap.size, 1, none⟩ = some (.slice a1 n1 c1) ∧ X.cell? ⟨x1, 0, none⟩ = some (.int .i64 y1) ∧ X.cell? ⟨x1, 1, none⟩ = some (.slice (some ⟨G1, 0, none⟩) n1 n1))
    (first | exact HKS.out _ BB.out | exact HKS.out _ BA.out | exact HKS.out _ B0.out)
    (first
    | (go_at_call 20; refine (HT1.out HF1.out _ (HK6.out _ B0.out).1).mono ?_; rintro r0 wa ⟨⟨I1, rfl, ma, _⟩, hba⟩; have BA : Hid (Below w6.heap.size w6 wa) := B0.out.trans (hba.mono B0.out.size); have MA : Hid (BlkNew wa I1 l1) := ma; clear hba ma)
    | (go_at_call 22; refine (HQ1.out HF1.out _ _ _ (HK6.out _ BA.out).2.2.2.1 MA.out).mono ?_; rintro r0 w7 ⟨rfl, hbb⟩; have BB : Hid (Below w6.heap.size w6 w7) := BA.out.trans (hbb.mono BA.out.size); clear hbb))
  have HK7 : Hid (∀ X, Below w7.heap.size w7 X → Below w.heap.size w X ∧ (D2 X w.heap.size (.int .i64 y1) (.slice a1 n1 c1) ∧ D2 X (w.heap.size + 1) (.int .i64 y2) (.slice a2 n2 c2)) ∧ D2 X x1 (.int .i64 y1) (.slice (some ⟨G1, 0, none⟩) n1 n1) ∧ BlkNew X G1 l1 ∧ D2 X x2 (.int .i64 y2) (.slice (some ⟨G2, 0, none⟩) n2 n2) ∧ BlkNew X G2 l2) := fun X hX => HK6.out X (BB.out.trans (hX.mono BB.out.size))
  clear HK6 HKS B0 BA BB MA HT1 HQ1
  have HKS : Hid (∀ X, Below w7.heap.size w7 X → X.cell? ⟨(w.heap.size + 1), 0, none⟩ = some (.int .i64 y2) ∧ X.cell? ⟨(w.heap.size + 1), 1, none⟩ = some (.slice a2 n2 c2) ∧ X.cell? ⟨x2, 0, none⟩ = some (.int .i64 y2) ∧ X.cell? ⟨x2, 1, none⟩ = some (.slice (some ⟨G2, 0, none⟩) n2 n2)) := fun X hb => ⟨(HK7.out X hb).2.1.2.c0, (HK7.out X hb).2.1.2.c1, (HK7.out X hb).2.2.2.2.1.c0, (HK7.out X hb).2.2.2.2.1.c1⟩
  have B0 : Hid (Below w7.heap.size w7 w7.drew) := (Below.refl _ _).drew
  go_wp2_with fail
  go_region_held3 (fun X => X.cell? ⟨(w.heap.size + 1), 0, none⟩ = some (.int .i64 y2) ∧ X.cell? ⟨(w.heap.size + 1), 1, none⟩ = some (.slice a2 n2 c2) ∧ X.cell? ⟨x2, 0, none⟩ = some (.int .i64 y2) ∧ X.cell? ⟨x2, 1, none⟩ = some (.slice (some ⟨G2, 0, none⟩) n2 n2))
    (first | exact HKS.out _ BB.out | exact HKS.out _ BA.out | exact HKS.out _ B0.out)
    (first
    | (go_at_call 20; refine (HT2.out HF2.out _ (HK7.out _ B0.out).1).mono ?_; rintro r0 wa ⟨⟨I1, rfl, ma, _⟩, hba⟩; have BA : Hid (Below w7.heap.size w7 wa) := B0.out.trans (hba.mono B0.out.size); have MA : Hid (BlkNew wa I1 l2) := ma; clear hba ma)
    | (go_at_call 22; refine (HQ2.out HF2.out _ _ _ (HK7.out _ BA.out).2.2.2.2.2 MA.out).mono ?_; rintro r0 w8 ⟨rfl, hbb⟩; have BB : Hid (Below w7.heap.size w7 w8) := BA.out.trans (hbb.mono BA.out.size); clear hbb))
  have KZ : Hid (Below w.heap.size w w8) := (HK7.out _ BB.out).1
  clear HK7 HKS B0 BA BB MA HT2 HQ2
  go_wp2_with fail
  go_ret
  exact ⟨rfl, KZ.out⟩
end Go.Proofs.Ytdfikpadanmgmaa
