/-
  The law of BulkFault.
-/
import Derived.Test.YtdfikpadanmgmaaBlkLaw
import Derived.Test.YtdfikpadanmgmaaBlkSpec
import Derived.Test.YtdfikpadanmgmaaBlkImpl
import Derived.Deep.RegionHeld3
namespace Go.Proofs.Ytdfikpadanmgmaa
open Go.ChangeShapes Go.WideShapes Go.ChangeAt Go.RowKit Go.Sort
set_option maxRecDepth 100000 in
set_option maxHeartbeats 16000000 in
theorem lawBulkFault (w : World) (y : Int) (a : Option Addr) (cap : Nat) (l : List Wt) (s c t : Int) (hm : l.length ≤ maxLen) (hi : WtIn w a l) :
    Calls Try.prog 4 #[.agg #[.int .i64 y, .slice a l.length cap], .agg #[.int .i64 s, .int .i64 c, .int .i64 t]] w fun r w' => r = .returned (.bool true) ∧ Below w.heap.size w w' := by
  obtain ⟨W, hW⟩ : ∃ W, W = ((w.alloc (.cells #[.int .i64 y, .slice a l.length cap] 30)).alloc (.cells #[.int .i64 s, .int .i64 c, .int .i64 t] 23)) := ⟨_, rfl⟩
  have HW : Hid (W = ((w.alloc (.cells #[.int .i64 y, .slice a l.length cap] 30)).alloc (.cells #[.int .i64 s, .int .i64 c, .int .i64 t] 23))) := hW
  have K0 : Hid (Below w.heap.size w W ∧ D2 W w.heap.size (.int .i64 y) (.slice a l.length cap) ∧ D3 W (w.heap.size + 1) (.int .i64 s) (.int .i64 c) (.int .i64 t)) := by
    have h2 := D3.new (w.alloc (.cells #[.int .i64 y, .slice a l.length cap] 30)) (.int .i64 s) (.int .i64 c) (.int .i64 t) 23
    rw [show (w.alloc (.cells #[.int .i64 y, .slice a l.length cap] 30)).heap.size = w.heap.size + 1 by simp] at h2
    rw [hW]
    exact ⟨((Below.refl _ _).alloc (Nat.le_refl _) _).alloc (by simp) _, (D2.new w _ _ _).keep ((Below.refl _ _).alloc (Nat.le_refl _) _), h2⟩
  have HZ : Hid (∀ X, Calls Try.prog 18 #[.agg #[.int .i64 y, .slice a l.length cap], .int .i64 1048576] X fun e w' => e = .returned (.int .i64 (szWt 1048576 l.length)) ∧ Below X.heap.size X w') := fun X => szBulk_any X y a cap l hm 1048576 (by omega) (by omega)
  have HRM : Hid (¬ szWt 1048576 l.length < 0 → l.length ≤ 1048576) := fun h => by have := (szWt_room (by omega) h).1; omega
  have HT0 : Hid (l.length ≤ 1048576 → ∀ X, Below w.heap.size w X → Calls Try.prog 20 #[.agg #[.int .i64 y, .slice a l.length cap]] X fun e w' => (∃ G, e = .returned (.agg #[.int .i64 y, .slice (some ⟨G, 0, none⟩) l.length l.length]) ∧ BlkNew w' G l ∧ X.heap.size ≤ G) ∧ Below X.heap.size X w') := fun hl X hb => toBulk_any X y a cap l hl (hi.keep hb)
  have HQ0 : Hid (l.length ≤ 1048576 → ∀ X G J, BlkNew X G l → BlkNew X J l → Calls Try.prog 22 #[.agg #[.int .i64 y, .slice (some ⟨G, 0, none⟩) l.length l.length], .agg #[.int .i64 y, .slice (some ⟨J, 0, none⟩) l.length l.length]] X fun r w' => r = .returned (.bool true) ∧ Below X.heap.size X w') := fun hl X G J h k => eqBulk_same X y _ _ _ _ l hl h.in k.in
  have HTR : Hid (∀ X, Calls Try.prog 16 #[.agg #[.int .i64 s, .int .i64 c, .int .i64 t]] X fun r w' => r = .returned (.agg #[.int .i64 s, .int .i64 c, .int .i64 t]) ∧ Below X.heap.size X w') := toLanes_any s c t
  have HS : Hid (∀ X G, BlkNew X G l → Calls Try.prog 19 #[.agg #[.int .i64 y, .slice (some ⟨G, 0, none⟩) l.length l.length], .agg #[.int .i64 s, .int .i64 c, .int .i64 t]] X fun e w' => e = .returned (.int .i64 (blkC y l s c t)) ∧ Below X.heap.size X w') := fun X G h => specBlk_any y _ _ l s c t X h.in
  have HG : Hid (∀ X G, BlkNew X G l → Calls Try.prog 21 #[.agg #[.int .i64 y, .slice (some ⟨G, 0, none⟩) l.length l.length], .agg #[.int .i64 s, .int .i64 c, .int .i64 t]] X fun e w' => e = .returned (.int .i64 (blkC y l s c t)) ∧ Below X.heap.size X w') := fun X G h => implBlk_any y _ _ l s c t X (Nat.le_refl _) h.in
  clear hW hi hm
  generalize blkC y l s c t = q at *
  generalize szWt 1048576 l.length = z1 at *
  generalize l.length = n at *
  go_enter Try.func4, Try.ntmps4
  go_wp2_with fail
  rw [← HW.out]
  refine (HZ.out _).mono ?_
  rintro e0 w1 ⟨rfl, hb1⟩
  have HK : Hid (∀ X, Below w1.heap.size w1 X → Below w.heap.size w X ∧ D2 X w.heap.size (.int .i64 y) (.slice a n cap) ∧ D3 X (w.heap.size + 1) (.int .i64 s) (.int .i64 c) (.int .i64 t)) := fun X hX => by
    have b := hb1.trans (hX.mono hb1.size)
    exact ⟨K0.out.1.trans (b.mono K0.out.1.size), K0.out.2.1.keep b, K0.out.2.2.keep b⟩
  clear K0 HW HZ hb1
  by_cases cz : z1 < 0
  · clear HRM HT0 HQ0 HS HG HTR
    go_wp2_with fail
    go_ret
    exact ⟨rfl, (HK.out _ (Below.refl _ _)).1⟩
  have HF : n ≤ 1048576 := HRM.out (by omega)
  have HT := hid11 (HT0.out HF)
  have HQ := hid11 (HQ0.out HF)
  clear HRM HT0 HQ0
  have HKS : Hid (∀ X, Below w1.heap.size w1 X → X.cell? ⟨w.heap.size, 0, none⟩ = some (.int .i64 y) ∧ X.cell? ⟨w.heap.size, 1, none⟩ = some (.slice a n cap) ∧ X.cell? ⟨w.heap.size + 1, 0, none⟩ = some (.int .i64 s) ∧ X.cell? ⟨w.heap.size + 1, 1, none⟩ = some (.int .i64 c) ∧ X.cell? ⟨w.heap.size + 1, 2, none⟩ = some (.int .i64 t)) := fun X hb => ⟨(HK.out X hb).2.1.c0, (HK.out X hb).2.1.c1, (HK.out X hb).2.2.c0, (HK.out X hb).2.2.c1, (HK.out X hb).2.2.c2⟩
  have B0 : Hid (Below w1.heap.size w1 w1.drew) := (Below.refl _ _).drew
  go_wp2_with fail
  go_region_held3 (fun X => X.cell? ⟨w.heap.size, 0, none⟩ = some (.int .i64 y) ∧ X.cell? ⟨w.heap.size, 1, none⟩ = some (.slice a n cap) ∧ X.cell? ⟨w.heap.size + 1, 0, none⟩ = some (.int .i64 s) ∧ X.cell? ⟨w.heap.size + 1, 1, none⟩ = some (.int .i64 c) ∧ X.cell? ⟨w.heap.size + 1, 2, none⟩ = some (.int .i64 t))
    (first | exact HKS.out _ BC.out | exact HKS.out _ BB.out | exact HKS.out _ BA.out | exact HKS.out _ B0.out)
    (first
    | (go_at_call 19; refine (HS.out _ _ MB.out).mono ?_; rintro r0 wc ⟨rfl, hbc⟩; have BC : Hid (Below w1.heap.size w1 wc) := BB.out.trans (hbc.mono BB.out.size); clear hbc)
    | (go_at_call 16; refine (HTR.out _).mono ?_; rintro r0 wb ⟨rfl, hbb⟩; have BB : Hid (Below w1.heap.size w1 wb) := BA.out.trans (hbb.mono BA.out.size); have MB : Hid (BlkNew wb I1 l) := MA.out.keep hbb; clear hbb)
    | (go_at_call 20; refine (HT.out _ (HK.out _ B0.out).1).mono ?_; rintro r0 wa ⟨⟨I1, rfl, ma, _⟩, hba⟩; have BA : Hid (Below w1.heap.size w1 wa) := B0.out.trans (hba.mono B0.out.size); have MA : Hid (BlkNew wa I1 l) := ma; clear hba ma))
  have HK3 : Hid (∀ X, Below wc.heap.size wc X → Below w.heap.size w X ∧ D2 X w.heap.size (.int .i64 y) (.slice a n cap) ∧ D3 X (w.heap.size + 1) (.int .i64 s) (.int .i64 c) (.int .i64 t)) := fun X hX => HK.out X (BC.out.trans (hX.mono BC.out.size))
  clear HK HKS B0 BA BB BC MA MB HS
  obtain ⟨e0, e1, ef, _⟩ := (HK3.out _ (Below.refl _ _)).2.1
  go_wp2_with fail
  refine (HT.out _ (HK3.out _ (Below.refl _ _)).1).mono ?_
  rintro r0 w4 ⟨⟨G, rfl, m4, _⟩, hb4⟩
  clear e0 e1 ef
  obtain ⟨V4, hV4⟩ : ∃ V, V = w4.alloc (.cells #[.int .i64 y, .slice (some ⟨G, 0, none⟩) n n] 35) := ⟨_, rfl⟩
  have HV4 : Hid (V4 = w4.alloc (.cells #[.int .i64 y, .slice (some ⟨G, 0, none⟩) n n] 35)) := hV4
  have a4 : Below w4.heap.size w4 V4 := by rw [hV4]; exact (Below.refl _ _).alloc (Nat.le_refl _) _
  have h4 : D2 V4 w4.heap.size (.int .i64 y) (.slice (some ⟨G, 0, none⟩) n n) := by rw [hV4]; exact D2.new w4 _ _ _
  obtain ⟨y0, hy0⟩ : ∃ y, w4.heap.size = y := ⟨_, rfl⟩
  rw [hy0] at h4
  have HK4 : Hid (∀ X, Below V4.heap.size V4 X → Below w.heap.size w X ∧ D2 X w.heap.size (.int .i64 y) (.slice a n cap) ∧ D3 X (w.heap.size + 1) (.int .i64 s) (.int .i64 c) (.int .i64 t) ∧ D2 X y0 (.int .i64 y) (.slice (some ⟨G, 0, none⟩) n n) ∧ BlkNew X G l) := fun X hX => by
    have q4 : Below w4.heap.size w4 X := a4.trans (hX.mono a4.size)
    have p4 := HK3.out X (hb4.trans (q4.mono hb4.size))
    exact ⟨p4.1, p4.2.1, p4.2.2, h4.keep hX, m4.keep q4⟩
  clear HK3 hb4 m4 hV4 a4 h4
  have HKS : Hid (∀ X, Below V4.heap.size V4 X → X.cell? ⟨y0, 0, none⟩ = some (.int .i64 y) ∧ X.cell? ⟨y0, 1, none⟩ = some (.slice (some ⟨G, 0, none⟩) n n) ∧ X.cell? ⟨w.heap.size + 1, 0, none⟩ = some (.int .i64 s) ∧ X.cell? ⟨w.heap.size + 1, 1, none⟩ = some (.int .i64 c) ∧ X.cell? ⟨w.heap.size + 1, 2, none⟩ = some (.int .i64 t)) := fun X hb => ⟨(HK4.out X hb).2.2.2.1.c0, (HK4.out X hb).2.2.2.1.c1, (HK4.out X hb).2.2.1.c0, (HK4.out X hb).2.2.1.c1, (HK4.out X hb).2.2.1.c2⟩
  have B0 : Hid (Below V4.heap.size V4 V4.drew) := (Below.refl _ _).drew
  go_wp2_with fail
  rw [← HV4.out]
  clear HV4 hy0
  go_region_held3 (fun X => X.cell? ⟨y0, 0, none⟩ = some (.int .i64 y) ∧ X.cell? ⟨y0, 1, none⟩ = some (.slice (some ⟨G, 0, none⟩) n n) ∧ X.cell? ⟨w.heap.size + 1, 0, none⟩ = some (.int .i64 s) ∧ X.cell? ⟨w.heap.size + 1, 1, none⟩ = some (.int .i64 c) ∧ X.cell? ⟨w.heap.size + 1, 2, none⟩ = some (.int .i64 t))
    (first | exact HKS.out _ BC.out | exact HKS.out _ BB.out | exact HKS.out _ B0.out)
    (first
    | (go_at_call 21; refine (HG.out _ _ (HK4.out _ BB.out).2.2.2.2).mono ?_; rintro r0 wd ⟨rfl, hbc⟩; have BC : Hid (Below V4.heap.size V4 wd) := BB.out.trans (hbc.mono BB.out.size); clear hbc)
    | (go_at_call 16; refine (HTR.out _).mono ?_; rintro r0 wb ⟨rfl, hbb⟩; have BB : Hid (Below V4.heap.size V4 wb) := B0.out.trans (hbb.mono B0.out.size); clear hbb))
  have HK6 : Hid (∀ X, Below wd.heap.size wd X → Below w.heap.size w X ∧ D2 X w.heap.size (.int .i64 y) (.slice a n cap) ∧ D3 X (w.heap.size + 1) (.int .i64 s) (.int .i64 c) (.int .i64 t) ∧ D2 X y0 (.int .i64 y) (.slice (some ⟨G, 0, none⟩) n n) ∧ BlkNew X G l) := fun X hX => HK4.out X (BC.out.trans (hX.mono BC.out.size))
  clear HK4 HKS B0 BB BC HG HTR
  have HKS : Hid (∀ X, Below wd.heap.size wd X → X.cell? ⟨w.heap.size, 0, none⟩ = some (.int .i64 y) ∧ X.cell? ⟨w.heap.size, 1, none⟩ = some (.slice a n cap) ∧ X.cell? ⟨y0, 0, none⟩ = some (.int .i64 y) ∧ X.cell? ⟨y0, 1, none⟩ = some (.slice (some ⟨G, 0, none⟩) n n)) := fun X hb => ⟨(HK6.out X hb).2.1.c0, (HK6.out X hb).2.1.c1, (HK6.out X hb).2.2.2.1.c0, (HK6.out X hb).2.2.2.1.c1⟩
  have B0 : Hid (Below wd.heap.size wd wd.drew) := (Below.refl _ _).drew
  go_wp2_with fail
  go_region_held3 (fun X => X.cell? ⟨w.heap.size, 0, none⟩ = some (.int .i64 y) ∧ X.cell? ⟨w.heap.size, 1, none⟩ = some (.slice a n cap) ∧ X.cell? ⟨y0, 0, none⟩ = some (.int .i64 y) ∧ X.cell? ⟨y0, 1, none⟩ = some (.slice (some ⟨G, 0, none⟩) n n))
    (first | exact HKS.out _ BB.out | exact HKS.out _ BA.out | exact HKS.out _ B0.out)
    (first
    | (go_at_call 20; refine (HT.out _ (HK6.out _ B0.out).1).mono ?_; rintro r0 wa ⟨⟨I1, rfl, ma, _⟩, hba⟩; have BA : Hid (Below wd.heap.size wd wa) := B0.out.trans (hba.mono B0.out.size); have MA : Hid (BlkNew wa I1 l) := ma; clear hba ma)
    | (go_at_call 22; refine (HQ.out _ _ _ (HK6.out _ BA.out).2.2.2.2 MA.out).mono ?_; rintro r0 wf ⟨rfl, hbb⟩; have BB : Hid (Below wd.heap.size wd wf) := BA.out.trans (hbb.mono BA.out.size); clear hbb))
  all_goals
    have KZ : Hid (Below w.heap.size w wf) := (HK6.out _ BB.out).1
    clear HK6 HKS B0 BA BB MA HT HQ
    go_wp2_with fail
    go_ret
    exact ⟨rfl, KZ.out⟩
end Go.Proofs.Ytdfikpadanmgmaa
