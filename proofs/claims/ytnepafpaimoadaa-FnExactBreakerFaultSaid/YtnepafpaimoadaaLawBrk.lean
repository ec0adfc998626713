/-
  The law of BreakerFault.
-/
import Derived.Test.YtnepafpaimoadaaBrkLaw
import Derived.Test.YtnepafpaimoadaaBrkBad
import Derived.Deep.RegionHeld3
namespace Go.Proofs.Ytnepafpaimoadaa
open Go.ChangeShapes Go.WideShapes Go.ChangeAt Go.RowKit Go.Sort
set_option maxRecDepth 100000 in
set_option maxHeartbeats 16000000 in
theorem lawBreakerFault (w : World) (s t o : Int) (a : Option Addr) (cap : Nat) (l : List Mk) (hm : l.length ≤ maxLen) (hi : MkIn w a l) :
    Calls Try.prog 7 #[.agg #[.int .i64 s, .int .i64 t, .int .i64 o, .slice a l.length cap]] w fun r w' => r = .returned (.bool true) ∧ Below w.heap.size w w' := by
  obtain ⟨W, hW⟩ : ∃ W, W = (w.alloc (.cells #[.int .i64 s, .int .i64 t, .int .i64 o, .slice a l.length cap] 61)) := ⟨_, rfl⟩
  have HW : Hid (W = (w.alloc (.cells #[.int .i64 s, .int .i64 t, .int .i64 o, .slice a l.length cap] 61))) := hW
  have K0 : Hid (Below w.heap.size w W ∧ S4 W w.heap.size (.int .i64 s) (.int .i64 t) (.int .i64 o) (.slice a l.length cap)) := by
    rw [hW]; exact ⟨(Below.refl _ _).alloc (Nat.le_refl _) _, S4.new w _ _ _ _ _⟩
  have HZ : Hid (∀ X, Calls Try.prog 32 #[.agg #[.int .i64 s, .int .i64 t, .int .i64 o, .slice a l.length cap], .int .i64 1048576] X fun e w' => e = .returned (.int .i64 (szMk 1048576 l.length)) ∧ Below X.heap.size X w') := fun X => szBreaker_any X s t o a cap l hm 1048576 (by omega) (by omega)
  have HR : Hid (¬ szMk 1048576 l.length < 0 → l.length ≤ 1048576) := fun h => by have := (szMk_room (by omega) h).1; omega
  have HT : Hid (l.length ≤ 1048576 → ∀ X, Below w.heap.size w X → Calls Try.prog 33 #[.agg #[.int .i64 s, .int .i64 t, .int .i64 o, .slice a l.length cap]] X fun e w' => (∃ G, e = .returned (.agg #[.int .i64 s, .int .i64 t, .int .i64 o, .slice (some ⟨G, 0, none⟩) l.length l.length]) ∧ BrkNew w' G l ∧ X.heap.size ≤ G) ∧ Below X.heap.size X w') := fun hl X hb => toBreaker_any X s t o a cap l hl (hi.keep hb)
  have HQ : Hid (l.length ≤ 1048576 → ∀ X G J, BrkNew X G l → BrkNew X J l → Calls Try.prog 34 #[.agg #[.int .i64 s, .int .i64 t, .int .i64 o, .slice (some ⟨G, 0, none⟩) l.length l.length], .agg #[.int .i64 s, .int .i64 t, .int .i64 o, .slice (some ⟨J, 0, none⟩) l.length l.length]] X fun r w' => r = .returned (.bool true) ∧ Below X.heap.size X w') := fun hl X G J h k => eqBreaker_same X s t o _ _ _ _ l hl h.in k.in
  have HS : Hid (l.length ≤ 1048576 → ∀ X G, BrkNew X G l → Calls Try.prog 18 #[.agg #[.int .i64 s, .int .i64 t, .int .i64 o, .slice (some ⟨G, 0, none⟩) l.length l.length]] X fun e w' => e = .returned (.int .i64 (brkC s t o l)) ∧ Below X.heap.size X w') := fun hl X G h => specBrk_any s t o _ _ l X h.in
  have HG : Hid (l.length ≤ 1048576 → ∀ X G, BrkNew X G l → Calls Try.prog 17 #[.agg #[.int .i64 s, .int .i64 t, .int .i64 o, .slice (some ⟨G, 0, none⟩) l.length l.length]] X fun e w' => e = .returned (.int .i64 (brkC s t o l)) ∧ Below X.heap.size X w') := fun hl X G h => implBrk_any s t o _ _ l X h.in
  clear hW hi hm
  generalize brkC s t o l = c at *
  generalize szMk 1048576 l.length = z1 at *
  generalize l.length = n at *
  go_enter Try.func7, Try.ntmps7
  go_wp2_with fail
  rw [← HW.out]
  refine (HZ.out _).mono ?_
  rintro e0 w1 ⟨rfl, hb1⟩
  have K1 : Hid (Below w.heap.size w w1 ∧ S4 w1 w.heap.size (.int .i64 s) (.int .i64 t) (.int .i64 o) (.slice a n cap)) := ⟨K0.out.1.trans (hb1.mono K0.out.1.size), K0.out.2.keep hb1⟩
  clear K0 HW HZ hb1
  by_cases cz : z1 < 0
  · clear HR HT HQ HS HG
    go_wp2_with fail
    go_ret
    exact ⟨rfl, K1.out.1⟩
  have HF : Hid (n ≤ 1048576) := HR.out (by omega)
  clear HR
  obtain ⟨e0, e1, e2, e3, ef, _⟩ := K1.out.2
  go_wp2_with fail
  refine (HT.out HF.out _ K1.out.1).mono ?_
  rintro r0 w2 ⟨⟨J1, rfl, m2, _⟩, hb2⟩
  have K2 : Hid (Below w.heap.size w w2 ∧ S4 w2 w.heap.size (.int .i64 s) (.int .i64 t) (.int .i64 o) (.slice a n cap) ∧ BrkNew w2 J1 l) := ⟨K1.out.1.trans (hb2.mono K1.out.1.size), K1.out.2.keep hb2, m2⟩
  clear K1 e0 e1 e2 e3 ef hb2 m2
  go_wp2_with fail
  refine (HS.out HF.out _ _ K2.out.2.2).mono ?_
  rintro r0 w3 ⟨rfl, hb3⟩
  have K3 : Hid (Below w.heap.size w w3 ∧ S4 w3 w.heap.size (.int .i64 s) (.int .i64 t) (.int .i64 o) (.slice a n cap)) := ⟨K2.out.1.trans (hb3.mono K2.out.1.size), K2.out.2.1.keep hb3⟩
  clear K2 hb3 HS
  obtain ⟨e0, e1, e2, e3, ef, _⟩ := K3.out.2
  go_wp2_with fail
  refine (HT.out HF.out _ K3.out.1).mono ?_
  rintro r0 w4 ⟨⟨G, rfl, m4, _⟩, hb4⟩
  obtain ⟨V4, hV4⟩ : ∃ V, V = w4.alloc (.cells #[.int .i64 s, .int .i64 t, .int .i64 o, .slice (some ⟨G, 0, none⟩) n n] 26) := ⟨_, rfl⟩
  have HV4 : Hid (V4 = w4.alloc (.cells #[.int .i64 s, .int .i64 t, .int .i64 o, .slice (some ⟨G, 0, none⟩) n n] 26)) := hV4
  have K4 : Hid (Below w.heap.size w V4 ∧ S4 V4 w.heap.size (.int .i64 s) (.int .i64 t) (.int .i64 o) (.slice a n cap) ∧ S4 V4 w4.heap.size (.int .i64 s) (.int .i64 t) (.int .i64 o) (.slice (some ⟨G, 0, none⟩) n n) ∧ BrkNew V4 G l) := by
    have a4 : Below w4.heap.size w4 V4 := by rw [hV4]; exact (Below.refl _ _).alloc (Nat.le_refl _) _
    have b4 := K3.out.1.trans (hb4.mono K3.out.1.size)
    exact ⟨b4.trans (a4.mono b4.size), (K3.out.2.keep hb4).keep a4, by rw [hV4]; exact S4.new w4 _ _ _ _ _, m4.keep a4⟩
  clear K3 e0 e1 e2 e3 ef hb4 m4 hV4
  go_wp2_with fail
  rw [← HV4.out]
  refine (HG.out HF.out _ _ K4.out.2.2.2).mono ?_
  rintro r0 w5 ⟨rfl, hb5⟩
  generalize w4.heap.size = x0 at *
  have HK : Hid (∀ X, Below w5.heap.size w5 X → Below w.heap.size w X ∧ S4 X w.heap.size (.int .i64 s) (.int .i64 t) (.int .i64 o) (.slice a n cap) ∧ S4 X x0 (.int .i64 s) (.int .i64 t) (.int .i64 o) (.slice (some ⟨G, 0, none⟩) n n) ∧ BrkNew X G l) := fun X hX => by
    have hb : Below V4.heap.size V4 X := hb5.trans (hX.mono hb5.size)
    exact ⟨K4.out.1.trans (hb.mono K4.out.1.size), K4.out.2.1.keep hb, K4.out.2.2.1.keep hb, K4.out.2.2.2.keep hb⟩
  clear K4 hb5 HV4 HG
  have HKS : Hid (∀ X, Below w5.heap.size w5 X → X.cell? ⟨w.heap.size, 0, none⟩ = some (.int .i64 s) ∧ X.cell? ⟨w.heap.size, 1, none⟩ = some (.int .i64 t) ∧ X.cell? ⟨w.heap.size, 2, none⟩ = some (.int .i64 o) ∧ X.cell? ⟨w.heap.size, 3, none⟩ = some (.slice a n cap) ∧ X.cell? ⟨x0, 0, none⟩ = some (.int .i64 s) ∧ X.cell? ⟨x0, 1, none⟩ = some (.int .i64 t) ∧ X.cell? ⟨x0, 2, none⟩ = some (.int .i64 o) ∧ X.cell? ⟨x0, 3, none⟩ = some (.slice (some ⟨G, 0, none⟩) n n)) := fun X hb => ⟨(HK.out X hb).2.1.c0, (HK.out X hb).2.1.c1, (HK.out X hb).2.1.c2, (HK.out X hb).2.1.c3, (HK.out X hb).2.2.1.c0, (HK.out X hb).2.2.1.c1, (HK.out X hb).2.2.1.c2, (HK.out X hb).2.2.1.c3⟩
  have B0 : Hid (Below w5.heap.size w5 w5.drew) := (Below.refl _ _).drew
  go_wp2_with fail
  go_region_held3 (fun X => X.cell? ⟨w.heap.size, 0, none⟩ = some (.int .i64 s) ∧ X.cell? ⟨w.heap.size, 1, none⟩ = some (.int .i64 t) ∧ X.cell? ⟨w.heap.size, 2, none⟩ = some (.int .i64 o) ∧ X.cell? ⟨w.heap.size, 3, none⟩ = some (.slice a n cap) ∧ X.cell? ⟨x0, 0, none⟩ = some (.int .i64 s) ∧ X.cell? ⟨x0, 1, none⟩ = some (.int .i64 t) ∧ X.cell? ⟨x0, 2, none⟩ = some (.int .i64 o) ∧ X.cell? ⟨x0, 3, none⟩ = some (.slice (some ⟨G, 0, none⟩) n n))
    (first | exact HKS.out _ BB.out | exact HKS.out _ BA.out | exact HKS.out _ B0.out)
    (first
    | (go_at_call 33; refine (HT.out HF.out _ (HK.out _ B0.out).1).mono ?_; rintro r0 wa ⟨⟨I1, rfl, ma, _⟩, hba⟩; have BA : Hid (Below w5.heap.size w5 wa) := B0.out.trans (hba.mono B0.out.size); have MA : Hid (BrkNew wa I1 l) := ma; clear hba ma)
    | (go_at_call 34; refine (HQ.out HF.out _ _ _ (HK.out _ BA.out).2.2.2 MA.out).mono ?_; rintro r0 wb ⟨rfl, hbb⟩; have BB : Hid (Below w5.heap.size w5 wb) := BA.out.trans (hbb.mono BA.out.size); clear hbb))
  all_goals
    have KZ : Hid (Below w.heap.size w wb) := (HK.out _ BB.out).1
    clear HK HKS B0 BA BB MA HT HQ
    go_wp2_with fail
    go_ret
    exact ⟨rfl, KZ.out⟩
end Go.Proofs.Ytnepafpaimoadaa
