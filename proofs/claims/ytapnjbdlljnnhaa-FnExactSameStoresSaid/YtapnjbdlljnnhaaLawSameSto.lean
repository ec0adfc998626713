/-
  The law of SameStores.
-/
import Derived.Test.YtapnjbdlljnnhaaStoLaw
import Derived.Test.YtapnjbdlljnnhaaSameSto
import Derived.Deep.RegionHeld3
namespace Go.Proofs.Ytapnjbdlljnnhaa
open Go.ChangeShapes Go.WideShapes Go.ChangeAt Go.RowKit Go.Sort
theorem same_map (bu1 gu1 : Int) (bu2 gu2 : Int) {tl1 kl1 tl2 kl2 a b c d : List (Ent × EntR)} (e1 : a.map Prod.fst = tl1.map Prod.fst) (e2 : b.map Prod.fst = kl1.map Prod.fst) (e3 : c.map Prod.fst = tl2.map Prod.fst) (e4 : d.map Prod.fst = kl2.map Prod.fst) : sameSt bu1 gu1 a b bu2 gu2 c d = sameSt bu1 gu1 tl1 kl1 bu2 gu2 tl2 kl2 := by
  unfold sameSt
  rw [e1, e2, e3, e4]
theorem spec8Same_new (w : World) (bu1 gu1 bu2 gu2 : Int) (tl1 kl1 tl2 kl2 : List (Ent × EntR)) (G1 G2 H1 H2 : Nat) (hf : StoFit tl1 kl1) (h : StoNew w G1 G2 tl1 kl1) (k : StoNew w H1 H2 tl2 kl2) :
    Calls Try.prog 5 #[.agg #[.int .i64 bu1, .int .i64 gu1, .slice (some ⟨G1, 0, none⟩) tl1.length tl1.length, .slice (some ⟨G2, 0, none⟩) kl1.length kl1.length], .agg #[.int .i64 bu2, .int .i64 gu2, .slice (some ⟨H1, 0, none⟩) tl2.length tl2.length, .slice (some ⟨H2, 0, none⟩) kl2.length kl2.length]] w fun e w' => e = .returned (.bool (sameSt bu1 gu1 tl1 kl1 bu2 gu2 tl2 kl2)) ∧ Below w.heap.size w w' := by
  obtain ⟨a, b, e1, e2, m⟩ := h
  obtain ⟨c, d, e3, e4, n⟩ := k
  have l1 := len_map e1
  have l2 := len_map e2
  have l3 := len_map e3
  have l4 := len_map e4
  rw [← l1, ← l2, ← l3, ← l4, ← same_map bu1 gu1 bu2 gu2 e1 e2 e3 e4]
  exact spec8Same_any w bu1 gu1 bu2 gu2 _ _ _ _ _ _ _ _ a b c d (by rw [l1]; exact hf.tn) (by rw [l2]; exact hf.kn) (fit_map e1 hf.tf) (fit_map e2 hf.kf) m.t.in n.t.in m.k.in n.k.in
theorem impl8Same_new (w : World) (bu1 gu1 bu2 gu2 : Int) (tl1 kl1 tl2 kl2 : List (Ent × EntR)) (G1 G2 H1 H2 : Nat) (hf : StoFit tl1 kl1) (h : StoNew w G1 G2 tl1 kl1) (k : StoNew w H1 H2 tl2 kl2) :
    Calls Try.prog 7 #[.agg #[.int .i64 bu1, .int .i64 gu1, .slice (some ⟨G1, 0, none⟩) tl1.length tl1.length, .slice (some ⟨G2, 0, none⟩) kl1.length kl1.length], .agg #[.int .i64 bu2, .int .i64 gu2, .slice (some ⟨H1, 0, none⟩) tl2.length tl2.length, .slice (some ⟨H2, 0, none⟩) kl2.length kl2.length]] w fun e w' => e = .returned (.bool (sameSt bu1 gu1 tl1 kl1 bu2 gu2 tl2 kl2)) ∧ Below w.heap.size w w' := by
  obtain ⟨a, b, e1, e2, m⟩ := h
  obtain ⟨c, d, e3, e4, n⟩ := k
  have l1 := len_map e1
  have l2 := len_map e2
  have l3 := len_map e3
  have l4 := len_map e4
  rw [← l1, ← l2, ← l3, ← l4, ← same_map bu1 gu1 bu2 gu2 e1 e2 e3 e4]
  exact impl8Same_any w bu1 gu1 bu2 gu2 _ _ _ _ _ _ _ _ a b c d (by rw [l1]; exact hf.tn) (by rw [l2]; exact hf.kn) (fit_map e1 hf.tf) (fit_map e2 hf.kf) m.t.in n.t.in m.k.in n.k.in
set_option maxRecDepth 100000 in
set_option maxHeartbeats 16000000 in
theorem lawSameStores (w : World) (bu1 gu1 : Int) (ta1 ka1 : Option Addr) (tc1 kc1 : Nat) (tl1 kl1 : List (Ent × EntR)) (bu2 gu2 : Int) (ta2 ka2 : Option Addr) (tc2 kc2 : Nat) (tl2 kl2 : List (Ent × EntR)) (h1 : StoArg w ta1 ka1 tl1 kl1) (h2 : StoArg w ta2 ka2 tl2 kl2) :
    Calls Try.prog 3 #[.agg #[.int .i64 bu1, .int .i64 gu1, .slice ta1 tl1.length tc1, .slice ka1 kl1.length kc1], .agg #[.int .i64 bu2, .int .i64 gu2, .slice ta2 tl2.length tc2, .slice ka2 kl2.length kc2]] w fun r w' => r = .returned (.bool true) ∧ Below w.heap.size w w' := by
  obtain ⟨W, hW⟩ : ∃ W, W = (w.alloc (.cells #[.int .i64 bu1, .int .i64 gu1, .slice ta1 tl1.length tc1, .slice ka1 kl1.length kc1] 24)).alloc (.cells #[.int .i64 bu2, .int .i64 gu2, .slice ta2 tl2.length tc2, .slice ka2 kl2.length kc2] 24) := ⟨_, rfl⟩
  have HW : Hid (W = (w.alloc (.cells #[.int .i64 bu1, .int .i64 gu1, .slice ta1 tl1.length tc1, .slice ka1 kl1.length kc1] 24)).alloc (.cells #[.int .i64 bu2, .int .i64 gu2, .slice ta2 tl2.length tc2, .slice ka2 kl2.length kc2] 24)) := hW
  have K0 : Hid (Below w.heap.size w W ∧ S4 W w.heap.size (.int .i64 bu1) (.int .i64 gu1) (.slice ta1 tl1.length tc1) (.slice ka1 kl1.length kc1) ∧ S4 W (w.heap.size + 1) (.int .i64 bu2) (.int .i64 gu2) (.slice ta2 tl2.length tc2) (.slice ka2 kl2.length kc2)) := by
    rw [hW]
    refine ⟨((Below.refl _ _).alloc (Nat.le_refl _) _).alloc (by simp) _, (S4.new w _ _ _ _ _).keep ((Below.refl _ _).alloc (Nat.le_refl _) _), ?_⟩
    have := S4.new (w.alloc (.cells #[.int .i64 bu1, .int .i64 gu1, .slice ta1 tl1.length tc1, .slice ka1 kl1.length kc1] 24)) (.int .i64 bu2) (.int .i64 gu2) (.slice ta2 tl2.length tc2) (.slice ka2 kl2.length kc2) 24
    simpa using this
  have HZ1 : Hid (∀ X, Below w.heap.size w X → Calls Try.prog 4 #[.agg #[.int .i64 bu1, .int .i64 gu1, .slice ta1 tl1.length tc1, .slice ka1 kl1.length kc1], .int .i64 1048576] X fun r w' => r = .returned (.int .i64 (szSt 1048576 tl1 kl1)) ∧ Below X.heap.size X w') := fun X hb => szStore_arg X bu1 gu1 ta1 ka1 tc1 kc1 tl1 kl1 1048576 (by omega) (by omega) (h1.keep hb)
  have HR1 : Hid (¬ szSt 1048576 tl1 kl1 < 0 → StoFit tl1 kl1 ∧ szSt 1048576 tl1 kl1 ≤ 1048576) := szSt_room (by omega)
  have HZ2 : Hid (∀ X, Below w.heap.size w X → ¬ szSt 1048576 tl1 kl1 < 0 → Calls Try.prog 4 #[.agg #[.int .i64 bu2, .int .i64 gu2, .slice ta2 tl2.length tc2, .slice ka2 kl2.length kc2], .int .i64 (szSt 1048576 tl1 kl1)] X fun r w' => r = .returned (.int .i64 (szSt (szSt 1048576 tl1 kl1) tl2 kl2)) ∧ Below X.heap.size X w') := fun X hb h => szStore_arg X bu2 gu2 ta2 ka2 tc2 kc2 tl2 kl2 _ (by omega) (HR1.out h).2 (h2.keep hb)
  have HR2 : Hid (¬ szSt 1048576 tl1 kl1 < 0 → ¬ szSt (szSt 1048576 tl1 kl1) tl2 kl2 < 0 → StoFit tl2 kl2) := fun h h' => (szSt_room (HR1.out h).2 h').1
  have HT1 : Hid (StoFit tl1 kl1 → ∀ X, Below w.heap.size w X → Calls Try.prog 6 #[.agg #[.int .i64 bu1, .int .i64 gu1, .slice ta1 tl1.length tc1, .slice ka1 kl1.length kc1]] X fun ee w' => (∃ G1 G2, ee = .returned (.agg #[.int .i64 bu1, .int .i64 gu1, .slice (some ⟨G1, 0, none⟩) tl1.length tl1.length, .slice (some ⟨G2, 0, none⟩) kl1.length kl1.length]) ∧ StoNew w' G1 G2 tl1 kl1 ∧ X.heap.size ≤ G1) ∧ Below X.heap.size X w') := fun hf X hb => toStore_arg X bu1 gu1 ta1 ka1 tc1 kc1 tl1 kl1 (h1.keep hb) hf
  have HT2 : Hid (StoFit tl2 kl2 → ∀ X, Below w.heap.size w X → Calls Try.prog 6 #[.agg #[.int .i64 bu2, .int .i64 gu2, .slice ta2 tl2.length tc2, .slice ka2 kl2.length kc2]] X fun ee w' => (∃ H1 H2, ee = .returned (.agg #[.int .i64 bu2, .int .i64 gu2, .slice (some ⟨H1, 0, none⟩) tl2.length tl2.length, .slice (some ⟨H2, 0, none⟩) kl2.length kl2.length]) ∧ StoNew w' H1 H2 tl2 kl2 ∧ X.heap.size ≤ H1) ∧ Below X.heap.size X w') := fun hf X hb => toStore_arg X bu2 gu2 ta2 ka2 tc2 kc2 tl2 kl2 (h2.keep hb) hf
  have HQ1 : Hid (StoFit tl1 kl1 → ∀ X G1 G2 H1 H2, StoNew X G1 G2 tl1 kl1 → StoNew X H1 H2 tl1 kl1 → Calls Try.prog 8 #[.agg #[.int .i64 bu1, .int .i64 gu1, .slice (some ⟨G1, 0, none⟩) tl1.length tl1.length, .slice (some ⟨G2, 0, none⟩) kl1.length kl1.length], .agg #[.int .i64 bu1, .int .i64 gu1, .slice (some ⟨H1, 0, none⟩) tl1.length tl1.length, .slice (some ⟨H2, 0, none⟩) kl1.length kl1.length]] X fun r w' => r = .returned (.bool true) ∧ Below X.heap.size X w') := fun hf X G1 G2 H1 H2 h k => eqStore_new X bu1 gu1 tl1 kl1 G1 G2 H1 H2 hf h k
  have HQ2 : Hid (StoFit tl2 kl2 → ∀ X G1 G2 H1 H2, StoNew X G1 G2 tl2 kl2 → StoNew X H1 H2 tl2 kl2 → Calls Try.prog 8 #[.agg #[.int .i64 bu2, .int .i64 gu2, .slice (some ⟨G1, 0, none⟩) tl2.length tl2.length, .slice (some ⟨G2, 0, none⟩) kl2.length kl2.length], .agg #[.int .i64 bu2, .int .i64 gu2, .slice (some ⟨H1, 0, none⟩) tl2.length tl2.length, .slice (some ⟨H2, 0, none⟩) kl2.length kl2.length]] X fun r w' => r = .returned (.bool true) ∧ Below X.heap.size X w') := fun hf X G1 G2 H1 H2 h k => eqStore_new X bu2 gu2 tl2 kl2 G1 G2 H1 H2 hf h k
  have HS : Hid (StoFit tl1 kl1 → ∀ X G1 G2 H1 H2, StoNew X G1 G2 tl1 kl1 → StoNew X H1 H2 tl2 kl2 → Calls Try.prog 5 #[.agg #[.int .i64 bu1, .int .i64 gu1, .slice (some ⟨G1, 0, none⟩) tl1.length tl1.length, .slice (some ⟨G2, 0, none⟩) kl1.length kl1.length], .agg #[.int .i64 bu2, .int .i64 gu2, .slice (some ⟨H1, 0, none⟩) tl2.length tl2.length, .slice (some ⟨H2, 0, none⟩) kl2.length kl2.length]] X fun e w' => e = .returned (.bool (sameSt bu1 gu1 tl1 kl1 bu2 gu2 tl2 kl2)) ∧ Below X.heap.size X w') := fun hf X G1 G2 H1 H2 h k => spec8Same_new X bu1 gu1 bu2 gu2 tl1 kl1 tl2 kl2 G1 G2 H1 H2 hf h k
  have HG : Hid (StoFit tl1 kl1 → ∀ X G1 G2 H1 H2, StoNew X G1 G2 tl1 kl1 → StoNew X H1 H2 tl2 kl2 → Calls Try.prog 7 #[.agg #[.int .i64 bu1, .int .i64 gu1, .slice (some ⟨G1, 0, none⟩) tl1.length tl1.length, .slice (some ⟨G2, 0, none⟩) kl1.length kl1.length], .agg #[.int .i64 bu2, .int .i64 gu2, .slice (some ⟨H1, 0, none⟩) tl2.length tl2.length, .slice (some ⟨H2, 0, none⟩) kl2.length kl2.length]] X fun e w' => e = .returned (.bool (sameSt bu1 gu1 tl1 kl1 bu2 gu2 tl2 kl2)) ∧ Below X.heap.size X w') := fun hf X G1 G2 H1 H2 h k => impl8Same_new X bu1 gu1 bu2 gu2 tl1 kl1 tl2 kl2 G1 G2 H1 H2 hf h k
  clear h1 h2 hW
  generalize sameSt bu1 gu1 tl1 kl1 bu2 gu2 tl2 kl2 = S at *
  generalize szSt (szSt 1048576 tl1 kl1) tl2 kl2 = z2 at *
  generalize szSt 1048576 tl1 kl1 = z1 at *
  generalize tl1.length = tn1 at *
  generalize kl1.length = kn1 at *
  generalize tl2.length = tn2 at *
  generalize kl2.length = kn2 at *
  go_enter Try.func3, Try.ntmps3
  go_wp2_with fail
  rw [← HW.out]
  refine (HZ1.out _ K0.out.1).mono ?_
  rintro e0 w1 ⟨rfl, hb1⟩
  have K1 : Hid (Below w.heap.size w w1 ∧ S4 w1 w.heap.size (.int .i64 bu1) (.int .i64 gu1) (.slice ta1 tn1 tc1) (.slice ka1 kn1 kc1) ∧ S4 w1 (w.heap.size + 1) (.int .i64 bu2) (.int .i64 gu2) (.slice ta2 tn2 tc2) (.slice ka2 kn2 kc2)) := ⟨K0.out.1.trans (hb1.mono K0.out.1.size), K0.out.2.1.keep hb1, K0.out.2.2.keep hb1⟩
  clear K0 HW HZ1 hb1
  by_cases cz : z1 < 0
  · clear HZ2 HR1 HR2 HT1 HT2 HQ1 HQ2 HS HG
    go_wp2_with fail
    go_ret
    exact ⟨rfl, K1.out.1⟩
  have hz1 := HR1.out (by omega)
  have HF1 : Hid (StoFit tl1 kl1) := hz1.1
  have hz1' := hz1.2
  clear hz1 HR1
  have e0 := K1.out.2.2.c0
  have e1 := K1.out.2.2.c1
  have e2 := K1.out.2.2.c2
  have e3 := K1.out.2.2.c3
  go_wp2_with fail
  refine (HZ2.out _ K1.out.1 (by omega)).mono ?_
  rintro r0 w2 ⟨rfl, hb2⟩
  have K2 : Hid (Below w.heap.size w w2 ∧ S4 w2 w.heap.size (.int .i64 bu1) (.int .i64 gu1) (.slice ta1 tn1 tc1) (.slice ka1 kn1 kc1) ∧ S4 w2 (w.heap.size + 1) (.int .i64 bu2) (.int .i64 gu2) (.slice ta2 tn2 tc2) (.slice ka2 kn2 kc2)) := ⟨K1.out.1.trans (hb2.mono K1.out.1.size), K1.out.2.1.keep hb2, K1.out.2.2.keep hb2⟩
  clear K1 HZ2 hb2 e0 e1 e2 e3
  by_cases cy : z2 < 0
  · clear HR2 HT1 HT2 HQ1 HQ2 HS HG
    go_wp2_with fail
    go_ret
    exact ⟨rfl, K2.out.1⟩
  have HF2 : Hid (StoFit tl2 kl2) := HR2.out (by omega) (by omega)
  clear HR2
  have HK : Hid (∀ X, Below w2.heap.size w2 X → Below w.heap.size w X ∧ S4 X w.heap.size (.int .i64 bu1) (.int .i64 gu1) (.slice ta1 tn1 tc1) (.slice ka1 kn1 kc1) ∧ S4 X (w.heap.size + 1) (.int .i64 bu2) (.int .i64 gu2) (.slice ta2 tn2 tc2) (.slice ka2 kn2 kc2)) := fun X hb => ⟨K2.out.1.trans (hb.mono K2.out.1.size), K2.out.2.1.keep hb, K2.out.2.2.keep hb⟩
  have B0 : Hid (Below w2.heap.size w2 w2.drew) := (Below.refl _ _).drew
  have HKS : Hid (∀ X, Below w2.heap.size w2 X → X.cell? ⟨w.heap.size, 0, none⟩ = some (.int .i64 bu1) ∧ X.cell? ⟨w.heap.size, 1, none⟩ = some (.int .i64 gu1) ∧ X.cell? ⟨w.heap.size, 2, none⟩ = some (.slice ta1 tn1 tc1) ∧ X.cell? ⟨w.heap.size, 3, none⟩ = some (.slice ka1 kn1 kc1) ∧ X.cell? ⟨w.heap.size + 1, 0, none⟩ = some (.int .i64 bu2) ∧ X.cell? ⟨w.heap.size + 1, 1, none⟩ = some (.int .i64 gu2) ∧ X.cell? ⟨w.heap.size + 1, 2, none⟩ = some (.slice ta2 tn2 tc2) ∧ X.cell? ⟨w.heap.size + 1, 3, none⟩ = some (.slice ka2 kn2 kc2)) := fun X hb => ⟨(HK.out X hb).2.1.c0, (HK.out X hb).2.1.c1, (HK.out X hb).2.1.c2, (HK.out X hb).2.1.c3, (HK.out X hb).2.2.c0, (HK.out X hb).2.2.c1, (HK.out X hb).2.2.c2, (HK.out X hb).2.2.c3⟩
  clear K2
  go_wp2_with fail
  go_region_held3 (fun X => X.cell? ⟨w.heap.size, 0, none⟩ = some (.int .i64 bu1) ∧ X.cell? ⟨w.heap.size, 1, none⟩ = some (.int .i64 gu1) ∧ X.cell? ⟨w.heap.size, 2, none⟩ = some (.slice ta1 tn1 tc1) ∧ X.cell? ⟨w.heap.size, 3, none⟩ = some (.slice ka1 kn1 kc1) ∧ X.cell? ⟨w.heap.size + 1, 0, none⟩ = some (.int .i64 bu2) ∧ X.cell? ⟨w.heap.size + 1, 1, none⟩ = some (.int .i64 gu2) ∧ X.cell? ⟨w.heap.size + 1, 2, none⟩ = some (.slice ta2 tn2 tc2) ∧ X.cell? ⟨w.heap.size + 1, 3, none⟩ = some (.slice ka2 kn2 kc2))
    (first | exact HKS.out _ BC.out | exact HKS.out _ BB.out | exact HKS.out _ BA.out | exact HKS.out _ B0.out)
    (first
    | (go_at_call 5; refine (HS.out HF1.out _ _ _ _ _ MA.out MB.out).mono ?_; rintro r0 wc ⟨rfl, hbc⟩; have BC : Hid (Below w2.heap.size w2 wc) := BB.out.trans (hbc.mono BB.out.size); clear hbc)
    | (go_at_call 6; have hBA := BA; refine (HT2.out HF2.out _ (HK.out _ BA.out).1).mono ?_; rintro r0 wb ⟨⟨H1, H2, rfl, mb, _⟩, hbb⟩; have BB : Hid (Below w2.heap.size w2 wb) := BA.out.trans (hbb.mono BA.out.size); have MB : Hid (StoNew wb H1 H2 tl2 kl2) := mb; have MA : Hid (StoNew wb _ _ tl1 kl1) := MA0.out.keep hbb; clear hbb mb hBA)
    | (go_at_call 6; refine (HT1.out HF1.out _ (HK.out _ B0.out).1).mono ?_; rintro r0 wa ⟨⟨G1, G2, rfl, ma, _⟩, hba⟩; have BA : Hid (Below w2.heap.size w2 wa) := B0.out.trans (hba.mono B0.out.size); have MA0 : Hid (StoNew wa G1 G2 tl1 kl1) := ma; clear hba ma))
  all_goals
    have K3 : Hid (Below w.heap.size w wc ∧ S4 wc w.heap.size (.int .i64 bu1) (.int .i64 gu1) (.slice ta1 tn1 tc1) (.slice ka1 kn1 kc1) ∧ S4 wc (w.heap.size + 1) (.int .i64 bu2) (.int .i64 gu2) (.slice ta2 tn2 tc2) (.slice ka2 kn2 kc2)) := HK.out _ BC.out
    clear BA BB BC MA MA0 MB HKS HK B0
    have e0 := K3.out.2.1.c0
    have e1 := K3.out.2.1.c1
    have e2 := K3.out.2.1.c2
    have e3 := K3.out.2.1.c3
    go_wp2_with fail
    refine (HT1.out HF1.out _ K3.out.1).mono ?_
    rintro r0 w4 ⟨⟨G1, G2, rfl, m4, _⟩, hb4⟩
    obtain ⟨V4, hV4⟩ : ∃ V, V = w4.alloc (.cells #[.int .i64 bu1, .int .i64 gu1, .slice (some ⟨G1, 0, none⟩) tn1 tn1, .slice (some ⟨G2, 0, none⟩) kn1 kn1] 29) := ⟨_, rfl⟩
    have HV4 : Hid (V4 = w4.alloc (.cells #[.int .i64 bu1, .int .i64 gu1, .slice (some ⟨G1, 0, none⟩) tn1 tn1, .slice (some ⟨G2, 0, none⟩) kn1 kn1] 29)) := hV4
    have K4 : Hid (Below w.heap.size w V4 ∧ S4 V4 w.heap.size (.int .i64 bu1) (.int .i64 gu1) (.slice ta1 tn1 tc1) (.slice ka1 kn1 kc1) ∧ S4 V4 (w.heap.size + 1) (.int .i64 bu2) (.int .i64 gu2) (.slice ta2 tn2 tc2) (.slice ka2 kn2 kc2) ∧ S4 V4 w4.heap.size (.int .i64 bu1) (.int .i64 gu1) (.slice (some ⟨G1, 0, none⟩) tn1 tn1) (.slice (some ⟨G2, 0, none⟩) kn1 kn1) ∧ StoNew V4 G1 G2 tl1 kl1) := by
      have a4 : Below w4.heap.size w4 V4 := by rw [hV4]; exact (Below.refl _ _).alloc (Nat.le_refl _) _
      have b4 := K3.out.1.trans (hb4.mono K3.out.1.size)
      exact ⟨b4.trans (a4.mono b4.size), (K3.out.2.1.keep hb4).keep a4, (K3.out.2.2.keep hb4).keep a4, by rw [hV4]; exact S4.new w4 _ _ _ _ _, m4.keep a4⟩
    clear K3 e0 e1 e2 e3 hb4 m4 hV4
    have e0 := K4.out.2.2.1.c0
    have e1 := K4.out.2.2.1.c1
    have e2 := K4.out.2.2.1.c2
    have e3 := K4.out.2.2.1.c3
    rw [HV4.out] at e0 e1 e2 e3
    go_wp2_with fail
    rw [← HV4.out]
    refine (HT2.out HF2.out _ K4.out.1).mono ?_
    rintro r0 w5 ⟨⟨H1, H2, rfl, m5, _⟩, hb5⟩
    obtain ⟨V5, hV5⟩ : ∃ V, V = w5.alloc (.cells #[.int .i64 bu2, .int .i64 gu2, .slice (some ⟨H1, 0, none⟩) tn2 tn2, .slice (some ⟨H2, 0, none⟩) kn2 kn2] 29) := ⟨_, rfl⟩
    have HV5 : Hid (V5 = w5.alloc (.cells #[.int .i64 bu2, .int .i64 gu2, .slice (some ⟨H1, 0, none⟩) tn2 tn2, .slice (some ⟨H2, 0, none⟩) kn2 kn2] 29)) := hV5
    have K5 : Hid (Below w.heap.size w V5 ∧ S4 V5 w.heap.size (.int .i64 bu1) (.int .i64 gu1) (.slice ta1 tn1 tc1) (.slice ka1 kn1 kc1) ∧ S4 V5 (w.heap.size + 1) (.int .i64 bu2) (.int .i64 gu2) (.slice ta2 tn2 tc2) (.slice ka2 kn2 kc2) ∧ S4 V5 w4.heap.size (.int .i64 bu1) (.int .i64 gu1) (.slice (some ⟨G1, 0, none⟩) tn1 tn1) (.slice (some ⟨G2, 0, none⟩) kn1 kn1) ∧ S4 V5 w5.heap.size (.int .i64 bu2) (.int .i64 gu2) (.slice (some ⟨H1, 0, none⟩) tn2 tn2) (.slice (some ⟨H2, 0, none⟩) kn2 kn2) ∧ StoNew V5 G1 G2 tl1 kl1 ∧ StoNew V5 H1 H2 tl2 kl2) := by
      have a5 : Below w5.heap.size w5 V5 := by rw [hV5]; exact (Below.refl _ _).alloc (Nat.le_refl _) _
      have b5 := K4.out.1.trans (hb5.mono K4.out.1.size)
      exact ⟨b5.trans (a5.mono b5.size), (K4.out.2.1.keep hb5).keep a5, (K4.out.2.2.1.keep hb5).keep a5, (K4.out.2.2.2.1.keep hb5).keep a5, by rw [hV5]; exact S4.new w5 _ _ _ _ _, (K4.out.2.2.2.2.keep hb5).keep a5, m5.keep a5⟩
    clear K4 e0 e1 e2 e3 hb5 m5 hV5 HV4
    have e0 := K5.out.2.2.2.1.c0
    have e1 := K5.out.2.2.2.1.c1
    have e2 := K5.out.2.2.2.1.c2
    have e3 := K5.out.2.2.2.1.c3
    rw [HV5.out] at e0 e1 e2 e3
    go_wp2_with fail
    rw [← HV5.out]
    refine (HG.out HF1.out _ _ _ _ _ K5.out.2.2.2.2.2.1 K5.out.2.2.2.2.2.2).mono ?_
    rintro r0 w6 ⟨rfl, hb6⟩
    generalize w4.heap.size = x0 at *
    generalize w5.heap.size = x1 at *
    have HK : Hid (∀ X, Below w6.heap.size w6 X → Below w.heap.size w X ∧ S4 X w.heap.size (.int .i64 bu1) (.int .i64 gu1) (.slice ta1 tn1 tc1) (.slice ka1 kn1 kc1) ∧ S4 X (w.heap.size + 1) (.int .i64 bu2) (.int .i64 gu2) (.slice ta2 tn2 tc2) (.slice ka2 kn2 kc2) ∧ S4 X x0 (.int .i64 bu1) (.int .i64 gu1) (.slice (some ⟨G1, 0, none⟩) tn1 tn1) (.slice (some ⟨G2, 0, none⟩) kn1 kn1) ∧ S4 X x1 (.int .i64 bu2) (.int .i64 gu2) (.slice (some ⟨H1, 0, none⟩) tn2 tn2) (.slice (some ⟨H2, 0, none⟩) kn2 kn2) ∧ StoNew X G1 G2 tl1 kl1 ∧ StoNew X H1 H2 tl2 kl2) := fun X hX => by
      have hb : Below V5.heap.size V5 X := hb6.trans (hX.mono hb6.size)
      exact ⟨K5.out.1.trans (hb.mono K5.out.1.size), K5.out.2.1.keep hb, K5.out.2.2.1.keep hb, K5.out.2.2.2.1.keep hb, K5.out.2.2.2.2.1.keep hb, K5.out.2.2.2.2.2.1.keep hb, K5.out.2.2.2.2.2.2.keep hb⟩
    clear K5 e0 e1 e2 e3 hb6 HV5 HG HS
    have HKS : Hid (∀ X, Below w6.heap.size w6 X → X.cell? ⟨w.heap.size, 0, none⟩ = some (.int .i64 bu1) ∧ X.cell? ⟨w.heap.size, 1, none⟩ = some (.int .i64 gu1) ∧ X.cell? ⟨w.heap.size, 2, none⟩ = some (.slice ta1 tn1 tc1) ∧ X.cell? ⟨w.heap.size, 3, none⟩ = some (.slice ka1 kn1 kc1) ∧ X.cell? ⟨x0, 0, none⟩ = some (.int .i64 bu1) ∧ X.cell? ⟨x0, 1, none⟩ = some (.int .i64 gu1) ∧ X.cell? ⟨x0, 2, none⟩ = some (.slice (some ⟨G1, 0, none⟩) tn1 tn1) ∧ X.cell? ⟨x0, 3, none⟩ = some (.slice (some ⟨G2, 0, none⟩) kn1 kn1)) := fun X hb => ⟨(HK.out X hb).2.1.c0, (HK.out X hb).2.1.c1, (HK.out X hb).2.1.c2, (HK.out X hb).2.1.c3, (HK.out X hb).2.2.2.1.c0, (HK.out X hb).2.2.2.1.c1, (HK.out X hb).2.2.2.1.c2, (HK.out X hb).2.2.2.1.c3⟩
    have B0 : Hid (Below w6.heap.size w6 w6.drew) := (Below.refl _ _).drew
    go_wp2_with fail
    go_region_held3 (fun X => X.cell? ⟨w.heap.size, 0, none⟩ = some (.int .i64 bu1) ∧ X.cell? ⟨w.heap.size, 1, none⟩ = some (.int .i64 gu1) ∧ X.cell? ⟨w.heap.size, 2, none⟩ = some (.slice ta1 tn1 tc1) ∧ X.cell? ⟨w.heap.size, 3, none⟩ = some (.slice ka1 kn1 kc1) ∧ X.cell? ⟨x0, 0, none⟩ = some (.int .i64 bu1) ∧ X.cell? ⟨x0, 1, none⟩ = some (.int .i64 gu1) ∧ X.cell? ⟨x0, 2, none⟩ = some (.slice (some ⟨G1, 0, none⟩) tn1 tn1) ∧ X.cell? ⟨x0, 3, none⟩ = some (.slice (some ⟨G2, 0, none⟩) kn1 kn1))
      (first | exact HKS.out _ BB.out | exact HKS.out _ BA.out | exact HKS.out _ B0.out)
      (first
      | (go_at_call 6; refine (HT1.out HF1.out _ (HK.out _ B0.out).1).mono ?_; rintro r0 wa ⟨⟨J1, J2, rfl, ma, _⟩, hba⟩; have BA : Hid (Below w6.heap.size w6 wa) := B0.out.trans (hba.mono B0.out.size); have MA : Hid (StoNew wa J1 J2 tl1 kl1) := ma; clear hba ma)
      | (go_at_call 8; refine (HQ1.out HF1.out _ _ _ _ _ (HK.out _ BA.out).2.2.2.2.2.1 MA.out).mono ?_; rintro r0 wb ⟨rfl, hbb⟩; have BB : Hid (Below w6.heap.size w6 wb) := BA.out.trans (hbb.mono BA.out.size); clear hbb))
    all_goals
      have HK2 : Hid (∀ X, Below wb.heap.size wb X → Below w.heap.size w X ∧ S4 X w.heap.size (.int .i64 bu1) (.int .i64 gu1) (.slice ta1 tn1 tc1) (.slice ka1 kn1 kc1) ∧ S4 X (w.heap.size + 1) (.int .i64 bu2) (.int .i64 gu2) (.slice ta2 tn2 tc2) (.slice ka2 kn2 kc2) ∧ S4 X x0 (.int .i64 bu1) (.int .i64 gu1) (.slice (some ⟨G1, 0, none⟩) tn1 tn1) (.slice (some ⟨G2, 0, none⟩) kn1 kn1) ∧ S4 X x1 (.int .i64 bu2) (.int .i64 gu2) (.slice (some ⟨H1, 0, none⟩) tn2 tn2) (.slice (some ⟨H2, 0, none⟩) kn2 kn2) ∧ StoNew X G1 G2 tl1 kl1 ∧ StoNew X H1 H2 tl2 kl2) := fun X hX => HK.out X (BB.out.trans (hX.mono BB.out.size))
      clear HK HKS B0 BA BB MA HT1 HQ1
      have HKS : Hid (∀ X, Below wb.heap.size wb X → X.cell? ⟨w.heap.size + 1, 0, none⟩ = some (.int .i64 bu2) ∧ X.cell? ⟨w.heap.size + 1, 1, none⟩ = some (.int .i64 gu2) ∧ X.cell? ⟨w.heap.size + 1, 2, none⟩ = some (.slice ta2 tn2 tc2) ∧ X.cell? ⟨w.heap.size + 1, 3, none⟩ = some (.slice ka2 kn2 kc2) ∧ X.cell? ⟨x1, 0, none⟩ = some (.int .i64 bu2) ∧ X.cell? ⟨x1, 1, none⟩ = some (.int .i64 gu2) ∧ X.cell? ⟨x1, 2, none⟩ = some (.slice (some ⟨H1, 0, none⟩) tn2 tn2) ∧ X.cell? ⟨x1, 3, none⟩ = some (.slice (some ⟨H2, 0, none⟩) kn2 kn2)) := fun X hb => ⟨(HK2.out X hb).2.2.1.c0, (HK2.out X hb).2.2.1.c1, (HK2.out X hb).2.2.1.c2, (HK2.out X hb).2.2.1.c3, (HK2.out X hb).2.2.2.2.1.c0, (HK2.out X hb).2.2.2.2.1.c1, (HK2.out X hb).2.2.2.2.1.c2, (HK2.out X hb).2.2.2.2.1.c3⟩
      have B0 : Hid (Below wb.heap.size wb wb.drew) := (Below.refl _ _).drew
      go_wp2_with fail
      go_region_held3 (fun X => X.cell? ⟨w.heap.size + 1, 0, none⟩ = some (.int .i64 bu2) ∧ X.cell? ⟨w.heap.size + 1, 1, none⟩ = some (.int .i64 gu2) ∧ X.cell? ⟨w.heap.size + 1, 2, none⟩ = some (.slice ta2 tn2 tc2) ∧ X.cell? ⟨w.heap.size + 1, 3, none⟩ = some (.slice ka2 kn2 kc2) ∧ X.cell? ⟨x1, 0, none⟩ = some (.int .i64 bu2) ∧ X.cell? ⟨x1, 1, none⟩ = some (.int .i64 gu2) ∧ X.cell? ⟨x1, 2, none⟩ = some (.slice (some ⟨H1, 0, none⟩) tn2 tn2) ∧ X.cell? ⟨x1, 3, none⟩ = some (.slice (some ⟨H2, 0, none⟩) kn2 kn2))
        (first | exact HKS.out _ BD.out | exact HKS.out _ BA.out | exact HKS.out _ B0.out)
        (first
        | (go_at_call 6; refine (HT2.out HF2.out _ (HK2.out _ B0.out).1).mono ?_; rintro r0 wa ⟨⟨J1, J2, rfl, ma, _⟩, hba⟩; have BA : Hid (Below wb.heap.size wb wa) := B0.out.trans (hba.mono B0.out.size); have MA : Hid (StoNew wa J1 J2 tl2 kl2) := ma; clear hba ma)
        | (go_at_call 8; refine (HQ2.out HF2.out _ _ _ _ _ (HK2.out _ BA.out).2.2.2.2.2.2 MA.out).mono ?_; rintro r0 wd ⟨rfl, hbd⟩; have BD : Hid (Below wb.heap.size wb wd) := BA.out.trans (hbd.mono BA.out.size); clear hbd))
      all_goals
        have KZ : Hid (Below w.heap.size w wd) := (HK2.out _ BD.out).1
        clear HK2 HKS B0 BA BD MA HT2 HQ2
        go_wp2_with fail
        go_ret
        exact ⟨rfl, KZ.out⟩
end Go.Proofs.Ytapnjbdlljnnhaa
