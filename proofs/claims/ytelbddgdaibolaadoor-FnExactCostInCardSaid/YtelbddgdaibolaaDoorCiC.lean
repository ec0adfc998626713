/-
  Texts of one claim, one behind the other.
-/
import Derived.ChangeArms
import Derived.Deep.RegionHeld3
import Derived.Test.YtelbddgdaibolaaDoorCiB
/-
  The law of StoreFault.
-/
namespace Go.Proofs.YtelbddgdaibolaaDoor
open Go.ChangeShapes Go.WideShapes Go.ChangeAt Go.RowKit Go.Sort
theorem ok_of {w : World} {ta ka : Option Addr} {tl kl : List (Ent × EntR)} (h : StoArg w ta ka tl kl) (hf : StoFit tl kl) : ∀ x ∈ (tl ++ kl).map Prod.fst, EntOk x := by
  intro x hx
  obtain ⟨q, hq, rfl⟩ := List.mem_map.1 hx
  rcases List.mem_append.1 hq with hq | hq
  · have s := h.ts q hq
    exact ⟨s.key, (hf.tf q hq).h, s.bl, s.tl⟩
  · have s := h.ks q hq
    exact ⟨s.key, (hf.kf q hq).h, s.bl, s.tl⟩
theorem ok_map {tl kl a b : List (Ent × EntR)} (e1 : a.map Prod.fst = tl.map Prod.fst) (e2 : b.map Prod.fst = kl.map Prod.fst) (h : ∀ x ∈ (tl ++ kl).map Prod.fst, EntOk x) : ∀ q ∈ a ++ b, EntOk q.1 := fun q hq => h q.1 (by rw [List.map_append, ← e1, ← e2, ← List.map_append]; exact List.mem_map_of_mem hq)
theorem specSto_new (w : World) (bu gu : Int) (tl kl : List (Ent × EntR)) (G1 G2 : Nat) (hok : ∀ x ∈ (tl ++ kl).map Prod.fst, EntOk x) (hf : StoFit tl kl) (h : StoNew w G1 G2 tl kl) :
    Calls Tryd.prog 17 #[.agg #[.int .i64 bu, .int .i64 gu, .slice (some ⟨G1, 0, none⟩) tl.length tl.length, .slice (some ⟨G2, 0, none⟩) kl.length kl.length]] w fun r w' => r = .returned (.int .i64 (storeC bu gu (tl.map Prod.fst) (kl.map Prod.fst))) ∧ Below w.heap.size w w' := by
  obtain ⟨a, b, e1, e2, m⟩ := h
  have l1 := len_map e1
  have l2 := len_map e2
  rw [← l1, ← l2, ← e1, ← e2]
  exact specSto_any w bu gu _ _ _ _ a b (by rw [l1]; exact hf.tn) (by rw [l2]; exact hf.kn) (ok_map e1 e2 hok) m.t.in m.k.in
theorem implSto_new (w : World) (bu gu : Int) (tl kl : List (Ent × EntR)) (G1 G2 : Nat) (hset : SetIs w) (hok : ∀ x ∈ (tl ++ kl).map Prod.fst, EntOk x) (hf : StoFit tl kl) (h : StoNew w G1 G2 tl kl) :
    Calls Tryd.prog 19 #[.agg #[.int .i64 bu, .int .i64 gu, .slice (some ⟨G1, 0, none⟩) tl.length tl.length, .slice (some ⟨G2, 0, none⟩) kl.length kl.length]] w fun r w' => r = .returned (.int .i64 (storeC bu gu (tl.map Prod.fst) (kl.map Prod.fst))) ∧ Below w.heap.size w w' := by
  obtain ⟨a, b, e1, e2, m⟩ := h
  have l1 := len_map e1
  have l2 := len_map e2
  rw [← l1, ← l2, ← e1, ← e2]
  exact implSto_any w bu gu _ _ _ _ a b hset (by rw [l1]; exact hf.tn) (by rw [l2]; exact hf.kn) (ok_map e1 e2 hok) m.t.in m.k.in
set_option maxRecDepth 100000 in
set_option maxHeartbeats 16000000 in
theorem lawStoreFault (w : World) (bu gu : Int) (ta ka : Option Addr) (tc kc : Nat) (tl kl : List (Ent × EntR)) (hset : SetIs w) (h1 : StoArg w ta ka tl kl) :
    Calls Tryd.prog 5 #[.agg #[.int .i64 bu, .int .i64 gu, .slice ta tl.length tc, .slice ka kl.length kc]] w fun r w' => r = .returned (.bool true) ∧ Below w.heap.size w w' := by
  obtain ⟨W, hW⟩ : ∃ W, W = w.alloc (.cells #[.int .i64 bu, .int .i64 gu, .slice ta tl.length tc, .slice ka kl.length kc] 44) := ⟨_, rfl⟩
  have HW : Hid (W = w.alloc (.cells #[.int .i64 bu, .int .i64 gu, .slice ta tl.length tc, .slice ka kl.length kc] 44)) := hW
  have K0 : Hid (Below w.heap.size w W ∧ S4 W w.heap.size (.int .i64 bu) (.int .i64 gu) (.slice ta tl.length tc) (.slice ka kl.length kc)) := by
    rw [hW]; exact ⟨(Below.refl _ _).alloc (Nat.le_refl _) _, S4.new w _ _ _ _ _⟩
  have HZ : Hid (∀ X, Below w.heap.size w X → Calls Tryd.prog 16 #[.agg #[.int .i64 bu, .int .i64 gu, .slice ta tl.length tc, .slice ka kl.length kc], .int .i64 1048576] X fun r w' => r = .returned (.int .i64 (szSt 1048576 tl kl)) ∧ Below X.heap.size X w') := fun X hb => szStore_arg X bu gu ta ka tc kc tl kl 1048576 (by omega) (by omega) (h1.keep hb)
  have HR : Hid (¬ szSt 1048576 tl kl < 0 → StoFit tl kl) := fun h => (szSt_room (by omega) h).1
  have HT : Hid (StoFit tl kl → ∀ X, Below w.heap.size w X → Calls Tryd.prog 18 #[.agg #[.int .i64 bu, .int .i64 gu, .slice ta tl.length tc, .slice ka kl.length kc]] X fun ee w' => (∃ G1 G2, ee = .returned (.agg #[.int .i64 bu, .int .i64 gu, .slice (some ⟨G1, 0, none⟩) tl.length tl.length, .slice (some ⟨G2, 0, none⟩) kl.length kl.length]) ∧ StoNew w' G1 G2 tl kl ∧ X.heap.size ≤ G1) ∧ Below X.heap.size X w') := fun hf X hb => toStore_arg X bu gu ta ka tc kc tl kl (h1.keep hb) hf
  have HQ : Hid (StoFit tl kl → ∀ X G1 G2 H1 H2, StoNew X G1 G2 tl kl → StoNew X H1 H2 tl kl → Calls Tryd.prog 20 #[.agg #[.int .i64 bu, .int .i64 gu, .slice (some ⟨G1, 0, none⟩) tl.length tl.length, .slice (some ⟨G2, 0, none⟩) kl.length kl.length], .agg #[.int .i64 bu, .int .i64 gu, .slice (some ⟨H1, 0, none⟩) tl.length tl.length, .slice (some ⟨H2, 0, none⟩) kl.length kl.length]] X fun r w' => r = .returned (.bool true) ∧ Below X.heap.size X w') := fun hf X G1 G2 H1 H2 h k => eqStore_new X bu gu tl kl G1 G2 H1 H2 hf h k
  obtain ⟨c, hc⟩ : ∃ c, storeC bu gu (tl.map Prod.fst) (kl.map Prod.fst) = c := ⟨_, rfl⟩
  have HS : Hid (StoFit tl kl → ∀ X G1 G2, StoNew X G1 G2 tl kl → Calls Tryd.prog 17 #[.agg #[.int .i64 bu, .int .i64 gu, .slice (some ⟨G1, 0, none⟩) tl.length tl.length, .slice (some ⟨G2, 0, none⟩) kl.length kl.length]] X fun e w' => e = .returned (.int .i64 c) ∧ Below X.heap.size X w') := fun hf X G1 G2 h => by
    have := specSto_new X bu gu tl kl G1 G2 (ok_of h1 hf) hf h
    rw [hc] at this
    exact this
  have HG : Hid (StoFit tl kl → ∀ X G1 G2, Below w.heap.size w X → StoNew X G1 G2 tl kl → Calls Tryd.prog 19 #[.agg #[.int .i64 bu, .int .i64 gu, .slice (some ⟨G1, 0, none⟩) tl.length tl.length, .slice (some ⟨G2, 0, none⟩) kl.length kl.length]] X fun e w' => e = .returned (.int .i64 c) ∧ Below X.heap.size X w') := fun hf X G1 G2 hb h => by
    have := implSto_new X bu gu tl kl G1 G2 (hset.below hb) (ok_of h1 hf) hf h
    rw [hc] at this
    exact this
  clear h1 hW hset hc
  generalize szSt 1048576 tl kl = z1 at *
  generalize tl.length = tn at *
  generalize kl.length = kn at *
  go_enter Tryd.func5, Tryd.ntmps5
  go_wp2_with fail
  rw [← HW.out]
  refine (HZ.out _ K0.out.1).mono ?_
  rintro e0 w1 ⟨rfl, hb1⟩
  have K1 : Hid (Below w.heap.size w w1 ∧ S4 w1 w.heap.size (.int .i64 bu) (.int .i64 gu) (.slice ta tn tc) (.slice ka kn kc)) := ⟨K0.out.1.trans (hb1.mono K0.out.1.size), K0.out.2.keep hb1⟩
  clear K0 HW HZ hb1
  by_cases cz : z1 < 0
  · clear HR HT HQ HS HG
    go_wp2_with fail
    go_ret
    exact ⟨rfl, K1.out.1⟩
  have HF : Hid (StoFit tl kl) := HR.out (by omega)
  clear HR
  have e0 := K1.out.2.c0
  have e1 := K1.out.2.c1
  have e2 := K1.out.2.c2
  have e3 := K1.out.2.c3
  go_wp2_with fail
  refine (HT.out HF.out _ K1.out.1).mono ?_
  rintro r0 w2 ⟨⟨J1, J2, rfl, m2, _⟩, hb2⟩
  have K2 : Hid (Below w.heap.size w w2 ∧ S4 w2 w.heap.size (.int .i64 bu) (.int .i64 gu) (.slice ta tn tc) (.slice ka kn kc) ∧ StoNew w2 J1 J2 tl kl) := ⟨K1.out.1.trans (hb2.mono K1.out.1.size), K1.out.2.keep hb2, m2⟩
  clear K1 e0 e1 e2 e3 hb2 m2
  go_wp2_with fail
  refine (HS.out HF.out _ _ _ K2.out.2.2).mono ?_
  rintro r0 w3 ⟨rfl, hb3⟩
  have K3 : Hid (Below w.heap.size w w3 ∧ S4 w3 w.heap.size (.int .i64 bu) (.int .i64 gu) (.slice ta tn tc) (.slice ka kn kc)) := ⟨K2.out.1.trans (hb3.mono K2.out.1.size), K2.out.2.1.keep hb3⟩
  clear K2 hb3 HS
  have e0 := K3.out.2.c0
  have e1 := K3.out.2.c1
  have e2 := K3.out.2.c2
  have e3 := K3.out.2.c3
  go_wp2_with fail
  refine (HT.out HF.out _ K3.out.1).mono ?_
  rintro r0 w4 ⟨⟨G1, G2, rfl, m4, _⟩, hb4⟩
  obtain ⟨V4, hV4⟩ : ∃ V, V = w4.alloc (.cells #[.int .i64 bu, .int .i64 gu, .slice (some ⟨G1, 0, none⟩) tn tn, .slice (some ⟨G2, 0, none⟩) kn kn] 49) := ⟨_, rfl⟩
  have HV4 : Hid (V4 = w4.alloc (.cells #[.int .i64 bu, .int .i64 gu, .slice (some ⟨G1, 0, none⟩) tn tn, .slice (some ⟨G2, 0, none⟩) kn kn] 49)) := hV4
  have K4 : Hid (Below w.heap.size w V4 ∧ S4 V4 w.heap.size (.int .i64 bu) (.int .i64 gu) (.slice ta tn tc) (.slice ka kn kc) ∧ S4 V4 w4.heap.size (.int .i64 bu) (.int .i64 gu) (.slice (some ⟨G1, 0, none⟩) tn tn) (.slice (some ⟨G2, 0, none⟩) kn kn) ∧ StoNew V4 G1 G2 tl kl) := by
    have a4 : Below w4.heap.size w4 V4 := by rw [hV4]; exact (Below.refl _ _).alloc (Nat.le_refl _) _
    have b4 := K3.out.1.trans (hb4.mono K3.out.1.size)
    exact ⟨b4.trans (a4.mono b4.size), (K3.out.2.keep hb4).keep a4, by rw [hV4]; exact S4.new w4 _ _ _ _ _, m4.keep a4⟩
  clear K3 e0 e1 e2 e3 hb4 m4 hV4
  go_wp2_with fail
  rw [← HV4.out]
  refine (HG.out HF.out _ _ _ K4.out.1 K4.out.2.2.2).mono ?_
  rintro r0 w5 ⟨rfl, hb5⟩
  generalize w4.heap.size = x0 at *
  have HK : Hid (∀ X, Below w5.heap.size w5 X → Below w.heap.size w X ∧ S4 X w.heap.size (.int .i64 bu) (.int .i64 gu) (.slice ta tn tc) (.slice ka kn kc) ∧ S4 X x0 (.int .i64 bu) (.int .i64 gu) (.slice (some ⟨G1, 0, none⟩) tn tn) (.slice (some ⟨G2, 0, none⟩) kn kn) ∧ StoNew X G1 G2 tl kl) := fun X hX => by
    have hb : Below V4.heap.size V4 X := hb5.trans (hX.mono hb5.size)
    exact ⟨K4.out.1.trans (hb.mono K4.out.1.size), K4.out.2.1.keep hb, K4.out.2.2.1.keep hb, K4.out.2.2.2.keep hb⟩
  clear K4 hb5 HV4 HG
  have HKS : Hid (∀ X, Below w5.heap.size w5 X → X.cell? ⟨w.heap.size, 0, none⟩ = some (.int .i64 bu) ∧ X.cell? ⟨w.heap.size, 1, none⟩ = some (.int .i64 gu) ∧ X.cell? ⟨w.heap.size, 2, none⟩ = some (.slice ta tn tc) ∧ X.cell? ⟨w.heap.size, 3, none⟩ = some (.slice ka kn kc) ∧ X.cell? ⟨x0, 0, none⟩ = some (.int .i64 bu) ∧ X.cell? ⟨x0, 1, none⟩ = some (.int .i64 gu) ∧ X.cell? ⟨x0, 2, none⟩ = some (.slice (some ⟨G1, 0, none⟩) tn tn) ∧ X.cell? ⟨x0, 3, none⟩ = some (.slice (some ⟨G2, 0, none⟩) kn kn)) := fun X hb => ⟨(HK.out X hb).2.1.c0, (HK.out X hb).2.1.c1, (HK.out X hb).2.1.c2, (HK.out X hb).2.1.c3, (HK.out X hb).2.2.1.c0, (HK.out X hb).2.2.1.c1, (HK.out X hb).2.2.1.c2, (HK.out X hb).2.2.1.c3⟩
  have B0 : Hid (Below w5.heap.size w5 w5.drew) := (Below.refl _ _).drew
  go_wp2_with fail
  go_region_held3 (fun X => X.cell? ⟨w.heap.size, 0, none⟩ = some (.int .i64 bu) ∧ X.cell? ⟨w.heap.size, 1, none⟩ = some (.int .i64 gu) ∧ X.cell? ⟨w.heap.size, 2, none⟩ = some (.slice ta tn tc) ∧ X.cell? ⟨w.heap.size, 3, none⟩ = some (.slice ka kn kc) ∧ X.cell? ⟨x0, 0, none⟩ = some (.int .i64 bu) ∧ X.cell? ⟨x0, 1, none⟩ = some (.int .i64 gu) ∧ X.cell? ⟨x0, 2, none⟩ = some (.slice (some ⟨G1, 0, none⟩) tn tn) ∧ X.cell? ⟨x0, 3, none⟩ = some (.slice (some ⟨G2, 0, none⟩) kn kn))
    (first | exact HKS.out _ BB.out | exact HKS.out _ BA.out | exact HKS.out _ B0.out)
    (first
    | (go_at_call 18; refine (HT.out HF.out _ (HK.out _ B0.out).1).mono ?_; rintro r0 wa ⟨⟨I1, I2, rfl, ma, _⟩, hba⟩; have BA : Hid (Below w5.heap.size w5 wa) := B0.out.trans (hba.mono B0.out.size); have MA : Hid (StoNew wa I1 I2 tl kl) := ma; clear hba ma)
    | (go_at_call 20; refine (HQ.out HF.out _ _ _ _ _ (HK.out _ BA.out).2.2.2 MA.out).mono ?_; rintro r0 wb ⟨rfl, hbb⟩; have BB : Hid (Below w5.heap.size w5 wb) := BA.out.trans (hbb.mono BA.out.size); clear hbb))
  all_goals
    have KZ : Hid (Below w.heap.size w wb) := (HK.out _ BB.out).1
    clear HK HKS B0 BA BB MA HT HQ
    go_wp2_with fail
    go_ret
    exact ⟨rfl, KZ.out⟩
end Go.Proofs.YtelbddgdaibolaaDoor
/-
  The law of CostIn.
-/
namespace Go.Proofs.YtelbddgdaibolaaDoor
open Go.ChangeShapes Go.WideShapes Go.ChangeAt Go.RowKit Go.Sort
theorem specCin_new (w : World) (bu gu : Int) (tl kl : List (Ent × EntR)) (G1 G2 : Nat) (hok : ∀ x ∈ (tl ++ kl).map Prod.fst, EntOk x) (hf : StoFit tl kl) (h : StoNew w G1 G2 tl kl) :
    Calls Tryd.prog 26 #[.agg #[.int .i64 bu, .int .i64 gu, .slice (some ⟨G1, 0, none⟩) tl.length tl.length, .slice (some ⟨G2, 0, none⟩) kl.length kl.length]] w fun r w' => r = .returned (.agg #[.int .i64 (storeC bu gu (tl.map Prod.fst) (kl.map Prod.fst)), .int .i64 (if storeC bu gu (tl.map Prod.fst) (kl.map Prod.fst) = 0 then costsE (tl.map Prod.fst ++ kl.map Prod.fst) else 0)]) ∧ Below w.heap.size w w' := by
  obtain ⟨a, b, e1, e2, m⟩ := h
  have l1 := len_map e1
  have l2 := len_map e2
  rw [← l1, ← l2, ← e1, ← e2]
  exact specCin_any w bu gu _ _ _ _ a b (by rw [l1]; exact hf.tn) (by rw [l2]; exact hf.kn) (ok_map e1 e2 hok) m.t.in m.k.in
theorem implCin_new (w : World) (bu gu : Int) (tl kl : List (Ent × EntR)) (G1 G2 : Nat) (hset : SetIs w) (hok : ∀ x ∈ (tl ++ kl).map Prod.fst, EntOk x) (hf : StoFit tl kl) (h : StoNew w G1 G2 tl kl) :
    Calls Tryd.prog 27 #[.agg #[.int .i64 bu, .int .i64 gu, .slice (some ⟨G1, 0, none⟩) tl.length tl.length, .slice (some ⟨G2, 0, none⟩) kl.length kl.length]] w fun r w' => r = .returned (.agg #[.int .i64 (storeC bu gu (tl.map Prod.fst) (kl.map Prod.fst)), .int .i64 (if storeC bu gu (tl.map Prod.fst) (kl.map Prod.fst) = 0 then costsE (tl.map Prod.fst ++ kl.map Prod.fst) else 0)]) ∧ Below w.heap.size w w' := by
  obtain ⟨a, b, e1, e2, m⟩ := h
  have l1 := len_map e1
  have l2 := len_map e2
  rw [← l1, ← l2, ← e1, ← e2]
  exact implCin_any w bu gu _ _ _ _ a b hset (by rw [l1]; exact hf.tn) (by rw [l2]; exact hf.kn) (ok_map e1 e2 hok) m.t.in m.k.in
set_option maxRecDepth 100000 in
set_option maxHeartbeats 16000000 in
theorem lawCostIn (w : World) (bu gu : Int) (ta ka : Option Addr) (tc kc : Nat) (tl kl : List (Ent × EntR)) (hset : SetIs w) (h1 : StoArg w ta ka tl kl) :
    Calls Tryd.prog 7 #[.agg #[.int .i64 bu, .int .i64 gu, .slice ta tl.length tc, .slice ka kl.length kc]] w fun r w' => r = .returned (.bool true) ∧ Below w.heap.size w w' := by
  obtain ⟨W, hW⟩ : ∃ W, W = w.alloc (.cells #[.int .i64 bu, .int .i64 gu, .slice ta tl.length tc, .slice ka kl.length kc] 44) := ⟨_, rfl⟩
  have HW : Hid (W = w.alloc (.cells #[.int .i64 bu, .int .i64 gu, .slice ta tl.length tc, .slice ka kl.length kc] 44)) := hW
  have K0 : Hid (Below w.heap.size w W ∧ S4 W w.heap.size (.int .i64 bu) (.int .i64 gu) (.slice ta tl.length tc) (.slice ka kl.length kc)) := by
    rw [hW]; exact ⟨(Below.refl _ _).alloc (Nat.le_refl _) _, S4.new w _ _ _ _ _⟩
  have HZ : Hid (∀ X, Below w.heap.size w X → Calls Tryd.prog 16 #[.agg #[.int .i64 bu, .int .i64 gu, .slice ta tl.length tc, .slice ka kl.length kc], .int .i64 1048576] X fun r w' => r = .returned (.int .i64 (szSt 1048576 tl kl)) ∧ Below X.heap.size X w') := fun X hb => szStore_arg X bu gu ta ka tc kc tl kl 1048576 (by omega) (by omega) (h1.keep hb)
  have HR : Hid (¬ szSt 1048576 tl kl < 0 → StoFit tl kl) := fun h => (szSt_room (by omega) h).1
  have HT : Hid (StoFit tl kl → ∀ X, Below w.heap.size w X → Calls Tryd.prog 18 #[.agg #[.int .i64 bu, .int .i64 gu, .slice ta tl.length tc, .slice ka kl.length kc]] X fun ee w' => (∃ G1 G2, ee = .returned (.agg #[.int .i64 bu, .int .i64 gu, .slice (some ⟨G1, 0, none⟩) tl.length tl.length, .slice (some ⟨G2, 0, none⟩) kl.length kl.length]) ∧ StoNew w' G1 G2 tl kl ∧ X.heap.size ≤ G1) ∧ Below X.heap.size X w') := fun hf X hb => toStore_arg X bu gu ta ka tc kc tl kl (h1.keep hb) hf
  have HQ : Hid (StoFit tl kl → ∀ X G1 G2 H1 H2, StoNew X G1 G2 tl kl → StoNew X H1 H2 tl kl → Calls Tryd.prog 20 #[.agg #[.int .i64 bu, .int .i64 gu, .slice (some ⟨G1, 0, none⟩) tl.length tl.length, .slice (some ⟨G2, 0, none⟩) kl.length kl.length], .agg #[.int .i64 bu, .int .i64 gu, .slice (some ⟨H1, 0, none⟩) tl.length tl.length, .slice (some ⟨H2, 0, none⟩) kl.length kl.length]] X fun r w' => r = .returned (.bool true) ∧ Below X.heap.size X w') := fun hf X G1 G2 H1 H2 h k => eqStore_new X bu gu tl kl G1 G2 H1 H2 hf h k
  obtain ⟨c, hc⟩ : ∃ c, storeC bu gu (tl.map Prod.fst) (kl.map Prod.fst) = c := ⟨_, rfl⟩
  obtain ⟨v, hv⟩ : ∃ v, (if c = 0 then costsE (tl.map Prod.fst ++ kl.map Prod.fst) else 0) = v := ⟨_, rfl⟩
  have HS : Hid (StoFit tl kl → ∀ X G1 G2, StoNew X G1 G2 tl kl → Calls Tryd.prog 26 #[.agg #[.int .i64 bu, .int .i64 gu, .slice (some ⟨G1, 0, none⟩) tl.length tl.length, .slice (some ⟨G2, 0, none⟩) kl.length kl.length]] X fun e w' => e = .returned (.agg #[.int .i64 c, .int .i64 v]) ∧ Below X.heap.size X w') := fun hf X G1 G2 h => by
    have := specCin_new X bu gu tl kl G1 G2 (ok_of h1 hf) hf h
    rw [hc, hv] at this
    exact this
  have HG : Hid (StoFit tl kl → ∀ X G1 G2, Below w.heap.size w X → StoNew X G1 G2 tl kl → Calls Tryd.prog 27 #[.agg #[.int .i64 bu, .int .i64 gu, .slice (some ⟨G1, 0, none⟩) tl.length tl.length, .slice (some ⟨G2, 0, none⟩) kl.length kl.length]] X fun e w' => e = .returned (.agg #[.int .i64 c, .int .i64 v]) ∧ Below X.heap.size X w') := fun hf X G1 G2 hb h => by
    have := implCin_new X bu gu tl kl G1 G2 (hset.below hb) (ok_of h1 hf) hf h
    rw [hc, hv] at this
    exact this
  have HE : Hid (∀ X, Calls Tryd.prog 15 #[.agg #[.int .i64 c, .int .i64 v], .agg #[.int .i64 c, .int .i64 v]] X fun r w' => r = .returned (.bool true) ∧ Below X.heap.size X w') := fun X => eqIntResult_same c v X
  clear h1 hW hset hc hv
  generalize szSt 1048576 tl kl = z1 at *
  generalize tl.length = tn at *
  generalize kl.length = kn at *
  go_enter Tryd.func7, Tryd.ntmps7
  go_wp2_with fail
  rw [← HW.out]
  refine (HZ.out _ K0.out.1).mono ?_
  rintro e0 w1 ⟨rfl, hb1⟩
  have K1 : Hid (Below w.heap.size w w1 ∧ S4 w1 w.heap.size (.int .i64 bu) (.int .i64 gu) (.slice ta tn tc) (.slice ka kn kc)) := ⟨K0.out.1.trans (hb1.mono K0.out.1.size), K0.out.2.keep hb1⟩
  clear K0 HW HZ hb1
  by_cases cz : z1 < 0
  · clear HR HT HQ HS HG
    go_wp2_with fail
    go_ret
    exact ⟨rfl, K1.out.1⟩
  have HF : Hid (StoFit tl kl) := HR.out (by omega)
  clear HR
  have e0 := K1.out.2.c0
  have e1 := K1.out.2.c1
  have e2 := K1.out.2.c2
  have e3 := K1.out.2.c3
  go_wp2_with fail
  refine (HT.out HF.out _ K1.out.1).mono ?_
  rintro r0 w2 ⟨⟨J1, J2, rfl, m2, _⟩, hb2⟩
  have K2 : Hid (Below w.heap.size w w2 ∧ S4 w2 w.heap.size (.int .i64 bu) (.int .i64 gu) (.slice ta tn tc) (.slice ka kn kc) ∧ StoNew w2 J1 J2 tl kl) := ⟨K1.out.1.trans (hb2.mono K1.out.1.size), K1.out.2.keep hb2, m2⟩
  clear K1 e0 e1 e2 e3 hb2 m2
  go_wp2_with fail
  refine (HS.out HF.out _ _ _ K2.out.2.2).mono ?_
  rintro r0 w3 ⟨rfl, hb3⟩
  obtain ⟨V3, hV3⟩ : ∃ V, V = w3.alloc (.cells #[.int .i64 c, .int .i64 v] 39) := ⟨_, rfl⟩
  have HV3 : Hid (V3 = w3.alloc (.cells #[.int .i64 c, .int .i64 v] 39)) := hV3
  have K3 : Hid (Below w.heap.size w V3 ∧ S4 V3 w.heap.size (.int .i64 bu) (.int .i64 gu) (.slice ta tn tc) (.slice ka kn kc) ∧ IR V3 w3.heap.size (.int .i64 c) (.int .i64 v)) := by
    have a3 : Below w3.heap.size w3 V3 := by rw [hV3]; exact (Below.refl _ _).alloc (Nat.le_refl _) _
    have b3 := K2.out.1.trans (hb3.mono K2.out.1.size)
    exact ⟨b3.trans (a3.mono b3.size), (K2.out.2.1.keep hb3).keep a3, by rw [hV3]; exact ⟨by simp, by simp, fun o => by simp, by simp⟩⟩
  clear K2 hb3 HS hV3
  have e0 := K3.out.2.1.c0
  have e1 := K3.out.2.1.c1
  have e2 := K3.out.2.1.c2
  have e3 := K3.out.2.1.c3
  rw [HV3.out] at e0 e1 e2 e3
  go_wp2_with fail
  rw [← HV3.out]
  refine (HT.out HF.out _ K3.out.1).mono ?_
  rintro r0 w4 ⟨⟨G1, G2, rfl, m4, _⟩, hb4⟩
  obtain ⟨V4, hV4⟩ : ∃ V, V = w4.alloc (.cells #[.int .i64 bu, .int .i64 gu, .slice (some ⟨G1, 0, none⟩) tn tn, .slice (some ⟨G2, 0, none⟩) kn kn] 49) := ⟨_, rfl⟩
  have HV4 : Hid (V4 = w4.alloc (.cells #[.int .i64 bu, .int .i64 gu, .slice (some ⟨G1, 0, none⟩) tn tn, .slice (some ⟨G2, 0, none⟩) kn kn] 49)) := hV4
  have K4 : Hid (Below w.heap.size w V4 ∧ S4 V4 w.heap.size (.int .i64 bu) (.int .i64 gu) (.slice ta tn tc) (.slice ka kn kc) ∧ S4 V4 w4.heap.size (.int .i64 bu) (.int .i64 gu) (.slice (some ⟨G1, 0, none⟩) tn tn) (.slice (some ⟨G2, 0, none⟩) kn kn) ∧ StoNew V4 G1 G2 tl kl ∧ IR V4 w3.heap.size (.int .i64 c) (.int .i64 v)) := by
    have a4 : Below w4.heap.size w4 V4 := by rw [hV4]; exact (Below.refl _ _).alloc (Nat.le_refl _) _
    have b4 := K3.out.1.trans (hb4.mono K3.out.1.size)
    exact ⟨b4.trans (a4.mono b4.size), (K3.out.2.1.keep hb4).keep a4, by rw [hV4]; exact S4.new w4 _ _ _ _ _, m4.keep a4, (K3.out.2.2.keep hb4).keep a4⟩
  clear K3 e0 e1 e2 e3 hb4 m4 hV4 HV3
  go_wp2_with fail
  rw [← HV4.out]
  refine (HG.out HF.out _ _ _ K4.out.1 K4.out.2.2.2.1).mono ?_
  rintro r0 w5 ⟨rfl, hb5⟩
  obtain ⟨V5, hV5⟩ : ∃ V, V = w5.alloc (.cells #[.int .i64 c, .int .i64 v] 39) := ⟨_, rfl⟩
  have HV5 : Hid (V5 = w5.alloc (.cells #[.int .i64 c, .int .i64 v] 39)) := hV5
  have K5 : Hid (Below w.heap.size w V5 ∧ S4 V5 w.heap.size (.int .i64 bu) (.int .i64 gu) (.slice ta tn tc) (.slice ka kn kc) ∧ S4 V5 w4.heap.size (.int .i64 bu) (.int .i64 gu) (.slice (some ⟨G1, 0, none⟩) tn tn) (.slice (some ⟨G2, 0, none⟩) kn kn) ∧ StoNew V5 G1 G2 tl kl ∧ IR V5 w3.heap.size (.int .i64 c) (.int .i64 v)) := by
    have a5 : Below w5.heap.size w5 V5 := by rw [hV5]; exact (Below.refl _ _).alloc (Nat.le_refl _) _
    have b5 := K4.out.1.trans (hb5.mono K4.out.1.size)
    exact ⟨b5.trans (a5.mono b5.size), (K4.out.2.1.keep hb5).keep a5, (K4.out.2.2.1.keep hb5).keep a5, (K4.out.2.2.2.1.keep hb5).keep a5, (K4.out.2.2.2.2.keep hb5).keep a5⟩
  clear K4 hb5 hV5 HV4 HG
  have i0 := K5.out.2.2.2.2.c0
  have i1 := K5.out.2.2.2.2.c1
  rw [HV5.out] at i0 i1
  go_wp2_with fail
  rw [← HV5.out]
  refine (HE.out _).mono ?_
  rintro e0 w6 ⟨rfl, hb6⟩
  generalize w4.heap.size = x0 at *
  have HK : Hid (∀ X, Below w6.heap.size w6 X → Below w.heap.size w X ∧ S4 X w.heap.size (.int .i64 bu) (.int .i64 gu) (.slice ta tn tc) (.slice ka kn kc) ∧ S4 X x0 (.int .i64 bu) (.int .i64 gu) (.slice (some ⟨G1, 0, none⟩) tn tn) (.slice (some ⟨G2, 0, none⟩) kn kn) ∧ StoNew X G1 G2 tl kl) := fun X hX => by
    have hb : Below V5.heap.size V5 X := hb6.trans (hX.mono hb6.size)
    exact ⟨K5.out.1.trans (hb.mono K5.out.1.size), K5.out.2.1.keep hb, K5.out.2.2.1.keep hb, K5.out.2.2.2.1.keep hb⟩
  clear K5 i0 i1 hb6 HV5 HE
  have HKS : Hid (∀ X, Below w6.heap.size w6 X → X.cell? ⟨w.heap.size, 0, none⟩ = some (.int .i64 bu) ∧ X.cell? ⟨w.heap.size, 1, none⟩ = some (.int .i64 gu) ∧ X.cell? ⟨w.heap.size, 2, none⟩ = some (.slice ta tn tc) ∧ X.cell? ⟨w.heap.size, 3, none⟩ = some (.slice ka kn kc) ∧ X.cell? ⟨x0, 0, none⟩ = some (.int .i64 bu) ∧ X.cell? ⟨x0, 1, none⟩ = some (.int .i64 gu) ∧ X.cell? ⟨x0, 2, none⟩ = some (.slice (some ⟨G1, 0, none⟩) tn tn) ∧ X.cell? ⟨x0, 3, none⟩ = some (.slice (some ⟨G2, 0, none⟩) kn kn)) := fun X hb => ⟨(HK.out X hb).2.1.c0, (HK.out X hb).2.1.c1, (HK.out X hb).2.1.c2, (HK.out X hb).2.1.c3, (HK.out X hb).2.2.1.c0, (HK.out X hb).2.2.1.c1, (HK.out X hb).2.2.1.c2, (HK.out X hb).2.2.1.c3⟩
  have B0 : Hid (Below w6.heap.size w6 w6.drew) := (Below.refl _ _).drew
  go_wp2_with fail
  go_region_held3 (fun X => X.cell? ⟨w.heap.size, 0, none⟩ = some (.int .i64 bu) ∧ X.cell? ⟨w.heap.size, 1, none⟩ = some (.int .i64 gu) ∧ X.cell? ⟨w.heap.size, 2, none⟩ = some (.slice ta tn tc) ∧ X.cell? ⟨w.heap.size, 3, none⟩ = some (.slice ka kn kc) ∧ X.cell? ⟨x0, 0, none⟩ = some (.int .i64 bu) ∧ X.cell? ⟨x0, 1, none⟩ = some (.int .i64 gu) ∧ X.cell? ⟨x0, 2, none⟩ = some (.slice (some ⟨G1, 0, none⟩) tn tn) ∧ X.cell? ⟨x0, 3, none⟩ = some (.slice (some ⟨G2, 0, none⟩) kn kn))
    (first | exact HKS.out _ BB.out | exact HKS.out _ BA.out | exact HKS.out _ B0.out)
    (first
    | (go_at_call 18; refine (HT.out HF.out _ (HK.out _ B0.out).1).mono ?_; rintro r0 wa ⟨⟨I1, I2, rfl, ma, _⟩, hba⟩; have BA : Hid (Below w6.heap.size w6 wa) := B0.out.trans (hba.mono B0.out.size); have MA : Hid (StoNew wa I1 I2 tl kl) := ma; clear hba ma)
    | (go_at_call 20; refine (HQ.out HF.out _ _ _ _ _ (HK.out _ BA.out).2.2.2 MA.out).mono ?_; rintro r0 wb ⟨rfl, hbb⟩; have BB : Hid (Below w6.heap.size w6 wb) := BA.out.trans (hbb.mono BA.out.size); clear hbb))
  all_goals
    have KZ : Hid (Below w.heap.size w wb) := (HK.out _ BB.out).1
    clear HK HKS B0 BA BB MA HT HQ
    go_wp2_with fail
    go_ret
    exact ⟨rfl, KZ.out⟩
end Go.Proofs.YtelbddgdaibolaaDoor
/-
  Head lines that came in, opened.
-/
namespace Go.Proofs.YtelbddgdaibolaaDoor
open Go.ChangeShapes Go.WideShapes Go.ChangeAt Go.RowKit Go.Deep
theorem headerCells : Tryd.prog.cellsOf 96 = 2 := by kernel_rfl
theorem hOneS : Tryd.prog.cellsOf 9 = 1 := by kernel_rfl
theorem hdr_of {H : Type} {enc : TypeId × Value → H} {w : World} {base : Nat} {spare : Nat → Bool} {held : Bool} {fuel : Nat} {cs : List Value} {x : DataW H × List MemPlace}
    (h : DataW.trod enc Tryd.prog w base spare held fuel 96 cs = some x) : ∃ r : Hdr, cs = [.string r.name, .string r.value] ∧ r.name.size ≤ maxLen ∧ r.value.size ≤ maxLen := by
  obtain ⟨y0, y1, n, _, hl, h0, h2⟩ := trod_struct2 Tryd.underlying96 h
  rw [headerCells] at hl
  simp only [hOneS] at h0 h2
  obtain ⟨s0, e0, _, z0⟩ := DataW.trod_string Tryd.underlying9 h0
  obtain ⟨s2, e2, _, z2⟩ := DataW.trod_string Tryd.underlying9 h2
  match cs, hl with
  | [c0, c2], _ =>
    simp only [List.drop_zero, List.take_succ_cons, List.take_zero, List.drop_succ_cons, List.cons.injEq, and_true] at e0 e2
    exact ⟨⟨s0, s2⟩, by rw [e0, e2], z0, z2⟩
theorem open_headers {H : Type} {enc : TypeId × Value → H} {w : World} {base : Nat} {spare : Nat → Bool} {held : Bool} {fuel : Nat} {a : Option Addr} {len cap : Nat} {x : DataW H × List MemPlace}
    (h : DataW.trod enc Tryd.prog w base spare held fuel 22 [.slice a len cap] = some x) :
    ∃ l : List Hdr, l.length = len ∧ len ≤ maxLen ∧ SmallHdrs l ∧ (l = [] ∨ ∃ b off, a = some ⟨b, off, none⟩ ∧ HeadsAt w b off l) := by
  rcases open_slice Tryd.underlying22 h with ⟨hcs, _⟩ | ⟨A, len', cap', m, n, D, Pl, hcs, _, hl, hm, hmm, _, hel⟩
  · simp only [List.cons.injEq, Value.slice.injEq, and_true] at hcs
    obtain ⟨_, rfl, _⟩ := hcs
    exact ⟨[], rfl, by unfold maxLen; omega, fun i r hr => by simp at hr, .inl rfl⟩
  · simp only [List.cons.injEq, Value.slice.injEq, and_true] at hcs
    obtain ⟨rfl, rfl, rfl⟩ := hcs
    have hlm : len ≤ m := by rw [hmm]; split <;> omega
    have hrec : ∀ i, i < len → ∃ r : Hdr, w.cells? base (A.add (i * 2)) 2 = some [.string r.name, .string r.value] ∧ r.name.size ≤ maxLen ∧ r.value.size ≤ maxLen := by
      intro i hi
      obtain ⟨cs', hc, ht⟩ := hel i (by omega)
      rw [headerCells] at hc
      obtain ⟨r, rfl, z⟩ := hdr_of ht
      exact ⟨r, hc, z⟩
    obtain ⟨f, hf⟩ : ∃ f : Nat → Hdr, ∀ i, i < len → w.cells? base (A.add (i * 2)) 2 = some [.string (f i).name, .string (f i).value] ∧ (f i).name.size ≤ maxLen ∧ (f i).value.size ≤ maxLen := by
      classical
      refine ⟨fun i => if hi : i < len then (hrec i hi).choose else ⟨.empty, .empty⟩, fun i hi => ?_⟩
      simp only [dif_pos hi]
      exact (hrec i hi).choose_spec
    refine ⟨(List.range len).map f, by simp, by omega, ?_, ?_⟩
    · intro i r hr
      rw [List.getElem?_map] at hr
      obtain ⟨j, hj, rfl⟩ := Option.map_eq_some_iff.1 hr
      obtain ⟨hlt, rfl⟩ := List.getElem?_eq_some_iff.1 hj
      simp at hlt
      simpa using (hf i hlt).2
    · by_cases h0 : len = 0
      · subst h0; exact .inl rfl
      · obtain ⟨b, off, spot⟩ := A
        have cells : ∀ i, i < len → ∀ j, j < 2 → w.cell? ((⟨b, off, spot⟩ : Addr).add (i * 2 + j)) = ([.string (f i).name, .string (f i).value] : List Value)[j]? := by
          intro i hi j hj
          have c := (World.cells?_some (hf i hi).1).2.2 j hj
          rw [add_add] at c
          exact c
        have hs : spot = none := by
          have c := cells 0 (by omega) 0 (by omega)
          simp only [Nat.zero_mul, Nat.add_zero, List.getElem?_cons_zero] at c
          simpa [Addr.add] using World.cell?_spot c
        subst hs
        have hadd : ∀ i, (⟨b, off, none⟩ : Addr).add i = ⟨b, off + i, none⟩ := fun i => by unfold Addr.add; split <;> simp_all
        refine .inr ⟨b, off, rfl, fun i r hr => ?_⟩
        rw [List.getElem?_map] at hr
        obtain ⟨j, hj, rfl⟩ := Option.map_eq_some_iff.1 hr
        obtain ⟨hlt, rfl⟩ := List.getElem?_eq_some_iff.1 hj
        simp only [List.length_range] at hlt
        simp only [List.getElem_range]
        have q0 := cells i hlt 0 (by omega)
        have q1 := cells i hlt 1 (by omega)
        rw [hadd] at q0 q1
        exact ⟨by simpa using q0, by simpa [Nat.add_assoc] using q1⟩
end Go.Proofs.YtelbddgdaibolaaDoor
/-
  A request and a response that came in by value, opened.
-/
namespace Go.Proofs.YtelbddgdaibolaaDoor
open Go.ChangeShapes Go.WideShapes Go.ChangeAt Go.RowKit Go.Deep
theorem headsOne : Tryd.prog.cellsOf 22 = 1 := by kernel_rfl
theorem slice_cs {H : Type} {enc : TypeId × Value → H} {w : World} {base : Nat} {spare : Nat → Bool} {held : Bool} {fuel : Nat} {cs : List Value} {t e : TypeId} {x : DataW H × List MemPlace}
    (hu : Tryd.prog.underlying t = some (.slice e)) (h : DataW.trod enc Tryd.prog w base spare held fuel t cs = some x) : ∃ a len cap, cs = [.slice a len cap] := by
  rcases open_slice hu h with ⟨hcs, _⟩ | ⟨A, len', cap', m, n, D, Pl, hcs, _⟩
  · exact ⟨_, _, _, hcs⟩
  · exact ⟨_, _, _, hcs⟩
end Go.Proofs.YtelbddgdaibolaaDoor
/-
  A response, a row of bytes, a list of texts that came in, opened.
-/
namespace Go.Proofs.YtelbddgdaibolaaDoor
open Go.ChangeShapes Go.WideShapes Go.ChangeAt Go.RowKit Go.Deep
theorem bytesOne : Tryd.prog.cellsOf 5 = 1 := by kernel_rfl
theorem open_bytes {H : Type} {enc : TypeId × Value → H} {w : World} {base : Nat} {spare : Nat → Bool} {held : Bool} {fuel : Nat} {a : Option Addr} {len cap : Nat} {x : DataW H × List MemPlace}
    (h : DataW.trod enc Tryd.prog w base spare held fuel 23 [.slice a len cap] = some x) : ∃ l : List UInt8, l.length = len ∧ len ≤ maxLen ∧ BIn w a l := by
  rcases open_ints Tryd.underlying23 Tryd.underlying5 bytesOne h with ⟨hcs, _⟩ | ⟨A, l', c', zs, hcs, _, hl, hm, hz, _, hcell, hwz⟩
  · simp only [List.cons.injEq, Value.slice.injEq, and_true] at hcs
    obtain ⟨_, rfl, _⟩ := hcs
    exact ⟨[], rfl, by unfold maxLen; omega, .inl rfl⟩
  · simp only [List.cons.injEq, Value.slice.injEq, and_true] at hcs
    obtain ⟨rfl, rfl, rfl⟩ := hcs
    have hlz : len ≤ zs.length := by rw [hz]; split <;> omega
    refine ⟨(zs.take len).map fun z => UInt8.ofNat z.toNat, by simp; omega, by omega, ?_⟩
    by_cases h0 : len = 0
    · subst h0; exact .inl rfl
    · obtain ⟨b, off, spot⟩ := A
      have hc := hcell 0 (by omega)
      have hspot : spot = none := by simpa [Addr.add] using World.cell?_spot hc
      subst hspot
      have hadd : ∀ i, (⟨b, off, none⟩ : Addr).add i = ⟨b, off + i, none⟩ := fun i => by unfold Addr.add; split <;> simp_all
      refine .inr ⟨b, off, rfl, fun i c hr => ?_⟩
      rw [List.getElem?_map] at hr
      obtain ⟨z, hz1, rfl⟩ := Option.map_eq_some_iff.1 hr
      have hi : i < len := by have := (List.getElem?_eq_some_iff.1 hz1).1; simp at this; omega
      rw [List.getElem?_take_of_lt hi] at hz1
      have h1 := hcell i (by omega)
      rw [hadd, List.getD_eq_getElem?_getD, hz1] at h1
      rw [h1]
      have hw := hwz z (List.mem_of_getElem? hz1)
      simp only [Lit.wf, Bool.and_eq_true, decide_eq_true_eq] at hw
      have w1 : 0 ≤ z := hw.1
      have w2 : z ≤ 255 := hw.2
      have e : ((UInt8.ofNat z.toNat).toNat : Int) = z := by
        rw [UInt8.toNat_ofNat']
        omega
      rw [e]; rfl
theorem byteSOne : Tryd.prog.cellsOf 23 = 1 := by kernel_rfl
theorem intOne : Tryd.prog.cellsOf 2 = 1 := by kernel_rfl
end Go.Proofs.YtelbddgdaibolaaDoor
/-
  A list of texts that came in, opened.
-/
namespace Go.Proofs.YtelbddgdaibolaaDoor
open Go.ChangeShapes Go.WideShapes Go.ChangeAt Go.RowKit Go.Deep
theorem textOne : Tryd.prog.cellsOf 9 = 1 := by kernel_rfl
theorem open_texts {H : Type} {enc : TypeId × Value → H} {w : World} {base : Nat} {spare : Nat → Bool} {held : Bool} {fuel : Nat} {a : Option Addr} {len cap : Nat} {x : DataW H × List MemPlace}
    (h : DataW.trod enc Tryd.prog w base spare held fuel 26 [.slice a len cap] = some x) : ∃ l : List ByteArray, l.length = len ∧ len ≤ maxLen ∧ (∀ x ∈ l, x.size ≤ maxLen) ∧ TIn w a l := by
  rcases open_slice Tryd.underlying26 h with ⟨hcs, _⟩ | ⟨A, len', cap', m, n, D, Pl, hcs, _, hl, hm, hmm, _, hel⟩
  · simp only [List.cons.injEq, Value.slice.injEq, and_true] at hcs
    obtain ⟨_, rfl, _⟩ := hcs
    exact ⟨[], rfl, by unfold maxLen; omega, (fun x hx => by cases hx), .inl rfl⟩
  · simp only [List.cons.injEq, Value.slice.injEq, and_true] at hcs
    obtain ⟨rfl, rfl, rfl⟩ := hcs
    have hlm : len ≤ m := by rw [hmm]; split <;> omega
    have hrec : ∀ i, i < len → ∃ r : ByteArray, w.cells? base (A.add (i * 1)) 1 = some [.string r] ∧ r.size ≤ maxLen := by
      intro i hi
      obtain ⟨cs', hc, ht⟩ := hel i (by omega)
      rw [textOne] at hc
      obtain ⟨r, e, _, z⟩ := DataW.trod_string Tryd.underlying9 ht
      exact ⟨r, by rw [hc, e], z⟩
    obtain ⟨f, hf⟩ : ∃ f : Nat → ByteArray, ∀ i, i < len → w.cells? base (A.add (i * 1)) 1 = some [.string (f i)] ∧ (f i).size ≤ maxLen := by
      classical
      refine ⟨fun i => if hi : i < len then (hrec i hi).choose else .empty, fun i hi => ?_⟩
      simp only [dif_pos hi]
      exact (hrec i hi).choose_spec
    refine ⟨(List.range len).map f, by simp, by omega, ?_, ?_⟩
    · intro x hx
      obtain ⟨i, hi, rfl⟩ := List.mem_map.1 hx
      exact (hf i (by simpa using hi)).2
    · by_cases h0 : len = 0
      · subst h0; exact .inl rfl
      · obtain ⟨b, off, spot⟩ := A
        have cells : ∀ i, i < len → w.cell? ((⟨b, off, spot⟩ : Addr).add i) = some (.string (f i)) := by
          intro i hi
          have c := (World.cells?_some (hf i hi).1).2.2 0 (by omega)
          rw [add_add] at c
          simpa using c
        have hs : spot = none := by
          have c := cells 0 (by omega)
          simpa [Addr.add] using World.cell?_spot c
        subst hs
        have hadd : ∀ i, (⟨b, off, none⟩ : Addr).add i = ⟨b, off + i, none⟩ := fun i => by unfold Addr.add; split <;> simp_all
        refine .inr ⟨b, off, rfl, fun i r hr => ?_⟩
        rw [List.getElem?_map] at hr
        obtain ⟨j, hj, rfl⟩ := Option.map_eq_some_iff.1 hr
        obtain ⟨hlt, rfl⟩ := List.getElem?_eq_some_iff.1 hj
        simp only [List.length_range] at hlt
        simp only [List.getElem_range]
        have q0 := cells i hlt
        rw [hadd] at q0
        exact q0
end Go.Proofs.YtelbddgdaibolaaDoor
/-
  What is kept with an answer, as it came in by value, opened.
-/
namespace Go.Proofs.YtelbddgdaibolaaDoor
open Go.ChangeShapes Go.WideShapes Go.ChangeAt Go.RowKit
theorem metaCells : Tryd.prog.cellsOf 25 = 7 := by kernel_rfl
theorem oneIm : Tryd.prog.cellsOf 2 = 1 := by kernel_rfl
theorem oneBm : Tryd.prog.cellsOf 4 = 1 := by kernel_rfl
set_option maxRecDepth 100000 in
theorem open_meta {H : Type} {enc : TypeId × Value → H} {w : World} {r : Reach} {b0 base : Nat} {spare : Nat → Bool} {held : Bool} {v : Value} {d : DataW H} {p : List MemPlace}
    (hv : Value.okWide Tryd.prog w r b0 25 v) (h : DataW.Trod enc Tryd.prog w base spare held 25 v d p) :
    ∃ (u : Int × Int × Int × Int × Int) (t : Bool × Bool), v = .agg #[.int .i64 u.1, .int .i64 u.2.1, .int .i64 u.2.2.1, .int .i64 u.2.2.2.1, .int .i64 u.2.2.2.2, .bool t.1, .bool t.2] := by
  obtain ⟨cs, rfl, hsz⟩ := okWide_struct Tryd.underlying25 hv
  obtain ⟨fuel, hf0⟩ := h
  obtain ⟨xs, n, _, _, hl, hlen, hf⟩ := DataW.trod_struct Tryd.underlying25 hf0
  match xs, hlen with
  | [y0, y1, y2, y3, y4, y5, y6], _ =>
    have h0 : DataW.trod enc Tryd.prog w base spare held n 2 (((Value.agg cs).cells.toList.drop 0).take (Tryd.prog.cellsOf 2)) = some y0 := hf 0 _ rfl
    have h1 : DataW.trod enc Tryd.prog w base spare held n 2 (((Value.agg cs).cells.toList.drop 1).take (Tryd.prog.cellsOf 2)) = some y1 := hf 1 _ rfl
    have h2 : DataW.trod enc Tryd.prog w base spare held n 2 (((Value.agg cs).cells.toList.drop 2).take (Tryd.prog.cellsOf 2)) = some y2 := hf 2 _ rfl
    have h3 : DataW.trod enc Tryd.prog w base spare held n 2 (((Value.agg cs).cells.toList.drop 3).take (Tryd.prog.cellsOf 2)) = some y3 := hf 3 _ rfl
    have h4 : DataW.trod enc Tryd.prog w base spare held n 2 (((Value.agg cs).cells.toList.drop 4).take (Tryd.prog.cellsOf 2)) = some y4 := hf 4 _ rfl
    have h5 : DataW.trod enc Tryd.prog w base spare held n 4 (((Value.agg cs).cells.toList.drop 5).take (Tryd.prog.cellsOf 4)) = some y5 := hf 5 _ rfl
    have h6 : DataW.trod enc Tryd.prog w base spare held n 4 (((Value.agg cs).cells.toList.drop 6).take (Tryd.prog.cellsOf 4)) = some y6 := hf 6 _ rfl
    rw [oneIm] at h0 h1 h2 h3 h4
    rw [oneBm] at h5 h6
    obtain ⟨s0, e0, _⟩ := DataW.trod_int Tryd.underlying2 h0
    obtain ⟨s1, e1, _⟩ := DataW.trod_int Tryd.underlying2 h1
    obtain ⟨s2, e2, _⟩ := DataW.trod_int Tryd.underlying2 h2
    obtain ⟨s3, e3, _⟩ := DataW.trod_int Tryd.underlying2 h3
    obtain ⟨s4, e4, _⟩ := DataW.trod_int Tryd.underlying2 h4
    obtain ⟨s5, e5, _⟩ := DataW.trod_bool Tryd.underlying4 h5
    obtain ⟨s6, e6, _⟩ := DataW.trod_bool Tryd.underlying4 h6
    refine ⟨(s0, s1, s2, s3, s4), (s5, s6), ?_⟩
    have e : cs.toList = [.int .i64 s0, .int .i64 s1, .int .i64 s2, .int .i64 s3, .int .i64 s4, .bool s5, .bool s6] := by
      simp only [Value.cells] at e0 e1 e2 e3 e4 e5 e6 hl
      rw [metaCells] at hl
      match hc : cs.toList, hl with
      | [c0, c1, c2, c3, c4, c5, c6], _ =>
        rw [hc] at e0 e1 e2 e3 e4 e5 e6
        simp only [List.drop_zero, List.take_succ_cons, List.take_zero, List.drop_succ_cons, List.cons.injEq, and_true] at e0 e1 e2 e3 e4 e5 e6
        rw [e0, e1, e2, e3, e4, e5, e6]
    congr 1
    exact Array.toList_inj.1 e
end Go.Proofs.YtelbddgdaibolaaDoor
/-
  An entry that came in, and entries, opened.
-/
namespace Go.Proofs.YtelbddgdaibolaaDoor
open Go.ChangeShapes Go.WideShapes Go.ChangeAt Go.RowKit Go.Deep
theorem entCells : Tryd.prog.cellsOf 28 = 13 := by kernel_rfl
theorem eOneS : Tryd.prog.cellsOf 9 = 1 := by kernel_rfl
theorem eOneI : Tryd.prog.cellsOf 2 = 1 := by kernel_rfl
theorem eOneB : Tryd.prog.cellsOf 4 = 1 := by kernel_rfl
theorem eOneH : Tryd.prog.cellsOf 22 = 1 := by kernel_rfl
theorem eOneU : Tryd.prog.cellsOf 23 = 1 := by kernel_rfl
theorem eOneT : Tryd.prog.cellsOf 26 = 1 := by kernel_rfl
theorem eMeta : Tryd.prog.cellsOf 25 = 7 := by kernel_rfl
theorem slice_cap {H : Type} {enc : TypeId × Value → H} {P : Program} {w : World} {base : Nat} {spare : Nat → Bool} {held : Bool} {fuel : Nat} {t e : TypeId} {a : Option Addr} {n c : Nat} {x : DataW H × List MemPlace} (ht : P.underlying t = some (.slice e))
    (h : DataW.trod enc P w base spare held fuel t [.slice a n c] = some x) : n ≤ c := by
  rcases open_slice ht h with ⟨hcs, _⟩ | ⟨A, len', cap', m, n', D, Pl, hcs, _, hl, _⟩
  · simp only [List.cons.injEq, Value.slice.injEq, and_true] at hcs
    omega
  · simp only [List.cons.injEq, Value.slice.injEq, and_true] at hcs
    omega
set_option maxRecDepth 100000 in
theorem meta_cs {H : Type} {enc : TypeId × Value → H} {w : World} {base : Nat} {spare : Nat → Bool} {held : Bool} {fuel : Nat} {cs : List Value} {x : DataW H × List MemPlace}
    (h : DataW.trod enc Tryd.prog w base spare held fuel 25 cs = some x) : ∃ (t g l s e : Int) (b1 b2 : Bool), cs = [.int .i64 t, .int .i64 g, .int .i64 l, .int .i64 s, .int .i64 e, .bool b1, .bool b2] := by
  obtain ⟨xs, n, _, _, hl, hlen, hf⟩ := DataW.trod_struct Tryd.underlying25 h
  match xs, hlen with
  | [y0, y1, y2, y3, y4, y5, y6], _ =>
    have h0 : DataW.trod enc Tryd.prog w base spare held n 2 ((cs.drop 0).take (Tryd.prog.cellsOf 2)) = some y0 := hf 0 _ rfl
    have h1 : DataW.trod enc Tryd.prog w base spare held n 2 ((cs.drop 1).take (Tryd.prog.cellsOf 2)) = some y1 := hf 1 _ rfl
    have h2 : DataW.trod enc Tryd.prog w base spare held n 2 ((cs.drop 2).take (Tryd.prog.cellsOf 2)) = some y2 := hf 2 _ rfl
    have h3 : DataW.trod enc Tryd.prog w base spare held n 2 ((cs.drop 3).take (Tryd.prog.cellsOf 2)) = some y3 := hf 3 _ rfl
    have h4 : DataW.trod enc Tryd.prog w base spare held n 2 ((cs.drop 4).take (Tryd.prog.cellsOf 2)) = some y4 := hf 4 _ rfl
    have h5 : DataW.trod enc Tryd.prog w base spare held n 4 ((cs.drop 5).take (Tryd.prog.cellsOf 4)) = some y5 := hf 5 _ rfl
    have h6 : DataW.trod enc Tryd.prog w base spare held n 4 ((cs.drop 6).take (Tryd.prog.cellsOf 4)) = some y6 := hf 6 _ rfl
    rw [eOneI] at h0 h1 h2 h3 h4
    rw [eOneB] at h5 h6
    obtain ⟨s0, e0, _⟩ := DataW.trod_int Tryd.underlying2 h0
    obtain ⟨s1, e1, _⟩ := DataW.trod_int Tryd.underlying2 h1
    obtain ⟨s2, e2, _⟩ := DataW.trod_int Tryd.underlying2 h2
    obtain ⟨s3, e3, _⟩ := DataW.trod_int Tryd.underlying2 h3
    obtain ⟨s4, e4, _⟩ := DataW.trod_int Tryd.underlying2 h4
    obtain ⟨s5, e5, _⟩ := DataW.trod_bool Tryd.underlying4 h5
    obtain ⟨s6, e6, _⟩ := DataW.trod_bool Tryd.underlying4 h6
    refine ⟨s0, s1, s2, s3, s4, s5, s6, ?_⟩
    rw [eMeta] at hl
    match cs, hl with
    | [c0, c1, c2, c3, c4, c5, c6], _ =>
      simp only [List.drop_zero, List.take_succ_cons, List.take_zero, List.drop_succ_cons, List.cons.injEq, and_true] at e0 e1 e2 e3 e4 e5 e6
      rw [e0, e1, e2, e3, e4, e5, e6]
set_option maxRecDepth 100000 in
theorem ent_of {H : Type} {enc : TypeId × Value → H} {w : World} {base : Nat} {spare : Nat → Bool} {held : Bool} {fuel : Nat} {cs : List Value} {x : DataW H × List MemPlace}
    (h : DataW.trod enc Tryd.prog w base spare held fuel 28 cs = some x) : ∃ (q : Ent) (r : EntR), cs = entW q r ∧ EntIn w q r ∧ EntSm q := by
  obtain ⟨xs, n, _, _, hl, hlen, hf⟩ := DataW.trod_struct Tryd.underlying28 h
  match xs, hlen with
  | [y0, y1, y2, y3, y4, y5, y6], _ =>
    have h0 : DataW.trod enc Tryd.prog w base spare held n 9 ((cs.drop 0).take (Tryd.prog.cellsOf 9)) = some y0 := hf 0 _ rfl
    have h1 : DataW.trod enc Tryd.prog w base spare held n 2 ((cs.drop 1).take (Tryd.prog.cellsOf 2)) = some y1 := hf 1 _ rfl
    have h2 : DataW.trod enc Tryd.prog w base spare held n 22 ((cs.drop 2).take (Tryd.prog.cellsOf 22)) = some y2 := hf 2 _ rfl
    have h3 : DataW.trod enc Tryd.prog w base spare held n 23 ((cs.drop 3).take (Tryd.prog.cellsOf 23)) = some y3 := hf 3 _ rfl
    have h4 : DataW.trod enc Tryd.prog w base spare held n 25 ((cs.drop 4).take (Tryd.prog.cellsOf 25)) = some y4 := hf 4 _ rfl
    have h5 : DataW.trod enc Tryd.prog w base spare held n 26 ((cs.drop 11).take (Tryd.prog.cellsOf 26)) = some y5 := hf 5 _ rfl
    have h6 : DataW.trod enc Tryd.prog w base spare held n 2 ((cs.drop 12).take (Tryd.prog.cellsOf 2)) = some y6 := hf 6 _ rfl
    rw [eOneS] at h0
    rw [eOneI] at h1 h6
    rw [eOneH] at h2
    rw [eOneU] at h3
    rw [eMeta] at h4
    rw [eOneT] at h5
    obtain ⟨s0, e0, _, z0⟩ := DataW.trod_string Tryd.underlying9 h0
    obtain ⟨s1, e1, _⟩ := DataW.trod_int Tryd.underlying2 h1
    obtain ⟨ha, hn, hc, e2⟩ := slice_cs Tryd.underlying22 h2
    rw [e2] at h2
    obtain ⟨l, rfl, m2, sm2, o2⟩ := open_headers h2
    obtain ⟨ba, bn, bc, e3⟩ := slice_cs Tryd.underlying23 h3
    rw [e3] at h3
    obtain ⟨bl, rfl, m3, o3⟩ := open_bytes h3
    obtain ⟨t, g, li, s, e, b1, b2, e4⟩ := meta_cs h4
    obtain ⟨ta, tn, tc, e5⟩ := slice_cs Tryd.underlying26 h5
    rw [e5] at h5
    obtain ⟨ts, rfl, m5, sm5, o5⟩ := open_texts h5
    obtain ⟨s6, e6, _⟩ := DataW.trod_int Tryd.underlying2 h6
    refine ⟨⟨s0, s1, l, bl, t, g, li, s, e, b1, b2, ts, s6⟩, ⟨ha, hc, ba, bc, ta, tc⟩, ?_, ⟨o2, o3, o5, slice_cap Tryd.underlying22 h2, slice_cap Tryd.underlying23 h3, slice_cap Tryd.underlying26 h5⟩, ⟨z0, m2, sm2, m3, m5, sm5⟩⟩
    rw [entCells] at hl
    match cs, hl with
    | [c0, c1, c2, c3, c4, c5, c6, c7, c8, c9, c10, c11, c12], _ =>
      simp only [List.drop_zero, List.take_succ_cons, List.take_zero, List.drop_succ_cons, List.cons.injEq, and_true] at e0 e1 e2 e3 e4 e5 e6
      obtain ⟨f4, f5, f6, f7, f8, f9, f10⟩ := e4
      rw [e0, e1, e2, e3, f4, f5, f6, f7, f8, f9, f10, e5, e6]
      rfl
set_option maxRecDepth 100000 in
theorem open_entry {H : Type} {enc : TypeId × Value → H} {w : World} {r : Reach} {b0 base : Nat} {spare : Nat → Bool} {held : Bool} {v : Value} {d : DataW H} {p : List MemPlace}
    (hv : Value.okWide Tryd.prog w r b0 28 v) (h : DataW.Trod enc Tryd.prog w base spare held 28 v d p) : ∃ (q : Ent) (r : EntR), v = entV q r ∧ EntIn w q r ∧ EntSm q := by
  obtain ⟨cs, rfl, hsz⟩ := okWide_struct Tryd.underlying28 hv
  obtain ⟨fuel, hf0⟩ := h
  obtain ⟨q, r, e, h1, h2⟩ := ent_of hf0
  refine ⟨q, r, ?_, h1, h2⟩
  simp only [Value.cells] at e
  show Value.agg cs = .agg _
  congr 1
  exact Array.toList_inj.1 e
set_option maxRecDepth 100000 in
theorem open_entries {H : Type} {enc : TypeId × Value → H} {w : World} {base : Nat} {spare : Nat → Bool} {held : Bool} {fuel : Nat} {a : Option Addr} {len cap : Nat} {x : DataW H × List MemPlace}
    (h : DataW.trod enc Tryd.prog w base spare held fuel 42 [.slice a len cap] = some x) :
    ∃ l : List (Ent × EntR), l.length = len ∧ len ≤ maxLen ∧ len ≤ cap ∧ (∀ q ∈ l, EntSm q.1) ∧ EntsIn w a l := by
  have hcap := slice_cap Tryd.underlying42 h
  rcases open_slice Tryd.underlying42 h with ⟨hcs, _⟩ | ⟨A, len', cap', m, n, D, Pl, hcs, _, hl, hm, hmm, _, hel⟩
  · simp only [List.cons.injEq, Value.slice.injEq, and_true] at hcs
    obtain ⟨_, rfl, _⟩ := hcs
    exact ⟨[], rfl, by unfold maxLen; omega, hcap, fun q hq => by simp at hq, .inl rfl⟩
  · simp only [List.cons.injEq, Value.slice.injEq, and_true] at hcs
    obtain ⟨rfl, rfl, rfl⟩ := hcs
    have hlm : len ≤ m := by rw [hmm]; split <;> omega
    have hrec : ∀ i, i < len → ∃ q : Ent × EntR, w.cells? base (A.add (i * 13)) 13 = some (entW q.1 q.2) ∧ EntIn w q.1 q.2 ∧ EntSm q.1 := by
      intro i hi
      obtain ⟨cs', hc, ht⟩ := hel i (by omega)
      rw [entCells] at hc
      obtain ⟨q, r, rfl, z⟩ := ent_of ht
      exact ⟨(q, r), hc, z⟩
    obtain ⟨f, hf⟩ : ∃ f : Nat → Ent × EntR, ∀ i, i < len → w.cells? base (A.add (i * 13)) 13 = some (entW (f i).1 (f i).2) ∧ EntIn w (f i).1 (f i).2 ∧ EntSm (f i).1 := by
      classical
      refine ⟨fun i => if hi : i < len then (hrec i hi).choose else (⟨.empty, 0, [], [], 0, 0, 0, 0, 0, false, false, [], 0⟩, ⟨none, 0, none, 0, none, 0⟩), fun i hi => ?_⟩
      simp only [dif_pos hi]
      exact (hrec i hi).choose_spec
    refine ⟨(List.range len).map f, by simp, by omega, hcap, ?_, ?_⟩
    · intro q hq
      obtain ⟨i, hi, rfl⟩ := List.mem_map.1 hq
      exact (hf i (by simpa using hi)).2.2
    · by_cases h0 : len = 0
      · subst h0; exact .inl rfl
      · obtain ⟨b, off, spot⟩ := A
        have cells : ∀ i, i < len → ∀ j, j < 13 → w.cell? ((⟨b, off, spot⟩ : Addr).add (i * 13 + j)) = (entW (f i).1 (f i).2)[j]? := by
          intro i hi j hj
          have c := (World.cells?_some (hf i hi).1).2.2 j hj
          rw [add_add] at c
          exact c
        have hs : spot = none := by
          have c := cells 0 (by omega) 0 (by omega)
          simp only [Nat.zero_mul, Nat.add_zero, entW, List.getElem?_cons_zero] at c
          simpa [Addr.add] using World.cell?_spot c
        subst hs
        have hadd : ∀ i, (⟨b, off, none⟩ : Addr).add i = ⟨b, off + i, none⟩ := fun i => by unfold Addr.add; split <;> simp_all
        refine .inr ⟨b, off, rfl, fun i q hq => ?_⟩
        rw [List.getElem?_map] at hq
        obtain ⟨j, hj, rfl⟩ := Option.map_eq_some_iff.1 hq
        obtain ⟨hlt, rfl⟩ := List.getElem?_eq_some_iff.1 hj
        simp only [List.length_range] at hlt
        simp only [List.getElem_range]
        refine ⟨fun j hj => ?_, (hf i hlt).2.1⟩
        have q0 := cells i hlt j hj
        rw [hadd, ← Nat.add_assoc] at q0
        exact q0
end Go.Proofs.YtelbddgdaibolaaDoor
/-
  A store that came in, opened.
-/
namespace Go.Proofs.YtelbddgdaibolaaDoor
open Go.ChangeShapes Go.WideShapes Go.ChangeAt Go.RowKit Go.Deep
theorem stoCells : Tryd.prog.cellsOf 44 = 4 := by kernel_rfl
theorem eOneE : Tryd.prog.cellsOf 42 = 1 := by kernel_rfl
set_option maxRecDepth 100000 in
theorem open_store {H : Type} {enc : TypeId × Value → H} {w : World} {r : Reach} {b0 base : Nat} {spare : Nat → Bool} {held : Bool} {v : Value} {d : DataW H} {p : List MemPlace}
    (hv : Value.okWide Tryd.prog w r b0 44 v) (h : DataW.Trod enc Tryd.prog w base spare held 44 v d p) : ∃ (bu gu : Int) (ta ka : Option Addr) (tc kc : Nat) (tl kl : List (Ent × EntR)), v = .agg #[.int .i64 bu, .int .i64 gu, .slice ta tl.length tc, .slice ka kl.length kc] ∧ StoArg w ta ka tl kl := by
  obtain ⟨cs, rfl, hsz⟩ := okWide_struct Tryd.underlying44 hv
  obtain ⟨fuel, hf0⟩ := h
  obtain ⟨xs, n, _, _, hl, hlen, hf⟩ := DataW.trod_struct Tryd.underlying44 hf0
  match xs, hlen with
  | [y0, y1, y2, y3], _ =>
    have h0 : DataW.trod enc Tryd.prog w base spare held n 2 ((cs.toList.drop 0).take (Tryd.prog.cellsOf 2)) = some y0 := hf 0 _ rfl
    have h1 : DataW.trod enc Tryd.prog w base spare held n 2 ((cs.toList.drop 1).take (Tryd.prog.cellsOf 2)) = some y1 := hf 1 _ rfl
    have h2 : DataW.trod enc Tryd.prog w base spare held n 42 ((cs.toList.drop 2).take (Tryd.prog.cellsOf 42)) = some y2 := hf 2 _ rfl
    have h3 : DataW.trod enc Tryd.prog w base spare held n 42 ((cs.toList.drop 3).take (Tryd.prog.cellsOf 42)) = some y3 := hf 3 _ rfl
    rw [eOneI] at h0 h1
    rw [eOneE] at h2 h3
    obtain ⟨s0, e0, _⟩ := DataW.trod_int Tryd.underlying2 h0
    obtain ⟨s1, e1, _⟩ := DataW.trod_int Tryd.underlying2 h1
    obtain ⟨ta, tn, tc, e2⟩ := slice_cs Tryd.underlying42 h2
    rw [e2] at h2
    obtain ⟨tl, rfl, m2, _, sm2, o2⟩ := open_entries h2
    obtain ⟨ka, kn, kc, e3⟩ := slice_cs Tryd.underlying42 h3
    rw [e3] at h3
    obtain ⟨kl, rfl, m3, _, sm3, o3⟩ := open_entries h3
    refine ⟨s0, s1, ta, ka, tc, kc, tl, kl, ?_, ⟨o2, o3, m2, m3, sm2, sm3⟩⟩
    have hl' : cs.toList.length = 4 := by rw [stoCells] at hl; exact hl
    have key : cs.toList = [.int .i64 s0, .int .i64 s1, .slice ta tl.length tc, .slice ka kl.length kc] := by
      generalize cs.toList = c at *
      match c, hl' with
      | [c0, c1, c2, c3], _ =>
        simp only [List.drop_zero, List.take_succ_cons, List.take_zero, List.drop_succ_cons, List.cons.injEq, and_true] at e0 e1 e2 e3
        rw [e0, e1, e2, e3]
    show Value.agg cs = .agg _
    congr 1
    exact Array.toList_inj.1 key
end Go.Proofs.YtelbddgdaibolaaDoor
