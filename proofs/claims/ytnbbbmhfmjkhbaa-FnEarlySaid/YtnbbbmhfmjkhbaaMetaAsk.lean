/-
  AgeAt and PhaseOf, on both sides.
-/
import Derived.Test.YtnbbbmhfmjkhbaaMetaAge
import Derived.Deep.CutRange
namespace Go.Proofs.Ytnbbbmhfmjkhbaa
open Go.ChangeShapes Go.WideShapes Go.ChangeAt Go.RowKit Go.Sort
set_option maxHeartbeats 4000000 in
theorem specAge_any (t g l s e : Int) (b1 b2 : Bool) (n : Int) (w : World) :
    Calls Try.prog 16 #[.agg #[.int .i64 t, .int .i64 g, .int .i64 l, .int .i64 s, .int .i64 e, .bool b1, .bool b2], .int .i64 n] w fun r w' => r = .returned (.agg #[.int .i64 (askC t g l s e n), .int .i64 (ageA t g l s e n)]) ∧ Below w.heap.size w w' := by
  have HQ : Hid (∀ W, MetaAt W w.heap.size t g l s e b1 b2 → Calls Try.prog 36 #[.pointer (some ⟨w.heap.size, 0, none⟩), .int .i64 n] W fun r w' => r = .returned (.int .i64 (askC t g l s e n)) ∧ Below W.heap.size W w') := fun w' hp => l7Ask_any w' w.heap.size t g l s e b1 b2 n hp
  have K0 : Hid (∀ w1, Below (w.heap.size + 2) ((w.alloc (.cells #[.int .i64 t, .int .i64 g, .int .i64 l, .int .i64 s, .int .i64 e, .bool b1, .bool b2] 25)).alloc (.cells #[.int .i64 0, .int .i64 0] 29)) w1 → Below w.heap.size w w1 ∧ MetaAt w1 w.heap.size t g l s e b1 b2 ∧ IR w1 (w.heap.size + 1) (.int .i64 0) (.int .i64 0)) := fun w1 hb => meta_ir w w1 t g l s e b1 b2 hb
  have HM0 : Hid (MetaAt ((w.alloc (.cells #[.int .i64 t, .int .i64 g, .int .i64 l, .int .i64 s, .int .i64 e, .bool b1, .bool b2] 25)).alloc (.cells #[.int .i64 0, .int .i64 0] 29)) w.heap.size t g l s e b1 b2) := (meta_ir w _ t g l s e b1 b2 (Below.refl _ _)).2.1
  cases ha : askB t g l s e n
  · rw [ageA_bad ha, askC_bad ha]
    rw [askC_bad ha] at HQ
    clear ha
    go_enter Try.func16, Try.ntmps16
    go_wp2_with fail
    refine (HQ.out _ HM0.out).mono ?_
    rintro r w1 ⟨rfl, hb1⟩
    have K1 : Hid (Below w.heap.size w w1 ∧ MetaAt w1 w.heap.size t g l s e b1 b2 ∧ IR w1 (w.heap.size + 1) (.int .i64 0) (.int .i64 0)) := K0.out w1 (by simpa using hb1)
    clear hb1 K0 HM0
    obtain ⟨r0, r1, rf, _⟩ := K1.out.2.2
    have rf0 := rf 0
    have rf1 := rf 1
    clear rf
    go_wp2_with fail
    refine bodyPost_ret (v := .agg #[.int .i64 3, .int .i64 0]) ?_ rfl ⟨rfl, (K1.out.1.setCell (by simp) _).setCell (by simp) _⟩
    simp [results, Try.results16, go_sem, r0, r1]
  have HG : Hid (∀ W, MetaAt W w.heap.size t g l s e b1 b2 → Calls Try.prog 38 #[.pointer (some ⟨w.heap.size, 0, none⟩), .int .i64 n] W fun r w' => r = .returned (.int .i64 (ageM t g n)) ∧ Below W.heap.size W w') := fun W hp => l7Age_any W w.heap.size t g l s e b1 b2 n hp ha
  rw [ageA_ok ha, askC_ok ha]
  rw [askC_ok ha] at HQ
  clear ha
  generalize ageM t g n = z at *
  go_enter Try.func16, Try.ntmps16
  go_wp2_with fail
  refine (HQ.out _ HM0.out).mono ?_
  rintro r w1 ⟨rfl, hb1⟩
  have K1 : Hid (Below w.heap.size w w1 ∧ MetaAt w1 w.heap.size t g l s e b1 b2 ∧ IR w1 (w.heap.size + 1) (.int .i64 0) (.int .i64 0)) := K0.out w1 (by simpa using hb1)
  clear hb1 K0 HM0
  go_wp2_with fail
  refine (HG.out _ K1.out.2.1).mono ?_
  rintro r w2 ⟨rfl, hb2⟩
  have K2 : Hid (Below w.heap.size w w2 ∧ MetaAt w2 w.heap.size t g l s e b1 b2 ∧ IR w2 (w.heap.size + 1) (.int .i64 0) (.int .i64 0)) := ⟨K1.out.1.trans (hb2.mono K1.out.1.size), K1.out.2.1.keep hb2, K1.out.2.2.keep hb2⟩
  clear hb2 K1
  obtain ⟨r0, r1, rf, _⟩ := K2.out.2.2
  have rf0 := rf 0
  have rf1 := rf 1
  clear rf
  go_wp2_with fail
  refine bodyPost_ret (v := .agg #[.int .i64 0, .int .i64 z]) ?_ rfl ⟨rfl, (K2.out.1.setCell (by simp) _).setCell (by simp) _⟩
  simp [results, Try.results16, go_sem, r0, r1]
set_option maxHeartbeats 4000000 in
theorem specPhase_any (t g l s e : Int) (b1 b2 : Bool) (n : Int) (w : World) :
    Calls Try.prog 15 #[.agg #[.int .i64 t, .int .i64 g, .int .i64 l, .int .i64 s, .int .i64 e, .bool b1, .bool b2], .int .i64 n] w fun r w' => r = .returned (.agg #[.int .i64 (askC t g l s e n), .int .i64 (phaseA t g l s e b1 b2 n)]) ∧ Below w.heap.size w w' := by
  have HQ : Hid (∀ W, MetaAt W w.heap.size t g l s e b1 b2 → Calls Try.prog 36 #[.pointer (some ⟨w.heap.size, 0, none⟩), .int .i64 n] W fun r w' => r = .returned (.int .i64 (askC t g l s e n)) ∧ Below W.heap.size W w') := fun w' hp => l7Ask_any w' w.heap.size t g l s e b1 b2 n hp
  have K0 : Hid (∀ w1, Below (w.heap.size + 2) ((w.alloc (.cells #[.int .i64 t, .int .i64 g, .int .i64 l, .int .i64 s, .int .i64 e, .bool b1, .bool b2] 25)).alloc (.cells #[.int .i64 0, .int .i64 0] 29)) w1 → Below w.heap.size w w1 ∧ MetaAt w1 w.heap.size t g l s e b1 b2 ∧ IR w1 (w.heap.size + 1) (.int .i64 0) (.int .i64 0)) := fun w1 hb => meta_ir w w1 t g l s e b1 b2 hb
  have HM0 : Hid (MetaAt ((w.alloc (.cells #[.int .i64 t, .int .i64 g, .int .i64 l, .int .i64 s, .int .i64 e, .bool b1, .bool b2] 25)).alloc (.cells #[.int .i64 0, .int .i64 0] 29)) w.heap.size t g l s e b1 b2) := (meta_ir w _ t g l s e b1 b2 (Below.refl _ _)).2.1
  cases ha : askB t g l s e n
  · rw [phaseA_bad ha, askC_bad ha]
    rw [askC_bad ha] at HQ
    clear ha
    go_enter Try.func15, Try.ntmps15
    go_wp2_with fail
    refine (HQ.out _ HM0.out).mono ?_
    rintro r w1 ⟨rfl, hb1⟩
    have K1 : Hid (Below w.heap.size w w1 ∧ MetaAt w1 w.heap.size t g l s e b1 b2 ∧ IR w1 (w.heap.size + 1) (.int .i64 0) (.int .i64 0)) := K0.out w1 (by simpa using hb1)
    clear hb1 K0 HM0
    obtain ⟨r0, r1, rf, _⟩ := K1.out.2.2
    have rf0 := rf 0
    have rf1 := rf 1
    clear rf
    go_wp2_with fail
    refine bodyPost_ret (v := .agg #[.int .i64 3, .int .i64 0]) ?_ rfl ⟨rfl, (K1.out.1.setCell (by simp) _).setCell (by simp) _⟩
    simp [results, Try.results15, go_sem, r0, r1]
  have HG : Hid (∀ W, MetaAt W w.heap.size t g l s e b1 b2 → Calls Try.prog 37 #[.pointer (some ⟨w.heap.size, 0, none⟩), .int .i64 n] W fun r w' => r = .returned (.int .i64 (phaseM t g l s e b1 b2 n)) ∧ Below W.heap.size W w') := fun W hp => l7Phase_any W w.heap.size t g l s e b1 b2 n hp ha
  rw [phaseA_ok ha, askC_ok ha]
  rw [askC_ok ha] at HQ
  clear ha
  generalize phaseM t g l s e b1 b2 n = z at *
  go_enter Try.func15, Try.ntmps15
  go_wp2_with fail
  refine (HQ.out _ HM0.out).mono ?_
  rintro r w1 ⟨rfl, hb1⟩
  have K1 : Hid (Below w.heap.size w w1 ∧ MetaAt w1 w.heap.size t g l s e b1 b2 ∧ IR w1 (w.heap.size + 1) (.int .i64 0) (.int .i64 0)) := K0.out w1 (by simpa using hb1)
  clear hb1 K0 HM0
  go_wp2_with fail
  refine (HG.out _ K1.out.2.1).mono ?_
  rintro r w2 ⟨rfl, hb2⟩
  have K2 : Hid (Below w.heap.size w w2 ∧ MetaAt w2 w.heap.size t g l s e b1 b2 ∧ IR w2 (w.heap.size + 1) (.int .i64 0) (.int .i64 0)) := ⟨K1.out.1.trans (hb2.mono K1.out.1.size), K1.out.2.1.keep hb2, K1.out.2.2.keep hb2⟩
  clear hb2 K1
  obtain ⟨r0, r1, rf, _⟩ := K2.out.2.2
  have rf0 := rf 0
  have rf1 := rf 1
  clear rf
  go_wp2_with fail
  refine bodyPost_ret (v := .agg #[.int .i64 0, .int .i64 z]) ?_ rfl ⟨rfl, (K2.out.1.setCell (by simp) _).setCell (by simp) _⟩
  simp [results, Try.results15, go_sem, r0, r1]
set_option maxHeartbeats 4000000 in
theorem implAge_any (t g l s e : Int) (b1 b2 : Bool) (n : Int) (w : World) :
    Calls Try.prog 14 #[.agg #[.int .i64 t, .int .i64 g, .int .i64 l, .int .i64 s, .int .i64 e, .bool b1, .bool b2], .int .i64 n] w fun r w' => r = .returned (.agg #[.int .i64 (askC t g l s e n), .int .i64 (ageA t g l s e n)]) ∧ Below w.heap.size w w' := by
  have HM : Hid (∀ w, Calls Try.prog 17 #[.agg #[.int .i64 t, .int .i64 g, .int .i64 l, .int .i64 s, .int .i64 e, .bool b1, .bool b2]] w fun r w' => r = .returned (.int .i64 (metaC t g l s e)) ∧ Below w.heap.size w w') := implMeta_any t g l s e b1 b2
  have HT : Hid (∀ x w, Calls Try.prog 35 #[.int .i64 x] w fun r w' => r = .returned (.bool (timeB x)) ∧ w' = w) := isTime_all
  have K0 : Hid (∀ w1, Below (w.heap.size + 2) ((w.alloc (.cells #[.int .i64 t, .int .i64 g, .int .i64 l, .int .i64 s, .int .i64 e, .bool b1, .bool b2] 25)).alloc (.cells #[.int .i64 0, .int .i64 0] 29)) w1 → Below w.heap.size w w1 ∧ MetaAt w1 w.heap.size t g l s e b1 b2 ∧ IR w1 (w.heap.size + 1) (.int .i64 0) (.int .i64 0)) := fun w1 hb => meta_ir w w1 t g l s e b1 b2 hb
  cases hm : metaB t g l s e
  · have ha : askB t g l s e n = false := by simp [askB, hm]
    rw [ageA_bad ha, askC_bad ha]
    rw [metaC_bad hm] at HM
    clear ha hm
    go_enter Try.func14, Try.ntmps14
    go_wp2_with fail
    refine (HM.out _).mono ?_
    rintro r w1 ⟨rfl, hb1⟩
    have K1 : Hid (Below w.heap.size w w1 ∧ MetaAt w1 w.heap.size t g l s e b1 b2 ∧ IR w1 (w.heap.size + 1) (.int .i64 0) (.int .i64 0)) := K0.out w1 (by simpa using hb1)
    clear hb1 K0
    obtain ⟨r0, r1, rf, _⟩ := K1.out.2.2
    have rf0 := rf 0
    have rf1 := rf 1
    clear rf
    go_wp2_with fail
    refine bodyPost_ret (v := .agg #[.int .i64 3, .int .i64 0]) ?_ rfl ⟨rfl, (K1.out.1.setCell (by simp) _).setCell (by simp) _⟩
    simp [results, Try.results14, go_sem, r0, r1]
  rw [metaC_ok hm] at HM
  cases hn : timeB n
  · have ha : askB t g l s e n = false := by simp [askB, hn]
    rw [ageA_bad ha, askC_bad ha]
    clear ha hm
    go_enter Try.func14, Try.ntmps14
    go_wp2_with fail
    refine (HM.out _).mono ?_
    rintro r w1 ⟨rfl, hb1⟩
    have K1 : Hid (Below w.heap.size w w1 ∧ MetaAt w1 w.heap.size t g l s e b1 b2 ∧ IR w1 (w.heap.size + 1) (.int .i64 0) (.int .i64 0)) := K0.out w1 (by simpa using hb1)
    clear hb1 K0
    go_wp2_with fail
    refine (HT.out n _).mono ?_
    rintro r w2 ⟨rfl, rfl⟩
    rw [hn]
    obtain ⟨r0, r1, rf, _⟩ := K1.out.2.2
    have rf0 := rf 0
    have rf1 := rf 1
    clear rf
    go_wp2_with fail
    refine bodyPost_ret (v := .agg #[.int .i64 3, .int .i64 0]) ?_ rfl ⟨rfl, (K1.out.1.setCell (by simp) _).setCell (by simp) _⟩
    simp [results, Try.results14, go_sem, r0, r1]
  by_cases ht : n < t
  · have ha : askB t g l s e n = false := by simp [askB]; omega
    rw [ageA_bad ha, askC_bad ha]
    have d : decide (n < t) = true := by simp [ht]
    clear ha hm
    go_enter Try.func14, Try.ntmps14
    go_wp2_with fail
    refine (HM.out _).mono ?_
    rintro r w1 ⟨rfl, hb1⟩
    have K1 : Hid (Below w.heap.size w w1 ∧ MetaAt w1 w.heap.size t g l s e b1 b2 ∧ IR w1 (w.heap.size + 1) (.int .i64 0) (.int .i64 0)) := K0.out w1 (by simpa using hb1)
    clear hb1 K0
    have c0 := K1.out.2.1.c0
    go_wp2_with fail
    refine (HT.out n _).mono ?_
    rintro r w2 ⟨rfl, rfl⟩
    rw [hn]
    obtain ⟨r0, r1, rf, _⟩ := K1.out.2.2
    have rf0 := rf 0
    have rf1 := rf 1
    clear rf
    go_wp2_with fail
    refine bodyPost_ret (v := .agg #[.int .i64 3, .int .i64 0]) ?_ rfl ⟨rfl, (K1.out.1.setCell (by simp) _).setCell (by simp) _⟩
    simp [results, Try.results14, go_sem, r0, r1]
  have ha : askB t g l s e n = true := by simp [askB, hm, hn]; omega
  have d : decide (n < t) = false := by simp [ht]
  obtain ⟨⟨t0, t1⟩, hg, _⟩ := metaB_of hm
  obtain ⟨n0, n1⟩ := timeB_of hn
  have HA : Hid (∀ w, Calls Try.prog 20 #[.int .i64 g, .int .i64 (n - t)] w fun r w' => r = .returned (.agg #[.int .i64 0, .int .i64 (ageM t g n)]) ∧ Below w.heap.size w w') := implAdd_all g (n - t) hg (by omega)
  rw [ageA_ok ha, askC_ok ha]
  clear ha hm hg
  generalize ageM t g n = z at *
  go_enter Try.func14, Try.ntmps14
  go_wp2_with fail
  refine (HM.out _).mono ?_
  rintro r w1 ⟨rfl, hb1⟩
  have K1 : Hid (Below w.heap.size w w1 ∧ MetaAt w1 w.heap.size t g l s e b1 b2 ∧ IR w1 (w.heap.size + 1) (.int .i64 0) (.int .i64 0)) := K0.out w1 (by simpa using hb1)
  clear hb1 K0
  have c0 := K1.out.2.1.c0
  have c1 := K1.out.2.1.c1
  go_wp2_with fail
  refine (HT.out n _).mono ?_
  rintro r w2 ⟨rfl, rfl⟩
  rw [hn]
  go_wp2_with fail
  refine (HA.out _).mono ?_
  rintro r w2 ⟨rfl, hb2⟩
  clear c0 c1
  have K2 : Hid (Below w.heap.size w w2 ∧ MetaAt w2 w.heap.size t g l s e b1 b2 ∧ IR w2 (w.heap.size + 1) (.int .i64 0) (.int .i64 0)) := ⟨K1.out.1.trans (hb2.mono K1.out.1.size), K1.out.2.1.keep hb2, K1.out.2.2.keep hb2⟩
  clear hb2 K1
  obtain ⟨r0, r1, rf, _⟩ := K2.out.2.2
  have rf0 := rf 0
  have rf1 := rf 1
  clear rf
  go_wp2_with fail
  refine bodyPost_ret (v := .agg #[.int .i64 0, .int .i64 z]) ?_ rfl ⟨rfl, (K2.out.1.setCell (by simp) _).setCell (by simp) _⟩
  simp [results, Try.results14, go_sem, r0, r1]
set_option maxHeartbeats 4000000 in
theorem implPhase_any (t g l s e : Int) (b1 b2 : Bool) (n : Int) (w : World) :
    Calls Try.prog 13 #[.agg #[.int .i64 t, .int .i64 g, .int .i64 l, .int .i64 s, .int .i64 e, .bool b1, .bool b2], .int .i64 n] w fun r w' => r = .returned (.agg #[.int .i64 (askC t g l s e n), .int .i64 (phaseA t g l s e b1 b2 n)]) ∧ Below w.heap.size w w' := by
  have HG : Hid (∀ w, Calls Try.prog 14 #[.agg #[.int .i64 t, .int .i64 g, .int .i64 l, .int .i64 s, .int .i64 e, .bool b1, .bool b2], .int .i64 n] w fun r w' => r = .returned (.agg #[.int .i64 (askC t g l s e n), .int .i64 (ageA t g l s e n)]) ∧ Below w.heap.size w w') := implAge_any t g l s e b1 b2 n
  have K0 : Hid (∀ w1, Below (w.heap.size + 2) ((w.alloc (.cells #[.int .i64 t, .int .i64 g, .int .i64 l, .int .i64 s, .int .i64 e, .bool b1, .bool b2] 25)).alloc (.cells #[.int .i64 0, .int .i64 0] 29)) w1 → Below w.heap.size w w1 ∧ MetaAt w1 w.heap.size t g l s e b1 b2 ∧ IR w1 (w.heap.size + 1) (.int .i64 0) (.int .i64 0)) := fun w1 hb => meta_ir w w1 t g l s e b1 b2 hb
  cases ha : askB t g l s e n
  · rw [phaseA_bad ha, askC_bad ha]
    rw [ageA_bad ha, askC_bad ha] at HG
    clear ha
    go_enter Try.func13, Try.ntmps13
    go_wp2_with fail
    refine (HG.out _).mono ?_
    rintro r w1 ⟨rfl, hb1⟩
    have K1 : Hid (Below w.heap.size w w1 ∧ MetaAt w1 w.heap.size t g l s e b1 b2 ∧ IR w1 (w.heap.size + 1) (.int .i64 0) (.int .i64 0)) := K0.out w1 (by simpa using hb1)
    clear hb1 K0
    have al : Below w1.heap.size w1 (w1.alloc (.cells #[.int .i64 3, .int .i64 0] 29)) := (Below.refl _ _).alloc (Nat.le_refl _) _
    have hIR : IR (w1.alloc (.cells #[.int .i64 3, .int .i64 0] 29)) w1.heap.size (.int .i64 3) (.int .i64 0) := IR.new _ _ _ _
    obtain ⟨v1, hv1⟩ : ∃ X, Hid (X = w1.alloc (.cells #[.int .i64 3, .int .i64 0] 29)) := ⟨_, rfl⟩
    rw [← hv1.out] at al hIR
    have K2 : Hid (Below w.heap.size w v1 ∧ MetaAt v1 w.heap.size t g l s e b1 b2 ∧ IR v1 (w.heap.size + 1) (.int .i64 0) (.int .i64 0)) := ⟨K1.out.1.trans (al.mono K1.out.1.size), K1.out.2.1.keep al, K1.out.2.2.keep al⟩
    have HI : Hid (IR v1 w1.heap.size (.int .i64 3) (.int .i64 0)) := hIR
    clear al hIR K1
    go_upto_region 2 with fail
    rw [← hv1.out]
    clear hv1
    generalize w1.heap.size = B1 at *
    clear w1
    have a0 := HI.out.c0
    have a1 := HI.out.c1
    obtain ⟨r0, r1, rf, _⟩ := K2.out.2.2
    have rf0 := rf 0
    have rf1 := rf 1
    clear rf
    go_wp2_with fail
    refine bodyPost_ret (v := .agg #[.int .i64 3, .int .i64 0]) ?_ rfl ⟨rfl, (K2.out.1.setCell (by simp) _).setCell (by simp) _⟩
    simp [results, Try.results13, go_sem, r0, r1]
  obtain ⟨hm, _, tn⟩ := askB_of ha
  have HPA : Hid (∀ w, Calls Try.prog 34 #[.agg #[.int .i64 t, .int .i64 g, .int .i64 l, .int .i64 s, .int .i64 e, .bool b1, .bool b2], .int .i64 (ageM t g n)] w fun r w' => r = .returned (.int .i64 (phaseM t g l s e b1 b2 n)) ∧ Below w.heap.size w w') := phaseAt_any t g l s e b1 b2 (ageM t g n) (ageM_time (metaB_of hm).2.1.1 tn).1 hm
  rw [phaseA_ok ha, askC_ok ha]
  rw [ageA_ok ha, askC_ok ha] at HG
  clear ha hm tn
  generalize phaseM t g l s e b1 b2 n = z at *
  generalize ageM t g n = a at *
  go_enter Try.func13, Try.ntmps13
  go_wp2_with fail
  refine (HG.out _).mono ?_
  rintro r w1 ⟨rfl, hb1⟩
  have K1 : Hid (Below w.heap.size w w1 ∧ MetaAt w1 w.heap.size t g l s e b1 b2 ∧ IR w1 (w.heap.size + 1) (.int .i64 0) (.int .i64 0)) := K0.out w1 (by simpa using hb1)
  clear hb1 K0
  have al : Below w1.heap.size w1 (w1.alloc (.cells #[.int .i64 0, .int .i64 a] 29)) := (Below.refl _ _).alloc (Nat.le_refl _) _
  have hIR : IR (w1.alloc (.cells #[.int .i64 0, .int .i64 a] 29)) w1.heap.size (.int .i64 0) (.int .i64 a) := IR.new _ _ _ _
  obtain ⟨v1, hv1⟩ : ∃ X, Hid (X = w1.alloc (.cells #[.int .i64 0, .int .i64 a] 29)) := ⟨_, rfl⟩
  rw [← hv1.out] at al hIR
  have K2 : Hid (Below w.heap.size w v1 ∧ MetaAt v1 w.heap.size t g l s e b1 b2 ∧ IR v1 (w.heap.size + 1) (.int .i64 0) (.int .i64 0)) := ⟨K1.out.1.trans (al.mono K1.out.1.size), K1.out.2.1.keep al, K1.out.2.2.keep al⟩
  have HI : Hid (IR v1 w1.heap.size (.int .i64 0) (.int .i64 a)) := hIR
  clear al hIR K1
  go_upto_region 2 with fail
  rw [← hv1.out]
  clear hv1
  generalize w1.heap.size = B1 at *
  clear w1
  have a0 := HI.out.c0
  have a1 := HI.out.c1
  obtain ⟨c0, c1, c2, c3, c4, c5, c6, _, _⟩ := K2.out.2.1
  go_wp2_with fail
  refine (HPA.out _).mono ?_
  rintro r w2 ⟨rfl, hb2⟩
  clear c0 c1 c2 c3 c4 c5 c6 a0 a1 HI
  have K3 : Hid (Below w.heap.size w w2 ∧ MetaAt w2 w.heap.size t g l s e b1 b2 ∧ IR w2 (w.heap.size + 1) (.int .i64 0) (.int .i64 0)) := ⟨K2.out.1.trans (hb2.mono K2.out.1.size), K2.out.2.1.keep hb2, K2.out.2.2.keep hb2⟩
  clear hb2 K2
  obtain ⟨r0, r1, rf, _⟩ := K3.out.2.2
  have rf0 := rf 0
  have rf1 := rf 1
  clear rf
  go_wp2_with fail
  refine bodyPost_ret (v := .agg #[.int .i64 0, .int .i64 z]) ?_ rfl ⟨rfl, (K3.out.1.setCell (by simp) _).setCell (by simp) _⟩
  simp [results, Try.results13, go_sem, r0, r1]
end Go.Proofs.Ytnbbbmhfmjkhbaa
