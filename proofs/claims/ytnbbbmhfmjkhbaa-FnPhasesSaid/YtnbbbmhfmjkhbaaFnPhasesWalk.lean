/-
  The law of phases, out of contracts.
-/
import Derived.Test.YtnbbbmhfmjkhbaaDraw7A
import Derived.Test.YtnbbbmhfmjkhbaaPhase7
import Derived.Lib.QuietBelow
import Derived.BigQuiet
import Derived.Deep.CutRange
namespace Go.Proofs.Ytnbbbmhfmjkhbaa
open Go.ChangeShapes Go.WideShapes Go.ChangeAt Go.RowKit Go.Sort
namespace phases
set_option maxRecDepth 100000 in
set_option maxHeartbeats 16000000 in
theorem fnPhases_walk (w : World) (a : Option Addr) (len cap : Nat) (hc : CodeRow w w.heap.size a len) :
    Calls Try.prog 3 #[.slice a len cap] w fun e w' => e = .returned (.bool true) ∧ Below w.heap.size w w' := by
  have HC : Hid (CodeRow w w.heap.size a len) := hc
  clear hc
  by_cases hbig : (1048576 : Int) < len
  · go_enter Try.func3, Try.ntmps3
    go_wp2
    go_ret
    exact ⟨rfl, Below.refl _ _⟩
  have hl2 : len ≤ 1048576 := by omega
  go_enter Try.func3, Try.ntmps3
  go_wp2_with (go_at_call 11; go_in)
  refine (drawPhase_any w a len cap HC.out hl2).mono ?_
  rintro r w1 ⟨⟨t, g, l, s, e, b1, b2, n, rfl⟩, hb1⟩
  obtain ⟨v1, hv1⟩ : ∃ X, Hid (X = w1.alloc (.cells #[.int .i64 t, .int .i64 g, .int .i64 l, .int .i64 s, .int .i64 e, .bool b1, .bool b2] 25)) := ⟨_, rfl⟩
  have F1 : Hid (Below w.heap.size w v1 ∧ MetaAt v1 w1.heap.size t g l s e b1 b2) := by
    rw [hv1.out]
    exact ⟨hb1.trans ((Below.refl _ _).alloc hb1.size _), MetaAt.new w1 _ _ _ _ _ _ _ _⟩
  clear hb1
  go_upto_region 4 with fail
  rw [← hv1.out]
  clear hv1
  generalize w1.heap.size = M at *
  clear w1
  have HIP : Hid (∀ W, Calls Try.prog 13 #[.agg #[.int .i64 t, .int .i64 g, .int .i64 l, .int .i64 s, .int .i64 e, .bool b1, .bool b2], .int .i64 n] W fun r w' => r = .returned (.agg #[.int .i64 (askC t g l s e n), .int .i64 (phaseA t g l s e b1 b2 n)]) ∧ Below W.heap.size W w') := implPhase_any t g l s e b1 b2 n
  have HIA : Hid (∀ W, Calls Try.prog 14 #[.agg #[.int .i64 t, .int .i64 g, .int .i64 l, .int .i64 s, .int .i64 e, .bool b1, .bool b2], .int .i64 n] W fun r w' => r = .returned (.agg #[.int .i64 (askC t g l s e n), .int .i64 (ageA t g l s e n)]) ∧ Below W.heap.size W w') := implAge_any t g l s e b1 b2 n
  have HSP : Hid (∀ W, Calls Try.prog 15 #[.agg #[.int .i64 t, .int .i64 g, .int .i64 l, .int .i64 s, .int .i64 e, .bool b1, .bool b2], .int .i64 n] W fun r w' => r = .returned (.agg #[.int .i64 (askC t g l s e n), .int .i64 (phaseA t g l s e b1 b2 n)]) ∧ Below W.heap.size W w') := specPhase_any t g l s e b1 b2 n
  have HSA : Hid (∀ W, Calls Try.prog 16 #[.agg #[.int .i64 t, .int .i64 g, .int .i64 l, .int .i64 s, .int .i64 e, .bool b1, .bool b2], .int .i64 n] W fun r w' => r = .returned (.agg #[.int .i64 (askC t g l s e n), .int .i64 (ageA t g l s e n)]) ∧ Below W.heap.size W w') := specAge_any t g l s e b1 b2 n
  have HIM : Hid (∀ W, Calls Try.prog 17 #[.agg #[.int .i64 t, .int .i64 g, .int .i64 l, .int .i64 s, .int .i64 e, .bool b1, .bool b2]] W fun r w' => r = .returned (.int .i64 (metaC t g l s e)) ∧ Below W.heap.size W w') := implMeta_any t g l s e b1 b2
  have HSM : Hid (∀ W, Calls Try.prog 18 #[.agg #[.int .i64 t, .int .i64 g, .int .i64 l, .int .i64 s, .int .i64 e, .bool b1, .bool b2]] W fun r w' => r = .returned (.int .i64 (metaC t g l s e)) ∧ Below W.heap.size W w') := specMeta_any t g l s e b1 b2
  have HMT : Hid (∀ W, Calls Try.prog 19 #[.agg #[.int .i64 t, .int .i64 g, .int .i64 l, .int .i64 s, .int .i64 e, .bool b1, .bool b2], .int .i64 n, .bool true] W fun r w' => r = .returned (.bool (mayV (phaseA t g l s e b1 b2 n) true)) ∧ Below W.heap.size W w') := implMay_any t g l s e b1 b2 n true
  have HMF : Hid (∀ W, Calls Try.prog 19 #[.agg #[.int .i64 t, .int .i64 g, .int .i64 l, .int .i64 s, .int .i64 e, .bool b1, .bool b2], .int .i64 n, .bool false] W fun r w' => r = .returned (.bool (mayV (phaseA t g l s e b1 b2 n) false)) ∧ Below W.heap.size W w') := implMay_any t g l s e b1 b2 n false
  generalize metaC t g l s e = mc at *
  obtain ⟨c, hcc⟩ : ∃ x, Hid (x = askC t g l s e n) := ⟨_, rfl⟩
  obtain ⟨p, hpp⟩ : ∃ x, Hid (x = phaseA t g l s e b1 b2 n) := ⟨_, rfl⟩
  obtain ⟨ag, hga⟩ : ∃ x, Hid (x = ageA t g l s e n) := ⟨_, rfl⟩
  rw [← hcc.out, ← hpp.out] at HIP HSP
  rw [← hcc.out, ← hga.out] at HIA HSA
  rw [← hpp.out] at HMT HMF
  obtain ⟨c0, c1, c2, c3, c4, c5, c6, _, _⟩ := F1.out.2
  go_wp2_with fail
  refine (HIP.out _).mono ?_
  rintro r w2 ⟨rfl, hb2⟩
  clear c0 c1 c2 c3 c4 c5 c6
  obtain ⟨v2, hv2⟩ : ∃ X, Hid (X = w2.alloc (.cells #[.int .i64 c, .int .i64 p] 29)) := ⟨_, rfl⟩
  have F2 : Hid (Below w.heap.size w v2 ∧ MetaAt v2 M t g l s e b1 b2 ∧ IR v2 w2.heap.size (.int .i64 c) (.int .i64 p)) := by
    have al : Below w2.heap.size w2 (w2.alloc (.cells #[.int .i64 c, .int .i64 p] 29)) := (Below.refl _ _).alloc (Nat.le_refl _) _
    have q := F1.out.1.trans (hb2.mono F1.out.1.size)
    rw [hv2.out]
    exact ⟨q.trans (al.mono q.size), (F1.out.2.keep hb2).keep al, IR.new _ _ _ _⟩
  clear hb2 F1 HIP
  go_upto_region 5 with fail
  rw [← hv2.out]
  clear hv2
  generalize w2.heap.size = P at *
  clear w2
  obtain ⟨c0, c1, c2, c3, c4, c5, c6, _, _⟩ := F2.out.2.1
  go_wp2_with fail
  refine (HIA.out _).mono ?_
  rintro r w3 ⟨rfl, hb3⟩
  clear c0 c1 c2 c3 c4 c5 c6
  obtain ⟨v3, hv3⟩ : ∃ X, Hid (X = w3.alloc (.cells #[.int .i64 c, .int .i64 ag] 29)) := ⟨_, rfl⟩
  have F3 : Hid (Below w.heap.size w v3 ∧ MetaAt v3 M t g l s e b1 b2 ∧ IR v3 P (.int .i64 c) (.int .i64 p) ∧ IR v3 w3.heap.size (.int .i64 c) (.int .i64 ag)) := by
    have al : Below w3.heap.size w3 (w3.alloc (.cells #[.int .i64 c, .int .i64 ag] 29)) := (Below.refl _ _).alloc (Nat.le_refl _) _
    have q := F2.out.1.trans (hb3.mono F2.out.1.size)
    rw [hv3.out]
    exact ⟨q.trans (al.mono q.size), (F2.out.2.1.keep hb3).keep al, (F2.out.2.2.keep hb3).keep al, IR.new _ _ _ _⟩
  clear hb3 F2 HIA
  go_upto_region 6 with fail
  rw [← hv3.out]
  clear hv3
  generalize w3.heap.size = G at *
  clear w3
  go_cut [42] from 24 to 42 (fun s42 wx => s42 = .bool false ∧ Below v3.heap.size v3 wx)
  case first =>
    have hn1 := neqIR
    have hn2 := guardIR
    have q0 := cell_regrown F3.out.2.1.c0
    have q1 := cell_regrown F3.out.2.1.c1
    have q2 := cell_regrown F3.out.2.1.c2
    have q3 := cell_regrown F3.out.2.1.c3
    have q4 := cell_regrown F3.out.2.1.c4
    have q5 := cell_regrown F3.out.2.1.c5
    have q6 := cell_regrown F3.out.2.1.c6
    have q7 := cell_regrown F3.out.2.2.1.c0
    have q8 := cell_regrown F3.out.2.2.1.c1
    have q9 := cell_regrown F3.out.2.2.2.c0
    have q10 := cell_regrown F3.out.2.2.2.c1
    have k0 : ∀ d' os, Calls Try.prog 15 #[.agg #[.int .i64 t, .int .i64 g, .int .i64 l, .int .i64 s, .int .i64 e, .bool b1, .bool b2], .int .i64 n] (grow (redrawn v3 d') os) fun e w'' => e = .returned (.agg #[.int .i64 c, .int .i64 p]) ∧ ∃ p : Regrown, w'' = grow (redrawn v3 p.d) p.os := fun d' os => Calls.regrown_of (HSP.out _)
    have k1 : ∀ d' os, Calls Try.prog 16 #[.agg #[.int .i64 t, .int .i64 g, .int .i64 l, .int .i64 s, .int .i64 e, .bool b1, .bool b2], .int .i64 n] (grow (redrawn v3 d') os) fun e w'' => e = .returned (.agg #[.int .i64 c, .int .i64 ag]) ∧ ∃ p : Regrown, w'' = grow (redrawn v3 p.d) p.os := fun d' os => Calls.regrown_of (HSA.out _)
    have k2 : ∀ d' os, Calls Try.prog 17 #[.agg #[.int .i64 t, .int .i64 g, .int .i64 l, .int .i64 s, .int .i64 e, .bool b1, .bool b2]] (grow (redrawn v3 d') os) fun e w'' => e = .returned (.int .i64 mc) ∧ ∃ p : Regrown, w'' = grow (redrawn v3 p.d) p.os := fun d' os => Calls.regrown_of (HIM.out _)
    have k3 : ∀ d' os, Calls Try.prog 18 #[.agg #[.int .i64 t, .int .i64 g, .int .i64 l, .int .i64 s, .int .i64 e, .bool b1, .bool b2]] (grow (redrawn v3 d') os) fun e w'' => e = .returned (.int .i64 mc) ∧ ∃ p : Regrown, w'' = grow (redrawn v3 p.d) p.os := fun d' os => Calls.regrown_of (HSM.out _)
    refine wp_region_quiet_below (by kernel_rfl) (by kernel_rfl) ?_
    repeat (go_big_quiet_step (first | (go_at_call 15; exact k0 _ _) | (go_at_call 16; exact k1 _ _) | (go_at_call 17; exact k2 _ _) | (go_at_call 18; exact k3 _ _)))
    refine wpQuiet_nil ?_
    intro W2 hW2
    have hbW2 : Hid (Below v3.heap.size v3 W2) := by
      obtain ⟨⟨d, os⟩, rfl⟩ := hW2
      exact below_regrown v3 d os
    clear hW2
    go_wp2_with fail
    go_meet
    exact ⟨rfl, hbW2.out⟩
  case rest =>
  obtain ⟨rfl, hbx⟩ := hcut
  have F4 : Hid (Below w.heap.size w wc ∧ MetaAt wc M t g l s e b1 b2 ∧ IR wc P (.int .i64 c) (.int .i64 p) ∧ IR wc G (.int .i64 c) (.int .i64 ag)) := by
    obtain ⟨f1, f2, f3, f4⟩ := F3.out
    exact ⟨f1.trans (hbx.mono f1.size), f2.keep hbx, f3.keep hbx, f4.keep hbx⟩
  clear hbx F3 HSP HSA HIM HSM
  generalize wc = v4 at *
  have p0 := F4.out.2.2.1.c0
  cases ha : askB t g l s e n
  · have e1 := hcc.out
    rw [askC_bad ha] at e1
    have e2 := hpp.out
    rw [phaseA_bad ha] at e2
    subst e1
    subst e2
    have em : mayV 0 true = false := by simp [mayV]
    rw [em] at HMT
    clear hcc hpp hga HMF ha
    obtain ⟨c0, c1, c2, c3, c4, c5, c6, _, _⟩ := F4.out.2.1
    go_wp2_with fail
    refine (HMT.out _).mono ?_
    rintro r w5 ⟨rfl, hb5⟩
    have HE : Hid (Below w.heap.size w w5) := F4.out.1.trans (hb5.mono F4.out.1.size)
    clear hb5
    go_wp2_with fail
    go_ret
    exact ⟨rfl, HE.out⟩
  have e1 := hcc.out
  rw [askC_ok ha] at e1
  subst e1
  have e2 := hpp.out
  rw [phaseA_ok ha] at e2
  have e3 := hga.out
  rw [ageA_ok ha] at e3
  have HP1 : Hid (p = phaseM t g l s e b1 b2 n) := e2
  have HG1 : Hid (ag = ageM t g n) := e3
  have HASK : Hid (askB t g l s e n = true) := ha
  clear hcc hpp hga e2 e3 ha
  go_wp2_with fail
  refine (lwAt_any _ w.heap.size a len cap (HC.out.below F4.out.1) hl2).mono ?_
  rintro r w5 ⟨⟨x, x0, x1, rfl⟩, hb5⟩
  have F5 : Hid (Below w.heap.size w w5 ∧ MetaAt w5 M t g l s e b1 b2 ∧ IR w5 P (.int .i64 0) (.int .i64 p) ∧ IR w5 G (.int .i64 0) (.int .i64 ag)) := by
    obtain ⟨f1, f2, f3, f4⟩ := F4.out
    exact ⟨f1.trans (hb5.mono f1.size), f2.keep hb5, f3.keep hb5, f4.keep hb5⟩
  clear hb5 F4 p0
  obtain ⟨hnt, hxt⟩ : (0 ≤ n ∧ n ≤ 1000000000000000) ∧ (0 ≤ x ∧ x ≤ 1000000000000000) := ⟨(askB_of HASK.out).2.1, by omega⟩
  have HAD : Hid (∀ W, Calls Try.prog 20 #[.int .i64 n, .int .i64 x] W fun r w' => r = .returned (.agg #[.int .i64 0, .int .i64 (addT n x)]) ∧ Below W.heap.size W w') := implAdd_all n x hnt hxt
  have HLT : Hid (askB t g l s e (addT n x) = true ∧ n ≤ addT n x) := later_ok HASK.out x0
  generalize addT n x = ln at *
  clear hnt hxt x0 x1
  have hfv := ifieldV
  go_wp2_with fail
  refine (HAD.out _).mono ?_
  rintro r w6 ⟨rfl, hb6⟩
  have F6 : Hid (Below w.heap.size w w6 ∧ MetaAt w6 M t g l s e b1 b2 ∧ IR w6 P (.int .i64 0) (.int .i64 p) ∧ IR w6 G (.int .i64 0) (.int .i64 ag)) := by
    obtain ⟨f1, f2, f3, f4⟩ := F5.out
    exact ⟨f1.trans (hb6.mono f1.size), f2.keep hb6, f3.keep hb6, f4.keep hb6⟩
  clear hb6 F5 HAD
  have HLP : Hid (∀ W, Calls Try.prog 13 #[.agg #[.int .i64 t, .int .i64 g, .int .i64 l, .int .i64 s, .int .i64 e, .bool b1, .bool b2], .int .i64 ln] W fun r w' => r = .returned (.agg #[.int .i64 0, .int .i64 (phaseM t g l s e b1 b2 ln)]) ∧ Below W.heap.size W w') := fun W => by
    have := implPhase_any t g l s e b1 b2 ln W
    rwa [askC_ok HLT.out.1, phaseA_ok HLT.out.1] at this
  have HLA : Hid (∀ W, Calls Try.prog 14 #[.agg #[.int .i64 t, .int .i64 g, .int .i64 l, .int .i64 s, .int .i64 e, .bool b1, .bool b2], .int .i64 ln] W fun r w' => r = .returned (.agg #[.int .i64 0, .int .i64 (ageM t g ln)]) ∧ Below W.heap.size W w') := fun W => by
    have := implAge_any t g l s e b1 b2 ln W
    rwa [askC_ok HLT.out.1, ageA_ok HLT.out.1] at this
  have HLM : Hid (∀ W, Calls Try.prog 19 #[.agg #[.int .i64 t, .int .i64 g, .int .i64 l, .int .i64 s, .int .i64 e, .bool b1, .bool b2], .int .i64 ln, .bool true] W fun r w' => r = .returned (.bool (mayV (phaseM t g l s e b1 b2 ln) true)) ∧ Below W.heap.size W w') := fun W => by
    have := implMay_any t g l s e b1 b2 ln true W
    rwa [phaseA_ok HLT.out.1] at this
  have HSO : Hid (∀ W, Calls Try.prog 13 #[.agg #[.int .i64 t, .int .i64 g, .int .i64 l, .int .i64 s, .int .i64 e, .bool true, .bool b2], .int .i64 n] W fun r w' => r = .returned (.agg #[.int .i64 0, .int .i64 (phaseA t g l s e true b2 n)]) ∧ Below W.heap.size W w') := fun W => by
    have := implPhase_any t g l s e true b2 n W
    rwa [askC_ok HASK.out] at this
  have HSN : Hid (phaseA t g l s e true b2 n ≠ 1) := soft_not HASK.out
  have HAM : Hid (¬ ageM t g ln < ag) := by show ¬ _; rw [HG1.out]; have := ageM_mono (t := t) (g := g) HLT.out.2; omega
  have HFB : Hid (phaseM t g l s e b1 b2 ln = 1 → p = 1) := fun k => by rw [HP1.out]; exact fresh_back HLT.out.2 k
  have HMB : Hid (mayV (phaseM t g l s e b1 b2 ln) true = true → mayV p true = true) := fun k => by rw [HP1.out]; exact may_back HLT.out.2 k
  have HMM : Hid (mayV p false = true → mayV p true = true) := may_mono
  have HFM : Hid (p = 1 → mayV p false = true) := fresh_may
  generalize phaseA t g l s e true b2 n = ps at *
  generalize ageM t g ln = a1 at *
  generalize mayV (phaseM t g l s e b1 b2 ln) true = z1 at *
  generalize phaseM t g l s e b1 b2 ln = p1 at *
  generalize mayV p true = z2 at *
  generalize mayV p false = z3 at *
  clear HP1 HG1 HASK HLT HC
  obtain ⟨c0, c1, c2, c3, c4, c5, c6, _, _⟩ := F6.out.2.1
  go_wp2_with fail
  refine (HLP.out _).mono ?_
  rintro r w7 ⟨rfl, hb7⟩
  clear c0 c1 c2 c3 c4 c5 c6
  obtain ⟨v7, hv7⟩ : ∃ X, Hid (X = w7.alloc (.cells #[.int .i64 0, .int .i64 p1] 29)) := ⟨_, rfl⟩
  have F7 : Hid (Below w.heap.size w v7 ∧ MetaAt v7 M t g l s e b1 b2 ∧ IR v7 P (.int .i64 0) (.int .i64 p) ∧ IR v7 G (.int .i64 0) (.int .i64 ag) ∧ IR v7 w7.heap.size (.int .i64 0) (.int .i64 p1)) := by
    have al : Below w7.heap.size w7 (w7.alloc (.cells #[.int .i64 0, .int .i64 p1] 29)) := (Below.refl _ _).alloc (Nat.le_refl _) _
    obtain ⟨f1, f2, f3, f4⟩ := F6.out
    have q := f1.trans (hb7.mono f1.size)
    rw [hv7.out]
    exact ⟨q.trans (al.mono q.size), (f2.keep hb7).keep al, (f3.keep hb7).keep al, (f4.keep hb7).keep al, IR.new _ _ _ _⟩
  clear hb7 F6 HLP
  go_upto_region 12 with fail
  rw [← hv7.out]
  clear hv7
  generalize w7.heap.size = P1 at *
  clear w7
  obtain ⟨c0, c1, c2, c3, c4, c5, c6, _, _⟩ := F7.out.2.1
  go_wp2_with fail
  refine (HLA.out _).mono ?_
  rintro r w8 ⟨rfl, hb8⟩
  clear c0 c1 c2 c3 c4 c5 c6
  obtain ⟨v8, hv8⟩ : ∃ X, Hid (X = w8.alloc (.cells #[.int .i64 0, .int .i64 a1] 29)) := ⟨_, rfl⟩
  have F8 : Hid (Below w.heap.size w v8 ∧ MetaAt v8 M t g l s e b1 b2 ∧ IR v8 P (.int .i64 0) (.int .i64 p) ∧ IR v8 G (.int .i64 0) (.int .i64 ag) ∧ IR v8 P1 (.int .i64 0) (.int .i64 p1) ∧ IR v8 w8.heap.size (.int .i64 0) (.int .i64 a1)) := by
    have al : Below w8.heap.size w8 (w8.alloc (.cells #[.int .i64 0, .int .i64 a1] 29)) := (Below.refl _ _).alloc (Nat.le_refl _) _
    obtain ⟨f1, f2, f3, f4, f5⟩ := F7.out
    have q := f1.trans (hb8.mono f1.size)
    rw [hv8.out]
    exact ⟨q.trans (al.mono q.size), (f2.keep hb8).keep al, (f3.keep hb8).keep al, (f4.keep hb8).keep al, (f5.keep hb8).keep al, IR.new _ _ _ _⟩
  clear hb8 F7 HLA
  go_upto_region 13 with fail
  rw [← hv8.out]
  clear hv8
  generalize w8.heap.size = G1 at *
  clear w8
  go_cut [80] from 61 to 80 (fun s80 wx => s80 = .bool false ∧ wx = v8)
  case first =>
    have r0 := F8.out.2.2.2.2.1.c0
    have r1 := F8.out.2.2.2.2.1.c1
    have r2 := F8.out.2.2.2.2.2.c1
    have r3 := F8.out.2.2.2.1.c1
    have r4 := F8.out.2.2.1.c1
    have d1 : decide (a1 < ag) = false := by have := HAM.out; simp; omega
    have d2 : ¬ a1 < ag := by have := HAM.out; omega
    by_cases k1 : p1 = 1
    · have k2 := HFB.out k1
      subst k1
      subst k2
      go_wp2_with fail
      go_meet
      exact ⟨rfl, rfl⟩
    · have d3 : (p1 == 1) = false := by simpa using k1
      clear k1
      go_wp2_with fail
      go_meet
      exact ⟨rfl, rfl⟩
  case rest =>
  obtain ⟨rfl, rfl⟩ := hcut
  have F9 : Hid (Below w.heap.size w wc ∧ MetaAt wc M t g l s e b1 b2 ∧ IR wc P (.int .i64 0) (.int .i64 p)) := ⟨F8.out.1, F8.out.2.1, F8.out.2.2.1⟩
  clear F8 HAM HFB
  generalize wc = v9 at *
  obtain ⟨v10, hv10⟩ : ∃ X, Hid (X = v9.alloc (.cells #[.int .i64 t, .int .i64 g, .int .i64 l, .int .i64 s, .int .i64 e, .bool b1, .bool b2] 25)) := ⟨_, rfl⟩
  have F10 : Hid (Below w.heap.size w v10 ∧ MetaAt v10 M t g l s e b1 b2 ∧ IR v10 P (.int .i64 0) (.int .i64 p) ∧ MetaAt v10 v9.heap.size t g l s e b1 b2) := by
    have al : Below v9.heap.size v9 (v9.alloc (.cells #[.int .i64 t, .int .i64 g, .int .i64 l, .int .i64 s, .int .i64 e, .bool b1, .bool b2] 25)) := (Below.refl _ _).alloc (Nat.le_refl _) _
    obtain ⟨f1, f2, f3⟩ := F9.out
    rw [hv10.out]
    exact ⟨f1.trans (al.mono f1.size), f2.keep al, f3.keep al, MetaAt.new _ _ _ _ _ _ _ _ _⟩
  have hMS : M < v9.heap.size := F9.out.2.1.lt
  have hPS : P < v9.heap.size := F9.out.2.2.lt
  have hwS : w.heap.size ≤ v9.heap.size := F9.out.1.size
  obtain ⟨c0, c1, c2, c3, c4, c5, c6, _, _⟩ := F9.out.2.1
  go_upto_region 16 with fail
  rw [← hv10.out]
  clear hv10 c0 c1 c2 c3 c4 c5 c6 F9
  generalize v9.heap.size = S at *
  try clear v9
  obtain ⟨v11, hv11⟩ : ∃ X, Hid (X = v10.setCell ⟨S, 5, none⟩ (.bool true)) := ⟨_, rfl⟩
  have F11 : Hid (Below w.heap.size w v11 ∧ MetaAt v11 M t g l s e b1 b2 ∧ IR v11 P (.int .i64 0) (.int .i64 p) ∧ MetaAt v11 S t g l s e true b2) := by
    obtain ⟨f1, f2, f3, f4⟩ := F10.out
    rw [hv11.out]
    refine ⟨f1.setCell (p := ⟨S, 5, none⟩) hwS _, f2.off (by omega), ?_, f4.set5 _⟩
    have ne : ∀ o' : Nat, (⟨S, 5, none⟩ : Addr) ≠ ⟨P, o', none⟩ := fun o' q => by have := congrArg Addr.block q; simp at this; omega
    exact ⟨by rw [World.cell?_setCell_other _ _ _ _ (ne _)]; exact f3.c0, by rw [World.cell?_setCell_other _ _ _ _ (ne _)]; exact f3.c1, fun o' => by rw [World.frozen?_setCell]; exact f3.fr o', by simpa using f3.lt⟩
  have s5 := F10.out.2.2.2.c5
  have sf := F10.out.2.2.2.fr 5
  go_upto_region 17 with fail
  rw [← hv11.out]
  clear hv11 s5 sf F10 hwS
  try clear v10
  have dps : (ps != 1) = true := by have := HSN.out; simpa using this
  cases z1
  · skip
    cases z3
    · have kp : p ≠ 1 := fun k => by have := HFM.out k; cases this
      have dp : (p != 1) = true := by simpa using kp
      clear kp HFM HMM
      clear HMB
      obtain ⟨c0, c1, c2, c3, c4, c5, c6, _, _⟩ := F11.out.2.1
      obtain ⟨u0, u1, u2, u3, u4, u5, u6, _, _⟩ := F11.out.2.2.2
      have r1 := F11.out.2.2.1.c1
      go_wp2_with fail
      refine (HLM.out _).mono ?_
      rintro r x0 ⟨rfl, hx0⟩
      have X0 : Hid (Below w.heap.size w x0 ∧ MetaAt x0 M t g l s e b1 b2 ∧ IR x0 P (.int .i64 0) (.int .i64 p) ∧ MetaAt x0 S t g l s e true b2) := by
        obtain ⟨f1, f2, f3, f4⟩ := F11.out
        exact ⟨f1.trans (hx0.mono f1.size), f2.keep hx0, f3.keep hx0, f4.keep hx0⟩
      clear hx0 F11 c0 c1 c2 c3 c4 c5 c6 u0 u1 u2 u3 u4 u5 u6 r1
      obtain ⟨c0, c1, c2, c3, c4, c5, c6, _, _⟩ := X0.out.2.1
      obtain ⟨u0, u1, u2, u3, u4, u5, u6, _, _⟩ := X0.out.2.2.2
      have r1 := X0.out.2.2.1.c1
      go_wp2_with fail
      refine (HMF.out _).mono ?_
      rintro r x1 ⟨rfl, hx1⟩
      have X1 : Hid (Below w.heap.size w x1 ∧ MetaAt x1 M t g l s e b1 b2 ∧ IR x1 P (.int .i64 0) (.int .i64 p) ∧ MetaAt x1 S t g l s e true b2) := by
        obtain ⟨f1, f2, f3, f4⟩ := X0.out
        exact ⟨f1.trans (hx1.mono f1.size), f2.keep hx1, f3.keep hx1, f4.keep hx1⟩
      clear hx1 X0 c0 c1 c2 c3 c4 c5 c6 u0 u1 u2 u3 u4 u5 u6 r1
      obtain ⟨c0, c1, c2, c3, c4, c5, c6, _, _⟩ := X1.out.2.1
      obtain ⟨u0, u1, u2, u3, u4, u5, u6, _, _⟩ := X1.out.2.2.2
      have r1 := X1.out.2.2.1.c1
      go_wp2_with fail
      refine (HSO.out _).mono ?_
      rintro r x2 ⟨rfl, hx2⟩
      have X2 : Hid (Below w.heap.size w x2 ∧ MetaAt x2 M t g l s e b1 b2 ∧ IR x2 P (.int .i64 0) (.int .i64 p) ∧ MetaAt x2 S t g l s e true b2) := by
        obtain ⟨f1, f2, f3, f4⟩ := X1.out
        exact ⟨f1.trans (hx2.mono f1.size), f2.keep hx2, f3.keep hx2, f4.keep hx2⟩
      clear hx2 X1 c0 c1 c2 c3 c4 c5 c6 u0 u1 u2 u3 u4 u5 u6 r1
      have r1 := X2.out.2.2.1.c1
      go_wp2_with fail
      go_ret
      exact ⟨rfl, X2.out.1⟩
    · obtain rfl : z2 = true := HMM.out rfl
      clear HMM HMB
      by_cases kp : p = 1
      · subst kp
        clear HFM
        obtain ⟨c0, c1, c2, c3, c4, c5, c6, _, _⟩ := F11.out.2.1
        obtain ⟨u0, u1, u2, u3, u4, u5, u6, _, _⟩ := F11.out.2.2.2
        have r1 := F11.out.2.2.1.c1
        go_wp2_with fail
        refine (HLM.out _).mono ?_
        rintro r x0 ⟨rfl, hx0⟩
        have X0 : Hid (Below w.heap.size w x0 ∧ MetaAt x0 M t g l s e b1 b2 ∧ IR x0 P (.int .i64 0) (.int .i64 1) ∧ MetaAt x0 S t g l s e true b2) := by
          obtain ⟨f1, f2, f3, f4⟩ := F11.out
          exact ⟨f1.trans (hx0.mono f1.size), f2.keep hx0, f3.keep hx0, f4.keep hx0⟩
        clear hx0 F11 c0 c1 c2 c3 c4 c5 c6 u0 u1 u2 u3 u4 u5 u6 r1
        obtain ⟨c0, c1, c2, c3, c4, c5, c6, _, _⟩ := X0.out.2.1
        obtain ⟨u0, u1, u2, u3, u4, u5, u6, _, _⟩ := X0.out.2.2.2
        have r1 := X0.out.2.2.1.c1
        go_wp2_with fail
        refine (HMF.out _).mono ?_
        rintro r x1 ⟨rfl, hx1⟩
        have X1 : Hid (Below w.heap.size w x1 ∧ MetaAt x1 M t g l s e b1 b2 ∧ IR x1 P (.int .i64 0) (.int .i64 1) ∧ MetaAt x1 S t g l s e true b2) := by
          obtain ⟨f1, f2, f3, f4⟩ := X0.out
          exact ⟨f1.trans (hx1.mono f1.size), f2.keep hx1, f3.keep hx1, f4.keep hx1⟩
        clear hx1 X0 c0 c1 c2 c3 c4 c5 c6 u0 u1 u2 u3 u4 u5 u6 r1
        obtain ⟨c0, c1, c2, c3, c4, c5, c6, _, _⟩ := X1.out.2.1
        obtain ⟨u0, u1, u2, u3, u4, u5, u6, _, _⟩ := X1.out.2.2.2
        have r1 := X1.out.2.2.1.c1
        go_wp2_with fail
        refine (HMT.out _).mono ?_
        rintro r x2 ⟨rfl, hx2⟩
        have X2 : Hid (Below w.heap.size w x2 ∧ MetaAt x2 M t g l s e b1 b2 ∧ IR x2 P (.int .i64 0) (.int .i64 1) ∧ MetaAt x2 S t g l s e true b2) := by
          obtain ⟨f1, f2, f3, f4⟩ := X1.out
          exact ⟨f1.trans (hx2.mono f1.size), f2.keep hx2, f3.keep hx2, f4.keep hx2⟩
        clear hx2 X1 c0 c1 c2 c3 c4 c5 c6 u0 u1 u2 u3 u4 u5 u6 r1
        obtain ⟨c0, c1, c2, c3, c4, c5, c6, _, _⟩ := X2.out.2.1
        obtain ⟨u0, u1, u2, u3, u4, u5, u6, _, _⟩ := X2.out.2.2.2
        have r1 := X2.out.2.2.1.c1
        go_wp2_with fail
        refine (HSO.out _).mono ?_
        rintro r x3 ⟨rfl, hx3⟩
        have X3 : Hid (Below w.heap.size w x3 ∧ MetaAt x3 M t g l s e b1 b2 ∧ IR x3 P (.int .i64 0) (.int .i64 1) ∧ MetaAt x3 S t g l s e true b2) := by
          obtain ⟨f1, f2, f3, f4⟩ := X2.out
          exact ⟨f1.trans (hx3.mono f1.size), f2.keep hx3, f3.keep hx3, f4.keep hx3⟩
        clear hx3 X2 c0 c1 c2 c3 c4 c5 c6 u0 u1 u2 u3 u4 u5 u6 r1
        obtain ⟨c0, c1, c2, c3, c4, c5, c6, _, _⟩ := X3.out.2.1
        obtain ⟨u0, u1, u2, u3, u4, u5, u6, _, _⟩ := X3.out.2.2.2
        have r1 := X3.out.2.2.1.c1
        go_wp2_with fail
        refine (HMF.out _).mono ?_
        rintro r x4 ⟨rfl, hx4⟩
        have X4 : Hid (Below w.heap.size w x4 ∧ MetaAt x4 M t g l s e b1 b2 ∧ IR x4 P (.int .i64 0) (.int .i64 1) ∧ MetaAt x4 S t g l s e true b2) := by
          obtain ⟨f1, f2, f3, f4⟩ := X3.out
          exact ⟨f1.trans (hx4.mono f1.size), f2.keep hx4, f3.keep hx4, f4.keep hx4⟩
        clear hx4 X3 c0 c1 c2 c3 c4 c5 c6 u0 u1 u2 u3 u4 u5 u6 r1
        have r1 := X4.out.2.2.1.c1
        go_wp2_with fail
        go_ret
        exact ⟨rfl, X4.out.1⟩
      · have dp : (p != 1) = true := by simpa using kp
        clear kp HFM
        obtain ⟨c0, c1, c2, c3, c4, c5, c6, _, _⟩ := F11.out.2.1
        obtain ⟨u0, u1, u2, u3, u4, u5, u6, _, _⟩ := F11.out.2.2.2
        have r1 := F11.out.2.2.1.c1
        go_wp2_with fail
        refine (HLM.out _).mono ?_
        rintro r x0 ⟨rfl, hx0⟩
        have X0 : Hid (Below w.heap.size w x0 ∧ MetaAt x0 M t g l s e b1 b2 ∧ IR x0 P (.int .i64 0) (.int .i64 p) ∧ MetaAt x0 S t g l s e true b2) := by
          obtain ⟨f1, f2, f3, f4⟩ := F11.out
          exact ⟨f1.trans (hx0.mono f1.size), f2.keep hx0, f3.keep hx0, f4.keep hx0⟩
        clear hx0 F11 c0 c1 c2 c3 c4 c5 c6 u0 u1 u2 u3 u4 u5 u6 r1
        obtain ⟨c0, c1, c2, c3, c4, c5, c6, _, _⟩ := X0.out.2.1
        obtain ⟨u0, u1, u2, u3, u4, u5, u6, _, _⟩ := X0.out.2.2.2
        have r1 := X0.out.2.2.1.c1
        go_wp2_with fail
        refine (HMF.out _).mono ?_
        rintro r x1 ⟨rfl, hx1⟩
        have X1 : Hid (Below w.heap.size w x1 ∧ MetaAt x1 M t g l s e b1 b2 ∧ IR x1 P (.int .i64 0) (.int .i64 p) ∧ MetaAt x1 S t g l s e true b2) := by
          obtain ⟨f1, f2, f3, f4⟩ := X0.out
          exact ⟨f1.trans (hx1.mono f1.size), f2.keep hx1, f3.keep hx1, f4.keep hx1⟩
        clear hx1 X0 c0 c1 c2 c3 c4 c5 c6 u0 u1 u2 u3 u4 u5 u6 r1
        obtain ⟨c0, c1, c2, c3, c4, c5, c6, _, _⟩ := X1.out.2.1
        obtain ⟨u0, u1, u2, u3, u4, u5, u6, _, _⟩ := X1.out.2.2.2
        have r1 := X1.out.2.2.1.c1
        go_wp2_with fail
        refine (HMT.out _).mono ?_
        rintro r x2 ⟨rfl, hx2⟩
        have X2 : Hid (Below w.heap.size w x2 ∧ MetaAt x2 M t g l s e b1 b2 ∧ IR x2 P (.int .i64 0) (.int .i64 p) ∧ MetaAt x2 S t g l s e true b2) := by
          obtain ⟨f1, f2, f3, f4⟩ := X1.out
          exact ⟨f1.trans (hx2.mono f1.size), f2.keep hx2, f3.keep hx2, f4.keep hx2⟩
        clear hx2 X1 c0 c1 c2 c3 c4 c5 c6 u0 u1 u2 u3 u4 u5 u6 r1
        obtain ⟨c0, c1, c2, c3, c4, c5, c6, _, _⟩ := X2.out.2.1
        obtain ⟨u0, u1, u2, u3, u4, u5, u6, _, _⟩ := X2.out.2.2.2
        have r1 := X2.out.2.2.1.c1
        go_wp2_with fail
        refine (HSO.out _).mono ?_
        rintro r x3 ⟨rfl, hx3⟩
        have X3 : Hid (Below w.heap.size w x3 ∧ MetaAt x3 M t g l s e b1 b2 ∧ IR x3 P (.int .i64 0) (.int .i64 p) ∧ MetaAt x3 S t g l s e true b2) := by
          obtain ⟨f1, f2, f3, f4⟩ := X2.out
          exact ⟨f1.trans (hx3.mono f1.size), f2.keep hx3, f3.keep hx3, f4.keep hx3⟩
        clear hx3 X2 c0 c1 c2 c3 c4 c5 c6 u0 u1 u2 u3 u4 u5 u6 r1
        have r1 := X3.out.2.2.1.c1
        go_wp2_with fail
        go_ret
        exact ⟨rfl, X3.out.1⟩
  · skip
    cases z3
    · have kp : p ≠ 1 := fun k => by have := HFM.out k; cases this
      have dp : (p != 1) = true := by simpa using kp
      clear kp HFM HMM
      obtain rfl : z2 = true := HMB.out rfl
      clear HMB
      obtain ⟨c0, c1, c2, c3, c4, c5, c6, _, _⟩ := F11.out.2.1
      obtain ⟨u0, u1, u2, u3, u4, u5, u6, _, _⟩ := F11.out.2.2.2
      have r1 := F11.out.2.2.1.c1
      go_wp2_with fail
      refine (HLM.out _).mono ?_
      rintro r x0 ⟨rfl, hx0⟩
      have X0 : Hid (Below w.heap.size w x0 ∧ MetaAt x0 M t g l s e b1 b2 ∧ IR x0 P (.int .i64 0) (.int .i64 p) ∧ MetaAt x0 S t g l s e true b2) := by
        obtain ⟨f1, f2, f3, f4⟩ := F11.out
        exact ⟨f1.trans (hx0.mono f1.size), f2.keep hx0, f3.keep hx0, f4.keep hx0⟩
      clear hx0 F11 c0 c1 c2 c3 c4 c5 c6 u0 u1 u2 u3 u4 u5 u6 r1
      obtain ⟨c0, c1, c2, c3, c4, c5, c6, _, _⟩ := X0.out.2.1
      obtain ⟨u0, u1, u2, u3, u4, u5, u6, _, _⟩ := X0.out.2.2.2
      have r1 := X0.out.2.2.1.c1
      go_wp2_with fail
      refine (HMT.out _).mono ?_
      rintro r x1 ⟨rfl, hx1⟩
      have X1 : Hid (Below w.heap.size w x1 ∧ MetaAt x1 M t g l s e b1 b2 ∧ IR x1 P (.int .i64 0) (.int .i64 p) ∧ MetaAt x1 S t g l s e true b2) := by
        obtain ⟨f1, f2, f3, f4⟩ := X0.out
        exact ⟨f1.trans (hx1.mono f1.size), f2.keep hx1, f3.keep hx1, f4.keep hx1⟩
      clear hx1 X0 c0 c1 c2 c3 c4 c5 c6 u0 u1 u2 u3 u4 u5 u6 r1
      obtain ⟨c0, c1, c2, c3, c4, c5, c6, _, _⟩ := X1.out.2.1
      obtain ⟨u0, u1, u2, u3, u4, u5, u6, _, _⟩ := X1.out.2.2.2
      have r1 := X1.out.2.2.1.c1
      go_wp2_with fail
      refine (HMF.out _).mono ?_
      rintro r x2 ⟨rfl, hx2⟩
      have X2 : Hid (Below w.heap.size w x2 ∧ MetaAt x2 M t g l s e b1 b2 ∧ IR x2 P (.int .i64 0) (.int .i64 p) ∧ MetaAt x2 S t g l s e true b2) := by
        obtain ⟨f1, f2, f3, f4⟩ := X1.out
        exact ⟨f1.trans (hx2.mono f1.size), f2.keep hx2, f3.keep hx2, f4.keep hx2⟩
      clear hx2 X1 c0 c1 c2 c3 c4 c5 c6 u0 u1 u2 u3 u4 u5 u6 r1
      obtain ⟨c0, c1, c2, c3, c4, c5, c6, _, _⟩ := X2.out.2.1
      obtain ⟨u0, u1, u2, u3, u4, u5, u6, _, _⟩ := X2.out.2.2.2
      have r1 := X2.out.2.2.1.c1
      go_wp2_with fail
      refine (HSO.out _).mono ?_
      rintro r x3 ⟨rfl, hx3⟩
      have X3 : Hid (Below w.heap.size w x3 ∧ MetaAt x3 M t g l s e b1 b2 ∧ IR x3 P (.int .i64 0) (.int .i64 p) ∧ MetaAt x3 S t g l s e true b2) := by
        obtain ⟨f1, f2, f3, f4⟩ := X2.out
        exact ⟨f1.trans (hx3.mono f1.size), f2.keep hx3, f3.keep hx3, f4.keep hx3⟩
      clear hx3 X2 c0 c1 c2 c3 c4 c5 c6 u0 u1 u2 u3 u4 u5 u6 r1
      have r1 := X3.out.2.2.1.c1
      go_wp2_with fail
      go_ret
      exact ⟨rfl, X3.out.1⟩
    · obtain rfl : z2 = true := HMM.out rfl
      clear HMM HMB
      by_cases kp : p = 1
      · subst kp
        clear HFM
        obtain ⟨c0, c1, c2, c3, c4, c5, c6, _, _⟩ := F11.out.2.1
        obtain ⟨u0, u1, u2, u3, u4, u5, u6, _, _⟩ := F11.out.2.2.2
        have r1 := F11.out.2.2.1.c1
        go_wp2_with fail
        refine (HLM.out _).mono ?_
        rintro r x0 ⟨rfl, hx0⟩
        have X0 : Hid (Below w.heap.size w x0 ∧ MetaAt x0 M t g l s e b1 b2 ∧ IR x0 P (.int .i64 0) (.int .i64 1) ∧ MetaAt x0 S t g l s e true b2) := by
          obtain ⟨f1, f2, f3, f4⟩ := F11.out
          exact ⟨f1.trans (hx0.mono f1.size), f2.keep hx0, f3.keep hx0, f4.keep hx0⟩
        clear hx0 F11 c0 c1 c2 c3 c4 c5 c6 u0 u1 u2 u3 u4 u5 u6 r1
        obtain ⟨c0, c1, c2, c3, c4, c5, c6, _, _⟩ := X0.out.2.1
        obtain ⟨u0, u1, u2, u3, u4, u5, u6, _, _⟩ := X0.out.2.2.2
        have r1 := X0.out.2.2.1.c1
        go_wp2_with fail
        refine (HMT.out _).mono ?_
        rintro r x1 ⟨rfl, hx1⟩
        have X1 : Hid (Below w.heap.size w x1 ∧ MetaAt x1 M t g l s e b1 b2 ∧ IR x1 P (.int .i64 0) (.int .i64 1) ∧ MetaAt x1 S t g l s e true b2) := by
          obtain ⟨f1, f2, f3, f4⟩ := X0.out
          exact ⟨f1.trans (hx1.mono f1.size), f2.keep hx1, f3.keep hx1, f4.keep hx1⟩
        clear hx1 X0 c0 c1 c2 c3 c4 c5 c6 u0 u1 u2 u3 u4 u5 u6 r1
        obtain ⟨c0, c1, c2, c3, c4, c5, c6, _, _⟩ := X1.out.2.1
        obtain ⟨u0, u1, u2, u3, u4, u5, u6, _, _⟩ := X1.out.2.2.2
        have r1 := X1.out.2.2.1.c1
        go_wp2_with fail
        refine (HMF.out _).mono ?_
        rintro r x2 ⟨rfl, hx2⟩
        have X2 : Hid (Below w.heap.size w x2 ∧ MetaAt x2 M t g l s e b1 b2 ∧ IR x2 P (.int .i64 0) (.int .i64 1) ∧ MetaAt x2 S t g l s e true b2) := by
          obtain ⟨f1, f2, f3, f4⟩ := X1.out
          exact ⟨f1.trans (hx2.mono f1.size), f2.keep hx2, f3.keep hx2, f4.keep hx2⟩
        clear hx2 X1 c0 c1 c2 c3 c4 c5 c6 u0 u1 u2 u3 u4 u5 u6 r1
        obtain ⟨c0, c1, c2, c3, c4, c5, c6, _, _⟩ := X2.out.2.1
        obtain ⟨u0, u1, u2, u3, u4, u5, u6, _, _⟩ := X2.out.2.2.2
        have r1 := X2.out.2.2.1.c1
        go_wp2_with fail
        refine (HMT.out _).mono ?_
        rintro r x3 ⟨rfl, hx3⟩
        have X3 : Hid (Below w.heap.size w x3 ∧ MetaAt x3 M t g l s e b1 b2 ∧ IR x3 P (.int .i64 0) (.int .i64 1) ∧ MetaAt x3 S t g l s e true b2) := by
          obtain ⟨f1, f2, f3, f4⟩ := X2.out
          exact ⟨f1.trans (hx3.mono f1.size), f2.keep hx3, f3.keep hx3, f4.keep hx3⟩
        clear hx3 X2 c0 c1 c2 c3 c4 c5 c6 u0 u1 u2 u3 u4 u5 u6 r1
        obtain ⟨c0, c1, c2, c3, c4, c5, c6, _, _⟩ := X3.out.2.1
        obtain ⟨u0, u1, u2, u3, u4, u5, u6, _, _⟩ := X3.out.2.2.2
        have r1 := X3.out.2.2.1.c1
        go_wp2_with fail
        refine (HSO.out _).mono ?_
        rintro r x4 ⟨rfl, hx4⟩
        have X4 : Hid (Below w.heap.size w x4 ∧ MetaAt x4 M t g l s e b1 b2 ∧ IR x4 P (.int .i64 0) (.int .i64 1) ∧ MetaAt x4 S t g l s e true b2) := by
          obtain ⟨f1, f2, f3, f4⟩ := X3.out
          exact ⟨f1.trans (hx4.mono f1.size), f2.keep hx4, f3.keep hx4, f4.keep hx4⟩
        clear hx4 X3 c0 c1 c2 c3 c4 c5 c6 u0 u1 u2 u3 u4 u5 u6 r1
        obtain ⟨c0, c1, c2, c3, c4, c5, c6, _, _⟩ := X4.out.2.1
        obtain ⟨u0, u1, u2, u3, u4, u5, u6, _, _⟩ := X4.out.2.2.2
        have r1 := X4.out.2.2.1.c1
        go_wp2_with fail
        refine (HMF.out _).mono ?_
        rintro r x5 ⟨rfl, hx5⟩
        have X5 : Hid (Below w.heap.size w x5 ∧ MetaAt x5 M t g l s e b1 b2 ∧ IR x5 P (.int .i64 0) (.int .i64 1) ∧ MetaAt x5 S t g l s e true b2) := by
          obtain ⟨f1, f2, f3, f4⟩ := X4.out
          exact ⟨f1.trans (hx5.mono f1.size), f2.keep hx5, f3.keep hx5, f4.keep hx5⟩
        clear hx5 X4 c0 c1 c2 c3 c4 c5 c6 u0 u1 u2 u3 u4 u5 u6 r1
        have r1 := X5.out.2.2.1.c1
        go_wp2_with fail
        go_ret
        exact ⟨rfl, X5.out.1⟩
      · have dp : (p != 1) = true := by simpa using kp
        clear kp HFM
        obtain ⟨c0, c1, c2, c3, c4, c5, c6, _, _⟩ := F11.out.2.1
        obtain ⟨u0, u1, u2, u3, u4, u5, u6, _, _⟩ := F11.out.2.2.2
        have r1 := F11.out.2.2.1.c1
        go_wp2_with fail
        refine (HLM.out _).mono ?_
        rintro r x0 ⟨rfl, hx0⟩
        have X0 : Hid (Below w.heap.size w x0 ∧ MetaAt x0 M t g l s e b1 b2 ∧ IR x0 P (.int .i64 0) (.int .i64 p) ∧ MetaAt x0 S t g l s e true b2) := by
          obtain ⟨f1, f2, f3, f4⟩ := F11.out
          exact ⟨f1.trans (hx0.mono f1.size), f2.keep hx0, f3.keep hx0, f4.keep hx0⟩
        clear hx0 F11 c0 c1 c2 c3 c4 c5 c6 u0 u1 u2 u3 u4 u5 u6 r1
        obtain ⟨c0, c1, c2, c3, c4, c5, c6, _, _⟩ := X0.out.2.1
        obtain ⟨u0, u1, u2, u3, u4, u5, u6, _, _⟩ := X0.out.2.2.2
        have r1 := X0.out.2.2.1.c1
        go_wp2_with fail
        refine (HMT.out _).mono ?_
        rintro r x1 ⟨rfl, hx1⟩
        have X1 : Hid (Below w.heap.size w x1 ∧ MetaAt x1 M t g l s e b1 b2 ∧ IR x1 P (.int .i64 0) (.int .i64 p) ∧ MetaAt x1 S t g l s e true b2) := by
          obtain ⟨f1, f2, f3, f4⟩ := X0.out
          exact ⟨f1.trans (hx1.mono f1.size), f2.keep hx1, f3.keep hx1, f4.keep hx1⟩
        clear hx1 X0 c0 c1 c2 c3 c4 c5 c6 u0 u1 u2 u3 u4 u5 u6 r1
        obtain ⟨c0, c1, c2, c3, c4, c5, c6, _, _⟩ := X1.out.2.1
        obtain ⟨u0, u1, u2, u3, u4, u5, u6, _, _⟩ := X1.out.2.2.2
        have r1 := X1.out.2.2.1.c1
        go_wp2_with fail
        refine (HMF.out _).mono ?_
        rintro r x2 ⟨rfl, hx2⟩
        have X2 : Hid (Below w.heap.size w x2 ∧ MetaAt x2 M t g l s e b1 b2 ∧ IR x2 P (.int .i64 0) (.int .i64 p) ∧ MetaAt x2 S t g l s e true b2) := by
          obtain ⟨f1, f2, f3, f4⟩ := X1.out
          exact ⟨f1.trans (hx2.mono f1.size), f2.keep hx2, f3.keep hx2, f4.keep hx2⟩
        clear hx2 X1 c0 c1 c2 c3 c4 c5 c6 u0 u1 u2 u3 u4 u5 u6 r1
        obtain ⟨c0, c1, c2, c3, c4, c5, c6, _, _⟩ := X2.out.2.1
        obtain ⟨u0, u1, u2, u3, u4, u5, u6, _, _⟩ := X2.out.2.2.2
        have r1 := X2.out.2.2.1.c1
        go_wp2_with fail
        refine (HMT.out _).mono ?_
        rintro r x3 ⟨rfl, hx3⟩
        have X3 : Hid (Below w.heap.size w x3 ∧ MetaAt x3 M t g l s e b1 b2 ∧ IR x3 P (.int .i64 0) (.int .i64 p) ∧ MetaAt x3 S t g l s e true b2) := by
          obtain ⟨f1, f2, f3, f4⟩ := X2.out
          exact ⟨f1.trans (hx3.mono f1.size), f2.keep hx3, f3.keep hx3, f4.keep hx3⟩
        clear hx3 X2 c0 c1 c2 c3 c4 c5 c6 u0 u1 u2 u3 u4 u5 u6 r1
        obtain ⟨c0, c1, c2, c3, c4, c5, c6, _, _⟩ := X3.out.2.1
        obtain ⟨u0, u1, u2, u3, u4, u5, u6, _, _⟩ := X3.out.2.2.2
        have r1 := X3.out.2.2.1.c1
        go_wp2_with fail
        refine (HSO.out _).mono ?_
        rintro r x4 ⟨rfl, hx4⟩
        have X4 : Hid (Below w.heap.size w x4 ∧ MetaAt x4 M t g l s e b1 b2 ∧ IR x4 P (.int .i64 0) (.int .i64 p) ∧ MetaAt x4 S t g l s e true b2) := by
          obtain ⟨f1, f2, f3, f4⟩ := X3.out
          exact ⟨f1.trans (hx4.mono f1.size), f2.keep hx4, f3.keep hx4, f4.keep hx4⟩
        clear hx4 X3 c0 c1 c2 c3 c4 c5 c6 u0 u1 u2 u3 u4 u5 u6 r1
        have r1 := X4.out.2.2.1.c1
        go_wp2_with fail
        go_ret
        exact ⟨rfl, X4.out.1⟩
end phases
end Go.Proofs.Ytnbbbmhfmjkhbaa
