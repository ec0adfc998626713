/-
  The law of early draws, out of contracts.
-/
import Derived.Test.YtnbbbmhfmjkhbaaDraw7P
import Derived.Test.YtnbbbmhfmjkhbaaEarly7
import Derived.Lib.QuietBelow
import Derived.BigQuiet
import Derived.Deep.CutRange
namespace Go.Proofs.Ytnbbbmhfmjkhbaa
open Go.ChangeShapes Go.WideShapes Go.ChangeAt Go.RowKit Go.Sort
namespace early
set_option maxRecDepth 100000 in
set_option maxHeartbeats 16000000 in
theorem fnEarly_walk (w : World) (a : Option Addr) (len cap : Nat) (hc : CodeRow w w.heap.size a len) :
    Calls Try.prog 4 #[.slice a len cap] w fun e w' => e = .returned (.bool true) ∧ Below w.heap.size w w' := by
  have HC : Hid (CodeRow w w.heap.size a len) := hc
  clear hc
  by_cases hbig : (1048576 : Int) < len
  · go_enter Try.func4, Try.ntmps4
    go_wp2
    go_ret
    exact ⟨rfl, Below.refl _ _⟩
  have hl2 : len ≤ 1048576 := by omega
  go_enter Try.func4, Try.ntmps4
  go_wp2_with (go_at_call 11; go_in)
  refine (drawEarly_any w a len cap HC.out hl2).mono ?_
  rintro r w1 ⟨⟨t, g, l, s, e, b1, b2, n, wi, dr, rfl⟩, hb1⟩
  obtain ⟨v1, hv1⟩ : ∃ X, Hid (X = w1.alloc (.cells #[.int .i64 t, .int .i64 g, .int .i64 l, .int .i64 s, .int .i64 e, .bool b1, .bool b2] 25)) := ⟨_, rfl⟩
  have F1 : Hid (Below w.heap.size w v1 ∧ MetaAt v1 w1.heap.size t g l s e b1 b2) := by
    rw [hv1.out]
    exact ⟨hb1.trans ((Below.refl _ _).alloc hb1.size _), MetaAt.new w1 _ _ _ _ _ _ _ _⟩
  clear hb1
  go_upto_region 4 with fail
  rw [← hv1.out]
  clear hv1
  generalize w1.heap.size = M at *
  clear w1
  have HIE : Hid (∀ W, Calls Try.prog 23 #[.agg #[.int .i64 t, .int .i64 g, .int .i64 l, .int .i64 s, .int .i64 e, .bool b1, .bool b2], .int .i64 n, .int .i64 wi, .int .i64 dr] W fun r w' => r = .returned (.bool (earlyV (phaseA t g l s e b1 b2 n) (l - ageM t g n) wi dr)) ∧ Below W.heap.size W w') := implEarly_any t g l s e b1 b2 n wi dr
  have HSE : Hid (∀ W, Calls Try.prog 26 #[.agg #[.int .i64 t, .int .i64 g, .int .i64 l, .int .i64 s, .int .i64 e, .bool b1, .bool b2], .int .i64 n, .int .i64 wi, .int .i64 dr] W fun r w' => r = .returned (.bool (earlyV (phaseA t g l s e b1 b2 n) (l - ageM t g n) wi dr)) ∧ Below W.heap.size W w') := specEarly_any t g l s e b1 b2 n wi dr
  have HI9 : Hid (∀ W, Calls Try.prog 23 #[.agg #[.int .i64 t, .int .i64 g, .int .i64 l, .int .i64 s, .int .i64 e, .bool b1, .bool b2], .int .i64 n, .int .i64 wi, .int .i64 999] W fun r w' => r = .returned (.bool (earlyV (phaseA t g l s e b1 b2 n) (l - ageM t g n) wi 999)) ∧ Below W.heap.size W w') := implEarly_any t g l s e b1 b2 n wi 999
  have HIK : Hid (∀ W, Calls Try.prog 23 #[.agg #[.int .i64 t, .int .i64 g, .int .i64 l, .int .i64 s, .int .i64 e, .bool b1, .bool b2], .int .i64 n, .int .i64 wi, .int .i64 1000] W fun r w' => r = .returned (.bool false) ∧ Below W.heap.size W w') := fun W => by
    have := implEarly_any t g l s e b1 b2 n wi 1000 W
    rwa [early_1000] at this
  have HIP : Hid (∀ W, Calls Try.prog 13 #[.agg #[.int .i64 t, .int .i64 g, .int .i64 l, .int .i64 s, .int .i64 e, .bool b1, .bool b2], .int .i64 n] W fun r w' => r = .returned (.agg #[.int .i64 (askC t g l s e n), .int .i64 (phaseA t g l s e b1 b2 n)]) ∧ Below W.heap.size W w') := implPhase_any t g l s e b1 b2 n
  have HF9 : Hid (earlyV (phaseA t g l s e b1 b2 n) (l - ageM t g n) wi dr = true → earlyV (phaseA t g l s e b1 b2 n) (l - ageM t g n) wi 999 = true ∧ phaseA t g l s e b1 b2 n = 1) := fun h => ⟨early_999 h, (early_of h).1⟩
  generalize earlyV (phaseA t g l s e b1 b2 n) (l - ageM t g n) wi dr = ev at *
  generalize earlyV (phaseA t g l s e b1 b2 n) (l - ageM t g n) wi 999 = e9 at *
  generalize phaseA t g l s e b1 b2 n = ph at *
  generalize askC t g l s e n = pc at *
  obtain ⟨c0, c1, c2, c3, c4, c5, c6, _, _⟩ := F1.out.2
  go_wp2_with fail
  refine (HIE.out _).mono ?_
  rintro r w2 ⟨rfl, hb2⟩
  clear c0 c1 c2 c3 c4 c5 c6
  have F2 : Hid (Below w.heap.size w w2 ∧ MetaAt w2 M t g l s e b1 b2 ∧ CodeRow w2 w2.heap.size a len) := by
    have q := F1.out.1.trans (hb2.mono F1.out.1.size)
    exact ⟨q, F1.out.2.keep hb2, (HC.out.below q).mono q.size⟩
  clear hb2 F1 HIE HC
  go_wp2_with fail
  refine (drawMof_any w2 a len cap F2.out.2.2 hl2).mono ?_
  rintro r w3 ⟨⟨pb0, pb1, pb2, pl, ps, pe, pg, st, ng, nn, rfl⟩, hb3⟩
  obtain ⟨v3, hv3⟩ : ∃ X, Hid (X = w3.alloc (.cells #[.bool pb0, .bool pb1, .bool pb2, .int .i64 pl, .int .i64 ps, .int .i64 pe, .int .i64 pg] 39)) := ⟨_, rfl⟩
  have F3 : Hid (Below w.heap.size w v3 ∧ MetaAt v3 M t g l s e b1 b2 ∧ PolAt v3 w3.heap.size pb0 pb1 pb2 pl ps pe pg) := by
    have al : Below w3.heap.size w3 (w3.alloc (.cells #[.bool pb0, .bool pb1, .bool pb2, .int .i64 pl, .int .i64 ps, .int .i64 pe, .int .i64 pg] 39)) := (Below.refl _ _).alloc (Nat.le_refl _) _
    have q := F2.out.1.trans (hb3.mono F2.out.1.size)
    rw [hv3.out]
    exact ⟨q.trans (al.mono q.size), (F2.out.2.1.keep hb3).keep al, PolAt.new _ _ _ _ _ _ _ _ _⟩
  clear hb3 F2
  go_upto_region 6 with fail
  rw [← hv3.out]
  clear hv3
  generalize w3.heap.size = Q at *
  clear w3
  have HIO : Hid (∀ W, Calls Try.prog 25 #[.agg #[.bool pb0, .bool pb1, .bool pb2, .int .i64 pl, .int .i64 ps, .int .i64 pe, .int .i64 pg], .int .i64 st, .int .i64 ng, .int .i64 nn] W fun r w' => r = .returned (mofV (lifeC pb0 pl ps pe pg st ng) (lifeV pb0 pl ps pe pg st ng) nn ps pe pg pb1) ∧ Below W.heap.size W w') := implMof_any pb0 pb1 pb2 pl ps pe pg st ng nn
  have HSO : Hid (∀ W, Calls Try.prog 27 #[.agg #[.bool pb0, .bool pb1, .bool pb2, .int .i64 pl, .int .i64 ps, .int .i64 pe, .int .i64 pg], .int .i64 st, .int .i64 ng, .int .i64 nn] W fun r w' => r = .returned (mofV (lifeC pb0 pl ps pe pg st ng) (lifeV pb0 pl ps pe pg st ng) nn ps pe pg pb1) ∧ Below W.heap.size W w') := specMof_any pb0 pb1 pb2 pl ps pe pg st ng nn
  obtain ⟨xc, m1, m2, m3, m4, m5, m6, m7, hX, hXP⟩ := mof_parts pb0 pb1 pl ps pe pg st ng nn
  rw [hX] at HIO HSO
  have HXP : Hid (xc = 0 → metaC m1 m2 m3 m4 m5 = 0 ∧ ageA m1 m2 m3 m4 m5 nn = pg ∧ askC m1 m2 m3 m4 m5 nn = 0) := hXP
  clear hX hXP
  obtain ⟨c0, c1, c2, c3, c4, c5, c6, _, _⟩ := F3.out.2.2
  go_wp2_with fail
  refine (HIO.out _).mono ?_
  rintro r w4 ⟨rfl, hb4⟩
  clear c0 c1 c2 c3 c4 c5 c6
  obtain ⟨v4, hv4⟩ : ∃ X, Hid (X = w4.alloc (.cells #[.int .i64 xc, .int .i64 m1, .int .i64 m2, .int .i64 m3, .int .i64 m4, .int .i64 m5, .bool m6, .bool m7] 43)) := ⟨_, rfl⟩
  have F4 : Hid (Below w.heap.size w v4 ∧ MetaAt v4 M t g l s e b1 b2 ∧ PolAt v4 Q pb0 pb1 pb2 pl ps pe pg ∧ Z8 v4 w4.heap.size (.int .i64 xc) (.int .i64 m1) (.int .i64 m2) (.int .i64 m3) (.int .i64 m4) (.int .i64 m5) (.bool m6) (.bool m7)) := by
    have al : Below w4.heap.size w4 (w4.alloc (.cells #[.int .i64 xc, .int .i64 m1, .int .i64 m2, .int .i64 m3, .int .i64 m4, .int .i64 m5, .bool m6, .bool m7] 43)) := (Below.refl _ _).alloc (Nat.le_refl _) _
    obtain ⟨f1, f2, f3⟩ := F3.out
    have q := f1.trans (hb4.mono f1.size)
    rw [hv4.out]
    exact ⟨q.trans (al.mono q.size), (f2.keep hb4).keep al, (f3.keep hb4).keep al, Z8.new _ _ _ _ _ _ _ _ _ _⟩
  clear hb4 F3 HIO
  go_upto_region 7 with fail
  rw [← hv4.out]
  clear hv4
  generalize w4.heap.size = X at *
  clear w4
  go_cut [54] from 39 to 54 (fun s54 wx => s54 = .bool false ∧ Below v4.heap.size v4 wx)
  case first =>
    have hn1 := neqMR
    have hn2 := guardMR
    have hbe : (ev != ev) = false := by simp
    have q0 := cell_regrown F4.out.2.1.c0
    have q1 := cell_regrown F4.out.2.1.c1
    have q2 := cell_regrown F4.out.2.1.c2
    have q3 := cell_regrown F4.out.2.1.c3
    have q4 := cell_regrown F4.out.2.1.c4
    have q5 := cell_regrown F4.out.2.1.c5
    have q6 := cell_regrown F4.out.2.1.c6
    have q7 := cell_regrown F4.out.2.2.1.c0
    have q8 := cell_regrown F4.out.2.2.1.c1
    have q9 := cell_regrown F4.out.2.2.1.c2
    have q10 := cell_regrown F4.out.2.2.1.c3
    have q11 := cell_regrown F4.out.2.2.1.c4
    have q12 := cell_regrown F4.out.2.2.1.c5
    have q13 := cell_regrown F4.out.2.2.1.c6
    have q14 := cell_regrown F4.out.2.2.2.c0
    have q15 := cell_regrown F4.out.2.2.2.c1
    have q16 := cell_regrown F4.out.2.2.2.c2
    have q17 := cell_regrown F4.out.2.2.2.c3
    have q18 := cell_regrown F4.out.2.2.2.c4
    have q19 := cell_regrown F4.out.2.2.2.c5
    have q20 := cell_regrown F4.out.2.2.2.c6
    have q21 := cell_regrown F4.out.2.2.2.c7
    have k0 : ∀ d' os, Calls Try.prog 26 #[.agg #[.int .i64 t, .int .i64 g, .int .i64 l, .int .i64 s, .int .i64 e, .bool b1, .bool b2], .int .i64 n, .int .i64 wi, .int .i64 dr] (grow (redrawn v4 d') os) fun e w'' => e = .returned (.bool ev) ∧ ∃ p : Regrown, w'' = grow (redrawn v4 p.d) p.os := fun d' os => Calls.regrown_of (HSE.out _)
    have k1 : ∀ d' os, Calls Try.prog 27 #[.agg #[.bool pb0, .bool pb1, .bool pb2, .int .i64 pl, .int .i64 ps, .int .i64 pe, .int .i64 pg], .int .i64 st, .int .i64 ng, .int .i64 nn] (grow (redrawn v4 d') os) fun e w'' => e = .returned (.agg #[.int .i64 xc, .int .i64 m1, .int .i64 m2, .int .i64 m3, .int .i64 m4, .int .i64 m5, .bool m6, .bool m7]) ∧ ∃ p : Regrown, w'' = grow (redrawn v4 p.d) p.os := fun d' os => Calls.regrown_of (HSO.out _)
    refine wp_region_quiet_below (by kernel_rfl) (by kernel_rfl) ?_
    repeat (go_big_quiet_step (first | (go_at_call 26; exact k0 _ _) | (go_at_call 27; exact k1 _ _)))
    refine wpQuiet_nil ?_
    intro W2 hW2
    have hbW2 : Hid (Below v4.heap.size v4 W2) := by
      obtain ⟨⟨d, os⟩, rfl⟩ := hW2
      exact below_regrown v4 d os
    clear hW2
    go_wp2_with fail
    go_meet
    exact ⟨rfl, hbW2.out⟩
  case rest =>
  obtain ⟨rfl, hbx⟩ := hcut
  have F5 : Hid (Below w.heap.size w wc ∧ MetaAt wc M t g l s e b1 b2 ∧ PolAt wc Q pb0 pb1 pb2 pl ps pe pg ∧ Z8 wc X (.int .i64 xc) (.int .i64 m1) (.int .i64 m2) (.int .i64 m3) (.int .i64 m4) (.int .i64 m5) (.bool m6) (.bool m7)) := by
    obtain ⟨f1, f2, f3, f4⟩ := F4.out
    exact ⟨f1.trans (hbx.mono f1.size), f2.keep hbx, f3.keep hbx, f4.keep hbx⟩
  clear hbx F4 HSE HSO
  generalize wc = v5 at *
  go_upto_region 9 with fail
  go_cut [73] from 55 to 73 (fun s73 wx => s73 = .bool false ∧ Below v5.heap.size v5 wx)
  case first =>
    by_cases k0 : xc = 0
    · obtain ⟨x1, x2, x3⟩ := HXP.out k0
      subst k0
      have HIM : Hid (∀ W, Calls Try.prog 17 #[.agg #[.int .i64 m1, .int .i64 m2, .int .i64 m3, .int .i64 m4, .int .i64 m5, .bool m6, .bool m7]] W fun r w' => r = .returned (.int .i64 0) ∧ Below W.heap.size W w') := fun W => by
        have := implMeta_any m1 m2 m3 m4 m5 m6 m7 W
        rwa [x1] at this
      have HIA : Hid (∀ W, Calls Try.prog 14 #[.agg #[.int .i64 m1, .int .i64 m2, .int .i64 m3, .int .i64 m4, .int .i64 m5, .bool m6, .bool m7], .int .i64 nn] W fun r w' => r = .returned (.agg #[.int .i64 0, .int .i64 pg]) ∧ Below W.heap.size W w') := fun W => by
        have := implAge_any m1 m2 m3 m4 m5 m6 m7 nn W
        rwa [x2, x3] at this
      clear x1 x2 x3 HXP
      have hfv := ifieldV
      have q0 := cell_regrown F5.out.2.2.2.c0
      have q1 := cell_regrown F5.out.2.2.2.c1
      have q2 := cell_regrown F5.out.2.2.2.c2
      have q3 := cell_regrown F5.out.2.2.2.c3
      have q4 := cell_regrown F5.out.2.2.2.c4
      have q5 := cell_regrown F5.out.2.2.2.c5
      have q6 := cell_regrown F5.out.2.2.2.c6
      have q7 := cell_regrown F5.out.2.2.2.c7
      have q8 := cell_regrown F5.out.2.2.1.c6
      have k0 : ∀ d' os, Calls Try.prog 17 #[.agg #[.int .i64 m1, .int .i64 m2, .int .i64 m3, .int .i64 m4, .int .i64 m5, .bool m6, .bool m7]] (grow (redrawn v5 d') os) fun e w'' => e = .returned (.int .i64 0) ∧ ∃ p : Regrown, w'' = grow (redrawn v5 p.d) p.os := fun d' os => Calls.regrown_of (HIM.out _)
      have k1 : ∀ d' os, Calls Try.prog 14 #[.agg #[.int .i64 m1, .int .i64 m2, .int .i64 m3, .int .i64 m4, .int .i64 m5, .bool m6, .bool m7], .int .i64 nn] (grow (redrawn v5 d') os) fun e w'' => e = .returned (.agg #[.int .i64 0, .int .i64 pg]) ∧ ∃ p : Regrown, w'' = grow (redrawn v5 p.d) p.os := fun d' os => Calls.regrown_of (HIA.out _)
      refine wp_region_quiet_below (by kernel_rfl) (by kernel_rfl) ?_
      repeat (go_big_quiet_step (first | (go_at_call 17; exact k0 _ _) | (go_at_call 14; exact k1 _ _)))
      refine wpQuiet_nil ?_
      intro W2 hW2
      have hbW2 : Hid (Below v5.heap.size v5 W2) := by
        obtain ⟨⟨d, os⟩, rfl⟩ := hW2
        exact below_regrown v5 d os
      clear hW2
      go_wp2_with fail
      go_meet
      exact ⟨rfl, hbW2.out⟩
    · have d0 : (xc == 0) = false := by simpa using k0
      clear k0 HXP
      have q0 := cell_regrown F5.out.2.2.2.c0
      refine wp_region_quiet_below (by kernel_rfl) (by kernel_rfl) ?_
      repeat (go_big_quiet_step (first | fail))
      refine wpQuiet_nil ?_
      intro W2 hW2
      have hbW2 : Hid (Below v5.heap.size v5 W2) := by
        obtain ⟨⟨d, os⟩, rfl⟩ := hW2
        exact below_regrown v5 d os
      clear hW2
      go_wp2_with fail
      go_meet
      exact ⟨rfl, hbW2.out⟩
  case rest =>
  obtain ⟨rfl, hbx⟩ := hcut
  have F6 : Hid (Below w.heap.size w wc ∧ MetaAt wc M t g l s e b1 b2) := by
    obtain ⟨f1, f2, f3, f4⟩ := F5.out
    exact ⟨f1.trans (hbx.mono f1.size), f2.keep hbx⟩
  clear hbx F5 HXP
  generalize wc = v6 at *
  cases ev
  · go_wp2_with fail
    go_ret
    exact ⟨rfl, F6.out.1⟩
  · obtain ⟨y1, y2⟩ := HF9.out rfl
    subst y1
    subst y2
    clear HF9
    have hfv := ifieldV
    obtain ⟨c0, c1, c2, c3, c4, c5, c6, _, _⟩ := F6.out.2
    go_wp2_with fail
    refine (HIP.out _).mono ?_
    rintro r w7 ⟨rfl, hb7⟩
    clear c0 c1 c2 c3 c4 c5 c6
    have F7 : Hid (Below w.heap.size w w7 ∧ MetaAt w7 M t g l s e b1 b2) := ⟨F6.out.1.trans (hb7.mono F6.out.1.size), F6.out.2.keep hb7⟩
    clear hb7 F6
    obtain ⟨c0, c1, c2, c3, c4, c5, c6, _, _⟩ := F7.out.2
    go_wp2_with fail
    refine (HI9.out _).mono ?_
    rintro r w8 ⟨rfl, hb8⟩
    clear c0 c1 c2 c3 c4 c5 c6
    have F8 : Hid (Below w.heap.size w w8 ∧ MetaAt w8 M t g l s e b1 b2) := ⟨F7.out.1.trans (hb8.mono F7.out.1.size), F7.out.2.keep hb8⟩
    clear hb8 F7
    obtain ⟨c0, c1, c2, c3, c4, c5, c6, _, _⟩ := F8.out.2
    go_wp2_with fail
    refine (HIK.out _).mono ?_
    rintro r w9 ⟨rfl, hb9⟩
    clear c0 c1 c2 c3 c4 c5 c6
    have F9 : Hid (Below w.heap.size w w9) := F8.out.1.trans (hb9.mono F8.out.1.size)
    clear hb9 F8
    go_wp2_with fail
    go_ret
    exact ⟨rfl, F9.out⟩
end early
end Go.Proofs.Ytnbbbmhfmjkhbaa
