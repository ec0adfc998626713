/-
  The law of times, out of contracts.
-/
import Derived.Test.YtgnlpjdndhciaaaDoorDraw1Time
import Derived.Test.YtgnlpjdndhciaaaDoorFnTimesPlain
import Derived.Lib.QuietBelow
import Derived.Deep.RegionWith
namespace Go.Proofs.YtgnlpjdndhciaaaDoor
open Go.ChangeShapes Go.WideShapes Go.ChangeAt Go.RowKit Go.Sort
namespace times
theorem keep {W W' : World} (hb : Below W.heap.size W W') {p : Addr} {v : Value} (h : W.cell? p = some v) : W'.cell? p = some v := by
  rw [hb.cell (block_lt_of_cell h)]; exact h
theorem keepA {W : World} {p : Addr} {v : Value} (o : Obj) (h : W.cell? p = some v) : (W.alloc o).cell? p = some v := keep ((Below.refl _ _).alloc (Nat.le_refl _) _) h
theorem field_code (c : Int) (s : ByteArray) (w : World) : (Instr.field 26 (.agg #[.int .i64 c, .string s]) 0).run Tryd.prog w = .ok (.int .i64 c) w := by kernel_rfl
theorem ifield_code (c v : Int) (w : World) : (Instr.field 32 (.agg #[.int .i64 c, .int .i64 v]) 0).run Tryd.prog w = .ok (.int .i64 c) w := by kernel_rfl
/-- What NumberText answers to n: a code and a text. -/
structure Written (n c : Int) (x : ByteArray) : Prop where
  sn : ∀ w, Calls Tryd.prog 24 #[.int .i64 n] w fun e w' => e = .returned (.agg #[.int .i64 c, .string x]) ∧ Below w.heap.size w w'
  i : ∀ w, num.PowIs w → Calls Tryd.prog 20 #[.int .i64 n] w fun e w' => e = .returned (.agg #[.int .i64 c, .string x]) ∧ Below w.heap.size w w'
theorem written (n : Int) : ∃ c x, Written n c x ∧ (c = 3 ∨ (c = 0 ∧ x = num.numT n ∧ 0 ≤ n)) := by
  by_cases h : n < 0 ∨ 1000000000000000 < n
  · exact ⟨3, ⟨#[]⟩, ⟨fun w => num.specNum_bad n w h, fun w _ => num.implNum_bad n w h⟩, .inl rfl⟩
  · exact ⟨0, num.numT n, ⟨fun w => num.specNum_any n w (by omega) (by omega), fun w => num.implNum_any n w (by omega) (by omega)⟩, .inr ⟨rfl, rfl, by omega⟩⟩
set_option maxRecDepth 100000 in
set_option maxHeartbeats 8000000 in
theorem fnTimes_walk (w : World) (a : Option Addr) (len cap : Nat) (hc : CodeRow w w.heap.size a len) (hpow : num.PowIs w) :
    Calls Tryd.prog 4 #[.slice a len cap] w fun e w' => e = .returned (.bool true) ∧ Below w.heap.size w w' := by
  have HC : Hid (CodeRow w w.heap.size a len) := hc
  have HPOW : Hid (num.PowIs w) := hpow
  clear hc hpow
  by_cases hbig : (1048576 : Int) < len
  · go_enter Tryd.func4, Tryd.ntmps4
    go_wp2
    go_ret
    exact ⟨rfl, Below.refl _ _⟩
  have hl2 : len ≤ 1048576 := by omega
  go_enter Tryd.func4, Tryd.ntmps4
  go_wp2_with (go_at_call 5; go_in)
  refine (drawAddTime_any w a len cap HC.out hl2).mono ?_
  rintro e w1 ⟨⟨x, y, rfl⟩, hb1⟩
  obtain ⟨c, s, m, HR, HW⟩ : ∃ c s m, Hid (Reckoned x y c s m) ∧ Hid (c = 3 ∨ (c = 0 ∧ s = addV x y ∧ 0 ≤ x ∧ x ≤ 1000000000000000 ∧ 0 ≤ y ∧ y ≤ 1000000000000000)) := reckoned x y
  go_wp2_with fail
  refine (HR.out.ia _).mono ?_
  rintro e w2 ⟨rfl, hb2⟩
  have kB : Below w.heap.size w (w2.alloc (.cells #[.int .i64 c, .int .i64 s] 32)) := (hb1.trans (hb2.mono hb1.size)).alloc (Nat.le_trans hb1.size hb2.size) _
  have s0 : (w2.alloc (.cells #[.int .i64 c, .int .i64 s] 32)).cell? ⟨w2.heap.size, 0, none⟩ = some (.int .i64 c) := by simp
  have s1 : (w2.alloc (.cells #[.int .i64 c, .int .i64 s] 32)).cell? ⟨w2.heap.size, 1, none⟩ = some (.int .i64 s) := by simp
  have K1 : Hid (Below w.heap.size w (w2.alloc (.cells #[.int .i64 c, .int .i64 s] 32)) ∧ (w2.alloc (.cells #[.int .i64 c, .int .i64 s] 32)).cell? ⟨w2.heap.size, 0, none⟩ = some (.int .i64 c) ∧ (w2.alloc (.cells #[.int .i64 c, .int .i64 s] 32)).cell? ⟨w2.heap.size, 1, none⟩ = some (.int .i64 s)) := ⟨kB, s0, s1⟩
  clear kB s0 s1 hb1 hb2
  go_wp2_with fail
  refine (HR.out.ma _).mono ?_
  rintro e w3 ⟨rfl, hb3⟩
  obtain ⟨kB, s0, s1⟩ := K1.out
  have kB3 : Below w.heap.size w w3 := kB.trans (hb3.mono kB.size)
  have t0 := keep hb3 s0
  have t1 := keep hb3 s1
  clear K1 kB s0 s1 hb3
  generalize w2.heap.size = Ls at *
  clear w2
  have K2 : Hid (Below w.heap.size w (w3.alloc (.cells #[.int .i64 c, .int .i64 m] 32)) ∧ (w3.alloc (.cells #[.int .i64 c, .int .i64 m] 32)).cell? ⟨Ls, 0, none⟩ = some (.int .i64 c) ∧ (w3.alloc (.cells #[.int .i64 c, .int .i64 m] 32)).cell? ⟨Ls, 1, none⟩ = some (.int .i64 s) ∧ (w3.alloc (.cells #[.int .i64 c, .int .i64 m] 32)).cell? ⟨w3.heap.size, 0, none⟩ = some (.int .i64 c) ∧ (w3.alloc (.cells #[.int .i64 c, .int .i64 m] 32)).cell? ⟨w3.heap.size, 1, none⟩ = some (.int .i64 m)) := ⟨kB3.alloc kB3.size _, keepA _ t0, keepA _ t1, by simp, by simp⟩
  have HC3 : Hid (CodeRow (w3.alloc (.cells #[.int .i64 c, .int .i64 m] 32)) (w3.alloc (.cells #[.int .i64 c, .int .i64 m] 32)).heap.size a len) := (HC.out.below K2.out.1).mono K2.out.1.size
  clear kB3 t0 t1
  go_wp2_with fail
  refine (drawDeltaOf_any _ a len cap HC3.out hl2).mono ?_
  rintro e w4 ⟨⟨t, ht, rfl⟩, hb4⟩
  have K4 : Hid (Below w.heap.size w w4 ∧ w4.cell? ⟨Ls, 0, none⟩ = some (.int .i64 c) ∧ w4.cell? ⟨Ls, 1, none⟩ = some (.int .i64 s) ∧ w4.cell? ⟨w3.heap.size, 0, none⟩ = some (.int .i64 c) ∧ w4.cell? ⟨w3.heap.size, 1, none⟩ = some (.int .i64 m)) := by
    obtain ⟨b, c1, c2, c3, c4⟩ := K2.out
    exact ⟨b.trans (hb4.mono b.size), keep hb4 c1, keep hb4 c2, keep hb4 c3, keep hb4 c4⟩
  clear K2 HC3 hb4
  generalize w3.heap.size = Lm at *
  clear w3
  go_wp2_with fail
  refine (implDelta t _).mono ?_
  rintro e w5 ⟨rfl, hb5⟩
  have HD : Hid (dC t = 5 ∨ (dC t = 0 ∧ 0 ≤ dV t ∧ dV t ≤ 2147483648)) := dC_or t
  have HSD : Hid (∀ w, Calls Tryd.prog 23 #[.string t] w fun e w' => e = .returned (.agg #[.int .i64 (dC t), .int .i64 (dV t)]) ∧ Below w.heap.size w w') := specDelta_any t
  generalize dC t = dc at *
  generalize dV t = dv at *
  have K5 : Hid (Below w.heap.size w (w5.alloc (.cells #[.int .i64 dc, .int .i64 dv] 32)) ∧ (w5.alloc (.cells #[.int .i64 dc, .int .i64 dv] 32)).cell? ⟨Ls, 0, none⟩ = some (.int .i64 c) ∧ (w5.alloc (.cells #[.int .i64 dc, .int .i64 dv] 32)).cell? ⟨Ls, 1, none⟩ = some (.int .i64 s) ∧ (w5.alloc (.cells #[.int .i64 dc, .int .i64 dv] 32)).cell? ⟨Lm, 0, none⟩ = some (.int .i64 c) ∧ (w5.alloc (.cells #[.int .i64 dc, .int .i64 dv] 32)).cell? ⟨Lm, 1, none⟩ = some (.int .i64 m) ∧ (w5.alloc (.cells #[.int .i64 dc, .int .i64 dv] 32)).cell? ⟨w5.heap.size, 0, none⟩ = some (.int .i64 dc) ∧ (w5.alloc (.cells #[.int .i64 dc, .int .i64 dv] 32)).cell? ⟨w5.heap.size, 1, none⟩ = some (.int .i64 dv)) := by
    obtain ⟨b, c1, c2, c3, c4⟩ := K4.out
    have b5 := b.trans (hb5.mono b.size)
    exact ⟨b5.alloc b5.size _, keepA _ (keep hb5 c1), keepA _ (keep hb5 c2), keepA _ (keep hb5 c3), keepA _ (keep hb5 c4), by simp, by simp⟩
  have HC5 : Hid (CodeRow (w5.alloc (.cells #[.int .i64 dc, .int .i64 dv] 32)) (w5.alloc (.cells #[.int .i64 dc, .int .i64 dv] 32)).heap.size a len) := (HC.out.below K5.out.1).mono K5.out.1.size
  clear K4 hb5
  go_wp2_with fail
  refine (drawNumberText_any _ a len cap HC5.out hl2).mono ?_
  rintro e w6 ⟨⟨n, rfl⟩, hb6⟩
  obtain ⟨xc, xt, HN, HX⟩ : ∃ xc xt, Hid (Written n xc xt) ∧ Hid (xc = 3 ∨ (xc = 0 ∧ xt = num.numT n ∧ 0 ≤ n)) := written n
  have K6 : Hid (Below w.heap.size w w6 ∧ w6.cell? ⟨Ls, 0, none⟩ = some (.int .i64 c) ∧ w6.cell? ⟨Ls, 1, none⟩ = some (.int .i64 s) ∧ w6.cell? ⟨Lm, 0, none⟩ = some (.int .i64 c) ∧ w6.cell? ⟨Lm, 1, none⟩ = some (.int .i64 m) ∧ w6.cell? ⟨w5.heap.size, 0, none⟩ = some (.int .i64 dc) ∧ w6.cell? ⟨w5.heap.size, 1, none⟩ = some (.int .i64 dv)) := by
    obtain ⟨b, c1, c2, c3, c4, c5, c6⟩ := K5.out
    exact ⟨b.trans (hb6.mono b.size), keep hb6 c1, keep hb6 c2, keep hb6 c3, keep hb6 c4, keep hb6 c5, keep hb6 c6⟩
  have HP6 : Hid (num.PowIs w6) := HPOW.out.below K6.out.1
  clear K5 HC5 hb6 HC
  generalize w5.heap.size = Ld at *
  clear w5
  go_wp2_with fail
  refine (HN.out.i _ HP6.out).mono ?_
  rintro e w7 ⟨rfl, hb7⟩
  obtain ⟨W, hW⟩ : ∃ W, W = w7.alloc (.cells #[.int .i64 xc, .string xt] 26) := ⟨_, rfl⟩
  have K7 : Hid (Below w.heap.size w W ∧ W.cell? ⟨Ls, 0, none⟩ = some (.int .i64 c) ∧ W.cell? ⟨Ls, 1, none⟩ = some (.int .i64 s) ∧ W.cell? ⟨Lm, 0, none⟩ = some (.int .i64 c) ∧ W.cell? ⟨Lm, 1, none⟩ = some (.int .i64 m) ∧ W.cell? ⟨Ld, 0, none⟩ = some (.int .i64 dc) ∧ W.cell? ⟨Ld, 1, none⟩ = some (.int .i64 dv) ∧ W.cell? ⟨w7.heap.size, 0, none⟩ = some (.int .i64 xc) ∧ W.cell? ⟨w7.heap.size, 1, none⟩ = some (.string xt)) := by
    obtain ⟨b, c1, c2, c3, c4, c5, c6⟩ := K6.out
    have b7 := b.trans (hb7.mono b.size)
    subst hW
    exact ⟨b7.alloc b7.size _, keepA _ (keep hb7 c1), keepA _ (keep hb7 c2), keepA _ (keep hb7 c3), keepA _ (keep hb7 c4), keepA _ (keep hb7 c5), keepA _ (keep hb7 c6), by simp, by simp⟩
  have HWW : Hid (W = w7.alloc (.cells #[.int .i64 xc, .string xt] 26)) := hW
  clear hW K6 hb7 HP6 HPOW
  go_wp2_with fail
  rw [← HWW.out]
  clear HWW
  generalize w7.heap.size = Lx at *
  clear w7
  obtain ⟨kB, c1, c2, c3, c4, c5, c6, c7, c8⟩ := K7.out
  have KB : Hid (Below w.heap.size w W) := kB
  clear K7 kB
  have q1 := cell_regrown c1
  have q2 := cell_regrown c2
  have q3 := cell_regrown c3
  have q4 := cell_regrown c4
  have q5 := cell_regrown c5
  have q6 := cell_regrown c6
  have q7 := cell_regrown c7
  have q8 := cell_regrown c8
  have C1 : Hid (W.cell? ⟨Ls, 0, none⟩ = some (.int .i64 c) ∧ W.cell? ⟨Ls, 1, none⟩ = some (.int .i64 s) ∧ W.cell? ⟨Lm, 0, none⟩ = some (.int .i64 c) ∧ W.cell? ⟨Lm, 1, none⟩ = some (.int .i64 m) ∧ W.cell? ⟨Ld, 0, none⟩ = some (.int .i64 dc) ∧ W.cell? ⟨Ld, 1, none⟩ = some (.int .i64 dv) ∧ W.cell? ⟨Lx, 0, none⟩ = some (.int .i64 xc) ∧ W.cell? ⟨Lx, 1, none⟩ = some (.string xt)) := ⟨c1, c2, c3, c4, c5, c6, c7, c8⟩
  clear c1 c2 c3 c4 c5 c6 c7 c8
  have cSA : ∀ d os, Calls Tryd.prog 21 #[.int .i64 x, .int .i64 y] (grow (redrawn W d) os) fun e w'' => e = .returned (.agg #[.int .i64 c, .int .i64 s]) ∧ ∃ p : Regrown, w'' = grow (redrawn W p.d) p.os := fun d os => Calls.regrown_of (HR.out.sa _)
  have cSM : ∀ d os, Calls Tryd.prog 22 #[.int .i64 x, .int .i64 y] (grow (redrawn W d) os) fun e w'' => e = .returned (.agg #[.int .i64 c, .int .i64 m]) ∧ ∃ p : Regrown, w'' = grow (redrawn W p.d) p.os := fun d os => Calls.regrown_of (HR.out.ms _)
  have cSD : ∀ d os, Calls Tryd.prog 23 #[.string t] (grow (redrawn W d) os) fun e w'' => e = .returned (.agg #[.int .i64 dc, .int .i64 dv]) ∧ ∃ p : Regrown, w'' = grow (redrawn W p.d) p.os := fun d os => Calls.regrown_of (HSD.out _)
  have cSN : ∀ d os, Calls Tryd.prog 24 #[.int .i64 n] (grow (redrawn W d) os) fun e w'' => e = .returned (.agg #[.int .i64 xc, .string xt]) ∧ ∃ p : Regrown, w'' = grow (redrawn W p.d) p.os := fun d os => Calls.regrown_of (HN.out.sn _)
  have hf1 := field_code
  have hf2 := ifield_code
  refine wp_region_quiet_below (by kernel_rfl) (by kernel_rfl) ?_
  repeat (go_big_quiet_step (first | (go_at_call 21; exact cSA _ _) | (go_at_call 22; exact cSM _ _) | (go_at_call 23; exact cSD _ _) | (go_at_call 24; exact cSN _ _)))
  refine wpQuiet_nil ?_
  intro W2 hW2
  have hbW2 : Below W.heap.size W W2 := by
    obtain ⟨⟨d, os⟩, rfl⟩ := hW2
    exact below_regrown W d os
  have KB2 : Hid (Below w.heap.size w W2) := KB.out.trans (hbW2.mono KB.out.size)
  obtain ⟨c1, c2, c3, c4, c5, c6, c7, c8⟩ := C1.out
  have p1 := keep hbW2 c1
  have p2 := keep hbW2 c2
  have p3 := keep hbW2 c3
  have p4 := keep hbW2 c4
  have p5 := keep hbW2 c5
  have p6 := keep hbW2 c6
  have p7 := keep hbW2 c7
  have p8 := keep hbW2 c8
  clear hW2 hbW2 c1 c2 c3 c4 c5 c6 c7 c8 C1 KB cSA cSM cSD cSN q1 q2 q3 q4 q5 q6 q7 q8 HSD HN
  have KB : Hid (Below w.heap.size w W2) := KB2
  clear KB2
  rcases HW.out with rfl | ⟨rfl, hs, x0, x1, y0, y1⟩
  · clear HW
    rcases HX.out with rfl | ⟨rfl, hxt, hn0⟩
    · clear HX
      rcases HD.out with rfl | ⟨rfl, dv0, dv1⟩
      · clear HD
        have KC : Hid (Below w.heap.size w W2 ∧ W2.cell? ⟨Ls, 0, none⟩ = some (.int .i64 3) ∧ W2.cell? ⟨Ls, 1, none⟩ = some (.int .i64 s) ∧ W2.cell? ⟨Lm, 0, none⟩ = some (.int .i64 3) ∧ W2.cell? ⟨Lm, 1, none⟩ = some (.int .i64 m)) := ⟨KB.out, p1, p2, p3, p4⟩
        go_wp2_with fail
        go_ret
        exact ⟨rfl, KC.out.1⟩
      · clear HD
        have e1 : decide (dv < 0) = false := by simp; omega
        have e2 : decide (2147483648 < dv) = false := by simp; omega
        have KC : Hid (Below w.heap.size w W2 ∧ W2.cell? ⟨Ls, 0, none⟩ = some (.int .i64 3) ∧ W2.cell? ⟨Ls, 1, none⟩ = some (.int .i64 s) ∧ W2.cell? ⟨Lm, 0, none⟩ = some (.int .i64 3) ∧ W2.cell? ⟨Lm, 1, none⟩ = some (.int .i64 m)) := ⟨KB.out, p1, p2, p3, p4⟩
        go_wp2_with fail
        go_ret
        exact ⟨rfl, KC.out.1⟩
    · clear HX
      by_cases hn1 : n ≤ 2147483648
      · have hnb : decide (n ≤ 2147483648) = true := by simpa using hn1
        have HDN : Hid (∀ w, Calls Tryd.prog 18 #[.string xt] w fun e w' => e = .returned (.agg #[.int .i64 0, .int .i64 n]) ∧ Below w.heap.size w w') := by
          have h1 := implDelta xt
          obtain ⟨e1, e2⟩ := delta_num n hn0 hn1
          rw [hxt, e1, e2] at h1
          rw [hxt]
          exact h1
        clear hxt
        rcases HD.out with rfl | ⟨rfl, dv0, dv1⟩
        · clear HD
          go_wp2_with fail
          refine (HDN.out _).mono ?_
          rintro e WW ⟨rfl, hbW⟩
          have KC : Hid (Below w.heap.size w WW ∧ WW.cell? ⟨Ls, 0, none⟩ = some (.int .i64 3) ∧ WW.cell? ⟨Ls, 1, none⟩ = some (.int .i64 s) ∧ WW.cell? ⟨Lm, 0, none⟩ = some (.int .i64 3) ∧ WW.cell? ⟨Lm, 1, none⟩ = some (.int .i64 m)) := ⟨KB.out.trans (hbW.mono KB.out.size), keep hbW p1, keep hbW p2, keep hbW p3, keep hbW p4⟩
          have p5' := keep hbW p5
          have p6' := keep hbW p6
          obtain ⟨kcB, kc1, _, _, _⟩ := KC.out
          clear p1 p2 p3 p4 p5 p6 p7 p8 hbW HDN
          go_wp2_with fail
          go_ret
          exact ⟨rfl, KC.out.1⟩
        · clear HD
          have e1 : decide (dv < 0) = false := by simp; omega
          have e2 : decide (2147483648 < dv) = false := by simp; omega
          go_wp2_with fail
          refine (HDN.out _).mono ?_
          rintro e WW ⟨rfl, hbW⟩
          have KC : Hid (Below w.heap.size w WW ∧ WW.cell? ⟨Ls, 0, none⟩ = some (.int .i64 3) ∧ WW.cell? ⟨Ls, 1, none⟩ = some (.int .i64 s) ∧ WW.cell? ⟨Lm, 0, none⟩ = some (.int .i64 3) ∧ WW.cell? ⟨Lm, 1, none⟩ = some (.int .i64 m)) := ⟨KB.out.trans (hbW.mono KB.out.size), keep hbW p1, keep hbW p2, keep hbW p3, keep hbW p4⟩
          have p5' := keep hbW p5
          have p6' := keep hbW p6
          obtain ⟨kcB, kc1, _, _, _⟩ := KC.out
          clear p1 p2 p3 p4 p5 p6 p7 p8 hbW HDN
          go_wp2_with fail
          go_ret
          exact ⟨rfl, KC.out.1⟩
      · have hnb : decide (n ≤ 2147483648) = false := by simpa using hn1
        clear hxt
        rcases HD.out with rfl | ⟨rfl, dv0, dv1⟩
        · clear HD
          have KC : Hid (Below w.heap.size w W2 ∧ W2.cell? ⟨Ls, 0, none⟩ = some (.int .i64 3) ∧ W2.cell? ⟨Ls, 1, none⟩ = some (.int .i64 s) ∧ W2.cell? ⟨Lm, 0, none⟩ = some (.int .i64 3) ∧ W2.cell? ⟨Lm, 1, none⟩ = some (.int .i64 m)) := ⟨KB.out, p1, p2, p3, p4⟩
          go_wp2_with fail
          go_ret
          exact ⟨rfl, KC.out.1⟩
        · clear HD
          have e1 : decide (dv < 0) = false := by simp; omega
          have e2 : decide (2147483648 < dv) = false := by simp; omega
          have KC : Hid (Below w.heap.size w W2 ∧ W2.cell? ⟨Ls, 0, none⟩ = some (.int .i64 3) ∧ W2.cell? ⟨Ls, 1, none⟩ = some (.int .i64 s) ∧ W2.cell? ⟨Lm, 0, none⟩ = some (.int .i64 3) ∧ W2.cell? ⟨Lm, 1, none⟩ = some (.int .i64 m)) := ⟨KB.out, p1, p2, p3, p4⟩
          go_wp2_with fail
          go_ret
          exact ⟨rfl, KC.out.1⟩
  · have HS : Hid (s = addV x y) := hs
    clear HW hs
    rcases HX.out with rfl | ⟨rfl, hxt, hn0⟩
    · clear HX
      rcases HD.out with rfl | ⟨rfl, dv0, dv1⟩
      · clear HD
        have KC : Hid (Below w.heap.size w W2 ∧ W2.cell? ⟨Ls, 0, none⟩ = some (.int .i64 0) ∧ W2.cell? ⟨Ls, 1, none⟩ = some (.int .i64 s) ∧ W2.cell? ⟨Lm, 0, none⟩ = some (.int .i64 0) ∧ W2.cell? ⟨Lm, 1, none⟩ = some (.int .i64 m)) := ⟨KB.out, p1, p2, p3, p4⟩
        go_wp2_with fail
        obtain ⟨kB, c1, c2, c3, c4⟩ := KC.out
        clear KC
        have q1 := cell_regrown c1
        have q2 := cell_regrown c2
        have q3 := cell_regrown c3
        have q4 := cell_regrown c4
        have cIB : ∀ d os, Calls Tryd.prog 15 #[.int .i64 y, .int .i64 x] (grow (redrawn W2 d) os) fun e w'' => e = .returned (.agg #[.int .i64 0, .int .i64 s]) ∧ ∃ p : Regrown, w'' = grow (redrawn W2 p.d) p.os := fun d os => Calls.regrown_of (HR.out.ib _)
        have cMB : ∀ d os, Calls Tryd.prog 16 #[.int .i64 y, .int .i64 x] (grow (redrawn W2 d) os) fun e w'' => e = .returned (.agg #[.int .i64 0, .int .i64 m]) ∧ ∃ p : Regrown, w'' = grow (redrawn W2 p.d) p.os := fun d os => Calls.regrown_of (HR.out.mb _)
        by_cases hov : 1000000000000000 ≤ x + y
        · obtain rfl : s = 1000000000000000 := by have := HS.out; unfold addV at this; rw [if_pos hov] at this; exact this
          clear HS
          by_cases heq : x + y = 1000000000000000
          · have g5 : ((1000000000000000 : Int) == x + y) = true := by simp; omega
            refine wp_region_quiet_below (by kernel_rfl) (by kernel_rfl) ?_
            repeat (go_big_quiet_step (first | (go_at_call 15; exact cIB _ _) | (go_at_call 16; exact cMB _ _)))
            refine wpQuiet_nil ?_
            intro w9 hw9
            have hb9 : Below w.heap.size w w9 := by
              obtain ⟨⟨d, os⟩, rfl⟩ := hw9
              exact kB.trans ((below_regrown W2 d os).mono kB.size)
            clear cIB cMB q1 q2 q3 q4
            go_wp2_with fail
            go_ret
            exact ⟨rfl, hb9⟩
          · have g5 : ((1000000000000000 : Int) == x + y) = false := by simp; omega
            refine wp_region_quiet_below (by kernel_rfl) (by kernel_rfl) ?_
            repeat (go_big_quiet_step (first | (go_at_call 15; exact cIB _ _) | (go_at_call 16; exact cMB _ _)))
            refine wpQuiet_nil ?_
            intro w9 hw9
            have hb9 : Below w.heap.size w w9 := by
              obtain ⟨⟨d, os⟩, rfl⟩ := hw9
              exact kB.trans ((below_regrown W2 d os).mono kB.size)
            clear cIB cMB q1 q2 q3 q4
            go_wp2_with fail
            go_ret
            exact ⟨rfl, hb9⟩
        · obtain rfl : s = x + y := by have := HS.out; unfold addV at this; rw [if_neg hov] at this; exact this
          clear HS
          have g1 : decide (0 ≤ y) = true := by simpa using y0
          have g2 : decide (0 ≤ x) = true := by simpa using x0
          have g3 : decide (x ≤ x + y) = true := by simp; omega
          have g4 : decide (y ≤ x + y) = true := by simp; omega
          have g5 : decide (x + y ≤ 1000000000000000) = true := by simp; omega
          refine wp_region_quiet_below (by kernel_rfl) (by kernel_rfl) ?_
          repeat (go_big_quiet_step (first | (go_at_call 15; exact cIB _ _) | (go_at_call 16; exact cMB _ _)))
          refine wpQuiet_nil ?_
          intro w9 hw9
          have hb9 : Below w.heap.size w w9 := by
            obtain ⟨⟨d, os⟩, rfl⟩ := hw9
            exact kB.trans ((below_regrown W2 d os).mono kB.size)
          clear cIB cMB q1 q2 q3 q4
          go_wp2_with fail
          go_ret
          exact ⟨rfl, hb9⟩
      · clear HD
        have e1 : decide (dv < 0) = false := by simp; omega
        have e2 : decide (2147483648 < dv) = false := by simp; omega
        have KC : Hid (Below w.heap.size w W2 ∧ W2.cell? ⟨Ls, 0, none⟩ = some (.int .i64 0) ∧ W2.cell? ⟨Ls, 1, none⟩ = some (.int .i64 s) ∧ W2.cell? ⟨Lm, 0, none⟩ = some (.int .i64 0) ∧ W2.cell? ⟨Lm, 1, none⟩ = some (.int .i64 m)) := ⟨KB.out, p1, p2, p3, p4⟩
        go_wp2_with fail
        obtain ⟨kB, c1, c2, c3, c4⟩ := KC.out
        clear KC
        have q1 := cell_regrown c1
        have q2 := cell_regrown c2
        have q3 := cell_regrown c3
        have q4 := cell_regrown c4
        have cIB : ∀ d os, Calls Tryd.prog 15 #[.int .i64 y, .int .i64 x] (grow (redrawn W2 d) os) fun e w'' => e = .returned (.agg #[.int .i64 0, .int .i64 s]) ∧ ∃ p : Regrown, w'' = grow (redrawn W2 p.d) p.os := fun d os => Calls.regrown_of (HR.out.ib _)
        have cMB : ∀ d os, Calls Tryd.prog 16 #[.int .i64 y, .int .i64 x] (grow (redrawn W2 d) os) fun e w'' => e = .returned (.agg #[.int .i64 0, .int .i64 m]) ∧ ∃ p : Regrown, w'' = grow (redrawn W2 p.d) p.os := fun d os => Calls.regrown_of (HR.out.mb _)
        by_cases hov : 1000000000000000 ≤ x + y
        · obtain rfl : s = 1000000000000000 := by have := HS.out; unfold addV at this; rw [if_pos hov] at this; exact this
          clear HS
          by_cases heq : x + y = 1000000000000000
          · have g5 : ((1000000000000000 : Int) == x + y) = true := by simp; omega
            refine wp_region_quiet_below (by kernel_rfl) (by kernel_rfl) ?_
            repeat (go_big_quiet_step (first | (go_at_call 15; exact cIB _ _) | (go_at_call 16; exact cMB _ _)))
            refine wpQuiet_nil ?_
            intro w9 hw9
            have hb9 : Below w.heap.size w w9 := by
              obtain ⟨⟨d, os⟩, rfl⟩ := hw9
              exact kB.trans ((below_regrown W2 d os).mono kB.size)
            clear cIB cMB q1 q2 q3 q4
            go_wp2_with fail
            go_ret
            exact ⟨rfl, hb9⟩
          · have g5 : ((1000000000000000 : Int) == x + y) = false := by simp; omega
            refine wp_region_quiet_below (by kernel_rfl) (by kernel_rfl) ?_
            repeat (go_big_quiet_step (first | (go_at_call 15; exact cIB _ _) | (go_at_call 16; exact cMB _ _)))
            refine wpQuiet_nil ?_
            intro w9 hw9
            have hb9 : Below w.heap.size w w9 := by
              obtain ⟨⟨d, os⟩, rfl⟩ := hw9
              exact kB.trans ((below_regrown W2 d os).mono kB.size)
            clear cIB cMB q1 q2 q3 q4
            go_wp2_with fail
            go_ret
            exact ⟨rfl, hb9⟩
        · obtain rfl : s = x + y := by have := HS.out; unfold addV at this; rw [if_neg hov] at this; exact this
          clear HS
          have g1 : decide (0 ≤ y) = true := by simpa using y0
          have g2 : decide (0 ≤ x) = true := by simpa using x0
          have g3 : decide (x ≤ x + y) = true := by simp; omega
          have g4 : decide (y ≤ x + y) = true := by simp; omega
          have g5 : decide (x + y ≤ 1000000000000000) = true := by simp; omega
          refine wp_region_quiet_below (by kernel_rfl) (by kernel_rfl) ?_
          repeat (go_big_quiet_step (first | (go_at_call 15; exact cIB _ _) | (go_at_call 16; exact cMB _ _)))
          refine wpQuiet_nil ?_
          intro w9 hw9
          have hb9 : Below w.heap.size w w9 := by
            obtain ⟨⟨d, os⟩, rfl⟩ := hw9
            exact kB.trans ((below_regrown W2 d os).mono kB.size)
          clear cIB cMB q1 q2 q3 q4
          go_wp2_with fail
          go_ret
          exact ⟨rfl, hb9⟩
    · clear HX
      by_cases hn1 : n ≤ 2147483648
      · have hnb : decide (n ≤ 2147483648) = true := by simpa using hn1
        have HDN : Hid (∀ w, Calls Tryd.prog 18 #[.string xt] w fun e w' => e = .returned (.agg #[.int .i64 0, .int .i64 n]) ∧ Below w.heap.size w w') := by
          have h1 := implDelta xt
          obtain ⟨e1, e2⟩ := delta_num n hn0 hn1
          rw [hxt, e1, e2] at h1
          rw [hxt]
          exact h1
        clear hxt
        rcases HD.out with rfl | ⟨rfl, dv0, dv1⟩
        · clear HD
          go_wp2_with fail
          refine (HDN.out _).mono ?_
          rintro e WW ⟨rfl, hbW⟩
          have KC : Hid (Below w.heap.size w WW ∧ WW.cell? ⟨Ls, 0, none⟩ = some (.int .i64 0) ∧ WW.cell? ⟨Ls, 1, none⟩ = some (.int .i64 s) ∧ WW.cell? ⟨Lm, 0, none⟩ = some (.int .i64 0) ∧ WW.cell? ⟨Lm, 1, none⟩ = some (.int .i64 m)) := ⟨KB.out.trans (hbW.mono KB.out.size), keep hbW p1, keep hbW p2, keep hbW p3, keep hbW p4⟩
          have p5' := keep hbW p5
          have p6' := keep hbW p6
          obtain ⟨kcB, kc1, _, _, _⟩ := KC.out
          clear p1 p2 p3 p4 p5 p6 p7 p8 hbW HDN
          go_wp2_with fail
          obtain ⟨kB, c1, c2, c3, c4⟩ := KC.out
          clear KC
          have q1 := cell_regrown c1
          have q2 := cell_regrown c2
          have q3 := cell_regrown c3
          have q4 := cell_regrown c4
          have cIB : ∀ d os, Calls Tryd.prog 15 #[.int .i64 y, .int .i64 x] (grow (redrawn WW d) os) fun e w'' => e = .returned (.agg #[.int .i64 0, .int .i64 s]) ∧ ∃ p : Regrown, w'' = grow (redrawn WW p.d) p.os := fun d os => Calls.regrown_of (HR.out.ib _)
          have cMB : ∀ d os, Calls Tryd.prog 16 #[.int .i64 y, .int .i64 x] (grow (redrawn WW d) os) fun e w'' => e = .returned (.agg #[.int .i64 0, .int .i64 m]) ∧ ∃ p : Regrown, w'' = grow (redrawn WW p.d) p.os := fun d os => Calls.regrown_of (HR.out.mb _)
          by_cases hov : 1000000000000000 ≤ x + y
          · obtain rfl : s = 1000000000000000 := by have := HS.out; unfold addV at this; rw [if_pos hov] at this; exact this
            clear HS
            by_cases heq : x + y = 1000000000000000
            · have g5 : ((1000000000000000 : Int) == x + y) = true := by simp; omega
              refine wp_region_quiet_below (by kernel_rfl) (by kernel_rfl) ?_
              repeat (go_big_quiet_step (first | (go_at_call 15; exact cIB _ _) | (go_at_call 16; exact cMB _ _)))
              refine wpQuiet_nil ?_
              intro w9 hw9
              have hb9 : Below w.heap.size w w9 := by
                obtain ⟨⟨d, os⟩, rfl⟩ := hw9
                exact kB.trans ((below_regrown WW d os).mono kB.size)
              clear cIB cMB q1 q2 q3 q4
              go_wp2_with fail
              go_ret
              exact ⟨rfl, hb9⟩
            · have g5 : ((1000000000000000 : Int) == x + y) = false := by simp; omega
              refine wp_region_quiet_below (by kernel_rfl) (by kernel_rfl) ?_
              repeat (go_big_quiet_step (first | (go_at_call 15; exact cIB _ _) | (go_at_call 16; exact cMB _ _)))
              refine wpQuiet_nil ?_
              intro w9 hw9
              have hb9 : Below w.heap.size w w9 := by
                obtain ⟨⟨d, os⟩, rfl⟩ := hw9
                exact kB.trans ((below_regrown WW d os).mono kB.size)
              clear cIB cMB q1 q2 q3 q4
              go_wp2_with fail
              go_ret
              exact ⟨rfl, hb9⟩
          · obtain rfl : s = x + y := by have := HS.out; unfold addV at this; rw [if_neg hov] at this; exact this
            clear HS
            have g1 : decide (0 ≤ y) = true := by simpa using y0
            have g2 : decide (0 ≤ x) = true := by simpa using x0
            have g3 : decide (x ≤ x + y) = true := by simp; omega
            have g4 : decide (y ≤ x + y) = true := by simp; omega
            have g5 : decide (x + y ≤ 1000000000000000) = true := by simp; omega
            refine wp_region_quiet_below (by kernel_rfl) (by kernel_rfl) ?_
            repeat (go_big_quiet_step (first | (go_at_call 15; exact cIB _ _) | (go_at_call 16; exact cMB _ _)))
            refine wpQuiet_nil ?_
            intro w9 hw9
            have hb9 : Below w.heap.size w w9 := by
              obtain ⟨⟨d, os⟩, rfl⟩ := hw9
              exact kB.trans ((below_regrown WW d os).mono kB.size)
            clear cIB cMB q1 q2 q3 q4
            go_wp2_with fail
            go_ret
            exact ⟨rfl, hb9⟩
        · clear HD
          have e1 : decide (dv < 0) = false := by simp; omega
          have e2 : decide (2147483648 < dv) = false := by simp; omega
          go_wp2_with fail
          refine (HDN.out _).mono ?_
          rintro e WW ⟨rfl, hbW⟩
          have KC : Hid (Below w.heap.size w WW ∧ WW.cell? ⟨Ls, 0, none⟩ = some (.int .i64 0) ∧ WW.cell? ⟨Ls, 1, none⟩ = some (.int .i64 s) ∧ WW.cell? ⟨Lm, 0, none⟩ = some (.int .i64 0) ∧ WW.cell? ⟨Lm, 1, none⟩ = some (.int .i64 m)) := ⟨KB.out.trans (hbW.mono KB.out.size), keep hbW p1, keep hbW p2, keep hbW p3, keep hbW p4⟩
          have p5' := keep hbW p5
          have p6' := keep hbW p6
          obtain ⟨kcB, kc1, _, _, _⟩ := KC.out
          clear p1 p2 p3 p4 p5 p6 p7 p8 hbW HDN
          go_wp2_with fail
          obtain ⟨kB, c1, c2, c3, c4⟩ := KC.out
          clear KC
          have q1 := cell_regrown c1
          have q2 := cell_regrown c2
          have q3 := cell_regrown c3
          have q4 := cell_regrown c4
          have cIB : ∀ d os, Calls Tryd.prog 15 #[.int .i64 y, .int .i64 x] (grow (redrawn WW d) os) fun e w'' => e = .returned (.agg #[.int .i64 0, .int .i64 s]) ∧ ∃ p : Regrown, w'' = grow (redrawn WW p.d) p.os := fun d os => Calls.regrown_of (HR.out.ib _)
          have cMB : ∀ d os, Calls Tryd.prog 16 #[.int .i64 y, .int .i64 x] (grow (redrawn WW d) os) fun e w'' => e = .returned (.agg #[.int .i64 0, .int .i64 m]) ∧ ∃ p : Regrown, w'' = grow (redrawn WW p.d) p.os := fun d os => Calls.regrown_of (HR.out.mb _)
          by_cases hov : 1000000000000000 ≤ x + y
          · obtain rfl : s = 1000000000000000 := by have := HS.out; unfold addV at this; rw [if_pos hov] at this; exact this
            clear HS
            by_cases heq : x + y = 1000000000000000
            · have g5 : ((1000000000000000 : Int) == x + y) = true := by simp; omega
              refine wp_region_quiet_below (by kernel_rfl) (by kernel_rfl) ?_
              repeat (go_big_quiet_step (first | (go_at_call 15; exact cIB _ _) | (go_at_call 16; exact cMB _ _)))
              refine wpQuiet_nil ?_
              intro w9 hw9
              have hb9 : Below w.heap.size w w9 := by
                obtain ⟨⟨d, os⟩, rfl⟩ := hw9
                exact kB.trans ((below_regrown WW d os).mono kB.size)
              clear cIB cMB q1 q2 q3 q4
              go_wp2_with fail
              go_ret
              exact ⟨rfl, hb9⟩
            · have g5 : ((1000000000000000 : Int) == x + y) = false := by simp; omega
              refine wp_region_quiet_below (by kernel_rfl) (by kernel_rfl) ?_
              repeat (go_big_quiet_step (first | (go_at_call 15; exact cIB _ _) | (go_at_call 16; exact cMB _ _)))
              refine wpQuiet_nil ?_
              intro w9 hw9
              have hb9 : Below w.heap.size w w9 := by
                obtain ⟨⟨d, os⟩, rfl⟩ := hw9
                exact kB.trans ((below_regrown WW d os).mono kB.size)
              clear cIB cMB q1 q2 q3 q4
              go_wp2_with fail
              go_ret
              exact ⟨rfl, hb9⟩
          · obtain rfl : s = x + y := by have := HS.out; unfold addV at this; rw [if_neg hov] at this; exact this
            clear HS
            have g1 : decide (0 ≤ y) = true := by simpa using y0
            have g2 : decide (0 ≤ x) = true := by simpa using x0
            have g3 : decide (x ≤ x + y) = true := by simp; omega
            have g4 : decide (y ≤ x + y) = true := by simp; omega
            have g5 : decide (x + y ≤ 1000000000000000) = true := by simp; omega
            refine wp_region_quiet_below (by kernel_rfl) (by kernel_rfl) ?_
            repeat (go_big_quiet_step (first | (go_at_call 15; exact cIB _ _) | (go_at_call 16; exact cMB _ _)))
            refine wpQuiet_nil ?_
            intro w9 hw9
            have hb9 : Below w.heap.size w w9 := by
              obtain ⟨⟨d, os⟩, rfl⟩ := hw9
              exact kB.trans ((below_regrown WW d os).mono kB.size)
            clear cIB cMB q1 q2 q3 q4
            go_wp2_with fail
            go_ret
            exact ⟨rfl, hb9⟩
      · have hnb : decide (n ≤ 2147483648) = false := by simpa using hn1
        clear hxt
        rcases HD.out with rfl | ⟨rfl, dv0, dv1⟩
        · clear HD
          have KC : Hid (Below w.heap.size w W2 ∧ W2.cell? ⟨Ls, 0, none⟩ = some (.int .i64 0) ∧ W2.cell? ⟨Ls, 1, none⟩ = some (.int .i64 s) ∧ W2.cell? ⟨Lm, 0, none⟩ = some (.int .i64 0) ∧ W2.cell? ⟨Lm, 1, none⟩ = some (.int .i64 m)) := ⟨KB.out, p1, p2, p3, p4⟩
          go_wp2_with fail
          obtain ⟨kB, c1, c2, c3, c4⟩ := KC.out
          clear KC
          have q1 := cell_regrown c1
          have q2 := cell_regrown c2
          have q3 := cell_regrown c3
          have q4 := cell_regrown c4
          have cIB : ∀ d os, Calls Tryd.prog 15 #[.int .i64 y, .int .i64 x] (grow (redrawn W2 d) os) fun e w'' => e = .returned (.agg #[.int .i64 0, .int .i64 s]) ∧ ∃ p : Regrown, w'' = grow (redrawn W2 p.d) p.os := fun d os => Calls.regrown_of (HR.out.ib _)
          have cMB : ∀ d os, Calls Tryd.prog 16 #[.int .i64 y, .int .i64 x] (grow (redrawn W2 d) os) fun e w'' => e = .returned (.agg #[.int .i64 0, .int .i64 m]) ∧ ∃ p : Regrown, w'' = grow (redrawn W2 p.d) p.os := fun d os => Calls.regrown_of (HR.out.mb _)
          by_cases hov : 1000000000000000 ≤ x + y
          · obtain rfl : s = 1000000000000000 := by have := HS.out; unfold addV at this; rw [if_pos hov] at this; exact this
            clear HS
            by_cases heq : x + y = 1000000000000000
            · have g5 : ((1000000000000000 : Int) == x + y) = true := by simp; omega
              refine wp_region_quiet_below (by kernel_rfl) (by kernel_rfl) ?_
              repeat (go_big_quiet_step (first | (go_at_call 15; exact cIB _ _) | (go_at_call 16; exact cMB _ _)))
              refine wpQuiet_nil ?_
              intro w9 hw9
              have hb9 : Below w.heap.size w w9 := by
                obtain ⟨⟨d, os⟩, rfl⟩ := hw9
                exact kB.trans ((below_regrown W2 d os).mono kB.size)
              clear cIB cMB q1 q2 q3 q4
              go_wp2_with fail
              go_ret
              exact ⟨rfl, hb9⟩
            · have g5 : ((1000000000000000 : Int) == x + y) = false := by simp; omega
              refine wp_region_quiet_below (by kernel_rfl) (by kernel_rfl) ?_
              repeat (go_big_quiet_step (first | (go_at_call 15; exact cIB _ _) | (go_at_call 16; exact cMB _ _)))
              refine wpQuiet_nil ?_
              intro w9 hw9
              have hb9 : Below w.heap.size w w9 := by
                obtain ⟨⟨d, os⟩, rfl⟩ := hw9
                exact kB.trans ((below_regrown W2 d os).mono kB.size)
              clear cIB cMB q1 q2 q3 q4
              go_wp2_with fail
              go_ret
              exact ⟨rfl, hb9⟩
          · obtain rfl : s = x + y := by have := HS.out; unfold addV at this; rw [if_neg hov] at this; exact this
            clear HS
            have g1 : decide (0 ≤ y) = true := by simpa using y0
            have g2 : decide (0 ≤ x) = true := by simpa using x0
            have g3 : decide (x ≤ x + y) = true := by simp; omega
            have g4 : decide (y ≤ x + y) = true := by simp; omega
            have g5 : decide (x + y ≤ 1000000000000000) = true := by simp; omega
            refine wp_region_quiet_below (by kernel_rfl) (by kernel_rfl) ?_
            repeat (go_big_quiet_step (first | (go_at_call 15; exact cIB _ _) | (go_at_call 16; exact cMB _ _)))
            refine wpQuiet_nil ?_
            intro w9 hw9
            have hb9 : Below w.heap.size w w9 := by
              obtain ⟨⟨d, os⟩, rfl⟩ := hw9
              exact kB.trans ((below_regrown W2 d os).mono kB.size)
            clear cIB cMB q1 q2 q3 q4
            go_wp2_with fail
            go_ret
            exact ⟨rfl, hb9⟩
        · clear HD
          have e1 : decide (dv < 0) = false := by simp; omega
          have e2 : decide (2147483648 < dv) = false := by simp; omega
          have KC : Hid (Below w.heap.size w W2 ∧ W2.cell? ⟨Ls, 0, none⟩ = some (.int .i64 0) ∧ W2.cell? ⟨Ls, 1, none⟩ = some (.int .i64 s) ∧ W2.cell? ⟨Lm, 0, none⟩ = some (.int .i64 0) ∧ W2.cell? ⟨Lm, 1, none⟩ = some (.int .i64 m)) := ⟨KB.out, p1, p2, p3, p4⟩
          go_wp2_with fail
          obtain ⟨kB, c1, c2, c3, c4⟩ := KC.out
          clear KC
          have q1 := cell_regrown c1
          have q2 := cell_regrown c2
          have q3 := cell_regrown c3
          have q4 := cell_regrown c4
          have cIB : ∀ d os, Calls Tryd.prog 15 #[.int .i64 y, .int .i64 x] (grow (redrawn W2 d) os) fun e w'' => e = .returned (.agg #[.int .i64 0, .int .i64 s]) ∧ ∃ p : Regrown, w'' = grow (redrawn W2 p.d) p.os := fun d os => Calls.regrown_of (HR.out.ib _)
          have cMB : ∀ d os, Calls Tryd.prog 16 #[.int .i64 y, .int .i64 x] (grow (redrawn W2 d) os) fun e w'' => e = .returned (.agg #[.int .i64 0, .int .i64 m]) ∧ ∃ p : Regrown, w'' = grow (redrawn W2 p.d) p.os := fun d os => Calls.regrown_of (HR.out.mb _)
          by_cases hov : 1000000000000000 ≤ x + y
          · obtain rfl : s = 1000000000000000 := by have := HS.out; unfold addV at this; rw [if_pos hov] at this; exact this
            clear HS
            by_cases heq : x + y = 1000000000000000
            · have g5 : ((1000000000000000 : Int) == x + y) = true := by simp; omega
              refine wp_region_quiet_below (by kernel_rfl) (by kernel_rfl) ?_
              repeat (go_big_quiet_step (first | (go_at_call 15; exact cIB _ _) | (go_at_call 16; exact cMB _ _)))
              refine wpQuiet_nil ?_
              intro w9 hw9
              have hb9 : Below w.heap.size w w9 := by
                obtain ⟨⟨d, os⟩, rfl⟩ := hw9
                exact kB.trans ((below_regrown W2 d os).mono kB.size)
              clear cIB cMB q1 q2 q3 q4
              go_wp2_with fail
              go_ret
              exact ⟨rfl, hb9⟩
            · have g5 : ((1000000000000000 : Int) == x + y) = false := by simp; omega
              refine wp_region_quiet_below (by kernel_rfl) (by kernel_rfl) ?_
              repeat (go_big_quiet_step (first | (go_at_call 15; exact cIB _ _) | (go_at_call 16; exact cMB _ _)))
              refine wpQuiet_nil ?_
              intro w9 hw9
              have hb9 : Below w.heap.size w w9 := by
                obtain ⟨⟨d, os⟩, rfl⟩ := hw9
                exact kB.trans ((below_regrown W2 d os).mono kB.size)
              clear cIB cMB q1 q2 q3 q4
              go_wp2_with fail
              go_ret
              exact ⟨rfl, hb9⟩
          · obtain rfl : s = x + y := by have := HS.out; unfold addV at this; rw [if_neg hov] at this; exact this
            clear HS
            have g1 : decide (0 ≤ y) = true := by simpa using y0
            have g2 : decide (0 ≤ x) = true := by simpa using x0
            have g3 : decide (x ≤ x + y) = true := by simp; omega
            have g4 : decide (y ≤ x + y) = true := by simp; omega
            have g5 : decide (x + y ≤ 1000000000000000) = true := by simp; omega
            refine wp_region_quiet_below (by kernel_rfl) (by kernel_rfl) ?_
            repeat (go_big_quiet_step (first | (go_at_call 15; exact cIB _ _) | (go_at_call 16; exact cMB _ _)))
            refine wpQuiet_nil ?_
            intro w9 hw9
            have hb9 : Below w.heap.size w w9 := by
              obtain ⟨⟨d, os⟩, rfl⟩ := hw9
              exact kB.trans ((below_regrown W2 d os).mono kB.size)
            clear cIB cMB q1 q2 q3 q4
            go_wp2_with fail
            go_ret
            exact ⟨rfl, hb9⟩
end times
end Go.Proofs.YtgnlpjdndhciaaaDoor
