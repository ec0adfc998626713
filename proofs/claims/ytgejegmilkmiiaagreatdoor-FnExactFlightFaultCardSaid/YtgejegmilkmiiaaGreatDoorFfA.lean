/-
  Texts of one claim, one behind the other.
-/
import Derived.Deep.RegionHeld3
import Derived.Test.YtgejegmilkmiiaaGreatDoorMgC
/-
  The law of FlightFault.
-/
namespace Go.Proofs.YtgejegmilkmiiaaGreatDoor
open Go.ChangeShapes Go.WideShapes Go.ChangeAt Go.RowKit Go.Sort
theorem hidL {p : Prop} (h : p) : Hid p := h
set_option maxRecDepth 100000 in
set_option maxHeartbeats 16000000 in
theorem lawFlightFault (E : Errs) (w : World) (x : Fl) (r : FlR) (hset : SetIs w) (hE : ErrsIs w E) (hi : FlIn w x r) (hs : FlSm x) :
    Calls Tryz.prog 5 #[.agg #[.int .i64 x.id, .string x.key, .bool x.bk, .bool x.ot, .int .i64 x.du, .bool x.dm, .string x.m, .string x.h, .string x.p, .slice r.ha x.hs.length r.hc, .slice r.wa x.ws.length r.wc]] w fun e w' => e = .returned (.bool true) ∧ Below w.heap.size w w' := by
  obtain ⟨W, hW⟩ : ∃ W, W = w.alloc (.cells #[.int .i64 x.id, .string x.key, .bool x.bk, .bool x.ot, .int .i64 x.du, .bool x.dm, .string x.m, .string x.h, .string x.p, .slice r.ha x.hs.length r.hc, .slice r.wa x.ws.length r.wc] 59) := ⟨_, rfl⟩
  have HW : Hid (W = w.alloc (.cells #[.int .i64 x.id, .string x.key, .bool x.bk, .bool x.ot, .int .i64 x.du, .bool x.dm, .string x.m, .string x.h, .string x.p, .slice r.ha x.hs.length r.hc, .slice r.wa x.ws.length r.wc] 59)) := hW
  have B0 : Hid (Below w.heap.size w W) := by show Below _ _ _; rw [hW]; exact (Below.refl _ _).alloc (Nat.le_refl _) _
  have HE0 : Hid (∀ X, Below W.heap.size W X → Below w.heap.size w X ∧ E11 X w.heap.size (.int .i64 x.id) (.string x.key) (.bool x.bk) (.bool x.ot) (.int .i64 x.du) (.bool x.dm) (.string x.m) (.string x.h) (.string x.p) (.slice r.ha x.hs.length r.hc) (.slice r.wa x.ws.length r.wc)) := fun X hX => by
    have := E11.new w (.int .i64 x.id) (.string x.key) (.bool x.bk) (.bool x.ot) (.int .i64 x.du) (.bool x.dm) (.string x.m) (.string x.h) (.string x.p) (.slice r.ha x.hs.length r.hc) (.slice r.wa x.ws.length r.wc) 59
    rw [← hW] at this
    exact ⟨B0.out.trans (hX.mono B0.out.size), this.keep hX⟩
  have HZ : Hid (∀ X, Below w.heap.size w X → Calls Tryz.prog 29 #[.agg #[.int .i64 x.id, .string x.key, .bool x.bk, .bool x.ot, .int .i64 x.du, .bool x.dm, .string x.m, .string x.h, .string x.p, .slice r.ha x.hs.length r.hc, .slice r.wa x.ws.length r.wc], .int .i64 1048576] X fun e w' => e = .returned (.int .i64 (szF 1048576 x.key x.m x.h x.p x.hs x.ws.length)) ∧ Below X.heap.size X w') := fun X hX => szFlight_q X (x, r) 1048576 (by omega) (by omega) hs (hi.keep hX)
  have HR : Hid (¬ szF 1048576 x.key x.m x.h x.p x.hs x.ws.length < 0 → FlFit x) := fun h => by
    obtain ⟨a1, a2, a3, a4, a5, a6, _⟩ := szF_room (by omega) h
    exact ⟨a1, a2, a3, a4, a5, a6⟩
  have HT0 : Hid (FlFit x → ∀ X, Below w.heap.size w X → Calls Tryz.prog 30 #[.agg #[.int .i64 x.id, .string x.key, .bool x.bk, .bool x.ot, .int .i64 x.du, .bool x.dm, .string x.m, .string x.h, .string x.p, .slice r.ha x.hs.length r.hc, .slice r.wa x.ws.length r.wc]] X fun e w' => (∃ r', e = .returned (.agg #[.int .i64 x.id, .string x.key, .bool x.bk, .bool x.ot, .int .i64 x.du, .bool x.dm, .string x.m, .string x.h, .string x.p, .slice r'.ha x.hs.length r'.hc, .slice r'.wa x.ws.length r'.wc]) ∧ FlOwn w' x r') ∧ Below X.heap.size X w') := fun hf X hX => (toFlight_q X (x, r) hf.h hf.w (hi.keep hX)).mono fun e w' ⟨⟨r', a, b, _⟩, c⟩ => ⟨⟨r', a, b⟩, c⟩
  have HS0 : Hid (FlFit x → ∀ X r', FlIn X x r' → Calls Tryz.prog 19 #[.agg #[.int .i64 x.id, .string x.key, .bool x.bk, .bool x.ot, .int .i64 x.du, .bool x.dm, .string x.m, .string x.h, .string x.p, .slice r'.ha x.hs.length r'.hc, .slice r'.wa x.ws.length r'.wc]] X fun e w' => e = .returned (.int .i64 (flC x)) ∧ Below X.heap.size X w') := fun hf X r' hi' => specFl_any X x r' hf hi'
  have HG0 : Hid (FlFit x → ∀ X r', Below w.heap.size w X → FlIn X x r' → Calls Tryz.prog 18 #[.agg #[.int .i64 x.id, .string x.key, .bool x.bk, .bool x.ot, .int .i64 x.du, .bool x.dm, .string x.m, .string x.h, .string x.p, .slice r'.ha x.hs.length r'.hc, .slice r'.wa x.ws.length r'.wc]] X fun e w' => e = .returned (.int .i64 (flC x)) ∧ Below X.heap.size X w') := fun hf X r' hX hi' => implFl_any E X x r' hf (hset.below hX) (hE.below hX) hi'
  have HQ0 : Hid (FlFit x → ∀ X r1 r2, FlIn X x r1 → FlIn X x r2 → Calls Tryz.prog 31 #[.agg #[.int .i64 x.id, .string x.key, .bool x.bk, .bool x.ot, .int .i64 x.du, .bool x.dm, .string x.m, .string x.h, .string x.p, .slice r1.ha x.hs.length r1.hc, .slice r1.wa x.ws.length r1.wc], .agg #[.int .i64 x.id, .string x.key, .bool x.bk, .bool x.ot, .int .i64 x.du, .bool x.dm, .string x.m, .string x.h, .string x.p, .slice r2.ha x.hs.length r2.hc, .slice r2.wa x.ws.length r2.wc]] X fun e w' => e = .returned (.bool true) ∧ Below X.heap.size X w') := fun hf X r1 r2 h1 h2 => eqFlight_q X x r1 r2 hf h1 h2
  clear hset hE hi hs hW B0
  generalize flC x = fc at *
  generalize szF 1048576 x.key x.m x.h x.p x.hs x.ws.length = sz at *
  obtain ⟨X0, hX0⟩ : ∃ y, Hid (y = x) := ⟨x, rfl⟩
  have HIN : Hid (∀ W r', FlOwn W x r' → (∀ X, Below W.heap.size W X → FlIn X x r')) := fun W r' h X hX => h.in.keep hX
  generalize hOW : FlOwn = OW at HT0 HIN
  generalize hFI : FlIn = FI at HS0 HG0 HQ0 HIN
  clear hOW hFI hX0 X0
  generalize hFF : FlFit x = FF at *
  clear hFF
  obtain ⟨id, key, bk, ot, du, dm, m, h, p, hs, ws⟩ := x
  obtain ⟨ha, hc, wa, wc⟩ := r
  simp only at HW HE0 HZ HT0 HS0 HG0 HQ0 ⊢
  generalize hxx : Fl.mk id key bk ot du dm m h p hs ws = x at *
  clear hxx
  generalize hs.length = hl at *
  generalize ws.length = wn at *
  go_enter Tryz.func5, Tryz.ntmps5
  go_wp2_with fail
  rw [← HW.out]
  clear HW
  refine (HZ.out _ (HE0.out W (Below.refl _ _)).1).mono ?_
  rintro z0 w1 ⟨rfl, hb1⟩
  have HE1 : Hid (∀ X, Below w1.heap.size w1 X → Below w.heap.size w X ∧ E11 X w.heap.size (.int .i64 id) (.string key) (.bool bk) (.bool ot) (.int .i64 du) (.bool dm) (.string m) (.string h) (.string p) (.slice ha hl hc) (.slice wa wn wc)) := fun X hX => HE0.out X (hb1.trans (hX.mono hb1.size))
  clear hb1 HE0 HZ
  by_cases d1 : sz < 0
  · have BB := (HE1.out w1 (Below.refl _ _)).1
    go_wp2_with fail
    go_ret
    exact ⟨rfl, BB⟩
  have HF := HR.out (by omega)
  have HT := hidL (HT0.out HF)
  have HS := hidL (HS0.out HF)
  have HG := hidL (HG0.out HF)
  have HQ := hidL (HQ0.out HF)
  clear HT0 HS0 HG0 HQ0 HR HF
  obtain ⟨e0, e1, e2, e3, e4, e5, e6, e7, e8, e9, e10, _, _⟩ := (HE1.out w1 (Below.refl _ _)).2
  go_wp2_with fail
  refine (HT.out _ (HE1.out w1 (Below.refl _ _)).1).mono ?_
  rintro z0 w2 ⟨⟨⟨ha2, hc2, wa2, wc2⟩, rfl, ow2⟩, hb2⟩
  simp only
  have HE2 : Hid (∀ X, Below w2.heap.size w2 X → Below w.heap.size w X ∧ E11 X w.heap.size (.int .i64 id) (.string key) (.bool bk) (.bool ot) (.int .i64 du) (.bool dm) (.string m) (.string h) (.string p) (.slice ha hl hc) (.slice wa wn wc)) := fun X hX => HE1.out X (hb2.trans (hX.mono hb2.size))
  have HI2 := HIN.out w2 _ ow2
  have HI2' : Hid (FI w2 x ⟨ha2, hc2, wa2, wc2⟩) := HI2 w2 (Below.refl _ _)
  clear hb2 HE1 ow2 HI2 e0 e1 e2 e3 e4 e5 e6 e7 e8 e9 e10
  go_wp2_with fail
  refine (HS.out w2 ⟨ha2, hc2, wa2, wc2⟩ HI2'.out).mono ?_
  rintro z0 w3 ⟨rfl, hb3⟩
  have HE3 : Hid (∀ X, Below w3.heap.size w3 X → Below w.heap.size w X ∧ E11 X w.heap.size (.int .i64 id) (.string key) (.bool bk) (.bool ot) (.int .i64 du) (.bool dm) (.string m) (.string h) (.string p) (.slice ha hl hc) (.slice wa wn wc)) := fun X hX => HE2.out X (hb3.trans (hX.mono hb3.size))
  clear hb3 HE2 HI2' HS
  obtain ⟨e0, e1, e2, e3, e4, e5, e6, e7, e8, e9, e10, _, _⟩ := (HE3.out w3 (Below.refl _ _)).2
  go_wp2_with fail
  refine (HT.out _ (HE3.out w3 (Below.refl _ _)).1).mono ?_
  rintro z0 w4 ⟨⟨⟨ha3, hc3, wa3, wc3⟩, rfl, ow4⟩, hb4⟩
  simp only
  obtain ⟨V, hV⟩ : ∃ V, V = w4.alloc (.cells #[.int .i64 id, .string key, .bool bk, .bool ot, .int .i64 du, .bool dm, .string m, .string h, .string p, .slice ha3 hl hc3, .slice wa3 wn wc3] 29) := ⟨_, rfl⟩
  have HV : Hid (V = w4.alloc (.cells #[.int .i64 id, .string key, .bool bk, .bool ot, .int .i64 du, .bool dm, .string m, .string h, .string p, .slice ha3 hl hc3, .slice wa3 wn wc3] 29)) := hV
  have HI4 := HIN.out w4 _ ow4
  have HE5 : Hid (∀ X, Below V.heap.size V X → Below w.heap.size w X ∧ E11 X w.heap.size (.int .i64 id) (.string key) (.bool bk) (.bool ot) (.int .i64 du) (.bool dm) (.string m) (.string h) (.string p) (.slice ha hl hc) (.slice wa wn wc) ∧ E11 X w4.heap.size (.int .i64 id) (.string key) (.bool bk) (.bool ot) (.int .i64 du) (.bool dm) (.string m) (.string h) (.string p) (.slice ha3 hl hc3) (.slice wa3 wn wc3) ∧ FI X x ⟨ha3, hc3, wa3, wc3⟩) := fun X hX => by
    have al : Below w4.heap.size w4 V := by rw [hV]; exact (Below.refl _ _).alloc (Nat.le_refl _) _
    have b1 := al.trans (hX.mono al.size)
    have b2 := hb4.trans (b1.mono hb4.size)
    have e := E11.new w4 (.int .i64 id) (.string key) (.bool bk) (.bool ot) (.int .i64 du) (.bool dm) (.string m) (.string h) (.string p) (.slice ha3 hl hc3) (.slice wa3 wn wc3) 29
    rw [← hV] at e
    exact ⟨(HE3.out X b2).1, (HE3.out X b2).2, e.keep hX, HI4 X b1⟩
  clear hb4 HE3 ow4 HI4 hV e0 e1 e2 e3 e4 e5 e6 e7 e8 e9 e10
  go_upto_region 7 with fail
  rw [← HV.out]
  clear HV
  generalize w4.heap.size = M at *
  clear w4
  obtain ⟨e0, e1, e2, e3, e4, e5, e6, e7, e8, e9, e10, _, _⟩ := (HE5.out V (Below.refl _ _)).2.2.1
  go_wp2_with fail
  refine (HG.out V ⟨ha3, hc3, wa3, wc3⟩ (HE5.out V (Below.refl _ _)).1 (HE5.out V (Below.refl _ _)).2.2.2).mono ?_
  rintro z0 w6 ⟨rfl, hb6⟩
  have HE6 : Hid (∀ X, Below w6.heap.size w6 X → Below w.heap.size w X ∧ E11 X w.heap.size (.int .i64 id) (.string key) (.bool bk) (.bool ot) (.int .i64 du) (.bool dm) (.string m) (.string h) (.string p) (.slice ha hl hc) (.slice wa wn wc) ∧ E11 X M (.int .i64 id) (.string key) (.bool bk) (.bool ot) (.int .i64 du) (.bool dm) (.string m) (.string h) (.string p) (.slice ha3 hl hc3) (.slice wa3 wn wc3) ∧ FI X x ⟨ha3, hc3, wa3, wc3⟩) := fun X hX => HE5.out X (hb6.trans (hX.mono hb6.size))
  clear hb6 HE5 HG e0 e1 e2 e3 e4 e5 e6 e7 e8 e9 e10
  have HKS : Hid (∀ X, Below w6.heap.size w6 X → X.cell? ⟨w.heap.size, 0, none⟩ = some (.int .i64 id) ∧ X.cell? ⟨w.heap.size, 1, none⟩ = some (.string key) ∧ X.cell? ⟨w.heap.size, 2, none⟩ = some (.bool bk) ∧ X.cell? ⟨w.heap.size, 3, none⟩ = some (.bool ot) ∧ X.cell? ⟨w.heap.size, 4, none⟩ = some (.int .i64 du) ∧ X.cell? ⟨w.heap.size, 5, none⟩ = some (.bool dm) ∧ X.cell? ⟨w.heap.size, 6, none⟩ = some (.string m) ∧ X.cell? ⟨w.heap.size, 7, none⟩ = some (.string h) ∧ X.cell? ⟨w.heap.size, 8, none⟩ = some (.string p) ∧ X.cell? ⟨w.heap.size, 9, none⟩ = some (.slice ha hl hc) ∧ X.cell? ⟨w.heap.size, 10, none⟩ = some (.slice wa wn wc) ∧ X.cell? ⟨M, 0, none⟩ = some (.int .i64 id) ∧ X.cell? ⟨M, 1, none⟩ = some (.string key) ∧ X.cell? ⟨M, 2, none⟩ = some (.bool bk) ∧ X.cell? ⟨M, 3, none⟩ = some (.bool ot) ∧ X.cell? ⟨M, 4, none⟩ = some (.int .i64 du) ∧ X.cell? ⟨M, 5, none⟩ = some (.bool dm) ∧ X.cell? ⟨M, 6, none⟩ = some (.string m) ∧ X.cell? ⟨M, 7, none⟩ = some (.string h) ∧ X.cell? ⟨M, 8, none⟩ = some (.string p) ∧ X.cell? ⟨M, 9, none⟩ = some (.slice ha3 hl hc3) ∧ X.cell? ⟨M, 10, none⟩ = some (.slice wa3 wn wc3)) := fun X hX => by
    obtain ⟨_, q1, q2, _⟩ := HE6.out X hX
    exact ⟨q1.c0, q1.c1, q1.c2, q1.c3, q1.c4, q1.c5, q1.c6, q1.c7, q1.c8, q1.c9, q1.c10, q2.c0, q2.c1, q2.c2, q2.c3, q2.c4, q2.c5, q2.c6, q2.c7, q2.c8, q2.c9, q2.c10⟩
  have BZ : Hid (Below w6.heap.size w6 w6.drew) := (Below.refl _ _).drew
  go_upto_region 10 with fail
  go_region_held3 (fun X => X.cell? ⟨w.heap.size, 0, none⟩ = some (.int .i64 id) ∧ X.cell? ⟨w.heap.size, 1, none⟩ = some (.string key) ∧ X.cell? ⟨w.heap.size, 2, none⟩ = some (.bool bk) ∧ X.cell? ⟨w.heap.size, 3, none⟩ = some (.bool ot) ∧ X.cell? ⟨w.heap.size, 4, none⟩ = some (.int .i64 du) ∧ X.cell? ⟨w.heap.size, 5, none⟩ = some (.bool dm) ∧ X.cell? ⟨w.heap.size, 6, none⟩ = some (.string m) ∧ X.cell? ⟨w.heap.size, 7, none⟩ = some (.string h) ∧ X.cell? ⟨w.heap.size, 8, none⟩ = some (.string p) ∧ X.cell? ⟨w.heap.size, 9, none⟩ = some (.slice ha hl hc) ∧ X.cell? ⟨w.heap.size, 10, none⟩ = some (.slice wa wn wc) ∧ X.cell? ⟨M, 0, none⟩ = some (.int .i64 id) ∧ X.cell? ⟨M, 1, none⟩ = some (.string key) ∧ X.cell? ⟨M, 2, none⟩ = some (.bool bk) ∧ X.cell? ⟨M, 3, none⟩ = some (.bool ot) ∧ X.cell? ⟨M, 4, none⟩ = some (.int .i64 du) ∧ X.cell? ⟨M, 5, none⟩ = some (.bool dm) ∧ X.cell? ⟨M, 6, none⟩ = some (.string m) ∧ X.cell? ⟨M, 7, none⟩ = some (.string h) ∧ X.cell? ⟨M, 8, none⟩ = some (.string p) ∧ X.cell? ⟨M, 9, none⟩ = some (.slice ha3 hl hc3) ∧ X.cell? ⟨M, 10, none⟩ = some (.slice wa3 wn wc3))
    (first | ((with_reducible refine HKS.out _ ?_); (with_reducible exact BB.out)) | ((with_reducible refine HKS.out _ ?_); (with_reducible exact BA.out)) | ((with_reducible refine HKS.out _ ?_); (with_reducible exact BZ.out)))
    (first
    | (go_at_call 30; (with_reducible refine (HT.out _ (HE6.out _ BZ.out).1).mono ?_); rintro z0 u1 ⟨⟨⟨ha4, hc4, wa4, wc4⟩, rfl, ow5⟩, hbu⟩; simp only; have BA : Hid (Below w6.heap.size w6 u1) := BZ.out.trans (hbu.mono BZ.out.size); have HI5 : Hid (FI u1 x ⟨ha4, hc4, wa4, wc4⟩) := HIN.out u1 _ ow5 u1 (Below.refl _ _); clear hbu ow5)
    | (go_at_call 31; (with_reducible refine (HQ.out u1 ⟨ha3, hc3, wa3, wc3⟩ ⟨ha4, hc4, wa4, wc4⟩ (HE6.out _ BA.out).2.2.2 HI5.out).mono ?_); rintro z0 u2 ⟨rfl, hbv⟩; have BB : Hid (Below w6.heap.size w6 u2) := BA.out.trans (hbv.mono BA.out.size); clear hbv))
  have BF := (HE6.out u2 BB.out).1
  go_wp2_with fail
  go_ret
  exact ⟨rfl, BF⟩
end Go.Proofs.YtgejegmilkmiiaaGreatDoor
