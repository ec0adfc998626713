/-
  Two entries, held against each other by the program.
-/
import Derived.Test.YtapnjbdlljnnhaaSameEnt0
namespace Go.Proofs.Ytapnjbdlljnnhaa
open Go.ChangeShapes Go.WideShapes Go.ChangeAt Go.RowKit Go.Sort
set_option maxRecDepth 100000 in
set_option maxHeartbeats 16000000 in
theorem implSameE_any (w : World) (x y : Ent) (r s : EntR) (hf : EntFit x) (hx : EntIn w x r) (hy : EntIn w y s) :
    Calls Try.prog 13 #[.agg #[.string x.key, .int .i64 x.st, .slice r.ha x.hs.length r.hc, .slice r.ba x.bl.length r.bc, .int .i64 x.t, .int .i64 x.g, .int .i64 x.l, .int .i64 x.s, .int .i64 x.e, .bool x.b1, .bool x.b2, .slice r.ta x.ts.length r.tc, .int .i64 x.pins], .agg #[.string y.key, .int .i64 y.st, .slice s.ha y.hs.length s.hc, .slice s.ba y.bl.length s.bc, .int .i64 y.t, .int .i64 y.g, .int .i64 y.l, .int .i64 y.s, .int .i64 y.e, .bool y.b1, .bool y.b2, .slice s.ta y.ts.length s.tc, .int .i64 y.pins]] w fun e w' => e = .returned (.bool (sameE x y)) ∧ Below w.heap.size w w' := by
  have HH : Hid (∀ X, Below w.heap.size w X → Calls Try.prog 18 #[.slice r.ha x.hs.length r.hc, .slice s.ha y.hs.length s.hc] X fun e w' => e = .returned (.bool (sameHs x.hs y.hs)) ∧ Below X.heap.size X w') := fun X hb => implSameH_any X _ _ _ _ _ _ hf.h (hx.h.keep hb) (hy.h.keep hb)
  have HT : Hid (∀ X, Below w.heap.size w X → Calls Try.prog 20 #[.slice r.ta x.ts.length r.tc, .slice s.ta y.ts.length s.tc] X fun e w' => e = .returned (.bool (sameTs x.ts y.ts)) ∧ Below X.heap.size X w') := fun X hb => equalTexts_any X _ _ _ _ _ _ hf.t (hx.k.keep hb) (hy.k.keep hb)
  have HBT : Hid (∀ X, Below w.heap.size w X → Calls Try.prog 19 #[.slice r.ba x.bl.length r.bc, .slice s.ba y.bl.length s.bc] X fun e w' => e = .returned (.bool ((⟨x.bl.toArray⟩ : ByteArray).toList == (⟨y.bl.toArray⟩ : ByteArray).toList)) ∧ w' = X) := fun X hb => bytesEqual_any X _ _ _ _ _ _ (hx.b.keep hb) (hy.b.keep hb)
  have em : ∀ w, (binOp .eql 39 (.agg #[.int .i64 x.t, .int .i64 x.g, .int .i64 x.l, .int .i64 x.s, .int .i64 x.e, .bool x.b1, .bool x.b2]) (.agg #[.int .i64 y.t, .int .i64 y.g, .int .i64 y.l, .int .i64 y.s, .int .i64 y.e, .bool y.b1, .bool y.b2])).run Try.prog w = .ok (.bool (sameM x.t x.g x.l x.s x.e x.b1 x.b2 y.t y.g y.l y.s y.e y.b1 y.b2)) w := fun w => eqlMeta _ _ _ _ _ _ _ _ _ _ _ _ _ _ w
  have hgd := guardMeta
  obtain ⟨Z, hZ⟩ : ∃ Z, sameE x y = Z := ⟨_, rfl⟩
  rw [hZ]
  unfold sameE at hZ
  have HZ : Hid (_ = Z) := hZ
  clear hZ
  generalize (⟨x.bl.toArray⟩ : ByteArray) = xb at *
  generalize (⟨y.bl.toArray⟩ : ByteArray) = yb at *
  generalize sameM x.t x.g x.l x.s x.e x.b1 x.b2 y.t y.g y.l y.s y.e y.b1 y.b2 = mb at *
  generalize sameHs x.hs y.hs = hb0 at *
  generalize sameTs x.ts y.ts = tb at *
  obtain ⟨V, hV⟩ : ∃ V, V = (w.alloc (.cells #[.string x.key, .int .i64 x.st, .slice r.ha x.hs.length r.hc, .slice r.ba x.bl.length r.bc, .int .i64 x.t, .int .i64 x.g, .int .i64 x.l, .int .i64 x.s, .int .i64 x.e, .bool x.b1, .bool x.b2, .slice r.ta x.ts.length r.tc, .int .i64 x.pins] 42)).alloc (.cells #[.string y.key, .int .i64 y.st, .slice s.ha y.hs.length s.hc, .slice s.ba y.bl.length s.bc, .int .i64 y.t, .int .i64 y.g, .int .i64 y.l, .int .i64 y.s, .int .i64 y.e, .bool y.b1, .bool y.b2, .slice s.ta y.ts.length s.tc, .int .i64 y.pins] 42) := ⟨_, rfl⟩
  have HV : Hid (V = (w.alloc (.cells #[.string x.key, .int .i64 x.st, .slice r.ha x.hs.length r.hc, .slice r.ba x.bl.length r.bc, .int .i64 x.t, .int .i64 x.g, .int .i64 x.l, .int .i64 x.s, .int .i64 x.e, .bool x.b1, .bool x.b2, .slice r.ta x.ts.length r.tc, .int .i64 x.pins] 42)).alloc (.cells #[.string y.key, .int .i64 y.st, .slice s.ha y.hs.length s.hc, .slice s.ba y.bl.length s.bc, .int .i64 y.t, .int .i64 y.g, .int .i64 y.l, .int .i64 y.s, .int .i64 y.e, .bool y.b1, .bool y.b2, .slice s.ta y.ts.length s.tc, .int .i64 y.pins] 42)) := hV
  have HK : Hid (Below w.heap.size w V ∧ E13 V w.heap.size (.string x.key) (.int .i64 x.st) (.slice r.ha x.hs.length r.hc) (.slice r.ba x.bl.length r.bc) (.int .i64 x.t) (.int .i64 x.g) (.int .i64 x.l) (.int .i64 x.s) (.int .i64 x.e) (.bool x.b1) (.bool x.b2) (.slice r.ta x.ts.length r.tc) (.int .i64 x.pins) ∧ E13 V (w.heap.size + 1) (.string y.key) (.int .i64 y.st) (.slice s.ha y.hs.length s.hc) (.slice s.ba y.bl.length s.bc) (.int .i64 y.t) (.int .i64 y.g) (.int .i64 y.l) (.int .i64 y.s) (.int .i64 y.e) (.bool y.b1) (.bool y.b2) (.slice s.ta y.ts.length s.tc) (.int .i64 y.pins)) := by
    rw [hV]
    refine ⟨((Below.refl _ _).alloc (Nat.le_refl _) _).alloc (by simp) _, (E13.new w _ _ _ _ _ _ _ _ _ _ _ _ _ _).keep ((Below.refl _ _).alloc (Nat.le_refl _) _), ?_⟩
    have := E13.new (w.alloc (.cells #[.string x.key, .int .i64 x.st, .slice r.ha x.hs.length r.hc, .slice r.ba x.bl.length r.bc, .int .i64 x.t, .int .i64 x.g, .int .i64 x.l, .int .i64 x.s, .int .i64 x.e, .bool x.b1, .bool x.b2, .slice r.ta x.ts.length r.tc, .int .i64 x.pins] 42)) (.string y.key) (.int .i64 y.st) (.slice s.ha y.hs.length s.hc) (.slice s.ba y.bl.length s.bc) (.int .i64 y.t) (.int .i64 y.g) (.int .i64 y.l) (.int .i64 y.s) (.int .i64 y.e) (.bool y.b1) (.bool y.b2) (.slice s.ta y.ts.length s.tc) (.int .i64 y.pins) 42
    simpa using this
  clear hV hx hy hf
  obtain ⟨kx, stx, hsx, blx, tx, gx, lx, swx, ex, px, qx, tsx, pnx⟩ := x
  obtain ⟨hax, hcx, bax, bcx, tax, tcx⟩ := r
  obtain ⟨ky, sty, hsy, bly, ty, gy, ly, swy, ey, py, qy, tsy, pny⟩ := y
  obtain ⟨hay, hcy, bay, bcy, tay, tcy⟩ := s
  simp only at HH HT HBT em HZ HK HV
  generalize hsx.length = hnx at *
  generalize blx.length = bnx at *
  generalize tsx.length = tnx at *
  generalize hsy.length = hny at *
  generalize bly.length = bny at *
  generalize tsy.length = tny at *
  rcases Decidable.em (kx.toList = ky.toList) with cK | cK
  rotate_left
  · have HR : Hid (false = Z) := by show false = Z; rw [← HZ.out]; simp [cK]
    clear HZ
    have cK1 : (kx.toList == ky.toList) = false := by simp [cK]
    go_enter Try.func13, Try.ntmps13
    go_wp2_with fail
    go_ret
    exact ⟨ret_bool HR.out, HV.out ▸ HK.out.1⟩
  have cK1 : (kx.toList == ky.toList) = true := by simp [cK]
  rcases Decidable.em (stx = sty) with cS | cS
  rotate_left
  · have HR : Hid (false = Z) := by show false = Z; rw [← HZ.out]; simp [cS]
    clear HZ
    go_enter Try.func13, Try.ntmps13
    go_wp2_with fail
    go_ret
    exact ⟨ret_bool HR.out, HV.out ▸ HK.out.1⟩
  subst cS
  cases mb
  · have HR : Hid (false = Z) := by show false = Z; rw [← HZ.out]; simp
    clear HZ
    go_enter Try.func13, Try.ntmps13
    go_wp2_with fail
    go_ret
    exact ⟨ret_bool HR.out, HV.out ▸ HK.out.1⟩
  rcases Decidable.em (pnx = pny) with cP | cP
  rotate_left
  · have HR : Hid (false = Z) := by show false = Z; rw [← HZ.out]; simp [cP]
    clear HZ
    go_enter Try.func13, Try.ntmps13
    go_wp2_with fail
    go_ret
    exact ⟨ret_bool HR.out, HV.out ▸ HK.out.1⟩
  subst cP
  cases hb0
  · have HR : Hid (false = Z) := by show false = Z; rw [← HZ.out]; simp
    clear HZ
    go_enter Try.func13, Try.ntmps13
    go_wp2_with fail
    rw [← HV.out]
    refine (HH.out _ HK.out.1).mono ?_
    rintro r0 w1 ⟨rfl, hb1⟩
    have B1 : Hid (Below w.heap.size w w1) := HK.out.1.trans (hb1.mono HK.out.1.size)
    have KK1 := And.intro ((HK.out.2).1.keep hb1) ((HK.out.2).2.keep hb1)
    have a0 := (KK1).1.c0
    have a1 := (KK1).1.c1
    have a2 := (KK1).1.c2
    have a3 := (KK1).1.c3
    have a4 := (KK1).1.c4
    have a5 := (KK1).1.c5
    have a6 := (KK1).1.c6
    have a7 := (KK1).1.c7
    have a8 := (KK1).1.c8
    have a9 := (KK1).1.c9
    have a10 := (KK1).1.c10
    have a11 := (KK1).1.c11
    have a12 := (KK1).1.c12
    have b0 := (KK1).2.c0
    have b1 := (KK1).2.c1
    have b2 := (KK1).2.c2
    have b3 := (KK1).2.c3
    have b4 := (KK1).2.c4
    have b5 := (KK1).2.c5
    have b6 := (KK1).2.c6
    have b7 := (KK1).2.c7
    have b8 := (KK1).2.c8
    have b9 := (KK1).2.c9
    have b10 := (KK1).2.c10
    have b11 := (KK1).2.c11
    have b12 := (KK1).2.c12
    clear hb1
    go_wp2_with fail
    go_ret
    exact ⟨ret_bool HR.out, B1.out⟩
  rcases Decidable.em (xb.toList = yb.toList) with cB0 | cB0
  rotate_left
  · have HR : Hid (false = Z) := by show false = Z; rw [← HZ.out]; simp [cB0]
    clear HZ
    have cB : (xb.toList == yb.toList) = false := by simp [cB0]
    go_enter Try.func13, Try.ntmps13
    go_wp2_with fail
    rw [← HV.out]
    refine (HH.out _ HK.out.1).mono ?_
    rintro r0 w1 ⟨rfl, hb1⟩
    have B1 : Hid (Below w.heap.size w w1) := HK.out.1.trans (hb1.mono HK.out.1.size)
    have KK1 := And.intro ((HK.out.2).1.keep hb1) ((HK.out.2).2.keep hb1)
    have a0 := (KK1).1.c0
    have a1 := (KK1).1.c1
    have a2 := (KK1).1.c2
    have a3 := (KK1).1.c3
    have a4 := (KK1).1.c4
    have a5 := (KK1).1.c5
    have a6 := (KK1).1.c6
    have a7 := (KK1).1.c7
    have a8 := (KK1).1.c8
    have a9 := (KK1).1.c9
    have a10 := (KK1).1.c10
    have a11 := (KK1).1.c11
    have a12 := (KK1).1.c12
    have b0 := (KK1).2.c0
    have b1 := (KK1).2.c1
    have b2 := (KK1).2.c2
    have b3 := (KK1).2.c3
    have b4 := (KK1).2.c4
    have b5 := (KK1).2.c5
    have b6 := (KK1).2.c6
    have b7 := (KK1).2.c7
    have b8 := (KK1).2.c8
    have b9 := (KK1).2.c9
    have b10 := (KK1).2.c10
    have b11 := (KK1).2.c11
    have b12 := (KK1).2.c12
    clear hb1
    go_wp2_with fail
    refine (HBT.out _ B1.out).mono ?_
    rintro r0 w2 ⟨rfl, rfl⟩
    rw [cB]
    go_wp2_with fail
    go_ret
    exact ⟨ret_bool HR.out, B1.out⟩
  have cB : (xb.toList == yb.toList) = true := by simp [cB0]
  cases tb
  · have HR : Hid (false = Z) := by show false = Z; rw [← HZ.out]; simp
    clear HZ
    go_enter Try.func13, Try.ntmps13
    go_wp2_with fail
    rw [← HV.out]
    refine (HH.out _ HK.out.1).mono ?_
    rintro r0 w1 ⟨rfl, hb1⟩
    have B1 : Hid (Below w.heap.size w w1) := HK.out.1.trans (hb1.mono HK.out.1.size)
    have KK1 := And.intro ((HK.out.2).1.keep hb1) ((HK.out.2).2.keep hb1)
    have a0 := (KK1).1.c0
    have a1 := (KK1).1.c1
    have a2 := (KK1).1.c2
    have a3 := (KK1).1.c3
    have a4 := (KK1).1.c4
    have a5 := (KK1).1.c5
    have a6 := (KK1).1.c6
    have a7 := (KK1).1.c7
    have a8 := (KK1).1.c8
    have a9 := (KK1).1.c9
    have a10 := (KK1).1.c10
    have a11 := (KK1).1.c11
    have a12 := (KK1).1.c12
    have b0 := (KK1).2.c0
    have b1 := (KK1).2.c1
    have b2 := (KK1).2.c2
    have b3 := (KK1).2.c3
    have b4 := (KK1).2.c4
    have b5 := (KK1).2.c5
    have b6 := (KK1).2.c6
    have b7 := (KK1).2.c7
    have b8 := (KK1).2.c8
    have b9 := (KK1).2.c9
    have b10 := (KK1).2.c10
    have b11 := (KK1).2.c11
    have b12 := (KK1).2.c12
    clear hb1
    go_wp2_with fail
    refine (HBT.out _ B1.out).mono ?_
    rintro r0 w2 ⟨rfl, rfl⟩
    rw [cB]
    go_wp2_with fail
    refine (HT.out _ B1.out).mono ?_
    rintro r0 w3 ⟨rfl, hb3⟩
    have B3 : Hid (Below w.heap.size w w3) := B1.out.trans (hb3.mono B1.out.size)
    have KK3 := And.intro ((KK1).1.keep hb3) ((KK1).2.keep hb3)
    clear a0 a1 a2 a3 a4 a5 a6 a7 a8 a9 a10 a11 a12 b0 b1 b2 b3 b4 b5 b6 b7 b8 b9 b10 b11 b12
    have a0 := (KK3).1.c0
    have a1 := (KK3).1.c1
    have a2 := (KK3).1.c2
    have a3 := (KK3).1.c3
    have a4 := (KK3).1.c4
    have a5 := (KK3).1.c5
    have a6 := (KK3).1.c6
    have a7 := (KK3).1.c7
    have a8 := (KK3).1.c8
    have a9 := (KK3).1.c9
    have a10 := (KK3).1.c10
    have a11 := (KK3).1.c11
    have a12 := (KK3).1.c12
    have b0 := (KK3).2.c0
    have b1 := (KK3).2.c1
    have b2 := (KK3).2.c2
    have b3 := (KK3).2.c3
    have b4 := (KK3).2.c4
    have b5 := (KK3).2.c5
    have b6 := (KK3).2.c6
    have b7 := (KK3).2.c7
    have b8 := (KK3).2.c8
    have b9 := (KK3).2.c9
    have b10 := (KK3).2.c10
    have b11 := (KK3).2.c11
    have b12 := (KK3).2.c12
    clear hb3
    go_wp2_with fail
    go_ret
    exact ⟨ret_bool HR.out, B3.out⟩
  have HR : Hid (true = Z) := by show true = Z; rw [← HZ.out]; simp [cK, cB0]
  clear HZ
  go_enter Try.func13, Try.ntmps13
  go_wp2_with fail
  rw [← HV.out]
  refine (HH.out _ HK.out.1).mono ?_
  rintro r0 w1 ⟨rfl, hb1⟩
  have B1 : Hid (Below w.heap.size w w1) := HK.out.1.trans (hb1.mono HK.out.1.size)
  have KK1 := And.intro ((HK.out.2).1.keep hb1) ((HK.out.2).2.keep hb1)
  have a0 := (KK1).1.c0
  have a1 := (KK1).1.c1
  have a2 := (KK1).1.c2
  have a3 := (KK1).1.c3
  have a4 := (KK1).1.c4
  have a5 := (KK1).1.c5
  have a6 := (KK1).1.c6
  have a7 := (KK1).1.c7
  have a8 := (KK1).1.c8
  have a9 := (KK1).1.c9
  have a10 := (KK1).1.c10
  have a11 := (KK1).1.c11
  have a12 := (KK1).1.c12
  have b0 := (KK1).2.c0
  have b1 := (KK1).2.c1
  have b2 := (KK1).2.c2
  have b3 := (KK1).2.c3
  have b4 := (KK1).2.c4
  have b5 := (KK1).2.c5
  have b6 := (KK1).2.c6
  have b7 := (KK1).2.c7
  have b8 := (KK1).2.c8
  have b9 := (KK1).2.c9
  have b10 := (KK1).2.c10
  have b11 := (KK1).2.c11
  have b12 := (KK1).2.c12
  clear hb1
  go_wp2_with fail
  refine (HBT.out _ B1.out).mono ?_
  rintro r0 w2 ⟨rfl, rfl⟩
  rw [cB]
  go_wp2_with fail
  refine (HT.out _ B1.out).mono ?_
  rintro r0 w3 ⟨rfl, hb3⟩
  have B3 : Hid (Below w.heap.size w w3) := B1.out.trans (hb3.mono B1.out.size)
  have KK3 := And.intro ((KK1).1.keep hb3) ((KK1).2.keep hb3)
  clear a0 a1 a2 a3 a4 a5 a6 a7 a8 a9 a10 a11 a12 b0 b1 b2 b3 b4 b5 b6 b7 b8 b9 b10 b11 b12
  have a0 := (KK3).1.c0
  have a1 := (KK3).1.c1
  have a2 := (KK3).1.c2
  have a3 := (KK3).1.c3
  have a4 := (KK3).1.c4
  have a5 := (KK3).1.c5
  have a6 := (KK3).1.c6
  have a7 := (KK3).1.c7
  have a8 := (KK3).1.c8
  have a9 := (KK3).1.c9
  have a10 := (KK3).1.c10
  have a11 := (KK3).1.c11
  have a12 := (KK3).1.c12
  have b0 := (KK3).2.c0
  have b1 := (KK3).2.c1
  have b2 := (KK3).2.c2
  have b3 := (KK3).2.c3
  have b4 := (KK3).2.c4
  have b5 := (KK3).2.c5
  have b6 := (KK3).2.c6
  have b7 := (KK3).2.c7
  have b8 := (KK3).2.c8
  have b9 := (KK3).2.c9
  have b10 := (KK3).2.c10
  have b11 := (KK3).2.c11
  have b12 := (KK3).2.c12
  clear hb3
  go_wp2_with fail
  go_ret
  exact ⟨ret_bool HR.out, B3.out⟩
end Go.Proofs.Ytapnjbdlljnnhaa
