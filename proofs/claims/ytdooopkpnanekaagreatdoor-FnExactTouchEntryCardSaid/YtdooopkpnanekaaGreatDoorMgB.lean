/-
  Texts of one claim, one behind the other.
-/
import Derived.BigQuiet
import Derived.Deep.RegionWith
import Derived.Lib.Join
import Derived.Lib.LaidTab
import Derived.Lib.QuietBelow
import Derived.Lib.SlTrimSet
import Derived.MakeChecks
import Derived.Maps.OwnSet
import Derived.Stop.LaidErr
import Derived.Test.YtdooopkpnanekaaGreatDoorRows
import Derived.Test.YtdooopkpnanekaaGreatDoorMgA
/-
  An entry that is copied, by the model.
-/
namespace Go.Proofs.YtdooopkpnanekaaGreatDoor
open Go.ChangeShapes Go.WideShapes Go.ChangeAt Go.RowKit Go.Sort
/-- An entry whose lists are rows of its own. -/
structure EntRow (w : World) (base : Nat) (x : Ent) (r : EntR) : Prop where
  h : RowH w base (.slice r.ha x.hs.length r.hc) x.hs
  b : RowB w base (.slice r.ba x.bl.length r.bc) x.bl
  t : RowT w base (.slice r.ta x.ts.length r.tc) x.ts
  n1 : r.ha = none ∨ r.ha ≠ r.ba
  n2 : r.ha = none ∨ r.ha ≠ r.ta
  n3 : r.ba = none ∨ r.ba ≠ r.ta
theorem row_off2 {w : World} {base : Nat} {e : TypeId} {size : Nat} {v : Value} {n : Nat} {xs : List Value} (h : w.ownsRow base e size v n xs) {b i : Nat} (u : Value) (hb : b < base) : (w.setCell ⟨b, i, none⟩ u).ownsRow base e size v n xs := row_off h u hb
theorem EntRow.in {w : World} {base : Nat} {x : Ent} {r : EntR} (h : EntRow w base x r) : EntIn w x r := by
  obtain ⟨a1, c1, e1, l1, i1⟩ := h.h.in
  obtain ⟨a2, c2, e2, l2, i2⟩ := h.b.in
  obtain ⟨a3, c3, e3, l3, i3⟩ := h.t.in
  simp only [Value.slice.injEq, true_and] at e1 e2 e3
  obtain ⟨r1, r2⟩ := e1
  obtain ⟨r3, r4⟩ := e2
  obtain ⟨r5, r6⟩ := e3
  exact ⟨r1 ▸ i1, r3 ▸ i2, r5 ▸ i3, by omega, by omega, by omega⟩
theorem EntRow.below {w w' : World} {base : Nat} {x : Ent} {r : EntR} (h : EntRow w base x r) (hb : Below w.heap.size w w') : EntRow w' base x r := ⟨row_below h.h hb, row_below h.b hb, row_below h.t hb, h.n1, h.n2, h.n3⟩
theorem EntRow.lower {w : World} {b0 base : Nat} {x : Ent} {r : EntR} (h : EntRow w base x r) (hb : b0 ≤ base) : EntRow w b0 x r := ⟨row_lower h.h hb, row_lower h.b hb, row_lower h.t hb, h.n1, h.n2, h.n3⟩
theorem EntRow.off1 {w : World} {base : Nat} {x : Ent} {r : EntR} (h : EntRow w base x r) {b i : Nat} (u : Value) (hb : b < base) : EntRow (w.setCell ⟨b, i, none⟩ u) base x r := ⟨row_off h.h u hb, row_off h.b u hb, row_off h.t u hb, h.n1, h.n2, h.n3⟩
theorem row_apart {w w' : World} {b1 b2 : Nat} {e1 e2 : TypeId} {s1 s2 : Nat} {a1 a2 : Option Addr} {n1 n2 c1 c2 : Nat} {x1 x2 : List Value} (h1 : w.ownsRow b1 e1 s1 (.slice a1 n1 c1) n1 x1) (h2 : w'.ownsRow b2 e2 s2 (.slice a2 n2 c2) n2 x2) (hb : w.heap.size ≤ b2) : a1 = none ∨ a1 ≠ a2 := by
  cases a1 with
  | none => exact .inl rfl
  | some p =>
    refine .inr fun e => ?_
    subst e
    have l1 := (World.ownsRow.lt h1 p.block rfl).2
    have l2 := (World.ownsRow.lt h2 p.block rfl).1
    omega
set_option maxHeartbeats 8000000 in
theorem l8ECopy_at (w : World) (h : Hdl) (f1 : h.x.hs.length ≤ 1048576) (f2 : h.x.bl.length ≤ 1048576) (f3 : h.x.ts.length ≤ 1048576) (ht : HThere w h) :
    Calls Tryz.prog 130 #[.pointer (some ⟨h.b, h.o, none⟩)] w fun e w' => (∃ r, e = .returned (entV h.x r) ∧ EntRow w' w.heap.size h.x r) ∧ Below w.heap.size w w' := by
  have HS : Hid (∀ X, Below w.heap.size w X → HThere X h) := fun X hX => ht.keep hX
  have C1 : Hid (∀ X, Below w.heap.size w X → Calls Tryz.prog 172 #[.slice h.r.ha h.x.hs.length h.r.hc] X fun e w' => (∃ v, e = .returned v ∧ RowH w' X.heap.size v h.x.hs) ∧ Below X.heap.size X w') := fun X hX => l4Copy_in X _ _ _ f1 (ht.keep hX).2.h
  have C2 : Hid (∀ X, Below w.heap.size w X → Calls Tryz.prog 173 #[.slice h.r.ba h.x.bl.length h.r.bc] X fun e w' => (∃ v, e = .returned v ∧ RowB w' X.heap.size v h.x.bl) ∧ Below X.heap.size X w') := fun X hX => l1Copy_in X _ _ _ f2 (ht.keep hX).2.b
  have C3 : Hid (∀ X, Below w.heap.size w X → Calls Tryz.prog 174 #[.slice h.r.ta h.x.ts.length h.r.tc] X fun e w' => (∃ v, e = .returned v ∧ RowT w' X.heap.size v h.x.ts) ∧ Below X.heap.size X w') := fun X hX => l1Texts_in X _ _ _ f3 (ht.keep hX).2.k
  obtain ⟨W, hW⟩ : ∃ W, W = (w.alloc (.cells #[.string ⟨#[]⟩, .int .i64 0, .slice none 0 0, .slice none 0 0, .int .i64 0, .int .i64 0, .int .i64 0, .int .i64 0, .int .i64 0, .bool false, .bool false, .slice none 0 0, .int .i64 0] 52)).alloc (.cells #[.string h.x.key, .int .i64 h.x.st, .slice h.r.ha h.x.hs.length h.r.hc, .slice h.r.ba h.x.bl.length h.r.bc, .int .i64 h.x.t, .int .i64 h.x.g, .int .i64 h.x.l, .int .i64 h.x.s, .int .i64 h.x.e, .bool h.x.b1, .bool h.x.b2, .slice h.r.ta h.x.ts.length h.r.tc, .int .i64 h.x.pins] 52) := ⟨_, rfl⟩
  have HW : Hid (W = (w.alloc (.cells #[.string ⟨#[]⟩, .int .i64 0, .slice none 0 0, .slice none 0 0, .int .i64 0, .int .i64 0, .int .i64 0, .int .i64 0, .int .i64 0, .bool false, .bool false, .slice none 0 0, .int .i64 0] 52)).alloc (.cells #[.string h.x.key, .int .i64 h.x.st, .slice h.r.ha h.x.hs.length h.r.hc, .slice h.r.ba h.x.bl.length h.r.bc, .int .i64 h.x.t, .int .i64 h.x.g, .int .i64 h.x.l, .int .i64 h.x.s, .int .i64 h.x.e, .bool h.x.b1, .bool h.x.b2, .slice h.r.ta h.x.ts.length h.r.tc, .int .i64 h.x.pins] 52)) := hW
  have K0 : Hid (Below w.heap.size w W ∧ E13 W w.heap.size (.string ⟨#[]⟩) (.int .i64 0) (.slice none 0 0) (.slice none 0 0) (.int .i64 0) (.int .i64 0) (.int .i64 0) (.int .i64 0) (.int .i64 0) (.bool false) (.bool false) (.slice none 0 0) (.int .i64 0) ∧ E13 W (w.heap.size + 1) (.string h.x.key) (.int .i64 h.x.st) (.slice h.r.ha h.x.hs.length h.r.hc) (.slice h.r.ba h.x.bl.length h.r.bc) (.int .i64 h.x.t) (.int .i64 h.x.g) (.int .i64 h.x.l) (.int .i64 h.x.s) (.int .i64 h.x.e) (.bool h.x.b1) (.bool h.x.b2) (.slice h.r.ta h.x.ts.length h.r.tc) (.int .i64 h.x.pins) ∧ w.heap.size + 2 = W.heap.size) := by
    rw [hW]
    refine ⟨((Below.refl _ _).alloc (Nat.le_refl _) _).alloc (by simp) _, (E13.new w _ _ _ _ _ _ _ _ _ _ _ _ _ _).keep ((Below.refl _ _).alloc (Nat.le_refl _) _), ?_, by simp⟩
    have := E13.new (w.alloc (.cells #[.string ⟨#[]⟩, .int .i64 0, .slice none 0 0, .slice none 0 0, .int .i64 0, .int .i64 0, .int .i64 0, .int .i64 0, .int .i64 0, .bool false, .bool false, .slice none 0 0, .int .i64 0] 52)) (.string h.x.key) (.int .i64 h.x.st) (.slice h.r.ha h.x.hs.length h.r.hc) (.slice h.r.ba h.x.bl.length h.r.bc) (.int .i64 h.x.t) (.int .i64 h.x.g) (.int .i64 h.x.l) (.int .i64 h.x.s) (.int .i64 h.x.e) (.bool h.x.b1) (.bool h.x.b2) (.slice h.r.ta h.x.ts.length h.r.tc) (.int .i64 h.x.pins) 52
    simpa using this
  have PC := ht.cells
  have p0 := PC.1
  have p1 := PC.2.1
  have p2 := PC.2.2.1
  have p3 := PC.2.2.2.1
  have p4 := PC.2.2.2.2.1
  have p5 := PC.2.2.2.2.2.1
  have p6 := PC.2.2.2.2.2.2.1
  have p7 := PC.2.2.2.2.2.2.2.1
  have p8 := PC.2.2.2.2.2.2.2.2.1
  have p9 := PC.2.2.2.2.2.2.2.2.2.1
  have p10 := PC.2.2.2.2.2.2.2.2.2.2.1
  have p11 := PC.2.2.2.2.2.2.2.2.2.2.2.1
  have p12 := PC.2.2.2.2.2.2.2.2.2.2.2.2
  have zz := ((Below.refl w.heap.size w).alloc (Nat.le_refl _) (.cells #[.string ⟨#[]⟩, .int .i64 0, .slice none 0 0, .slice none 0 0, .int .i64 0, .int .i64 0, .int .i64 0, .int .i64 0, .int .i64 0, .bool false, .bool false, .slice none 0 0, .int .i64 0] 52))
  have PD := (ht.keep zz).cells
  have pa0 := PD.1
  have pa1 := PD.2.1
  have pa2 := PD.2.2.1
  have pa3 := PD.2.2.2.1
  have pa4 := PD.2.2.2.2.1
  have pa5 := PD.2.2.2.2.2.1
  have pa6 := PD.2.2.2.2.2.2.1
  have pa7 := PD.2.2.2.2.2.2.2.1
  have pa8 := PD.2.2.2.2.2.2.2.2.1
  have pa9 := PD.2.2.2.2.2.2.2.2.2.1
  have pa10 := PD.2.2.2.2.2.2.2.2.2.2.1
  have pa11 := PD.2.2.2.2.2.2.2.2.2.2.2.1
  have pa12 := PD.2.2.2.2.2.2.2.2.2.2.2.2
  have q2 := ((HS.out W K0.out.1).cells).2.2.1
  rw [hW] at q2
  clear hW PC PD zz ht
  go_enter Tryz.func130, Tryz.ntmps130
  go_wp2_with fail
  rw [← HW.out]
  refine (C1.out _ K0.out.1).mono ?_
  rintro e w1 ⟨⟨v1, rfl, r1⟩, hb1⟩
  obtain ⟨a1, c1, rfl, _⟩ := row_form r1
  have k2 := (K0.out.2.2.1.keep hb1).c2
  have k2f := (K0.out.2.2.1.keep hb1).fr 2
  obtain ⟨V1, hV1⟩ : ∃ V, V = w1.setCell ⟨w.heap.size + 1, 2, none⟩ (.slice a1 h.x.hs.length c1) := ⟨_, rfl⟩
  have HV1 : Hid (V1 = w1.setCell ⟨w.heap.size + 1, 2, none⟩ (.slice a1 h.x.hs.length c1)) := hV1
  have hs1 : w.heap.size + 2 ≤ w1.heap.size := by have := hb1.size; have := K0.out.2.2.2; omega
  have K1 : Hid (Below w.heap.size w V1 ∧ E13 V1 w.heap.size (.string ⟨#[]⟩) (.int .i64 0) (.slice none 0 0) (.slice none 0 0) (.int .i64 0) (.int .i64 0) (.int .i64 0) (.int .i64 0) (.int .i64 0) (.bool false) (.bool false) (.slice none 0 0) (.int .i64 0) ∧ E13 V1 (w.heap.size + 1) (.string h.x.key) (.int .i64 h.x.st) (.slice a1 h.x.hs.length c1) (.slice h.r.ba h.x.bl.length h.r.bc) (.int .i64 h.x.t) (.int .i64 h.x.g) (.int .i64 h.x.l) (.int .i64 h.x.s) (.int .i64 h.x.e) (.bool h.x.b1) (.bool h.x.b2) (.slice h.r.ta h.x.ts.length h.r.tc) (.int .i64 h.x.pins) ∧ w.heap.size + 2 ≤ V1.heap.size ∧ RowH V1 (w.heap.size + 2) (.slice a1 h.x.hs.length c1) h.x.hs) := by
    rw [hV1]
    refine ⟨(K0.out.1.trans (hb1.mono K0.out.1.size)).setCell (by simp) _, (K0.out.2.1.keep hb1).off (by omega), (K0.out.2.2.1.keep hb1).set2 _, by simpa using hs1, ?_⟩
    have := row_off2 (b := w.heap.size + 1) (i := 2) r1 (.slice a1 h.x.hs.length c1) (by have := K0.out.2.2.2; omega)
    rw [← K0.out.2.2.2] at this
    exact this
  have q3 := ((HS.out w1 (K0.out.1.trans (hb1.mono K0.out.1.size))).cells).2.2.2.1
  clear K0 hb1 r1 q2 HW hs1 hV1 p0 p1 p2 p3 p4 p5 p6 p7 p8 p9 p10 p11 p12 pa0 pa1 pa2 pa3 pa4 pa5 pa6 pa7 pa8 pa9 pa10 pa11 pa12
  go_wp2_with fail
  rw [← HV1.out]
  clear k2 k2f q3
  refine (C2.out _ K1.out.1).mono ?_
  rintro e w2 ⟨⟨v2, rfl, r2⟩, hb2⟩
  obtain ⟨a2, c2, rfl, _⟩ := row_form r2
  have k3 := (K1.out.2.2.1.keep hb2).c3
  have k3f := (K1.out.2.2.1.keep hb2).fr 3
  have N12 : Hid (a1 = none ∨ a1 ≠ a2) := row_apart K1.out.2.2.2.2 r2 (Nat.le_refl _)
  obtain ⟨V2, hV2⟩ : ∃ V, V = w2.setCell ⟨w.heap.size + 1, 3, none⟩ (.slice a2 h.x.bl.length c2) := ⟨_, rfl⟩
  have HV2 : Hid (V2 = w2.setCell ⟨w.heap.size + 1, 3, none⟩ (.slice a2 h.x.bl.length c2)) := hV2
  have hs2 : w.heap.size + 2 ≤ w2.heap.size := by have := hb2.size; have := K1.out.2.2.2.1; omega
  have K2 : Hid (Below w.heap.size w V2 ∧ E13 V2 w.heap.size (.string ⟨#[]⟩) (.int .i64 0) (.slice none 0 0) (.slice none 0 0) (.int .i64 0) (.int .i64 0) (.int .i64 0) (.int .i64 0) (.int .i64 0) (.bool false) (.bool false) (.slice none 0 0) (.int .i64 0) ∧ E13 V2 (w.heap.size + 1) (.string h.x.key) (.int .i64 h.x.st) (.slice a1 h.x.hs.length c1) (.slice a2 h.x.bl.length c2) (.int .i64 h.x.t) (.int .i64 h.x.g) (.int .i64 h.x.l) (.int .i64 h.x.s) (.int .i64 h.x.e) (.bool h.x.b1) (.bool h.x.b2) (.slice h.r.ta h.x.ts.length h.r.tc) (.int .i64 h.x.pins) ∧ w.heap.size + 2 ≤ V2.heap.size ∧ RowH V2 (w.heap.size + 2) (.slice a1 h.x.hs.length c1) h.x.hs ∧ RowB V2 (w.heap.size + 2) (.slice a2 h.x.bl.length c2) h.x.bl) := by
    rw [hV2]
    refine ⟨(K1.out.1.trans (hb2.mono K1.out.1.size)).setCell (by simp) _, (K1.out.2.1.keep hb2).off (by omega), (K1.out.2.2.1.keep hb2).set3 _, by simpa using hs2, row_off (row_below K1.out.2.2.2.2 hb2) _ (by omega), row_lower (row_off r2 _ (by have := K1.out.2.2.2.1; omega)) K1.out.2.2.2.1⟩
  have q11 := ((HS.out w2 (K1.out.1.trans (hb2.mono K1.out.1.size))).cells).2.2.2.2.2.2.2.2.2.2.2.1
  clear K1 hb2 r2 HV1 hs2 hV2
  go_wp2_with fail
  rw [← HV2.out]
  clear k3 k3f q11
  refine (C3.out _ K2.out.1).mono ?_
  rintro e w3 ⟨⟨v3, rfl, r3⟩, hb3⟩
  obtain ⟨a3, c3, rfl, _⟩ := row_form r3
  have N13 : Hid (a1 = none ∨ a1 ≠ a3) := row_apart K2.out.2.2.2.2.1 r3 (Nat.le_refl _)
  have N23 : Hid (a2 = none ∨ a2 ≠ a3) := row_apart K2.out.2.2.2.2.2 r3 (Nat.le_refl _)
  have K3 : Hid (Below w.heap.size w w3 ∧ E13 w3 w.heap.size (.string ⟨#[]⟩) (.int .i64 0) (.slice none 0 0) (.slice none 0 0) (.int .i64 0) (.int .i64 0) (.int .i64 0) (.int .i64 0) (.int .i64 0) (.bool false) (.bool false) (.slice none 0 0) (.int .i64 0) ∧ E13 w3 (w.heap.size + 1) (.string h.x.key) (.int .i64 h.x.st) (.slice a1 h.x.hs.length c1) (.slice a2 h.x.bl.length c2) (.int .i64 h.x.t) (.int .i64 h.x.g) (.int .i64 h.x.l) (.int .i64 h.x.s) (.int .i64 h.x.e) (.bool h.x.b1) (.bool h.x.b2) (.slice h.r.ta h.x.ts.length h.r.tc) (.int .i64 h.x.pins) ∧ EntRow w3 (w.heap.size + 2) h.x ⟨a1, c1, a2, c2, a3, c3⟩) := ⟨K2.out.1.trans (hb3.mono K2.out.1.size), K2.out.2.1.keep hb3, K2.out.2.2.1.keep hb3, ⟨row_below K2.out.2.2.2.2.1 hb3, row_below K2.out.2.2.2.2.2 hb3, row_lower r3 K2.out.2.2.2.1, N12.out, N13.out, N23.out⟩⟩
  clear K2 hb3 r3 HV2 C1 C2 C3 HS N12 N13 N23
  have z0 := K3.out.2.1.c0
  have zf0 := K3.out.2.1.fr 0
  have z1 := K3.out.2.1.c1
  have zf1 := K3.out.2.1.fr 1
  have z2 := K3.out.2.1.c2
  have zf2 := K3.out.2.1.fr 2
  have z3 := K3.out.2.1.c3
  have zf3 := K3.out.2.1.fr 3
  have z4 := K3.out.2.1.c4
  have zf4 := K3.out.2.1.fr 4
  have z5 := K3.out.2.1.c5
  have zf5 := K3.out.2.1.fr 5
  have z6 := K3.out.2.1.c6
  have zf6 := K3.out.2.1.fr 6
  have z7 := K3.out.2.1.c7
  have zf7 := K3.out.2.1.fr 7
  have z8 := K3.out.2.1.c8
  have zf8 := K3.out.2.1.fr 8
  have z9 := K3.out.2.1.c9
  have zf9 := K3.out.2.1.fr 9
  have z10 := K3.out.2.1.c10
  have zf10 := K3.out.2.1.fr 10
  have z11 := K3.out.2.1.c11
  have zf11 := K3.out.2.1.fr 11
  have z12 := K3.out.2.1.c12
  have zf12 := K3.out.2.1.fr 12
  have y0 := K3.out.2.2.1.c0
  have y1 := K3.out.2.2.1.c1
  have y2 := K3.out.2.2.1.c2
  have y3 := K3.out.2.2.1.c3
  have y4 := K3.out.2.2.1.c4
  have y5 := K3.out.2.2.1.c5
  have y6 := K3.out.2.2.1.c6
  have y7 := K3.out.2.2.1.c7
  have y8 := K3.out.2.2.1.c8
  have y9 := K3.out.2.2.1.c9
  have y10 := K3.out.2.2.1.c10
  have y11 := K3.out.2.2.1.c11
  have y12 := K3.out.2.2.1.c12
  have yf := K3.out.2.2.1.fr 11
  have FIN : Hid (∀ u u0 u1 u2 u3 u4 u5 u6 u7 u8 u9 u10 u11 u12, EntRow ((((((((((((((w3.setCell ⟨w.heap.size + 1, 11, none⟩ u).setCell ⟨w.heap.size, 0, none⟩ u0).setCell ⟨w.heap.size, 1, none⟩ u1).setCell ⟨w.heap.size, 2, none⟩ u2).setCell ⟨w.heap.size, 3, none⟩ u3).setCell ⟨w.heap.size, 4, none⟩ u4).setCell ⟨w.heap.size, 5, none⟩ u5).setCell ⟨w.heap.size, 6, none⟩ u6).setCell ⟨w.heap.size, 7, none⟩ u7).setCell ⟨w.heap.size, 8, none⟩ u8).setCell ⟨w.heap.size, 9, none⟩ u9).setCell ⟨w.heap.size, 10, none⟩ u10).setCell ⟨w.heap.size, 11, none⟩ u11).setCell ⟨w.heap.size, 12, none⟩ u12) w.heap.size h.x ⟨a1, c1, a2, c2, a3, c3⟩ ∧ Below w.heap.size w ((((((((((((((w3.setCell ⟨w.heap.size + 1, 11, none⟩ u).setCell ⟨w.heap.size, 0, none⟩ u0).setCell ⟨w.heap.size, 1, none⟩ u1).setCell ⟨w.heap.size, 2, none⟩ u2).setCell ⟨w.heap.size, 3, none⟩ u3).setCell ⟨w.heap.size, 4, none⟩ u4).setCell ⟨w.heap.size, 5, none⟩ u5).setCell ⟨w.heap.size, 6, none⟩ u6).setCell ⟨w.heap.size, 7, none⟩ u7).setCell ⟨w.heap.size, 8, none⟩ u8).setCell ⟨w.heap.size, 9, none⟩ u9).setCell ⟨w.heap.size, 10, none⟩ u10).setCell ⟨w.heap.size, 11, none⟩ u11).setCell ⟨w.heap.size, 12, none⟩ u12)) := fun u u0 u1 u2 u3 u4 u5 u6 u7 u8 u9 u10 u11 u12 => ⟨((((((((((((((K3.out.2.2.2.off1 u (by omega)).off1 u0 (by omega)).off1 u1 (by omega)).off1 u2 (by omega)).off1 u3 (by omega)).off1 u4 (by omega)).off1 u5 (by omega)).off1 u6 (by omega)).off1 u7 (by omega)).off1 u8 (by omega)).off1 u9 (by omega)).off1 u10 (by omega)).off1 u11 (by omega)).off1 u12 (by omega)).lower (by omega), ((((((((((((((K3.out.1.setCell (by simp) u).setCell (by simp) u0).setCell (by simp) u1).setCell (by simp) u2).setCell (by simp) u3).setCell (by simp) u4).setCell (by simp) u5).setCell (by simp) u6).setCell (by simp) u7).setCell (by simp) u8).setCell (by simp) u9).setCell (by simp) u10).setCell (by simp) u11).setCell (by simp) u12)⟩
  clear K3
  go_wp2_with fail
  exact bodyPost_ret (v := .agg #[.string h.x.key, .int .i64 h.x.st, .slice a1 h.x.hs.length c1, .slice a2 h.x.bl.length c2, .int .i64 h.x.t, .int .i64 h.x.g, .int .i64 h.x.l, .int .i64 h.x.s, .int .i64 h.x.e, .bool h.x.b1, .bool h.x.b2, .slice a3 h.x.ts.length c3, .int .i64 h.x.pins]) (by simp [results, Tryz.results130, go_sem, z0, z1, z2, z3, z4, z5, z6, z7, z8, z9, z10, z11, z12]) rfl ⟨⟨⟨a1, c1, a2, c2, a3, c3⟩, rfl, (FIN.out _ _ _ _ _ _ _ _ _ _ _ _ _ _).1⟩, (FIN.out _ _ _ _ _ _ _ _ _ _ _ _ _ _).2⟩
end Go.Proofs.YtdooopkpnanekaaGreatDoor
/-
  Fourteen cells that may be written.
-/
namespace Go.Proofs.YtdooopkpnanekaaGreatDoor
open Go.ChangeShapes Go.WideShapes Go.ChangeAt Go.RowKit
structure E14 (w : World) (b : Nat) (v0 v1 v2 v3 v4 v5 v6 v7 v8 v9 v10 v11 v12 v13 : Value) : Prop where
  c0 : w.cell? ⟨b, 0, none⟩ = some v0
  c1 : w.cell? ⟨b, 1, none⟩ = some v1
  c2 : w.cell? ⟨b, 2, none⟩ = some v2
  c3 : w.cell? ⟨b, 3, none⟩ = some v3
  c4 : w.cell? ⟨b, 4, none⟩ = some v4
  c5 : w.cell? ⟨b, 5, none⟩ = some v5
  c6 : w.cell? ⟨b, 6, none⟩ = some v6
  c7 : w.cell? ⟨b, 7, none⟩ = some v7
  c8 : w.cell? ⟨b, 8, none⟩ = some v8
  c9 : w.cell? ⟨b, 9, none⟩ = some v9
  c10 : w.cell? ⟨b, 10, none⟩ = some v10
  c11 : w.cell? ⟨b, 11, none⟩ = some v11
  c12 : w.cell? ⟨b, 12, none⟩ = some v12
  c13 : w.cell? ⟨b, 13, none⟩ = some v13
  fr : ∀ o, w.frozen? ⟨b, o, none⟩ = false
  lt : b < w.heap.size
section
variable {w w' : World} {b : Nat} {v0 v1 v2 v3 v4 v5 v6 v7 v8 v9 v10 v11 v12 v13 : Value}
theorem E14.keep (k : E14 w b v0 v1 v2 v3 v4 v5 v6 v7 v8 v9 v10 v11 v12 v13) (hb : Below w.heap.size w w') : E14 w' b v0 v1 v2 v3 v4 v5 v6 v7 v8 v9 v10 v11 v12 v13 :=
  ⟨by rw [hb.cell (p := ⟨b, 0, none⟩) k.lt]; exact k.c0, by rw [hb.cell (p := ⟨b, 1, none⟩) k.lt]; exact k.c1, by rw [hb.cell (p := ⟨b, 2, none⟩) k.lt]; exact k.c2, by rw [hb.cell (p := ⟨b, 3, none⟩) k.lt]; exact k.c3, by rw [hb.cell (p := ⟨b, 4, none⟩) k.lt]; exact k.c4, by rw [hb.cell (p := ⟨b, 5, none⟩) k.lt]; exact k.c5, by rw [hb.cell (p := ⟨b, 6, none⟩) k.lt]; exact k.c6, by rw [hb.cell (p := ⟨b, 7, none⟩) k.lt]; exact k.c7, by rw [hb.cell (p := ⟨b, 8, none⟩) k.lt]; exact k.c8, by rw [hb.cell (p := ⟨b, 9, none⟩) k.lt]; exact k.c9, by rw [hb.cell (p := ⟨b, 10, none⟩) k.lt]; exact k.c10, by rw [hb.cell (p := ⟨b, 11, none⟩) k.lt]; exact k.c11, by rw [hb.cell (p := ⟨b, 12, none⟩) k.lt]; exact k.c12, by rw [hb.cell (p := ⟨b, 13, none⟩) k.lt]; exact k.c13, fun o => by rw [hb.frozen (p := ⟨b, o, none⟩) k.lt]; exact k.fr o, Nat.lt_of_lt_of_le k.lt hb.size⟩
theorem E14.new (w : World) (v0 v1 v2 v3 v4 v5 v6 v7 v8 v9 v10 v11 v12 v13 : Value) (t : TypeId) : E14 (w.alloc (.cells #[v0, v1, v2, v3, v4, v5, v6, v7, v8, v9, v10, v11, v12, v13] t)) w.heap.size v0 v1 v2 v3 v4 v5 v6 v7 v8 v9 v10 v11 v12 v13 := ⟨by simp, by simp, by simp, by simp, by simp, by simp, by simp, by simp, by simp, by simp, by simp, by simp, by simp, by simp, fun o => by simp, by simp⟩
theorem E14.off (k : E14 w b v0 v1 v2 v3 v4 v5 v6 v7 v8 v9 v10 v11 v12 v13) {B i : Nat} {x : Value} (h : B ≠ b) : E14 (w.setCell ⟨B, i, none⟩ x) b v0 v1 v2 v3 v4 v5 v6 v7 v8 v9 v10 v11 v12 v13 := by
  have ne : ∀ o : Nat, (⟨B, i, none⟩ : Addr) ≠ ⟨b, o, none⟩ := fun o q => h (congrArg Addr.block q)
  exact ⟨by rw [World.cell?_setCell_other _ _ _ _ (ne _)]; exact k.c0, by rw [World.cell?_setCell_other _ _ _ _ (ne _)]; exact k.c1, by rw [World.cell?_setCell_other _ _ _ _ (ne _)]; exact k.c2, by rw [World.cell?_setCell_other _ _ _ _ (ne _)]; exact k.c3, by rw [World.cell?_setCell_other _ _ _ _ (ne _)]; exact k.c4, by rw [World.cell?_setCell_other _ _ _ _ (ne _)]; exact k.c5, by rw [World.cell?_setCell_other _ _ _ _ (ne _)]; exact k.c6, by rw [World.cell?_setCell_other _ _ _ _ (ne _)]; exact k.c7, by rw [World.cell?_setCell_other _ _ _ _ (ne _)]; exact k.c8, by rw [World.cell?_setCell_other _ _ _ _ (ne _)]; exact k.c9, by rw [World.cell?_setCell_other _ _ _ _ (ne _)]; exact k.c10, by rw [World.cell?_setCell_other _ _ _ _ (ne _)]; exact k.c11, by rw [World.cell?_setCell_other _ _ _ _ (ne _)]; exact k.c12, by rw [World.cell?_setCell_other _ _ _ _ (ne _)]; exact k.c13, fun o => by rw [World.frozen?_setCell]; exact k.fr o, by simpa using k.lt⟩
theorem E14.set0 (k : E14 w b v0 v1 v2 v3 v4 v5 v6 v7 v8 v9 v10 v11 v12 v13) (x : Value) : E14 (w.setCell ⟨b, 0, none⟩ x) b x v1 v2 v3 v4 v5 v6 v7 v8 v9 v10 v11 v12 v13 :=
  ⟨World.cell?_setCell_same _ _ _ k.c0, by rw [World.cell?_setCell_other _ _ _ _ (by intro q; have := congrArg Addr.off q; simp at this)]; exact k.c1, by rw [World.cell?_setCell_other _ _ _ _ (by intro q; have := congrArg Addr.off q; simp at this)]; exact k.c2, by rw [World.cell?_setCell_other _ _ _ _ (by intro q; have := congrArg Addr.off q; simp at this)]; exact k.c3, by rw [World.cell?_setCell_other _ _ _ _ (by intro q; have := congrArg Addr.off q; simp at this)]; exact k.c4, by rw [World.cell?_setCell_other _ _ _ _ (by intro q; have := congrArg Addr.off q; simp at this)]; exact k.c5, by rw [World.cell?_setCell_other _ _ _ _ (by intro q; have := congrArg Addr.off q; simp at this)]; exact k.c6, by rw [World.cell?_setCell_other _ _ _ _ (by intro q; have := congrArg Addr.off q; simp at this)]; exact k.c7, by rw [World.cell?_setCell_other _ _ _ _ (by intro q; have := congrArg Addr.off q; simp at this)]; exact k.c8, by rw [World.cell?_setCell_other _ _ _ _ (by intro q; have := congrArg Addr.off q; simp at this)]; exact k.c9, by rw [World.cell?_setCell_other _ _ _ _ (by intro q; have := congrArg Addr.off q; simp at this)]; exact k.c10, by rw [World.cell?_setCell_other _ _ _ _ (by intro q; have := congrArg Addr.off q; simp at this)]; exact k.c11, by rw [World.cell?_setCell_other _ _ _ _ (by intro q; have := congrArg Addr.off q; simp at this)]; exact k.c12, by rw [World.cell?_setCell_other _ _ _ _ (by intro q; have := congrArg Addr.off q; simp at this)]; exact k.c13, fun o => by rw [World.frozen?_setCell]; exact k.fr o, by simpa using k.lt⟩
theorem E14.set1 (k : E14 w b v0 v1 v2 v3 v4 v5 v6 v7 v8 v9 v10 v11 v12 v13) (x : Value) : E14 (w.setCell ⟨b, 1, none⟩ x) b v0 x v2 v3 v4 v5 v6 v7 v8 v9 v10 v11 v12 v13 :=
  ⟨by rw [World.cell?_setCell_other _ _ _ _ (by intro q; have := congrArg Addr.off q; simp at this)]; exact k.c0, World.cell?_setCell_same _ _ _ k.c1, by rw [World.cell?_setCell_other _ _ _ _ (by intro q; have := congrArg Addr.off q; simp at this)]; exact k.c2, by rw [World.cell?_setCell_other _ _ _ _ (by intro q; have := congrArg Addr.off q; simp at this)]; exact k.c3, by rw [World.cell?_setCell_other _ _ _ _ (by intro q; have := congrArg Addr.off q; simp at this)]; exact k.c4, by rw [World.cell?_setCell_other _ _ _ _ (by intro q; have := congrArg Addr.off q; simp at this)]; exact k.c5, by rw [World.cell?_setCell_other _ _ _ _ (by intro q; have := congrArg Addr.off q; simp at this)]; exact k.c6, by rw [World.cell?_setCell_other _ _ _ _ (by intro q; have := congrArg Addr.off q; simp at this)]; exact k.c7, by rw [World.cell?_setCell_other _ _ _ _ (by intro q; have := congrArg Addr.off q; simp at this)]; exact k.c8, by rw [World.cell?_setCell_other _ _ _ _ (by intro q; have := congrArg Addr.off q; simp at this)]; exact k.c9, by rw [World.cell?_setCell_other _ _ _ _ (by intro q; have := congrArg Addr.off q; simp at this)]; exact k.c10, by rw [World.cell?_setCell_other _ _ _ _ (by intro q; have := congrArg Addr.off q; simp at this)]; exact k.c11, by rw [World.cell?_setCell_other _ _ _ _ (by intro q; have := congrArg Addr.off q; simp at this)]; exact k.c12, by rw [World.cell?_setCell_other _ _ _ _ (by intro q; have := congrArg Addr.off q; simp at this)]; exact k.c13, fun o => by rw [World.frozen?_setCell]; exact k.fr o, by simpa using k.lt⟩
theorem E14.set2 (k : E14 w b v0 v1 v2 v3 v4 v5 v6 v7 v8 v9 v10 v11 v12 v13) (x : Value) : E14 (w.setCell ⟨b, 2, none⟩ x) b v0 v1 x v3 v4 v5 v6 v7 v8 v9 v10 v11 v12 v13 :=
  ⟨by rw [World.cell?_setCell_other _ _ _ _ (by intro q; have := congrArg Addr.off q; simp at this)]; exact k.c0, by rw [World.cell?_setCell_other _ _ _ _ (by intro q; have := congrArg Addr.off q; simp at this)]; exact k.c1, World.cell?_setCell_same _ _ _ k.c2, by rw [World.cell?_setCell_other _ _ _ _ (by intro q; have := congrArg Addr.off q; simp at this)]; exact k.c3, by rw [World.cell?_setCell_other _ _ _ _ (by intro q; have := congrArg Addr.off q; simp at this)]; exact k.c4, by rw [World.cell?_setCell_other _ _ _ _ (by intro q; have := congrArg Addr.off q; simp at this)]; exact k.c5, by rw [World.cell?_setCell_other _ _ _ _ (by intro q; have := congrArg Addr.off q; simp at this)]; exact k.c6, by rw [World.cell?_setCell_other _ _ _ _ (by intro q; have := congrArg Addr.off q; simp at this)]; exact k.c7, by rw [World.cell?_setCell_other _ _ _ _ (by intro q; have := congrArg Addr.off q; simp at this)]; exact k.c8, by rw [World.cell?_setCell_other _ _ _ _ (by intro q; have := congrArg Addr.off q; simp at this)]; exact k.c9, by rw [World.cell?_setCell_other _ _ _ _ (by intro q; have := congrArg Addr.off q; simp at this)]; exact k.c10, by rw [World.cell?_setCell_other _ _ _ _ (by intro q; have := congrArg Addr.off q; simp at this)]; exact k.c11, by rw [World.cell?_setCell_other _ _ _ _ (by intro q; have := congrArg Addr.off q; simp at this)]; exact k.c12, by rw [World.cell?_setCell_other _ _ _ _ (by intro q; have := congrArg Addr.off q; simp at this)]; exact k.c13, fun o => by rw [World.frozen?_setCell]; exact k.fr o, by simpa using k.lt⟩
theorem E14.set3 (k : E14 w b v0 v1 v2 v3 v4 v5 v6 v7 v8 v9 v10 v11 v12 v13) (x : Value) : E14 (w.setCell ⟨b, 3, none⟩ x) b v0 v1 v2 x v4 v5 v6 v7 v8 v9 v10 v11 v12 v13 :=
  ⟨by rw [World.cell?_setCell_other _ _ _ _ (by intro q; have := congrArg Addr.off q; simp at this)]; exact k.c0, by rw [World.cell?_setCell_other _ _ _ _ (by intro q; have := congrArg Addr.off q; simp at this)]; exact k.c1, by rw [World.cell?_setCell_other _ _ _ _ (by intro q; have := congrArg Addr.off q; simp at this)]; exact k.c2, World.cell?_setCell_same _ _ _ k.c3, by rw [World.cell?_setCell_other _ _ _ _ (by intro q; have := congrArg Addr.off q; simp at this)]; exact k.c4, by rw [World.cell?_setCell_other _ _ _ _ (by intro q; have := congrArg Addr.off q; simp at this)]; exact k.c5, by rw [World.cell?_setCell_other _ _ _ _ (by intro q; have := congrArg Addr.off q; simp at this)]; exact k.c6, by rw [World.cell?_setCell_other _ _ _ _ (by intro q; have := congrArg Addr.off q; simp at this)]; exact k.c7, by rw [World.cell?_setCell_other _ _ _ _ (by intro q; have := congrArg Addr.off q; simp at this)]; exact k.c8, by rw [World.cell?_setCell_other _ _ _ _ (by intro q; have := congrArg Addr.off q; simp at this)]; exact k.c9, by rw [World.cell?_setCell_other _ _ _ _ (by intro q; have := congrArg Addr.off q; simp at this)]; exact k.c10, by rw [World.cell?_setCell_other _ _ _ _ (by intro q; have := congrArg Addr.off q; simp at this)]; exact k.c11, by rw [World.cell?_setCell_other _ _ _ _ (by intro q; have := congrArg Addr.off q; simp at this)]; exact k.c12, by rw [World.cell?_setCell_other _ _ _ _ (by intro q; have := congrArg Addr.off q; simp at this)]; exact k.c13, fun o => by rw [World.frozen?_setCell]; exact k.fr o, by simpa using k.lt⟩
theorem E14.set4 (k : E14 w b v0 v1 v2 v3 v4 v5 v6 v7 v8 v9 v10 v11 v12 v13) (x : Value) : E14 (w.setCell ⟨b, 4, none⟩ x) b v0 v1 v2 v3 x v5 v6 v7 v8 v9 v10 v11 v12 v13 :=
  ⟨by rw [World.cell?_setCell_other _ _ _ _ (by intro q; have := congrArg Addr.off q; simp at this)]; exact k.c0, by rw [World.cell?_setCell_other _ _ _ _ (by intro q; have := congrArg Addr.off q; simp at this)]; exact k.c1, by rw [World.cell?_setCell_other _ _ _ _ (by intro q; have := congrArg Addr.off q; simp at this)]; exact k.c2, by rw [World.cell?_setCell_other _ _ _ _ (by intro q; have := congrArg Addr.off q; simp at this)]; exact k.c3, World.cell?_setCell_same _ _ _ k.c4, by rw [World.cell?_setCell_other _ _ _ _ (by intro q; have := congrArg Addr.off q; simp at this)]; exact k.c5, by rw [World.cell?_setCell_other _ _ _ _ (by intro q; have := congrArg Addr.off q; simp at this)]; exact k.c6, by rw [World.cell?_setCell_other _ _ _ _ (by intro q; have := congrArg Addr.off q; simp at this)]; exact k.c7, by rw [World.cell?_setCell_other _ _ _ _ (by intro q; have := congrArg Addr.off q; simp at this)]; exact k.c8, by rw [World.cell?_setCell_other _ _ _ _ (by intro q; have := congrArg Addr.off q; simp at this)]; exact k.c9, by rw [World.cell?_setCell_other _ _ _ _ (by intro q; have := congrArg Addr.off q; simp at this)]; exact k.c10, by rw [World.cell?_setCell_other _ _ _ _ (by intro q; have := congrArg Addr.off q; simp at this)]; exact k.c11, by rw [World.cell?_setCell_other _ _ _ _ (by intro q; have := congrArg Addr.off q; simp at this)]; exact k.c12, by rw [World.cell?_setCell_other _ _ _ _ (by intro q; have := congrArg Addr.off q; simp at this)]; exact k.c13, fun o => by rw [World.frozen?_setCell]; exact k.fr o, by simpa using k.lt⟩
theorem E14.set5 (k : E14 w b v0 v1 v2 v3 v4 v5 v6 v7 v8 v9 v10 v11 v12 v13) (x : Value) : E14 (w.setCell ⟨b, 5, none⟩ x) b v0 v1 v2 v3 v4 x v6 v7 v8 v9 v10 v11 v12 v13 :=
  ⟨by rw [World.cell?_setCell_other _ _ _ _ (by intro q; have := congrArg Addr.off q; simp at this)]; exact k.c0, by rw [World.cell?_setCell_other _ _ _ _ (by intro q; have := congrArg Addr.off q; simp at this)]; exact k.c1, by rw [World.cell?_setCell_other _ _ _ _ (by intro q; have := congrArg Addr.off q; simp at this)]; exact k.c2, by rw [World.cell?_setCell_other _ _ _ _ (by intro q; have := congrArg Addr.off q; simp at this)]; exact k.c3, by rw [World.cell?_setCell_other _ _ _ _ (by intro q; have := congrArg Addr.off q; simp at this)]; exact k.c4, World.cell?_setCell_same _ _ _ k.c5, by rw [World.cell?_setCell_other _ _ _ _ (by intro q; have := congrArg Addr.off q; simp at this)]; exact k.c6, by rw [World.cell?_setCell_other _ _ _ _ (by intro q; have := congrArg Addr.off q; simp at this)]; exact k.c7, by rw [World.cell?_setCell_other _ _ _ _ (by intro q; have := congrArg Addr.off q; simp at this)]; exact k.c8, by rw [World.cell?_setCell_other _ _ _ _ (by intro q; have := congrArg Addr.off q; simp at this)]; exact k.c9, by rw [World.cell?_setCell_other _ _ _ _ (by intro q; have := congrArg Addr.off q; simp at this)]; exact k.c10, by rw [World.cell?_setCell_other _ _ _ _ (by intro q; have := congrArg Addr.off q; simp at this)]; exact k.c11, by rw [World.cell?_setCell_other _ _ _ _ (by intro q; have := congrArg Addr.off q; simp at this)]; exact k.c12, by rw [World.cell?_setCell_other _ _ _ _ (by intro q; have := congrArg Addr.off q; simp at this)]; exact k.c13, fun o => by rw [World.frozen?_setCell]; exact k.fr o, by simpa using k.lt⟩
theorem E14.set6 (k : E14 w b v0 v1 v2 v3 v4 v5 v6 v7 v8 v9 v10 v11 v12 v13) (x : Value) : E14 (w.setCell ⟨b, 6, none⟩ x) b v0 v1 v2 v3 v4 v5 x v7 v8 v9 v10 v11 v12 v13 :=
  ⟨by rw [World.cell?_setCell_other _ _ _ _ (by intro q; have := congrArg Addr.off q; simp at this)]; exact k.c0, by rw [World.cell?_setCell_other _ _ _ _ (by intro q; have := congrArg Addr.off q; simp at this)]; exact k.c1, by rw [World.cell?_setCell_other _ _ _ _ (by intro q; have := congrArg Addr.off q; simp at this)]; exact k.c2, by rw [World.cell?_setCell_other _ _ _ _ (by intro q; have := congrArg Addr.off q; simp at this)]; exact k.c3, by rw [World.cell?_setCell_other _ _ _ _ (by intro q; have := congrArg Addr.off q; simp at this)]; exact k.c4, by rw [World.cell?_setCell_other _ _ _ _ (by intro q; have := congrArg Addr.off q; simp at this)]; exact k.c5, World.cell?_setCell_same _ _ _ k.c6, by rw [World.cell?_setCell_other _ _ _ _ (by intro q; have := congrArg Addr.off q; simp at this)]; exact k.c7, by rw [World.cell?_setCell_other _ _ _ _ (by intro q; have := congrArg Addr.off q; simp at this)]; exact k.c8, by rw [World.cell?_setCell_other _ _ _ _ (by intro q; have := congrArg Addr.off q; simp at this)]; exact k.c9, by rw [World.cell?_setCell_other _ _ _ _ (by intro q; have := congrArg Addr.off q; simp at this)]; exact k.c10, by rw [World.cell?_setCell_other _ _ _ _ (by intro q; have := congrArg Addr.off q; simp at this)]; exact k.c11, by rw [World.cell?_setCell_other _ _ _ _ (by intro q; have := congrArg Addr.off q; simp at this)]; exact k.c12, by rw [World.cell?_setCell_other _ _ _ _ (by intro q; have := congrArg Addr.off q; simp at this)]; exact k.c13, fun o => by rw [World.frozen?_setCell]; exact k.fr o, by simpa using k.lt⟩
theorem E14.set7 (k : E14 w b v0 v1 v2 v3 v4 v5 v6 v7 v8 v9 v10 v11 v12 v13) (x : Value) : E14 (w.setCell ⟨b, 7, none⟩ x) b v0 v1 v2 v3 v4 v5 v6 x v8 v9 v10 v11 v12 v13 :=
  ⟨by rw [World.cell?_setCell_other _ _ _ _ (by intro q; have := congrArg Addr.off q; simp at this)]; exact k.c0, by rw [World.cell?_setCell_other _ _ _ _ (by intro q; have := congrArg Addr.off q; simp at this)]; exact k.c1, by rw [World.cell?_setCell_other _ _ _ _ (by intro q; have := congrArg Addr.off q; simp at this)]; exact k.c2, by rw [World.cell?_setCell_other _ _ _ _ (by intro q; have := congrArg Addr.off q; simp at this)]; exact k.c3, by rw [World.cell?_setCell_other _ _ _ _ (by intro q; have := congrArg Addr.off q; simp at this)]; exact k.c4, by rw [World.cell?_setCell_other _ _ _ _ (by intro q; have := congrArg Addr.off q; simp at this)]; exact k.c5, by rw [World.cell?_setCell_other _ _ _ _ (by intro q; have := congrArg Addr.off q; simp at this)]; exact k.c6, World.cell?_setCell_same _ _ _ k.c7, by rw [World.cell?_setCell_other _ _ _ _ (by intro q; have := congrArg Addr.off q; simp at this)]; exact k.c8, by rw [World.cell?_setCell_other _ _ _ _ (by intro q; have := congrArg Addr.off q; simp at this)]; exact k.c9, by rw [World.cell?_setCell_other _ _ _ _ (by intro q; have := congrArg Addr.off q; simp at this)]; exact k.c10, by rw [World.cell?_setCell_other _ _ _ _ (by intro q; have := congrArg Addr.off q; simp at this)]; exact k.c11, by rw [World.cell?_setCell_other _ _ _ _ (by intro q; have := congrArg Addr.off q; simp at this)]; exact k.c12, by rw [World.cell?_setCell_other _ _ _ _ (by intro q; have := congrArg Addr.off q; simp at this)]; exact k.c13, fun o => by rw [World.frozen?_setCell]; exact k.fr o, by simpa using k.lt⟩
theorem E14.set8 (k : E14 w b v0 v1 v2 v3 v4 v5 v6 v7 v8 v9 v10 v11 v12 v13) (x : Value) : E14 (w.setCell ⟨b, 8, none⟩ x) b v0 v1 v2 v3 v4 v5 v6 v7 x v9 v10 v11 v12 v13 :=
  ⟨by rw [World.cell?_setCell_other _ _ _ _ (by intro q; have := congrArg Addr.off q; simp at this)]; exact k.c0, by rw [World.cell?_setCell_other _ _ _ _ (by intro q; have := congrArg Addr.off q; simp at this)]; exact k.c1, by rw [World.cell?_setCell_other _ _ _ _ (by intro q; have := congrArg Addr.off q; simp at this)]; exact k.c2, by rw [World.cell?_setCell_other _ _ _ _ (by intro q; have := congrArg Addr.off q; simp at this)]; exact k.c3, by rw [World.cell?_setCell_other _ _ _ _ (by intro q; have := congrArg Addr.off q; simp at this)]; exact k.c4, by rw [World.cell?_setCell_other _ _ _ _ (by intro q; have := congrArg Addr.off q; simp at this)]; exact k.c5, by rw [World.cell?_setCell_other _ _ _ _ (by intro q; have := congrArg Addr.off q; simp at this)]; exact k.c6, by rw [World.cell?_setCell_other _ _ _ _ (by intro q; have := congrArg Addr.off q; simp at this)]; exact k.c7, World.cell?_setCell_same _ _ _ k.c8, by rw [World.cell?_setCell_other _ _ _ _ (by intro q; have := congrArg Addr.off q; simp at this)]; exact k.c9, by rw [World.cell?_setCell_other _ _ _ _ (by intro q; have := congrArg Addr.off q; simp at this)]; exact k.c10, by rw [World.cell?_setCell_other _ _ _ _ (by intro q; have := congrArg Addr.off q; simp at this)]; exact k.c11, by rw [World.cell?_setCell_other _ _ _ _ (by intro q; have := congrArg Addr.off q; simp at this)]; exact k.c12, by rw [World.cell?_setCell_other _ _ _ _ (by intro q; have := congrArg Addr.off q; simp at this)]; exact k.c13, fun o => by rw [World.frozen?_setCell]; exact k.fr o, by simpa using k.lt⟩
theorem E14.set9 (k : E14 w b v0 v1 v2 v3 v4 v5 v6 v7 v8 v9 v10 v11 v12 v13) (x : Value) : E14 (w.setCell ⟨b, 9, none⟩ x) b v0 v1 v2 v3 v4 v5 v6 v7 v8 x v10 v11 v12 v13 :=
  ⟨by rw [World.cell?_setCell_other _ _ _ _ (by intro q; have := congrArg Addr.off q; simp at this)]; exact k.c0, by rw [World.cell?_setCell_other _ _ _ _ (by intro q; have := congrArg Addr.off q; simp at this)]; exact k.c1, by rw [World.cell?_setCell_other _ _ _ _ (by intro q; have := congrArg Addr.off q; simp at this)]; exact k.c2, by rw [World.cell?_setCell_other _ _ _ _ (by intro q; have := congrArg Addr.off q; simp at this)]; exact k.c3, by rw [World.cell?_setCell_other _ _ _ _ (by intro q; have := congrArg Addr.off q; simp at this)]; exact k.c4, by rw [World.cell?_setCell_other _ _ _ _ (by intro q; have := congrArg Addr.off q; simp at this)]; exact k.c5, by rw [World.cell?_setCell_other _ _ _ _ (by intro q; have := congrArg Addr.off q; simp at this)]; exact k.c6, by rw [World.cell?_setCell_other _ _ _ _ (by intro q; have := congrArg Addr.off q; simp at this)]; exact k.c7, by rw [World.cell?_setCell_other _ _ _ _ (by intro q; have := congrArg Addr.off q; simp at this)]; exact k.c8, World.cell?_setCell_same _ _ _ k.c9, by rw [World.cell?_setCell_other _ _ _ _ (by intro q; have := congrArg Addr.off q; simp at this)]; exact k.c10, by rw [World.cell?_setCell_other _ _ _ _ (by intro q; have := congrArg Addr.off q; simp at this)]; exact k.c11, by rw [World.cell?_setCell_other _ _ _ _ (by intro q; have := congrArg Addr.off q; simp at this)]; exact k.c12, by rw [World.cell?_setCell_other _ _ _ _ (by intro q; have := congrArg Addr.off q; simp at this)]; exact k.c13, fun o => by rw [World.frozen?_setCell]; exact k.fr o, by simpa using k.lt⟩
theorem E14.set10 (k : E14 w b v0 v1 v2 v3 v4 v5 v6 v7 v8 v9 v10 v11 v12 v13) (x : Value) : E14 (w.setCell ⟨b, 10, none⟩ x) b v0 v1 v2 v3 v4 v5 v6 v7 v8 v9 x v11 v12 v13 :=
  ⟨by rw [World.cell?_setCell_other _ _ _ _ (by intro q; have := congrArg Addr.off q; simp at this)]; exact k.c0, by rw [World.cell?_setCell_other _ _ _ _ (by intro q; have := congrArg Addr.off q; simp at this)]; exact k.c1, by rw [World.cell?_setCell_other _ _ _ _ (by intro q; have := congrArg Addr.off q; simp at this)]; exact k.c2, by rw [World.cell?_setCell_other _ _ _ _ (by intro q; have := congrArg Addr.off q; simp at this)]; exact k.c3, by rw [World.cell?_setCell_other _ _ _ _ (by intro q; have := congrArg Addr.off q; simp at this)]; exact k.c4, by rw [World.cell?_setCell_other _ _ _ _ (by intro q; have := congrArg Addr.off q; simp at this)]; exact k.c5, by rw [World.cell?_setCell_other _ _ _ _ (by intro q; have := congrArg Addr.off q; simp at this)]; exact k.c6, by rw [World.cell?_setCell_other _ _ _ _ (by intro q; have := congrArg Addr.off q; simp at this)]; exact k.c7, by rw [World.cell?_setCell_other _ _ _ _ (by intro q; have := congrArg Addr.off q; simp at this)]; exact k.c8, by rw [World.cell?_setCell_other _ _ _ _ (by intro q; have := congrArg Addr.off q; simp at this)]; exact k.c9, World.cell?_setCell_same _ _ _ k.c10, by rw [World.cell?_setCell_other _ _ _ _ (by intro q; have := congrArg Addr.off q; simp at this)]; exact k.c11, by rw [World.cell?_setCell_other _ _ _ _ (by intro q; have := congrArg Addr.off q; simp at this)]; exact k.c12, by rw [World.cell?_setCell_other _ _ _ _ (by intro q; have := congrArg Addr.off q; simp at this)]; exact k.c13, fun o => by rw [World.frozen?_setCell]; exact k.fr o, by simpa using k.lt⟩
theorem E14.set11 (k : E14 w b v0 v1 v2 v3 v4 v5 v6 v7 v8 v9 v10 v11 v12 v13) (x : Value) : E14 (w.setCell ⟨b, 11, none⟩ x) b v0 v1 v2 v3 v4 v5 v6 v7 v8 v9 v10 x v12 v13 :=
  ⟨by rw [World.cell?_setCell_other _ _ _ _ (by intro q; have := congrArg Addr.off q; simp at this)]; exact k.c0, by rw [World.cell?_setCell_other _ _ _ _ (by intro q; have := congrArg Addr.off q; simp at this)]; exact k.c1, by rw [World.cell?_setCell_other _ _ _ _ (by intro q; have := congrArg Addr.off q; simp at this)]; exact k.c2, by rw [World.cell?_setCell_other _ _ _ _ (by intro q; have := congrArg Addr.off q; simp at this)]; exact k.c3, by rw [World.cell?_setCell_other _ _ _ _ (by intro q; have := congrArg Addr.off q; simp at this)]; exact k.c4, by rw [World.cell?_setCell_other _ _ _ _ (by intro q; have := congrArg Addr.off q; simp at this)]; exact k.c5, by rw [World.cell?_setCell_other _ _ _ _ (by intro q; have := congrArg Addr.off q; simp at this)]; exact k.c6, by rw [World.cell?_setCell_other _ _ _ _ (by intro q; have := congrArg Addr.off q; simp at this)]; exact k.c7, by rw [World.cell?_setCell_other _ _ _ _ (by intro q; have := congrArg Addr.off q; simp at this)]; exact k.c8, by rw [World.cell?_setCell_other _ _ _ _ (by intro q; have := congrArg Addr.off q; simp at this)]; exact k.c9, by rw [World.cell?_setCell_other _ _ _ _ (by intro q; have := congrArg Addr.off q; simp at this)]; exact k.c10, World.cell?_setCell_same _ _ _ k.c11, by rw [World.cell?_setCell_other _ _ _ _ (by intro q; have := congrArg Addr.off q; simp at this)]; exact k.c12, by rw [World.cell?_setCell_other _ _ _ _ (by intro q; have := congrArg Addr.off q; simp at this)]; exact k.c13, fun o => by rw [World.frozen?_setCell]; exact k.fr o, by simpa using k.lt⟩
theorem E14.set12 (k : E14 w b v0 v1 v2 v3 v4 v5 v6 v7 v8 v9 v10 v11 v12 v13) (x : Value) : E14 (w.setCell ⟨b, 12, none⟩ x) b v0 v1 v2 v3 v4 v5 v6 v7 v8 v9 v10 v11 x v13 :=
  ⟨by rw [World.cell?_setCell_other _ _ _ _ (by intro q; have := congrArg Addr.off q; simp at this)]; exact k.c0, by rw [World.cell?_setCell_other _ _ _ _ (by intro q; have := congrArg Addr.off q; simp at this)]; exact k.c1, by rw [World.cell?_setCell_other _ _ _ _ (by intro q; have := congrArg Addr.off q; simp at this)]; exact k.c2, by rw [World.cell?_setCell_other _ _ _ _ (by intro q; have := congrArg Addr.off q; simp at this)]; exact k.c3, by rw [World.cell?_setCell_other _ _ _ _ (by intro q; have := congrArg Addr.off q; simp at this)]; exact k.c4, by rw [World.cell?_setCell_other _ _ _ _ (by intro q; have := congrArg Addr.off q; simp at this)]; exact k.c5, by rw [World.cell?_setCell_other _ _ _ _ (by intro q; have := congrArg Addr.off q; simp at this)]; exact k.c6, by rw [World.cell?_setCell_other _ _ _ _ (by intro q; have := congrArg Addr.off q; simp at this)]; exact k.c7, by rw [World.cell?_setCell_other _ _ _ _ (by intro q; have := congrArg Addr.off q; simp at this)]; exact k.c8, by rw [World.cell?_setCell_other _ _ _ _ (by intro q; have := congrArg Addr.off q; simp at this)]; exact k.c9, by rw [World.cell?_setCell_other _ _ _ _ (by intro q; have := congrArg Addr.off q; simp at this)]; exact k.c10, by rw [World.cell?_setCell_other _ _ _ _ (by intro q; have := congrArg Addr.off q; simp at this)]; exact k.c11, World.cell?_setCell_same _ _ _ k.c12, by rw [World.cell?_setCell_other _ _ _ _ (by intro q; have := congrArg Addr.off q; simp at this)]; exact k.c13, fun o => by rw [World.frozen?_setCell]; exact k.fr o, by simpa using k.lt⟩
theorem E14.set13 (k : E14 w b v0 v1 v2 v3 v4 v5 v6 v7 v8 v9 v10 v11 v12 v13) (x : Value) : E14 (w.setCell ⟨b, 13, none⟩ x) b v0 v1 v2 v3 v4 v5 v6 v7 v8 v9 v10 v11 v12 x :=
  ⟨by rw [World.cell?_setCell_other _ _ _ _ (by intro q; have := congrArg Addr.off q; simp at this)]; exact k.c0, by rw [World.cell?_setCell_other _ _ _ _ (by intro q; have := congrArg Addr.off q; simp at this)]; exact k.c1, by rw [World.cell?_setCell_other _ _ _ _ (by intro q; have := congrArg Addr.off q; simp at this)]; exact k.c2, by rw [World.cell?_setCell_other _ _ _ _ (by intro q; have := congrArg Addr.off q; simp at this)]; exact k.c3, by rw [World.cell?_setCell_other _ _ _ _ (by intro q; have := congrArg Addr.off q; simp at this)]; exact k.c4, by rw [World.cell?_setCell_other _ _ _ _ (by intro q; have := congrArg Addr.off q; simp at this)]; exact k.c5, by rw [World.cell?_setCell_other _ _ _ _ (by intro q; have := congrArg Addr.off q; simp at this)]; exact k.c6, by rw [World.cell?_setCell_other _ _ _ _ (by intro q; have := congrArg Addr.off q; simp at this)]; exact k.c7, by rw [World.cell?_setCell_other _ _ _ _ (by intro q; have := congrArg Addr.off q; simp at this)]; exact k.c8, by rw [World.cell?_setCell_other _ _ _ _ (by intro q; have := congrArg Addr.off q; simp at this)]; exact k.c9, by rw [World.cell?_setCell_other _ _ _ _ (by intro q; have := congrArg Addr.off q; simp at this)]; exact k.c10, by rw [World.cell?_setCell_other _ _ _ _ (by intro q; have := congrArg Addr.off q; simp at this)]; exact k.c11, by rw [World.cell?_setCell_other _ _ _ _ (by intro q; have := congrArg Addr.off q; simp at this)]; exact k.c12, World.cell?_setCell_same _ _ _ k.c13, fun o => by rw [World.frozen?_setCell]; exact k.fr o, by simpa using k.lt⟩
end
end Go.Proofs.YtdooopkpnanekaaGreatDoor
/-
  All that was there, but for one block, is as it was.
-/
namespace Go.Proofs.YtdooopkpnanekaaGreatDoor
open Go.ChangeShapes Go.WideShapes Go.ChangeAt Go.RowKit
/-- All that was there, but for block B, is as it was. -/
structure Apart (B : Nat) (w w' : World) : Prop where
  size : w.heap.size ≤ w'.heap.size
  cell : ∀ b o, b < w.heap.size → b ≠ B → w'.cell? ⟨b, o, none⟩ = w.cell? ⟨b, o, none⟩
  frozen : ∀ b o, b < w.heap.size → b ≠ B → w'.frozen? ⟨b, o, none⟩ = w.frozen? ⟨b, o, none⟩
theorem Apart.refl (B : Nat) (w : World) : Apart B w w := ⟨Nat.le_refl _, fun _ _ _ _ => rfl, fun _ _ _ _ => rfl⟩
theorem Apart.trans {B : Nat} {w w1 w2 : World} (h : Apart B w w1) (k : Apart B w1 w2) : Apart B w w2 :=
  ⟨Nat.le_trans h.size k.size, fun b o hb hn => by rw [k.cell b o (Nat.lt_of_lt_of_le hb h.size) hn, h.cell b o hb hn], fun b o hb hn => by rw [k.frozen b o (Nat.lt_of_lt_of_le hb h.size) hn, h.frozen b o hb hn]⟩
theorem Apart.below {B : Nat} {w w' : World} (h : Below w.heap.size w w') : Apart B w w' :=
  ⟨h.size, fun b o hb _ => h.cell (p := ⟨b, o, none⟩) hb, fun b o hb _ => h.frozen (p := ⟨b, o, none⟩) hb⟩
theorem Apart.alloc (B : Nat) (w : World) (o : Obj) : Apart B w (w.alloc o) := .below ((Below.refl _ _).alloc (Nat.le_refl _) _)
theorem Apart.set (B o : Nat) (w : World) (v : Value) : Apart B w (w.setCell ⟨B, o, none⟩ v) := by
  refine ⟨by simp, fun b o' _ hn => ?_, fun b o' _ hn => ?_⟩
  · rw [World.cell?_setCell_other _ _ _ _ (by intro h; have := congrArg Addr.block h; simp at this; omega)]
  · rw [World.frozen?_setCell]
end Go.Proofs.YtdooopkpnanekaaGreatDoor
/-
  markText: a text of its own for each number.
-/
namespace Go.Proofs.YtdooopkpnanekaaGreatDoor
open Go.ChangeShapes Go.WideShapes Go.ChangeAt Go.RowKit
def mkD (k : Nat) (o : ByteArray) : ByteArray := if _h : k = 0 then o else mkD (k / 10) ((⟨#[UInt8.ofNat (48 + k % 10)]⟩ : ByteArray) ++ o)
termination_by k
decreasing_by omega
theorem mkD_zero (o : ByteArray) : mkD 0 o = o := by rw [mkD]; simp
theorem mkD_more {k : Nat} (h : k ≠ 0) (o : ByteArray) : mkD k o = mkD (k / 10) ((⟨#[UInt8.ofNat (48 + k % 10)]⟩ : ByteArray) ++ o) := by rw [mkD, dif_neg h]
def mkT (k : Nat) : ByteArray := (⟨#[109]⟩ : ByteArray) ++ mkD k ⟨#[]⟩
theorem one_byteM (c : Int) (x : UInt8) (hx : (x.toNat : Int) = c) (W : World) (B cap : Nat) (hc : W.cell? ⟨B, 0, none⟩ = some (.int .u8 c)) :
    (convert 39 9 (.slice (some ⟨B, 0, none⟩) 1 cap)).run Tryz.prog W = .ok (.string ⟨#[x]⟩) W := by
  have := run_convert_bytes_back (P := Tryz.prog) W 39 9 5 ⟨B, 0, none⟩ cap [x] Tryz.underlying39 Tryz.underlying5 Tryz.underlying9 (fun j hj => by
    obtain rfl : j = 0 := by simp at hj; omega
    simp [Addr.add, hc, hx])
  simpa using this
set_option maxHeartbeats 2000000 in
theorem markText_any (k : Nat) (h0 : 1 ≤ k) (h1 : k ≤ 1000000000000000) (w : World) :
    Calls Tryz.prog 126 #[.int .i64 (k : Int)] w fun e w' => e = .returned (.string (mkT k)) ∧ Below w.heap.size w w' := by
  have HT : Hid (mkT k = (⟨#[109]⟩ : ByteArray) ++ mkD k ⟨#[]⟩) := rfl
  have g : ¬ (k : Int) ≤ 0 := by omega
  go_enter Tryz.func126, Tryz.ntmps126
  go_wp2
  go_loopw [0, 3] (fun x v wr => ∃ (j : Nat) (o : ByteArray), j ≤ k ∧ x = .int .i64 (j : Int) ∧ v = .string o ∧ mkD k ⟨#[]⟩ = mkD j o ∧ o.size + j ≤ k ∧ Below w.heap.size w wr) (fun x _ _ => (intOf x).toNat)
  case atStart => exact ⟨k, ⟨#[]⟩, Nat.le_refl _, rfl, rfl, rfl, by simp [ByteArray.size], Below.refl _ _⟩
  case round =>
    obtain ⟨j, o, hj, rfl, rfl, he, hs, hb⟩ := hrel
    have HE : Hid (mkD k ⟨#[]⟩ = mkD j o) := he
    have KB : Hid (Below w.heap.size w wr) := hb
    clear he hb
    by_cases hj0 : j = 0
    · subst hj0
      have HX : Hid (mkD k ⟨#[]⟩ = o) := by show _ = _; rw [HE.out, mkD_zero]
      have zk : (⟨#[109]⟩ : ByteArray).size = 1 := rfl
      have hadd := fun w => run_string_add_sum (P := Tryz.prog) (w := w) (⟨#[109]⟩ : ByteArray) o (by omega)
      clear zk
      go_wp2_with fail
      go_ret
      exact ⟨ret_str (by rw [HT.out, HX.out]), KB.out⟩
    · have HX : Hid (mkD k ⟨#[]⟩ = mkD (j / 10) ((⟨#[UInt8.ofNat (48 + j % 10)]⟩ : ByteArray) ++ o)) := by show _ = _; rw [HE.out, mkD_more hj0]
      have hcv := one_byteM (48 + (j : Int) % 10) (UInt8.ofNat (48 + j % 10)) (by rw [UInt8.toNat_ofNat_of_lt' (by show 48 + j % 10 < 256; omega)]; omega)
      have zr : (⟨#[UInt8.ofNat (48 + j % 10)]⟩ : ByteArray).size = 1 := rfl
      generalize (⟨#[UInt8.ofNat (48 + j % 10)]⟩ : ByteArray) = r at *
      have zq : (r ++ o).size = 1 + o.size := by rw [ByteArray.size_append, zr]
      have hadd := fun w => run_string_add_sum (P := Tryz.prog) (w := w) r o (by omega)
      generalize r ++ o = q at *
      have g1 : (0 : Int) < (j : Int) := by omega
      have e2 : IntKind.u8.wrap (48 + (j : Int) % 10) = 48 + (j : Int) % 10 := by rw [IntKind.wrap_u8]; omega
      have hj9 : (j : Int) ≤ 1000000000000000 := by omega
      go_wp2_with fail
      go_roundw
      case rel => exact ⟨j / 10, q, by omega, by go_num, rfl, HX.out, by omega, KB.out.alloc KB.out.size _⟩
      case measure => simp [intOf]; omega
end Go.Proofs.YtdooopkpnanekaaGreatDoor
/-
  markHeaderS and heldHeaderS: marks laid into head lines, and found again.
-/
namespace Go.Proofs.YtdooopkpnanekaaGreatDoor
open Go.ChangeShapes Go.WideShapes Go.ChangeAt Go.RowKit Go.Sort
def mkHR (k : Nat) (j : Nat) : Hdr := ⟨mkT (k + 2 * j), mkT (k + 2 * j + 1)⟩
def mkHL (k n : Nat) : List Hdr := (List.range n).map (mkHR k)
theorem mkHL_len (k n : Nat) : (mkHL k n).length = n := by simp [mkHL]
theorem mkHL_get {k n i : Nat} (h : i < n) : (mkHL k n)[i]? = some (mkHR k i) := by simp [mkHL, h]
theorem hcell_set_same {w : World} {g o : Nat} {u v : Value} (h : w.cell? ⟨g, o, none⟩ = some u) : (w.setCell ⟨g, o, none⟩ v).cell? ⟨g, o, none⟩ = some v := World.cell?_setCell_same _ _ _ h
theorem hcell_set_off {w : World} {g o o' : Nat} {v : Value} (h : o ≠ o') : (w.setCell ⟨g, o', none⟩ v).cell? ⟨g, o, none⟩ = w.cell? ⟨g, o, none⟩ :=
  World.cell?_setCell_other _ _ _ _ (by intro e; have := congrArg Addr.off e; simp at this; omega)
/-- One field of one line written. -/
theorem hput_name {w : World} {g off i : Nat} {L : List Hdr} {r : Hdr} (h : HeadsAt w g off L) (hr : L[i]? = some r) (n : ByteArray) :
    HeadsAt (w.setCell ⟨g, off + i * 2, none⟩ (.string n)) g off (L.set i { r with name := n }) := by
  intro j q hq
  by_cases e : j = i
  · subst e
    have hl := (List.getElem?_eq_some_iff.1 hr).1
    rw [List.getElem?_set_self hl] at hq
    obtain rfl := Option.some.inj hq
    obtain ⟨a, c⟩ := h j r hr
    exact ⟨hcell_set_same a, by rw [hcell_set_off (by omega)]; exact c⟩
  · rw [List.getElem?_set_ne (fun k => e k.symm)] at hq
    obtain ⟨a, c⟩ := h j q hq
    exact ⟨by rw [hcell_set_off (by omega)]; exact a, by rw [hcell_set_off (by omega)]; exact c⟩
theorem hput_value {w : World} {g off i : Nat} {L : List Hdr} {r : Hdr} (h : HeadsAt w g off L) (hr : L[i]? = some r) (n : ByteArray) :
    HeadsAt (w.setCell ⟨g, off + i * 2 + 1, none⟩ (.string n)) g off (L.set i { r with value := n }) := by
  intro j q hq
  by_cases e : j = i
  · subst e
    have hl := (List.getElem?_eq_some_iff.1 hr).1
    rw [List.getElem?_set_self hl] at hq
    obtain rfl := Option.some.inj hq
    obtain ⟨a, c⟩ := h j r hr
    exact ⟨by rw [hcell_set_off (by omega)]; exact a, hcell_set_same c⟩
  · rw [List.getElem?_set_ne (fun k => e k.symm)] at hq
    obtain ⟨a, c⟩ := h j q hq
    exact ⟨by rw [hcell_set_off (by omega)]; exact a, by rw [hcell_set_off (by omega)]; exact c⟩
/-- The state of the marking loop: j lines are marked. -/
structure HMarked (w : World) (g off : Nat) (k n j : Nat) (L : List Hdr) (W : World) : Prop where
  len : L.length = n
  done : ∀ i, i < j → L[i]? = some (mkHR k i)
  items : HeadsAt W g off L
  thaw : ∀ o, W.frozen? ⟨g, o, none⟩ = false
  apart : Apart g w W
  low : Below g w W
  lt : g < W.heap.size
theorem HMarked.below {w : World} {g off k n j : Nat} {L : List Hdr} {W W' : World} (h : HMarked w g off k n j L W) (hb : Below W.heap.size W W') : HMarked w g off k n j L W' :=
  ⟨h.len, h.done, h.items.keep hb, fun o => by rw [hb.frozen (p := ⟨g, o, none⟩) h.lt, h.thaw], h.apart.trans (.below hb), h.low.trans (hb.mono (Nat.le_of_lt h.lt)), Nat.lt_of_lt_of_le h.lt hb.size⟩
theorem HMarked.set {w : World} {g off k n j o : Nat} {L L' : List Hdr} {W : World} {v : Value} (h : HMarked w g off k n j L W) (hl : L'.length = L.length) (hd : ∀ i, i < j → L'[i]? = L[i]?) (hi : HeadsAt (W.setCell ⟨g, o, none⟩ v) g off L') : HMarked w g off k n j L' (W.setCell ⟨g, o, none⟩ v) :=
  ⟨hl.trans h.len, fun i hi => (hd i hi).trans (h.done i hi), hi, fun o => by rw [World.frozen?_setCell, h.thaw], h.apart.trans (.set _ _ _ _), h.low.setCell (Nat.le_refl _) _, by simpa using h.lt⟩
end Go.Proofs.YtdooopkpnanekaaGreatDoor
/-
  markHeaderS and heldHeaderS.
-/
namespace Go.Proofs.YtdooopkpnanekaaGreatDoor
open Go.ChangeShapes Go.WideShapes Go.ChangeAt Go.RowKit Go.Sort
set_option maxRecDepth 100000 in
set_option maxHeartbeats 4000000 in
theorem markHeaderS_any (w : World) (g off cap n k : Nat) (l : List Hdr) (hn : l.length = n) (hn2 : n ≤ 1048576) (hk0 : 1 ≤ k) (hk1 : k ≤ 100000000000000) (hi : HeadsAt w g off l) (hf : ∀ o, w.frozen? ⟨g, o, none⟩ = false) (hg : g < w.heap.size) :
    Calls Tryz.prog 78 #[.slice (some ⟨g, off, none⟩) n cap, .int .i64 (k : Int)] w fun e w' => e = .returned (.int .i64 ((k + 2 * n : Nat) : Int)) ∧ HeadsAt w' g off (mkHL k n) ∧ Apart g w w' ∧ Below g w w' ∧ ∀ o, w'.frozen? ⟨g, o, none⟩ = false := by
  have HST : Hid (HMarked w g off k n 0 l w) := ⟨hn, fun i h => by omega, hi, hf, .refl _ _, Below.refl _ _, hg⟩
  clear hi hf hg hn
  go_enter Tryz.func78, Tryz.ntmps78
  go_wp2_with fail
  go_loopw [1, 5] (fun x i wr => ∃ (j : Nat) (L : List Hdr), j ≤ n ∧ i = .int .i64 (j : Int) ∧ x = .int .i64 ((k + 2 * j : Nat) : Int) ∧ HMarked w g off k n j L wr) (fun _ i _ => n - (intOf i).toNat)
  case atStart => exact ⟨0, l, Nat.zero_le _, rfl, rfl, HST.out⟩
  case round =>
    obtain ⟨j, L, hj, rfl, rfl, hm⟩ := hrel
    have HM : Hid (HMarked w g off k n j L wr) := hm
    clear hm HST
    by_cases hlt : j < n
    · obtain ⟨r, hr⟩ : ∃ r, L[j]? = some r := ⟨L[j]'(by have := HM.out.len; omega), List.getElem?_eq_getElem _⟩
      have HR : Hid (L[j]? = some r) := hr
      clear hr
      have g0 : (0 : Int) ≤ j := by omega
      have g1 : (j : Int) < n := by omega
      have HT1 : Hid (∀ w, Calls Tryz.prog 126 #[.int .i64 ((k + 2 * j : Nat) : Int)] w fun e w' => e = .returned (.string (mkT (k + 2 * j))) ∧ Below w.heap.size w w') := markText_any (k + 2 * j) (by omega) (by omega)
      go_wp2_with fail
      refine (HT1.out _).mono ?_
      rintro e w1 ⟨rfl, hb1⟩
      have HM1 : Hid (HMarked w g off k n j L w1) := HM.out.below hb1
      clear hb1 HM
      obtain ⟨p1, p3⟩ := HM1.out.items j r HR.out
      have f1 := HM1.out.thaw (off + j * 2)
      have HT2 : Hid (∀ w, Calls Tryz.prog 126 #[.int .i64 ((k : Int) + 2 * j + 1)] w fun e w' => e = .returned (.string (mkT (k + 2 * j + 1))) ∧ Below w.heap.size w w') := by
        have := markText_any (k + 2 * j + 1) (by omega) (by omega)
        rw [show ((k + 2 * j + 1 : Nat) : Int) = (k : Int) + 2 * j + 1 by omega] at this
        exact this
      have hl : Hid (j < L.length) := (List.getElem?_eq_some_iff.1 HR.out).1
      have HM2 := HM1.out.set (L' := L.set j { r with name := mkT (k + 2 * j) }) (by simp) (fun i hi => by rw [List.getElem?_set_ne (by omega)]) (hput_name HM1.out.items HR.out (mkT (k + 2 * j)))
      have HM4 : Hid _ := HM2
      clear HM2 HM1
      go_wp2_with fail
      refine (HT2.out _).mono ?_
      rintro e w2 ⟨rfl, hb2⟩
      have HM5 : Hid (HMarked w g off k n j (L.set j { r with name := mkT (k + 2 * j) }) w2) := HM4.out.below hb2
      clear hb2 HM4 p1 p3 f1
      have hr5 : (L.set j { r with name := mkT (k + 2 * j) })[j]? = some { r with name := mkT (k + 2 * j) } := List.getElem?_set_self hl.out
      obtain ⟨p1, p3⟩ := HM5.out.items j _ hr5
      have f3 := HM5.out.thaw (off + j * 2 + 1)
      have HM6 := HM5.out.set (L' := (L.set j { r with name := mkT (k + 2 * j) }).set j (mkHR k j)) (by simp) (fun i hi => by rw [List.getElem?_set_ne (by omega)]) (by
        have := hput_value HM5.out.items hr5 (mkT (k + 2 * j + 1))
        exact this)
      have HM7 : Hid _ := HM6
      clear HM6 hr5 HM5
      go_wp2_with fail
      go_roundw
      case rel => exact ⟨j + 1, _, by omega, by go_num, by congr 1, HM7.out.len, fun i hi => by
        by_cases e : i = j
        · subst e; exact List.getElem?_set_self (by simpa using hl.out)
        · exact HM7.out.done i (by omega), HM7.out.items, HM7.out.thaw, HM7.out.apart, HM7.out.low, HM7.out.lt⟩
      case measure => simp [intOf]; omega
    · obtain rfl : j = n := by omega
      have HX : Hid (HeadsAt wr g off (mkHL k j)) := by
        have e : L = mkHL k j := by
          apply List.ext_getElem?
          intro i
          by_cases hi : i < j
          · rw [HM.out.done i hi, mkHL_get hi]
          · rw [List.getElem?_eq_none (by have := HM.out.len; omega), List.getElem?_eq_none (by rw [mkHL_len]; omega)]
        show HeadsAt _ _ _ _
        rw [← e]
        exact HM.out.items
      go_wp2_with fail
      go_ret
      exact ⟨rfl, HX.out, HM.out.apart, HM.out.low, HM.out.thaw⟩
set_option maxRecDepth 100000 in
set_option maxHeartbeats 4000000 in
theorem heldHeaderS_any (w : World) (g off cap n k : Nat) (hn2 : n ≤ 1048576) (hk0 : 1 ≤ k) (hk1 : k ≤ 100000000000000) (hi : HeadsAt w g off (mkHL k n)) :
    Calls Tryz.prog 170 #[.slice (some ⟨g, off, none⟩) n cap, .int .i64 (k : Int)] w fun e w' => e = .returned (.int .i64 ((k + 2 * n : Nat) : Int)) ∧ Below w.heap.size w w' := by
  have HI : Hid (HeadsAt w g off (mkHL k n)) := hi
  clear hi
  go_enter Tryz.func170, Tryz.ntmps170
  go_wp2_with fail
  go_loopw [1, 5] (fun x i wr => ∃ (j : Nat), j ≤ n ∧ i = .int .i64 (j : Int) ∧ x = .int .i64 ((k + 2 * j : Nat) : Int) ∧ Below w.heap.size w wr) (fun _ i _ => n - (intOf i).toNat)
  case atStart => exact ⟨0, Nat.zero_le _, rfl, rfl, Below.refl _ _⟩
  case round =>
    obtain ⟨j, hj, rfl, rfl, hb⟩ := hrel
    have KB : Hid (Below w.heap.size w wr) := hb
    clear hb
    by_cases hlt : j < n
    · obtain ⟨p1, p3⟩ := (HI.out.keep KB.out) j _ (mkHL_get hlt)
      have q1 : wr.cell? ⟨g, off + j * 2, none⟩ = some (.string (mkT (k + 2 * j))) := p1
      have q3 : wr.cell? ⟨g, off + j * 2 + 1, none⟩ = some (.string (mkT (k + 2 * j + 1))) := p3
      clear p1 p3
      have g0 : (0 : Int) ≤ j := by omega
      have g1 : (j : Int) < n := by omega
      have HT1 : Hid (∀ w, Calls Tryz.prog 126 #[.int .i64 ((k : Int) + 2 * j)] w fun e w' => e = .returned (.string (mkT (k + 2 * j))) ∧ Below w.heap.size w w') := by
        have := markText_any (k + 2 * j) (by omega) (by omega)
        rw [show ((k + 2 * j : Nat) : Int) = (k : Int) + 2 * j by omega] at this
        exact this
      have HT2 : Hid (∀ w, Calls Tryz.prog 126 #[.int .i64 ((k : Int) + 2 * j + 1)] w fun e w' => e = .returned (.string (mkT (k + 2 * j + 1))) ∧ Below w.heap.size w w') := by
        have := markText_any (k + 2 * j + 1) (by omega) (by omega)
        rw [show ((k + 2 * j + 1 : Nat) : Int) = (k : Int) + 2 * j + 1 by omega] at this
        exact this
      have KC : Hid (wr.cell? ⟨g, off + j * 2 + 1, none⟩ = some (.string (mkT (k + 2 * j + 1)))) := q3
      clear q3
      generalize mkT (k + 2 * j) = t1 at *
      generalize mkT (k + 2 * j + 1) = t2 at *
      have x1 := cell_regrown q1
      clear q1
      have cE : ∀ d os, Calls Tryz.prog 126 #[.int .i64 ((k : Int) + 2 * j)] (grow (redrawn wr d) os) fun e w'' => e = .returned (.string t1) ∧ ∃ p : Regrown, w'' = grow (redrawn wr p.d) p.os := fun d os => Calls.regrown_of (HT1.out _)
      go_wp2_with fail
      refine wp_region_quiet_below (by kernel_rfl) (by kernel_rfl) ?_
      repeat (go_big_quiet_step ((go_at_call 126; exact cE _ _)))
      refine wpQuiet_nil ?_
      intro w2 hw2
      have hb2 : Below wr.heap.size wr w2 := by
        obtain ⟨⟨d, os⟩, rfl⟩ := hw2
        exact below_regrown wr d os
      have KB2 : Hid (Below w.heap.size w w2) := KB.out.trans (hb2.mono KB.out.size)
      have y3 : w2.cell? ⟨g, off + j * 2 + 1, none⟩ = some (.string t2) := by rw [hb2.cell (block_lt_of_cell KC.out), KC.out]
      have x3 := cell_regrown y3
      clear x1 cE hw2 hb2 KB KC y3
      have cF : ∀ d os, Calls Tryz.prog 126 #[.int .i64 ((k : Int) + 2 * j + 1)] (grow (redrawn w2 d) os) fun e w'' => e = .returned (.string t2) ∧ ∃ p : Regrown, w'' = grow (redrawn w2 p.d) p.os := fun d os => Calls.regrown_of (HT2.out _)
      go_wp2_with fail
      refine wp_region_quiet_below (by kernel_rfl) (by kernel_rfl) ?_
      repeat (go_big_quiet_step ((go_at_call 126; exact cF _ _)))
      refine wpQuiet_nil ?_
      intro w3 hw3
      have KB3 : Hid (Below w.heap.size w w3) := by
        obtain ⟨⟨d, os⟩, rfl⟩ := hw3
        exact KB2.out.trans ((below_regrown w2 d os).mono KB2.out.size)
      clear x3 cF hw3 KB2
      go_wp2_with fail
      go_roundw
      case rel => exact ⟨j + 1, by omega, by go_num, by congr 1, KB3.out⟩
      case measure => simp [intOf]; omega
    · obtain rfl : j = n := by omega
      go_wp2_with fail
      go_ret
      exact ⟨rfl, KB.out⟩
end Go.Proofs.YtdooopkpnanekaaGreatDoor
/-
  Head lines as a value: compared, marked, held.
-/
namespace Go.Proofs.YtdooopkpnanekaaGreatDoor
open Go.ChangeShapes Go.WideShapes Go.ChangeAt Go.RowKit Go.Sort
def HLV (w : World) (v : Value) (l : List Hdr) : Prop :=
  (v = .slice none 0 0 ∧ l = []) ∨ ∃ g cap, v = .slice (some ⟨g, 0, none⟩) l.length cap ∧ g < w.heap.size ∧ HeadsAt w g 0 l ∧ ∀ o, w.frozen? ⟨g, o, none⟩ = false
theorem OwnH.lv {w : World} {base : Nat} {v : Value} {l : List Hdr} (h : OwnH w base v l) : HLV w v l ∧ ∀ b, v.ownBlock = some b → base ≤ b := by
  have h0 := h
  obtain ⟨_, h1 | ⟨g, c, cur, rfl, hg, hh, _⟩⟩ := h
  · have e : l = [] := List.eq_nil_of_length_eq_zero h1.2
    exact ⟨.inl ⟨h1.1, e⟩, fun b hb => by rw [h1.1] at hb; cases hb⟩
  · refine ⟨.inr ⟨g, c, rfl, (Array.getElem?_eq_some_iff.1 hh).1, ?_, fun o => ?_⟩, fun b hb => ?_⟩
    · obtain ⟨a, c', e, hi⟩ := h0.at
      rcases hi with rfl | ⟨b, off, rfl, hat⟩
      · intro i r hr; simp at hr
      · simp only [Value.slice.injEq, Option.some.injEq] at e
        obtain ⟨e, _⟩ := e
        have e1 := congrArg Addr.block e
        have e2 := congrArg Addr.off e
        simp only at e1 e2
        rw [e1, e2]
        exact hat
    · simp [World.frozen?, hh]
    · simp only [Value.ownBlock, Option.some.injEq] at hb; omega
theorem HLV.below {w w' : World} {v : Value} {l : List Hdr} (h : HLV w v l) (hb : Below w.heap.size w w') : HLV w' v l := by
  rcases h with h | ⟨g, c, e, hg, hi, hf⟩
  · exact .inl h
  · exact .inr ⟨g, c, e, Nat.lt_of_lt_of_le hg hb.size, hi.keep hb, fun o => by rw [hb.frozen (p := ⟨g, o, none⟩) hg, hf]⟩
/-- All that was there, but for the memory of v, is as it was. -/
structure HAV (v : Value) (w w' : World) : Prop where
  size : w.heap.size ≤ w'.heap.size
  cell : ∀ b o, b < w.heap.size → v.ownBlock ≠ some b → w'.cell? ⟨b, o, none⟩ = w.cell? ⟨b, o, none⟩
  frozen : ∀ b o, b < w.heap.size → v.ownBlock ≠ some b → w'.frozen? ⟨b, o, none⟩ = w.frozen? ⟨b, o, none⟩
theorem HAV.below {v : Value} {w w' : World} (h : Below w.heap.size w w') : HAV v w w' :=
  ⟨h.size, fun b o hb _ => h.cell (p := ⟨b, o, none⟩) hb, fun b o hb _ => h.frozen (p := ⟨b, o, none⟩) hb⟩
theorem HLV.av {w w' : World} {v v1 : Value} {l : List Hdr} (h : HLV w v1 l) (k : HAV v w w') (hne : ∀ b, v1.ownBlock = some b → v.ownBlock ≠ some b) : HLV w' v1 l := by
  rcases h with h | ⟨g, c, rfl, hg, hi, hf⟩
  · exact .inl h
  · have hn := hne g rfl
    exact .inr ⟨g, c, rfl, Nat.lt_of_lt_of_le hg k.size, fun i r hr => by rw [k.cell g _ hg hn, k.cell g _ hg hn]; exact hi i r hr, fun o => by rw [k.frozen g o hg hn, hf]⟩
set_option maxHeartbeats 1000000 in
theorem eqHeaderS_nil (w : World) (a b : Option Addr) (c d : Nat) :
    Calls Tryz.prog 75 #[.slice a 0 c, .slice b 0 d] w fun e w' => e = .returned (.bool true) ∧ Below w.heap.size w w' := by
  go_enter Tryz.func75, Tryz.ntmps75
  go_wp2_with fail
  go_loop [5] (fun i => i = .int .i64 0) (fun _ => 0)
  case atStart => rfl
  case round =>
    obtain rfl := hrel
    go_wp2_with fail
    go_ret
    exact ⟨rfl, Below.refl _ _⟩
theorem eqHeaderS_lv (w : World) (v1 v2 : Value) (l : List Hdr) (hl : l.length ≤ 1048576) (h1 : HLV w v1 l) (h2 : HLV w v2 l) :
    Calls Tryz.prog 75 #[v1, v2] w fun e w' => e = .returned (.bool true) ∧ Below w.heap.size w w' := by
  rcases h1 with ⟨rfl, rfl⟩ | ⟨g, c, rfl, _, hi, _⟩
  · rcases h2 with ⟨rfl, _⟩ | ⟨g, c, rfl, _, _, _⟩
    · exact eqHeaderS_nil w _ _ _ _
    · exact eqHeaderS_nil w _ _ _ _
  · rcases h2 with ⟨rfl, rfl⟩ | ⟨g', c', rfl, _, hi', _⟩
    · exact eqHeaderS_nil w _ _ _ _
    · exact eqHeaderS_same w g 0 g' 0 c c' l hl hi hi'
set_option maxHeartbeats 1000000 in
theorem markHeaderS_nil (w : World) (a : Option Addr) (c k : Nat) :
    Calls Tryz.prog 78 #[.slice a 0 c, .int .i64 (k : Int)] w fun e w' => e = .returned (.int .i64 (k : Int)) ∧ Below w.heap.size w w' := by
  go_enter Tryz.func78, Tryz.ntmps78
  go_wp2_with fail
  go_loop [1, 5] (fun x i => x = .int .i64 (k : Int) ∧ i = .int .i64 0) (fun _ _ => 0)
  case atStart => exact ⟨rfl, rfl⟩
  case round =>
    obtain ⟨rfl, rfl⟩ := hrel
    go_wp2_with fail
    go_ret
    exact ⟨rfl, Below.refl _ _⟩
set_option maxHeartbeats 1000000 in
theorem heldHeaderS_nil (w : World) (a : Option Addr) (c k : Nat) :
    Calls Tryz.prog 170 #[.slice a 0 c, .int .i64 (k : Int)] w fun e w' => e = .returned (.int .i64 (k : Int)) ∧ Below w.heap.size w w' := by
  go_enter Tryz.func170, Tryz.ntmps170
  go_wp2_with fail
  go_loop [1, 5] (fun x i => x = .int .i64 (k : Int) ∧ i = .int .i64 0) (fun _ _ => 0)
  case atStart => exact ⟨rfl, rfl⟩
  case round =>
    obtain ⟨rfl, rfl⟩ := hrel
    go_wp2_with fail
    go_ret
    exact ⟨rfl, Below.refl _ _⟩
theorem markHeaderS_lv (w : World) (v : Value) (l : List Hdr) (hl : l.length ≤ 1048576) (h : HLV w v l) (base : Nat) (hb : ∀ b, v.ownBlock = some b → base ≤ b) (hbs : base ≤ w.heap.size) :
    Calls Tryz.prog 78 #[v, .int .i64 1] w fun e w' => e = .returned (.int .i64 ((1 + 2 * l.length : Nat) : Int)) ∧ HLV w' v (mkHL 1 l.length) ∧ HAV v w w' ∧ Below base w w' := by
  rcases h with ⟨rfl, rfl⟩ | ⟨g, c, rfl, hg, hi, hf⟩
  · exact (markHeaderS_nil w none 0 1).mono fun _ _ ⟨h1, h2⟩ => ⟨h1, .inl ⟨rfl, rfl⟩, .below h2, h2.mono hbs⟩
  · refine (markHeaderS_any w g 0 c l.length 1 l rfl hl (by omega) (by omega) hi hf hg).mono ?_
    rintro e w' ⟨h1, h2, h3, h4, h5⟩
    have hne : ∀ b, (Value.slice (some ⟨g, 0, none⟩) l.length c).ownBlock ≠ some b → b ≠ g := fun b hb e => hb (by subst e; rfl)
    refine ⟨h1, ?_, ⟨h3.size, fun b o hb hn => h3.cell b o hb (hne b hn), fun b o hb hn => h3.frozen b o hb (hne b hn)⟩, h4.mono (hb g rfl)⟩
    exact .inr ⟨g, c, by rw [mkHL_len], Nat.lt_of_lt_of_le hg h3.size, h2, h5⟩
theorem heldHeaderS_lv (w : World) (v : Value) (n : Nat) (hl : n ≤ 1048576) (h : HLV w v (mkHL 1 n)) :
    Calls Tryz.prog 170 #[v, .int .i64 1] w fun e w' => e = .returned (.int .i64 ((1 + 2 * n : Nat) : Int)) ∧ Below w.heap.size w w' := by
  rcases h with ⟨rfl, h0⟩ | ⟨g, c, rfl, _, hi, _⟩
  · have e := congrArg List.length h0
    rw [mkHL_len] at e
    simp at e
    subst e
    exact heldHeaderS_nil w none 0 1
  · rw [mkHL_len]
    exact heldHeaderS_any w g 0 c n 1 hl (by omega) (by omega) hi
end Go.Proofs.YtdooopkpnanekaaGreatDoor
/-
  Word bytes: the table, plainly. No Go in sight.
-/
namespace Go.Proofs.YtdooopkpnanekaaGreatDoor
def wordTab : List Bool := [false, false, false, false, false, false, false, false, false, false, false, false, false, false, false, false, false, false, false, false, false, false, false, false, false, false, false, false, false, false, false, false, false, true, false, true, true, true, true, true, false, false, true, true, false, true, true, false, true, true, true, true, true, true, true, true, true, true, false, false, false, false, false, false, false, true, true, true, true, true, true, true, true, true, true, true, true, true, true, true, true, true, true, true, true, true, true, true, true, true, true, false, false, false, true, true, false, true, true, true, true, true, true, true, true, true, true, true, true, true, true, true, true, true, true, true, true, true, true, true, true, true, true, false, true, false, true, false]
def wordI (c : Int) : Bool := wordTab.getD c.toNat false
theorem wordTab_len : wordTab.length = 128 := by decide +kernel
/-- One of the signs that are no letter and no digit. -/
def signI (c : Nat) : Bool := [33, 35, 36, 37, 38, 39, 42, 43, 45, 46, 94, 95, 124, 126].contains c
theorem table_all : ∀ c : Fin 256, wordTab.getD c.val false = (signI c.val || (decide (97 ≤ c.val) && decide (c.val ≤ 122)) || (decide (65 ≤ c.val) && decide (c.val ≤ 90)) || (decide (48 ≤ c.val) && decide (c.val ≤ 57))) := by decide +kernel
theorem wordI_eq (c : Int) (h0 : 0 ≤ c) (h1 : c < 256) : wordI c = (signI c.toNat || (decide (97 ≤ c) && decide (c ≤ 122)) || (decide (65 ≤ c) && decide (c ≤ 90)) || (decide (48 ≤ c) && decide (c ≤ 57))) := by
  obtain ⟨n, rfl⟩ := Int.eq_ofNat_of_zero_le h0
  have h2 : n < 256 := by omega
  have := table_all ⟨n, h2⟩
  simp only at this
  rw [wordI, Int.toNat_natCast, this]
  have e : ∀ a : Nat, decide (a ≤ n) = decide ((a : Int) ≤ (n : Int)) := fun a => by simp
  have e' : ∀ a : Nat, decide (n ≤ a) = decide ((n : Int) ≤ (a : Int)) := fun a => by simp
  simp only [e, e']
  rfl
theorem wordI_big (c : Int) (h : 128 ≤ c) : wordI c = false := by
  have hl := wordTab_len
  unfold wordI
  rw [List.getD_eq_getElem?_getD, List.getElem?_eq_none (by omega)]
  rfl
def allW (l : List UInt8) : Bool := l.all fun c => wordI (c.toNat : Int)
theorem allW_snoc (l : List UInt8) (c : UInt8) : allW (l ++ [c]) = (allW l && wordI (c.toNat : Int)) := by simp [allW]
theorem allW_of_take (l : List UInt8) (k : Nat) (h : allW (l.take k) = false) : allW l = false := by
  have e := List.take_append_drop k l
  rw [← e]
  simp only [allW] at h ⊢
  rw [List.all_append, h, Bool.false_and]
theorem allW_not (s : ByteArray) (k : Nat) (h : k < s.size) (hd : wordI (s[k].toNat : Int) = false) : allW s.data.toList = false := by
  refine allW_of_take _ (k + 1) ?_
  rw [take_snoc s k h, allW_snoc, hd, Bool.and_false]
def wordS (s : ByteArray) : Bool := decide (1 ≤ s.size) && decide (s.size ≤ 64) && allW s.data.toList
theorem wordS_short (s : ByteArray) (h : s.size < 1) : wordS s = false := by simp [wordS]; omega
theorem wordS_long (s : ByteArray) (h : 64 < s.size) : wordS s = false := by simp [wordS]; omega
theorem wordS_mid (s : ByteArray) (h1 : 1 ≤ s.size) (h2 : s.size ≤ 64) : wordS s = allW s.data.toList := by simp [wordS, h1, h2]
end Go.Proofs.YtdooopkpnanekaaGreatDoor
/-
  Quotes, plainly. No Go in sight.
-/
namespace Go.Proofs.YtdooopkpnanekaaGreatDoor
def plainI (c : Int) : Bool := c == 9 || (decide (32 ≤ c) && decide (c ≤ 126))
def plainL (l : List UInt8) : Bool := l.all fun c => plainI (c.toNat : Int)
theorem plainL_snoc (l : List UInt8) (c : UInt8) : plainL (l ++ [c]) = (plainL l && plainI (c.toNat : Int)) := by simp [plainL]
theorem plainL_of_take (l : List UInt8) (k : Nat) (h : plainL (l.take k) = false) : plainL l = false := by
  have e := List.take_append_drop k l
  rw [← e]
  simp only [plainL] at h ⊢
  rw [List.all_append, h, Bool.false_and]
theorem plainL_not (s : ByteArray) (k : Nat) (h : k < s.size) (hd : plainI (s[k].toNat : Int) = false) : plainL s.data.toList = false := by
  refine plainL_of_take _ (k + 1) ?_
  rw [take_snoc s k h, plainL_snoc, hd, Bool.and_false]
/-- One byte between quotes. -/
def quoteC (c : UInt8) : List UInt8 := if (c.toNat : Int) = 34 ∨ (c.toNat : Int) = 92 then [92, c] else [c]
def quoteB (l : List UInt8) : List UInt8 := l.flatMap quoteC
def quoteL (l : List UInt8) : List UInt8 := [34] ++ quoteB l ++ [34]
theorem quoteB_snoc (l : List UInt8) (c : UInt8) : quoteB (l ++ [c]) = quoteB l ++ quoteC c := by simp [quoteB]
theorem quoteC_yes {c : UInt8} (h : (c.toNat : Int) = 34 ∨ (c.toNat : Int) = 92) : quoteC c = [92, c] := by simp only [quoteC, if_pos h]
theorem quoteC_no {c : UInt8} (h : ¬ ((c.toNat : Int) = 34 ∨ (c.toNat : Int) = 92)) : quoteC c = [c] := by simp only [quoteC, if_neg h]
theorem quoteC_len (c : UInt8) : (quoteC c).length ≤ 2 := by unfold quoteC; split <;> simp
theorem quoteB_len (l : List UInt8) : (quoteB l).length ≤ 2 * l.length := by
  induction l with
  | nil => simp [quoteB]
  | cons c r ih =>
    have := quoteC_len c
    simp only [quoteB, List.flatMap_cons, List.length_append, List.length_cons] at ih ⊢
    omega
theorem quoteB_ge (l : List UInt8) : l.length ≤ (quoteB l).length := by
  induction l with
  | nil => simp
  | cons c r ih =>
    have : 1 ≤ (quoteC c).length := by unfold quoteC; split <;> simp
    simp only [quoteB, List.flatMap_cons, List.length_append, List.length_cons] at ih ⊢
    omega
/-- What stands between quotes, read from behind the first one; acc: what was taken. -/
def unq (acc : List UInt8) : List UInt8 → List UInt8 × Bool
  | [] => ([], false)
  | [c] => if (c.toNat : Int) = 34 then (acc, true) else ([], false)
  | c :: d :: r => if (c.toNat : Int) = 34 then (acc, false) else if (c.toNat : Int) = 92 then unq (acc ++ [d]) r else unq (acc ++ [c]) (d :: r)
/-- A text between quotes: what it tells, and whether it does. -/
def unqT (l : List UInt8) : List UInt8 × Bool := if 2 ≤ l.length ∧ l.head? = some 34 ∧ plainL l = true then unq [] l.tail else ([], false)
theorem unq_end (acc r : List UInt8) (c : UInt8) (h : (c.toNat : Int) = 34) : unq acc (c :: r) = (acc, decide (r = [])) := by
  cases r with
  | nil => rw [unq, if_pos h]; rfl
  | cons d r => rw [unq, if_pos h]; simp
theorem unq_cut (acc : List UInt8) (c : UInt8) (h : (c.toNat : Int) = 92) : unq acc [c] = ([], false) := by
  rw [unq, if_neg (by omega)]
theorem unq_esc (acc r : List UInt8) (c d : UInt8) (h : (c.toNat : Int) = 92) : unq acc (c :: d :: r) = unq (acc ++ [d]) r := by
  rw [unq, if_neg (by omega), if_pos h]
theorem unq_take (acc r : List UInt8) (c : UInt8) (h1 : ¬ (c.toNat : Int) = 34) (h2 : ¬ (c.toNat : Int) = 92) : unq acc (c :: r) = unq (acc ++ [c]) r := by
  cases r with
  | nil => simp only [unq, if_neg h1]
  | cons d r => rw [unq, if_neg h1, if_neg h2]
/-- What was quoted is read as it was. -/
theorem unq_quote (l : List UInt8) : ∀ acc, unq acc (quoteB l ++ [34]) = (acc ++ l, true) := by
  induction l with
  | nil => intro acc; rw [show quoteB [] ++ [34] = [34] from rfl, unq_end _ _ _ (by decide)]; simp
  | cons c r ih =>
    intro acc
    have e : quoteB (c :: r) ++ [34] = quoteC c ++ (quoteB r ++ [34]) := by simp [quoteB]
    rw [e]
    by_cases h : (c.toNat : Int) = 34 ∨ (c.toNat : Int) = 92
    · rw [quoteC_yes h]
      show unq acc (92 :: c :: (quoteB r ++ [34])) = _
      rw [unq_esc _ _ _ _ (by decide), ih]; simp
    · rw [quoteC_no h]
      show unq acc (c :: (quoteB r ++ [34])) = _
      rw [unq_take _ _ _ (by omega) (by omega), ih]; simp
theorem plain_quoteB (l : List UInt8) (h : plainL l = true) : plainL (quoteB l) = true := by
  induction l with
  | nil => rfl
  | cons c r ih =>
    simp only [plainL, List.all_cons, Bool.and_eq_true] at h
    have e : quoteB (c :: r) = quoteC c ++ quoteB r := by simp [quoteB]
    rw [e]
    simp only [plainL, List.all_append, Bool.and_eq_true]
    refine ⟨?_, ih h.2⟩
    unfold quoteC
    split
    · simp [h.1]; decide
    · simp [h.1]
theorem unqT_quote (l : List UInt8) (h : plainL l = true) : unqT (quoteL l) = (l, true) := by
  have hp : plainL (quoteL l) = true := by
    simp only [quoteL, plainL, List.all_append, Bool.and_eq_true]
    exact ⟨⟨by decide, plain_quoteB l h⟩, by decide⟩
  unfold unqT
  rw [if_pos ⟨by simp [quoteL], rfl, hp⟩]
  show unq [] (quoteB l ++ [34]) = _
  rw [unq_quote]; simp
end Go.Proofs.YtdooopkpnanekaaGreatDoor
/-
  Blanks at both ends: plainly. No Go in sight.
-/
namespace Go.Proofs.YtdooopkpnanekaaGreatDoor
def blankI (c : Int) : Bool := c == 32 || c == 9
def trimT (s : ByteArray) : ByteArray := ⟨(Lib.trimS s.data.toList [32, 9]).toArray⟩
theorem contains_blank (b : UInt8) : [(32 : UInt8), 9].contains b = blankI (b.toNat : Int) := by
  rw [Bool.eq_iff_iff]
  simp [blankI, List.contains_eq_mem]
  constructor
  · rintro (rfl | rfl) <;> simp
  · rintro (h | h)
    · exact .inl (UInt8.toNat_inj.1 (by simpa using (by omega : b.toNat = 32)))
    · exact .inr (UInt8.toNat_inj.1 (by simpa using (by omega : b.toNat = 9)))
theorem trim_between (l : List UInt8) (k m : Nat) (hkm : k ≤ m) (hm : m ≤ l.length)
    (h1 : ∀ (j : Nat) b, j < k → l[j]? = some b → blankI (b.toNat : Int) = true) (h2 : ∀ b, k < l.length → l[k]? = some b → blankI (b.toNat : Int) = false)
    (h3 : ∀ (j : Nat) b, m ≤ j → l[j]? = some b → blankI (b.toNat : Int) = true) (h4 : ∀ b, k < m → l[m - 1]? = some b → blankI (b.toNat : Int) = false) :
    Lib.trimS l [32, 9] = (l.take m).drop k := by
  by_cases e : k < m
  · have er : Lib.trimRightS l [32, 9] = l.take m := by
      refine Lib.trimRightS_take l _ m hm (fun j b hj hb => ?_) (fun b _ hb => ?_)
      · rw [contains_blank]; exact h3 j b hj hb
      · rw [contains_blank]; exact h4 b e hb
    unfold Lib.trimS
    rw [er]
    refine Lib.trimLeftS_drop _ _ k (by simp; omega) (fun j b hj hb => ?_) (fun b hb => ?_)
    · rw [List.getElem?_take_of_lt (by omega)] at hb
      rw [contains_blank]; exact h1 j b hj hb
    · rw [List.getElem?_take_of_lt (by omega)] at hb
      rw [contains_blank]; exact h2 b (by omega) hb
  · obtain rfl : k = m := by omega
    have ek : k = l.length := by
      by_cases c : k < l.length
      · have a := h2 _ c (List.getElem?_eq_getElem c)
        have b := h3 k _ (Nat.le_refl _) (List.getElem?_eq_getElem c)
        rw [a] at b; cases b
      · omega
    have er : Lib.trimRightS l [32, 9] = l.take 0 := by
      refine Lib.trimRightS_take l _ 0 (Nat.zero_le _) (fun j b _ hb => ?_) (fun b h0 _ => absurd h0 (by omega))
      have hj : j < l.length := (List.getElem?_eq_some_iff.1 hb).1
      rw [contains_blank]; exact h1 j b (by omega) hb
    unfold Lib.trimS
    rw [er]
    simp [Lib.trimLeftS, ek]
theorem trim_extract (s : ByteArray) (k m : Nat) (h : Lib.trimS s.data.toList [32, 9] = (s.data.toList.take m).drop k) : s.extract k m = trimT s := by
  apply ByteArray.ext
  unfold trimT
  rw [h]
  apply Array.ext'
  simp [List.drop_take]
end Go.Proofs.YtdooopkpnanekaaGreatDoor
/-
  What the model's l1Lower answers.
-/
namespace Go.Proofs.YtdooopkpnanekaaGreatDoor
open Go.ChangeShapes Go.WideShapes Go.ChangeAt Go.RowKit
def lowS (s : ByteArray) : ByteArray := ⟨(s.data.toList.map lowU).toArray⟩
end Go.Proofs.YtdooopkpnanekaaGreatDoor
/-
  Head lines, plainly: their faults, their text, how they are found, set and dropped. No Go in sight.
-/
namespace Go.Proofs.YtdooopkpnanekaaGreatDoor
def faultH (r : Hdr) : Int := if wordS r.name = false then 5 else if 200 < r.value.size then 2 else if plainL r.value.data.toList = false then 5 else if trimT r.value = r.value then 0 else 5
def faultHL : List Hdr → Int
  | [] => 0
  | r :: l => if faultH r = 0 then faultHL l else faultH r
theorem faultHL_ok {r : Hdr} {l : List Hdr} (h : faultH r = 0) : faultHL (r :: l) = faultHL l := by rw [faultHL, if_pos h]
theorem faultHL_bad {r : Hdr} {l : List Hdr} (h : faultH r ≠ 0) : faultHL (r :: l) = faultH r := by rw [faultHL, if_neg h]
def headsC (l : List Hdr) : Int := if 20 < l.length then 2 else faultHL l
theorem headsC_many {l : List Hdr} (h : 20 < l.length) : headsC l = 2 := by unfold headsC; rw [if_pos h]
theorem headsC_few {l : List Hdr} (h : ¬ 20 < l.length) : headsC l = faultHL l := by unfold headsC; rw [if_neg h]
theorem faultH_zero {r : Hdr} (h : faultH r = 0) : wordS r.name = true ∧ r.value.size ≤ 200 ∧ plainL r.value.data.toList = true ∧ trimT r.value = r.value := by
  unfold faultH at h
  by_cases c1 : wordS r.name = false
  · rw [if_pos c1] at h; omega
  rw [if_neg c1] at h
  by_cases c2 : 200 < r.value.size
  · rw [if_pos c2] at h; omega
  rw [if_neg c2] at h
  by_cases c3 : plainL r.value.data.toList = false
  · rw [if_pos c3] at h; omega
  rw [if_neg c3] at h
  by_cases c4 : trimT r.value = r.value
  · exact ⟨by simpa using c1, by omega, by simpa using c3, c4⟩
  · rw [if_neg c4] at h; omega
theorem faultHL_zero (l : List Hdr) (h : faultHL l = 0) : ∀ (i : Nat) r, l[i]? = some r → faultH r = 0 := by
  induction l with
  | nil => intro i r hr; simp at hr
  | cons x l ih =>
    intro i r hr
    by_cases c : faultH x = 0
    · rw [faultHL_ok c] at h
      cases i with
      | zero => simp at hr; subst hr; exact c
      | succ i => exact ih h i r (by simpa using hr)
    · rw [faultHL_bad c] at h; exact absurd h c
theorem faultHL_of (l : List Hdr) (h : ∀ r ∈ l, faultH r = 0) : faultHL l = 0 := by
  induction l with
  | nil => rfl
  | cons x l ih => rw [faultHL_ok (h x (by simp))]; exact ih fun r hr => h r (by simp [hr])
theorem headsC_zero {l : List Hdr} (h : headsC l = 0) : l.length ≤ 20 ∧ ∀ (i : Nat) r, l[i]? = some r → faultH r = 0 := by
  by_cases c : 20 < l.length
  · rw [headsC_many c] at h; omega
  · rw [headsC_few c] at h; exact ⟨by omega, faultHL_zero l h⟩
theorem hword_max {s : ByteArray} (h : wordS s = true) : s.size ≤ 64 := by
  by_cases c : 64 < s.size
  · rw [wordS_long s c] at h; cases h
  · omega
theorem take_hdr {l : List Hdr} {k : Nat} {r : Hdr} (h : l[k]? = some r) : l.take (k + 1) = l.take k ++ [r] := by rw [List.take_add_one, h]; rfl
theorem happ_list (a b : ByteArray) : (a ++ b).data.toList = a.data.toList ++ b.data.toList := by simp
theorem hof_list {a : ByteArray} {l : List UInt8} (h : a.data.toList = l) : a = ⟨l.toArray⟩ := by subst h; cases a; simp
theorem hret_ct {a b : Int} {s t : ByteArray} (h : a = b ∧ s = t) : Ending.returned (.agg #[.int .i64 b, .string t]) = .returned (.agg #[.int .i64 a, .string s]) := by rw [h.1, h.2]
/-! ### their text -/
def lineL (r : Hdr) : List UInt8 := r.name.data.toList ++ [58, 32] ++ r.value.data.toList ++ [13, 10]
def packL (l : List Hdr) : List UInt8 := l.flatMap lineL
theorem packL_take {l : List Hdr} {k : Nat} {r : Hdr} (h : l[k]? = some r) : packL (l.take (k + 1)) = packL (l.take k) ++ lineL r := by rw [take_hdr h]; simp [packL]
theorem lineL_len {r : Hdr} (h : faultH r = 0) : (lineL r).length ≤ 268 := by
  obtain ⟨h1, h2, _⟩ := faultH_zero h
  have := hword_max h1
  have e1 : r.name.data.toList.length = r.name.size := by simp
  have e2 : r.value.data.toList.length = r.value.size := by simp
  simp only [lineL, List.length_append, List.length_cons, List.length_nil]
  omega
def packT (l : List Hdr) : ByteArray := if headsC l = 0 then ⟨(packL l).toArray⟩ else ⟨#[]⟩
theorem packT_ok {l : List Hdr} (h : headsC l = 0) : packT l = ⟨(packL l).toArray⟩ := by unfold packT; rw [if_pos h]
theorem packT_bad {l : List Hdr} (h : headsC l ≠ 0) : packT l = ⟨#[]⟩ := by unfold packT; rw [if_neg h]
/-! ### names that are alike -/
def askC (l : List Hdr) (name : ByteArray) : Int := if headsC l = 0 then (if wordS name = true then 0 else 5) else headsC l
theorem askC_bad {l : List Hdr} {name : ByteArray} (h : headsC l ≠ 0) : askC l name = headsC l := by unfold askC; rw [if_neg h]
theorem askC_word {l : List Hdr} {name : ByteArray} (h : headsC l = 0) (hw : wordS name = true) : askC l name = 0 := by unfold askC; rw [if_pos h, if_pos hw]
theorem askC_text {l : List Hdr} {name : ByteArray} (h : headsC l = 0) (hw : wordS name = false) : askC l name = 5 := by unfold askC; rw [if_pos h, if_neg (by rw [hw]; decide)]
theorem askC_zero {l : List Hdr} {name : ByteArray} (h : askC l name = 0) : headsC l = 0 ∧ wordS name = true := by
  by_cases c : headsC l = 0
  · cases hw : wordS name
    · rw [askC_text c hw] at h; omega
    · exact ⟨c, rfl⟩
  · rw [askC_bad c] at h; exact absurd h c
/-- The values of all lines whose name, in small letters, is x. -/
def valsOf (x : ByteArray) (l : List Hdr) : List ByteArray := (l.filter fun r => decide (lowS r.name = x)).map (·.value)
theorem valsOf_yes {x : ByteArray} {r : Hdr} (l : List Hdr) (h : lowS r.name = x) : valsOf x (l ++ [r]) = valsOf x l ++ [r.value] := by simp [valsOf, h]
theorem valsOf_no {x : ByteArray} {r : Hdr} (l : List Hdr) (h : ¬ lowS r.name = x) : valsOf x (l ++ [r]) = valsOf x l := by simp [valsOf, h]
def hjoinL (vs : List ByteArray) : List UInt8 := Lib.join (vs.map (·.data.toList)) [44, 32]
theorem hjoinL_snoc (vs : List ByteArray) (v : ByteArray) : hjoinL (vs ++ [v]) = hjoinL vs ++ (if vs = [] then [] else [44, 32]) ++ v.data.toList := by
  unfold hjoinL
  cases vs with
  | nil => simp [Lib.join, List.intercalate]
  | cons a r =>
    rw [List.map_append, List.map_cons, List.cons_append, Lib.join_cons, Lib.join_cons]
    simp [Lib.joinTail]
def joinC (l : List Hdr) (name : ByteArray) : Int := if askC l name = 0 then (if valsOf (lowS name) l = [] then 4 else 0) else askC l name
def joinT (l : List Hdr) (name : ByteArray) : ByteArray := if joinC l name = 0 then ⟨(hjoinL (valsOf (lowS name) l)).toArray⟩ else ⟨#[]⟩
theorem join_bad {l : List Hdr} {name : ByteArray} (h : askC l name ≠ 0) : joinC l name = askC l name ∧ joinT l name = ⟨#[]⟩ := by
  have e : joinC l name = askC l name := by unfold joinC; rw [if_neg h]
  exact ⟨e, by unfold joinT; rw [if_neg (by rw [e]; exact h)]⟩
theorem join_none {l : List Hdr} {name : ByteArray} (h : askC l name = 0) (hv : valsOf (lowS name) l = []) : joinC l name = 4 ∧ joinT l name = ⟨#[]⟩ := by
  have e : joinC l name = 4 := by unfold joinC; rw [if_pos h, if_pos hv]
  exact ⟨e, by unfold joinT; rw [if_neg (by rw [e]; decide)]⟩
theorem join_some {l : List Hdr} {name : ByteArray} (h : askC l name = 0) (hv : valsOf (lowS name) l ≠ []) : joinC l name = 0 ∧ joinT l name = ⟨(hjoinL (valsOf (lowS name) l)).toArray⟩ := by
  have e : joinC l name = 0 := by unfold joinC; rw [if_pos h, if_neg hv]
  exact ⟨e, by unfold joinT; rw [if_pos e]⟩
/-- What is left without the lines whose name, in small letters, is x. -/
def dropH (x : ByteArray) (l : List Hdr) : List Hdr := l.filter fun r => decide (¬ lowS r.name = x)
theorem dropH_yes {x : ByteArray} {r : Hdr} (l : List Hdr) (h : lowS r.name = x) : dropH x (l ++ [r]) = dropH x l := by simp [dropH, h]
theorem dropH_no {x : ByteArray} {r : Hdr} (l : List Hdr) (h : ¬ lowS r.name = x) : dropH x (l ++ [r]) = dropH x l ++ [r] := by simp [dropH, h]
theorem dropH_len (x : ByteArray) (l : List Hdr) : (dropH x l).length ≤ l.length := List.length_filter_le _ _
def dropL (l : List Hdr) (name : ByteArray) : List Hdr := if askC l name = 0 then dropH (lowS name) l else []
/-- Where the first line of that name stands. -/
def firstAt (x : ByteArray) : List Hdr → Option Nat
  | [] => none
  | r :: l => if lowS r.name = x then some 0 else (firstAt x l).map (· + 1)
theorem firstAt_none {x : ByteArray} : ∀ {l : List Hdr}, firstAt x l = none → ∀ r ∈ l, ¬ lowS r.name = x
  | [], _, r, hr => by simp at hr
  | y :: l, h, r, hr => by
    by_cases c : lowS y.name = x
    · rw [firstAt, if_pos c] at h; cases h
    · rw [firstAt, if_neg c] at h
      rcases List.mem_cons.1 hr with rfl | hr
      · exact c
      · exact firstAt_none (Option.map_eq_none_iff.1 h) r hr
theorem firstAt_lt {x : ByteArray} : ∀ {l : List Hdr} {i : Nat}, firstAt x l = some i → i < l.length
  | [], i, h => by simp [firstAt] at h
  | y :: l, i, h => by
    by_cases c : lowS y.name = x
    · rw [firstAt, if_pos c] at h; obtain rfl := Option.some.inj h; simp
    · rw [firstAt, if_neg c] at h
      obtain ⟨j, hj, rfl⟩ := Option.map_eq_some_iff.1 h
      have := firstAt_lt hj
      simp only [List.length_cons]; omega
theorem firstAt_snoc {x : ByteArray} (r : Hdr) : ∀ (l : List Hdr), firstAt x (l ++ [r]) = match firstAt x l with | some i => some i | none => if lowS r.name = x then some l.length else none
  | [] => by simp [firstAt]
  | y :: l => by
    by_cases c : lowS y.name = x
    · simp [firstAt, c]
    · simp only [List.cons_append, firstAt, if_neg c]
      rw [firstAt_snoc r l]
      cases firstAt x l with
      | some i => rfl
      | none => simp only [Option.map_none]; split <;> simp
theorem valsOf_first {x : ByteArray} : ∀ {l : List Hdr}, valsOf x l = [] ↔ firstAt x l = none
  | [] => by simp [valsOf, firstAt]
  | y :: l => by
    by_cases c : lowS y.name = x
    · simp [valsOf, firstAt, c]
    · have := @valsOf_first x l
      simp only [valsOf] at this
      simp only [valsOf, firstAt, List.filter_cons, c, decide_false, Bool.false_eq_true, if_false, this, Option.map_eq_none_iff]
theorem valsOf_drop {x : ByteArray} : ∀ {l : List Hdr} {i : Nat}, firstAt x l = some i → valsOf x (l.drop i) = valsOf x l ∧ valsOf x (l.take i) = []
  | [], i, h => by simp [firstAt] at h
  | y :: l, i, h => by
    by_cases c : lowS y.name = x
    · rw [firstAt, if_pos c] at h; obtain rfl := Option.some.inj h; simp [valsOf]
    · rw [firstAt, if_neg c] at h
      obtain ⟨j, hj, rfl⟩ := Option.map_eq_some_iff.1 h
      have := valsOf_drop hj
      simp only [valsOf] at this
      simp only [valsOf, List.drop_succ_cons, List.take_succ_cons, List.filter_cons, c, decide_false, Bool.false_eq_true, if_false]
      exact this
/-- A line set. -/
def setGo (h : Hdr) : Bool → List Hdr → List Hdr
  | done, [] => if done = true then [] else [h]
  | done, r :: l => if lowS r.name = lowS h.name then (if done = true then setGo h true l else h :: setGo h true l) else r :: setGo h done l
theorem setGo_done (h : Hdr) : ∀ l : List Hdr, setGo h true l = dropH (lowS h.name) l
  | [] => by simp [setGo, dropH]
  | r :: l => by
    have ih := setGo_done h l
    by_cases c : lowS r.name = lowS h.name
    · simp only [setGo, if_true, ih, dropH, List.filter_cons, c, not_true_eq_false, decide_false, Bool.false_eq_true, if_false]
    · simp [setGo, ih, dropH, c]
theorem setGo_first (h : Hdr) : ∀ (l : List Hdr), setGo h false l = match firstAt (lowS h.name) l with
    | some i => (dropH (lowS h.name) l).take i ++ [h] ++ (dropH (lowS h.name) l).drop i
    | none => dropH (lowS h.name) l ++ [h]
  | [] => by simp [setGo, firstAt, dropH]
  | r :: l => by
    have ih := setGo_first h l
    by_cases c : lowS r.name = lowS h.name
    · simp only [setGo, firstAt, setGo_done, dropH, List.filter_cons, c, not_true_eq_false, decide_false, Bool.false_eq_true, if_false]
      simp
    · simp only [setGo, if_neg c, firstAt]
      rw [ih]
      have e : dropH (lowS h.name) (r :: l) = r :: dropH (lowS h.name) l := by simp [dropH, c]
      rw [e]
      cases firstAt (lowS h.name) l with
      | none => simp
      | some i => simp
theorem dropH_all {x : ByteArray} {l : List Hdr} (h : firstAt x l = none) : dropH x l = l := by
  unfold dropH
  rw [List.filter_eq_self]
  intro r hr
  simpa using firstAt_none h r hr
theorem setGo_len (h : Hdr) (l : List Hdr) : (setGo h false l).length = match firstAt (lowS h.name) l with | some _ => (dropH (lowS h.name) l).length + 1 | none => l.length + 1 := by
  rw [setGo_first]
  cases c : firstAt (lowS h.name) l with
  | none => simp [dropH_all c]
  | some i =>
    simp only [List.length_append, List.length_cons, List.length_nil, List.length_take, List.length_drop]
    omega
theorem dropH_lt {x : ByteArray} {i : Nat} : ∀ {l : List Hdr}, firstAt x l = some i → (dropH x l).length < l.length
  | [], h => by simp [firstAt] at h
  | r :: l, h => by
    by_cases c : lowS r.name = x
    · have := dropH_len x l
      simp only [dropH] at this
      simp only [dropH, List.filter_cons, c, not_true_eq_false, decide_false, Bool.false_eq_true, if_false, List.length_cons]
      omega
    · rw [firstAt, if_neg c] at h
      obtain ⟨j, hj, rfl⟩ := Option.map_eq_some_iff.1 h
      have := dropH_lt hj
      simp only [dropH] at this
      simp only [dropH, List.filter_cons, c, not_false_eq_true, decide_true, if_true, List.length_cons]
      omega
def setC (l : List Hdr) (h : Hdr) : Int := if askC l h.name = 0 then (if faultH h = 0 then (if 20 < (setGo h false l).length then 2 else 0) else faultH h) else askC l h.name
def setL (l : List Hdr) (h : Hdr) : List Hdr := if setC l h = 0 then setGo h false l else []
end Go.Proofs.YtdooopkpnanekaaGreatDoor
/-
  What the model's l1WordByte answers at any byte.
-/
namespace Go.Proofs.YtdooopkpnanekaaGreatDoor
open Go.ChangeShapes Go.WideShapes Go.ChangeAt Go.RowKit
set_option maxHeartbeats 400000 in
theorem wordByte_33 (w : World) :
    Calls Tryz.prog 209 #[.int .u8 33] w fun e w' => e = .returned (.bool (wordI 33)) ∧ w' = w := by
  have W : wordI 33 = true := by decide +kernel
  rw [W]
  clear W
  go_enter Tryz.func209, Tryz.ntmps209
  go_wp2
  go_ret
  exact ⟨rfl, rfl⟩
set_option maxHeartbeats 400000 in
theorem wordByte_35 (w : World) :
    Calls Tryz.prog 209 #[.int .u8 35] w fun e w' => e = .returned (.bool (wordI 35)) ∧ w' = w := by
  have W : wordI 35 = true := by decide +kernel
  rw [W]
  clear W
  go_enter Tryz.func209, Tryz.ntmps209
  go_wp2
  go_ret
  exact ⟨rfl, rfl⟩
set_option maxHeartbeats 400000 in
theorem wordByte_36 (w : World) :
    Calls Tryz.prog 209 #[.int .u8 36] w fun e w' => e = .returned (.bool (wordI 36)) ∧ w' = w := by
  have W : wordI 36 = true := by decide +kernel
  rw [W]
  clear W
  go_enter Tryz.func209, Tryz.ntmps209
  go_wp2
  go_ret
  exact ⟨rfl, rfl⟩
set_option maxHeartbeats 400000 in
theorem wordByte_37 (w : World) :
    Calls Tryz.prog 209 #[.int .u8 37] w fun e w' => e = .returned (.bool (wordI 37)) ∧ w' = w := by
  have W : wordI 37 = true := by decide +kernel
  rw [W]
  clear W
  go_enter Tryz.func209, Tryz.ntmps209
  go_wp2
  go_ret
  exact ⟨rfl, rfl⟩
set_option maxHeartbeats 400000 in
theorem wordByte_38 (w : World) :
    Calls Tryz.prog 209 #[.int .u8 38] w fun e w' => e = .returned (.bool (wordI 38)) ∧ w' = w := by
  have W : wordI 38 = true := by decide +kernel
  rw [W]
  clear W
  go_enter Tryz.func209, Tryz.ntmps209
  go_wp2
  go_ret
  exact ⟨rfl, rfl⟩
set_option maxHeartbeats 400000 in
theorem wordByte_39 (w : World) :
    Calls Tryz.prog 209 #[.int .u8 39] w fun e w' => e = .returned (.bool (wordI 39)) ∧ w' = w := by
  have W : wordI 39 = true := by decide +kernel
  rw [W]
  clear W
  go_enter Tryz.func209, Tryz.ntmps209
  go_wp2
  go_ret
  exact ⟨rfl, rfl⟩
set_option maxHeartbeats 400000 in
theorem wordByte_42 (w : World) :
    Calls Tryz.prog 209 #[.int .u8 42] w fun e w' => e = .returned (.bool (wordI 42)) ∧ w' = w := by
  have W : wordI 42 = true := by decide +kernel
  rw [W]
  clear W
  go_enter Tryz.func209, Tryz.ntmps209
  go_wp2
  go_ret
  exact ⟨rfl, rfl⟩
set_option maxHeartbeats 400000 in
theorem wordByte_43 (w : World) :
    Calls Tryz.prog 209 #[.int .u8 43] w fun e w' => e = .returned (.bool (wordI 43)) ∧ w' = w := by
  have W : wordI 43 = true := by decide +kernel
  rw [W]
  clear W
  go_enter Tryz.func209, Tryz.ntmps209
  go_wp2
  go_ret
  exact ⟨rfl, rfl⟩
set_option maxHeartbeats 400000 in
theorem wordByte_45 (w : World) :
    Calls Tryz.prog 209 #[.int .u8 45] w fun e w' => e = .returned (.bool (wordI 45)) ∧ w' = w := by
  have W : wordI 45 = true := by decide +kernel
  rw [W]
  clear W
  go_enter Tryz.func209, Tryz.ntmps209
  go_wp2
  go_ret
  exact ⟨rfl, rfl⟩
set_option maxHeartbeats 400000 in
theorem wordByte_46 (w : World) :
    Calls Tryz.prog 209 #[.int .u8 46] w fun e w' => e = .returned (.bool (wordI 46)) ∧ w' = w := by
  have W : wordI 46 = true := by decide +kernel
  rw [W]
  clear W
  go_enter Tryz.func209, Tryz.ntmps209
  go_wp2
  go_ret
  exact ⟨rfl, rfl⟩
set_option maxHeartbeats 400000 in
theorem wordByte_94 (w : World) :
    Calls Tryz.prog 209 #[.int .u8 94] w fun e w' => e = .returned (.bool (wordI 94)) ∧ w' = w := by
  have W : wordI 94 = true := by decide +kernel
  rw [W]
  clear W
  go_enter Tryz.func209, Tryz.ntmps209
  go_wp2
  go_ret
  exact ⟨rfl, rfl⟩
set_option maxHeartbeats 400000 in
theorem wordByte_95 (w : World) :
    Calls Tryz.prog 209 #[.int .u8 95] w fun e w' => e = .returned (.bool (wordI 95)) ∧ w' = w := by
  have W : wordI 95 = true := by decide +kernel
  rw [W]
  clear W
  go_enter Tryz.func209, Tryz.ntmps209
  go_wp2
  go_ret
  exact ⟨rfl, rfl⟩
set_option maxHeartbeats 400000 in
theorem wordByte_124 (w : World) :
    Calls Tryz.prog 209 #[.int .u8 124] w fun e w' => e = .returned (.bool (wordI 124)) ∧ w' = w := by
  have W : wordI 124 = true := by decide +kernel
  rw [W]
  clear W
  go_enter Tryz.func209, Tryz.ntmps209
  go_wp2
  go_ret
  exact ⟨rfl, rfl⟩
set_option maxHeartbeats 400000 in
theorem wordByte_126 (w : World) :
    Calls Tryz.prog 209 #[.int .u8 126] w fun e w' => e = .returned (.bool (wordI 126)) ∧ w' = w := by
  have W : wordI 126 = true := by decide +kernel
  rw [W]
  clear W
  go_enter Tryz.func209, Tryz.ntmps209
  go_wp2
  go_ret
  exact ⟨rfl, rfl⟩
set_option maxHeartbeats 1000000 in
theorem wordByte_else (c : Int) (w : World) (h0 : 0 ≤ c) (h1 : c < 256) (hs : signI c.toNat = false) :
    Calls Tryz.prog 209 #[.int .u8 c] w fun e w' => e = .returned (.bool (wordI c)) ∧ w' = w := by
  have HE : Hid (wordI c = ((decide (97 ≤ c) && decide (c ≤ 122)) || (decide (65 ≤ c) && decide (c ≤ 90)) || (decide (48 ≤ c) && decide (c ≤ 57)))) := by
    show _ = _
    rw [wordI_eq c h0 h1, hs, Bool.false_or]
  obtain ⟨n, rfl⟩ := Int.eq_ofNat_of_zero_le h0
  simp only [Int.toNat_natCast, signI, List.contains_eq_mem, List.mem_cons, List.not_mem_nil, or_false, decide_eq_false_iff_not, not_or] at hs
  obtain ⟨s0, s1, s2, s3, s4, s5, s6, s7, s8, s9, s10, s11, s12, s13⟩ := hs
  have t0 : ((n : Int) == 33) = false := by simp; omega
  have t1 : ((n : Int) == 35) = false := by simp; omega
  have t2 : ((n : Int) == 36) = false := by simp; omega
  have t3 : ((n : Int) == 37) = false := by simp; omega
  have t4 : ((n : Int) == 38) = false := by simp; omega
  have t5 : ((n : Int) == 39) = false := by simp; omega
  have t6 : ((n : Int) == 42) = false := by simp; omega
  have t7 : ((n : Int) == 43) = false := by simp; omega
  have t8 : ((n : Int) == 45) = false := by simp; omega
  have t9 : ((n : Int) == 46) = false := by simp; omega
  have t10 : ((n : Int) == 94) = false := by simp; omega
  have t11 : ((n : Int) == 95) = false := by simp; omega
  have t12 : ((n : Int) == 124) = false := by simp; omega
  have t13 : ((n : Int) == 126) = false := by simp; omega
  clear s0 s1 s2 s3 s4 s5 s6 s7 s8 s9 s10 s11 s12 s13
  generalize (n : Int) = c at *
  clear n
  have key : ∀ b : Bool, wordI c = b → Ending.returned (.bool b) = .returned (.bool (wordI c)) := fun b h => by rw [h]
  have KEY : Hid (∀ b : Bool, wordI c = b → Ending.returned (.bool b) = .returned (.bool (wordI c))) := key
  clear key
  by_cases c1 : c < 48
  · have W : Hid (wordI c = false) := by
      show _ = _
      rw [HE.out]; simp; omega
    go_enter Tryz.func209, Tryz.ntmps209
    go_wp2
    go_ret
    exact ⟨KEY.out _ W.out, rfl⟩
  by_cases c2 : c ≤ 57
  · have W : Hid (wordI c = true) := by
      show _ = _
      rw [HE.out]; simp; omega
    have d1 : decide (c ≤ 57) = true := by simpa using c2
    go_enter Tryz.func209, Tryz.ntmps209
    go_wp2
    go_ret
    exact ⟨KEY.out _ W.out, rfl⟩
  have d2 : decide (c ≤ 57) = false := by simpa using c2
  by_cases c3 : c < 65
  · have W : Hid (wordI c = false) := by
      show _ = _
      rw [HE.out]; simp; omega
    go_enter Tryz.func209, Tryz.ntmps209
    go_wp2
    go_ret
    exact ⟨KEY.out _ W.out, rfl⟩
  by_cases c4 : c ≤ 90
  · have W : Hid (wordI c = true) := by
      show _ = _
      rw [HE.out]; simp; omega
    have d1 : decide (c ≤ 90) = true := by simpa using c4
    go_enter Tryz.func209, Tryz.ntmps209
    go_wp2
    go_ret
    exact ⟨KEY.out _ W.out, rfl⟩
  have d4 : decide (c ≤ 90) = false := by simpa using c4
  by_cases c5 : c < 97
  · have W : Hid (wordI c = false) := by
      show _ = _
      rw [HE.out]; simp; omega
    go_enter Tryz.func209, Tryz.ntmps209
    go_wp2
    go_ret
    exact ⟨KEY.out _ W.out, rfl⟩
  by_cases c6 : c ≤ 122
  · have W : Hid (wordI c = true) := by
      show _ = _
      rw [HE.out]; simp; omega
    have d1 : decide (c ≤ 122) = true := by simpa using c6
    go_enter Tryz.func209, Tryz.ntmps209
    go_wp2
    go_ret
    exact ⟨KEY.out _ W.out, rfl⟩
  have d6 : decide (c ≤ 122) = false := by simpa using c6
  have W : Hid (wordI c = false) := by
    show _ = _
    rw [HE.out]; simp; omega
  go_enter Tryz.func209, Tryz.ntmps209
  go_wp2
  go_ret
  exact ⟨KEY.out _ W.out, rfl⟩
theorem wordByte_any (c : Int) (w : World) (h0 : 0 ≤ c) (h1 : c < 256) :
    Calls Tryz.prog 209 #[.int .u8 c] w fun e w' => e = .returned (.bool (wordI c)) ∧ w' = w := by
  cases h : signI c.toNat
  · exact wordByte_else c w h0 h1 h
  · obtain ⟨n, rfl⟩ := Int.eq_ofNat_of_zero_le h0
    simp only [Int.toNat_natCast, signI, List.contains_eq_mem, List.mem_cons, List.not_mem_nil, or_false, decide_eq_true_eq] at h
    rcases h with rfl | rfl | rfl | rfl | rfl | rfl | rfl | rfl | rfl | rfl | rfl | rfl | rfl | rfl
    · exact wordByte_33 w
    · exact wordByte_35 w
    · exact wordByte_36 w
    · exact wordByte_37 w
    · exact wordByte_38 w
    · exact wordByte_39 w
    · exact wordByte_42 w
    · exact wordByte_43 w
    · exact wordByte_45 w
    · exact wordByte_46 w
    · exact wordByte_94 w
    · exact wordByte_95 w
    · exact wordByte_124 w
    · exact wordByte_126 w
end Go.Proofs.YtdooopkpnanekaaGreatDoor
/-
  What the model's IsWord answers, and hasOnly over the table.
-/
namespace Go.Proofs.YtdooopkpnanekaaGreatDoor
open Go.ChangeShapes Go.WideShapes Go.ChangeAt Go.RowKit
set_option maxHeartbeats 400000 in
theorem specIsWord_size (s : ByteArray) (w : World) (h : s.size < 1 ∨ 64 < s.size) :
    Calls Tryz.prog 187 #[.string s] w fun e w' => e = .returned (.bool false) ∧ w' = w := by
  rcases h with h | h
  · have hh : (s.size : Int) < 1 := by omega
    go_enter Tryz.func187, Tryz.ntmps187
    go_wp2
    go_ret
    exact ⟨rfl, rfl⟩
  · have hh : (64 : Int) < s.size := by omega
    have h1 : ¬ (s.size : Int) < 1 := by omega
    go_enter Tryz.func187, Tryz.ntmps187
    go_wp2
    go_ret
    exact ⟨rfl, rfl⟩
set_option maxHeartbeats 1000000 in
theorem specIsWord_mid (s : ByteArray) (w : World) (h1 : 1 ≤ s.size) (h2 : s.size ≤ 64) :
    Calls Tryz.prog 187 #[.string s] w fun e w' => e = .returned (.bool (allW s.data.toList)) ∧ w' = w := by
  have g1 : ¬ (s.size : Int) < 1 := by omega
  have g2 : ¬ (64 : Int) < s.size := by omega
  go_enter Tryz.func187, Tryz.ntmps187
  go_wp2
  go_loop [3] (fun i => ∃ k : Nat, k ≤ s.size ∧ i = .int .i64 k ∧ allW (s.data.toList.take k) = true) (fun i => s.size - (intOf i).toNat)
  case atStart => exact ⟨0, Nat.zero_le _, rfl, rfl⟩
  case round =>
    obtain ⟨k, hk, rfl, hall⟩ := hrel
    by_cases hlt : k < s.size
    · have hb : ((s[k].toNat : Nat) : Int) < 256 := by have := s[k].toNat_lt; omega
      cases hw : wordI (s[k].toNat : Int)
      · have HN : Hid (allW s.data.toList = false) := allW_not s k hlt hw
        have HW : Hid (wordI (s[k].toNat : Int) = false) := hw
        clear hall hw
        go_wp2_with fail
        refine (wordByte_any _ _ (by omega) hb).mono ?_
        rintro e w' ⟨rfl, rfl⟩
        rw [HW.out]
        go_wp2
        go_ret
        exact ⟨ret_bool HN.out.symm, rfl⟩
      · have HA : Hid (allW (s.data.toList.take (k + 1)) = true) := by
          show _ = _
          rw [take_snoc s k hlt, allW_snoc, hall, hw]; rfl
        have HW : Hid (wordI (s[k].toNat : Int) = true) := hw
        clear hall hw
        go_wp2_with fail
        refine (wordByte_any _ _ (by omega) hb).mono ?_
        rintro e w' ⟨rfl, rfl⟩
        rw [HW.out]
        go_wp2
        go_round
        case rel => exact ⟨k + 1, by omega, by go_num, HA.out⟩
        case measure => simp [intOf]; omega
    · have ek : s.data.toList.take k = s.data.toList := List.take_of_length_le (by simp; omega)
      rw [ek] at hall
      have HN : Hid (allW s.data.toList = true) := hall
      clear ek hall
      go_wp2
      go_ret
      exact ⟨ret_bool HN.out.symm, rfl⟩
theorem specIsWord_any (s : ByteArray) (w : World) :
    Calls Tryz.prog 187 #[.string s] w fun e w' => e = .returned (.bool (wordS s)) ∧ w' = w := by
  by_cases c : s.size < 1 ∨ 64 < s.size
  · have h : wordS s = false := by
      rcases c with c | c
      · exact wordS_short s c
      · exact wordS_long s c
    rw [h]; exact specIsWord_size s w c
  · rw [wordS_mid s (by omega) (by omega)]
    exact specIsWord_mid s w (by omega) (by omega)
set_option maxHeartbeats 1000000 in
theorem hasOnly_any (s : ByteArray) (cs : Array Value) (w : World) (hs : s.size ≤ 64) (hcs : ∀ i, i < 128 → cs[i]? = some (.bool (wordI (i : Int)))) :
    Calls Tryz.prog 200 #[.string s, .agg cs] w fun e w' => e = .returned (.bool (allW s.data.toList)) ∧ Below w.heap.size w w' := by
  have hcell : ∀ i, i < 128 → (w.alloc (.cells cs 216)).cell? ⟨w.heap.size, i, none⟩ = some (.bool (wordI (i : Int))) := fun i hi => by
    rw [World.cell?_alloc_mark]; exact hcs i hi
  have HC : Hid (∀ i, i < 128 → (w.alloc (.cells cs 216)).cell? ⟨w.heap.size, i, none⟩ = some (.bool (wordI (i : Int)))) := hcell
  clear hcell hcs
  go_enter Tryz.func200, Tryz.ntmps200
  go_wp2
  go_loop [9] (fun i => ∃ k : Nat, k ≤ s.size ∧ i = .int .i64 k ∧ allW (s.data.toList.take k) = true) (fun i => s.size - (intOf i).toNat)
  case atStart => exact ⟨0, Nat.zero_le _, rfl, rfl⟩
  case round =>
    obtain ⟨k, hk, rfl, hall⟩ := hrel
    by_cases hlt : k < s.size
    · have hb : ((s[k].toNat : Nat) : Int) < 256 := by have := s[k].toNat_lt; omega
      by_cases hbig : 128 ≤ (s[k].toNat : Int)
      · have HN : Hid (allW s.data.toList = false) := allW_not s k hlt (wordI_big _ hbig)
        clear hall
        go_wp2
        go_ret
        exact ⟨ret_bool HN.out.symm, (Below.refl _ _).alloc (Nat.le_refl _) _⟩
      · have hc := HC.out s[k].toNat (by omega)
        cases hw : wordI (s[k].toNat : Int)
        · have HN : Hid (allW s.data.toList = false) := allW_not s k hlt hw
          rw [hw] at hc
          clear hall hw
          go_wp2
          go_ret
          exact ⟨ret_bool HN.out.symm, (Below.refl _ _).alloc (Nat.le_refl _) _⟩
        · have HA : Hid (allW (s.data.toList.take (k + 1)) = true) := by
            show _ = _
            rw [take_snoc s k hlt, allW_snoc, hall, hw]; rfl
          rw [hw] at hc
          clear hall hw
          go_wp2
          go_round
          case rel => exact ⟨k + 1, by omega, by go_num, HA.out⟩
          case measure => simp [intOf]; omega
    · have ek : s.data.toList.take k = s.data.toList := List.take_of_length_le (by simp; omega)
      rw [ek] at hall
      have HN : Hid (allW s.data.toList = true) := hall
      clear ek hall
      go_wp2
      go_ret
      exact ⟨ret_bool HN.out.symm, (Below.refl _ _).alloc (Nat.le_refl _) _⟩
end Go.Proofs.YtdooopkpnanekaaGreatDoor
/-
  A slice of bytes that the call itself grows: one byte more.
-/
namespace Go.Proofs.YtdooopkpnanekaaGreatDoor
open Go.ChangeShapes Go.WideShapes Go.ChangeAt Go.RowKit
theorem infoByteB : (Tryz.prog.info? 5).map (fun i => (i.zero, i.size, i.bytes)) = some (some (.int .u8 0), 1, 1) := by kernel_rfl
def bytesW (l : List UInt8) : List Value := l.map fun c => Value.int .u8 (c.toNat : Int)
/-- v, a slice that is not nil, holds the bytes l in a row of the call's own, from block base on. -/
structure OwnB (w : World) (base : Nat) (v : Value) (l : List UInt8) : Prop where
  own : w.ownsRow base 5 1 v l.length (bytesW l)
  nn : v ≠ .slice none 0 0
theorem own_geB {w : World} {base : Nat} {e : TypeId} {size : Nat} {v : Value} {n : Nat} {xs : List Value} (h : w.ownsRow base e size v n xs) (q : Nat) (hq : v.ownBlock = some q) : base ≤ q := by
  obtain ⟨_, h | ⟨g, c, cur, rfl, hg, _⟩⟩ := h
  · rw [h.1] at hq; cases hq
  · simp only [Value.ownBlock, Option.some.injEq] at hq; omega
theorem OwnB.text {w : World} {base : Nat} {v : Value} {l : List UInt8} (h : OwnB w base v l) :
    (convert 39 9 v).run Tryz.prog w = .ok (.string ⟨l.toArray⟩) w := by
  have h0 := h.own
  obtain ⟨_, hn | ⟨g, c, cur, rfl, hg, _⟩⟩ := h.own
  · exact absurd hn.1 h.nn
  · refine run_convert_bytes_back w 39 9 5 ⟨g, 0, none⟩ c l Tryz.underlying39 Tryz.underlying5 Tryz.underlying9 ?_
    intro j hj
    have := h0.cellAt j (by omega)
    have e : (⟨g, 0, none⟩ : Addr).add j = ⟨g, j, none⟩ := by unfold Addr.add; split <;> simp_all
    rw [e, this]
    simp [bytesW, hj]
/-- A slice literal of bytes, just laid. -/
theorem OwnB.made (w : World) (base : Nat) (hb : base ≤ w.heap.size) (l : List UInt8) (hl : l.length ≤ 1000000) : OwnB (w.alloc (.cells (bytesW l).toArray 5)) base (.slice (some ⟨w.heap.size, 0, none⟩) l.length l.length) l where
  own := ⟨by simp [bytesW], .inr ⟨w.heap.size, l.length, (bytesW l).toArray, rfl, hb, heap_alloc_new _ _, Nat.le_refl _, by unfold maxLen; omega, by simp [bytesW], by simp [bytesW, List.take_of_length_le]⟩⟩
  nn := by simp
theorem OwnB.below {w w' : World} {base : Nat} {v : Value} {l : List UInt8} (h : OwnB w base v l) (hb : Below w.heap.size w w') : OwnB w' base v l := by
  refine ⟨?_, h.nn⟩
  obtain ⟨h1, h2⟩ := h.own
  refine ⟨h1, ?_⟩
  rcases h2 with h2 | ⟨g, c, cur, e, hg, hh, hrest⟩
  · exact .inl h2
  · exact .inr ⟨g, c, cur, e, hg, by rw [hb.block g (Array.getElem?_eq_some_iff.1 hh).1]; exact hh, hrest⟩
/-- 'out = append(out, c)', the byte laid in a block of its own right ahead. -/
theorem wpList_append_byte {ops : Array Oper} {rest : List Oper} {o : Oper} {a : Act} {Q : Exit → Act → World → Prop} (w : World) (hgd : o.guard = none) (s x : Operand)
    (ho : o.op = .call { callee := .builtin .append, args := #[s, x], argTypes := #[39, 39] }) (base : Nat) (v : Value) (l : List UInt8) (z : Int) (c : UInt8)
    (hs : a.eval s = v) (hx : a.eval x = .slice (some ⟨w.heap.size, 0, none⟩) 1 1) (hown : OwnB w base v l) (hc : (c.toNat : Int) = z) (hl : l.length ≤ 1000000) (hbase : base ≤ w.heap.size)
    (h : ∀ v' w', OwnB w' base v' (l ++ [c]) → Below base w w' → w.heap.size ≤ w'.heap.size → wpList Tryz.prog ops Q rest (a.put o.dst v') w') :
    wpList Tryz.prog ops Q (o :: rest) a (w.alloc (.cells #[.int .u8 z] 5)) := by
  obtain ⟨i0, hi, hz0, hz1, hz2⟩ := info_parts infoByteB
  refine wpList_append_own _ hgd s x 39 ho base 5 i0 (.int .u8 0) 1 1 Tryz.underlying39 hi hz0 hz1 hz2 rfl (by decide) v l.length (bytesW l) hs (hown.own.alloc _) ⟨w.heap.size, 0, none⟩ 1 1 [.int .u8 z] hx rfl ?_ ?_ ?_ ?_ ?_ ?_
  · intro j u hj
    match j, hj with
    | 0, hj => simp at hj; subst hj; simp [Addr.add]
  · intro u hu; simp at hu; subst hu; rfl
  · unfold maxLen; omega
  · omega
  · simp; omega
  · intro v' w' h1 h2 h3
    have e : bytesW (l ++ [c]) = bytesW l ++ [Value.int .u8 z] := by simp [bytesW, hc]
    refine h v' w' ⟨by rw [e, List.length_append]; exact h1, fun hv => hown.nn (h3.1 hv).1⟩ ?_ ?_
    · exact ((Below.refl base w).alloc hbase _).grown h2 (by simp; omega) (fun q hq => own_geB hown.own q hq)
    · have hb := ((Below.refl 0 w).alloc (Nat.zero_le _) (.cells #[.int .u8 z] 5)).grown h2 (Nat.zero_le _) (fun q _ => Nat.zero_le _)
      exact hb.size
end Go.Proofs.YtdooopkpnanekaaGreatDoor
/-
  What the model's l2Plain and l2PlainText answer.
-/
namespace Go.Proofs.YtdooopkpnanekaaGreatDoor
open Go.ChangeShapes Go.WideShapes Go.ChangeAt Go.RowKit
set_option maxHeartbeats 400000 in
theorem plain_any (c : Int) (w : World) (h0 : 0 ≤ c) (h1 : c < 256) :
    Calls Tryz.prog 210 #[.int .u8 c] w fun e w' => e = .returned (.bool (plainI c)) ∧ w' = w := by
  by_cases e9 : c = 9
  · subst e9
    go_enter Tryz.func210, Tryz.ntmps210
    go_wp2
    go_ret
    exact ⟨rfl, rfl⟩
  · have d9 : (c == 9) = false := by simpa using e9
    by_cases a1 : 32 ≤ c
    · by_cases a2 : c ≤ 126
      · have d2 : decide (c ≤ 126) = true := by simpa using a2
        have HP : Hid (plainI c = true) := by show _ = _; simp [plainI, a1, a2]
        go_enter Tryz.func210, Tryz.ntmps210
        go_wp2
        go_ret
        exact ⟨ret_bool HP.out.symm, rfl⟩
      · have d2 : decide (c ≤ 126) = false := by simpa using a2
        have HP : Hid (plainI c = false) := by show _ = _; simp [plainI, e9]; omega
        go_enter Tryz.func210, Tryz.ntmps210
        go_wp2
        go_ret
        exact ⟨ret_bool HP.out.symm, rfl⟩
    · have HP : Hid (plainI c = false) := by show _ = _; simp [plainI, e9]; omega
      go_enter Tryz.func210, Tryz.ntmps210
      go_wp2
      go_ret
      exact ⟨ret_bool HP.out.symm, rfl⟩
set_option maxHeartbeats 1000000 in
theorem plainText_any (s : ByteArray) (w : World) (hs : s.size ≤ 1048576) :
    Calls Tryz.prog 188 #[.string s] w fun e w' => e = .returned (.bool (plainL s.data.toList)) ∧ w' = w := by
  go_enter Tryz.func188, Tryz.ntmps188
  go_wp2
  go_loop [3] (fun i => ∃ k : Nat, k ≤ s.size ∧ i = .int .i64 k ∧ plainL (s.data.toList.take k) = true) (fun i => s.size - (intOf i).toNat)
  case atStart => exact ⟨0, Nat.zero_le _, rfl, rfl⟩
  case round =>
    obtain ⟨k, hk, rfl, hall⟩ := hrel
    by_cases hlt : k < s.size
    · have hb : ((s[k].toNat : Nat) : Int) < 256 := by have := s[k].toNat_lt; omega
      cases hw : plainI (s[k].toNat : Int)
      · have HN : Hid (plainL s.data.toList = false) := plainL_not s k hlt hw
        have HW : Hid (plainI (s[k].toNat : Int) = false) := hw
        clear hall hw
        go_wp2_with fail
        refine (plain_any _ _ (by omega) hb).mono ?_
        rintro e w' ⟨rfl, rfl⟩
        rw [HW.out]
        go_wp2
        go_ret
        exact ⟨ret_bool HN.out.symm, rfl⟩
      · have HA : Hid (plainL (s.data.toList.take (k + 1)) = true) := by
          show _ = _
          rw [take_snoc s k hlt, plainL_snoc, hall, hw]; rfl
        have HW : Hid (plainI (s[k].toNat : Int) = true) := hw
        clear hall hw
        go_wp2_with fail
        refine (plain_any _ _ (by omega) hb).mono ?_
        rintro e w' ⟨rfl, rfl⟩
        rw [HW.out]
        go_wp2
        go_round
        case rel => exact ⟨k + 1, by omega, by go_num, HA.out⟩
        case measure => simp [intOf]; omega
    · have ek : s.data.toList.take k = s.data.toList := List.take_of_length_le (by simp; omega)
      rw [ek] at hall
      have HN : Hid (plainL s.data.toList = true) := hall
      clear ek hall
      go_wp2
      go_ret
      exact ⟨ret_bool HN.out.symm, rfl⟩
end Go.Proofs.YtdooopkpnanekaaGreatDoor
/-
  What the model's l1Trim answers.
-/
namespace Go.Proofs.YtdooopkpnanekaaGreatDoor
open Go.ChangeShapes Go.WideShapes Go.ChangeAt Go.RowKit
set_option maxHeartbeats 400000 in
theorem blank_any (c : Int) (w : World) :
    Calls Tryz.prog 211 #[.int .u8 c] w fun e w' => e = .returned (.bool (blankI c)) ∧ w' = w := by
  by_cases h1 : c = 32
  · subst h1
    go_enter Tryz.func211, Tryz.ntmps211
    go_wp2
    go_ret
    exact ⟨rfl, rfl⟩
  · by_cases h2 : c = 9
    · subst h2
      go_enter Tryz.func211, Tryz.ntmps211
      go_wp2
      go_ret
      exact ⟨rfl, rfl⟩
    · have d1 : (c == 32) = false := by simpa using h1
      have d2 : (c == 9) = false := by simpa using h2
      have HB : Hid (blankI c = false) := by
        show _ = _
        unfold blankI
        rw [d1, d2]; rfl
      clear h1 h2
      go_enter Tryz.func211, Tryz.ntmps211
      go_wp2
      go_ret
      exact ⟨ret_bool HB.out.symm, rfl⟩
set_option maxHeartbeats 1000000 in
theorem l1Trim_big (s : ByteArray) (w : World) (hs : s.size ≤ 1048576) :
    Calls Tryz.prog 189 #[.string s] w fun e w' => e = .returned (.string (trimT s)) ∧ w' = w := by
  go_enter Tryz.func189, Tryz.ntmps189
  go_wp2
  go_loop [3] (fun i => ∃ k : Nat, k ≤ s.size ∧ i = .int .i64 k ∧ ∀ (j : Nat) b, j < k → s.data.toList[j]? = some b → blankI (b.toNat : Int) = true) (fun i => s.size - (intOf i).toNat)
  case atStart => exact ⟨0, Nat.zero_le _, rfl, fun j b h => absurd h (Nat.not_lt_zero _)⟩
  case round =>
    obtain ⟨k, hk, rfl, hall⟩ := hrel
    have H1 : Hid (∀ (j : Nat) b, j < k → s.data.toList[j]? = some b → blankI (b.toNat : Int) = true) := hall
    clear hall
    by_cases hgo : ∃ h : k < s.size, blankI (s[k].toNat : Int) = true
    · obtain ⟨hlt, hb⟩ := hgo
      have HB : Hid (blankI (s[k].toNat : Int) = true) := hb
      clear hb
      go_wp2_with fail
      refine (blank_any _ _).mono ?_
      rintro e w' ⟨rfl, rfl⟩
      rw [HB.out]
      go_wp2
      go_round
      case rel =>
        refine ⟨k + 1, by omega, by go_num, fun j b hj hbj => ?_⟩
        by_cases e : j = k
        · subst e
          have : s.data.toList[j]? = some s[j] := by rw [List.getElem?_eq_getElem (by simpa using hlt)]; rfl
          rw [this] at hbj
          obtain rfl := Option.some.inj hbj
          exact HB.out
        · exact H1.out j b (by omega) hbj
      case measure => simp [intOf]; omega
    · have H2 : Hid (∀ b, k < s.data.toList.length → s.data.toList[k]? = some b → blankI (b.toNat : Int) = false) := by
        intro b hlt hb
        have hlt' : k < s.size := by simpa using hlt
        have : s.data.toList[k]? = some s[k] := by rw [List.getElem?_eq_getElem hlt]; rfl
        rw [this] at hb
        obtain rfl := Option.some.inj hb
        cases hx : blankI (s[k].toNat : Int)
        · rfl
        · exact absurd ⟨hlt', hx⟩ hgo
      by_cases hlt : k < s.size
      · have HB : Hid (blankI (s[k].toNat : Int) = false) := by
          show _ = _
          cases hx : blankI (s[k].toNat : Int)
          · rfl
          · exact absurd ⟨hlt, hx⟩ hgo
        clear hgo
        go_wp2_with fail
        refine (blank_any _ _).mono ?_
        rintro e w' ⟨rfl, rfl⟩
        rw [HB.out]
        clear HB
        go_wp2
        go_loop [4] (fun i => ∃ m : Nat, k ≤ m ∧ m ≤ s.size ∧ i = .int .i64 m ∧ ∀ (j : Nat) b, m ≤ j → s.data.toList[j]? = some b → blankI (b.toNat : Int) = true) (fun i => (intOf i).toNat)
        case atStart => exact ⟨s.size, hk, Nat.le_refl _, rfl, fun j b hj hb => absurd (List.getElem?_eq_some_iff.1 hb).1 (by simp; omega)⟩
        case round =>
          obtain ⟨m, hkm, hm, rfl, hall⟩ := hrel
          have H3 : Hid (∀ (j : Nat) b, m ≤ j → s.data.toList[j]? = some b → blankI (b.toNat : Int) = true) := hall
          clear hall
          by_cases hkm2 : k < m
          · obtain ⟨n, rfl⟩ : ∃ n, m = n + 1 := ⟨m - 1, by omega⟩
            have hn : n < s.size := by omega
            cases hb : blankI (s[n].toNat : Int)
            · have HB : Hid (blankI (s[n].toNat : Int) = false) := hb
              have HT : Hid (s.extract k (n + 1) = trimT s) := by
                refine trim_extract s k (n + 1) (trim_between _ k (n + 1) hkm (by simpa using hm) H1.out H2.out H3.out ?_)
                intro b _ hbn
                have : s.data.toList[n]? = some s[n] := by rw [List.getElem?_eq_getElem (by simpa using hn)]; rfl
                rw [Nat.add_sub_cancel, this] at hbn
                obtain rfl := Option.some.inj hbn
                exact HB.out
              clear hb
              go_wp2_with fail
              refine (blank_any _ _).mono ?_
              rintro e w' ⟨rfl, rfl⟩
              rw [HB.out]
              go_wp2
              go_ret
              exact ⟨ret_str HT.out, rfl⟩
            · have HB : Hid (blankI (s[n].toNat : Int) = true) := hb
              clear hb
              go_wp2_with fail
              refine (blank_any _ _).mono ?_
              rintro e w' ⟨rfl, rfl⟩
              rw [HB.out]
              go_wp2
              go_round
              case rel =>
                refine ⟨n, by omega, by omega, by go_num, fun j b hj hbj => ?_⟩
                by_cases e : j = n
                · subst e
                  have : s.data.toList[j]? = some s[j] := by rw [List.getElem?_eq_getElem (by simpa using hn)]; rfl
                  rw [this] at hbj
                  obtain rfl := Option.some.inj hbj
                  exact HB.out
                · exact H3.out j b (by omega) hbj
              case measure => simp [intOf]
          · obtain rfl : k = m := by omega
            have HT : Hid (ByteArray.empty = trimT s) := by
              have e := trim_extract s k k (trim_between _ k k (Nat.le_refl _) (by simpa using hm) H1.out H2.out H3.out (fun b h => absurd h (Nat.lt_irrefl _)))
              have e0 : s.extract k k = ByteArray.empty := by simp
              exact e0.symm.trans e
            go_wp2
            go_ret
            exact ⟨ret_str HT.out, rfl⟩
      · clear hgo
        go_wp2
        go_loop [4] (fun i => ∃ m : Nat, k ≤ m ∧ m ≤ s.size ∧ i = .int .i64 m ∧ ∀ (j : Nat) b, m ≤ j → s.data.toList[j]? = some b → blankI (b.toNat : Int) = true) (fun i => (intOf i).toNat)
        case atStart => exact ⟨s.size, hk, Nat.le_refl _, rfl, fun j b hj hb => absurd (List.getElem?_eq_some_iff.1 hb).1 (by simp; omega)⟩
        case round =>
          obtain ⟨m, hkm, hm, rfl, hall⟩ := hrel
          have H3 : Hid (∀ (j : Nat) b, m ≤ j → s.data.toList[j]? = some b → blankI (b.toNat : Int) = true) := hall
          clear hall
          obtain rfl : k = m := by omega
          have HT : Hid (ByteArray.empty = trimT s) := by
            have e := trim_extract s k k (trim_between _ k k (Nat.le_refl _) (by simpa using hm) H1.out H2.out H3.out (fun b h => absurd h (Nat.lt_irrefl _)))
            have e0 : s.extract k k = ByteArray.empty := by simp
            exact e0.symm.trans e
          go_wp2
          go_ret
          exact ⟨ret_str HT.out, rfl⟩
theorem l1Trim_any (s : ByteArray) (w : World) (hs : s.size ≤ 1000) :
    Calls Tryz.prog 189 #[.string s] w fun e w' => e = .returned (.string (trimT s)) ∧ w' = w := l1Trim_big s w (by omega)
end Go.Proofs.YtdooopkpnanekaaGreatDoor
/-
  What the model's l4Line and HeadersFault answer.
-/
namespace Go.Proofs.YtdooopkpnanekaaGreatDoor
open Go.ChangeShapes Go.WideShapes Go.ChangeAt Go.RowKit
theorem hstr_ne {a b : ByteArray} (h : a ≠ b) : (a.toList == b.toList) = false := by
  rw [beq_eq_false_iff_ne]
  intro e
  rw [ByteArray.toList_eq, ByteArray.toList_eq] at e
  exact h (ByteArray.ext (Array.ext' e))
set_option maxHeartbeats 2000000 in
theorem l4Line_any (r : Hdr) (w : World) :
    Calls Tryz.prog 146 #[.agg #[.string r.name, .string r.value]] w fun e w' => e = .returned (.int .i64 (faultH r)) ∧ Below w.heap.size w w' := by
  obtain ⟨n, v⟩ := r
  simp only
  have kb : Below w.heap.size w (w.alloc (.cells #[.string n, .string v] 165)) := (Below.refl _ _).alloc (Nat.le_refl _) _
  have KB : Hid (Below w.heap.size w (w.alloc (.cells #[.string n, .string v] 165))) := kb
  clear kb
  have HW : Hid (∀ w, Calls Tryz.prog 187 #[.string n] w fun e w' => e = .returned (.bool (wordS n)) ∧ w' = w) := specIsWord_any n
  cases hw : wordS n
  · have HE : Hid (faultH ⟨n, v⟩ = 5) := by show _ = _; simp [faultH, hw]
    rw [hw] at HW
    clear hw
    go_enter Tryz.func146, Tryz.ntmps146
    go_wp2_with fail
    refine (HW.out _).mono ?_
    rintro e w1 ⟨rfl, rfl⟩
    go_wp2_with fail
    go_ret
    exact ⟨ret_int HE.out.symm, KB.out⟩
  rw [hw] at HW
  by_cases hbig : 200 < v.size
  · have HE : Hid (faultH ⟨n, v⟩ = 2) := by show _ = _; simp only [faultH, hw]; rw [if_neg (by simp), if_pos hbig]
    have g : (200 : Int) < v.size := by omega
    clear hw
    go_enter Tryz.func146, Tryz.ntmps146
    go_wp2_with fail
    refine (HW.out _).mono ?_
    rintro e w1 ⟨rfl, rfl⟩
    go_wp2_with fail
    go_ret
    exact ⟨ret_int HE.out.symm, KB.out⟩
  have g : ¬ (200 : Int) < v.size := by omega
  have HP : Hid (∀ w, Calls Tryz.prog 188 #[.string v] w fun e w' => e = .returned (.bool (plainL v.data.toList)) ∧ w' = w) := fun w => plainText_any v w (by omega)
  have HT : Hid (∀ w, Calls Tryz.prog 189 #[.string v] w fun e w' => e = .returned (.string (trimT v)) ∧ w' = w) := fun w => l1Trim_any v w (by omega)
  cases hp : plainL v.data.toList
  · have HE : Hid (faultH ⟨n, v⟩ = 5) := by show _ = _; simp only [faultH, hw]; rw [if_neg (by simp), if_neg hbig, if_pos hp]
    rw [hp] at HP
    clear hw hp hbig
    go_enter Tryz.func146, Tryz.ntmps146
    go_wp2_with fail
    refine (HW.out _).mono ?_
    rintro e w1 ⟨rfl, rfl⟩
    go_wp2_with fail
    refine (HP.out _).mono ?_
    rintro e w1 ⟨rfl, rfl⟩
    go_wp2_with fail
    go_ret
    exact ⟨ret_int HE.out.symm, KB.out⟩
  rw [hp] at HP
  by_cases ht : trimT v = v
  · have HE : Hid (faultH ⟨n, v⟩ = 0) := by show _ = _; simp only [faultH, hw]; rw [if_neg (by simp), if_neg hbig, if_neg (by simp [hp]), if_pos ht]
    rw [ht] at HT
    clear hw hp hbig ht
    go_enter Tryz.func146, Tryz.ntmps146
    go_wp2_with fail
    refine (HW.out _).mono ?_
    rintro e w1 ⟨rfl, rfl⟩
    go_wp2_with fail
    refine (HP.out _).mono ?_
    rintro e w1 ⟨rfl, rfl⟩
    go_wp2_with fail
    refine (HT.out _).mono ?_
    rintro e w1 ⟨rfl, rfl⟩
    go_wp2_with fail
    go_ret
    exact ⟨ret_int HE.out.symm, KB.out⟩
  · have HE : Hid (faultH ⟨n, v⟩ = 5) := by show _ = _; simp only [faultH, hw]; rw [if_neg (by simp), if_neg hbig, if_neg (by simp [hp]), if_neg ht]
    have hq := hstr_ne ht
    generalize trimT v = t at *
    clear hw hp hbig ht
    go_enter Tryz.func146, Tryz.ntmps146
    go_wp2_with fail
    refine (HW.out _).mono ?_
    rintro e w1 ⟨rfl, rfl⟩
    go_wp2_with fail
    refine (HP.out _).mono ?_
    rintro e w1 ⟨rfl, rfl⟩
    go_wp2_with fail
    refine (HT.out _).mono ?_
    rintro e w1 ⟨rfl, rfl⟩
    go_wp2_with fail
    go_ret
    exact ⟨ret_int HE.out.symm, KB.out⟩
set_option maxRecDepth 100000 in
set_option maxHeartbeats 4000000 in
theorem specHFault_any (w : World) (a : Option Addr) (cap : Nat) (l : List Hdr) (hl : l.length ≤ 1048576) (hi : HdsIn w a l) :
    Calls Tryz.prog 100 #[.slice a l.length cap] w fun e w' => e = .returned (.int .i64 (headsC l)) ∧ Below w.heap.size w w' := by
  by_cases h20 : 20 < l.length
  · have HE : Hid (headsC l = 2) := headsC_many h20
    have g : (20 : Int) < (l.length : Int) := by omega
    clear hi
    generalize l.length = n at *
    go_enter Tryz.func100, Tryz.ntmps100
    go_wp2_with fail
    go_ret
    exact ⟨ret_int HE.out.symm, Below.refl _ _⟩
  have HC : Hid (headsC l = faultHL l) := headsC_few h20
  have HI : Hid (HdsIn w a l) := hi
  clear hi
  generalize hn : l.length = n at *
  have HN : Hid (l.length = n) := hn
  clear hn
  have g : ¬ (20 : Int) < (n : Int) := by omega
  go_enter Tryz.func100, Tryz.ntmps100
  go_wp2_with fail
  go_loopw [3] (fun i wr => ∃ k : Nat, k ≤ n ∧ i = .int .i64 k ∧ faultHL l = faultHL (l.drop k) ∧ Below w.heap.size w wr) (fun i _ => n - (intOf i).toNat)
  case atStart => exact ⟨0, Nat.zero_le _, rfl, rfl, Below.refl _ _⟩
  case round =>
    obtain ⟨k, hk, rfl, hf, hb⟩ := hrel
    have HF : Hid (faultHL l = faultHL (l.drop k)) := hf
    clear hf
    by_cases hlt : k < n
    · obtain ⟨r, hr⟩ : ∃ r, l[k]? = some r := ⟨l[k]'(by have := HN.out; omega), List.getElem?_eq_getElem _⟩
      rcases HI.out with h | ⟨b, off, rfl, hat⟩
      · subst h; simp at hr
      obtain ⟨p1, p3⟩ := (hat.keep hb) k r hr
      have HD : Hid (l.drop k = r :: l.drop (k + 1)) := drop_hdr l k r hr
      have gk : (k : Int) < n := by omega
      have SF : Hid (∀ w, Calls Tryz.prog 146 #[.agg #[.string r.name, .string r.value]] w fun e w' => e = .returned (.int .i64 (faultH r)) ∧ Below w.heap.size w w') := l4Line_any r
      clear hr hat HI
      by_cases hfr : faultH r = 0
      · have HX : Hid (faultHL l = faultHL (l.drop (k + 1))) := by show _ = _; rw [HF.out, HD.out, faultHL_ok hfr]
        rw [hfr] at SF
        clear hfr HD HF
        obtain ⟨rn, rv⟩ := r
        simp only at p1 p3 SF
        go_wp2_with fail
        refine (SF.out _).mono ?_
        rintro e w2 ⟨rfl, hb2⟩
        have hbb := hb.trans (hb2.mono hb.size)
        clear hb2 hb
        go_wp2_with fail
        go_roundw
        case rel => exact ⟨k + 1, by omega, by go_num, HX.out, hbb⟩
        case measure => simp [intOf]; omega
      · have HX : Hid (headsC l = faultH r) := by show _ = _; rw [HC.out, HF.out, HD.out, faultHL_bad hfr]
        clear HD HF HC
        obtain ⟨rn, rv⟩ := r
        simp only at p1 p3 SF
        generalize faultH ⟨rn, rv⟩ = fr at *
        go_wp2_with fail
        refine (SF.out _).mono ?_
        rintro e w2 ⟨rfl, hb2⟩
        have hbb := hb.trans (hb2.mono hb.size)
        clear hb2 hb
        go_wp2_with fail
        go_ret
        exact ⟨ret_int HX.out.symm, hbb⟩
    · have HX : Hid (headsC l = 0) := by
        show _ = _
        rw [HC.out, HF.out, List.drop_of_length_le (by have := HN.out; omega)]
        rfl
      clear HF HC
      go_wp2_with fail
      go_ret
      exact ⟨ret_int HX.out.symm, hb⟩
end Go.Proofs.YtdooopkpnanekaaGreatDoor
/-
  What isPlain and allPlain answer.
-/
namespace Go.Proofs.YtdooopkpnanekaaGreatDoor
open Go.ChangeShapes Go.WideShapes Go.ChangeAt Go.RowKit
set_option maxHeartbeats 400000 in
theorem iplain_any (c : Int) (w : World) (h0 : 0 ≤ c) (h1 : c < 256) :
    Calls Tryz.prog 201 #[.int .u8 c] w fun e w' => e = .returned (.bool (plainI c)) ∧ w' = w := by
  by_cases e9 : c = 9
  · subst e9
    go_enter Tryz.func201, Tryz.ntmps201
    go_wp2
    go_ret
    exact ⟨rfl, rfl⟩
  · have d9 : (c == 9) = false := by simpa using e9
    by_cases a1 : 32 ≤ c
    · by_cases a2 : c ≤ 126
      · have d2 : decide (c ≤ 126) = true := by simpa using a2
        have HP : Hid (plainI c = true) := by show _ = _; simp [plainI, a1, a2]
        go_enter Tryz.func201, Tryz.ntmps201
        go_wp2
        go_ret
        exact ⟨ret_bool HP.out.symm, rfl⟩
      · have d2 : decide (c ≤ 126) = false := by simpa using a2
        have HP : Hid (plainI c = false) := by show _ = _; simp [plainI, e9]; omega
        go_enter Tryz.func201, Tryz.ntmps201
        go_wp2
        go_ret
        exact ⟨ret_bool HP.out.symm, rfl⟩
    · have HP : Hid (plainI c = false) := by show _ = _; simp [plainI, e9]; omega
      go_enter Tryz.func201, Tryz.ntmps201
      go_wp2
      go_ret
      exact ⟨ret_bool HP.out.symm, rfl⟩
set_option maxHeartbeats 1000000 in
theorem allPlain_any (s : ByteArray) (w : World) (hs : s.size ≤ 1048576) :
    Calls Tryz.prog 185 #[.string s] w fun e w' => e = .returned (.bool (plainL s.data.toList)) ∧ w' = w := by
  go_enter Tryz.func185, Tryz.ntmps185
  go_wp2
  go_loop [6] (fun i => ∃ k : Nat, k ≤ s.size ∧ i = .int .i64 k ∧ plainL (s.data.toList.take k) = true) (fun i => s.size - (intOf i).toNat)
  case atStart => exact ⟨0, Nat.zero_le _, rfl, rfl⟩
  case round =>
    obtain ⟨k, hk, rfl, hall⟩ := hrel
    by_cases hlt : k < s.size
    · have hb : ((s[k].toNat : Nat) : Int) < 256 := by have := s[k].toNat_lt; omega
      cases hw : plainI (s[k].toNat : Int)
      · have HN : Hid (plainL s.data.toList = false) := plainL_not s k hlt hw
        have HW : Hid (plainI (s[k].toNat : Int) = false) := hw
        clear hall hw
        go_wp2_with fail
        refine (iplain_any _ _ (by omega) hb).mono ?_
        rintro e w' ⟨rfl, rfl⟩
        rw [HW.out]
        go_wp2
        go_ret
        exact ⟨ret_bool HN.out.symm, rfl⟩
      · have HA : Hid (plainL (s.data.toList.take (k + 1)) = true) := by
          show _ = _
          rw [take_snoc s k hlt, plainL_snoc, hall, hw]; rfl
        have HW : Hid (plainI (s[k].toNat : Int) = true) := hw
        clear hall hw
        go_wp2_with fail
        refine (iplain_any _ _ (by omega) hb).mono ?_
        rintro e w' ⟨rfl, rfl⟩
        rw [HW.out]
        go_wp2
        go_round
        case rel => exact ⟨k + 1, by omega, by go_num, HA.out⟩
        case measure => simp [intOf]; omega
    · have ek : s.data.toList.take k = s.data.toList := List.take_of_length_le (by simp; omega)
      rw [ek] at hall
      have HN : Hid (plainL s.data.toList = true) := hall
      clear ek hall
      go_wp2
      go_ret
      exact ⟨ret_bool HN.out.symm, rfl⟩
end Go.Proofs.YtdooopkpnanekaaGreatDoor
/-
  What IsWord answers where the table lies in memory as the program lays it.
-/
namespace Go.Proofs.YtdooopkpnanekaaGreatDoor
open Go.ChangeShapes Go.WideShapes Go.ChangeAt Go.RowKit
set_option maxHeartbeats 400000 in
theorem implIsWord_size (s : ByteArray) (w : World) (h : s.size < 1 ∨ 64 < s.size) :
    Calls Tryz.prog 184 #[.string s] w fun e w' => e = .returned (.bool false) ∧ Below w.heap.size w w' := by
  rcases h with h | h
  · have hh : (s.size : Int) < 1 := by omega
    go_enter Tryz.func184, Tryz.ntmps184
    go_wp2
    go_ret
    exact ⟨rfl, Below.refl _ _⟩
  · have hh : (64 : Int) < s.size := by omega
    have h1 : (1 : Int) ≤ s.size := by omega
    have d : decide ((s.size : Int) ≤ 64) = false := by simp; omega
    go_enter Tryz.func184, Tryz.ntmps184
    go_wp2
    go_ret
    exact ⟨rfl, Below.refl _ _⟩
/-- A whole array loaded behind a guard that lets it. -/
theorem wpList_load_row_g {P : Program} {ops : Array Oper} {rest : List Oper} {o : Oper} {a : Act} {w : World} {Q : Exit → Act → World → Prop} (hw : Region.wanted o (yielded ops a.tmps) = true) (ty : TypeId) (x : Operand) (ho : o.op = .load ty x)
    (g : Nat) (hx : a.eval x = .pointer (some ⟨g, 0, none⟩)) (t : TypeId) (cs : Array Value) (fr : Nat × Nat) (d : TypeDesc) (hg : w.heap[g]? = some (.cells cs t fr))
    (hu : P.underlying ty = some d) (hd : (match d with | .struct _ | .array _ _ => true | _ => false) = true) (hi : (P.info? ty).map (·.size) = some cs.size)
    (h : wpList P ops Q rest (a.put o.dst (.agg cs)) w) : wpList P ops Q (o :: rest) a w :=
  wpList_step fun _ hK => by rw [if_pos hw]; exact wp_load_row ty x ho g hx t cs fr d hg hu hd hi (hK _ _ h)
theorem infoSet : (Tryz.prog.info? 216).map (·.size) = some 128 := by kernel_rfl
set_option maxHeartbeats 400000 in
theorem implIsWord_mid (s : ByteArray) (w : World) (cs : Array Value) (tt : TypeId) (fr : Nat × Nat) (h1 : 1 ≤ s.size) (h2 : s.size ≤ 64) (hg : w.heap[0]? = some (.cells cs tt fr)) (hsz : cs.size = 128) (hcs : ∀ i, i < 128 → cs[i]? = some (.bool (wordI (i : Int)))) :
    Calls Tryz.prog 184 #[.string s] w fun e w' => e = .returned (.bool (allW s.data.toList)) ∧ Below w.heap.size w w' := by
  have g1 : (1 : Int) ≤ s.size := by omega
  have d : decide ((s.size : Int) ≤ 64) = true := by simp; omega
  have HG : Hid (w.heap[0]? = some (.cells cs tt fr)) := hg
  have HI : Hid ((Tryz.prog.info? 216).map (·.size) = some cs.size) := by
    show _ = _
    rw [infoSet, hsz]
  have HC : Hid (∀ i, i < 128 → cs[i]? = some (.bool (wordI (i : Int)))) := hcs
  clear hcs hg hsz
  go_enter Tryz.func184, Tryz.ntmps184
  go_wp2_with (refine wpList_load_row_g (by rfl) 216 (.global 0) rfl 0 rfl tt cs fr _ HG.out Tryz.underlying216 rfl HI.out ?_)
  refine (hasOnly_any s cs _ h2 HC.out).mono ?_
  rintro e w1 ⟨rfl, hb⟩
  go_wp2
  go_ret
  exact ⟨rfl, hb⟩
theorem implIsWord_any (s : ByteArray) (w : World) (cs : Array Value) (tt : TypeId) (fr : Nat × Nat) (hg : w.heap[0]? = some (.cells cs tt fr)) (hsz : cs.size = 128) (hcs : ∀ i, i < 128 → cs[i]? = some (.bool (wordI (i : Int)))) :
    Calls Tryz.prog 184 #[.string s] w fun e w' => e = .returned (.bool (wordS s)) ∧ Below w.heap.size w w' := by
  by_cases c : s.size < 1 ∨ 64 < s.size
  · have h : wordS s = false := by
      rcases c with c | c
      · exact wordS_short s c
      · exact wordS_long s c
    rw [h]; exact implIsWord_size s w c
  · rw [wordS_mid s (by omega) (by omega)]
    exact implIsWord_mid s w cs tt fr (by omega) (by omega) hg hsz hcs
end Go.Proofs.YtdooopkpnanekaaGreatDoor
/-
  The law of IsWord out of contracts; what the row's list gives.
-/
namespace Go.Proofs.YtdooopkpnanekaaGreatDoor
open Go.ChangeShapes Go.WideShapes Go.ChangeAt Go.RowKit
/-- An array of bools that reads as a table holds the table, cell for cell. -/
theorem cells_of_bools {H : Type} {enc : TypeId × Value → H} {P : Program} {w : World} {base : Nat} {sp : Nat → Bool} {held : Bool} {fuel : Nat} {t e : TypeId} {n : Nat} {cs : List Value} {zs : List Bool} {p : List MemPlace}
    (ht : P.underlying t = some (.array n e)) (he : P.underlying e = some .bool) (hce : P.cellsOf e = 1) (hct : P.cellsOf t = n)
    (h : DataW.trod enc P w base sp held fuel t cs = some (.agg (zs.map fun z => .lit (.bool z)), p)) : cs = zs.map fun z => Value.bool z := by
  cases fuel with
  | zero => simp [DataW.trod] at h
  | succ fuel =>
    simp only [DataW.trod, ht, hce, hct, Nat.mul_one] at h
    split at h
    · rename_i hl
      obtain ⟨xs, hm, hx⟩ := Option.map_eq_some_iff.1 h
      have hxs : xs.map (·.1) = zs.map fun z => (DataW.lit (.bool z) : DataW H) := by
        have := congrArg Prod.fst hx
        simpa using this
      have hxl : xs.length = n := by simpa using Lib.mapM_length hm
      have hzl : zs.length = n := by
        have := congrArg List.length hxs
        simp at this
        omega
      apply List.ext_getElem?
      intro i
      by_cases hi : i < n
      · obtain ⟨b, hb, hf⟩ := Lib.mapM_at hm i i (by simp [hi])
        obtain ⟨z, hc, rfl⟩ := DataW.trod_bool he hf
        have h1 : cs[i]? = some (.bool z) := by
          have := congrArg (·[0]?) hc
          simpa [List.getElem?_take, List.getElem?_drop] using this
        have h2 : (xs.map (·.1))[i]? = some (DataW.lit (.bool z) : DataW H) := by simp [hb]
        rw [hxs] at h2
        simp only [List.getElem?_map, Option.map_eq_some_iff, DataW.lit.injEq, Lit.bool.injEq] at h2
        obtain ⟨z', hz', rfl⟩ := h2
        simp [h1, hz']
      · rw [List.getElem?_eq_none (by omega), List.getElem?_eq_none (by simp; omega)]
    · cases h
theorem setCells : Tryz.prog.cellsOf 216 = 128 := by kernel_rfl
theorem boolCells : Tryz.prog.cellsOf 4 = 1 := by kernel_rfl
theorem setNamed : Tryz.prog.globalNamed "loop.example/g00665/impl.wordBytes" = some 0 := by kernel_rfl
theorem setType : (Tryz.prog.globals[0]?).map (·.type) = some 216 := by kernel_rfl
theorem laidTab {H : Type} : (Rows.laid_loop_example_g00665_impl_wordBytes : DataW H) = .agg (wordTab.map fun z => .lit (.bool z)) := by kernel_rfl
/-- The table lies in memory. -/
def SetIs (w : World) : Prop := ∃ cs tt fr, w.heap[0]? = some (.cells cs tt fr) ∧ cs.size = 128 ∧ ∀ i, i < 128 → cs[i]? = some (.bool (wordI (i : Int)))
theorem setIs_of {w : World} {rest : List (String × DataW Unit)} (h : laidMet Tryz.prog (("loop.example/g00665/impl.wordBytes", Rows.laid_loop_example_g00665_impl_wordBytes) :: rest) w) : SetIs w := by
  obtain ⟨ps, ⟨g', t', cs, fuel, p, q, hg', ht', hvar, hd, _, _⟩, _⟩ := h
  obtain rfl := Option.some.inj (setNamed.symm.trans hg')
  obtain rfl := Option.some.inj (setType.symm.trans ht')
  rw [laidTab] at hd
  have hcs := cells_of_bools Tryz.underlying216 Tryz.underlying4 boolCells setCells hd
  unfold World.var? at hvar
  rw [setNamed] at hvar
  simp only [Option.bind_some] at hvar
  cases hb : w.heap[0]? with
  | none => rw [hb] at hvar; cases hvar
  | some o =>
    rw [hb] at hvar
    cases o with
    | cells c tt fr =>
      simp only [Option.some.injEq] at hvar
      subst hvar
      have hl : c.toList.length = 128 := by rw [hcs, List.length_map]; exact wordTab_len
      refine ⟨c, tt, fr, hb, by simpa using hl, fun i hi => ?_⟩
      rw [← Array.getElem?_toList, hcs, List.getElem?_map]
      have hi2 : i < wordTab.length := by rw [wordTab_len]; exact hi
      rw [List.getElem?_eq_getElem hi2]
      simp [wordI, hi2]
    | map _ _ => cases hvar
    | _ => cases hvar
theorem SetIs.below {w w' : World} (h : SetIs w) (hb : Below w.heap.size w w') : SetIs w' := by
  obtain ⟨cs, tt, fr, hg, h1, h2⟩ := h
  refine ⟨cs, tt, fr, ?_, h1, h2⟩
  rw [hb.block 0 (Array.getElem?_eq_some_iff.1 hg).1, hg]
theorem implIsWord_set (s : ByteArray) (w : World) (h : SetIs w) :
    Calls Tryz.prog 184 #[.string s] w fun e w' => e = .returned (.bool (wordS s)) ∧ Below w.heap.size w w' := by
  obtain ⟨cs, tt, fr, hg, h1, h2⟩ := h
  exact implIsWord_any s w cs tt fr hg h1 h2
end Go.Proofs.YtdooopkpnanekaaGreatDoor
/-
  What TrimText and its model answer; the law of TrimText out of them.
-/
namespace Go.Proofs.YtdooopkpnanekaaGreatDoor
open Go.ChangeShapes Go.WideShapes Go.ChangeAt Go.RowKit
theorem trimT_size (s : ByteArray) : (trimT s).size ≤ s.size := by
  have h : (Lib.trimS s.data.toList [32, 9]).length ≤ s.data.toList.length := by
    unfold Lib.trimS Lib.trimLeftS Lib.trimRightS
    refine Nat.le_trans (List.dropWhile_sublist _).length_le ?_
    rw [List.length_reverse]
    refine Nat.le_trans (List.dropWhile_sublist _).length_le ?_
    rw [List.length_reverse]
    exact Nat.le_refl _
  have e : (trimT s).size = (Lib.trimS s.data.toList [32, 9]).length := by simp [trimT, ByteArray.size]
  rw [e]
  simpa using h
theorem trim_lib (s : ByteArray) (w : World) (hs : s.size ≤ 1000) :
    Calls Tryz.prog 186 #[.string s, .string ⟨#[32, 9]⟩] w fun e w' => e = .returned (.string (trimT s)) ∧ Below w.heap.size w w' :=
  Any.strings_Trim_laid Tryz.lays160 (by kernel_rfl) s ⟨#[32, 9]⟩ w (by omega) (by decide) (ascii_of_all (by decide))
theorem trim_big (s : ByteArray) (w : World) (hs : s.size ≤ 1048576) :
    Calls Tryz.prog 186 #[.string s, .string ⟨#[32, 9]⟩] w fun e w' => e = .returned (.string (trimT s)) ∧ Below w.heap.size w w' :=
  Any.strings_Trim_laid Tryz.lays160 (by kernel_rfl) s ⟨#[32, 9]⟩ w (by omega) (by decide) (ascii_of_all (by decide))
theorem clone_lib (s : ByteArray) (w : World) (hs : s.size ≤ 1000) :
    Calls Tryz.prog 175 #[.string s] w fun e w' => e = .returned (.string s) ∧ Below w.heap.size w w' :=
  Any.stringslite_Clone Tryz.laysM316 s w (by omega)
set_option maxHeartbeats 400000 in
theorem clone_any (s : ByteArray) (w : World) (hs : s.size ≤ 1000) :
    Calls Tryz.prog 134 #[.string s] w fun e w' => e = .returned (.string s) ∧ Below w.heap.size w w' := by
  go_enter Tryz.func134, Tryz.ntmps134
  go_wp2_with fail
  refine (clone_lib s _ hs).mono ?_
  rintro e w1 ⟨rfl, hb⟩
  go_wp2
  go_ret
  exact ⟨rfl, hb⟩
end Go.Proofs.YtdooopkpnanekaaGreatDoor
/-
  What lineFault and HeadersFault answer.
-/
namespace Go.Proofs.YtdooopkpnanekaaGreatDoor
open Go.ChangeShapes Go.WideShapes Go.ChangeAt Go.RowKit Go.Sort
theorem hdr_room {w w1 : World} {n v : ByteArray} {t : TypeId} (hb : Below (w.alloc (.cells #[.string n, .string v] t)).heap.size (w.alloc (.cells #[.string n, .string v] t)) w1) :
    w.heap.size < w1.heap.size ∧ w1.cell? ⟨w.heap.size, 0, none⟩ = some (.string n) ∧ w1.cell? ⟨w.heap.size, 1, none⟩ = some (.string v) ∧ Below w.heap.size w w1 := by
  rw [World.size_alloc] at hb
  have hz := hb.size
  simp only [World.size_alloc] at hz
  exact ⟨hz, by rw [hb.cell (p := ⟨w.heap.size, 0, none⟩) (Nat.lt_succ_self _)]; simp, by rw [hb.cell (p := ⟨w.heap.size, 1, none⟩) (Nat.lt_succ_self _)]; simp, ((Below.refl _ _).alloc (Nat.le_refl _) _).trans (hb.mono (Nat.le_succ _))⟩
theorem hkeep {W W' : World} (hb : Below W.heap.size W W') {p : Addr} {v : Value} (h : W.cell? p = some v) : W'.cell? p = some v := by
  rw [hb.cell (block_lt_of_cell h)]; exact h
set_option maxHeartbeats 2000000 in
theorem implLine_any (r : Hdr) (w : World) (hset : SetIs w) :
    Calls Tryz.prog 144 #[.agg #[.string r.name, .string r.value]] w fun e w' => e = .returned (.int .i64 (faultH r)) ∧ Below w.heap.size w w' := by
  obtain ⟨n, v⟩ := r
  simp only
  have HW : Hid (Calls Tryz.prog 184 #[.string n] (w.alloc (.cells #[.string n, .string v] 165)) fun e w' => e = .returned (.bool (wordS n)) ∧ Below (w.alloc (.cells #[.string n, .string v] 165)).heap.size (w.alloc (.cells #[.string n, .string v] 165)) w') := implIsWord_set n _ (hset.below ((Below.refl _ _).alloc (Nat.le_refl _) _))
  clear hset
  cases hw : wordS n
  · have HE : Hid (faultH ⟨n, v⟩ = 5) := by show _ = _; simp [faultH, hw]
    rw [hw] at HW
    clear hw
    go_enter Tryz.func144, Tryz.ntmps144
    go_wp2_with fail
    refine HW.out.mono ?_
    rintro e w1 ⟨rfl, hb1⟩
    obtain ⟨hz1, p0, p1, kb⟩ := hdr_room hb1
    have KB : Hid (Below w.heap.size w w1) := kb
    clear hb1 kb
    go_wp2_with fail
    go_ret
    exact ⟨ret_int HE.out.symm, KB.out⟩
  rw [hw] at HW
  by_cases hbig : 200 < v.size
  · have HE : Hid (faultH ⟨n, v⟩ = 2) := by show _ = _; simp only [faultH, hw]; rw [if_neg (by simp), if_pos hbig]
    have g : (200 : Int) < v.size := by omega
    clear hw
    go_enter Tryz.func144, Tryz.ntmps144
    go_wp2_with fail
    refine HW.out.mono ?_
    rintro e w1 ⟨rfl, hb1⟩
    obtain ⟨hz1, p0, p1, kb⟩ := hdr_room hb1
    have KB : Hid (Below w.heap.size w w1) := kb
    clear hb1 kb
    go_wp2_with fail
    go_ret
    exact ⟨ret_int HE.out.symm, KB.out⟩
  have g : ¬ (200 : Int) < v.size := by omega
  have HP : Hid (∀ w, Calls Tryz.prog 185 #[.string v] w fun e w' => e = .returned (.bool (plainL v.data.toList)) ∧ Below w.heap.size w w') := fun w => (allPlain_any v w (by omega)).mono fun _ _ ⟨h1, h2⟩ => ⟨h1, h2 ▸ Below.refl _ _⟩
  have HT : Hid (∀ w, Calls Tryz.prog 186 #[.string v, .string ⟨#[32, 9]⟩] w fun e w' => e = .returned (.string (trimT v)) ∧ Below w.heap.size w w') := fun w => trim_big v w (by omega)
  cases hp : plainL v.data.toList
  · have HE : Hid (faultH ⟨n, v⟩ = 5) := by show _ = _; simp only [faultH, hw]; rw [if_neg (by simp), if_neg hbig, if_pos hp]
    rw [hp] at HP
    clear hw hp hbig
    go_enter Tryz.func144, Tryz.ntmps144
    go_wp2_with fail
    refine HW.out.mono ?_
    rintro e w1 ⟨rfl, hb1⟩
    obtain ⟨hz1, p0, p1, kb⟩ := hdr_room hb1
    have KB : Hid (Below w.heap.size w w1) := kb
    clear hb1 kb
    go_wp2_with fail
    have q1 := cell_regrown p1
    have cP : ∀ d' os, Calls Tryz.prog 185 #[.string v] (grow (redrawn w1 d') os) fun e w'' => e = .returned (.bool false) ∧ ∃ p : Regrown, w'' = grow (redrawn w1 p.d) p.os := fun d' os => Calls.regrown_of (HP.out _)
    refine wp_region_quiet_below (by kernel_rfl) (by kernel_rfl) ?_
    repeat (go_big_quiet_step (first | (go_at_call 185; exact cP _ _)))
    refine wpQuiet_nil ?_
    intro W2 hW2
    have hbW2 : Below w1.heap.size w1 W2 := by
      obtain ⟨⟨d, os⟩, rfl⟩ := hW2
      exact below_regrown w1 d os
    have KB2 : Hid (Below w.heap.size w W2) := KB.out.trans (hbW2.mono KB.out.size)
    clear hW2 hbW2 cP q1 p0 p1 KB
    go_wp2_with fail
    go_ret
    exact ⟨ret_int HE.out.symm, KB2.out⟩
  rw [hp] at HP
  by_cases ht : trimT v = v
  · have HE : Hid (faultH ⟨n, v⟩ = 0) := by show _ = _; simp only [faultH, hw]; rw [if_neg (by simp), if_neg hbig, if_neg (by simp [hp]), if_pos ht]
    rw [ht] at HT
    clear hw hp hbig ht
    go_enter Tryz.func144, Tryz.ntmps144
    go_wp2_with fail
    refine HW.out.mono ?_
    rintro e w1 ⟨rfl, hb1⟩
    obtain ⟨hz1, p0, p1, kb⟩ := hdr_room hb1
    have KB : Hid (Below w.heap.size w w1) := kb
    clear hb1 kb
    go_wp2_with fail
    have q1 := cell_regrown p1
    have cP : ∀ d' os, Calls Tryz.prog 185 #[.string v] (grow (redrawn w1 d') os) fun e w'' => e = .returned (.bool true) ∧ ∃ p : Regrown, w'' = grow (redrawn w1 p.d) p.os := fun d' os => Calls.regrown_of (HP.out _)
    have cT : ∀ d' os, Calls Tryz.prog 186 #[.string v, .string ⟨#[32, 9]⟩] (grow (redrawn w1 d') os) fun e w'' => e = .returned (.string v) ∧ ∃ p : Regrown, w'' = grow (redrawn w1 p.d) p.os := fun d' os => Calls.regrown_of (HT.out _)
    refine wp_region_quiet_below (by kernel_rfl) (by kernel_rfl) ?_
    repeat (go_big_quiet_step (first | (go_at_call 185; exact cP _ _) | (go_at_call 186; exact cT _ _)))
    refine wpQuiet_nil ?_
    intro W2 hW2
    have hbW2 : Below w1.heap.size w1 W2 := by
      obtain ⟨⟨d, os⟩, rfl⟩ := hW2
      exact below_regrown w1 d os
    have KB2 : Hid (Below w.heap.size w W2) := KB.out.trans (hbW2.mono KB.out.size)
    clear hW2 hbW2 cP cT q1 p0 p1 KB
    go_wp2_with fail
    go_ret
    exact ⟨ret_int HE.out.symm, KB2.out⟩
  · have HE : Hid (faultH ⟨n, v⟩ = 5) := by show _ = _; simp only [faultH, hw]; rw [if_neg (by simp), if_neg hbig, if_neg (by simp [hp]), if_neg ht]
    have hq := hstr_ne ht
    generalize trimT v = t at *
    clear hw hp hbig ht
    go_enter Tryz.func144, Tryz.ntmps144
    go_wp2_with fail
    refine HW.out.mono ?_
    rintro e w1 ⟨rfl, hb1⟩
    obtain ⟨hz1, p0, p1, kb⟩ := hdr_room hb1
    have KB : Hid (Below w.heap.size w w1) := kb
    clear hb1 kb
    go_wp2_with fail
    have q1 := cell_regrown p1
    have cP : ∀ d' os, Calls Tryz.prog 185 #[.string v] (grow (redrawn w1 d') os) fun e w'' => e = .returned (.bool true) ∧ ∃ p : Regrown, w'' = grow (redrawn w1 p.d) p.os := fun d' os => Calls.regrown_of (HP.out _)
    have cT : ∀ d' os, Calls Tryz.prog 186 #[.string v, .string ⟨#[32, 9]⟩] (grow (redrawn w1 d') os) fun e w'' => e = .returned (.string t) ∧ ∃ p : Regrown, w'' = grow (redrawn w1 p.d) p.os := fun d' os => Calls.regrown_of (HT.out _)
    refine wp_region_quiet_below (by kernel_rfl) (by kernel_rfl) ?_
    repeat (go_big_quiet_step (first | (go_at_call 185; exact cP _ _) | (go_at_call 186; exact cT _ _)))
    refine wpQuiet_nil ?_
    intro W2 hW2
    have hbW2 : Below w1.heap.size w1 W2 := by
      obtain ⟨⟨d, os⟩, rfl⟩ := hW2
      exact below_regrown w1 d os
    have KB2 : Hid (Below w.heap.size w W2) := KB.out.trans (hbW2.mono KB.out.size)
    clear hW2 hbW2 cP cT q1 p0 p1 KB
    go_wp2_with fail
    go_ret
    exact ⟨ret_int HE.out.symm, KB2.out⟩
set_option maxRecDepth 100000 in
set_option maxHeartbeats 4000000 in
theorem implHFault_any (w : World) (a : Option Addr) (cap : Nat) (l : List Hdr) (hl : l.length ≤ 1048576) (hset : SetIs w) (hi : HdsIn w a l) :
    Calls Tryz.prog 98 #[.slice a l.length cap] w fun e w' => e = .returned (.int .i64 (headsC l)) ∧ Below w.heap.size w w' := by
  by_cases h20 : 20 < l.length
  · have HE : Hid (headsC l = 2) := headsC_many h20
    have g : (20 : Int) < (l.length : Int) := by omega
    clear hi hset
    generalize l.length = n at *
    go_enter Tryz.func98, Tryz.ntmps98
    go_wp2_with fail
    go_ret
    exact ⟨ret_int HE.out.symm, Below.refl _ _⟩
  have HC : Hid (headsC l = faultHL l) := headsC_few h20
  have HI : Hid (HdsIn w a l) := hi
  have HS : Hid (SetIs w) := hset
  clear hi hset
  generalize hn : l.length = n at *
  have HN : Hid (l.length = n) := hn
  clear hn
  have g : ¬ (20 : Int) < (n : Int) := by omega
  go_enter Tryz.func98, Tryz.ntmps98
  go_wp2_with fail
  go_loopw [11] (fun i wr => ∃ k : Nat, k ≤ n ∧ i = .int .i64 k ∧ faultHL l = faultHL (l.drop k) ∧ Below w.heap.size w wr) (fun i _ => n - (intOf i).toNat)
  case atStart => exact ⟨0, Nat.zero_le _, rfl, rfl, Below.refl _ _⟩
  case round =>
    obtain ⟨k, hk, rfl, hf, hb⟩ := hrel
    have HF : Hid (faultHL l = faultHL (l.drop k)) := hf
    clear hf
    by_cases hlt : k < n
    · obtain ⟨r, hr⟩ : ∃ r, l[k]? = some r := ⟨l[k]'(by have := HN.out; omega), List.getElem?_eq_getElem _⟩
      rcases HI.out with h | ⟨b, off, rfl, hat⟩
      · subst h; simp at hr
      obtain ⟨p1, p3⟩ := (hat.keep hb) k r hr
      have HD : Hid (l.drop k = r :: l.drop (k + 1)) := drop_hdr l k r hr
      have gk : (k : Int) < n := by omega
      have SF : Hid (∀ W, Below wr.heap.size wr W → Calls Tryz.prog 144 #[.agg #[.string r.name, .string r.value]] W fun e w' => e = .returned (.int .i64 (faultH r)) ∧ Below W.heap.size W w') := fun W h => implLine_any r W ((HS.out.below hb).below h)
      clear hr hat HI
      by_cases hfr : faultH r = 0
      · have HX : Hid (faultHL l = faultHL (l.drop (k + 1))) := by show _ = _; rw [HF.out, HD.out, faultHL_ok hfr]
        rw [hfr] at SF
        clear hfr HD HF
        obtain ⟨rn, rv⟩ := r
        simp only at p1 p3 SF
        go_wp2_with fail
        refine (SF.out _ ((Below.refl _ _).alloc (Nat.le_refl _) _)).mono ?_
        rintro e w2 ⟨rfl, hb2⟩
        obtain ⟨_, _, _, kb⟩ := hdr_room hb2
        have hbb := hb.trans (kb.mono hb.size)
        clear hb2 hb kb
        go_wp2_with fail
        go_roundw
        case rel => exact ⟨k + 1, by omega, by go_num, HX.out, hbb⟩
        case measure => simp [intOf]; omega
      · have HX : Hid (headsC l = faultH r) := by show _ = _; rw [HC.out, HF.out, HD.out, faultHL_bad hfr]
        clear HD HF HC
        obtain ⟨rn, rv⟩ := r
        simp only at p1 p3 SF
        generalize faultH ⟨rn, rv⟩ = fr at *
        go_wp2_with fail
        refine (SF.out _ ((Below.refl _ _).alloc (Nat.le_refl _) _)).mono ?_
        rintro e w2 ⟨rfl, hb2⟩
        obtain ⟨_, _, _, kb⟩ := hdr_room hb2
        have hbb := hb.trans (kb.mono hb.size)
        clear hb2 hb kb
        go_wp2_with fail
        go_ret
        exact ⟨ret_int HX.out.symm, hbb⟩
    · have HX : Hid (headsC l = 0) := by
        show _ = _
        rw [HC.out, HF.out, List.drop_of_length_le (by have := HN.out; omega)]
        rfl
      clear HF HC
      go_wp2_with fail
      go_ret
      exact ⟨ret_int HX.out.symm, hb⟩
end Go.Proofs.YtdooopkpnanekaaGreatDoor
/-
  What LowerText answers where the text is not too long.
-/
namespace Go.Proofs.YtdooopkpnanekaaGreatDoor
open Go.ChangeShapes Go.WideShapes Go.ChangeAt Go.RowKit
end Go.Proofs.YtdooopkpnanekaaGreatDoor
/-
  Fields of results; what lies in memory behind a call.
-/
namespace Go.Proofs.YtdooopkpnanekaaGreatDoor
open Go.ChangeShapes Go.WideShapes Go.ChangeAt Go.RowKit Go.Sort
theorem f_field_code (c : Int) (s : ByteArray) (w : World) : (Instr.field 177 (.agg #[.int .i64 c, .string s]) 0).run Tryz.prog w = .ok (.int .i64 c) w := by kernel_rfl
theorem f_field_text (c : Int) (s : ByteArray) (w : World) : (Instr.field 177 (.agg #[.int .i64 c, .string s]) 1).run Tryz.prog w = .ok (.string s) w := by kernel_rfl
theorem f_keep {W W' : World} (hb : Below W.heap.size W W') {p : Addr} {v : Value} (h : W.cell? p = some v) : W'.cell? p = some v := by
  rw [hb.cell (block_lt_of_cell h)]; exact h
theorem f_keepA {W : World} {p : Addr} {v : Value} (o : Obj) (h : W.cell? p = some v) : (W.alloc o).cell? p = some v := f_keep ((Below.refl _ _).alloc (Nat.le_refl _) _) h
end Go.Proofs.YtdooopkpnanekaaGreatDoor
/-
  A map of texts to places, in memory: what is asked of it, what is laid into it, what goes from it.
-/
namespace Go.Proofs.YtdooopkpnanekaaGreatDoor
open Go.ChangeShapes Go.WideShapes Go.ChangeAt Go.RowKit Go.Maps
open Go.WideMaps (keyOf_string_mk)
theorem isKeyL (x : ByteArray) : WideAt.IsKeyLit (.string x.data.toList) := trivial
theorem hkeyed : Keyed Tryz.prog 9 := string_keyed Tryz.underlying9
theorem hzeroInt (w : World) : (zeroValue 3).run Tryz.prog w = .ok (.int .i64 0) w := by kernel_rfl
def keyL (x : ByteArray) : Lit := .string x.data.toList
theorem keyL_ne {x y : ByteArray} (h : x ≠ y) : keyL x ≠ keyL y := by
  intro e
  unfold keyL at e
  simp only [Lit.string.injEq] at e
  exact h (ByteArray.ext (Array.ext' e))
/-- Block B is a map of at most n entries that has p's places at p's names. -/
def NamesMap (w : World) (B n : Nat) (p : ByteArray → Option Nat) : Prop :=
  ∃ D : DataW Unit, w.ownsMap Tryz.prog 9 (plainElem Tryz.prog 3) B n D ∧ ∀ x : ByteArray, Maps.has D (keyL x) = (p x).isSome ∧ ∀ i, p x = some i → D.atKey (keyL x) (.lit (.int .i64 0)) = .lit (.int .i64 (i : Int))
theorem NamesMap.lt {w : World} {B n : Nat} {p : ByteArray → Option Nat} (h : NamesMap w B n p) : B < w.heap.size := by
  obtain ⟨D, h, _⟩ := h
  exact h.lt
theorem NamesMap.below {w w' : World} {B n : Nat} {p : ByteArray → Option Nat} (h : NamesMap w B n p) (hb : Below w.heap.size w w') : NamesMap w' B n p := by
  have hl := h.lt
  obtain ⟨D, ⟨es, clock, hh, r⟩, h2⟩ := h
  exact ⟨D, ⟨es, clock, by rw [hb.block B hl]; exact hh, r⟩, h2⟩
theorem NamesMap.setCell {w : World} {B n : Nat} {p : ByteArray → Option Nat} (h : NamesMap w B n p) {a : Addr} (ha : B ≠ a.block) (u : Value) : NamesMap (w.setCell a u) B n p := by
  obtain ⟨D, h, h2⟩ := h
  exact ⟨D, h.setCell ha u, h2⟩
theorem NamesMap.made (w : World) : NamesMap (w.alloc (.map #[] 0)) w.heap.size 0 (fun _ => none) :=
  ⟨.map [], World.ownsMap_made w _ _ _, fun x => ⟨rfl, fun i h => by cases h⟩⟩
theorem NamesMap.of {w : World} {B n : Nat} {p q : ByteArray → Option Nat} (h : NamesMap w B n p) (e : ∀ x, p x = q x) : NamesMap w B n q := by
  obtain rfl : p = q := funext e
  exact h
theorem turned_below {w w' : World} {B base : Nat} (h : w.mapTurned w' B) (hb : base ≤ B) : Below base w w' :=
  (Below.refl base w).grown h.grown (by
    obtain ⟨es, clock, es', clock', hh, rfl⟩ := h
    have := (Array.getElem?_eq_some_iff.1 hh).1
    omega) (fun q hq => by cases hq; exact hb)
section
variable {ops : Array Oper} {rest : List Oper} {o : Oper} {a : Act} {Q : Exit → Act → World → Prop}
theorem wpList_look_none (w : World) (hg : o.guard = none) (m x : Operand) (hop : o.op = Op.lookup 175 m x true) (B n : Nat) (p : ByteArray → Option Nat)
    (hm : a.eval m = .map (some B)) (hown : NamesMap w B n p) (key : ByteArray) (hx : a.eval x = .string key) (hk : key.size ≤ 1048576) (hp : p key = none)
    (hK : wpList Tryz.prog ops Q rest (a.put o.dst (.tuple #[.int .i64 0, .bool false])) w) : wpList Tryz.prog ops Q (o :: rest) a w := by
  obtain ⟨D, hD, hat⟩ := hown
  have h1 : Maps.has D (keyL key) = false := by rw [(hat key).1, hp]; rfl
  refine wpList_lookup_own_ok_int w hg m x 175 hop 9 3 .i64 hkeyed Tryz.underlying175 Tryz.underlying3 (hzeroInt w) B n D hm hD _ (keyL key) hx (keyOf_string_mk Tryz.underlying9 (by unfold maxLen; omega)) ?_
  intro c hc _
  rw [atKey_of_not_has h1] at hc
  obtain rfl : c = 0 := by simpa using hc.symm
  rw [h1]
  exact hK
theorem wpList_look_some (w : World) (hg : o.guard = none) (m x : Operand) (hop : o.op = Op.lookup 175 m x true) (B n : Nat) (p : ByteArray → Option Nat)
    (hm : a.eval m = .map (some B)) (hown : NamesMap w B n p) (key : ByteArray) (hx : a.eval x = .string key) (hk : key.size ≤ 1048576) (i : Nat) (hp : p key = some i)
    (hK : wpList Tryz.prog ops Q rest (a.put o.dst (.tuple #[.int .i64 (i : Int), .bool true])) w) : wpList Tryz.prog ops Q (o :: rest) a w := by
  obtain ⟨D, hD, hat⟩ := hown
  have h1 : Maps.has D (keyL key) = true := by rw [(hat key).1, hp]; rfl
  refine wpList_lookup_own_ok_int w hg m x 175 hop 9 3 .i64 hkeyed Tryz.underlying175 Tryz.underlying3 (hzeroInt w) B n D hm hD _ (keyL key) hx (keyOf_string_mk Tryz.underlying9 (by unfold maxLen; omega)) ?_
  intro c hc _
  rw [(hat key).2 i hp] at hc
  obtain rfl : c = (i : Int) := by simpa using hc.symm
  rw [h1]
  exact hK
theorem wpList_put (w : World) (hg : o.guard = none) (m x v : Operand) (hop : o.op = Op.mapUpdate 175 m x v) (B n : Nat) (p : ByteArray → Option Nat)
    (hm : a.eval m = .map (some B)) (hown : NamesMap w B n p) (hn : n ≤ 1048576) (key : ByteArray) (hx : a.eval x = .string key) (hk : key.size ≤ 1048576) (i : Nat) (hi : i ≤ 1048576) (hv : a.eval v = .int .i64 (i : Int)) (base : Nat) (hbase : base ≤ B)
    (hK : ∀ w', NamesMap w' B (n + 1) (fun y => if y = key then some i else p y) → Below base w w' → wpList Tryz.prog ops Q rest (a.put o.dst undef) w') : wpList Tryz.prog ops Q (o :: rest) a w := by
  obtain ⟨D, hD, hat⟩ := hown
  refine wpList_mapUpdate_in w hg m x v 175 hop 9 3 hkeyed Tryz.underlying175 _ B n D hm hD (by unfold maxLen; omega) _ _ (keyL key) hx hv (keyOf_string_mk Tryz.underlying9 (by unfold maxLen; omega)) (.lit (.int .i64 (i : Int))) [] (plainElem_int Tryz.underlying3 (WalkArith.wf_i64 (by omega))) ?_
  intro w' hD' ht
  refine hK w' ⟨_, hD', fun y => ?_⟩ (turned_below ht hbase)
  by_cases e : y = key
  · subst e
    simp only [if_true]
    refine ⟨has_put_same hD.isMap (isKeyL _) _, fun j hj => ?_⟩
    obtain rfl := Option.some.inj hj
    exact atKey_put_same hD.isMap (isKeyL _) _ _
  · simp only [if_neg e]
    rw [has_put_other (keyL_ne e), atKey_put_other (keyL_ne e)]
    exact hat y
theorem wpList_del (w : World) (hg : o.guard = none) (m x : Operand) (hop : o.op = Op.call { callee := Callee.builtin Builtin.delete, args := #[m, x], argTypes := #[175, 9] }) (B n : Nat) (p : ByteArray → Option Nat)
    (hm : a.eval m = .map (some B)) (hown : NamesMap w B n p) (key : ByteArray) (hx : a.eval x = .string key) (hk : key.size ≤ 1048576) (base : Nat) (hbase : base ≤ B)
    (hK : ∀ w', NamesMap w' B n (fun y => if y = key then none else p y) → Below base w w' → wpList Tryz.prog ops Q rest (a.put o.dst (.tuple #[])) w') : wpList Tryz.prog ops Q (o :: rest) a w := by
  obtain ⟨D, hD, hat⟩ := hown
  refine wpList_delete_own w hg m x 175 9 hop 3 hkeyed Tryz.underlying175 _ B n D hm hD _ (keyL key) hx (keyOf_string_mk Tryz.underlying9 (by unfold maxLen; omega)) ?_
  intro w' hD' ht
  refine hK w' ⟨_, hD', fun y => ?_⟩ (turned_below ht hbase)
  by_cases e : y = key
  · subst e
    simp only [if_true]
    exact ⟨has_del_same, fun j hj => by cases hj⟩
  · simp only [if_neg e]
    rw [has_del_other (keyL_ne e), atKey_del_other (keyL_ne e)]
    exact hat y
end
end Go.Proofs.YtdooopkpnanekaaGreatDoor
/-
  Names that are alike; what is asked ahead by all that look for a name.
-/
namespace Go.Proofs.YtdooopkpnanekaaGreatDoor
open Go.ChangeShapes Go.WideShapes Go.ChangeAt Go.RowKit Go.Sort
theorem lowS_size (s : ByteArray) : (lowS s).size = s.size := by
  show ((s.data.toList.map lowU).toArray).size = s.data.size
  rw [List.size_toArray, List.length_map, Array.length_toList]
set_option maxHeartbeats 1000000 in
theorem hclone_any (s : ByteArray) (w : World) (hs : s.size ≤ 1048576) :
    Calls Tryz.prog 134 #[.string s] w fun e w' => e = .returned (.string s) ∧ Below w.heap.size w w' := by
  go_enter Tryz.func134, Tryz.ntmps134
  go_wp2_with fail
  refine (Any.stringslite_Clone Tryz.laysM316 s _ (by omega)).mono ?_
  rintro e w1 ⟨rfl, hb⟩
  go_wp2
  go_ret
  exact ⟨rfl, hb⟩
theorem hdr_free {w w1 : World} {t : TypeId} (hb : Below (w.heap.size + 1) (w.alloc (.cells #[.string ⟨#[]⟩, .string ⟨#[]⟩] t)) w1) :
    w.heap.size < w1.heap.size ∧ w1.cell? ⟨w.heap.size, 0, none⟩ = some (.string ⟨#[]⟩) ∧ w1.cell? ⟨w.heap.size, 1, none⟩ = some (.string ⟨#[]⟩) ∧ w1.frozen? ⟨w.heap.size, 0, none⟩ = false ∧ w1.frozen? ⟨w.heap.size, 1, none⟩ = false ∧ Below w.heap.size w w1 := by
  have hz := hb.size
  simp only [World.size_alloc] at hz
  exact ⟨hz, by rw [hb.cell (p := ⟨w.heap.size, 0, none⟩) (Nat.lt_succ_self _)]; simp, by rw [hb.cell (p := ⟨w.heap.size, 1, none⟩) (Nat.lt_succ_self _)]; simp, by rw [hb.frozen (p := ⟨w.heap.size, 0, none⟩) (Nat.lt_succ_self _)]; simp, by rw [hb.frozen (p := ⟨w.heap.size, 1, none⟩) (Nat.lt_succ_self _)]; simp, ((Below.refl _ _).alloc (Nat.le_refl _) _).trans (hb.mono (Nat.le_succ _))⟩
set_option maxHeartbeats 1000000 in
theorem lineOf_any (n v : ByteArray) (w : World) (hn : n.size ≤ 1048576) (hv : v.size ≤ 1048576) :
    Calls Tryz.prog 190 #[.string n, .string v] w fun e w' => e = .returned (.agg #[.string n, .string v]) ∧ Below w.heap.size w w' := by
  go_enter Tryz.func190, Tryz.ntmps190
  go_wp2_with fail
  refine (hclone_any n _ hn).mono ?_
  rintro e w1 ⟨rfl, hb1⟩
  simp only [World.size_alloc] at hb1
  go_wp2_with fail
  refine (hclone_any v _ hv).mono ?_
  rintro e w2 ⟨rfl, hb2⟩
  have hz1 : w.heap.size + 1 ≤ w1.heap.size := by have := hb1.size; rwa [World.size_alloc] at this
  obtain ⟨hz2, q0, q1, f0, f1, kb⟩ := hdr_free (hb1.trans (hb2.mono hz1))
  obtain ⟨r0, r1⟩ := two_set (v0 := .string n) (v1 := .string v) q0 q1
  clear hb1 hb2 hz1
  go_wp2_with fail
  exact bodyPost_ret (v := .agg #[.string n, .string v]) (by simp [results, Tryz.results190, go_sem, r0, r1]) rfl ⟨rfl, (kb.setCell (Nat.le_refl _) _).setCell (Nat.le_refl _) _⟩
end Go.Proofs.YtdooopkpnanekaaGreatDoor
/-
  The room of a TextResult behind a call.
-/
namespace Go.Proofs.YtdooopkpnanekaaGreatDoor
open Go.ChangeShapes Go.WideShapes Go.ChangeAt Go.RowKit
theorem text_room {w w1 : World} (hb : Below (w.heap.size + 1) (w.alloc (.cells #[.int .i64 0, .string ⟨#[]⟩] 177)) w1) :
    w.heap.size < w1.heap.size ∧ w1.cell? ⟨w.heap.size, 0, none⟩ = some (.int .i64 0) ∧ w1.cell? ⟨w.heap.size, 1, none⟩ = some (.string ⟨#[]⟩) ∧ w1.frozen? ⟨w.heap.size, 0, none⟩ = false ∧ w1.frozen? ⟨w.heap.size, 1, none⟩ = false ∧ Below w.heap.size w w1 := by
  have hz := hb.size
  simp only [World.size_alloc] at hz
  exact ⟨hz, by rw [hb.cell (p := ⟨w.heap.size, 0, none⟩) (Nat.lt_succ_self _)]; simp, by rw [hb.cell (p := ⟨w.heap.size, 1, none⟩) (Nat.lt_succ_self _)]; simp, by rw [hb.frozen (p := ⟨w.heap.size, 0, none⟩) (Nat.lt_succ_self _)]; simp, by rw [hb.frozen (p := ⟨w.heap.size, 1, none⟩) (Nat.lt_succ_self _)]; simp, ((Below.refl _ _).alloc (Nat.le_refl _) _).trans (hb.mono (Nat.le_succ _))⟩
end Go.Proofs.YtdooopkpnanekaaGreatDoor
/-
  What the model of PackHeaders tells.
-/
namespace Go.Proofs.YtdooopkpnanekaaGreatDoor
open Go.ChangeShapes Go.WideShapes Go.ChangeAt Go.RowKit Go.Sort
theorem HdsIn.ok {w : World} {a : Option Addr} {l : List Hdr} (h : HdsIn w a l) {k : Nat} {r : Hdr} (hr : l[k]? = some r) : ∃ b off, a = some ⟨b, off, none⟩ ∧ HeadsAt w b off l := by
  rcases h with h | h
  · subst h; simp at hr
  · exact h
theorem line_app (o n v : ByteArray) : (o ++ n ++ ⟨#[58, 32]⟩ ++ v ++ ⟨#[13, 10]⟩ : ByteArray).data.toList = o.data.toList ++ lineL ⟨n, v⟩ := by
  simp only [happ_list, lineL, List.append_assoc]
theorem line_app2 (o n v : ByteArray) : (o ++ (n ++ ⟨#[58, 32]⟩ ++ v ++ ⟨#[13, 10]⟩) : ByteArray).data.toList = o.data.toList ++ lineL ⟨n, v⟩ := by
  simp only [happ_list, lineL, List.append_assoc]
set_option maxRecDepth 100000 in
set_option maxHeartbeats 4000000 in
/-- Lines that have no fault, told. -/
theorem l4Pack_any (w : World) (a : Option Addr) (cap : Nat) (l : List Hdr) (h20 : l.length ≤ 100) (hf : ∀ (i : Nat) r, l[i]? = some r → r.name.size ≤ 1100 ∧ r.value.size ≤ 1100) (hi : HdsIn w a l) :
    Calls Tryz.prog 183 #[.slice a l.length cap] w fun e w' => e = .returned (.string ⟨(packL l).toArray⟩) ∧ Below w.heap.size w w' := by
  have HI : Hid (HdsIn w a l) := hi
  have HF : Hid (∀ (i : Nat) r, l[i]? = some r → r.name.size ≤ 1100 ∧ r.value.size ≤ 1100) := hf
  clear hi hf
  generalize hn : l.length = n at *
  have HN : Hid (l.length = n) := hn
  clear hn
  go_enter Tryz.func183, Tryz.ntmps183
  go_wp2_with fail
  go_loopw [3, 4] (fun v i wr => ∃ (k : Nat) (o : ByteArray), k ≤ n ∧ i = .int .i64 k ∧ v = .string o ∧ o.data.toList = packL (l.take k) ∧ o.size ≤ k * 2300 ∧ Below w.heap.size w wr) (fun _ i _ => n - (intOf i).toNat)
  case atStart => exact ⟨0, ⟨#[]⟩, Nat.zero_le _, rfl, rfl, rfl, Nat.zero_le _, Below.refl _ _⟩
  case round =>
    obtain ⟨k, o, hk, rfl, rfl, ho, hos, hb⟩ := hrel
    have HO : Hid (o.data.toList = packL (l.take k)) := ho
    clear ho
    by_cases hlt : k < n
    · obtain ⟨r, hr⟩ : ∃ r, l[k]? = some r := ⟨l[k]'(by have := HN.out; omega), List.getElem?_eq_getElem _⟩
      obtain ⟨b, off, rfl, hat⟩ := HI.out.ok hr
      obtain ⟨p1, p3⟩ := (hat.keep hb) k r hr
      obtain ⟨z1, z2⟩ := HF.out k r hr
      have HJ : Hid (packL (l.take (k + 1)) = packL (l.take k) ++ lineL r) := packL_take hr
      have x1 := cell_regrown p1
      have x3 := cell_regrown p3
      have g0 : (0 : Int) ≤ k := by omega
      have gk : (k : Int) < n := by omega
      clear hr hat HI p1 p3 HF
      obtain ⟨rn, rv⟩ := r
      simp only at x1 x3 z1 z2
      have hoz : o.size ≤ 230000 := by omega
      have HT : Hid ((o ++ rn ++ ⟨#[58, 32]⟩ ++ rv ++ ⟨#[13, 10]⟩ : ByteArray).data.toList = packL (l.take (k + 1))) := by
        show _ = _
        rw [HJ.out, line_app, HO.out]
      have zz : (⟨#[58, 32]⟩ : ByteArray).size = 2 := rfl
      have zy : (⟨#[13, 10]⟩ : ByteArray).size = 2 := rfl
      have a1 := fun w => run_string_add_sum (P := Tryz.prog) (w := w) o rn (by omega)
      have s1 : (o ++ rn).size = o.size + rn.size := ByteArray.size_append
      have a2 := fun w => run_string_add_sum (P := Tryz.prog) (w := w) (o ++ rn) ⟨#[58, 32]⟩ (by omega)
      have s2 : (o ++ rn ++ ⟨#[58, 32]⟩ : ByteArray).size = o.size + rn.size + 2 := by rw [ByteArray.size_append, s1, zz]
      have a3 := fun w => run_string_add_sum (P := Tryz.prog) (w := w) (o ++ rn ++ ⟨#[58, 32]⟩) rv (by omega)
      have s3 : (o ++ rn ++ ⟨#[58, 32]⟩ ++ rv : ByteArray).size = o.size + rn.size + 2 + rv.size := by rw [ByteArray.size_append, s2]
      have a4 := fun w => run_string_add_sum (P := Tryz.prog) (w := w) (o ++ rn ++ ⟨#[58, 32]⟩ ++ rv) ⟨#[13, 10]⟩ (by omega)
      have s4 : (o ++ rn ++ ⟨#[58, 32]⟩ ++ rv ++ ⟨#[13, 10]⟩ : ByteArray).size = o.size + rn.size + 2 + rv.size + 2 := by rw [ByteArray.size_append, s3, zy]
      have HU : Hid ((o ++ rn ++ ⟨#[58, 32]⟩ ++ rv ++ ⟨#[13, 10]⟩ : ByteArray).size ≤ (k + 1) * 2300) := by
        show _ ≤ _
        rw [s4]; omega
      clear s1 s2 s3 s4 zz zy
      clear HJ HO
      generalize (o ++ rn ++ ⟨#[58, 32]⟩ ++ rv ++ ⟨#[13, 10]⟩ : ByteArray) = q4 at *
      generalize (o ++ rn ++ ⟨#[58, 32]⟩ ++ rv : ByteArray) = q3 at *
      generalize (o ++ rn ++ ⟨#[58, 32]⟩ : ByteArray) = q2 at *
      generalize (o ++ rn : ByteArray) = q1 at *
      go_wp2_with fail
      refine wp_region_quiet_below (by kernel_rfl) (by kernel_rfl) ?_
      repeat (go_big_quiet_step (fail))
      refine wpQuiet_nil ?_
      intro w2 hw2
      have hbb : Below w.heap.size w w2 := by
        obtain ⟨⟨d, os⟩, rfl⟩ := hw2
        exact hb.trans ((below_regrown wr d os).mono hb.size)
      clear x1 x3 hw2 hb a1 a2 a3 a4
      go_wp2_with fail
      go_roundw
      case rel => exact ⟨k + 1, q4, by omega, by go_num, rfl, HT.out, HU.out, hbb⟩
      case measure => simp [intOf]; omega
    · have HT : Hid ((⟨(packL l).toArray⟩ : ByteArray) = o) := by
        show _ = _
        rw [← List.take_of_length_le (l := l) (i := k) (by have := HN.out; omega), ← HO.out]
      clear HO
      go_wp2_with fail
      go_ret
      exact ⟨ret_str HT.out.symm, hb⟩
end Go.Proofs.YtdooopkpnanekaaGreatDoor
/-
  What PackHeaders and its model answer.
-/
namespace Go.Proofs.YtdooopkpnanekaaGreatDoor
open Go.ChangeShapes Go.WideShapes Go.ChangeAt Go.RowKit Go.Sort
set_option maxRecDepth 100000 in
set_option maxHeartbeats 4000000 in
theorem implPack_ok (w : World) (a : Option Addr) (cap : Nat) (l : List Hdr) (h0 : headsC l = 0) (hset : SetIs w) (hi : HdsIn w a l) :
    Calls Tryz.prog 142 #[.slice a l.length cap] w fun e w' => e = .returned (.agg #[.int .i64 0, .string ⟨(packL l).toArray⟩]) ∧ Below w.heap.size w w' := by
  obtain ⟨h20, hfl⟩ := headsC_zero h0
  have HF : Hid (∀ W, Below w.heap.size w W → Calls Tryz.prog 98 #[.slice a l.length cap] W fun e w' => e = .returned (.int .i64 0) ∧ Below W.heap.size W w') := fun W hb => by
    have := implHFault_any W a cap l (by omega) (hset.below hb) (hi.keep hb)
    rw [h0] at this
    exact this
  have HI : Hid (HdsIn w a l) := hi
  have HZ : Hid (∀ (i : Nat) r, l[i]? = some r → r.name.size ≤ 64 ∧ r.value.size ≤ 200) := fun i r hr => by obtain ⟨x1, x2, _⟩ := faultH_zero (hfl i r hr); exact ⟨hword_max x1, x2⟩
  clear hi hset hfl h0
  generalize hn : l.length = n at *
  have HN : Hid (l.length = n) := hn
  clear hn
  go_enter Tryz.func142, Tryz.ntmps142
  go_wp2_with fail
  refine (HF.out _ ((Below.refl _ _).alloc (Nat.le_refl _) _)).mono ?_
  rintro e w1 ⟨rfl, hb1⟩
  rw [World.size_alloc] at hb1
  have HB1 : Hid (Below (w.heap.size + 1) (w.alloc (.cells #[.int .i64 0, .string ⟨#[]⟩] 177)) w1) := hb1
  clear hb1 HF
  go_wp2_with fail
  go_loopw [4, 15] (fun v i wr => ∃ (k : Nat) (o : ByteArray), k ≤ n ∧ i = .int .i64 k ∧ v = .string o ∧ o.data.toList = packL (l.take k) ∧ o.size ≤ k * 268 ∧ Below (w.heap.size + 1) (w.alloc (.cells #[.int .i64 0, .string ⟨#[]⟩] 177)) wr) (fun _ i _ => n - (intOf i).toNat)
  case atStart => exact ⟨0, ⟨#[]⟩, Nat.zero_le _, rfl, rfl, rfl, Nat.zero_le _, HB1.out⟩
  case round =>
    obtain ⟨k, o, hk, rfl, rfl, ho, hos, hb⟩ := hrel
    have HO : Hid (o.data.toList = packL (l.take k)) := ho
    have hz : w.heap.size + 1 ≤ wr.heap.size := by have := hb.size; rwa [World.size_alloc] at this
    clear ho HB1
    by_cases hlt : k < n
    · obtain ⟨r, hr⟩ : ∃ r, l[k]? = some r := ⟨l[k]'(by have := HN.out; omega), List.getElem?_eq_getElem _⟩
      obtain ⟨b, off, rfl, hat⟩ := HI.out.ok hr
      have hwr : Below w.heap.size w wr := ((Below.refl _ _).alloc (Nat.le_refl _) _).trans (hb.mono (Nat.le_succ _))
      obtain ⟨p1, p3⟩ := (hat.keep hwr) k r hr
      obtain ⟨z1, z2⟩ := HZ.out k r hr
      have HJ : Hid (packL (l.take (k + 1)) = packL (l.take k) ++ lineL r) := packL_take hr
      have gk : (k : Int) < n := by omega
      clear hr hat HI hwr HZ
      obtain ⟨rn, rv⟩ := r
      simp only at p1 p3 z1 z2
      have hoz : o.size ≤ 6000 := by omega
      have HT : Hid ((o ++ (rn ++ ⟨#[58, 32]⟩ ++ rv ++ ⟨#[13, 10]⟩) : ByteArray).data.toList = packL (l.take (k + 1))) := by
        show _ = _
        rw [HJ.out, line_app2, HO.out]
      have HU : Hid ((o ++ (rn ++ ⟨#[58, 32]⟩ ++ rv ++ ⟨#[13, 10]⟩) : ByteArray).size ≤ (k + 1) * 268) := by
        show _ ≤ _
        simp only [ByteArray.size_append, show (⟨#[58, 32]⟩ : ByteArray).size = 2 from rfl, show (⟨#[13, 10]⟩ : ByteArray).size = 2 from rfl]
        omega
      clear HJ HO
      go_wp2_with fail
      go_roundw
      case rel => exact ⟨k + 1, o ++ (rn ++ ⟨#[58, 32]⟩ ++ rv ++ ⟨#[13, 10]⟩), by omega, by go_num, rfl, HT.out, HU.out, hb.alloc hz _⟩
      case measure => simp [intOf]; omega
    · have HT : Hid ((⟨(packL l).toArray⟩ : ByteArray) = o) := by
        show _ = _
        rw [← List.take_of_length_le (l := l) (i := k) (by have := HN.out; omega), ← HO.out]
      obtain ⟨hz2, q0, q1, f0, f1, kb⟩ := text_room hb
      obtain ⟨r0, r1⟩ := two_set (v0 := .int .i64 0) (v1 := .string o) q0 q1
      clear HO hb
      go_wp2_with fail
      exact bodyPost_ret (v := .agg #[.int .i64 0, .string o]) (by simp [results, Tryz.results142, go_sem, r0, r1]) rfl ⟨by rw [HT.out], (kb.setCell (Nat.le_refl _) _).setCell (Nat.le_refl _) _⟩
set_option maxHeartbeats 1000000 in
theorem implPack_any (w : World) (a : Option Addr) (cap : Nat) (l : List Hdr) (hl : l.length ≤ 1048576) (hset : SetIs w) (hi : HdsIn w a l) :
    Calls Tryz.prog 142 #[.slice a l.length cap] w fun e w' => e = .returned (.agg #[.int .i64 (headsC l), .string (packT l)]) ∧ Below w.heap.size w w' := by
  by_cases h0 : headsC l = 0
  · rw [packT_ok h0, h0]
    exact implPack_ok w a cap l h0 hset hi
  · have HF : Hid (∀ W, Below w.heap.size w W → Calls Tryz.prog 98 #[.slice a l.length cap] W fun e w' => e = .returned (.int .i64 (headsC l)) ∧ Below W.heap.size W w') := fun W hb => implHFault_any W a cap l hl (hset.below hb) (hi.keep hb)
    rw [packT_bad h0]
    clear hi hset
    generalize headsC l = fc at *
    generalize l.length = n at *
    go_enter Tryz.func142, Tryz.ntmps142
    go_wp2_with fail
    refine (HF.out _ ((Below.refl _ _).alloc (Nat.le_refl _) _)).mono ?_
    rintro e w1 ⟨rfl, hb1⟩
    rw [World.size_alloc] at hb1
    obtain ⟨hz2, q0, q1, f0, f1, kb⟩ := text_room hb1
    obtain ⟨r0, r1⟩ := two_set (v0 := .int .i64 fc) (v1 := .string ⟨#[]⟩) q0 q1
    clear hb1 HF
    go_wp2_with fail
    exact bodyPost_ret (v := .agg #[.int .i64 fc, .string ⟨#[]⟩]) (by simp [results, Tryz.results142, go_sem, r0, r1]) rfl ⟨rfl, (kb.setCell (Nat.le_refl _) _).setCell (Nat.le_refl _) _⟩
end Go.Proofs.YtdooopkpnanekaaGreatDoor
/-
  What firstPlaces and linesNamed answer.
-/
namespace Go.Proofs.YtdooopkpnanekaaGreatDoor
open Go.ChangeShapes Go.WideShapes Go.ChangeAt Go.RowKit Go.Sort
theorem firstAt_known {l : List Hdr} {r : Hdr} {j : Nat} (h : firstAt (lowS r.name) l = some j) (x : ByteArray) : firstAt x l = firstAt x (l ++ [r]) := by
  rw [firstAt_snoc]
  cases c : firstAt x l with
  | some i => rfl
  | none =>
    by_cases e : lowS r.name = x
    · subst e; rw [h] at c; cases c
    · simp only [if_neg e]
theorem firstAt_new {l : List Hdr} {r : Hdr} (h : firstAt (lowS r.name) l = none) (x : ByteArray) : (if x = lowS r.name then some l.length else firstAt x l) = firstAt x (l ++ [r]) := by
  rw [firstAt_snoc]
  by_cases e : x = lowS r.name
  · subst e
    rw [if_pos rfl, h]
    simp
  · rw [if_neg e]
    cases c : firstAt x l with
    | some i => rfl
    | none => simp only [if_neg (fun q => e (Eq.symm q))]
/-- What is left of the lines: those whose names the map has. -/
def keptH (p : ByteArray → Option Nat) (l : List Hdr) : List Hdr := l.filter fun r => (p (lowS r.name)).isSome
theorem keptH_yes {p : ByteArray → Option Nat} {r : Hdr} {i : Nat} (l : List Hdr) (h : p (lowS r.name) = some i) : keptH p (l ++ [r]) = keptH p l ++ [r] := by simp [keptH, h]
theorem keptH_no {p : ByteArray → Option Nat} {r : Hdr} (l : List Hdr) (h : p (lowS r.name) = none) : keptH p (l ++ [r]) = keptH p l := by simp [keptH, h]
theorem keptH_len (p : ByteArray → Option Nat) (l : List Hdr) : (keptH p l).length ≤ l.length := List.length_filter_le _ _
def KeptRes (base : Nat) (L : List Hdr) (e : Ending) (w : World) : Prop := ∃ v, e = .returned v ∧ OwnH w base v L
theorem KeptRes.mk {base : Nat} {L M : List Hdr} {w : World} {v : Value} (h : M = L) (ho : OwnH w base v L) : KeptRes base M (.returned v) w := ⟨v, rfl, h ▸ ho⟩
end Go.Proofs.YtdooopkpnanekaaGreatDoor
/-
  What DropHeader and its model answer.
-/
namespace Go.Proofs.YtdooopkpnanekaaGreatDoor
open Go.ChangeShapes Go.WideShapes Go.ChangeAt Go.RowKit Go.Sort
/-- A result: a code and head lines in memory of the call's own. -/
def HRes (c : Int) (L : List Hdr) (base : Nat) (e : Ending) (w : World) : Prop := ∃ v, e = .returned (.agg #[.int .i64 c, v]) ∧ OwnH w base v L
theorem HRes.mk {c d : Int} {L M : List Hdr} {base : Nat} {w : World} {v : Value} (h : c = d ∧ L = M) (ho : OwnH w base v M) : HRes c L base (.returned (.agg #[.int .i64 d, v])) w := ⟨v, by rw [h.1], by rw [h.2]; exact ho⟩
theorem ownH_set {w : World} {base b o : Nat} {v u : Value} {l : List Hdr} (h : OwnH w base v l) (hb : b < base) : OwnH (w.setCell ⟨b, o, none⟩ u) base v l := by
  obtain ⟨h1, h2⟩ := h
  refine ⟨h1, ?_⟩
  rcases h2 with h2 | ⟨g, c, cur, e, hg, hh, hrest⟩
  · exact .inl h2
  · exact .inr ⟨g, c, cur, e, hg, by rw [RowKit.Below.heap_setCell _ _ _ _ (by show g ≠ b; omega)]; exact hh, hrest⟩
theorem dropL_bad {l : List Hdr} {name : ByteArray} (h : askC l name ≠ 0) : dropL l name = [] := by unfold dropL; rw [if_neg h]
theorem dropL_ok {l : List Hdr} {name : ByteArray} (h : askC l name = 0) : dropL l name = dropH (lowS name) l := by unfold dropL; rw [if_pos h]
theorem dropL_len (l : List Hdr) (name : ByteArray) : (dropL l name).length ≤ 20 := by
  by_cases h : askC l name = 0
  · rw [dropL_ok h]
    have := (headsC_zero (askC_zero h).1).1
    exact Nat.le_trans (dropH_len _ _) this
  · rw [dropL_bad h]; simp
theorem asked {l : List Hdr} {name : ByteArray} (h : askC l name = 0) : l.length ≤ 20 ∧ (∀ (i : Nat) r, l[i]? = some r → r.name.size ≤ 64 ∧ r.value.size ≤ 200) ∧ name.size ≤ 64 := by
  obtain ⟨h0, hw⟩ := askC_zero h
  obtain ⟨h20, hf⟩ := headsC_zero h0
  exact ⟨h20, fun i r hr => by obtain ⟨x1, x2, _⟩ := faultH_zero (hf i r hr); exact ⟨hword_max x1, x2⟩, hword_max hw⟩
theorem keptH_drop (x : ByteArray) (l : List Hdr) : keptH (fun y => if y = x then none else firstAt y l) l = dropH x l := by
  unfold keptH dropH
  refine List.filter_congr fun r hr => ?_
  by_cases e : lowS r.name = x
  · simp [e]
  · simp only [e, not_false_eq_true, decide_true]
    cases c : firstAt (lowS r.name) l with
    | some i => rfl
    | none => exact absurd rfl (firstAt_none c r hr)
end Go.Proofs.YtdooopkpnanekaaGreatDoor
/-
  Results of head lines: compared, marked, held.
-/
namespace Go.Proofs.YtdooopkpnanekaaGreatDoor
open Go.ChangeShapes Go.WideShapes Go.ChangeAt Go.RowKit Go.Sort
/-- A result in a variable. -/
structure HHRoom (w : World) (b : Nat) (c : Int) (v : Value) : Prop where
  c0 : w.cell? ⟨b, 0, none⟩ = some (.int .i64 c)
  c1 : w.cell? ⟨b, 1, none⟩ = some v
theorem HHRoom.lt {w : World} {b : Nat} {c : Int} {v : Value} (h : HHRoom w b c v) : b < w.heap.size := block_lt_of_cell h.c0
theorem HHRoom.keep {w w' : World} {b : Nat} {c : Int} {v : Value} (h : HHRoom w b c v) (hb : Below w.heap.size w w') : HHRoom w' b c v :=
  ⟨by rw [hb.cell (p := ⟨b, 0, none⟩) h.lt, h.c0], by rw [hb.cell (p := ⟨b, 1, none⟩) h.lt, h.c1]⟩
theorem HHRoom.av {w w' : World} {b : Nat} {c : Int} {v u : Value} (h : HHRoom w b c v) (k : HAV u w w') (hn : u.ownBlock ≠ some b) : HHRoom w' b c v :=
  ⟨by rw [k.cell b 0 h.lt hn, h.c0], by rw [k.cell b 1 h.lt hn, h.c1]⟩
theorem hroom_new (w : World) (c : Int) (a : Option Addr) (n cap : Nat) (t : TypeId) : HHRoom (w.alloc (.cells #[.int .i64 c, .slice a n cap] t)) w.heap.size c (.slice a n cap) := ⟨by simp, by simp⟩
theorem HLV.block_lt {w : World} {v : Value} {l : List Hdr} (h : HLV w v l) : ∀ b, v.ownBlock = some b → b < w.heap.size := by
  rcases h with ⟨rfl, _⟩ | ⟨g, c, rfl, hg, _⟩
  · intro b hb; cases hb
  · intro b hb; simp only [Value.ownBlock, Option.some.injEq] at hb; omega
/-- What a call hands back: head lines in memory of its own. -/
structure HGot (L : List Hdr) (base : Nat) (a : Option Addr) (n cap : Nat) (w : World) : Prop where
  len : n = L.length
  lv : HLV w (.slice a n cap) L
  ge : ∀ b, (Value.slice a n cap).ownBlock = some b → base ≤ b
theorem HRes.got {c : Int} {L : List Hdr} {base : Nat} {e : Ending} {w : World} (h : HRes c L base e w) : ∃ a n cap, e = .returned (.agg #[.int .i64 c, .slice a n cap]) ∧ HGot L base a n cap w := by
  obtain ⟨v, rfl, ho⟩ := h
  obtain ⟨a, c, rfl, _⟩ := ho.at
  exact ⟨a, _, c, rfl, rfl, ho.lv.1, ho.lv.2⟩
structure HMarkedR (w : World) (base : Nat) (a : Option Addr) (n ca : Nat) (w' : World) : Prop where
  lv : HLV w' (.slice a n ca) (mkHL 1 n)
  av : HAV (.slice a n ca) w w'
  low : Below base w w'
/-- Two results in variables, and their lines. -/
structure HKK (w : World) (X1 X2 : Nat) (c : Int) (v1 v2 : Value) (L1 L2 : List Hdr) (W : World) : Prop where
  b : Below w.heap.size w W
  r1 : HHRoom W X1 c v1
  r2 : HHRoom W X2 c v2
  l1 : HLV W v1 L1
  l2 : HLV W v2 L2
theorem HKK.keep {w : World} {X1 X2 : Nat} {c : Int} {v1 v2 : Value} {L1 L2 : List Hdr} {W W' : World} (h : HKK w X1 X2 c v1 v2 L1 L2 W) (hb : Below W.heap.size W W') : HKK w X1 X2 c v1 v2 L1 L2 W' :=
  ⟨h.b.trans (hb.mono h.b.size), h.r1.keep hb, h.r2.keep hb, h.l1.below hb, h.l2.below hb⟩
theorem HKK.av {w : World} {X1 X2 : Nat} {c : Int} {v1 v2 u : Value} {L1 L2 : List Hdr} {W W' : World} (h : HKK w X1 X2 c v1 v2 L1 L2 W) (k : HAV u W W') (hb : Below w.heap.size W W') (h1 : u.ownBlock ≠ some X1) (h2 : u.ownBlock ≠ some X2) (h3 : ∀ b, v1.ownBlock = some b → u.ownBlock ≠ some b) (h4 : ∀ b, v2.ownBlock = some b → u.ownBlock ≠ some b) : HKK w X1 X2 c v1 v2 L1 L2 W' :=
  ⟨h.b.trans hb, h.r1.av k h1, h.r2.av k h2, h.l1.av k h3, h.l2.av k h4⟩
/-- Lines of the law's own, that may be written. -/
structure HMine (W : World) (B : Nat) (l : List Hdr) : Prop where
  at0 : HeadsAt W B 0 l
  free : ∀ o, W.frozen? ⟨B, o, none⟩ = false
  lt : B < W.heap.size
theorem HMine.keep {W W' : World} {B : Nat} {l : List Hdr} (h : HMine W B l) (hb : Below W.heap.size W W') : HMine W' B l :=
  ⟨h.at0.keep hb, fun o => by rw [hb.frozen (p := ⟨B, o, none⟩) h.lt]; exact h.free o, Nat.lt_of_lt_of_le h.lt hb.size⟩
theorem HMine.mark {W : World} {B base : Nat} {l : List Hdr} (h : HMine W B l) (hl : l.length ≤ 1048576) (hb : base ≤ B) : ∃ q : Int, ¬ q < 0 ∧ Calls Tryz.prog 78 #[.slice (some ⟨B, 0, none⟩) l.length l.length, .int .i64 1] W fun e w' => e = .returned (.int .i64 q) ∧ HAV (.slice (some ⟨B, 0, none⟩) l.length l.length) W w' ∧ Below base W w' :=
  ⟨((1 + 2 * l.length : Nat) : Int), by omega, (markHeaderS_lv W (.slice (some ⟨B, 0, none⟩) l.length l.length) l hl (.inr ⟨B, _, rfl, h.lt, h.at0, h.free⟩) base (fun q hq => by simp only [Value.ownBlock, Option.some.injEq] at hq; omega) (by have := h.lt; omega)).mono fun _ _ ⟨h1, _, h3, h4⟩ => ⟨h1, h3, h4⟩⟩
end Go.Proofs.YtdooopkpnanekaaGreatDoor
/-
  Rows of texts as a value: compared, marked, held.
-/
namespace Go.Proofs.YtdooopkpnanekaaGreatDoor
open Go.ChangeShapes Go.WideShapes Go.ChangeAt Go.RowKit Go.Sort
def mkTL (k n : Nat) : List ByteArray := (List.range n).map fun j => mkT (k + j)
theorem mkTL_len (k n : Nat) : (mkTL k n).length = n := by simp [mkTL]
theorem mkTL_get {k n i : Nat} (h : i < n) : (mkTL k n)[i]? = some (mkT (k + i)) := by simp [mkTL, h]
theorem tput {w : World} {g off i : Nat} {L : List ByteArray} {r : ByteArray} (h : TAt w g off L) (hr : L[i]? = some r) (n : ByteArray) : TAt (w.setCell ⟨g, off + i, none⟩ (.string n)) g off (L.set i n) := by
  intro j q hq
  by_cases e : j = i
  · subst e
    have hl := (List.getElem?_eq_some_iff.1 hr).1
    rw [List.getElem?_set_self hl] at hq
    obtain rfl := Option.some.inj hq
    exact hcell_set_same (h j r hr)
  · rw [List.getElem?_set_ne (fun k => e k.symm)] at hq
    rw [hcell_set_off (by omega)]
    exact h j q hq
/-- The state of the marking loop: j texts are marked. -/
structure TMarked (w : World) (g off : Nat) (k n j : Nat) (L : List ByteArray) (W : World) : Prop where
  len : L.length = n
  done : ∀ i, i < j → L[i]? = some (mkT (k + i))
  items : TAt W g off L
  thaw : ∀ o, W.frozen? ⟨g, o, none⟩ = false
  apart : Apart g w W
  low : Below g w W
  lt : g < W.heap.size
theorem TMarked.below {w : World} {g off k n j : Nat} {L : List ByteArray} {W W' : World} (h : TMarked w g off k n j L W) (hb : Below W.heap.size W W') : TMarked w g off k n j L W' :=
  ⟨h.len, h.done, h.items.keep hb, fun o => by rw [hb.frozen (p := ⟨g, o, none⟩) h.lt, h.thaw], h.apart.trans (.below hb), h.low.trans (hb.mono (Nat.le_of_lt h.lt)), Nat.lt_of_lt_of_le h.lt hb.size⟩
theorem TMarked.set {w : World} {g off k n j : Nat} {L : List ByteArray} {W : World} {r : ByteArray} (h : TMarked w g off k n j L W) (hr : L[j]? = some r) : TMarked w g off k n (j + 1) (L.set j (mkT (k + j))) (W.setCell ⟨g, off + j, none⟩ (.string (mkT (k + j)))) := by
  refine ⟨by rw [List.length_set]; exact h.len, fun i hi => ?_, tput h.items hr _, fun o => by rw [World.frozen?_setCell, h.thaw], h.apart.trans (.set _ _ _ _), h.low.setCell (Nat.le_refl _) _, by simpa using h.lt⟩
  by_cases e : i = j
  · subst e; exact List.getElem?_set_self (List.getElem?_eq_some_iff.1 hr).1
  · rw [List.getElem?_set_ne (fun k => e k.symm)]; exact h.done i (by omega)
set_option maxRecDepth 100000 in
set_option maxHeartbeats 4000000 in
theorem markStringS_any (w : World) (g off cap n k : Nat) (l : List ByteArray) (hn : l.length = n) (hn2 : n ≤ 1048576) (hk0 : 1 ≤ k) (hk1 : k ≤ 100000000000000) (hi : TAt w g off l) (hf : ∀ o, w.frozen? ⟨g, o, none⟩ = false) (hg : g < w.heap.size) :
    Calls Tryz.prog 80 #[.slice (some ⟨g, off, none⟩) n cap, .int .i64 (k : Int)] w fun e w' => e = .returned (.int .i64 ((k + n : Nat) : Int)) ∧ TAt w' g off (mkTL k n) ∧ Apart g w w' ∧ Below g w w' ∧ ∀ o, w'.frozen? ⟨g, o, none⟩ = false := by
  have HST : Hid (TMarked w g off k n 0 l w) := ⟨hn, fun i h => by omega, hi, hf, .refl _ _, Below.refl _ _, hg⟩
  clear hi hf hg hn
  go_enter Tryz.func80, Tryz.ntmps80
  go_wp2_with fail
  go_loopw [1, 5] (fun x i wr => ∃ (j : Nat) (L : List ByteArray), j ≤ n ∧ i = .int .i64 (j : Int) ∧ x = .int .i64 ((k + j : Nat) : Int) ∧ TMarked w g off k n j L wr) (fun _ i _ => n - (intOf i).toNat)
  case atStart => exact ⟨0, l, Nat.zero_le _, rfl, rfl, HST.out⟩
  case round =>
    obtain ⟨j, L, hj, rfl, rfl, hm⟩ := hrel
    have HM : Hid (TMarked w g off k n j L wr) := hm
    clear hm HST
    by_cases hlt : j < n
    · obtain ⟨r, hr⟩ : ∃ r, L[j]? = some r := ⟨L[j]'(by have := HM.out.len; omega), List.getElem?_eq_getElem _⟩
      have HR : Hid (L[j]? = some r) := hr
      clear hr
      have g0 : (0 : Int) ≤ j := by omega
      have g1 : (j : Int) < n := by omega
      have HT1 : Hid (∀ w, Calls Tryz.prog 126 #[.int .i64 ((k + j : Nat) : Int)] w fun e w' => e = .returned (.string (mkT (k + j))) ∧ Below w.heap.size w w') := markText_any (k + j) (by omega) (by omega)
      go_wp2_with fail
      refine (HT1.out _).mono ?_
      rintro e w1 ⟨rfl, hb1⟩
      have HM1 : Hid (TMarked w g off k n j L w1) := HM.out.below hb1
      clear hb1 HM
      have p1 := HM1.out.items j r HR.out
      have f1 := HM1.out.thaw (off + j)
      have HM7 : Hid (TMarked w g off k n (j + 1) (L.set j (mkT (k + j))) (w1.setCell ⟨g, off + j, none⟩ (.string (mkT (k + j))))) := HM1.out.set HR.out
      clear HM1
      go_wp2_with fail
      go_roundw
      case rel => exact ⟨j + 1, _, by omega, by go_num, by congr 1, HM7.out⟩
      case measure => simp [intOf]; omega
    · obtain rfl : j = n := by omega
      have HX : Hid (TAt wr g off (mkTL k j)) := by
        have e : L = mkTL k j := by
          apply List.ext_getElem?
          intro i
          by_cases hi : i < j
          · rw [HM.out.done i hi, mkTL_get hi]
          · rw [List.getElem?_eq_none (by have := HM.out.len; omega), List.getElem?_eq_none (by rw [mkTL_len]; omega)]
        show TAt _ _ _ _
        rw [← e]
        exact HM.out.items
      go_wp2_with fail
      go_ret
      exact ⟨rfl, HX.out, HM.out.apart, HM.out.low, HM.out.thaw⟩
set_option maxRecDepth 100000 in
set_option maxHeartbeats 4000000 in
theorem heldStringS_any (w : World) (g off cap n k : Nat) (hn2 : n ≤ 1048576) (hk0 : 1 ≤ k) (hk1 : k ≤ 100000000000000) (hi : TAt w g off (mkTL k n)) :
    Calls Tryz.prog 81 #[.slice (some ⟨g, off, none⟩) n cap, .int .i64 (k : Int)] w fun e w' => e = .returned (.int .i64 ((k + n : Nat) : Int)) ∧ Below w.heap.size w w' := by
  have HI : Hid (TAt w g off (mkTL k n)) := hi
  clear hi
  go_enter Tryz.func81, Tryz.ntmps81
  go_wp2_with fail
  go_loopw [1, 5] (fun x i wr => ∃ (j : Nat), j ≤ n ∧ i = .int .i64 (j : Int) ∧ x = .int .i64 ((k + j : Nat) : Int) ∧ Below w.heap.size w wr) (fun _ i _ => n - (intOf i).toNat)
  case atStart => exact ⟨0, Nat.zero_le _, rfl, rfl, Below.refl _ _⟩
  case round =>
    obtain ⟨j, hj, rfl, rfl, hb⟩ := hrel
    have KB : Hid (Below w.heap.size w wr) := hb
    clear hb
    by_cases hlt : j < n
    · have q1 := (HI.out.keep KB.out) j _ (mkTL_get hlt)
      have g0 : (0 : Int) ≤ j := by omega
      have g1 : (j : Int) < n := by omega
      have HT1 : Hid (∀ w, Calls Tryz.prog 126 #[.int .i64 ((k : Int) + j)] w fun e w' => e = .returned (.string (mkT (k + j))) ∧ Below w.heap.size w w') := by
        have := markText_any (k + j) (by omega) (by omega)
        rw [show ((k + j : Nat) : Int) = (k : Int) + j by omega] at this
        exact this
      generalize mkT (k + j) = t1 at *
      have x1 := cell_regrown q1
      clear q1
      have cE : ∀ d os, Calls Tryz.prog 126 #[.int .i64 ((k : Int) + j)] (grow (redrawn wr d) os) fun e w'' => e = .returned (.string t1) ∧ ∃ p : Regrown, w'' = grow (redrawn wr p.d) p.os := fun d os => Calls.regrown_of (HT1.out _)
      go_wp2_with fail
      refine wp_region_quiet_below (by kernel_rfl) (by kernel_rfl) ?_
      repeat (go_big_quiet_step ((go_at_call 126; exact cE _ _)))
      refine wpQuiet_nil ?_
      intro w3 hw3
      have KB3 : Hid (Below w.heap.size w w3) := by
        obtain ⟨⟨d, os⟩, rfl⟩ := hw3
        exact KB.out.trans ((below_regrown wr d os).mono KB.out.size)
      clear x1 cE hw3 KB
      go_wp2_with fail
      go_roundw
      case rel => exact ⟨j + 1, by omega, by go_num, by congr 1, KB3.out⟩
      case measure => simp [intOf]; omega
    · obtain rfl : j = n := by omega
      go_wp2_with fail
      go_ret
      exact ⟨rfl, KB.out⟩
def TLV (w : World) (v : Value) (l : List ByteArray) : Prop :=
  (v = .slice none 0 0 ∧ l = []) ∨ ∃ g cap, v = .slice (some ⟨g, 0, none⟩) l.length cap ∧ g < w.heap.size ∧ TAt w g 0 l ∧ ∀ o, w.frozen? ⟨g, o, none⟩ = false
theorem OwnS.lv {w : World} {base : Nat} {v : Value} {l : List ByteArray} (h : OwnS w base v l) : TLV w v l ∧ ∀ b, v.ownBlock = some b → base ≤ b := by
  have h0 := h
  obtain ⟨_, h1 | ⟨g, c, cur, rfl, hg, hh, _⟩⟩ := h
  · have e : l = [] := List.eq_nil_of_length_eq_zero h1.2
    exact ⟨.inl ⟨h1.1, e⟩, fun b hb => by rw [h1.1] at hb; cases hb⟩
  · refine ⟨.inr ⟨g, c, rfl, (Array.getElem?_eq_some_iff.1 hh).1, fun i x hx => ?_, fun o => ?_⟩, fun b hb => ?_⟩
    · have hk := (List.getElem?_eq_some_iff.1 hx).1
      have := World.ownsRow.cellAt h0 i (by omega)
      rw [Nat.zero_add, this]
      simp [textsW, hx]
    · simp [World.frozen?, hh]
    · simp only [Value.ownBlock, Option.some.injEq] at hb; omega
theorem TLV.below {w w' : World} {v : Value} {l : List ByteArray} (h : TLV w v l) (hb : Below w.heap.size w w') : TLV w' v l := by
  rcases h with h | ⟨g, c, e, hg, hi, hf⟩
  · exact .inl h
  · exact .inr ⟨g, c, e, Nat.lt_of_lt_of_le hg hb.size, hi.keep hb, fun o => by rw [hb.frozen (p := ⟨g, o, none⟩) hg, hf]⟩
theorem TLV.av {w w' : World} {v v1 : Value} {l : List ByteArray} (h : TLV w v1 l) (k : HAV v w w') (hne : ∀ b, v1.ownBlock = some b → v.ownBlock ≠ some b) : TLV w' v1 l := by
  rcases h with h | ⟨g, c, rfl, hg, hi, hf⟩
  · exact .inl h
  · have hn := hne g rfl
    exact .inr ⟨g, c, rfl, Nat.lt_of_lt_of_le hg k.size, fun i r hr => by rw [k.cell g _ hg hn]; exact hi i r hr, fun o => by rw [k.frozen g o hg hn, hf]⟩
theorem TLV.tin {w : World} {v : Value} {l : List ByteArray} (h : TLV w v l) : ∃ a c, v = .slice a l.length c ∧ TIn w a l := by
  rcases h with ⟨rfl, rfl⟩ | ⟨g, c, rfl, _, hi, _⟩
  · exact ⟨none, 0, rfl, .inl rfl⟩
  · exact ⟨_, c, rfl, .inr ⟨g, 0, rfl, hi⟩⟩
theorem eqStringS_lv (w : World) (v1 v2 : Value) (l : List ByteArray) (hl : l.length ≤ 1048576) (h1 : TLV w v1 l) (h2 : TLV w v2 l) :
    Calls Tryz.prog 74 #[v1, v2] w fun e w' => e = .returned (.bool true) ∧ Below w.heap.size w w' := by
  obtain ⟨a1, c1, rfl, t1⟩ := h1.tin
  obtain ⟨a2, c2, rfl, t2⟩ := h2.tin
  exact eqStringS_same w a1 a2 c1 c2 l hl t1 t2
set_option maxHeartbeats 1000000 in
theorem markStringS_nil (w : World) (a : Option Addr) (c k : Nat) :
    Calls Tryz.prog 80 #[.slice a 0 c, .int .i64 (k : Int)] w fun e w' => e = .returned (.int .i64 (k : Int)) ∧ Below w.heap.size w w' := by
  go_enter Tryz.func80, Tryz.ntmps80
  go_wp2_with fail
  go_loop [1, 5] (fun x i => x = .int .i64 (k : Int) ∧ i = .int .i64 0) (fun _ _ => 0)
  case atStart => exact ⟨rfl, rfl⟩
  case round =>
    obtain ⟨rfl, rfl⟩ := hrel
    go_wp2_with fail
    go_ret
    exact ⟨rfl, Below.refl _ _⟩
set_option maxHeartbeats 1000000 in
theorem heldStringS_nil (w : World) (a : Option Addr) (c k : Nat) :
    Calls Tryz.prog 81 #[.slice a 0 c, .int .i64 (k : Int)] w fun e w' => e = .returned (.int .i64 (k : Int)) ∧ Below w.heap.size w w' := by
  go_enter Tryz.func81, Tryz.ntmps81
  go_wp2_with fail
  go_loop [1, 5] (fun x i => x = .int .i64 (k : Int) ∧ i = .int .i64 0) (fun _ _ => 0)
  case atStart => exact ⟨rfl, rfl⟩
  case round =>
    obtain ⟨rfl, rfl⟩ := hrel
    go_wp2_with fail
    go_ret
    exact ⟨rfl, Below.refl _ _⟩
theorem markStringS_lv (w : World) (v : Value) (l : List ByteArray) (hl : l.length ≤ 1048576) (h : TLV w v l) (base : Nat) (hb : ∀ b, v.ownBlock = some b → base ≤ b) (hbs : base ≤ w.heap.size) :
    Calls Tryz.prog 80 #[v, .int .i64 1] w fun e w' => e = .returned (.int .i64 ((1 + l.length : Nat) : Int)) ∧ TLV w' v (mkTL 1 l.length) ∧ HAV v w w' ∧ Below base w w' := by
  rcases h with ⟨rfl, rfl⟩ | ⟨g, c, rfl, hg, hi, hf⟩
  · exact (markStringS_nil w none 0 1).mono fun _ _ ⟨h1, h2⟩ => ⟨h1, .inl ⟨rfl, rfl⟩, .below h2, h2.mono hbs⟩
  · refine (markStringS_any w g 0 c l.length 1 l rfl hl (by omega) (by omega) hi hf hg).mono ?_
    rintro e w' ⟨h1, h2, h3, h4, h5⟩
    have hne : ∀ b, (Value.slice (some ⟨g, 0, none⟩) l.length c).ownBlock ≠ some b → b ≠ g := fun b hb e => hb (by subst e; rfl)
    refine ⟨h1, ?_, ⟨h3.size, fun b o hb hn => h3.cell b o hb (hne b hn), fun b o hb hn => h3.frozen b o hb (hne b hn)⟩, h4.mono (hb g rfl)⟩
    exact .inr ⟨g, c, by rw [mkTL_len], Nat.lt_of_lt_of_le hg h3.size, h2, h5⟩
theorem heldStringS_lv (w : World) (v : Value) (n : Nat) (hl : n ≤ 1048576) (h : TLV w v (mkTL 1 n)) :
    Calls Tryz.prog 81 #[v, .int .i64 1] w fun e w' => e = .returned (.int .i64 ((1 + n : Nat) : Int)) ∧ Below w.heap.size w w' := by
  rcases h with ⟨rfl, h0⟩ | ⟨g, c, rfl, _, hi, _⟩
  · have e := congrArg List.length h0
    rw [mkTL_len] at e
    simp at e
    subst e
    exact heldStringS_nil w none 0 1
  · rw [mkTL_len]
    exact heldStringS_any w g 0 c n 1 hl (by omega) (by omega) hi
theorem TLV.block_lt {w : World} {v : Value} {l : List ByteArray} (h : TLV w v l) : ∀ b, v.ownBlock = some b → b < w.heap.size := by
  rcases h with ⟨rfl, _⟩ | ⟨g, c, rfl, hg, _⟩
  · intro b hb; cases hb
  · intro b hb; simp only [Value.ownBlock, Option.some.injEq] at hb; omega
/-- What a call hands back: texts in memory of its own. -/
structure TGot (L : List ByteArray) (base : Nat) (a : Option Addr) (n cap : Nat) (w : World) : Prop where
  len : n = L.length
  lv : TLV w (.slice a n cap) L
  ge : ∀ b, (Value.slice a n cap).ownBlock = some b → base ≤ b
def TRes (c : Int) (L : List ByteArray) (base : Nat) (e : Ending) (w : World) : Prop := ∃ v, e = .returned (.agg #[.int .i64 c, v]) ∧ OwnS w base v L
theorem TRes.got {c : Int} {L : List ByteArray} {base : Nat} {e : Ending} {w : World} (h : TRes c L base e w) : ∃ a n cap, e = .returned (.agg #[.int .i64 c, .slice a n cap]) ∧ TGot L base a n cap w := by
  obtain ⟨v, rfl, ho⟩ := h
  obtain ⟨a, c, rfl, _⟩ := ho.lv.1.tin
  exact ⟨a, _, c, rfl, rfl, ho.lv.1, ho.lv.2⟩
structure TMarkedR (w : World) (base : Nat) (a : Option Addr) (n ca : Nat) (w' : World) : Prop where
  lv : TLV w' (.slice a n ca) (mkTL 1 n)
  av : HAV (.slice a n ca) w w'
  low : Below base w w'
/-- Two results in variables, and their lines. -/
structure TKK (w : World) (X1 X2 : Nat) (c : Int) (v1 v2 : Value) (L1 L2 : List ByteArray) (W : World) : Prop where
  b : Below w.heap.size w W
  r1 : HHRoom W X1 c v1
  r2 : HHRoom W X2 c v2
  l1 : TLV W v1 L1
  l2 : TLV W v2 L2
theorem TKK.keep {w : World} {X1 X2 : Nat} {c : Int} {v1 v2 : Value} {L1 L2 : List ByteArray} {W W' : World} (h : TKK w X1 X2 c v1 v2 L1 L2 W) (hb : Below W.heap.size W W') : TKK w X1 X2 c v1 v2 L1 L2 W' :=
  ⟨h.b.trans (hb.mono h.b.size), h.r1.keep hb, h.r2.keep hb, h.l1.below hb, h.l2.below hb⟩
theorem TKK.av {w : World} {X1 X2 : Nat} {c : Int} {v1 v2 u : Value} {L1 L2 : List ByteArray} {W W' : World} (h : TKK w X1 X2 c v1 v2 L1 L2 W) (k : HAV u W W') (hb : Below w.heap.size W W') (h1 : u.ownBlock ≠ some X1) (h2 : u.ownBlock ≠ some X2) (h3 : ∀ b, v1.ownBlock = some b → u.ownBlock ≠ some b) (h4 : ∀ b, v2.ownBlock = some b → u.ownBlock ≠ some b) : TKK w X1 X2 c v1 v2 L1 L2 W' :=
  ⟨h.b.trans hb, h.r1.av k h1, h.r2.av k h2, h.l1.av k h3, h.l2.av k h4⟩
end Go.Proofs.YtdooopkpnanekaaGreatDoor
/-
  Results that hold bytes: owned, compared, marked, held.
-/
namespace Go.Proofs.YtdooopkpnanekaaGreatDoor
open Go.ChangeShapes Go.WideShapes Go.ChangeAt Go.RowKit
structure Two (W : World) (B : Nat) (v0 v1 : Value) : Prop where
  c0 : W.cell? ⟨B, 0, none⟩ = some v0
  c1 : W.cell? ⟨B, 1, none⟩ = some v1
  fr : ∀ o, W.frozen? ⟨B, o, none⟩ = false
  lt : B < W.heap.size
theorem Two.keep {W W' : World} {B : Nat} {v0 v1 : Value} (h : Two W B v0 v1) (hb : Below W.heap.size W W') : Two W' B v0 v1 :=
  ⟨by rw [hb.cell (p := ⟨B, 0, none⟩) h.lt]; exact h.c0, by rw [hb.cell (p := ⟨B, 1, none⟩) h.lt]; exact h.c1, fun o => by rw [hb.frozen (p := ⟨B, o, none⟩) h.lt]; exact h.fr o, Nat.lt_of_lt_of_le h.lt hb.size⟩
theorem Two.new (W : World) (v0 v1 : Value) (t : TypeId) : Two (W.alloc (.cells #[v0, v1] t)) W.heap.size v0 v1 :=
  ⟨by rw [World.cell?_alloc_mark]; rfl, by rw [World.cell?_alloc_mark]; rfl, fun o => by have e := heap_alloc_new W (.cells #[v0, v1] t); unfold World.frozen?; rw [e]; simp, by simp⟩
/-- v holds the bytes l in a row of its own, from block base on; or it is nil and there are none. -/
def BOwn (w : World) (base : Nat) (v : Value) (l : List UInt8) : Prop := (v = .slice none 0 0 ∧ l = []) ∨ ∃ g k, v = .slice (some ⟨g, 0, none⟩) l.length k ∧ base ≤ g ∧ BMine w g l
theorem BOwn.keep {w w' : World} {base : Nat} {v : Value} {l : List UInt8} (h : BOwn w base v l) (hb : Below w.heap.size w w') : BOwn w' base v l := by
  rcases h with h | ⟨g, k, e, hg, hm⟩
  · exact .inl h
  · exact .inr ⟨g, k, e, hg, hm.keep hb⟩
theorem BOwn.lower {w : World} {b0 base : Nat} {v : Value} {l : List UInt8} (h : BOwn w base v l) (hb : b0 ≤ base) : BOwn w b0 v l := by
  rcases h with h | ⟨g, k, e, hg, hm⟩
  · exact .inl h
  · exact .inr ⟨g, k, e, Nat.le_trans hb hg, hm⟩
theorem BOwn.shape {w : World} {base : Nat} {v : Value} {l : List UInt8} (h : BOwn w base v l) : ∃ a k, v = .slice a l.length k ∧ BIn w a l := by
  rcases h with ⟨rfl, rfl⟩ | ⟨g, k, rfl, hg, hm⟩
  · exact ⟨none, 0, rfl, .inl rfl⟩
  · exact ⟨_, _, rfl, hm.in⟩
theorem BOwn.block {w : World} {base : Nat} {v : Value} {l : List UInt8} (h : BOwn w base v l) : ∀ b, v.ownBlock = some b → base ≤ b ∧ b < w.heap.size := by
  rcases h with ⟨rfl, _⟩ | ⟨g, k, rfl, hg, hm⟩
  · intro b hb; cases hb
  · intro b hb; simp only [Value.ownBlock, Option.some.injEq] at hb; subst hb; exact ⟨hg, hm.lt⟩
/-- What a call hands back: a code, and bytes of its own. -/
def BGot (c : Int) (l : List UInt8) (base : Nat) (e : Ending) (w : World) : Prop := ∃ a n k, e = .returned (.agg #[.int .i64 c, .slice a n k]) ∧ BOwn w base (.slice a n k) l
theorem BGot.nil (c : Int) (base : Nat) (w : World) : BGot c [] base (.returned (.agg #[.int .i64 c, .slice none 0 0])) w := ⟨none, 0, 0, rfl, .inl ⟨rfl, rfl⟩⟩
/-- A text turned into bytes. -/
theorem bytes_of_text (w : World) (s : ByteArray) : ∃ C cap, (convert 9 39 (.string s)).run Tryz.prog w = .ok (.slice (some ⟨w.heap.size, 0, none⟩) s.size cap) (w.drew.alloc (.cells C 5 (C.size, C.size + 1))) ∧ BMine (w.drew.alloc (.cells C 5 (C.size, C.size + 1))) w.heap.size s.data.toList := by
  have h1 := run_bytes_of_string (P := Tryz.prog) w 9 39 5 s Tryz.underlying9 Tryz.underlying39 Tryz.underlying5
  have h2 := fun cap => BRow.made w s cap _ rfl
  refine ⟨_, _, h1, ?_⟩
  have h3 := h2 (grownCap w s.size 0 5)
  refine ⟨fun i c hc => ?_, fun o ho => ?_, ?_⟩
  · obtain ⟨hi, rfl⟩ := List.getElem?_eq_some_iff.1 hc
    rw [Nat.zero_add]
    exact h3.cell i hi
  · exact h3.free o ho
  · show w.heap.size < (w.drew.heap.push _).size
    rw [Array.size_push]; exact Nat.lt_succ_self _
end Go.Proofs.YtdooopkpnanekaaGreatDoor
/-
  Results that hold bytes: compared, marked, held.
-/
namespace Go.Proofs.YtdooopkpnanekaaGreatDoor
open Go.ChangeShapes Go.WideShapes Go.ChangeAt Go.RowKit Go.Sort
/-- All that was there, but for the memory of v, is as it was. -/
structure BAV (v : Value) (w w' : World) : Prop where
  size : w'.heap.size = w.heap.size
  cell : ∀ b o, b < w.heap.size → v.ownBlock ≠ some b → w'.cell? ⟨b, o, none⟩ = w.cell? ⟨b, o, none⟩
  frozen : ∀ b o, w'.frozen? ⟨b, o, none⟩ = w.frozen? ⟨b, o, none⟩
/-- v holds the marks from k on. -/
def MarkB (w : World) (v : Value) (k n : Nat) : Prop := n = 0 ∨ ∃ g c, v = .slice (some ⟨g, 0, none⟩) n c ∧ g < w.heap.size ∧ ∀ i, i < n → w.cell? ⟨g, i, none⟩ = some (.int .u8 (((k + i : Nat) : Int) % 256))
theorem MarkB.keep {w w' : World} {v : Value} {k n : Nat} (h : MarkB w v k n) (hb : Below w.heap.size w w') : MarkB w' v k n := by
  rcases h with h | ⟨g, c, e, hg, hc⟩
  · exact .inl h
  · exact .inr ⟨g, c, e, Nat.lt_of_lt_of_le hg hb.size, fun i hi => by rw [hb.cell (p := ⟨g, i, none⟩) hg]; exact hc i hi⟩
theorem MarkB.av {w w' : World} {v u : Value} {k n : Nat} (h : MarkB w v k n) (ha : BAV u w w') (hne : ∀ b, v.ownBlock = some b → u.ownBlock ≠ some b) : MarkB w' v k n := by
  rcases h with h | ⟨g, c, rfl, hg, hc⟩
  · exact .inl h
  · exact .inr ⟨g, c, rfl, by rw [ha.size]; exact hg, fun i hi => by rw [ha.cell g i hg (hne g rfl)]; exact hc i hi⟩
set_option maxHeartbeats 2000000 in
theorem markByteS_row (W : World) (g n cap k base : Nat) (hn : n ≤ 1048576) (hk : k ≤ 100000000000000) (hbase : base ≤ g) (hg : g < W.heap.size) (hm : HRoom W g n) :
    Calls Tryz.prog 79 #[.slice (some ⟨g, 0, none⟩) n cap, .int .i64 (k : Int)] W fun e w' => e = .returned (.int .i64 ((k + n : Nat) : Int)) ∧ (MarkB w' (.slice (some ⟨g, 0, none⟩) n cap) k n ∧ BAV (.slice (some ⟨g, 0, none⟩) n cap) W w' ∧ Below base W w') := by
  have HM : Hid (HRoom W g n) := hm
  clear hm
  go_enter Tryz.func79, Tryz.ntmps79
  go_wp2_with fail
  go_loopw [1, 5] (fun x i wr => ∃ j : Nat, j ≤ n ∧ i = .int .i64 (j : Int) ∧ x = .int .i64 ((k + j : Nat) : Int) ∧ HRoom wr g n ∧ (∀ q, q < j → wr.cell? ⟨g, q, none⟩ = some (.int .u8 (((k + q : Nat) : Int) % 256))) ∧ BAV (.slice (some ⟨g, 0, none⟩) n cap) W wr ∧ Below base W wr) (fun _ i _ => n - (intOf i).toNat)
  case atStart => exact ⟨0, Nat.zero_le _, rfl, rfl, HM.out, fun q hq => absurd hq (by omega), ⟨rfl, fun _ _ _ _ => rfl, fun _ _ => rfl⟩, Below.refl _ _⟩
  case round =>
    obtain ⟨j, hj, rfl, rfl, hroom, hcells, hav, hb⟩ := hrel
    clear HM
    by_cases hlt : j < n
    · obtain ⟨⟨u, hu⟩, hf⟩ := hroom j hlt
      have H1 : Hid (HRoom wr g n ∧ (∀ q, q < j → wr.cell? ⟨g, q, none⟩ = some (.int .u8 (((k + q : Nat) : Int) % 256))) ∧ BAV (.slice (some ⟨g, 0, none⟩) n cap) W wr ∧ Below base W wr) := ⟨hroom, hcells, hav, hb⟩
      have hw : IntKind.i64.wrap ((k + j : Nat) + 1 : Int) = ((k + (j + 1) : Nat) : Int) := by
        rw [show (((k + j : Nat) : Int) + 1) = ((k + (j + 1) : Nat) : Int) from by omega]
        unfold IntKind.wrap; simp [IntKind.signed, IntKind.bits]; omega
      have g1 : (j : Int) < n := by omega
      have HJ : Hid (((k + (j + 1) : Nat) : Int) = ((k + (j + 1) : Nat) : Int)) := rfl
      clear hroom hcells hav hb
      obtain ⟨K, hK⟩ : ∃ K : Int, K = ((k + j : Nat) : Int) := ⟨_, rfl⟩
      have HK : Hid (K = ((k + j : Nat) : Int)) := hK
      rw [← hK] at hw ⊢
      clear hK
      go_wp2_with fail
      refine ⟨⟨j + 1, by omega, by congr 1, by congr 1, ?_⟩, by simp [intOf]; omega⟩
      obtain ⟨hroom, hcells, hav, hb⟩ := H1.out
      rw [HK.out]
      refine ⟨hroom.set _ _, fun q hq => ?_, ⟨by simpa using hav.size, fun b o hb0 hne => ?_, fun b o => by rw [World.frozen?_setCell]; exact hav.frozen b o⟩, hb.setCell hbase _⟩
      · by_cases e : q = j
        · subst e; exact World.cell?_setCell_same _ _ _ hu
        · rw [World.cell?_setCell_other _ _ _ _ (hoff_ne (by omega))]; exact hcells q (by omega)
      · have hbg : b ≠ g := fun e => hne (by subst e; rfl)
        rw [World.cell?_setCell_other _ _ _ _ (fun e => hbg (congrArg Addr.block e).symm)]
        exact hav.cell b o hb0 hne
    · have ej : j = n := by omega
      subst ej
      have HF : Hid (MarkB wr (.slice (some ⟨g, 0, none⟩) j cap) k j ∧ BAV (.slice (some ⟨g, 0, none⟩) j cap) W wr ∧ Below base W wr) := ⟨.inr ⟨g, cap, rfl, by rw [hav.size]; exact hg, hcells⟩, hav, hb⟩
      clear hcells hav hb hroom
      obtain ⟨K, hK⟩ : ∃ K : Int, K = ((k + j : Nat) : Int) := ⟨_, rfl⟩
      have HK : Hid (K = ((k + j : Nat) : Int)) := hK
      rw [← hK]
      clear hK
      go_wp2_with fail
      go_ret
      exact ⟨ret_int (by rw [HK.out]), HF.out⟩
set_option maxHeartbeats 2000000 in
theorem heldByteS_row (W : World) (g n cap k : Nat) (hn : n ≤ 1048576) (hk : k ≤ 100000000000000) (hc : ∀ i, i < n → W.cell? ⟨g, i, none⟩ = some (.int .u8 (((k + i : Nat) : Int) % 256))) :
    Calls Tryz.prog 171 #[.slice (some ⟨g, 0, none⟩) n cap, .int .i64 (k : Int)] W fun e w' => e = .returned (.int .i64 ((k + n : Nat) : Int)) ∧ w' = W := by
  have HC : Hid (∀ i, i < n → W.cell? ⟨g, i, none⟩ = some (.int .u8 (((k + i : Nat) : Int) % 256))) := hc
  clear hc
  go_enter Tryz.func171, Tryz.ntmps171
  go_wp2_with fail
  go_loop [1, 5] (fun x i => ∃ j : Nat, j ≤ n ∧ i = .int .i64 (j : Int) ∧ x = .int .i64 ((k + j : Nat) : Int)) (fun _ i => n - (intOf i).toNat)
  case atStart => exact ⟨0, Nat.zero_le _, rfl, rfl⟩
  case round =>
    obtain ⟨j, hj, rfl, rfl⟩ := hrel
    by_cases hlt : j < n
    · have hu := HC.out j hlt
      have hw : IntKind.i64.wrap ((k + j : Nat) + 1 : Int) = ((k + (j + 1) : Nat) : Int) := by
        rw [show (((k + j : Nat) : Int) + 1) = ((k + (j + 1) : Nat) : Int) from by omega]
        unfold IntKind.wrap; simp [IntKind.signed, IntKind.bits]; omega
      have g1 : (j : Int) < n := by omega
      obtain ⟨K, hK⟩ : ∃ K : Int, K = ((k + j : Nat) : Int) := ⟨_, rfl⟩
      rw [← hK] at hw hu ⊢
      clear hK
      go_wp2_with fail
      exact ⟨⟨j + 1, by omega, by congr 1, by congr 1⟩, by simp [intOf]; omega⟩
    · have ej : j = n := by omega
      subst ej
      clear HC
      obtain ⟨K, hK⟩ : ∃ K : Int, K = ((k + j : Nat) : Int) := ⟨_, rfl⟩
      have HK : Hid (K = ((k + j : Nat) : Int)) := hK
      rw [← hK]
      clear hK
      go_wp2_with fail
      go_ret
      exact ⟨ret_int (by rw [HK.out]; omega), rfl⟩
/-! ### as results -/
end Go.Proofs.YtdooopkpnanekaaGreatDoor
/-
  Answers of PeekEntry, handed over by the laws: compared, marked, held.
-/
namespace Go.Proofs.YtdooopkpnanekaaGreatDoor
open Go.ChangeShapes Go.WideShapes Go.ChangeAt Go.RowKit Go.Sort
end Go.Proofs.YtdooopkpnanekaaGreatDoor
/-
  Four cells that may be written.
-/
namespace Go.Proofs.YtdooopkpnanekaaGreatDoor
open Go.ChangeShapes Go.WideShapes Go.ChangeAt Go.RowKit
structure S4 (w : World) (b : Nat) (v0 v1 v2 v3 : Value) : Prop where
  c0 : w.cell? ⟨b, 0, none⟩ = some v0
  c1 : w.cell? ⟨b, 1, none⟩ = some v1
  c2 : w.cell? ⟨b, 2, none⟩ = some v2
  c3 : w.cell? ⟨b, 3, none⟩ = some v3
  fr : ∀ o, w.frozen? ⟨b, o, none⟩ = false
  lt : b < w.heap.size
section
variable {w w' : World} {b : Nat} {v0 v1 v2 v3 : Value}
theorem S4.keep (k : S4 w b v0 v1 v2 v3) (hb : Below w.heap.size w w') : S4 w' b v0 v1 v2 v3 :=
  ⟨by rw [hb.cell (p := ⟨b, 0, none⟩) k.lt]; exact k.c0, by rw [hb.cell (p := ⟨b, 1, none⟩) k.lt]; exact k.c1, by rw [hb.cell (p := ⟨b, 2, none⟩) k.lt]; exact k.c2, by rw [hb.cell (p := ⟨b, 3, none⟩) k.lt]; exact k.c3, fun o => by rw [hb.frozen (p := ⟨b, o, none⟩) k.lt]; exact k.fr o, Nat.lt_of_lt_of_le k.lt hb.size⟩
theorem S4.new (w : World) (v0 v1 v2 v3 : Value) (t : TypeId) : S4 (w.alloc (.cells #[v0, v1, v2, v3] t)) w.heap.size v0 v1 v2 v3 := ⟨by simp, by simp, by simp, by simp, fun o => by simp, by simp⟩
theorem S4.off (k : S4 w b v0 v1 v2 v3) {B i : Nat} {x : Value} (h : B ≠ b) : S4 (w.setCell ⟨B, i, none⟩ x) b v0 v1 v2 v3 := by
  have ne : ∀ o : Nat, (⟨B, i, none⟩ : Addr) ≠ ⟨b, o, none⟩ := fun o q => h (congrArg Addr.block q)
  exact ⟨by rw [World.cell?_setCell_other _ _ _ _ (ne _)]; exact k.c0, by rw [World.cell?_setCell_other _ _ _ _ (ne _)]; exact k.c1, by rw [World.cell?_setCell_other _ _ _ _ (ne _)]; exact k.c2, by rw [World.cell?_setCell_other _ _ _ _ (ne _)]; exact k.c3, fun o => by rw [World.frozen?_setCell]; exact k.fr o, by simpa using k.lt⟩
theorem S4.set0 (k : S4 w b v0 v1 v2 v3) (x : Value) : S4 (w.setCell ⟨b, 0, none⟩ x) b x v1 v2 v3 :=
  ⟨World.cell?_setCell_same _ _ _ k.c0, by rw [World.cell?_setCell_other _ _ _ _ (by intro q; have := congrArg Addr.off q; simp at this)]; exact k.c1, by rw [World.cell?_setCell_other _ _ _ _ (by intro q; have := congrArg Addr.off q; simp at this)]; exact k.c2, by rw [World.cell?_setCell_other _ _ _ _ (by intro q; have := congrArg Addr.off q; simp at this)]; exact k.c3, fun o => by rw [World.frozen?_setCell]; exact k.fr o, by simpa using k.lt⟩
theorem S4.set1 (k : S4 w b v0 v1 v2 v3) (x : Value) : S4 (w.setCell ⟨b, 1, none⟩ x) b v0 x v2 v3 :=
  ⟨by rw [World.cell?_setCell_other _ _ _ _ (by intro q; have := congrArg Addr.off q; simp at this)]; exact k.c0, World.cell?_setCell_same _ _ _ k.c1, by rw [World.cell?_setCell_other _ _ _ _ (by intro q; have := congrArg Addr.off q; simp at this)]; exact k.c2, by rw [World.cell?_setCell_other _ _ _ _ (by intro q; have := congrArg Addr.off q; simp at this)]; exact k.c3, fun o => by rw [World.frozen?_setCell]; exact k.fr o, by simpa using k.lt⟩
theorem S4.set2 (k : S4 w b v0 v1 v2 v3) (x : Value) : S4 (w.setCell ⟨b, 2, none⟩ x) b v0 v1 x v3 :=
  ⟨by rw [World.cell?_setCell_other _ _ _ _ (by intro q; have := congrArg Addr.off q; simp at this)]; exact k.c0, by rw [World.cell?_setCell_other _ _ _ _ (by intro q; have := congrArg Addr.off q; simp at this)]; exact k.c1, World.cell?_setCell_same _ _ _ k.c2, by rw [World.cell?_setCell_other _ _ _ _ (by intro q; have := congrArg Addr.off q; simp at this)]; exact k.c3, fun o => by rw [World.frozen?_setCell]; exact k.fr o, by simpa using k.lt⟩
theorem S4.set3 (k : S4 w b v0 v1 v2 v3) (x : Value) : S4 (w.setCell ⟨b, 3, none⟩ x) b v0 v1 v2 x :=
  ⟨by rw [World.cell?_setCell_other _ _ _ _ (by intro q; have := congrArg Addr.off q; simp at this)]; exact k.c0, by rw [World.cell?_setCell_other _ _ _ _ (by intro q; have := congrArg Addr.off q; simp at this)]; exact k.c1, by rw [World.cell?_setCell_other _ _ _ _ (by intro q; have := congrArg Addr.off q; simp at this)]; exact k.c2, World.cell?_setCell_same _ _ _ k.c3, fun o => by rw [World.frozen?_setCell]; exact k.fr o, by simpa using k.lt⟩
end
end Go.Proofs.YtdooopkpnanekaaGreatDoor
/-
  Stores, handed over by the laws: room, copies, comparisons.
-/
namespace Go.Proofs.YtdooopkpnanekaaGreatDoor
open Go.ChangeShapes Go.WideShapes Go.ChangeAt Go.RowKit Go.Sort
theorem EntsMine.off1 {W : World} {G : Nat} {l : List (Ent × EntR)} (h : EntsMine W G l) {b i : Nat} (v : Value) (hne : b < G) : EntsMine (W.setCell ⟨b, i, none⟩ v) G l := by
  have ne : ∀ o : Nat, (⟨b, i, none⟩ : Addr) ≠ ⟨G, o, none⟩ := fun o q => by have := congrArg Addr.block q; simp only at this; omega
  exact ⟨fun i q hq j hj => by rw [World.cell?_setCell_other _ _ _ _ (ne _)]; exact h.cell i q hq j hj, fun o => by rw [World.frozen?_setCell]; exact h.free o, by simpa using h.lt, fun q hq => (h.own q hq).off1 v (Nat.lt_trans hne (h.up q hq)), h.up, h.pw⟩
def szSt (left : Int) (tl kl : List (Ent × EntR)) : Int := if szEL left tl < 0 then -1 else if szEL (szEL left tl) kl < 0 then -1 else szEL (szEL left tl) kl
theorem szEs_le : ∀ (l : List (Ent × EntR)) (c : Int), c ≤ 1048576 → ¬ szEs c l < 0 → szEs c l ≤ c ∧ ∀ q ∈ l, EntFit q.1
  | [], c, _, _ => ⟨Int.le_refl _, fun q hq => by simp at hq⟩
  | q :: l, c, hc, h => by
    unfold szEs at h ⊢
    by_cases d : szE c q.1.key q.1.hs q.1.bl q.1.ts < 0
    · rw [if_pos d] at h; omega
    · rw [if_neg d] at h ⊢
      have r := szE_room hc d
      have z := szEs_le l _ (by omega) h
      refine ⟨by omega, fun p hp => ?_⟩
      rcases List.mem_cons.1 hp with rfl | hp
      · exact ⟨r.2.1, r.2.2.1, r.2.2.2.1⟩
      · exact z.2 p hp
theorem szEL_room {l : List (Ent × EntR)} {left : Int} (hc : left ≤ 1048576) (h : ¬ szEL left l < 0) : szEL left l ≤ left ∧ l.length ≤ 1048576 ∧ ∀ q ∈ l, EntFit q.1 := by
  unfold szEL at h ⊢
  by_cases d : left - (l.length : Int) < 0
  · rw [if_pos d] at h; omega
  · rw [if_neg d] at h ⊢
    have z := szEs_le l _ (by omega) h
    exact ⟨by omega, by omega, z.2⟩
set_option maxHeartbeats 4000000 in
theorem szStore_any (w : World) (bu gu : Int) (ta ka : Option Addr) (tc kc : Nat) (tl kl : List (Ent × EntR)) (left : Int) (h0 : 0 ≤ left) (h1 : left ≤ 1048576) (hl : tl.length ≤ maxLen) (hk : kl.length ≤ maxLen) (hz : ∀ q ∈ tl, EntSm q.1) (hy : ∀ q ∈ kl, EntSm q.1) (ht : EntsIn w ta tl) (hq : EntsIn w ka kl) :
    Calls Tryz.prog 8 #[.agg #[.int .i64 bu, .int .i64 gu, .slice ta tl.length tc, .slice ka kl.length kc], .int .i64 left] w fun r w' => r = .returned (.int .i64 (szSt left tl kl)) ∧ Below w.heap.size w w' := by
  have HK : Hid (Below w.heap.size w (w.alloc (.cells #[.int .i64 bu, .int .i64 gu, .slice ta tl.length tc, .slice ka kl.length kc] 24)) ∧ S4 (w.alloc (.cells #[.int .i64 bu, .int .i64 gu, .slice ta tl.length tc, .slice ka kl.length kc] 24)) w.heap.size (.int .i64 bu) (.int .i64 gu) (.slice ta tl.length tc) (.slice ka kl.length kc)) := ⟨(Below.refl _ _).alloc (Nat.le_refl _) _, S4.new w _ _ _ _ _⟩
  have H1 : Hid (∀ X, Below w.heap.size w X → Calls Tryz.prog 51 #[.slice ta tl.length tc, .int .i64 left] X fun e w' => e = .returned (.int .i64 (szEL left tl)) ∧ Below X.heap.size X w') := fun X hb => szEntryS_any X ta tc tl hl (ht.keep hb) hz left h0 h1
  have H2 : Hid (∀ X, Below w.heap.size w X → 0 ≤ szEL left tl → Calls Tryz.prog 51 #[.slice ka kl.length kc, .int .i64 (szEL left tl)] X fun e w' => e = .returned (.int .i64 (szEL (szEL left tl) kl)) ∧ Below X.heap.size X w') := fun X hb h => szEntryS_any X ka kc kl hk (hq.keep hb) hy _ h (by have := (szEL_room h1 (show ¬ szEL left tl < 0 from by omega)).1; omega)
  obtain ⟨Z, hZ⟩ : ∃ Z, szSt left tl kl = Z := ⟨_, rfl⟩
  rw [hZ]
  unfold szSt at hZ
  generalize szEL (szEL left tl) kl = z2 at *
  generalize szEL left tl = z1 at *
  clear ht hq hz hy hl hk
  generalize tl.length = tn at *
  generalize kl.length = kn at *
  have HZ : Hid (_ = Z) := hZ
  clear hZ
  have q2 := HK.out.2.c2
  go_enter Tryz.func8, Tryz.ntmps8
  go_wp2_with fail
  refine (H1.out _ HK.out.1).mono ?_
  rintro r w1 ⟨rfl, hb1⟩
  have K1 : Hid (Below w.heap.size w w1 ∧ S4 w1 w.heap.size (.int .i64 bu) (.int .i64 gu) (.slice ta tn tc) (.slice ka kn kc)) := ⟨HK.out.1.trans (hb1.mono HK.out.1.size), HK.out.2.keep hb1⟩
  clear hb1 q2 HK
  by_cases c1 : z1 < 0
  · have HR : Hid (-1 = Z) := by have := HZ.out; rw [if_pos c1] at this; exact this
    clear HZ
    go_wp2_with fail
    go_ret
    exact ⟨ret_int HR.out, K1.out.1⟩
  have HR : Hid ((if z2 < 0 then -1 else z2) = Z) := by have := HZ.out; rw [if_neg c1] at this; exact this
  clear HZ
  have q3 := K1.out.2.c3
  go_wp2_with fail
  refine (H2.out _ K1.out.1 (by omega)).mono ?_
  rintro r w2 ⟨rfl, hb2⟩
  have HB2 : Hid (Below w.heap.size w w2) := K1.out.1.trans (hb2.mono K1.out.1.size)
  clear hb2 q3 K1 H1 H2
  by_cases c2 : z2 < 0
  · have HS : Hid (-1 = Z) := by have := HR.out; rw [if_pos c2] at this; exact this
    clear HR
    go_wp2_with fail
    go_ret
    exact ⟨ret_int HS.out, HB2.out⟩
  · have HS : Hid (z2 = Z) := by have := HR.out; rw [if_neg c2] at this; exact this
    clear HR
    go_wp2_with fail
    go_ret
    exact ⟨ret_int HS.out, HB2.out⟩
/-- A store of one's own: its two lists, apart. -/
structure StoMine (W : World) (G1 G2 : Nat) (tl kl : List (Ent × EntR)) : Prop where
  t : EntsMine W G1 tl
  k : EntsMine W G2 kl
  lt : G1 < G2
  up : ∀ q ∈ tl, blk q.2.ta < G2
theorem StoMine.keep {W W' : World} {G1 G2 : Nat} {tl kl : List (Ent × EntR)} (h : StoMine W G1 G2 tl kl) (hb : Below W.heap.size W W') : StoMine W' G1 G2 tl kl := ⟨h.t.keep hb, h.k.keep hb, h.lt, h.up⟩
set_option maxHeartbeats 8000000 in
theorem toStore_any (w : World) (bu gu : Int) (ta ka : Option Addr) (tc kc : Nat) (tl kl : List (Ent × EntR)) (hl : tl.length ≤ 1048576) (hk : kl.length ≤ 1048576) (hz : ∀ q ∈ tl, EntFit q.1) (hy : ∀ q ∈ kl, EntFit q.1) (ht : EntsIn w ta tl) (hq : EntsIn w ka kl) :
    Calls Tryz.prog 10 #[.agg #[.int .i64 bu, .int .i64 gu, .slice ta tl.length tc, .slice ka kl.length kc]] w fun ee w' => (∃ G1 G2 tl' kl', ee = .returned (.agg #[.int .i64 bu, .int .i64 gu, .slice (some ⟨G1, 0, none⟩) tl.length tl.length, .slice (some ⟨G2, 0, none⟩) kl.length kl.length]) ∧ tl'.map Prod.fst = tl.map Prod.fst ∧ kl'.map Prod.fst = kl.map Prod.fst ∧ StoMine w' G1 G2 tl' kl' ∧ w.heap.size ≤ G1) ∧ Below w.heap.size w w' := by
  obtain ⟨W, hW⟩ : ∃ W, W = (((w.alloc (.cells #[.int .i64 bu, .int .i64 gu, .slice ta tl.length tc, .slice ka kl.length kc] 24)).alloc (.cells #[.int .i64 0, .int .i64 0, .slice none 0 0, .slice none 0 0] 28)).alloc (.cells #[.int .i64 bu, .int .i64 gu, .slice none 0 0, .slice none 0 0] 28)) := ⟨_, rfl⟩
  have HW : Hid (W = (((w.alloc (.cells #[.int .i64 bu, .int .i64 gu, .slice ta tl.length tc, .slice ka kl.length kc] 24)).alloc (.cells #[.int .i64 0, .int .i64 0, .slice none 0 0, .slice none 0 0] 28)).alloc (.cells #[.int .i64 bu, .int .i64 gu, .slice none 0 0, .slice none 0 0] 28))) := hW
  have bW : Below w.heap.size w W := by rw [hW]; exact (((Below.refl _ _).alloc (Nat.le_refl _) _).alloc (by simp) _).alloc (by simp; omega) _
  have hsz : W.heap.size = w.heap.size + 3 := by rw [hW]; simp
  have f2 : S4 W (w.heap.size + 2) (.int .i64 bu) (.int .i64 gu) (.slice none 0 0) (.slice none 0 0) := by
    rw [hW]
    have := S4.new ((w.alloc (.cells #[.int .i64 bu, .int .i64 gu, .slice ta tl.length tc, .slice ka kl.length kc] 24)).alloc (.cells #[.int .i64 0, .int .i64 0, .slice none 0 0, .slice none 0 0] 28)) (.int .i64 bu) (.int .i64 gu) (.slice none 0 0) (.slice none 0 0) 28
    simpa using this
  have f1 : S4 W (w.heap.size + 1) (.int .i64 0) (.int .i64 0) (.slice none 0 0) (.slice none 0 0) := by
    rw [hW]
    have := (S4.new (w.alloc (.cells #[.int .i64 bu, .int .i64 gu, .slice ta tl.length tc, .slice ka kl.length kc] 24)) (.int .i64 0) (.int .i64 0) (.slice none 0 0) (.slice none 0 0) 28).keep ((Below.refl _ _).alloc (Nat.le_refl _) (.cells #[.int .i64 bu, .int .i64 gu, .slice none 0 0, .slice none 0 0] 28))
    simpa using this
  have f0 : S4 W w.heap.size (.int .i64 bu) (.int .i64 gu) (.slice ta tl.length tc) (.slice ka kl.length kc) := by
    rw [hW]
    exact ((S4.new w (.int .i64 bu) (.int .i64 gu) (.slice ta tl.length tc) (.slice ka kl.length kc) 24).keep ((Below.refl _ _).alloc (Nat.le_refl _) _)).keep ((Below.refl _ _).alloc (Nat.le_refl _) _)
  have K0 : Hid (Below w.heap.size w W ∧ S4 W w.heap.size (.int .i64 bu) (.int .i64 gu) (.slice ta tl.length tc) (.slice ka kl.length kc) ∧ S4 W (w.heap.size + 1) (.int .i64 0) (.int .i64 0) (.slice none 0 0) (.slice none 0 0) ∧ S4 W (w.heap.size + 2) (.int .i64 bu) (.int .i64 gu) (.slice none 0 0) (.slice none 0 0) ∧ W.heap.size = w.heap.size + 3) := ⟨bW, f0, f1, f2, hsz⟩
  have C1 : Hid (Calls Tryz.prog 54 #[.slice ta tl.length tc] W fun e w' => e = .returned (.slice (some ⟨w.heap.size + 3, 0, none⟩) tl.length tl.length) ∧ (∃ l', l'.map Prod.fst = tl.map Prod.fst ∧ EntsMine w' (w.heap.size + 3) l') ∧ Below W.heap.size W w') := by
    have := toEntryS_any W ta tc tl hl (ht.keep bW) hz
    rw [hsz] at this ⊢
    exact this
  have C2 : Hid (∀ X, Below w.heap.size w X → Calls Tryz.prog 54 #[.slice ka kl.length kc] X fun e w' => e = .returned (.slice (some ⟨X.heap.size, 0, none⟩) kl.length kl.length) ∧ (∃ l', l'.map Prod.fst = kl.map Prod.fst ∧ EntsMine w' X.heap.size l') ∧ Below X.heap.size X w') := fun X hb => toEntryS_any X ka kc kl hk (hq.keep hb) hy
  clear hW bW f0 f1 f2 hsz ht hq hz hy hl hk
  generalize tl.map Prod.fst = tm at *
  generalize kl.map Prod.fst = km at *
  generalize tl.length = tn at *
  generalize kl.length = kn at *
  go_enter Tryz.func10, Tryz.ntmps10
  go_wp2_with fail
  rw [← HW.out]
  refine C1.out.mono ?_
  rintro r w1 ⟨rfl, ⟨tl', et, mt⟩, hb1⟩
  have hsz1 : w.heap.size + 3 ≤ w1.heap.size := by have := hb1.size; rw [K0.out.2.2.2.2] at this; exact this
  obtain ⟨V, hV⟩ : ∃ V, V = w1.setCell ⟨w.heap.size + 2, 2, none⟩ (.slice (some ⟨w.heap.size + 3, 0, none⟩) tn tn) := ⟨_, rfl⟩
  have HV : Hid (V = w1.setCell ⟨w.heap.size + 2, 2, none⟩ (.slice (some ⟨w.heap.size + 3, 0, none⟩) tn tn)) := hV
  have K1 : Hid (Below w.heap.size w V ∧ S4 V w.heap.size (.int .i64 bu) (.int .i64 gu) (.slice ta tn tc) (.slice ka kn kc) ∧ S4 V (w.heap.size + 1) (.int .i64 0) (.int .i64 0) (.slice none 0 0) (.slice none 0 0) ∧ S4 V (w.heap.size + 2) (.int .i64 bu) (.int .i64 gu) (.slice (some ⟨w.heap.size + 3, 0, none⟩) tn tn) (.slice none 0 0) ∧ w.heap.size + 3 ≤ V.heap.size ∧ EntsMine V (w.heap.size + 3) tl') := by
    rw [hV]
    exact ⟨(K0.out.1.trans (hb1.mono K0.out.1.size)).setCell (by simp) _, (K0.out.2.1.keep hb1).off (by omega), (K0.out.2.2.1.keep hb1).off (by omega), (K0.out.2.2.2.1.keep hb1).set2 _, by simpa using hsz1, mt.off1 _ (by omega)⟩
  have k2 := (K0.out.2.2.2.1.keep hb1).c2
  have k2f := (K0.out.2.2.2.1.keep hb1).fr 2
  have q3 := (K0.out.2.1.keep hb1).c3
  clear hV hb1 K0 C1 HW mt hsz1
  go_wp2_with fail
  rw [← HV.out]
  clear HV k2 k2f
  refine (C2.out _ K1.out.1).mono ?_
  rintro r w2 ⟨rfl, ⟨kl', ek, mk⟩, hb2⟩
  have hsz2 := hb2.size
  have hszV := K1.out.2.2.2.2.1
  have z1 := K1.out.2.2.1.keep hb2
  have z2 := K1.out.2.2.2.1.keep hb2
  have m1 := K1.out.2.2.2.2.2.keep hb2
  have hup : ∀ q ∈ tl', blk q.2.ta < V.heap.size := fun q hq => (K1.out.2.2.2.2.2.own q hq).lt
  have bb := K1.out.1.trans (hb2.mono K1.out.1.size)
  obtain ⟨G2, hG⟩ : ∃ G, V.heap.size = G := ⟨_, rfl⟩
  rw [hG] at mk hup hszV ⊢
  have FIN : Hid (∀ x3 y0 y1 y2 y3, StoMine (((((w2.setCell ⟨w.heap.size + 2, 3, none⟩ x3).setCell ⟨w.heap.size + 1, 0, none⟩ y0).setCell ⟨w.heap.size + 1, 1, none⟩ y1).setCell ⟨w.heap.size + 1, 2, none⟩ y2).setCell ⟨w.heap.size + 1, 3, none⟩ y3) (w.heap.size + 3) G2 tl' kl' ∧ Below w.heap.size w (((((w2.setCell ⟨w.heap.size + 2, 3, none⟩ x3).setCell ⟨w.heap.size + 1, 0, none⟩ y0).setCell ⟨w.heap.size + 1, 1, none⟩ y1).setCell ⟨w.heap.size + 1, 2, none⟩ y2).setCell ⟨w.heap.size + 1, 3, none⟩ y3)) := by
    intro x3 y0 y1 y2 y3
    refine ⟨⟨((((m1.off1 _ (by omega)).off1 _ (by omega)).off1 _ (by omega)).off1 _ (by omega)).off1 _ (by omega), ((((mk.off1 _ (by omega)).off1 _ (by omega)).off1 _ (by omega)).off1 _ (by omega)).off1 _ (by omega), ?_, hup⟩, ((((bb.setCell (by simp) _).setCell (by simp) _).setCell (by simp) _).setCell (by simp) _).setCell (by simp) _⟩
    have := m1.lt
    have := K1.out.2.2.2.2.2.lt
    omega
  have ET : Hid (tl'.map Prod.fst = tm ∧ kl'.map Prod.fst = km) := ⟨et, ek⟩
  have a3 := z2.c3
  have a0 := z2.c0
  have a1 := z2.c1
  have a2 := z2.c2
  have af := z2.fr 3
  have r0 := z1.c0
  have r1 := z1.c1
  have r2 := z1.c2
  have r3 := z1.c3
  have rf0 := z1.fr 0
  have rf1 := z1.fr 1
  have rf2 := z1.fr 2
  have rf3 := z1.fr 3
  clear hb2 hsz2 mk m1 hup bb z1 z2 K1 C2 q3 et ek hszV hG
  go_wp2_with fail
  exact bodyPost_ret (v := .agg #[.int .i64 bu, .int .i64 gu, .slice (some ⟨w.heap.size + 3, 0, none⟩) tn tn, .slice (some ⟨G2, 0, none⟩) kn kn]) (by simp [results, Tryz.results10, go_sem, r0, r1, r2, r3]) rfl ⟨⟨_, _, tl', kl', rfl, ET.out.1, ET.out.2, (FIN.out _ _ _ _ _).1, by omega⟩, (FIN.out _ _ _ _ _).2⟩
set_option maxHeartbeats 4000000 in
theorem eqStore_same (w : World) (bu gu : Int) (ta1 ta2 ka1 ka2 : Option Addr) (tc1 tc2 kc1 kc2 : Nat) (tl tm kl km : List (Ent × EntR)) (hl : tl.length ≤ 1048576) (hk : kl.length ≤ 1048576) (hf : ∀ q ∈ tl, EntFit q.1) (hg : ∀ q ∈ kl, EntFit q.1) (et : tl.map Prod.fst = tm.map Prod.fst) (ek : kl.map Prod.fst = km.map Prod.fst) (h1 : EntsIn w ta1 tl) (h2 : EntsIn w ta2 tm) (h3 : EntsIn w ka1 kl) (h4 : EntsIn w ka2 km) :
    Calls Tryz.prog 13 #[.agg #[.int .i64 bu, .int .i64 gu, .slice ta1 tl.length tc1, .slice ka1 kl.length kc1], .agg #[.int .i64 bu, .int .i64 gu, .slice ta2 tl.length tc2, .slice ka2 kl.length kc2]] w fun r w' => r = .returned (.bool true) ∧ Below w.heap.size w w' := by
  have H1 : Hid (∀ X, Below w.heap.size w X → Calls Tryz.prog 61 #[.slice ta1 tl.length tc1, .slice ta2 tl.length tc2] X fun e w' => e = .returned (.bool true) ∧ Below X.heap.size X w') := fun X hb => eqEntryS_same X ta1 ta2 tc1 tc2 tl tm hl hf et (h1.keep hb) (h2.keep hb)
  have H2 : Hid (∀ X, Below w.heap.size w X → Calls Tryz.prog 61 #[.slice ka1 kl.length kc1, .slice ka2 kl.length kc2] X fun e w' => e = .returned (.bool true) ∧ Below X.heap.size X w') := fun X hb => eqEntryS_same X ka1 ka2 kc1 kc2 kl km hk hg ek (h3.keep hb) (h4.keep hb)
  clear h1 h2 h3 h4 hf hg et ek hl hk
  generalize tl.length = tn at *
  generalize kl.length = kn at *
  obtain ⟨V, hV⟩ : ∃ X, X = (w.alloc (.cells #[.int .i64 bu, .int .i64 gu, .slice ta1 tn tc1, .slice ka1 kn kc1] 28)).alloc (.cells #[.int .i64 bu, .int .i64 gu, .slice ta2 tn tc2, .slice ka2 kn kc2] 28) := ⟨_, rfl⟩
  have HV : Hid (V = (w.alloc (.cells #[.int .i64 bu, .int .i64 gu, .slice ta1 tn tc1, .slice ka1 kn kc1] 28)).alloc (.cells #[.int .i64 bu, .int .i64 gu, .slice ta2 tn tc2, .slice ka2 kn kc2] 28)) := hV
  have K0 : Hid (Below w.heap.size w V ∧ S4 V w.heap.size (.int .i64 bu) (.int .i64 gu) (.slice ta1 tn tc1) (.slice ka1 kn kc1) ∧ S4 V (w.heap.size + 1) (.int .i64 bu) (.int .i64 gu) (.slice ta2 tn tc2) (.slice ka2 kn kc2)) := by
    rw [hV]
    refine ⟨((Below.refl _ _).alloc (Nat.le_refl _) _).alloc (by simp) _, (S4.new w _ _ _ _ _).keep ((Below.refl _ _).alloc (Nat.le_refl _) _), ?_⟩
    have := S4.new (w.alloc (.cells #[.int .i64 bu, .int .i64 gu, .slice ta1 tn tc1, .slice ka1 kn kc1] 28)) (.int .i64 bu) (.int .i64 gu) (.slice ta2 tn tc2) (.slice ka2 kn kc2) 28
    simpa using this
  clear hV
  go_enter Tryz.func13, Tryz.ntmps13
  go_wp2_with fail
  rw [← HV.out]
  clear HV
  refine (H1.out _ K0.out.1).mono ?_
  rintro r w1 ⟨rfl, hb1⟩
  have B1 : Hid (Below w.heap.size w w1) := K0.out.1.trans (hb1.mono K0.out.1.size)
  have k1 := (K0.out.2.1.keep hb1).c3
  have k2 := (K0.out.2.2.keep hb1).c3
  clear hb1 K0 H1
  go_wp2_with fail
  refine (H2.out _ B1.out).mono ?_
  rintro r w2 ⟨rfl, hb2⟩
  have B2 : Hid (Below w.heap.size w w2) := B1.out.trans (hb2.mono B1.out.size)
  clear hb2 k1 k2 H2 B1
  go_wp2_with fail
  go_ret
  exact ⟨rfl, B2.out⟩
end Go.Proofs.YtdooopkpnanekaaGreatDoor
