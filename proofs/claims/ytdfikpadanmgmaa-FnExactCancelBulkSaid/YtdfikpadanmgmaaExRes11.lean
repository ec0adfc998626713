/-
  ExpireResult: compared, marked, held.
-/
import Derived.Test.YtdfikpadanmgmaaBlkRes
import Derived.Test.YtdfikpadanmgmaaExpP
namespace Go.Proofs.Ytdfikpadanmgmaa
open Go.ChangeShapes Go.WideShapes Go.ChangeAt Go.RowKit Go.Sort
def XIn (w : World) (r : R4) (ql : List Wt) (qi : List Int) : Prop := WtIn w r.a ql ∧ NsIn w r.i qi
theorem XIn.keep {w w' : World} {r : R4} {ql : List Wt} {qi : List Int} (h : XIn w r ql qi) (hb : Below w.heap.size w w') : XIn w' r ql qi := ⟨h.1.keep hb, h.2.keep hb⟩
theorem XN.in {w : World} {base m mi : Nat} {r : R4} {ql : List Wt} {qi : List Int} (h : XN w base r m ql mi qi) : XIn w r ql qi := by
  obtain ⟨x1, y1, e1, i1⟩ := h.1.in
  obtain ⟨x2, y2, e2, i2⟩ := h.2.1.in
  simp only [Value.slice.injEq] at e1 e2
  exact ⟨by rw [e1.1]; exact i1, by rw [e2.1]; exact i2⟩
def XAp (r : R4) (m : Nat) (ql : List Wt) (mi : Nat) (qi : List Int) (X : Nat) : Prop := (∀ Q, (Value.slice r.a m r.c).ownBlock = some Q → ql = [] ∨ Q ≠ X) ∧ ∀ Q, (Value.slice r.i mi r.k).ownBlock = some Q → qi = [] ∨ Q ≠ X
theorem WtNew.apartX {w : World} {base : Nat} {v : Value} {l : List Wt} (h : WtNew w base v l) {X : Nat} (hX : X < base ∨ w.heap.size ≤ X) : ∀ Q, v.ownBlock = some Q → l = [] ∨ Q ≠ X := by
  intro Q hQ
  rcases h with ⟨e, _⟩ | ⟨g, off, cap, rfl, h1, h2, _⟩
  · exact .inl e
  · simp only [Value.ownBlock, Option.some.injEq] at hQ
    right; omega
theorem XN.apartX {w : World} {base m mi : Nat} {r : R4} {ql : List Wt} {qi : List Int} (h : XN w base r m ql mi qi) {X : Nat} (hX : X < base ∨ w.heap.size ≤ X) : XAp r m ql mi qi X := ⟨h.1.apartX hX, h.2.1.apart hX⟩
def XSpot (w : World) (r : R4) (ql : List Wt) (qi : List Int) (g off g2 off2 : Nat) : Prop := SpotWt w r.a g off ql ∧ SpotNs w r.i g2 off2 qi ∧ g ≠ g2 ∧ g ≠ w.heap.size ∧ g2 ≠ w.heap.size
theorem XN.atX {w : World} {base m mi : Nat} {r : R4} {ql : List Wt} {qi : List Int} (h : XN w base r m ql mi qi) (hb : base ≤ w.heap.size) {X : Nat} (hX : X < w.heap.size) (hap : XAp r m ql mi qi X) : ∃ g off g2 off2, (base ≤ g ∧ base ≤ g2) ∧ XSpot w r ql qi g off g2 off2 ∧ X ≠ g ∧ X ≠ g2 := by
  have A : ql = [] ∨ ∃ g off, base ≤ g ∧ g < w.heap.size ∧ r.a = some ⟨g, off, none⟩ ∧ SpotWt w r.a g off ql ∧ X ≠ g := by
    rcases h.1 with ⟨e, _⟩ | ⟨g, off, cap, e, h1, h2, h3, h4⟩
    · exact .inl e
    · simp only [Value.slice.injEq] at e
      rcases hap.1 g (by rw [e.1]; rfl) with e0 | hne
      · exact .inl e0
      · exact .inr ⟨g, off, h1, h2, e.1, .inr ⟨e.1, h2, h3, fun o _ => h4 o⟩, fun e => hne e.symm⟩
  have B : qi = [] ∨ ∃ g off, base ≤ g ∧ g < w.heap.size ∧ r.i = some ⟨g, off, none⟩ ∧ SpotNs w r.i g off qi ∧ X ≠ g := by
    rcases h.2.1 with ⟨e, _⟩ | ⟨g, off, cap, e, h1, h2, h3, h4⟩
    · exact .inl e
    · simp only [Value.slice.injEq] at e
      rcases hap.2 g (by rw [e.1]; rfl) with e0 | hne
      · exact .inl e0
      · exact .inr ⟨g, off, h1, h2, e.1, .inr ⟨e.1, h2, h3, fun o _ => h4 o⟩, fun e => hne e.symm⟩
  rcases A with A | ⟨g, off, a1, a2, a3, a4, a5⟩ <;> rcases B with B | ⟨g2, off2, b1, b2, b3, b4, b5⟩
  · exact ⟨w.heap.size + 8, 0, w.heap.size + 9, 0, ⟨by omega, by omega⟩, ⟨.inl A, .inl B, by omega, by omega, by omega⟩, by omega, by omega⟩
  · exact ⟨w.heap.size + 8, 0, g2, off2, ⟨by omega, b1⟩, ⟨.inl A, b4, by omega, by omega, by omega⟩, by omega, b5⟩
  · exact ⟨g, off, w.heap.size + 8, 0, ⟨a1, by omega⟩, ⟨a4, .inl B, by omega, by omega, by omega⟩, a5, by omega⟩
  · rcases h.2.2 g g2 (by rw [a3]; rfl) (by rw [b3]; rfl) with e | e | hne
    · exact ⟨w.heap.size + 8, 0, g2, off2, ⟨by omega, b1⟩, ⟨.inl e, b4, by omega, by omega, by omega⟩, by omega, b5⟩
    · exact ⟨g, off, w.heap.size + 8, 0, ⟨a1, by omega⟩, ⟨a4, .inl e, by omega, by omega, by omega⟩, a5, by omega⟩
    · exact ⟨g, off, g2, off2, ⟨a1, b1⟩, ⟨a4, b4, hne, by omega, by omega⟩, a5, b5⟩
theorem SpotNs.gw {g0 : Nat} {w w' : World} {a : Option Addr} {g off : Nat} {l : List Int} (h : SpotNs w a g off l) (k : w.grownBy w' (some g0)) (hne : g ≠ g0) : SpotNs w' a g off l := by
  rcases h with h | ⟨e, h1, h2, h3⟩
  · exact .inl h
  · exact .inr ⟨e, Nat.lt_of_lt_of_le h1 k.size, fun i x hx => by rw [gwCell k _ h1 hne]; exact h2 i x hx, fun o ho => by rw [gwFrozen k _ h1 hne]; exact h3 o ho⟩
set_option maxHeartbeats 2000000 in
theorem eqEx_same (w : World) (c y : Int) (r1 r2 : R4) (ql : List Wt) (qi : List Int) (hl : ql.length ≤ 1048576) (hli : qi.length ≤ 1048576) (h1 : XIn w r1 ql qi) (h2 : XIn w r2 ql qi) :
    Calls Try.prog 38 #[.agg #[.int .i64 c, .int .i64 y, .slice r1.a ql.length r1.c, .slice r1.i qi.length r1.k], .agg #[.int .i64 c, .int .i64 y, .slice r2.a ql.length r2.c, .slice r2.i qi.length r2.k]] w fun e w' => e = .returned (.bool true) ∧ Below w.heap.size w w' := by
  have HQ : Hid (∀ X, Below w.heap.size w X → Calls Try.prog 22 #[.agg #[.int .i64 y, .slice r1.a ql.length r1.c], .agg #[.int .i64 y, .slice r2.a ql.length r2.c]] X fun e w' => e = .returned (.bool true) ∧ Below X.heap.size X w') := fun X hb => eqBulk_same X y _ _ _ _ ql hl (h1.1.keep hb) (h2.1.keep hb)
  have HI : Hid (∀ X, Below w.heap.size w X → Calls Try.prog 87 #[.slice r1.i qi.length r1.k, .slice r2.i qi.length r2.k] X fun e w' => e = .returned (.bool true) ∧ Below X.heap.size X w') := fun X hb => eqNs_same X _ _ _ _ qi hli (h1.2.keep hb) (h2.2.keep hb)
  obtain ⟨W, hW⟩ : ∃ W, W = (w.alloc (.cells #[.int .i64 c, .int .i64 y, .slice r1.a ql.length r1.c, .slice r1.i qi.length r1.k] 54)).alloc (.cells #[.int .i64 c, .int .i64 y, .slice r2.a ql.length r2.c, .slice r2.i qi.length r2.k] 54) := ⟨_, rfl⟩
  have HW : Hid (W = (w.alloc (.cells #[.int .i64 c, .int .i64 y, .slice r1.a ql.length r1.c, .slice r1.i qi.length r1.k] 54)).alloc (.cells #[.int .i64 c, .int .i64 y, .slice r2.a ql.length r2.c, .slice r2.i qi.length r2.k] 54)) := hW
  have K0 : Hid (Below w.heap.size w W ∧ D4 W w.heap.size (.int .i64 c) (.int .i64 y) (.slice r1.a ql.length r1.c) (.slice r1.i qi.length r1.k) ∧ D4 W (w.heap.size + 1) (.int .i64 c) (.int .i64 y) (.slice r2.a ql.length r2.c) (.slice r2.i qi.length r2.k)) := by
    have h2 := D4.new (w.alloc (.cells #[.int .i64 c, .int .i64 y, .slice r1.a ql.length r1.c, .slice r1.i qi.length r1.k] 54)) (.int .i64 c) (.int .i64 y) (.slice r2.a ql.length r2.c) (.slice r2.i qi.length r2.k) 54
    rw [show (w.alloc (.cells #[.int .i64 c, .int .i64 y, .slice r1.a ql.length r1.c, .slice r1.i qi.length r1.k] 54)).heap.size = w.heap.size + 1 by simp] at h2
    rw [hW]
    exact ⟨((Below.refl _ _).alloc (Nat.le_refl _) _).alloc (by simp) _, (D4.new w _ _ _ _ _).keep ((Below.refl _ _).alloc (Nat.le_refl _) _), h2⟩
  clear h1 h2 hl hli hW
  generalize ql.length = m at *
  generalize qi.length = mi at *
  go_enter Try.func38, Try.ntmps38
  go_wp2_with fail
  rw [← HW.out]
  refine (HQ.out _ K0.out.1).mono ?_
  rintro e w1 ⟨rfl, hb⟩
  have HB : Hid (Below w.heap.size w w1) := K0.out.1.trans (hb.mono K0.out.1.size)
  have p3 := (K0.out.2.1.keep hb).c3
  have q3 := (K0.out.2.2.keep hb).c3
  clear hb HQ HW
  go_wp2_with fail
  refine (HI.out _ HB.out).mono ?_
  rintro e w2 ⟨rfl, hb2⟩
  have HB2 := hid11 (HB.out.trans (hb2.mono HB.out.size))
  clear hb2 p3 q3
  go_wp2_with fail
  go_ret
  exact ⟨rfl, HB2.out⟩
set_option maxHeartbeats 4000000 in
theorem markEx_any (w : World) (c y : Int) (r : R4) (ql : List Wt) (qi : List Int) (hl : ql.length ≤ 1048576) (hli : qi.length ≤ 1048576) (g off g2 off2 : Nat) (h : XSpot w r ql qi g off g2 off2) :
    Calls Try.prog 39 #[.agg #[.int .i64 c, .int .i64 y, .slice r.a ql.length r.c, .slice r.i qi.length r.k], .int .i64 ((1 : Nat) : Int)] w fun e w' => e = .returned (.int .i64 ((1 + ql.length * 2 + qi.length : Nat) : Int)) ∧ XIn w' r (mkdWt 1 ql) (mkdNs (1 + ql.length * 2) qi) ∧ ∃ wm, w.grownBy wm (some g) ∧ wm.grownBy w' (some g2) := by
  obtain ⟨W, hW⟩ : ∃ W, W = w.alloc (.cells #[.int .i64 c, .int .i64 y, .slice r.a ql.length r.c, .slice r.i qi.length r.k] 54) := ⟨_, rfl⟩
  have HW : Hid (W = w.alloc (.cells #[.int .i64 c, .int .i64 y, .slice r.a ql.length r.c, .slice r.i qi.length r.k] 54)) := hW
  have bW : Below w.heap.size w W := by rw [hW]; exact (Below.refl _ _).alloc (Nat.le_refl _) _
  have HD : Hid (D4 W w.heap.size (.int .i64 c) (.int .i64 y) (.slice r.a ql.length r.c) (.slice r.i qi.length r.k)) := by show D4 _ _ _ _ _ _; rw [hW]; exact D4.new w _ _ _ _ _
  have HB : Hid (Below w.heap.size w W) := bW
  have HM1 : Hid (Calls Try.prog 28 #[.agg #[.int .i64 y, .slice r.a ql.length r.c], .int .i64 ((1 : Nat) : Int)] W fun e w' => e = .returned (.int .i64 ((1 + ql.length * 2 : Nat) : Int)) ∧ WtIn w' r.a (mkdWt 1 ql) ∧ W.grownBy w' (some g)) := markBulk_any W y r.a r.c 1 (by omega) ql hl g off (h.1.keep bW)
  have HM2 : Hid (∀ X, SpotNs X r.i g2 off2 qi → Calls Try.prog 88 #[.slice r.i qi.length r.k, .int .i64 ((1 + ql.length * 2 : Nat) : Int)] X fun e w' => e = .returned (.int .i64 ((1 + ql.length * 2 + qi.length : Nat) : Int)) ∧ NsIn w' r.i (mkdNs (1 + ql.length * 2) qi) ∧ X.grownBy w' (some g2)) := fun X hX => markNs_any X r.i r.k (1 + ql.length * 2) (by omega) qi hli g2 off2 hX
  have HSP : Hid (SpotNs W r.i g2 off2 qi ∧ g ≠ g2 ∧ g ≠ w.heap.size ∧ (mkdWt 1 ql = [] ∨ r.a = some ⟨g, off, none⟩)) := ⟨h.2.1.keep bW, h.2.2.1, h.2.2.2.1, by
    rcases h.1 with e | ⟨e, _⟩
    · exact .inl (by rw [e]; rfl)
    · exact .inr e⟩
  clear hW bW hl hli h
  generalize mkdWt 1 ql = lm at *
  generalize mkdNs (1 + ql.length * 2) qi = im at *
  generalize ((1 + ql.length * 2 + qi.length : Nat) : Int) = k2 at *
  generalize ((1 + ql.length * 2 : Nat) : Int) = k1 at *
  generalize ql.length = m at *
  generalize qi.length = mi at *
  go_enter Try.func39, Try.ntmps39
  go_wp2_with fail
  rw [← HW.out]
  refine HM1.out.mono ?_
  rintro e w1 ⟨rfl, hI, hg⟩
  have HR : Hid (WtIn w1 r.a lm ∧ w.grownBy w1 (some g) ∧ SpotNs w1 r.i g2 off2 qi) := ⟨hI, gwTrans (gwBelow _ HB.out) hg, HSP.out.1.gw hg (Ne.symm HSP.out.2.1)⟩
  have p3 := (HD.out.gw hg (Ne.symm HSP.out.2.2.1)).c3
  clear hI hg HM1 HW HB HD
  go_wp2_with fail
  refine (HM2.out _ HR.out.2.2).mono ?_
  rintro e w2 ⟨rfl, hI2, hg2⟩
  have HX : Hid (XIn w2 r lm im) := ⟨by
    rcases HSP.out.2.2.2 with e | e
    · rw [e]; exact .inl rfl
    · exact HR.out.1.gw hg2 (fun A hA => by rw [e] at hA; obtain rfl := Option.some.inj hA; exact HSP.out.2.1), hI2⟩
  have HG := hid11 hg2
  clear hI2 hg2 HM2 p3
  go_wp2_with fail
  go_ret
  exact ⟨rfl, HX.out, w1, HR.out.2.1, HG.out⟩
set_option maxHeartbeats 4000000 in
theorem heldEx_any (w : World) (c y : Int) (r : R4) (ql : List Wt) (qi : List Int) (hl : ql.length ≤ 1048576) (hli : qi.length ≤ 1048576) (h : XIn w r (mkdWt 1 ql) (mkdNs (1 + ql.length * 2) qi)) :
    Calls Try.prog 40 #[.agg #[.int .i64 c, .int .i64 y, .slice r.a ql.length r.c, .slice r.i qi.length r.k], .int .i64 ((1 : Nat) : Int)] w fun e w' => e = .returned (.int .i64 ((1 + ql.length * 2 + qi.length : Nat) : Int)) ∧ Below w.heap.size w w' := by
  obtain ⟨W, hW⟩ : ∃ W, W = w.alloc (.cells #[.int .i64 c, .int .i64 y, .slice r.a ql.length r.c, .slice r.i qi.length r.k] 54) := ⟨_, rfl⟩
  have HW : Hid (W = w.alloc (.cells #[.int .i64 c, .int .i64 y, .slice r.a ql.length r.c, .slice r.i qi.length r.k] 54)) := hW
  have bW : Below w.heap.size w W := by rw [hW]; exact (Below.refl _ _).alloc (Nat.le_refl _) _
  have HD : Hid (D4 W w.heap.size (.int .i64 c) (.int .i64 y) (.slice r.a ql.length r.c) (.slice r.i qi.length r.k)) := by show D4 _ _ _ _ _ _; rw [hW]; exact D4.new w _ _ _ _ _
  have HB : Hid (Below w.heap.size w W) := bW
  have HM1 : Hid (Calls Try.prog 82 #[.agg #[.int .i64 y, .slice r.a ql.length r.c], .int .i64 ((1 : Nat) : Int)] W fun e w' => e = .returned (.int .i64 ((1 + ql.length * 2 : Nat) : Int)) ∧ Below W.heap.size W w') := heldBulk_any W y r.a r.c 1 (by omega) ql hl (h.1.keep bW)
  have HM2 : Hid (∀ X, Below w.heap.size w X → Calls Try.prog 89 #[.slice r.i qi.length r.k, .int .i64 ((1 + ql.length * 2 : Nat) : Int)] X fun e w' => e = .returned (.int .i64 ((1 + ql.length * 2 + qi.length : Nat) : Int)) ∧ w' = X) := fun X hX => heldNs_any X r.i r.k (1 + ql.length * 2) (by omega) qi hli (h.2.keep hX)
  clear hW bW hl hli h
  have hn1 : ¬ ((1 + ql.length * 2 : Nat) : Int) < 0 := by omega
  have hn2 : ¬ ((1 + ql.length * 2 + qi.length : Nat) : Int) < 0 := by omega
  generalize ((1 + ql.length * 2 + qi.length : Nat) : Int) = k2 at *
  generalize ((1 + ql.length * 2 : Nat) : Int) = k1 at *
  generalize ql.length = m at *
  generalize qi.length = mi at *
  go_enter Try.func40, Try.ntmps40
  go_wp2_with fail
  rw [← HW.out]
  refine HM1.out.mono ?_
  rintro e w1 ⟨rfl, hb⟩
  have HR : Hid (Below w.heap.size w w1) := HB.out.trans (hb.mono HB.out.size)
  have p3 := (HD.out.keep hb).c3
  clear hb HM1 HW HB HD
  go_wp2_with fail
  refine (HM2.out _ HR.out).mono ?_
  rintro e w2 ⟨rfl, rfl⟩
  clear HM2 p3
  go_wp2_with fail
  go_ret
  exact ⟨rfl, HR.out⟩
end Go.Proofs.Ytdfikpadanmgmaa
