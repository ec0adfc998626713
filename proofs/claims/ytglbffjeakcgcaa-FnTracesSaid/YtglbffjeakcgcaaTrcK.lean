/-
  Memory of a run of traces.
-/
import Derived.Test.YtglbffjeakcgcaaTrcI
namespace Go.Proofs.Ytglbffjeakcgcaa
open Go.ChangeShapes Go.WideShapes Go.ChangeAt Go.RowKit Go.Sort
structure C3 (w : World) (b : Nat) (v0 v1 v2 : Value) : Prop where
  c0 : w.cell? ⟨b, 0, none⟩ = some v0
  c1 : w.cell? ⟨b, 1, none⟩ = some v1
  c2 : w.cell? ⟨b, 2, none⟩ = some v2
  fr : ∀ o, w.frozen? ⟨b, o, none⟩ = false
  lt : b < w.heap.size
section
variable {w w' : World} {b : Nat} {v0 v1 v2 : Value}
theorem C3.keep (k : C3 w b v0 v1 v2) (hb : Below w.heap.size w w') : C3 w' b v0 v1 v2 :=
  ⟨by rw [hb.cell (p := ⟨b, 0, none⟩) k.lt]; exact k.c0, by rw [hb.cell (p := ⟨b, 1, none⟩) k.lt]; exact k.c1, by rw [hb.cell (p := ⟨b, 2, none⟩) k.lt]; exact k.c2, fun o => by rw [hb.frozen (p := ⟨b, o, none⟩) k.lt]; exact k.fr o, Nat.lt_of_lt_of_le k.lt hb.size⟩
theorem C3.low (k : C3 w b v0 v1 v2) {B : Nat} (hb : Below B w w') (h : b < B) : C3 w' b v0 v1 v2 :=
  ⟨by rw [hb.cell (p := ⟨b, 0, none⟩) h]; exact k.c0, by rw [hb.cell (p := ⟨b, 1, none⟩) h]; exact k.c1, by rw [hb.cell (p := ⟨b, 2, none⟩) h]; exact k.c2, fun o => by rw [hb.frozen (p := ⟨b, o, none⟩) h]; exact k.fr o, Nat.lt_of_lt_of_le k.lt hb.size⟩
theorem C3.gb {g : Nat} (k : C3 w b v0 v1 v2) (h : w.grownBy w' (some g)) (hb : b ≠ g) : C3 w' b v0 v1 v2 :=
  ⟨by rw [gbCell h _ k.lt hb]; exact k.c0, by rw [gbCell h _ k.lt hb]; exact k.c1, by rw [gbCell h _ k.lt hb]; exact k.c2, fun o => by rw [gbFrozen h _ k.lt hb]; exact k.fr o, Nat.lt_of_lt_of_le k.lt h.size⟩
theorem C3.put (k : C3 w b v0 v1 v2) (x0 x1 x2 : Value) : C3 (((w.setCell ⟨b, 0, none⟩ x0).setCell ⟨b, 1, none⟩ x1).setCell ⟨b, 2, none⟩ x2) b x0 x1 x2 := by
  have ne : ∀ i j : Nat, i ≠ j → (⟨b, i, none⟩ : Addr) ≠ ⟨b, j, none⟩ := fun i j h e => h (congrArg Addr.off e)
  have g0 : (w).cell? ⟨b, 0, none⟩ = some v0 := by exact k.c0
  have g1 : ((w.setCell ⟨b, 0, none⟩ x0)).cell? ⟨b, 1, none⟩ = some v1 := by rw [World.cell?_setCell_other _ _ _ _ (ne _ _ (by decide))]; exact k.c1
  have g2 : (((w.setCell ⟨b, 0, none⟩ x0).setCell ⟨b, 1, none⟩ x1)).cell? ⟨b, 2, none⟩ = some v2 := by rw [World.cell?_setCell_other _ _ _ _ (ne _ _ (by decide))]; rw [World.cell?_setCell_other _ _ _ _ (ne _ _ (by decide))]; exact k.c2
  exact ⟨by rw [World.cell?_setCell_other _ _ _ _ (ne _ _ (by decide))]; rw [World.cell?_setCell_other _ _ _ _ (ne _ _ (by decide))]; exact World.cell?_setCell_same _ _ _ g0, by rw [World.cell?_setCell_other _ _ _ _ (ne _ _ (by decide))]; exact World.cell?_setCell_same _ _ _ g1, by exact World.cell?_setCell_same _ _ _ g2, fun o => by rw [World.frozen?_setCell]; rw [World.frozen?_setCell]; rw [World.frozen?_setCell]; exact k.fr o, by simpa using k.lt⟩
theorem C3.new (w : World) (v0 v1 v2 : Value) (t : TypeId) : C3 (w.alloc (.cells #[v0, v1, v2] t)) w.heap.size v0 v1 v2 := ⟨by simp, by simp, by simp, fun o => by simp, by simp⟩
end
theorem grRow {w w' : World} {row : Option Nat} {B : Nat} (h : w.grownBy w' row) (hr : ∀ g, row = some g → B ≤ g) (hB : B ≤ w.heap.size) : Below B w w' := ⟨h.os, h.tape, h.output, h.size, fun k hk => h.block k (by omega) (fun e => by have := hr k e.symm; omega)⟩
theorem grCell {w w' : World} {row : Option Nat} (h : w.grownBy w' row) {b : Nat} (o : Nat) (hb : b < w.heap.size) (hn : row ≠ some b) : w'.cell? ⟨b, o, none⟩ = w.cell? ⟨b, o, none⟩ := World.cell?_of_block (w := w) (h.block b hb (fun e => hn e.symm))
theorem grFrozen {w w' : World} {row : Option Nat} (h : w.grownBy w' row) {b : Nat} (o : Nat) (hb : b < w.heap.size) (hn : row ≠ some b) : w'.frozen? ⟨b, o, none⟩ = w.frozen? ⟨b, o, none⟩ := World.frozen?_of_block (w := w) (h.block b hb (fun e => hn e.symm))
theorem C6.gr {w w' : World} {row : Option Nat} {b : Nat} {v0 v1 v2 v3 v4 v5 : Value} (k : C6 w b v0 v1 v2 v3 v4 v5) (h : w.grownBy w' row) (hn : row ≠ some b) : C6 w' b v0 v1 v2 v3 v4 v5 :=
  ⟨by rw [grCell h _ k.lt hn]; exact k.c0, by rw [grCell h _ k.lt hn]; exact k.c1, by rw [grCell h _ k.lt hn]; exact k.c2, by rw [grCell h _ k.lt hn]; exact k.c3, by rw [grCell h _ k.lt hn]; exact k.c4, by rw [grCell h _ k.lt hn]; exact k.c5, fun o => by rw [grFrozen h _ k.lt hn]; exact k.fr o, Nat.lt_of_lt_of_le k.lt h.size⟩
theorem MkNew.gr {w w' : World} {row : Option Nat} {base : Nat} {v : Value} {l : List Mk} (h : MkNew w base v l) (k : w.grownBy w' row) (hne : ∀ Q, v.ownBlock = some Q → l = [] ∨ row ≠ some Q) : MkNew w' base v l := by
  rcases h with h | ⟨G, off, cap, rfl, h1, h2, h3, h4⟩
  · exact .inl h
  · rcases hne G rfl with e | hn
    · subst e; exact .inl ⟨rfl, _, _, rfl⟩
    · refine .inr ⟨G, off, cap, rfl, h1, Nat.lt_of_lt_of_le h2 k.size, fun i r hr => ?_, fun o => by rw [grFrozen k _ h2 hn]; exact h4 o⟩
      obtain ⟨p0, p1⟩ := h3 i r hr
      exact ⟨by rw [grCell k _ h2 hn]; exact p0, by rw [grCell k _ h2 hn]; exact p1⟩
theorem OwnNs.blk {w : World} {base : Nat} {v : Value} {l : List Int} (h : OwnNs w base v l) {q : Nat} (hq : v.ownBlock = some q) : base ≤ q ∧ q < w.heap.size := World.ownsRow.lt h q hq
theorem OwnBs.blk {w : World} {base : Nat} {v : Value} {l : List Bool} (h : OwnBs w base v l) {q : Nat} (hq : v.ownBlock = some q) : base ≤ q ∧ q < w.heap.size := World.ownsRow.lt h q hq
theorem C3.set1 {w : World} {b : Nat} {v0 v1 v2 : Value} (k : C3 w b v0 v1 v2) (x : Value) : C3 (w.setCell ⟨b, 1, none⟩ x) b v0 x v2 :=
  ⟨by rw [World.cell?_setCell_other _ _ _ _ (by intro q; have := congrArg Addr.off q; simp at this)]; exact k.c0, World.cell?_setCell_same _ _ _ k.c1, by rw [World.cell?_setCell_other _ _ _ _ (by intro q; have := congrArg Addr.off q; simp at this)]; exact k.c2, fun o => by rw [World.frozen?_setCell]; exact k.fr o, by simpa using k.lt⟩
theorem C3.set2 {w : World} {b : Nat} {v0 v1 v2 : Value} (k : C3 w b v0 v1 v2) (x : Value) : C3 (w.setCell ⟨b, 2, none⟩ x) b v0 v1 x :=
  ⟨by rw [World.cell?_setCell_other _ _ _ _ (by intro q; have := congrArg Addr.off q; simp at this)]; exact k.c0, by rw [World.cell?_setCell_other _ _ _ _ (by intro q; have := congrArg Addr.off q; simp at this)]; exact k.c1, World.cell?_setCell_same _ _ _ k.c2, fun o => by rw [World.frozen?_setCell]; exact k.fr o, by simpa using k.lt⟩
/-- A run of traces at work: rules at R, the result at Z, what is told at O, the breaker at B; rows from base on. -/
structure TJ (w : World) (R Z O B base : Nat) (a0 a1 a2 a3 a4 : Int) (b : Bk) (S : List Int) (A : List Bool) (sv av : Value) (ma : Option Addr) (mc : Nat) (wr : World) : Prop where
  bl : Below w.heap.size w wr
  r : S5 wr R (.int .i64 a0) (.int .i64 a1) (.int .i64 a2) (.int .i64 a3) (.int .i64 a4)
  z : C3 wr Z (.int .i64 0) (.slice none 0 0) (.slice none 0 0)
  o : C3 wr O (.int .i64 0) sv av
  bb : S4 wr B (.int .i64 b.s) (.int .i64 b.t) (.int .i64 b.o) (.slice ma b.l.length mc)
  m : MkNew wr base (.slice ma b.l.length mc) b.l
  s : OwnNs wr base sv S
  a : OwnBs wr base av A
  ap1 : ∀ Q, (Value.slice ma b.l.length mc).ownBlock = some Q → b.l = [] ∨ (sv.ownBlock ≠ some Q ∧ av.ownBlock ≠ some Q)
  ap2 : sv.ownBlock = none ∨ sv.ownBlock ≠ av.ownBlock
  sz : base ≤ wr.heap.size
  lw : w.heap.size ≤ R ∧ w.heap.size ≤ Z ∧ w.heap.size ≤ O ∧ w.heap.size ≤ B
  lo : R < base ∧ Z < base ∧ O < base ∧ B < base
  ne : R ≠ Z ∧ R ≠ O ∧ R ≠ B ∧ Z ≠ O ∧ Z ≠ B ∧ O ≠ B
section
variable {w wr w' : World} {R Z O B base : Nat} {a0 a1 a2 a3 a4 : Int} {b : Bk} {S : List Int} {A : List Bool} {sv av : Value} {ma : Option Addr} {mc : Nat}
theorem TJ.keep (h : TJ w R Z O B base a0 a1 a2 a3 a4 b S A sv av ma mc wr) (hb : Below wr.heap.size wr w') : TJ w R Z O B base a0 a1 a2 a3 a4 b S A sv av ma mc w' :=
  ⟨h.bl.trans (hb.mono h.bl.size), h.r.keep hb, h.z.keep hb, h.o.keep hb, h.bb.keep hb, h.m.keep hb, h.s.below hb, h.a.below hb, h.ap1, h.ap2, Nat.le_trans h.sz hb.size, h.lw, h.lo, h.ne⟩
/-- The breaker is set anew, its outcomes lie above all rows. -/
theorem TJ.turn (h : TJ w R Z O B base a0 a1 a2 a3 a4 b S A sv av ma mc wr) (hb : Below wr.heap.size wr w') {b' : Bk} {xa : Option Addr} {xc : Nat} (hm : MkNew w' wr.heap.size (.slice xa b'.l.length xc) b'.l) :
    TJ w R Z O B base a0 a1 a2 a3 a4 b' S A sv av xa xc ((((w'.setCell ⟨B, 0, none⟩ (.int .i64 b'.s)).setCell ⟨B, 1, none⟩ (.int .i64 b'.t)).setCell ⟨B, 2, none⟩ (.int .i64 b'.o)).setCell ⟨B, 3, none⟩ (.slice xa b'.l.length xc)) := by
  have k := h.keep hb
  obtain ⟨V, hV⟩ : ∃ V, V = ((((w'.setCell ⟨B, 0, none⟩ (.int .i64 b'.s)).setCell ⟨B, 1, none⟩ (.int .i64 b'.t)).setCell ⟨B, 2, none⟩ (.int .i64 b'.o)).setCell ⟨B, 3, none⟩ (.slice xa b'.l.length xc)) := ⟨_, rfl⟩
  have g : w'.grownBy V (some B) := by rw [hV]; exact gbTrans (gbTrans (gbTrans (gbSet _ _ _ _) (gbSet _ _ _ _)) (gbSet _ _ _ _)) (gbSet _ _ _ _)
  have bs : ∀ q, sv.ownBlock = some q → base ≤ q ∧ q < wr.heap.size := fun q hq => h.s.blk hq
  have ba : ∀ q, av.ownBlock = some q → base ≤ q ∧ q < wr.heap.size := fun q hq => h.a.blk hq
  have lo := h.lo
  have hwr := h.sz
  rw [← hV]
  refine ⟨k.bl.trans (gbTo g h.lw.2.2.2 k.bl.size), k.r.gb g h.ne.2.2.1, k.z.gb g h.ne.2.2.2.2.1, k.o.gb g h.ne.2.2.2.2.2, ?_, (hm.gb2 g (by omega)).lower h.sz, k.s.kept g ?_, k.a.kept g ?_, ?_, h.ap2, Nat.le_trans k.sz g.size, h.lw, h.lo, h.ne⟩
  · rw [hV]; exact (((k.bb.set0 _).set1 _).set2 _).set3 _
  · right; intro e; have := bs _ e; omega
  · right; intro e; have := ba _ e; omega
  · intro Q hQ
    rcases hm with ⟨e, _⟩ | ⟨G, off, cap, e, h1, h2, _⟩
    · exact .inl e
    · right
      rw [e] at hQ
      simp only [Value.ownBlock, Option.some.injEq] at hQ
      exact ⟨fun e2 => by have := bs _ e2; omega, fun e2 => by have := ba _ e2; omega⟩
/-- One number more is told. -/
theorem TJ.tell1 (h : TJ w R Z O B base a0 a1 a2 a3 a4 b S A sv av ma mc wr) {g cap : Nat} {x : Int} (ho : OwnNs w' base (.slice (some ⟨g, 0, none⟩) (S.length + 1) cap) (S ++ [x])) (hg : wr.grownBy w' sv.ownBlock) (hw : sv.ownBlock = some g ∨ wr.heap.size ≤ g) :
    TJ w R Z O B base a0 a1 a2 a3 a4 b (S ++ [x]) A (.slice (some ⟨g, 0, none⟩) (S.length + 1) cap) av ma mc (w'.setCell ⟨O, 1, none⟩ (.slice (some ⟨g, 0, none⟩) (S.length + 1) cap)) := by
  have bs : ∀ q, sv.ownBlock = some q → base ≤ q ∧ q < wr.heap.size := fun q hq => h.s.blk hq
  have ba : ∀ q, av.ownBlock = some q → base ≤ q ∧ q < wr.heap.size := fun q hq => h.a.blk hq
  have hB : Below base wr w' := grRow hg (fun q hq => (bs q hq).1) h.sz
  have lo := h.lo
  have lw := h.lw
  have wsz := h.bl.size
  have gg : base ≤ g := by
    rcases hw with e | e
    · exact (bs g e).1
    · have := h.sz; omega
  have g2 := gbSet w' O 1 (.slice (some ⟨g, 0, none⟩) (S.length + 1) cap)
  have am : OwnBs w' base av A := h.a.kept hg (by
    rcases h.ap2 with e | e
    · rw [e]; cases hav : av.ownBlock with
      | none => exact .inl rfl
      | some q => right; simp
    · cases hav : av.ownBlock with
      | none => exact .inl rfl
      | some q => right; rw [hav] at e; exact fun e2 => e e2.symm)
  have mm : MkNew w' base (.slice ma b.l.length mc) b.l := h.m.gr hg (fun Q hQ => by
    rcases h.ap1 Q hQ with e | e
    · exact .inl e
    · exact .inr e.1)
  refine ⟨(h.bl.trans (hB.mono (by omega))).setCell (by simp; omega) _, (h.r.low hB (by omega)).gb g2 h.ne.2.1, (h.z.low hB (by omega)).gb g2 h.ne.2.2.2.1, (h.o.low hB (by omega)).set1 _, (h.bb.low hB (by omega)).gb g2 (fun e => h.ne.2.2.2.2.2 e.symm), mm.gb2 g2 (by omega), ho.kept g2 (.inr (by simp [Value.ownBlock]; omega)), am.kept g2 ?_, ?_, ?_, ?_, h.lw, h.lo, h.ne⟩
  · right; intro e; have := ba _ e; omega
  · intro Q hQ
    rcases h.ap1 Q hQ with e | e
    · exact .inl e
    · rcases h.m with ⟨e0, _⟩ | ⟨G, off, cp, eG, h1, h2, _⟩
      · exact .inl e0
      · right
        rw [eG] at hQ
        simp only [Value.ownBlock, Option.some.injEq] at hQ
        refine ⟨?_, e.2⟩
        simp only [Value.ownBlock, ne_eq, Option.some.injEq]
        rcases hw with e2 | e2
        · intro e3; rw [e2, e3] at e; exact e.1 rfl
        · omega
  · right
    show some g ≠ av.ownBlock
    intro e3
    rcases hw with e2 | e2
    · rcases h.ap2 with e | e
      · rw [e] at e2; cases e2
      · exact e (by rw [e2, e3])
    · have := ba g e3.symm; omega
  · have := hg.size
    have := h.sz
    simp [World.setCell]
    omega
/-- One bool more is told. -/
theorem TJ.tell2 (h : TJ w R Z O B base a0 a1 a2 a3 a4 b S A sv av ma mc wr) {g cap : Nat} {x : Bool} (ho : OwnBs w' base (.slice (some ⟨g, 0, none⟩) (A.length + 1) cap) (A ++ [x])) (hg : wr.grownBy w' av.ownBlock) (hw : av.ownBlock = some g ∨ wr.heap.size ≤ g) :
    TJ w R Z O B base a0 a1 a2 a3 a4 b S (A ++ [x]) sv (.slice (some ⟨g, 0, none⟩) (A.length + 1) cap) ma mc (w'.setCell ⟨O, 2, none⟩ (.slice (some ⟨g, 0, none⟩) (A.length + 1) cap)) := by
  have bs : ∀ q, sv.ownBlock = some q → base ≤ q ∧ q < wr.heap.size := fun q hq => h.s.blk hq
  have ba : ∀ q, av.ownBlock = some q → base ≤ q ∧ q < wr.heap.size := fun q hq => h.a.blk hq
  have hB : Below base wr w' := grRow hg (fun q hq => (ba q hq).1) h.sz
  have lo := h.lo
  have lw := h.lw
  have wsz := h.bl.size
  have gg : base ≤ g := by
    rcases hw with e | e
    · exact (ba g e).1
    · have := h.sz; omega
  have g2 := gbSet w' O 2 (.slice (some ⟨g, 0, none⟩) (A.length + 1) cap)
  have am : OwnNs w' base sv S := h.s.kept hg (by
    rcases h.ap2 with e | e
    · exact .inl e
    · exact .inr e)
  have mm : MkNew w' base (.slice ma b.l.length mc) b.l := h.m.gr hg (fun Q hQ => by
    rcases h.ap1 Q hQ with e | e
    · exact .inl e
    · exact .inr e.2)
  refine ⟨(h.bl.trans (hB.mono (by omega))).setCell (by simp; omega) _, (h.r.low hB (by omega)).gb g2 h.ne.2.1, (h.z.low hB (by omega)).gb g2 h.ne.2.2.2.1, (h.o.low hB (by omega)).set2 _, (h.bb.low hB (by omega)).gb g2 (fun e => h.ne.2.2.2.2.2 e.symm), mm.gb2 g2 (by omega), am.kept g2 ?_, ho.kept g2 (.inr (by simp [Value.ownBlock]; omega)), ?_, ?_, ?_, h.lw, h.lo, h.ne⟩
  · right; intro e; have := bs _ e; omega
  · intro Q hQ
    rcases h.ap1 Q hQ with e | e
    · exact .inl e
    · rcases h.m with ⟨e0, _⟩ | ⟨G, off, cp, eG, h1, h2, _⟩
      · exact .inl e0
      · right
        rw [eG] at hQ
        simp only [Value.ownBlock, Option.some.injEq] at hQ
        refine ⟨e.1, ?_⟩
        simp only [Value.ownBlock, ne_eq, Option.some.injEq]
        rcases hw with e2 | e2
        · intro e3; rw [e2, e3] at e; exact e.2 rfl
        · omega
  · right
    show sv.ownBlock ≠ some g
    intro e3
    rcases hw with e2 | e2
    · rcases h.ap2 with e | e
      · rw [e] at e3; cases e3
      · exact e (by rw [e2, e3])
    · have := bs g e3; omega
  · have := hg.size
    have := h.sz
    simp [World.setCell]
    omega
end
end Go.Proofs.Ytglbffjeakcgcaa
