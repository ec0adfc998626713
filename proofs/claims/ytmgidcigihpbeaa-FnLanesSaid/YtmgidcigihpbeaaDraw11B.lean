/-
  The draw of a bulkhead, bent: l11Bent.
-/
import Derived.Test.YtmgidcigihpbeaaDraw11L
import Derived.Test.YtmgidcigihpbeaaDrawHeapT
import Derived.Test.YtmgidcigihpbeaaEnterSO
import Derived.Test.YtmgidcigihpbeaaLeaveSO
import Derived.Test.YtmgidcigihpbeaaByteApp
import Derived.Test.YtmgidcigihpbeaaHeldLast
import Derived.Deep.CutBlock
import Derived.Deep.CutRange
import Derived.Deep.RegionHeld3
namespace Go.Proofs.Ytmgidcigihpbeaa
open Go.ChangeShapes Go.WideShapes Go.ChangeAt Go.RowKit Go.Sort
set_option linter.unusedVariables false
theorem useB {p q : Prop} (h : p) (k : p → q) : q := k h
theorem rulW {p : Prop} (h : p) : Hid p := h
theorem D2.ah {B : Nat} {w w' : World} {b : Nat} {v0 v1 : Value} (k : D2 w b v0 v1) (h : ApartH B w w') (hn : b ≠ B) : D2 w' b v0 v1 := k.apart h.cells hn
theorem D3.ah {B : Nat} {w w' : World} {b : Nat} {v0 v1 v2 : Value} (k : D3 w b v0 v1 v2) (h : ApartH B w w') (hn : b ≠ B) : D3 w' b v0 v1 v2 := k.apart h.cells hn
theorem OwnWt.apart {B : Nat} {w w' : World} {base : Nat} {v : Value} {l : List Wt} (h : OwnWt w base v l) (ha : ApartH B w w') (hB : B < base) : OwnWt w' base v l := by
  obtain ⟨h1, h2⟩ := h
  refine ⟨h1, ?_⟩
  rcases h2 with h2 | ⟨g, c, cur, e, hg, hh, hrest⟩
  · exact .inl h2
  · exact .inr ⟨g, c, cur, e, hg, by rw [ha.block g (Array.getElem?_eq_some_iff.1 hh).1 (by omega)]; exact hh, hrest⟩
theorem D2.off2 {w : World} {b g i : Nat} {v0 v1 x : Value} (k : D2 w b v0 v1) (h : b ≠ g) : D2 (w.setCell ⟨g, i, none⟩ x) b v0 v1 := k.gw (gwSet _ _ _ _) h
theorem D3.off2 {w : World} {b g i : Nat} {v0 v1 v2 x : Value} (k : D3 w b v0 v1 v2) (h : b ≠ g) : D3 (w.setCell ⟨g, i, none⟩ x) b v0 v1 v2 := k.gw (gwSet _ _ _ _) h
/-- What is held while a bulkhead is bent. -/
structure DL (w X : World) (N SB L B : Nat) (s c t : Int) (a : Option Addr) (len cap k : Nat) (y : Int) (va : Option Addr) (n vc : Nat) (q : List Wt) : Prop where
  sr : Src X SB a len cap k
  q0 : D2 X N (.int .i64 0) (.slice none 0 0)
  q1 : D3 X (N + 1) (.int .i64 0) (.int .i64 0) (.int .i64 0)
  la : D3 X L (.int .i64 s) (.int .i64 c) (.int .i64 t)
  bu : D2 X B (.int .i64 y) (.slice va n vc)
  ow : OwnWt X (B + 1) (.slice va n vc) q
  ln : q.length = n
  lo : Below N w X
  lt : SB = N + 2 ∧ SB < L ∧ L < B
section
variable {w X Y : World} {N SB L B : Nat} {s c t : Int} {a : Option Addr} {len cap k : Nat} {y : Int} {va : Option Addr} {n vc : Nat} {q : List Wt}
theorem DL.step {k' : Nat} (h : DL w X N SB L B s c t a len cap k y va n vc q) (hs : Src Y SB a len cap k') (hb : Below SB X Y) (ha : ApartH SB X Y) : DL w Y N SB L B s c t a len cap k' y va n vc q := by
  obtain ⟨e, l1, l2⟩ := h.lt
  exact ⟨hs, h.q0.ah ha (by omega), h.q1.ah ha (by omega), h.la.ah ha (by omega), h.bu.ah ha (by omega), h.ow.apart ha (by omega), h.ln, h.lo.trans (hb.mono (by omega)), e, l1, l2⟩
theorem DL.keep (h : DL w X N SB L B s c t a len cap k y va n vc q) (hb : Below X.heap.size X Y) : DL w Y N SB L B s c t a len cap k y va n vc q :=
  ⟨h.sr.below (hb.mono h.sr.lt), h.q0.keep hb, h.q1.keep hb, h.la.keep hb, h.bu.keep hb, h.ow.below hb, h.ln, h.lo.trans (hb.mono (Nat.le_of_lt h.q0.lt)), h.lt⟩
theorem DL.al {o : Obj} (h : DL w X N SB L B s c t a len cap k y va n vc q) : DL w (X.alloc o) N SB L B s c t a len cap k y va n vc q := h.keep ((Below.refl _ _).alloc (Nat.le_refl _) _)
theorem DL.drw (h : DL w X N SB L B s c t a len cap k y va n vc q) : DL w X.drew N SB L B s c t a len cap k y va n vc q := h.keep (Below.refl _ _).drew
theorem DL.turn {y' : Int} {va' : Option Addr} {n' vc' : Nat} {q' : List Wt} (h : DL w X N SB L B s c t a len cap k y va n vc q) (h2 : D2 Y B (.int .i64 y') (.slice va' n' vc')) (ho : OwnWt Y (B + 1) (.slice va' n' vc') q') (hn : q'.length = n') (hg : X.grownBy Y (some B)) : DL w Y N SB L B s c t a len cap k y' va' n' vc' q' := by
  obtain ⟨e, l1, l2⟩ := h.lt
  have hx := h.bu.lt
  exact ⟨h.sr.below (gwTo hg (by omega) (by omega)), h.q0.gw hg (by omega), h.q1.gw hg (by omega), h.la.gw hg (by omega), h2, ho, hn, h.lo.trans (gwTo hg (by omega) (by omega)), e, l1, l2⟩
theorem DL.put {y' : Int} {va' : Option Addr} {n' vc' : Nat} {q' : List Wt} (h : DL w X N SB L B s c t a len cap k y va n vc q) (ho : OwnWt X (B + 1) (.slice va' n' vc') q') (hn : q'.length = n') : DL w ((X.setCell ⟨B, 0, none⟩ (.int .i64 y')).setCell ⟨B, 1, none⟩ (.slice va' n' vc')) N SB L B s c t a len cap k y' va' n' vc' q' :=
  h.turn (h.bu.put _ _) ((ho.gw (gwSet _ _ _ _) (Nat.lt_succ_self _)).gw (gwSet _ _ _ _) (Nat.lt_succ_self _)) hn (gwTrans (gwSet _ _ _ _) (gwSet _ _ _ _))
theorem DL.s0 (h : DL w X N SB L B s c t a len cap k y va n vc q) (x : Int) : DL w (X.setCell ⟨B, 0, none⟩ (.int .i64 x)) N SB L B s c t a len cap k x va n vc q := by
  have k1 := h.bu
  refine h.turn ⟨World.cell?_setCell_same _ _ _ k1.c0, by rw [World.cell?_setCell_other _ _ _ _ (fun e => by have := congrArg Addr.off e; simp at this)]; exact k1.c1, fun o => by rw [World.frozen?_setCell]; exact k1.fr o, by simpa using k1.lt⟩ (h.ow.gw (gwSet _ _ _ _) (Nat.lt_succ_self _)) h.ln (gwSet _ _ _ _)
theorem DL.push {g n' vc' : Nat} {q' : List Wt} (h : DL w X N SB L B s c t a len cap k y va n vc q) (h1 : OwnWt Y (B + 1) (.slice (some ⟨g, 0, none⟩) n' vc') q') (hn : q'.length = n') (h2 : X.grownBy Y (Value.slice va n vc).ownBlock) : DL w (Y.setCell ⟨B, 1, none⟩ (.slice (some ⟨g, 0, none⟩) n' vc')) N SB L B s c t a len cap k y (some ⟨g, 0, none⟩) n' vc' q' ∧ D2 Y B (.int .i64 y) (.slice va n vc) := by
  obtain ⟨e, l1, l2⟩ := h.lt
  have hx := h.bu.lt
  have ne : ∀ b, b < B + 1 → (Value.slice va n vc).ownBlock ≠ some b := fun b hb z => by have := row_ge h.ow b z; omega
  have bl : Below (B + 1) X Y := ⟨h2.os, h2.tape, h2.output, h2.size, fun b hb => h2.block b (by omega) (fun z => ne b hb z.symm)⟩
  have k1 := h.bu.low bl (Nat.lt_succ_self _)
  refine ⟨⟨(h.sr.below (bl.mono (by omega))) |> fun z => src_off z (by omega), (h.q0.low bl (by omega)).off2 (by omega), (h.q1.low bl (by omega)).off2 (by omega), (h.la.low bl (by omega)).off2 (by omega), ⟨by rw [World.cell?_setCell_other _ _ _ _ (fun e => by have := congrArg Addr.off e; simp at this)]; exact k1.c0, World.cell?_setCell_same _ _ _ k1.c1, fun o => by rw [World.frozen?_setCell]; exact k1.fr o, by simpa using k1.lt⟩, h1.gw (gwSet _ _ _ _) (Nat.lt_succ_self _), hn, (h.lo.trans (bl.mono (by omega))).setCell (by simp; omega) _, e, l1, l2⟩, k1⟩
theorem DL.lset {x0 x1 x2 : Int} (h : DL w X N SB L B s c t a len cap k y va n vc q) : DL w (((X.setCell ⟨L, 0, none⟩ (.int .i64 x0)).setCell ⟨L, 1, none⟩ (.int .i64 x1)).setCell ⟨L, 2, none⟩ (.int .i64 x2)) N SB L B x0 x1 x2 a len cap k y va n vc q := by
  obtain ⟨e, l1, l2⟩ := h.lt
  exact ⟨src_off (src_off (src_off h.sr l1) l1) l1, ((h.q0.off2 (by omega)).off2 (by omega)).off2 (by omega), ((h.q1.off2 (by omega)).off2 (by omega)).off2 (by omega), h.la.put _ _ _, ((h.bu.off2 (by omega)).off2 (by omega)).off2 (by omega), ((h.ow.gw (gwSet _ _ _ _) (by omega)).gw (gwSet _ _ _ _) (by omega)).gw (gwSet _ _ _ _) (by omega), h.ln, ((h.lo.setCell (by simp; omega) _).setCell (by simp; omega) _).setCell (by simp; omega) _, e, l1, l2⟩
/-- What is told of the end. -/
structure FinL (w X : World) (N SB : Nat) (a : Option Addr) (len cap k : Nat) (va : Option Addr) (n vc : Nat) (q : List Wt) : Prop where
  ow : OwnWt X (SB + 1) (.slice va n vc) q
  sr : Src X SB a len cap k
  lo : Below N w X
  cr : CodeRow w N a len
  hN : N + 2 ≤ SB
theorem DL.fin (h : DL w X N SB L B s c t a len cap k y va n vc q) (hc : CodeRow w N a len) : FinL w X N SB a len cap k va n vc q := by
  obtain ⟨e, l1, l2⟩ := h.lt
  exact ⟨h.ow.lower (by omega), h.sr, h.lo, hc, by omega⟩
theorem FinL.set {b i : Nat} {z : Value} (h : FinL w X N SB a len cap k va n vc q) (hb : b = N ∨ b = N + 1) : FinL w (X.setCell ⟨b, i, none⟩ z) N SB a len cap k va n vc q := by
  have := h.hN
  have lo' := h.lo.setCell (p := ⟨b, i, none⟩) (by simp; omega) z
  have ne : ∀ j : Nat, (⟨b, i, none⟩ : Addr) ≠ ⟨SB, j, none⟩ := fun j e => by have := congrArg Addr.block e; simp at this; omega
  exact ⟨h.ow.gw (gwSet _ _ _ _) (by omega), ⟨by rw [World.cell?_setCell_other _ _ _ _ (ne 0)]; exact h.sr.c0, by rw [World.cell?_setCell_other _ _ _ _ (ne 1)]; exact h.sr.c1, by rw [World.frozen?_setCell]; exact h.sr.f1, (h.cr.below lo').mono (by omega)⟩, lo', h.cr, h.hN⟩
theorem FinL.drw (h : FinL w X N SB a len cap k va n vc q) : FinL w X.drew N SB a len cap k va n vc q := ⟨h.ow.below (Below.refl _ _).drew, h.sr.drew, h.lo.drew, h.cr, h.hN⟩
/-- A box of an answer, by its kind. -/
def BXE (X : World) (P : Nat) (v0 v1 v2 v3 : Value) : Prop := X.heap[P]? = some (.cells #[v0, v1, v2, v3] 32)
theorem BXE.new (X : World) (v0 v1 v2 v3 : Value) : BXE (X.alloc (.cells #[v0, v1, v2, v3] 32)) X.heap.size v0 v1 v2 v3 := heap_alloc_new _ _
theorem BXE.new1 (X : World) (o : Obj) (v0 v1 v2 v3 : Value) : BXE ((X.alloc o).alloc (.cells #[v0, v1, v2, v3] 32)) (X.heap.size + 1) v0 v1 v2 v3 := by
  have h := BXE.new (X.alloc o) v0 v1 v2 v3
  rwa [show (X.alloc o).heap.size = X.heap.size + 1 by simp] at h
theorem BXE.lt {P : Nat} {v0 v1 v2 v3 : Value} (h : BXE X P v0 v1 v2 v3) : P < X.heap.size := (Array.getElem?_eq_some_iff.1 h).1
theorem BXE.al {P : Nat} {v0 v1 v2 v3 : Value} {o : Obj} (h : BXE X P v0 v1 v2 v3) : BXE (X.alloc o) P v0 v1 v2 v3 := by
  have b : Below X.heap.size X (X.alloc o) := (Below.refl _ _).alloc (Nat.le_refl _) _
  unfold BXE; rw [b.block P h.lt]; exact h
theorem BXE.drw {P : Nat} {v0 v1 v2 v3 : Value} (h : BXE X P v0 v1 v2 v3) : BXE X.drew P v0 v1 v2 v3 := h
theorem BXE.ap {P : Nat} {v0 v1 v2 v3 : Value} (ha : ApartH SB X Y) (h : BXE X P v0 v1 v2 v3) (hP : P ≠ SB) : BXE Y P v0 v1 v2 v3 := by
  unfold BXE; rw [ha.block P h.lt hP]; exact h
theorem BXE.d4 {P : Nat} {v0 v1 v2 v3 : Value} (h : BXE X P v0 v1 v2 v3) : D4 X P v0 v1 v2 v3 := by
  have h' : X.heap[P]? = some (.cells #[v0, v1, v2, v3] 32) := h
  exact ⟨by simp [World.cell?, h'], by simp [World.cell?, h'], by simp [World.cell?, h'], by simp [World.cell?, h'], fun o => by simp [World.frozen?, h'], h.lt⟩
theorem BXE.ne {P base : Nat} {v0 v1 v2 v3 v : Value} {l : List Wt} (h : BXE X P v0 v1 v2 v3) (ho : OwnWt X base v l) : ∀ G, v.ownBlock = some G → G ≠ P := by
  intro G hG e
  subst e
  obtain ⟨_, h1 | ⟨g, c, cur, rfl, _, hh, _⟩⟩ := ho
  · rw [h1.1] at hG; cases hG
  · simp only [Value.ownBlock, Option.some.injEq] at hG
    subst hG
    have h' : X.heap[g]? = some (.cells #[v0, v1, v2, v3] 32) := h
    rw [hh] at h'
    simp at h'
theorem DL.put4 {P : Nat} {v0 v1 v2 v3 x0 x1 x2 x3 : Value} (h : DL w X N SB L B s c t a len cap k y va n vc q) (hx : BXE X P v0 v1 v2 v3) (hP : B < P) : DL w ((((X.setCell ⟨P, 0, none⟩ x0).setCell ⟨P, 1, none⟩ x1).setCell ⟨P, 2, none⟩ x2).setCell ⟨P, 3, none⟩ x3) N SB L B s c t a len cap k y va n vc q := by
  obtain ⟨e, l1, l2⟩ := h.lt
  have g : X.grownBy ((((X.setCell ⟨P, 0, none⟩ x0).setCell ⟨P, 1, none⟩ x1).setCell ⟨P, 2, none⟩ x2).setCell ⟨P, 3, none⟩ x3) (some P) := gwTrans (gwTrans (gwTrans (gwSet _ _ _ _) (gwSet _ _ _ _)) (gwSet _ _ _ _)) (gwSet _ _ _ _)
  exact ⟨h.sr.below (gwTo g (by omega) (by have := hx.lt; omega)), h.q0.gw g (by omega), h.q1.gw g (by omega), h.la.gw g (by omega), h.bu.gw g (by omega), h.ow.gwX g (hx.ne h.ow), h.ln, h.lo.trans (gwTo g (by omega) (by have := hx.lt; omega)), e, l1, l2⟩
theorem DL.fin4 {P : Nat} {v0 v1 v2 v3 x0 x1 x2 x3 v : Value} {el : List Wt} (h : DL w X N SB L B s c t a len cap k y va n vc q) (ho : OwnWt X (B + 1) v el) (hx : BXE X P v0 v1 v2 v3) (hP : B < P) : OwnWt ((((X.setCell ⟨P, 0, none⟩ x0).setCell ⟨P, 1, none⟩ x1).setCell ⟨P, 2, none⟩ x2).setCell ⟨P, 3, none⟩ x3) (B + 1) v el ∧ DL w ((((X.setCell ⟨P, 0, none⟩ x0).setCell ⟨P, 1, none⟩ x1).setCell ⟨P, 2, none⟩ x2).setCell ⟨P, 3, none⟩ x3) N SB L B s c t a len cap k y va n vc q ∧ D4 ((((X.setCell ⟨P, 0, none⟩ x0).setCell ⟨P, 1, none⟩ x1).setCell ⟨P, 2, none⟩ x2).setCell ⟨P, 3, none⟩ x3) P x0 x1 x2 x3 :=
  ⟨ho.gwX (gwTrans (gwTrans (gwTrans (gwSet _ _ _ _) (gwSet _ _ _ _)) (gwSet _ _ _ _)) (gwSet _ _ _ _)) (hx.ne ho), h.put4 hx hP, hx.d4.put _ _ _ _⟩
/-- The cells of a list of numbers that was laid. -/
def LCN (X : World) (M : Nat) (vs : Array Value) : Prop := X.heap[M]? = some (.cells vs 2)
theorem LCN.new (X : World) (vs : Array Value) : LCN (X.alloc (.cells vs 2)) X.heap.size vs := heap_alloc_new _ _
theorem LCN.new1 (X : World) (o : Obj) (vs : Array Value) : LCN ((X.alloc o).alloc (.cells vs 2)) (X.heap.size + 1) vs := by
  have h := LCN.new (X.alloc o) vs
  rwa [show (X.alloc o).heap.size = X.heap.size + 1 by simp] at h
theorem LCN.lt {M : Nat} {vs : Array Value} (h : LCN X M vs) : M < X.heap.size := (Array.getElem?_eq_some_iff.1 h).1
theorem LCN.al {M : Nat} {vs : Array Value} {o : Obj} (h : LCN X M vs) : LCN (X.alloc o) M vs := by
  have b : Below X.heap.size X (X.alloc o) := (Below.refl _ _).alloc (Nat.le_refl _) _
  unfold LCN; rw [b.block M h.lt]; exact h
theorem LCN.drw {M : Nat} {vs : Array Value} (h : LCN X M vs) : LCN X.drew M vs := h
theorem LCN.ap {M : Nat} {vs : Array Value} (ha : ApartH SB X Y) (h : LCN X M vs) (hM : M ≠ SB) : LCN Y M vs := by
  unfold LCN; rw [ha.block M h.lt hM]; exact h
theorem LCN.cells {M : Nat} {vs : Array Value} (h : LCN X M vs) (xs : List Int) (e : vs = (xs.map (Value.int .i64)).toArray) : ∀ i x, xs[i]? = some x → X.cell? ⟨M, i, none⟩ = some (.int .i64 x) := by
  intro i x hx
  subst e
  have h' : X.heap[M]? = some (.cells (xs.map (Value.int .i64)).toArray 2) := h
  simp [World.cell?, h', hx]
theorem enter_small {y s c t x now : Int} {l : List Wt} (h : (enterR y l s c t x now).c = 0) : (0 ≤ (enterR y l s c t x now).y ∧ (enterR y l s c t x now).y ≤ 8) ∧ (enterR y l s c t x now).l.length ≤ 8 := by
  unfold enterR at h ⊢
  split
  · rename_i h0
    have g := goodB_of h0
    have g1 := g.hs
    have g2 := g.hc
    have g3 := g.hy
    have g4 := g.hl
    split
    · split
      · simp
      · split
        · exact ⟨by simp only []; omega, by simp only []; omega⟩
        · split
          · simp
          · exact ⟨by simp only []; omega, by simp only [List.length_append, List.length_cons, List.length_nil]; omega⟩
    · simp
  · simp
end
def SBL (Z : World) (B L : Nat) (y : Int) (va : Option Addr) (n vc : Nat) (s c t : Int) : Prop := Z.cell? ⟨B, 0, none⟩ = some (.int .i64 y) ∧ Z.cell? ⟨B, 1, none⟩ = some (.slice va n vc) ∧ Z.cell? ⟨L, 0, none⟩ = some (.int .i64 s) ∧ Z.cell? ⟨L, 1, none⟩ = some (.int .i64 c) ∧ Z.cell? ⟨L, 2, none⟩ = some (.int .i64 t)
theorem SBL.off {Z : World} {B L M i : Nat} {z : Value} {y : Int} {va : Option Addr} {n vc : Nat} {s c t : Int} (h : SBL Z B L y va n vc s c t) (h1 : ¬ M = B) (h2 : ¬ M = L) : SBL (Z.setCell ⟨M, i, none⟩ z) B L y va n vc s c t := by
  have e1 : ∀ j : Nat, (Z.setCell ⟨M, i, none⟩ z).cell? ⟨B, j, none⟩ = Z.cell? ⟨B, j, none⟩ := fun j => World.cell?_setCell_other _ _ _ _ (fun e => h1 (congrArg Addr.block e))
  have e2 : ∀ j : Nat, (Z.setCell ⟨M, i, none⟩ z).cell? ⟨L, j, none⟩ = Z.cell? ⟨L, j, none⟩ := fun j => World.cell?_setCell_other _ _ _ _ (fun e => h2 (congrArg Addr.block e))
  unfold SBL
  simp only [e1, e2]
  exact h
/-- A bulkhead, its lanes and the source behind them. -/
def BentL (w w' : World) (N : Nat) (a : Option Addr) (len cap : Nat) (e : Ending) : Prop := ∃ (y s c t : Int) (va : Option Addr) (n vc : Nat) (q : List Wt) (k : Nat), e = .returned (.tuple #[.agg #[.int .i64 y, .slice va n vc], .agg #[.int .i64 s, .int .i64 c, .int .i64 t], .pointer (some ⟨N + 2, 0, none⟩)]) ∧ q.length = n ∧ n ≤ 9 ∧ k ≤ 100 ∧ FinL w w' N (N + 2) a len cap k va n vc q
theorem BentL.mk {w w' : World} {N : Nat} {a : Option Addr} {len cap : Nat} {y s c t : Int} {va : Option Addr} {n vc : Nat} {q : List Wt} {k : Nat} (h1 : q.length = n) (h2 : n ≤ 9) (h4 : k ≤ 100) (h5 : FinL w w' N (N + 2) a len cap k va n vc q) : BentL w w' N a len cap (.returned (.tuple #[.agg #[.int .i64 y, .slice va n vc], .agg #[.int .i64 s, .int .i64 c, .int .i64 t], .pointer (some ⟨N + 2, 0, none⟩)])) := ⟨y, s, c, t, va, n, vc, q, k, rfl, h1, h2, h4, h5⟩
theorem bytesW_of_code {w : World} {B : Nat} {a : Option Addr} {len : Nat} (h : CodeRow w B a len) : ∃ l : List UInt8, l.length = len ∧ DIn w a l := by
  rcases h with h | ⟨b, off, rfl, hlt, f, hf⟩
  · exact ⟨[], h.symm, .inl rfl⟩
  · refine ⟨(List.range len).map fun i => UInt8.ofNat (f i).toNat, by simp, .inr ⟨b, off, rfl, fun i u hu => ?_⟩⟩
    rw [List.getElem?_map, Option.map_eq_some_iff] at hu
    obtain ⟨j, hj, rfl⟩ := hu
    obtain ⟨hlt2, rfl⟩ := List.getElem?_eq_some_iff.1 hj
    simp only [List.length_range] at hlt2
    simp only [List.getElem_range]
    obtain ⟨e, p0, p1⟩ := hf i hlt2
    rw [e]
    have : (UInt8.ofNat (f i).toNat).toNat = (f i).toNat := by rw [UInt8.toNat_ofNat']; omega
    rw [this, Int.toNat_of_nonneg p0]
theorem codeW_of_row {w : World} {base : Nat} {va : Option Addr} {m vc : Nat} {l : List UInt8} (hl : l.length = m) (h : w.ownsRow base 5 1 (.slice va m vc) m (dBytes l)) : CodeRow w w.heap.size va m := by
  by_cases h0 : m = 0
  · exact .inl h0
  · have hx := h
    obtain ⟨_, h1 | ⟨g, c, cur, e, hg, hh, _⟩⟩ := h
    · exact absurd h1.2 h0
    · simp only [Value.slice.injEq] at e
      obtain ⟨rfl, _, rfl⟩ := e
      refine .inr ⟨g, 0, rfl, (Array.getElem?_eq_some_iff.1 hh).1, fun i => ((l.getD i 0).toNat : Int), fun i hi => ?_⟩
      have c0 := World.ownsRow.cellAt hx i (by omega)
      rw [Nat.zero_add, c0]
      have hi2 : i < l.length := by omega
      refine ⟨?_, by show (0 : Int) ≤ ((l.getD i 0).toNat : Int); omega, ?_⟩
      · simp [dBytes, List.getElem?_eq_getElem hi2]
      · have := (l.getD i 0).toNat_lt; show ((l.getD i 0).toNat : Int) ≤ 255; omega
theorem butLast_two {P : Program} {ops : Array Oper} {Q : Exit → Act → World → Prop} {S : World → Prop} {m i j n : Nat} {oi oj : Oper} {done : Array Bool} {a : Act} {w : World} (hi : ops[i]? = some oi) (hj : ops[j]? = some oj) (hr : Region.ready .any ops done = [i, j])
    (h1 : ∀ K : Act → World → Prop, (∀ a' w', (i = m ∨ S w') → butLast P ops Q S m n (done.setIfInBounds i true) a' w' → K a' w') → if Region.wanted oi (yielded ops a.tmps) = true then Oper.wp P oi a w K Q else K (a.put oi.dst undef) w)
    (h2 : ∀ K : Act → World → Prop, (∀ a' w', (j = m ∨ S w') → butLast P ops Q S m n (done.setIfInBounds j true) a' w' → K a' w') → if Region.wanted oj (yielded ops a.tmps) = true then Oper.wp P oj a w K Q else K (a.put oj.dst undef) w) :
    butLast P ops Q S m (n + 1) done a w := by
  refine ⟨fun z => (by rw [z] at hr; cases hr), fun x hx => ?_⟩
  rw [hr, List.mem_cons, List.mem_singleton] at hx
  rcases hx with rfl | rfl
  · exact wpOp_step hi fun K hK => h1 K fun a' w' h1 h2 => hK a' w' ⟨h1, h2⟩
  · exact wpOp_step hj fun K hK => h2 K fun a' w' h1 h2 => hK a' w' ⟨h1, h2⟩
set_option linter.unusedSimpArgs false in
set_option maxRecDepth 100000 in
set_option maxHeartbeats 32000000 in
theorem l11Bent_any (w : World) (a : Option Addr) (len cap : Nat) (N : Nat) (hN : w.heap.size = N) (hc : CodeRow w N a len) (hl3 : len ≤ 1048576) :
    Calls Try.prog 38 #[.slice a len cap] w fun e w' => BentL w w' N a len cap e := by
  have hl2 : len ≤ 1048577 := by omega
  have HC := rulW hc
  obtain ⟨i0, hi0, hz0, hz1, hz2⟩ := info_parts dByteI
  have HI0 := rulW hi0
  have HZ0 := rulW hz0
  have HZ1 := rulW hz1
  have HZ2 := rulW hz2
  clear hi0 hz0 hz1 hz2
  obtain ⟨V1, hV1⟩ : ∃ V, V = w.alloc (.cells #[.int .i64 0, .slice none 0 0] 26) := ⟨_, rfl⟩
  obtain ⟨V2, hV2⟩ : ∃ V, V = V1.alloc (.cells #[.int .i64 0, .int .i64 0, .int .i64 0] 28) := ⟨_, rfl⟩
  have z1 : V1.heap.size = N + 1 := by rw [hV1, ← hN]; simp
  have z2 : V2.heap.size = N + 2 := by rw [hV2]; simp [z1]
  have b1 : Below w.heap.size w V1 := by rw [hV1]; exact (Below.refl _ _).alloc (Nat.le_refl _) _
  have b2 : Below V1.heap.size V1 V2 := by rw [hV2]; exact (Below.refl _ _).alloc (Nat.le_refl _) _
  have b12 : Below N w V2 := by rw [← hN]; exact b1.trans (b2.mono b1.size)
  have q0 : D2 V2 N (.int .i64 0) (.slice none 0 0) := by
    have := D2.new w (.int .i64 0) (.slice none 0 0) 26
    rw [← hV1, hN] at this
    exact this.keep b2
  have q1 : D3 V2 (N + 1) (.int .i64 0) (.int .i64 0) (.int .i64 0) := by
    have := D3.new V1 (.int .i64 0) (.int .i64 0) (.int .i64 0) 28
    rw [← hV2, z1] at this
    exact this
  have HSR : Hid (Calls Try.prog 78 #[.slice a len cap] V2 fun e w' => e = .returned (.pointer (some ⟨N + 2, 0, none⟩)) ∧ Src w' (N + 2) a len cap 0 ∧ Below (N + 2) V2 w') := by
    have := l1Source_any V2 a len cap ((hc.below b12).mono (by omega))
    rw [z2] at this
    exact this
  have HB := rulW b12
  have HQ := rulW (show D2 V2 N (.int .i64 0) (.slice none 0 0) ∧ D3 V2 (N + 1) (.int .i64 0) (.int .i64 0) (.int .i64 0) from ⟨q0, q1⟩)
  have HV1 := rulW hV1
  have HV2 := rulW hV2
  clear b1 b2 b12 q0 q1 hV1 hV2 hc z1 z2
  go_enter Try.func38, Try.ntmps38
  go_upto_region 1 with fail
  rw [← HV1.out, ← HV2.out]
  clear HV1 HV2
  go_wp2_with fail
  refine HSR.out.mono ?_
  rintro r w1 ⟨rfl, hs1, hb1⟩
  have HX1 := rulW (show Src w1 (N + 2) a len cap 0 ∧ D2 w1 N (.int .i64 0) (.slice none 0 0) ∧ D3 w1 (N + 1) (.int .i64 0) (.int .i64 0) (.int .i64 0) ∧ Below N w w1 from ⟨hs1, HQ.out.1.low hb1 (by omega), HQ.out.2.low hb1 (by omega), HB.out.trans (hb1.mono (by omega))⟩)
  clear hs1 hb1 HSR HB HQ
  go_wp2_with fail
  refine (l11Lanes_any _ (N + 2) a len cap 0 HX1.out.1 (by omega) hl2).mono ?_
  rintro r w2 ⟨⟨s, c, t, rfl⟩, hs2, hb2, ha2⟩
  obtain ⟨L, hL⟩ : ∃ L, w2.heap.size = L := ⟨_, rfl⟩
  have hlt2 : N + 2 < L := by rw [← hL]; exact hs2.lt
  obtain ⟨V3, hV3⟩ : ∃ V, V = w2.alloc (.cells #[.int .i64 s, .int .i64 c, .int .i64 t] 28) := ⟨_, rfl⟩
  obtain ⟨V4, hV4⟩ : ∃ V, V = V3.alloc (.cells #[.int .i64 0, .slice none 0 0] 26) := ⟨_, rfl⟩
  have z3 : V3.heap.size = L + 1 := by rw [hV3, ← hL]; simp
  have J0 : Hid (DL w V4 N (N + 2) L (L + 1) s c t a len cap 3 0 none 0 0 []) := by
    have b3 : Below w2.heap.size w2 V3 := by rw [hV3]; exact (Below.refl _ _).alloc (Nat.le_refl _) _
    have b4 : Below V3.heap.size V3 V4 := by rw [hV4]; exact (Below.refl _ _).alloc (Nat.le_refl _) _
    have b34 := b3.trans (b4.mono b3.size)
    have s3 : D3 V3 L (.int .i64 s) (.int .i64 c) (.int .i64 t) := by rw [hV3, ← hL]; exact D3.new w2 _ _ _ _
    have s4 : D2 V4 (L + 1) (.int .i64 0) (.slice none 0 0) := by rw [hV4, ← z3]; exact D2.new V3 _ _ _
    exact ⟨hs2.below (b34.mono hs2.lt), (HX1.out.2.1.apart ha2 (by omega)).keep b34, (HX1.out.2.2.1.apart ha2 (by omega)).keep b34, s3.keep b4, s4, OwnWt.none0 _ _, rfl, (HX1.out.2.2.2.trans (hb2.mono (by omega))).trans (b34.mono (by omega)), rfl, hlt2, by omega⟩
  have HV3 := rulW hV3
  have HV4 := rulW hV4
  clear hs2 hb2 ha2 hV3 hV4 HX1
  go_upto_region 3 with fail
  try simp only [hL]
  rw [← HV3.out]
  clear HV3 hL
  go_upto_region 4 with fail
  try simp only [z3]
  rw [← HV4.out]
  clear HV4 z3
  obtain ⟨SB, hSB⟩ : ∃ SB, N + 2 = SB := ⟨_, rfl⟩
  obtain ⟨B, hB⟩ : ∃ B, L + 1 = B := ⟨_, rfl⟩
  rw [hSB, hB] at J0
  try simp only [hSB, hB]
  have HSB := rulW hSB
  have HLB : Hid (L < B) := by show _ < _; omega
  clear hSB hB
  go_wp2_with fail
  refine (l1Next_h _ SB a len cap 3 12 J0.out.sr (by omega) (by omega) (by omega) hl2).mono ?_
  rintro r w5 ⟨⟨v, v0, v1, rfl⟩, hs1, hb1, ha1⟩
  have J1 := rulW (J0.out.step hs1 hb1 ha1)
  clear hs1 hb1 ha1 J0
  go_wp2_with fail
  go_loopw [8] (fun i X => ∃ (M k : Nat) (y : Int) (va : Option Addr) (n vc : Nat) (q : List Wt), i = .int .i64 (M : Int) ∧ M ≤ 12 ∧ k + 3 * M ≤ 60 ∧ (0 ≤ y ∧ y ≤ 8) ∧ n ≤ 8 ∧ DL w X N SB L B s c t a len cap k y va n vc q) (fun i _ => (intOf i).toNat)
  case atStart => exact ⟨v.toNat, 4, 0, none, 0, 0, [], by rw [Int.toNat_of_nonneg v0], by omega, by omega, by omega, by omega, J1.out⟩
  case round =>
    obtain ⟨M, k, y, va, n, vc, q, rfl, hM12, hkM, hy, hn8, hJ⟩ := hrel
    have JR := rulW hJ
    clear J1 v0 v1 hJ
    cases M with
    | succ M =>
      have gN : (0 : Int) < ((M + 1 : Nat) : Int) := by omega
      have HY := rulW (show (0 ≤ y ∧ y ≤ 8) ∧ n ≤ 8 from ⟨hy, hn8⟩)
      have HN : Hid (∀ X, DL w X N SB L B s c t a len cap k y va n vc q → Calls Try.prog 57 #[.pointer (some ⟨SB, 0, none⟩), .int .i64 12] X fun e w' => (∃ v : Int, e = .returned (.int .i64 v)) ∧ DL w w' N SB L B s c t a len cap (k + 1) y va n vc q ∧ ApartH SB X w') := fun X h => (l1Next_h X SB a len cap k 12 h.sr (by omega) (by omega) (by omega) hl2).mono fun _ _ ⟨⟨v, _, _, h1⟩, h2, h3, h4⟩ => ⟨⟨v, h1⟩, h.step h2 h3 h4, h4⟩
      have HP : Hid (∀ X M, DL w X N SB L B s c t a len cap (k + 1) y va n vc q → LCN X M #[.int .i64 0, .int .i64 100, .int .i64 900] → Calls Try.prog 39 #[.pointer (some ⟨SB, 0, none⟩), .slice (some ⟨M, 0, none⟩) 3 3] X fun e w' => (∃ v : Int, e = .returned (.int .i64 v)) ∧ DL w w' N SB L B s c t a len cap (k + 2) y va n vc q ∧ ApartH SB X w') := fun X M h hl => by
        have hMS : M ≠ SB := fun e => by
          have h0 := h.sr.c0
          have h1 := hl.cells [0, 100, 900] rfl 0 0 rfl
          rw [e, h0] at h1
          cases h1
        refine (l1Pick_any X SB a len cap (k + 1) h.sr M [0, 100, 900] hMS 3 rfl (hl.cells [0, 100, 900] rfl) (by omega) (by omega) (by omega) hl2).mono fun _ w' ⟨⟨v, _, h1⟩, h2⟩ => ?_
        obtain ⟨hs, hb⟩ := h.sr.stepped h2
        exact ⟨⟨v, h1⟩, h.step hs hb (ApartH.stepped h2), ApartH.stepped h2⟩
      have HE : Hid (∀ X x1 x2, DL w X N SB L B s c t a len cap (k + 2) y va n vc q → Calls Try.prog 10 #[.agg #[.int .i64 y, .slice va n vc], .agg #[.int .i64 s, .int .i64 c, .int .i64 t], .int .i64 x1, .int .i64 x2] X fun e w' => (∃ (ec ey : Int) (ea : Option Addr) (en ek : Nat) (el : List Wt) (eu : Bool), e = .returned (.agg #[.int .i64 ec, .int .i64 ey, .slice ea en ek, .bool eu]) ∧ el.length = en ∧ OwnWt w' (B + 1) (.slice ea en ek) el ∧ (ec = 0 → (0 ≤ ey ∧ ey ≤ 8) ∧ en ≤ 8)) ∧ DL w w' N SB L B s c t a len cap (k + 2) y va n vc q ∧ ApartH SB X w') := fun X x1 x2 h => by
        obtain ⟨z1, z2, z3, _, z4⟩ := h.ow.in
        simp only [Value.slice.injEq] at z3
        have z := specEnterO_any X y va vc q s c t x1 x2 (by have := h.ln; have := HY.out; omega) (by rw [z3.1]; exact z4)
        rw [h.ln] at z
        refine z.mono fun _ w' ⟨⟨ea, ek, h1, h2, _⟩, h3⟩ => ⟨⟨_, _, ea, _, ek, _, _, h1, rfl, h2.lower (by have := h.bu.lt; omega), fun h0 => enter_small h0⟩, h.keep h3, .below h3⟩
      have HKC : Hid (∀ X kk, DL w X N SB L B s c t a len cap kk y va n vc q → X.cell? ⟨B, 0, none⟩ = some (.int .i64 y) ∧ X.cell? ⟨B, 1, none⟩ = some (.slice va n vc) ∧ X.cell? ⟨L, 0, none⟩ = some (.int .i64 s) ∧ X.cell? ⟨L, 1, none⟩ = some (.int .i64 c) ∧ X.cell? ⟨L, 2, none⟩ = some (.int .i64 t)) := fun X kk h => ⟨h.bu.c0, h.bu.c1, h.la.c0, h.la.c1, h.la.c2⟩
      have hLE : ∀ X : World, X.heap.size = X.heap.size := fun _ => rfl
      have SR := rulW (show B < wr.heap.size ∧ SB < B from ⟨JR.out.bu.lt, by have := JR.out.lt; omega⟩)
      clear hLE hy hn8
      go_wp2_with fail
      go_cut [9] from 21 to 28 (fun p wx => ∃ (P : Nat) (ec ey : Int) (ea : Option Addr) (en ek : Nat) (el : List Wt) (eu : Bool), p = .pointer (some ⟨P, 0, none⟩) ∧ B < P ∧ el.length = en ∧ (ec = 0 → (0 ≤ ey ∧ ey ≤ 8) ∧ en ≤ 8) ∧ OwnWt wx (B + 1) (.slice ea en ek) el ∧ DL w wx N SB L B s c t a len cap (k + 2) y va n vc q ∧ D4 wx P (.int .i64 ec) (.int .i64 ey) (.slice ea en ek) (.bool eu))
      case first =>
        go_region_held3 (fun X => X.cell? ⟨B, 0, none⟩ = some (.int .i64 y) ∧ X.cell? ⟨B, 1, none⟩ = some (.slice va n vc) ∧ X.cell? ⟨L, 0, none⟩ = some (.int .i64 s) ∧ X.cell? ⟨L, 1, none⟩ = some (.int .i64 c) ∧ X.cell? ⟨L, 2, none⟩ = some (.int .i64 t))
          (first | ((with_reducible refine HKC.out _ k ?_); (repeat (first | with_reducible exact JE.out | with_reducible exact JP.out | with_reducible exact JA.out | with_reducible exact JR.out | with_reducible refine DL.al ?_ | with_reducible refine DL.drw ?_)); done) | ((with_reducible refine HKC.out _ (k + 1) ?_); (repeat (first | with_reducible exact JE.out | with_reducible exact JP.out | with_reducible exact JA.out | with_reducible exact JR.out | with_reducible refine DL.al ?_ | with_reducible refine DL.drw ?_)); done) | ((with_reducible refine HKC.out _ (k + 2) ?_); (repeat (first | with_reducible exact JE.out | with_reducible exact JP.out | with_reducible exact JA.out | with_reducible exact JR.out | with_reducible refine DL.al ?_ | with_reducible refine DL.drw ?_)); done) | ((with_reducible refine HKC.out _ (k + 2) ?_); (with_reducible refine DL.put4 JE.out HBX.out (by first | (have := SR.out; omega) | (have := SA.out; have := SR.out; omega) | (have := SP.out; have := SR.out; omega) | (have := SE.out; have := SR.out; omega))); done))
          (first
          | (go_at_call 57; (with_reducible refine (HN.out _ ?_).mono ?_); (repeat (first | with_reducible exact JE.out | with_reducible exact JP.out | with_reducible exact JA.out | with_reducible exact JR.out | with_reducible refine DL.al ?_ | with_reducible refine DL.drw ?_)); rintro r wa ⟨⟨x1, rfl⟩, jd, ja⟩; have JA := rulW jd; have AA := rulW ja; have SA := rulW jd.bu.lt; clear jd ja)
          | (go_at_call 39; (with_reducible refine (HP.out _ _ ?_ ?_).mono ?_); (repeat (first | with_reducible exact JE.out | with_reducible exact JP.out | with_reducible exact JA.out | with_reducible exact JR.out | with_reducible refine DL.al ?_ | with_reducible refine DL.drw ?_)); (repeat (first | with_reducible exact LCN.new _ _ | with_reducible exact LCN.new1 _ _ _ | with_reducible refine LCN.ap AP.out ?_ (by first | (have := SR.out; omega) | (have := SA.out; have := SR.out; omega) | (have := SP.out; have := SR.out; omega) | (have := SE.out; have := SR.out; omega)) | with_reducible refine LCN.ap AA.out ?_ (by first | (have := SR.out; omega) | (have := SA.out; have := SR.out; omega) | (have := SP.out; have := SR.out; omega) | (have := SE.out; have := SR.out; omega)) | with_reducible refine LCN.al ?_ | with_reducible refine LCN.drw ?_)); rintro r wb ⟨⟨x2, rfl⟩, jd, ja⟩; have JP := rulW jd; have AP := rulW ja; have SP := rulW jd.bu.lt; clear jd ja)
          | (go_at_call 10; (with_reducible refine (HE.out _ _ _ ?_).mono ?_); (repeat (first | with_reducible exact JE.out | with_reducible exact JP.out | with_reducible exact JA.out | with_reducible exact JR.out | with_reducible refine DL.al ?_ | with_reducible refine DL.drw ?_)); rintro r we ⟨⟨ec, ey, ea, en, ek, el, eu, rfl, hel, heo, hez⟩, jd, ja⟩; have JE := rulW jd; have AE := rulW ja; have SE := rulW jd.bu.lt; have HEO := rulW heo; have HEZ := rulW hez; clear jd ja heo hez; (first | (refine useB (p := BXE we wr.heap.size (.int .i64 0) (.int .i64 0) (.slice none 0 0) (.bool false)) ?_ ?_; (focus ((repeat (first | with_reducible exact BXE.new _ _ _ _ _ | with_reducible exact BXE.new1 _ _ _ _ _ _ | with_reducible refine BXE.ap AE.out ?_ (by first | (have := SR.out; omega) | (have := SA.out; have := SR.out; omega) | (have := SP.out; have := SR.out; omega) | (have := SE.out; have := SR.out; omega)) | with_reducible refine BXE.ap AP.out ?_ (by first | (have := SR.out; omega) | (have := SA.out; have := SR.out; omega) | (have := SP.out; have := SR.out; omega) | (have := SE.out; have := SR.out; omega)) | with_reducible refine BXE.ap AA.out ?_ (by first | (have := SR.out; omega) | (have := SA.out; have := SR.out; omega) | (have := SP.out; have := SR.out; omega) | (have := SE.out; have := SR.out; omega)) | with_reducible refine BXE.al ?_ | with_reducible refine BXE.drw ?_)); done)); intro hbx) | (refine useB (p := BXE we (wr.heap.size + 1) (.int .i64 0) (.int .i64 0) (.slice none 0 0) (.bool false)) ?_ ?_; (focus ((repeat (first | with_reducible exact BXE.new _ _ _ _ _ | with_reducible exact BXE.new1 _ _ _ _ _ _ | with_reducible refine BXE.ap AE.out ?_ (by first | (have := SR.out; omega) | (have := SA.out; have := SR.out; omega) | (have := SP.out; have := SR.out; omega) | (have := SE.out; have := SR.out; omega)) | with_reducible refine BXE.ap AP.out ?_ (by first | (have := SR.out; omega) | (have := SA.out; have := SR.out; omega) | (have := SP.out; have := SR.out; omega) | (have := SE.out; have := SR.out; omega)) | with_reducible refine BXE.ap AA.out ?_ (by first | (have := SR.out; omega) | (have := SA.out; have := SR.out; omega) | (have := SP.out; have := SR.out; omega) | (have := SE.out; have := SR.out; omega)) | with_reducible refine BXE.al ?_ | with_reducible refine BXE.drw ?_)); done)); intro hbx) | (refine useB (p := BXE we wa.heap.size (.int .i64 0) (.int .i64 0) (.slice none 0 0) (.bool false)) ?_ ?_; (focus ((repeat (first | with_reducible exact BXE.new _ _ _ _ _ | with_reducible exact BXE.new1 _ _ _ _ _ _ | with_reducible refine BXE.ap AE.out ?_ (by first | (have := SR.out; omega) | (have := SA.out; have := SR.out; omega) | (have := SP.out; have := SR.out; omega) | (have := SE.out; have := SR.out; omega)) | with_reducible refine BXE.ap AP.out ?_ (by first | (have := SR.out; omega) | (have := SA.out; have := SR.out; omega) | (have := SP.out; have := SR.out; omega) | (have := SE.out; have := SR.out; omega)) | with_reducible refine BXE.ap AA.out ?_ (by first | (have := SR.out; omega) | (have := SA.out; have := SR.out; omega) | (have := SP.out; have := SR.out; omega) | (have := SE.out; have := SR.out; omega)) | with_reducible refine BXE.al ?_ | with_reducible refine BXE.drw ?_)); done)); intro hbx) | (refine useB (p := BXE we (wa.heap.size + 1) (.int .i64 0) (.int .i64 0) (.slice none 0 0) (.bool false)) ?_ ?_; (focus ((repeat (first | with_reducible exact BXE.new _ _ _ _ _ | with_reducible exact BXE.new1 _ _ _ _ _ _ | with_reducible refine BXE.ap AE.out ?_ (by first | (have := SR.out; omega) | (have := SA.out; have := SR.out; omega) | (have := SP.out; have := SR.out; omega) | (have := SE.out; have := SR.out; omega)) | with_reducible refine BXE.ap AP.out ?_ (by first | (have := SR.out; omega) | (have := SA.out; have := SR.out; omega) | (have := SP.out; have := SR.out; omega) | (have := SE.out; have := SR.out; omega)) | with_reducible refine BXE.ap AA.out ?_ (by first | (have := SR.out; omega) | (have := SA.out; have := SR.out; omega) | (have := SP.out; have := SR.out; omega) | (have := SE.out; have := SR.out; omega)) | with_reducible refine BXE.al ?_ | with_reducible refine BXE.drw ?_)); done)); intro hbx) | (refine useB (p := BXE we wb.heap.size (.int .i64 0) (.int .i64 0) (.slice none 0 0) (.bool false)) ?_ ?_; (focus ((repeat (first | with_reducible exact BXE.new _ _ _ _ _ | with_reducible exact BXE.new1 _ _ _ _ _ _ | with_reducible refine BXE.ap AE.out ?_ (by first | (have := SR.out; omega) | (have := SA.out; have := SR.out; omega) | (have := SP.out; have := SR.out; omega) | (have := SE.out; have := SR.out; omega)) | with_reducible refine BXE.ap AP.out ?_ (by first | (have := SR.out; omega) | (have := SA.out; have := SR.out; omega) | (have := SP.out; have := SR.out; omega) | (have := SE.out; have := SR.out; omega)) | with_reducible refine BXE.ap AA.out ?_ (by first | (have := SR.out; omega) | (have := SA.out; have := SR.out; omega) | (have := SP.out; have := SR.out; omega) | (have := SE.out; have := SR.out; omega)) | with_reducible refine BXE.al ?_ | with_reducible refine BXE.drw ?_)); done)); intro hbx) | (refine useB (p := BXE we (wb.heap.size + 1) (.int .i64 0) (.int .i64 0) (.slice none 0 0) (.bool false)) ?_ ?_; (focus ((repeat (first | with_reducible exact BXE.new _ _ _ _ _ | with_reducible exact BXE.new1 _ _ _ _ _ _ | with_reducible refine BXE.ap AE.out ?_ (by first | (have := SR.out; omega) | (have := SA.out; have := SR.out; omega) | (have := SP.out; have := SR.out; omega) | (have := SE.out; have := SR.out; omega)) | with_reducible refine BXE.ap AP.out ?_ (by first | (have := SR.out; omega) | (have := SA.out; have := SR.out; omega) | (have := SP.out; have := SR.out; omega) | (have := SE.out; have := SR.out; omega)) | with_reducible refine BXE.ap AA.out ?_ (by first | (have := SR.out; omega) | (have := SA.out; have := SR.out; omega) | (have := SP.out; have := SR.out; omega) | (have := SE.out; have := SR.out; omega)) | with_reducible refine BXE.al ?_ | with_reducible refine BXE.drw ?_)); done)); intro hbx) | skip); (try (have f0 := hbx.d4.fr 0; have f1 := hbx.d4.fr 1; have f2 := hbx.d4.fr 2; have f3 := hbx.d4.fr 3; have p0 := hbx.d4.c0; have p1 := hbx.d4.c1; have p2 := hbx.d4.c2; have p3 := hbx.d4.c3; have HBX := rulW hbx; clear hbx))))
        all_goals
          go_wp2_with fail
          go_meet
          first
          | exact ⟨we.heap.size, ec, ey, ea, en, ek, el, eu, rfl, SE.out, hel, HEZ.out, HEO.out.below ((Below.refl _ _).alloc (Nat.le_refl _) _), JE.out.al, D4.new we _ _ _ _ _⟩
          | exact ⟨_, ec, ey, ea, en, ek, el, eu, rfl, (by first | (have := SR.out; omega) | (have := SA.out; have := SR.out; omega) | (have := SP.out; have := SR.out; omega) | (have := SE.out; have := SR.out; omega)), hel, HEZ.out, DL.fin4 JE.out HEO.out HBX.out (by first | (have := SR.out; omega) | (have := SA.out; have := SR.out; omega) | (have := SP.out; have := SR.out; omega) | (have := SE.out; have := SR.out; omega))⟩
      case rest =>
        obtain ⟨P, ec, ey, ea, en, ek, el, eu, rfl, hBP, hel, hez, heo, hdl, hd4⟩ := hcut
        have JX := rulW hdl
        have HEO := rulW heo
        have HD4 := rulW hd4
        have HEL := rulW hel
        have HEZ := rulW hez
        clear HN HP HE HKC SR JR heo hdl hd4 hel hez
        generalize wc = w5 at *
        clear wr
        obtain ⟨d0, d1, d2, d3, df, _⟩ := HD4.out
        by_cases h0 : ec = 0
        · subst h0
          obtain ⟨b0, b1, bf, _⟩ := JX.out.bu
          have bf0 := bf 0
          have bf1 := bf 1
          clear bf df
          have J2 := rulW (DL.put (y' := ey) JX.out HEO.out HEL.out)
          have HB2 := HEZ.out rfl
          obtain ⟨W2, hW2⟩ : ∃ W, W = (w5.setCell ⟨B, 0, none⟩ (.int .i64 ey)).setCell ⟨B, 1, none⟩ (.slice ea en ek) := ⟨_, rfl⟩
          rw [← hW2] at J2
          have HW2 := rulW hW2
          have hPB : ¬ P = B := by omega
          have hBP' : ¬ B = P := by omega
          clear hW2 JX HEO HD4 HEL HEZ HY
          go_upto_region 10 with fail
          rw [← HW2.out]
          clear HW2 d0 d1 d2 d3 b0 b1 bf0 bf1
          obtain ⟨b0, b1, _, _⟩ := J2.out.bu
          by_cases hy0 : 0 < ey
          · have hd0 : decide (0 < ey) = true := by simpa using hy0
            go_wp2_with fail
            refine (l1Chance_h _ SB a len cap (k + 2) 5 J2.out.sr (by omega) (by omega) (by omega) hl2).mono ?_
            rintro r w6 ⟨⟨b5, rfl⟩, hs1, hb1, ha1⟩
            have J6 := rulW (J2.out.step hs1 hb1 ha1)
            clear hs1 hb1 ha1 J2 b0 b1
            cases b5
            · go_wp2_with fail
              go_roundw
              case rel => exact ⟨M, k + 3, ey, ea, en, ek, el, by go_num, by omega, by omega, HB2.1, HB2.2, J6.out⟩
              case measure => simp [intOf]
            · have HLV : Hid (Calls Try.prog 53 #[.pointer (some ⟨B, 0, none⟩)] w6 fun e w' => LeftO w6 w' B (B + 1) ey el e) := by
                obtain ⟨z1, z2, z3, _, z4⟩ := J6.out.ow.in
                simp only [Value.slice.injEq] at z3
                have hln := J6.out.ln
                refine specLeftO_any w6 B (B + 1) ey ea ek el ⟨by omega, HB2.1.2⟩ (by have := HB2.2; omega) ?_ (by have := J6.out.bu.lt; omega) ?_ (by rw [z3.1]; exact z4) ?_ ?_
                · rw [hln]; exact J6.out.ow.cap
                · rw [hln]; exact J6.out.bu
                · rw [hln]; exact J6.out.ow
                · intro G hG e
                  rw [hln] at hG
                  have := row_ge J6.out.ow G hG
                  omega
              go_wp2_with fail
              refine HLV.out.mono ?_
              rintro r w7 ⟨a2, c2, rfl, h2, ho, _, hg⟩
              have J7 := rulW (J6.out.turn h2 ho rfl hg)
              have hb8 : 0 ≤ busyW ey el ∧ busyW ey el ≤ 8 := by
                cases el with
                | nil => simp only [busyW]; omega
                | cons z zs => simp only [busyW]; exact HB2.1
              have ht8 : (el).tail.length ≤ 8 := by have h1 := J6.out.ln; have h2 := HB2.2; rw [List.length_tail]; omega
              clear h2 ho hg J6 HLV
              generalize busyW ey el = by2 at *
              generalize (el).tail = qt at *
              go_wp2_with fail
              go_roundw
              case rel => exact ⟨M, k + 3, by2, a2, qt.length, c2, qt, by go_num, by omega, by omega, hb8, ht8, J7.out⟩
              case measure => simp [intOf]
          · have hd0 : decide (0 < ey) = false := by simpa using hy0
            go_wp2_with fail
            go_roundw
            case rel => exact ⟨M, k + 2, ey, ea, en, ek, el, by go_num, by omega, by omega, HB2.1, HB2.2, J2.out⟩
            case measure => simp [intOf]
        · have hq1 : (ec == 0) = false := by simpa using h0
          have J2 := rulW JX.out
          have HB2 := HY.out
          clear JX HEO HD4 HEL HEZ HY df
          go_upto_region 10 with fail
          clear d0 d1 d2 d3
          obtain ⟨b0, b1, _, _⟩ := J2.out.bu
          by_cases hy0 : 0 < y
          · have hd0 : decide (0 < y) = true := by simpa using hy0
            go_wp2_with fail
            refine (l1Chance_h _ SB a len cap (k + 2) 5 J2.out.sr (by omega) (by omega) (by omega) hl2).mono ?_
            rintro r w6 ⟨⟨b5, rfl⟩, hs1, hb1, ha1⟩
            have J6 := rulW (J2.out.step hs1 hb1 ha1)
            clear hs1 hb1 ha1 J2 b0 b1
            cases b5
            · go_wp2_with fail
              go_roundw
              case rel => exact ⟨M, k + 3, y, va, n, vc, q, by go_num, by omega, by omega, HB2.1, HB2.2, J6.out⟩
              case measure => simp [intOf]
            · have HLV : Hid (Calls Try.prog 53 #[.pointer (some ⟨B, 0, none⟩)] w6 fun e w' => LeftO w6 w' B (B + 1) y q e) := by
                obtain ⟨z1, z2, z3, _, z4⟩ := J6.out.ow.in
                simp only [Value.slice.injEq] at z3
                have hln := J6.out.ln
                refine specLeftO_any w6 B (B + 1) y va vc q ⟨by omega, HB2.1.2⟩ (by have := HB2.2; omega) ?_ (by have := J6.out.bu.lt; omega) ?_ (by rw [z3.1]; exact z4) ?_ ?_
                · rw [hln]; exact J6.out.ow.cap
                · rw [hln]; exact J6.out.bu
                · rw [hln]; exact J6.out.ow
                · intro G hG e
                  rw [hln] at hG
                  have := row_ge J6.out.ow G hG
                  omega
              go_wp2_with fail
              refine HLV.out.mono ?_
              rintro r w7 ⟨a2, c2, rfl, h2, ho, _, hg⟩
              have J7 := rulW (J6.out.turn h2 ho rfl hg)
              have hb8 : 0 ≤ busyW y q ∧ busyW y q ≤ 8 := by
                cases q with
                | nil => simp only [busyW]; omega
                | cons z zs => simp only [busyW]; exact HB2.1
              have ht8 : (q).tail.length ≤ 8 := by have h1 := J6.out.ln; have h2 := HB2.2; rw [List.length_tail]; omega
              clear h2 ho hg J6 HLV
              generalize busyW y q = by2 at *
              generalize (q).tail = qt at *
              go_wp2_with fail
              go_roundw
              case rel => exact ⟨M, k + 3, by2, a2, qt.length, c2, qt, by go_num, by omega, by omega, hb8, ht8, J7.out⟩
              case measure => simp [intOf]
          · have hd0 : decide (0 < y) = false := by simpa using hy0
            go_wp2_with fail
            go_roundw
            case rel => exact ⟨M, k + 2, y, va, n, vc, q, by go_num, by omega, by omega, HB2.1, HB2.2, J2.out⟩
            case measure => simp [intOf]
    | zero =>
      have HB8 := rulW (show (0 ≤ y ∧ y ≤ 8) ∧ n ≤ 8 from ⟨hy, hn8⟩)
      clear hy hn8
      go_wp2_with fail
      refine (l1Next_h _ SB a len cap k 16 JR.out.sr (by omega) (by omega) (by omega) hl2).mono ?_
      rintro r w5 ⟨⟨v, v0, v1, rfl⟩, hs1, hb1, ha1⟩
      have J1 := rulW (JR.out.step hs1 hb1 ha1)
      clear hs1 hb1 ha1 JR
      clear wr
      go_upto_block 2 with fail
      go_cut [] from 44 to 71 (fun wx => ∃ (s c t y : Int) (va : Option Addr) (n vc : Nat) (q : List Wt) (k : Nat), n ≤ 9 ∧ k ≤ 70 ∧ DL w wx N SB L B s c t a len cap k y va n vc q)
      case first =>
        have n0 : ¬ v = 0 → (v == 0) = false := fun h => by simpa using h
        have n1 : ¬ v = 1 → (v == 1) = false := fun h => by simpa using h
        have n2 : ¬ v = 2 → (v == 2) = false := fun h => by simpa using h
        by_cases hv0 : v = 0
        · subst hv0
          clear n0 n1 n2
          obtain ⟨l0, l1, l2, _, _⟩ := J1.out.la
          go_wp2_with fail
          refine (l1Pick_h _ SB a len cap (k + 1) J1.out.sr [-1, 9, s] 3 rfl (by omega) (by omega) (by omega) hl2).mono ?_
          rintro r w6 ⟨⟨x, _, rfl⟩, hs1, hb1, ha1⟩
          have J2 := rulW (J1.out.step hs1 hb1 ha1)
          clear hs1 hb1 ha1 J1 l0 l1 l2
          have J3 := rulW (J2.out.s0 x)
          obtain ⟨c0, c1, fr, _⟩ := J2.out.bu
          have f0 := fr 0
          clear fr J2
          go_wp2_with fail
          go_meet
          exact ⟨_, _, _, _, va, n, vc, q, k + 2, by have := HB8.out; omega, by omega, J3.out⟩
        by_cases hv1 : v = 1
        · subst hv1
          have z0 := n0 (by omega)
          clear n0 n1 n2
          have HP1 : Hid (∀ X M, DL w X N SB L B s c t a len cap (k + 1) y va n vc q → LCN X M #[.int .i64 (-1), .int .i64 3, .int .i64 4] → Calls Try.prog 39 #[.pointer (some ⟨SB, 0, none⟩), .slice (some ⟨M, 0, none⟩) 3 3] X fun e w' => (∃ v : Int, e = .returned (.int .i64 v)) ∧ DL w w' N SB L B s c t a len cap ((k + 1) + 1) y va n vc q ∧ ApartH SB X w') := fun X M h hl => by
            have hMS : M ≠ SB := fun e => by
              have h0 := h.sr.c0
              have h1 := hl.cells [-1, 3, 4] rfl 0 _ rfl
              rw [e, h0] at h1
              cases h1
            refine (l1Pick_any X SB a len cap (k + 1) h.sr M [-1, 3, 4] hMS 3 rfl (hl.cells [-1, 3, 4] rfl) (by omega) (by omega) (by omega) hl2).mono fun _ w' ⟨⟨v, _, h1⟩, h2⟩ => ?_
            obtain ⟨hs, hb⟩ := h.sr.stepped h2
            exact ⟨⟨v, h1⟩, h.step hs hb (ApartH.stepped h2), ApartH.stepped h2⟩
          have HP2 : Hid (∀ X M, DL w X N SB L B s c t a len cap (k + 2) y va n vc q → LCN X M #[.int .i64 (-1), .int .i64 5, .int .i64 5] → Calls Try.prog 39 #[.pointer (some ⟨SB, 0, none⟩), .slice (some ⟨M, 0, none⟩) 3 3] X fun e w' => (∃ v : Int, e = .returned (.int .i64 v)) ∧ DL w w' N SB L B s c t a len cap ((k + 2) + 1) y va n vc q ∧ ApartH SB X w') := fun X M h hl => by
            have hMS : M ≠ SB := fun e => by
              have h0 := h.sr.c0
              have h1 := hl.cells [-1, 5, 5] rfl 0 _ rfl
              rw [e, h0] at h1
              cases h1
            refine (l1Pick_any X SB a len cap (k + 2) h.sr M [-1, 5, 5] hMS 3 rfl (hl.cells [-1, 5, 5] rfl) (by omega) (by omega) (by omega) hl2).mono fun _ w' ⟨⟨v, _, h1⟩, h2⟩ => ?_
            obtain ⟨hs, hb⟩ := h.sr.stepped h2
            exact ⟨⟨v, h1⟩, h.step hs hb (ApartH.stepped h2), ApartH.stepped h2⟩
          have JR := rulW J1.out
          have SR := rulW (show B < w5.heap.size ∧ SB < B from ⟨JR.out.bu.lt, by have := JR.out.lt; omega⟩)
          have HKC : Hid (∀ X kk, DL w X N SB L B s c t a len cap kk y va n vc q → X.cell? ⟨B, 1, none⟩ = some (.slice va n vc)) := fun X kk h => h.bu.c1
          have HKD : Hid (∀ X, D2 X B (.int .i64 y) (.slice va n vc) → X.cell? ⟨B, 1, none⟩ = some (.slice va n vc)) := fun X h => h.c1
          have HS0 := rulW (HKC.out _ (k + 1) JR.out.drw)
          clear J1
          go_wp2_with fail
          refine wp_region_last (fun X : World => X.cell? ⟨B, 1, none⟩ = some (.slice va n vc)) 12 (by kernel_rfl) ?_
          refine butLast_take (i := 0) (v := .pointer (some ⟨B, 1, none⟩)) rfl (by kernel_rfl) (by kernel_rfl) (by kernel_rfl) (by kernel_rfl) (fun _ _ _ h => h) (Or.inl ⟨by kernel_rfl, ?_⟩) HS0.out ?_
          · intro X s1
            go_simp
          try simp only [Act.put, List.setIfInBounds_toArray, List.set_cons_zero, List.set_cons_succ]
          refine butLast_take (i := 1) (v := .slice va n vc) rfl (by kernel_rfl) (by kernel_rfl) (by kernel_rfl) (by kernel_rfl) (fun _ _ _ h => h) (Or.inl ⟨by kernel_rfl, ?_⟩) HS0.out ?_
          · intro X s1
            go_simp
          try simp only [Act.put, List.setIfInBounds_toArray, List.set_cons_zero, List.set_cons_succ]
          refine butLast_take (i := 2) (v := .pointer (some ⟨SB, 0, none⟩)) rfl (by kernel_rfl) (by kernel_rfl) (by kernel_rfl) (by kernel_rfl) (fun _ _ _ h => h) (Or.inl ⟨by kernel_rfl, ?_⟩) HS0.out ?_
          · intro X s1
            go_simp
          try simp only [Act.put, List.setIfInBounds_toArray, List.set_cons_zero, List.set_cons_succ]
          refine butLast_take (i := 5) (v := .pointer (some ⟨SB, 0, none⟩)) rfl (by kernel_rfl) (by kernel_rfl) (by kernel_rfl) (by kernel_rfl) (fun _ _ _ h => h) (Or.inl ⟨by kernel_rfl, ?_⟩) HS0.out ?_
          · intro X s1
            go_simp
          try simp only [Act.put, List.setIfInBounds_toArray, List.set_cons_zero, List.set_cons_succ]
          refine butLast_two (i := 3) (j := 6) rfl rfl (by kernel_rfl) (fun K hK => ?_) (fun K hK => ?_)
          · go_simp
            refine hK _ _ (.inr ?_) ?_
            · (with_reducible refine HKC.out _ (k + 1) ?_); (repeat (first | with_reducible exact JP.out | with_reducible exact JA.out | with_reducible exact JR.out | with_reducible refine DL.al ?_ | with_reducible refine DL.drw ?_))
            clear hK K
            try simp only [Act.put, List.setIfInBounds_toArray, List.set_cons_zero, List.set_cons_succ]
            refine butLast_two (i := 4) (j := 6) rfl rfl (by kernel_rfl) (fun K hK => ?_) (fun K hK => ?_)
            · go_simp
              refine (HP1.out _ _ ?_ ?_).mono ?_
              · (repeat (first | with_reducible exact JP.out | with_reducible exact JA.out | with_reducible exact JR.out | with_reducible refine DL.al ?_ | with_reducible refine DL.drw ?_))
              · (repeat (first | with_reducible exact LCN.new _ _ | with_reducible exact LCN.new1 _ _ _ | with_reducible refine LCN.ap AP.out ?_ (by first | (have := SR.out; omega) | (have := SA.out; have := SR.out; omega) | (have := SP.out; have := SR.out; omega) | (have := SE.out; have := SR.out; omega)) | with_reducible refine LCN.ap AA.out ?_ (by first | (have := SR.out; omega) | (have := SA.out; have := SR.out; omega) | (have := SP.out; have := SR.out; omega) | (have := SE.out; have := SR.out; omega)) | with_reducible refine LCN.al ?_ | with_reducible refine LCN.drw ?_))
              rintro r wa ⟨⟨x1, rfl⟩, jd, ja⟩
              have JA := rulW jd
              have AA := rulW ja
              have SA := rulW jd.bu.lt
              clear jd ja
              refine hK _ _ (.inr (HKC.out _ (k + 2) JA.out)) ?_
              clear hK K
              try simp only [Act.put, List.setIfInBounds_toArray, List.set_cons_zero, List.set_cons_succ]
              refine butLast_one (i := 6) rfl (by kernel_rfl) (fun K hK => ?_)
              go_simp
              refine hK _ _ (.inr ?_) ?_
              · (with_reducible refine HKC.out _ (k + 2) ?_); (repeat (first | with_reducible exact JP.out | with_reducible exact JA.out | with_reducible exact JR.out | with_reducible refine DL.al ?_ | with_reducible refine DL.drw ?_))
              clear hK K
              try simp only [Act.put, List.setIfInBounds_toArray, List.set_cons_zero, List.set_cons_succ]
              refine butLast_one (i := 7) rfl (by kernel_rfl) (fun K hK => ?_)
              go_simp
              refine (HP2.out _ _ ?_ ?_).mono ?_
              · (repeat (first | with_reducible exact JP.out | with_reducible exact JA.out | with_reducible exact JR.out | with_reducible refine DL.al ?_ | with_reducible refine DL.drw ?_))
              · (repeat (first | with_reducible exact LCN.new _ _ | with_reducible exact LCN.new1 _ _ _ | with_reducible refine LCN.ap AP.out ?_ (by first | (have := SR.out; omega) | (have := SA.out; have := SR.out; omega) | (have := SP.out; have := SR.out; omega) | (have := SE.out; have := SR.out; omega)) | with_reducible refine LCN.ap AA.out ?_ (by first | (have := SR.out; omega) | (have := SA.out; have := SR.out; omega) | (have := SP.out; have := SR.out; omega) | (have := SE.out; have := SR.out; omega)) | with_reducible refine LCN.al ?_ | with_reducible refine LCN.drw ?_))
              rintro r wb ⟨⟨x2, rfl⟩, jd, ja⟩
              have JP := rulW jd
              have AP := rulW ja
              have SP := rulW jd.bu.lt
              clear jd ja
              refine hK _ _ (.inr (HKC.out _ (k + 3) JP.out)) ?_
              clear hK K
              try simp only [Act.put, List.setIfInBounds_toArray, List.set_cons_zero, List.set_cons_succ]
              refine butLast_one (i := 8) rfl (by kernel_rfl) (fun K hK => ?_)
              go_simp
              refine hK _ _ (.inr ?_) ?_
              · (with_reducible refine HKC.out _ (k + 3) ?_); (repeat (first | with_reducible exact JP.out | with_reducible exact JA.out | with_reducible exact JR.out | with_reducible refine DL.al ?_ | with_reducible refine DL.drw ?_))
              clear hK K
              try simp only [Act.put, List.setIfInBounds_toArray, List.set_cons_zero, List.set_cons_succ]
              refine butLast_one (i := 9) rfl (by kernel_rfl) (fun K hK => ?_)
              go_simp
              have J3 := rulW (JP.out.al (o := .cells #[.int .i64 x1, .int .i64 x2] 40))
              refine hK _ _ (.inr (HKC.out _ (k + 3) J3.out)) ?_
              clear hK K
              try simp only [Act.put, List.setIfInBounds_toArray, List.set_cons_zero, List.set_cons_succ]
              obtain ⟨X3, hX3⟩ : ∃ X3, X3 = wb.alloc (.cells #[.int .i64 x1, .int .i64 x2] 40) := ⟨_, rfl⟩
              have N3 : Hid (X3.cell? ⟨wb.heap.size, 0, none⟩ = some (.int .i64 x1) ∧ X3.cell? ⟨wb.heap.size, 1, none⟩ = some (.int .i64 x2)) := by rw [hX3]; exact ⟨by simp, by simp⟩
              rw [← hX3] at J3 ⊢
              have bs3 : Hid (B + 1 ≤ X3.heap.size) := J3.out.bu.lt
              clear hX3
              refine butLast_one (i := 10) rfl (by kernel_rfl) (fun K hK => ?_)
              refine step_append1Wt X3 (by rfl) _ _ (by rfl) (B + 1) _ q ⟨x1, x2⟩ wb.heap.size n J3.out.ln (by rfl) J3.out.ow (by rfl) N3.out.1 N3.out.2 (by have := HB8.out; omega) bs3.out ?_
              intro g5 vc5 w7 h41 h42 h43
              have HL5 : (q ++ [(⟨x1, x2⟩ : Wt)]).length = n + 1 := by rw [List.length_append, J3.out.ln]; rfl
              obtain ⟨l5, hl5⟩ : ∃ l5, q ++ [(⟨x1, x2⟩ : Wt)] = l5 := ⟨_, rfl⟩
              rw [hl5] at HL5 h41
              clear hl5
              have JQ := rulW (J3.out.push h41 HL5 h42)
              clear h41 h42 h43 HL5 J3 JP JA AA AP N3 bs3
              refine hK _ _ (.inr (HKD.out _ JQ.out.2)) ?_
              clear hK K
              try simp only [Act.put, List.setIfInBounds_toArray, List.set_cons_zero, List.set_cons_succ]
              refine butLast_one (i := 11) rfl (by kernel_rfl) (fun K hK => ?_)
              go_simp
              refine hK _ _ (.inr (HKD.out _ JQ.out.2)) ?_
              clear hK K
              try simp only [Act.put, List.setIfInBounds_toArray, List.set_cons_zero, List.set_cons_succ]
              obtain ⟨b0, b1, bf, _⟩ := JQ.out.2
              have bf1 := bf 1
              clear bf
              refine butLast_one (i := 12) rfl (by kernel_rfl) (fun K hK => ?_)
              go_simp
              refine hK _ _ (.inl rfl) ?_
              clear hK K
              refine butLast_end (by kernel_rfl) ?_
              go_wp2_with fail
              go_meet
              exact ⟨_, _, _, _, _, n + 1, vc5, l5, k + 3, by have := HB8.out; omega, by omega, JQ.out.1⟩
            · go_simp
              refine hK _ _ (.inr ?_) ?_
              · (with_reducible refine HKC.out _ (k + 1) ?_); (repeat (first | with_reducible exact JP.out | with_reducible exact JA.out | with_reducible exact JR.out | with_reducible refine DL.al ?_ | with_reducible refine DL.drw ?_))
              clear hK K
              try simp only [Act.put, List.setIfInBounds_toArray, List.set_cons_zero, List.set_cons_succ]
              refine butLast_one (i := 4) rfl (by kernel_rfl) (fun K hK => ?_)
              go_simp
              refine (HP1.out _ _ ?_ ?_).mono ?_
              · (repeat (first | with_reducible exact JP.out | with_reducible exact JA.out | with_reducible exact JR.out | with_reducible refine DL.al ?_ | with_reducible refine DL.drw ?_))
              · (repeat (first | with_reducible exact LCN.new _ _ | with_reducible exact LCN.new1 _ _ _ | with_reducible refine LCN.ap AP.out ?_ (by first | (have := SR.out; omega) | (have := SA.out; have := SR.out; omega) | (have := SP.out; have := SR.out; omega) | (have := SE.out; have := SR.out; omega)) | with_reducible refine LCN.ap AA.out ?_ (by first | (have := SR.out; omega) | (have := SA.out; have := SR.out; omega) | (have := SP.out; have := SR.out; omega) | (have := SE.out; have := SR.out; omega)) | with_reducible refine LCN.al ?_ | with_reducible refine LCN.drw ?_))
              rintro r wa ⟨⟨x1, rfl⟩, jd, ja⟩
              have JA := rulW jd
              have AA := rulW ja
              have SA := rulW jd.bu.lt
              clear jd ja
              refine hK _ _ (.inr (HKC.out _ (k + 2) JA.out)) ?_
              clear hK K
              try simp only [Act.put, List.setIfInBounds_toArray, List.set_cons_zero, List.set_cons_succ]
              refine butLast_one (i := 7) rfl (by kernel_rfl) (fun K hK => ?_)
              go_simp
              refine (HP2.out _ _ ?_ ?_).mono ?_
              · (repeat (first | with_reducible exact JP.out | with_reducible exact JA.out | with_reducible exact JR.out | with_reducible refine DL.al ?_ | with_reducible refine DL.drw ?_))
              · (repeat (first | with_reducible exact LCN.new _ _ | with_reducible exact LCN.new1 _ _ _ | with_reducible refine LCN.ap AP.out ?_ (by first | (have := SR.out; omega) | (have := SA.out; have := SR.out; omega) | (have := SP.out; have := SR.out; omega) | (have := SE.out; have := SR.out; omega)) | with_reducible refine LCN.ap AA.out ?_ (by first | (have := SR.out; omega) | (have := SA.out; have := SR.out; omega) | (have := SP.out; have := SR.out; omega) | (have := SE.out; have := SR.out; omega)) | with_reducible refine LCN.al ?_ | with_reducible refine LCN.drw ?_))
              rintro r wb ⟨⟨x2, rfl⟩, jd, ja⟩
              have JP := rulW jd
              have AP := rulW ja
              have SP := rulW jd.bu.lt
              clear jd ja
              refine hK _ _ (.inr (HKC.out _ (k + 3) JP.out)) ?_
              clear hK K
              try simp only [Act.put, List.setIfInBounds_toArray, List.set_cons_zero, List.set_cons_succ]
              refine butLast_one (i := 8) rfl (by kernel_rfl) (fun K hK => ?_)
              go_simp
              refine hK _ _ (.inr ?_) ?_
              · (with_reducible refine HKC.out _ (k + 3) ?_); (repeat (first | with_reducible exact JP.out | with_reducible exact JA.out | with_reducible exact JR.out | with_reducible refine DL.al ?_ | with_reducible refine DL.drw ?_))
              clear hK K
              try simp only [Act.put, List.setIfInBounds_toArray, List.set_cons_zero, List.set_cons_succ]
              refine butLast_one (i := 9) rfl (by kernel_rfl) (fun K hK => ?_)
              go_simp
              have J3 := rulW (JP.out.al (o := .cells #[.int .i64 x1, .int .i64 x2] 40))
              refine hK _ _ (.inr (HKC.out _ (k + 3) J3.out)) ?_
              clear hK K
              try simp only [Act.put, List.setIfInBounds_toArray, List.set_cons_zero, List.set_cons_succ]
              obtain ⟨X3, hX3⟩ : ∃ X3, X3 = wb.alloc (.cells #[.int .i64 x1, .int .i64 x2] 40) := ⟨_, rfl⟩
              have N3 : Hid (X3.cell? ⟨wb.heap.size, 0, none⟩ = some (.int .i64 x1) ∧ X3.cell? ⟨wb.heap.size, 1, none⟩ = some (.int .i64 x2)) := by rw [hX3]; exact ⟨by simp, by simp⟩
              rw [← hX3] at J3 ⊢
              have bs3 : Hid (B + 1 ≤ X3.heap.size) := J3.out.bu.lt
              clear hX3
              refine butLast_one (i := 10) rfl (by kernel_rfl) (fun K hK => ?_)
              refine step_append1Wt X3 (by rfl) _ _ (by rfl) (B + 1) _ q ⟨x1, x2⟩ wb.heap.size n J3.out.ln (by rfl) J3.out.ow (by rfl) N3.out.1 N3.out.2 (by have := HB8.out; omega) bs3.out ?_
              intro g5 vc5 w7 h41 h42 h43
              have HL5 : (q ++ [(⟨x1, x2⟩ : Wt)]).length = n + 1 := by rw [List.length_append, J3.out.ln]; rfl
              obtain ⟨l5, hl5⟩ : ∃ l5, q ++ [(⟨x1, x2⟩ : Wt)] = l5 := ⟨_, rfl⟩
              rw [hl5] at HL5 h41
              clear hl5
              have JQ := rulW (J3.out.push h41 HL5 h42)
              clear h41 h42 h43 HL5 J3 JP JA AA AP N3 bs3
              refine hK _ _ (.inr (HKD.out _ JQ.out.2)) ?_
              clear hK K
              try simp only [Act.put, List.setIfInBounds_toArray, List.set_cons_zero, List.set_cons_succ]
              refine butLast_one (i := 11) rfl (by kernel_rfl) (fun K hK => ?_)
              go_simp
              refine hK _ _ (.inr (HKD.out _ JQ.out.2)) ?_
              clear hK K
              try simp only [Act.put, List.setIfInBounds_toArray, List.set_cons_zero, List.set_cons_succ]
              obtain ⟨b0, b1, bf, _⟩ := JQ.out.2
              have bf1 := bf 1
              clear bf
              refine butLast_one (i := 12) rfl (by kernel_rfl) (fun K hK => ?_)
              go_simp
              refine hK _ _ (.inl rfl) ?_
              clear hK K
              refine butLast_end (by kernel_rfl) ?_
              go_wp2_with fail
              go_meet
              exact ⟨_, _, _, _, _, n + 1, vc5, l5, k + 3, by have := HB8.out; omega, by omega, JQ.out.1⟩
          · go_simp
            refine hK _ _ (.inr ?_) ?_
            · (with_reducible refine HKC.out _ (k + 1) ?_); (repeat (first | with_reducible exact JP.out | with_reducible exact JA.out | with_reducible exact JR.out | with_reducible refine DL.al ?_ | with_reducible refine DL.drw ?_))
            clear hK K
            try simp only [Act.put, List.setIfInBounds_toArray, List.set_cons_zero, List.set_cons_succ]
            refine butLast_one (i := 3) rfl (by kernel_rfl) (fun K hK => ?_)
            go_simp
            refine hK _ _ (.inr ?_) ?_
            · (with_reducible refine HKC.out _ (k + 1) ?_); (repeat (first | with_reducible exact JP.out | with_reducible exact JA.out | with_reducible exact JR.out | with_reducible refine DL.al ?_ | with_reducible refine DL.drw ?_))
            clear hK K
            try simp only [Act.put, List.setIfInBounds_toArray, List.set_cons_zero, List.set_cons_succ]
            refine butLast_one (i := 4) rfl (by kernel_rfl) (fun K hK => ?_)
            go_simp
            refine (HP1.out _ _ ?_ ?_).mono ?_
            · (repeat (first | with_reducible exact JP.out | with_reducible exact JA.out | with_reducible exact JR.out | with_reducible refine DL.al ?_ | with_reducible refine DL.drw ?_))
            · (repeat (first | with_reducible exact LCN.new _ _ | with_reducible exact LCN.new1 _ _ _ | with_reducible refine LCN.ap AP.out ?_ (by first | (have := SR.out; omega) | (have := SA.out; have := SR.out; omega) | (have := SP.out; have := SR.out; omega) | (have := SE.out; have := SR.out; omega)) | with_reducible refine LCN.ap AA.out ?_ (by first | (have := SR.out; omega) | (have := SA.out; have := SR.out; omega) | (have := SP.out; have := SR.out; omega) | (have := SE.out; have := SR.out; omega)) | with_reducible refine LCN.al ?_ | with_reducible refine LCN.drw ?_))
            rintro r wa ⟨⟨x1, rfl⟩, jd, ja⟩
            have JA := rulW jd
            have AA := rulW ja
            have SA := rulW jd.bu.lt
            clear jd ja
            refine hK _ _ (.inr (HKC.out _ (k + 2) JA.out)) ?_
            clear hK K
            try simp only [Act.put, List.setIfInBounds_toArray, List.set_cons_zero, List.set_cons_succ]
            refine butLast_one (i := 7) rfl (by kernel_rfl) (fun K hK => ?_)
            go_simp
            refine (HP2.out _ _ ?_ ?_).mono ?_
            · (repeat (first | with_reducible exact JP.out | with_reducible exact JA.out | with_reducible exact JR.out | with_reducible refine DL.al ?_ | with_reducible refine DL.drw ?_))
            · (repeat (first | with_reducible exact LCN.new _ _ | with_reducible exact LCN.new1 _ _ _ | with_reducible refine LCN.ap AP.out ?_ (by first | (have := SR.out; omega) | (have := SA.out; have := SR.out; omega) | (have := SP.out; have := SR.out; omega) | (have := SE.out; have := SR.out; omega)) | with_reducible refine LCN.ap AA.out ?_ (by first | (have := SR.out; omega) | (have := SA.out; have := SR.out; omega) | (have := SP.out; have := SR.out; omega) | (have := SE.out; have := SR.out; omega)) | with_reducible refine LCN.al ?_ | with_reducible refine LCN.drw ?_))
            rintro r wb ⟨⟨x2, rfl⟩, jd, ja⟩
            have JP := rulW jd
            have AP := rulW ja
            have SP := rulW jd.bu.lt
            clear jd ja
            refine hK _ _ (.inr (HKC.out _ (k + 3) JP.out)) ?_
            clear hK K
            try simp only [Act.put, List.setIfInBounds_toArray, List.set_cons_zero, List.set_cons_succ]
            refine butLast_one (i := 8) rfl (by kernel_rfl) (fun K hK => ?_)
            go_simp
            refine hK _ _ (.inr ?_) ?_
            · (with_reducible refine HKC.out _ (k + 3) ?_); (repeat (first | with_reducible exact JP.out | with_reducible exact JA.out | with_reducible exact JR.out | with_reducible refine DL.al ?_ | with_reducible refine DL.drw ?_))
            clear hK K
            try simp only [Act.put, List.setIfInBounds_toArray, List.set_cons_zero, List.set_cons_succ]
            refine butLast_one (i := 9) rfl (by kernel_rfl) (fun K hK => ?_)
            go_simp
            have J3 := rulW (JP.out.al (o := .cells #[.int .i64 x1, .int .i64 x2] 40))
            refine hK _ _ (.inr (HKC.out _ (k + 3) J3.out)) ?_
            clear hK K
            try simp only [Act.put, List.setIfInBounds_toArray, List.set_cons_zero, List.set_cons_succ]
            obtain ⟨X3, hX3⟩ : ∃ X3, X3 = wb.alloc (.cells #[.int .i64 x1, .int .i64 x2] 40) := ⟨_, rfl⟩
            have N3 : Hid (X3.cell? ⟨wb.heap.size, 0, none⟩ = some (.int .i64 x1) ∧ X3.cell? ⟨wb.heap.size, 1, none⟩ = some (.int .i64 x2)) := by rw [hX3]; exact ⟨by simp, by simp⟩
            rw [← hX3] at J3 ⊢
            have bs3 : Hid (B + 1 ≤ X3.heap.size) := J3.out.bu.lt
            clear hX3
            refine butLast_one (i := 10) rfl (by kernel_rfl) (fun K hK => ?_)
            refine step_append1Wt X3 (by rfl) _ _ (by rfl) (B + 1) _ q ⟨x1, x2⟩ wb.heap.size n J3.out.ln (by rfl) J3.out.ow (by rfl) N3.out.1 N3.out.2 (by have := HB8.out; omega) bs3.out ?_
            intro g5 vc5 w7 h41 h42 h43
            have HL5 : (q ++ [(⟨x1, x2⟩ : Wt)]).length = n + 1 := by rw [List.length_append, J3.out.ln]; rfl
            obtain ⟨l5, hl5⟩ : ∃ l5, q ++ [(⟨x1, x2⟩ : Wt)] = l5 := ⟨_, rfl⟩
            rw [hl5] at HL5 h41
            clear hl5
            have JQ := rulW (J3.out.push h41 HL5 h42)
            clear h41 h42 h43 HL5 J3 JP JA AA AP N3 bs3
            refine hK _ _ (.inr (HKD.out _ JQ.out.2)) ?_
            clear hK K
            try simp only [Act.put, List.setIfInBounds_toArray, List.set_cons_zero, List.set_cons_succ]
            refine butLast_one (i := 11) rfl (by kernel_rfl) (fun K hK => ?_)
            go_simp
            refine hK _ _ (.inr (HKD.out _ JQ.out.2)) ?_
            clear hK K
            try simp only [Act.put, List.setIfInBounds_toArray, List.set_cons_zero, List.set_cons_succ]
            obtain ⟨b0, b1, bf, _⟩ := JQ.out.2
            have bf1 := bf 1
            clear bf
            refine butLast_one (i := 12) rfl (by kernel_rfl) (fun K hK => ?_)
            go_simp
            refine hK _ _ (.inl rfl) ?_
            clear hK K
            refine butLast_end (by kernel_rfl) ?_
            go_wp2_with fail
            go_meet
            exact ⟨_, _, _, _, _, n + 1, vc5, l5, k + 3, by have := HB8.out; omega, by omega, JQ.out.1⟩
        by_cases hv2 : v = 2
        · subst hv2
          have z0 := n0 (by omega)
          have z1 := n1 (by omega)
          clear n0 n1 n2
          obtain ⟨X7, hX7⟩ : ∃ X, X = w5.alloc (.cells #[.int .u8 2] 5) := ⟨_, rfl⟩
          have B1 : Hid (Below w5.heap.size w5 X7) := by show Below _ _ _; rw [hX7]; exact (Below.refl _ _).alloc (Nat.le_refl _) _
          have O1 : Hid (X7.ownsRow w5.heap.size 5 1 (.slice (some ⟨w5.heap.size, 0, none⟩) 1 1) 1 [.int .u8 2]) := by
            show World.ownsRow _ _ _ _ _ _ _
            rw [hX7]
            exact ⟨by simp, .inr ⟨w5.heap.size, 1, #[.int .u8 2], rfl, Nat.le_refl _, heap_alloc_new _ _, Nat.le_refl _, by unfold maxLen; omega, by simp, by simp⟩⟩
          have J4 := rulW (J1.out.keep B1.out)
          obtain ⟨lc, hlc, hin⟩ := bytesW_of_code J4.out.sr.row
          have HIN := rulW (dBytes_in hin)
          have HLN : Hid ((dBytes lc).length = len * 1) := by show _ = _; unfold dBytes; simp [hlc]
          have HL1 : Hid ((2 :: lc).length = 1 + len) := by show _ = _; simp [hlc]; omega
          have HDB : Hid ([Value.int .u8 2] ++ dBytes lc = dBytes (2 :: lc)) := by show _ = _; simp [dBytes]
          have HX7 := rulW hX7
          have HLC := rulW hlc
          clear hX7 hin hlc
          go_wp2_with (at_builtin; rw [← HX7.out]; refine wpList_plain rfl fun _ hK => wp_append_in X7 (.tmp 68) (.tmp 69) 22 5 rfl i0 _ 1 1 Try.underlying22 HI0.out HZ0.out HZ1.out HZ2.out rfl (by omega) w5.heap.size (.slice (some ⟨w5.heap.size, 0, none⟩) 1 1) 1 [.int .u8 2] (by rfl) O1.out a cap len (dBytes lc) (by rfl) HLN.out (by rw [← HLC.out]; exact HIN.out) (dOneB lc) (by unfold maxLen; omega) (by omega) B1.out.size (fun v' w8 h1 h2 _ => hK _ _ ?_); obtain ⟨vr, vq, rfl, _⟩ := row_form h1; rw [HDB.out] at h1; have HCR := rulW (codeW_of_row HL1.out h1); have J5 := rulW (J1.out.keep (B1.out.trans h2)); clear h1 h2)
          refine (drawLanes_any _ vr (1 + len) vq HCR.out (by omega)).mono ?_
          rintro r w9 ⟨⟨b0, b1, b2, rfl⟩, hb9⟩
          have J6 := rulW (J5.out.keep hb9)
          clear hb9 J5 J4 J1 HCR
          obtain ⟨r0, r1, r2, rf, _⟩ := J6.out.la
          have rf0 := rf 0
          have rf1 := rf 1
          have rf2 := rf 2
          clear rf
          have J7 := rulW (DL.lset (x0 := b0) (x1 := b1) (x2 := b2) J6.out)
          go_wp2_with fail
          go_meet
          exact ⟨_, _, _, _, va, n, vc, q, k + 1, by have := HB8.out; omega, by omega, J7.out⟩
        have z0 := n0 hv0
        have z1 := n1 hv1
        have z2 := n2 hv2
        clear n0 n1 n2
        go_wp2_with fail
        go_meet
        exact ⟨_, _, _, _, va, n, vc, q, k + 1, by have := HB8.out; omega, by omega, J1.out⟩
      case rest =>
        obtain ⟨s2, c2, t2, y2, va2, n2, vc2, q2, k2, hn3, hk2, hJ⟩ := hcut
        have J2 := rulW hJ
        clear hJ J1 HB8
        generalize wc = w6 at *
        have e2 := HSB.out
        subst e2
        obtain ⟨p0, p1, pf, _⟩ := J2.out.q0
        obtain ⟨x0, x1, x2, xf, _⟩ := J2.out.q1
        have pf0 := pf 0
        have pf1 := pf 1
        have xf0 := xf 0
        have xf1 := xf 1
        have xf2 := xf 2
        clear pf xf
        have HF := rulW (J2.out.fin HC.out)
        have HLN2 := rulW J2.out.ln
        have hRN : ¬ N = B ∧ ¬ N = L ∧ ¬ N + 1 = B ∧ ¬ N + 1 = L := by have := J2.out.lt; omega
        have HS0 : Hid (SBL w6 B L y2 va2 n2 vc2 s2 c2 t2) := ⟨J2.out.bu.c0, J2.out.bu.c1, J2.out.la.c0, J2.out.la.c1, J2.out.la.c2⟩
        have HKS : Hid (∀ Z i y, SBL Z B L y2 va2 n2 vc2 s2 c2 t2 → SBL (Z.setCell ⟨N, i, none⟩ y) B L y2 va2 n2 vc2 s2 c2 t2) := fun Z i y h => h.off hRN.1 hRN.2.1
        have HKT : Hid (∀ Z i y, SBL Z B L y2 va2 n2 vc2 s2 c2 t2 → SBL (Z.setCell ⟨N + 1, i, none⟩ y) B L y2 va2 n2 vc2 s2 c2 t2) := fun Z i y h => h.off hRN.2.2.1 hRN.2.2.2
        have HKD : Hid (∀ Z, SBL Z B L y2 va2 n2 vc2 s2 c2 t2 → SBL Z.drew B L y2 va2 n2 vc2 s2 c2 t2) := fun Z h => h
        have HKC : Hid (∀ Z, SBL Z B L y2 va2 n2 vc2 s2 c2 t2 → Z.cell? ⟨B, 0, none⟩ = some (.int .i64 y2) ∧ Z.cell? ⟨B, 1, none⟩ = some (.slice va2 n2 vc2) ∧ Z.cell? ⟨L, 0, none⟩ = some (.int .i64 s2) ∧ Z.cell? ⟨L, 1, none⟩ = some (.int .i64 c2) ∧ Z.cell? ⟨L, 2, none⟩ = some (.int .i64 t2)) := fun Z h => h
        clear J2 hRN
        go_wp2_with fail
        go_region_held3 (fun Z => Z.cell? ⟨B, 0, none⟩ = some (.int .i64 y2) ∧ Z.cell? ⟨B, 1, none⟩ = some (.slice va2 n2 vc2) ∧ Z.cell? ⟨L, 0, none⟩ = some (.int .i64 s2) ∧ Z.cell? ⟨L, 1, none⟩ = some (.int .i64 c2) ∧ Z.cell? ⟨L, 2, none⟩ = some (.int .i64 t2))
          (first | ((with_reducible refine HKC.out _ ?_); (repeat (first | with_reducible exact HS0.out | with_reducible refine HKS.out _ _ _ ?_ | with_reducible refine HKT.out _ _ _ ?_ | with_reducible refine HKD.out _ ?_))))
          (fail)
        all_goals
          go_wp2_with fail
          exact bodyPost_ret (v := .tuple #[.agg #[.int .i64 y2, .slice va2 n2 vc2], .agg #[.int .i64 s2, .int .i64 c2, .int .i64 t2], .pointer (some ⟨N + 2, 0, none⟩)]) (by simp [results, Try.results38, go_sem, p0, p1, x0, x1, x2]) rfl (BentL.mk HLN2.out hn3 (by omega : k2 ≤ 100) (by repeat (first | with_reducible exact HF.out | with_reducible refine FinL.set ?_ (by omega) | with_reducible refine FinL.drw ?_)))
end Go.Proofs.Ytmgidcigihpbeaa
