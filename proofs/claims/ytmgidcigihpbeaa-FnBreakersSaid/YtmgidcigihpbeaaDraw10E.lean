/-
  The draw of a breaker, bent: l10Bent.
-/
import Derived.Test.YtmgidcigihpbeaaDraw10D
import Derived.Test.YtmgidcigihpbeaaMkMore
import Derived.Test.YtmgidcigihpbeaaHeldLast
import Derived.Test.YtmgidcigihpbeaaByteApp
import Derived.Deep.CutBlock
import Derived.Deep.RegionHeld3
import Derived.Deep.CutRange
namespace Go.Proofs.Ytmgidcigihpbeaa
open Go.ChangeShapes Go.WideShapes Go.ChangeAt Go.RowKit Go.Sort
theorem S4.go {w w' : World} {b : Nat} {v0 v1 v2 v3 : Value} {g : Option Nat} (k : S4 w b v0 v1 v2 v3) (h : w.grownBy w' g) (hb : g ≠ Option.some b) : S4 w' b v0 v1 v2 v3 := by
  have e : w'.heap[b]? = w.heap[b]? := h.block b k.lt (fun q => hb q.symm)
  exact ⟨by rw [World.cell?_of_block (w := w) e]; exact k.c0, by rw [World.cell?_of_block (w := w) e]; exact k.c1, by rw [World.cell?_of_block (w := w) e]; exact k.c2, by rw [World.cell?_of_block (w := w) e]; exact k.c3, fun o => by rw [World.frozen?_of_block (w := w) e]; exact k.fr o, Nat.lt_of_lt_of_le k.lt h.size⟩
theorem S5.go {w w' : World} {b : Nat} {v0 v1 v2 v3 v4 : Value} {g : Option Nat} (k : S5 w b v0 v1 v2 v3 v4) (h : w.grownBy w' g) (hb : g ≠ Option.some b) : S5 w' b v0 v1 v2 v3 v4 := by
  have e : w'.heap[b]? = w.heap[b]? := h.block b k.lt (fun q => hb q.symm)
  exact ⟨by rw [World.cell?_of_block (w := w) e]; exact k.c0, by rw [World.cell?_of_block (w := w) e]; exact k.c1, by rw [World.cell?_of_block (w := w) e]; exact k.c2, by rw [World.cell?_of_block (w := w) e]; exact k.c3, by rw [World.cell?_of_block (w := w) e]; exact k.c4, fun o => by rw [World.frozen?_of_block (w := w) e]; exact k.fr o, Nat.lt_of_lt_of_le k.lt h.size⟩
theorem S4.ap {B : Nat} {w w' : World} {b : Nat} {v0 v1 v2 v3 : Value} (k : S4 w b v0 v1 v2 v3) (ha : Apart B w w') (hn : b ≠ B) : S4 w' b v0 v1 v2 v3 :=
  ⟨by rw [ha.cell _ _ k.lt hn]; exact k.c0, by rw [ha.cell _ _ k.lt hn]; exact k.c1, by rw [ha.cell _ _ k.lt hn]; exact k.c2, by rw [ha.cell _ _ k.lt hn]; exact k.c3, fun o => by rw [ha.frozen _ _ k.lt hn]; exact k.fr o, Nat.lt_of_lt_of_le k.lt ha.size⟩
theorem S5.ap {B : Nat} {w w' : World} {b : Nat} {v0 v1 v2 v3 v4 : Value} (k : S5 w b v0 v1 v2 v3 v4) (ha : Apart B w w') (hn : b ≠ B) : S5 w' b v0 v1 v2 v3 v4 :=
  ⟨by rw [ha.cell _ _ k.lt hn]; exact k.c0, by rw [ha.cell _ _ k.lt hn]; exact k.c1, by rw [ha.cell _ _ k.lt hn]; exact k.c2, by rw [ha.cell _ _ k.lt hn]; exact k.c3, by rw [ha.cell _ _ k.lt hn]; exact k.c4, fun o => by rw [ha.frozen _ _ k.lt hn]; exact k.fr o, Nat.lt_of_lt_of_le k.lt ha.size⟩
theorem OwnMk.offne {B : Nat} {w w' : World} {base : Nat} {v : Value} {l : List Mk} (h : OwnMk w base v l) (k : w.grownBy w' (Option.some B)) (hne : ∀ g, v.ownBlock = Option.some g → g ≠ B) : OwnMk w' base v l := World.ownsRow.kept h k (by
  cases e : v.ownBlock with
  | none => exact .inl rfl
  | some q => right; intro e2; exact hne q e (Option.some.inj e2))
/-- What is held while a breaker is bent. -/
structure DN (w X : World) (N SB R B base : Nat) (a0 a1 a2 a3 a4 : Int) (a : Option Addr) (len cap k : Nat) (s t o : Int) (va : Option Addr) (n vc : Nat) (l : List Mk) : Prop where
  sr : Src X SB a len cap k
  q0 : S4 X N (.int .i64 0) (.int .i64 0) (.int .i64 0) (.slice none 0 0)
  q1 : S5 X (N + 1) (.int .i64 0) (.int .i64 0) (.int .i64 0) (.int .i64 0) (.int .i64 0)
  rl : S5 X R (.int .i64 a0) (.int .i64 a1) (.int .i64 a2) (.int .i64 a3) (.int .i64 a4)
  bb : S4 X B (.int .i64 s) (.int .i64 t) (.int .i64 o) (.slice va n vc)
  ow : OwnMk X base (.slice va n vc) l
  ob : ∀ g, (Value.slice va n vc).ownBlock = some g → g ≠ B
  ln : l.length = n
  lo : Below N w X
  lt : SB = N + 2 ∧ SB < R ∧ R < base ∧ base ≤ B
section
variable {w X Y : World} {N SB R B base : Nat} {a0 a1 a2 a3 a4 : Int} {a : Option Addr} {len cap k : Nat} {s t o : Int} {va : Option Addr} {n vc : Nat} {l : List Mk}
theorem DN.step {k' : Nat} (h : DN w X N SB R B base a0 a1 a2 a3 a4 a len cap k s t o va n vc l) (hs : Src Y SB a len cap k') (hb : Below SB X Y) (ha : ApartH SB X Y) : DN w Y N SB R B base a0 a1 a2 a3 a4 a len cap k' s t o va n vc l := by
  obtain ⟨e, l1, l2, l3⟩ := h.lt
  exact ⟨hs, h.q0.ah ha (by omega), h.q1.ah ha (by omega), h.rl.ah ha (by omega), h.bb.ah ha (by omega), h.ow.apart ha (by omega), h.ob, h.ln, h.lo.trans (hb.mono (by omega)), e, l1, l2, l3⟩
theorem DN.keep (h : DN w X N SB R B base a0 a1 a2 a3 a4 a len cap k s t o va n vc l) (hb : Below X.heap.size X Y) : DN w Y N SB R B base a0 a1 a2 a3 a4 a len cap k s t o va n vc l :=
  ⟨h.sr.below (hb.mono h.sr.lt), h.q0.keep hb, h.q1.keep hb, h.rl.keep hb, h.bb.keep hb, h.ow.below hb, h.ob, h.ln, h.lo.trans (hb.mono (Nat.le_of_lt h.q0.lt)), h.lt⟩
theorem DN.bset {i : Nat} {y : Value} {s' t' o' : Int} (h : DN w X N SB R B base a0 a1 a2 a3 a4 a len cap k s t o va n vc l) (hb : S4 (X.setCell ⟨B, i, none⟩ y) B (.int .i64 s') (.int .i64 t') (.int .i64 o') (.slice va n vc)) : DN w (X.setCell ⟨B, i, none⟩ y) N SB R B base a0 a1 a2 a3 a4 a len cap k s' t' o' va n vc l := by
  obtain ⟨e, l1, l2, l3⟩ := h.lt
  exact ⟨src_off h.sr (by omega), h.q0.off (by omega), h.q1.off (by omega), h.rl.off (by omega), hb, h.ow.offne (gbSet _ _ _ _) h.ob, h.ob, h.ln, h.lo.setCell (by simp; omega) _, e, l1, l2, l3⟩
theorem DN.s0 (h : DN w X N SB R B base a0 a1 a2 a3 a4 a len cap k s t o va n vc l) (y : Int) : DN w (X.setCell ⟨B, 0, none⟩ (.int .i64 y)) N SB R B base a0 a1 a2 a3 a4 a len cap k y t o va n vc l := h.bset (h.bb.set0 _)
theorem DN.s1 (h : DN w X N SB R B base a0 a1 a2 a3 a4 a len cap k s t o va n vc l) (y : Int) : DN w (X.setCell ⟨B, 1, none⟩ (.int .i64 y)) N SB R B base a0 a1 a2 a3 a4 a len cap k s y o va n vc l := h.bset (h.bb.set1 _)
theorem DN.s2 (h : DN w X N SB R B base a0 a1 a2 a3 a4 a len cap k s t o va n vc l) (y : Int) : DN w (X.setCell ⟨B, 2, none⟩ (.int .i64 y)) N SB R B base a0 a1 a2 a3 a4 a len cap k s t y va n vc l := h.bset (h.bb.set2 _)
theorem DN.push {g n' vc' : Nat} {l' : List Mk} (h : DN w X N SB R B base a0 a1 a2 a3 a4 a len cap k s t o va n vc l) (h1 : OwnMk Y base (.slice (some ⟨g, 0, none⟩) n' vc') l') (hn : l'.length = n') (h2 : X.grownBy Y (Value.slice va n vc).ownBlock) (h3 : (Value.slice va n vc).ownBlock = some g ∨ g = X.heap.size) : DN w (Y.setCell ⟨B, 3, none⟩ (.slice (some ⟨g, 0, none⟩) n' vc')) N SB R B base a0 a1 a2 a3 a4 a len cap k s t o (some ⟨g, 0, none⟩) n' vc' l' ∧ S4 Y B (.int .i64 s) (.int .i64 t) (.int .i64 o) (.slice va n vc) := by
  obtain ⟨e, l1, l2, l3⟩ := h.lt
  have hx := h.bb.lt
  have hge : ∀ q, (Value.slice va n vc).ownBlock = some q → base ≤ q ∧ q ≠ B := fun q hq => ⟨row_ge h.ow q hq, h.ob q hq⟩
  have hgB : g ≠ B := by
    rcases h3 with h3 | h3
    · exact (hge g h3).2
    · omega
  have ne : ∀ b, b < base ∨ b = B → (Value.slice va n vc).ownBlock ≠ some b := fun b hb q => by have := hge b q; omega
  have bl : ∀ m, m ≤ base → Below m X Y := fun m hm => ⟨h2.os, h2.tape, h2.output, h2.size, fun b hb => h2.block b (by omega) (fun q => ne b (.inl (by omega)) q.symm)⟩
  have b4 := h.bb.go h2 (ne B (.inr rfl))
  refine ⟨⟨src_off (h.sr.below (bl _ (by omega))) (by omega), (h.q0.go h2 (ne _ (.inl (by omega)))).off (by omega), (h.q1.go h2 (ne _ (.inl (by omega)))).off (by omega), (h.rl.go h2 (ne _ (.inl (by omega)))).off (by omega), b4.set3 _, h1.offne (gbSet _ _ _ _) ?_, ?_, hn, (h.lo.trans (bl _ (by omega))).setCell (by simp; omega) _, e, l1, l2, l3⟩, b4⟩
  · intro q hq; simp only [Value.ownBlock, Option.some.injEq] at hq; omega
  · intro q hq; simp only [Value.ownBlock, Option.some.injEq] at hq; omega
theorem DN.rset {y0 y1 y2 y3 y4 : Int} (h : DN w X N SB R B base a0 a1 a2 a3 a4 a len cap k s t o va n vc l) : DN w (((((X.setCell ⟨R, 0, none⟩ (.int .i64 y0)).setCell ⟨R, 1, none⟩ (.int .i64 y1)).setCell ⟨R, 2, none⟩ (.int .i64 y2)).setCell ⟨R, 3, none⟩ (.int .i64 y3)).setCell ⟨R, 4, none⟩ (.int .i64 y4)) N SB R B base y0 y1 y2 y3 y4 a len cap k s t o va n vc l := by
  obtain ⟨e, l1, l2, l3⟩ := h.lt
  have hR : R ≠ B := by omega
  exact ⟨src_off (src_off (src_off (src_off (src_off h.sr l1) l1) l1) l1) l1, ((((h.q0.off (by omega)).off (by omega)).off (by omega)).off (by omega)).off (by omega), ((((h.q1.off (by omega)).off (by omega)).off (by omega)).off (by omega)).off (by omega), ((((h.rl.set0 _).set1 _).set2 _).set3 _).set4 _, ((((h.bb.off hR).off hR).off hR).off hR).off hR, ((((h.ow.offB (gbSet _ _ _ _) l2).offB (gbSet _ _ _ _) l2).offB (gbSet _ _ _ _) l2).offB (gbSet _ _ _ _) l2).offB (gbSet _ _ _ _) l2, h.ob, h.ln, ((((h.lo.setCell (by simp; omega) _).setCell (by simp; omega) _).setCell (by simp; omega) _).setCell (by simp; omega) _).setCell (by simp; omega) _, e, l1, l2, l3⟩
/-- What is told of the end. -/
structure FinP (w X : World) (N SB : Nat) (a : Option Addr) (len cap k : Nat) (va : Option Addr) (n vc : Nat) (l : List Mk) : Prop where
  ow : OwnMk X (SB + 1) (.slice va n vc) l
  sr : Src X SB a len cap k
  lo : Below N w X
  cr : CodeRow w N a len
  hN : N + 2 ≤ SB
theorem DN.fin (h : DN w X N SB R B base a0 a1 a2 a3 a4 a len cap k s t o va n vc l) (hc : CodeRow w N a len) : FinP w X N SB a len cap k va n vc l := by
  obtain ⟨e, l1, l2, l3⟩ := h.lt
  exact ⟨h.ow.lower (by omega), h.sr, h.lo, hc, by omega⟩
theorem FinP.set {b i : Nat} {y : Value} (h : FinP w X N SB a len cap k va n vc l) (hb : b = N ∨ b = N + 1) : FinP w (X.setCell ⟨b, i, none⟩ y) N SB a len cap k va n vc l := by
  have := h.hN
  have lo' := h.lo.setCell (p := ⟨b, i, none⟩) (by simp; omega) y
  have ne : ∀ j : Nat, (⟨b, i, none⟩ : Addr) ≠ ⟨SB, j, none⟩ := fun j e => by have := congrArg Addr.block e; simp at this; omega
  exact ⟨h.ow.offB (gbSet _ _ _ _) (by omega), ⟨by rw [World.cell?_setCell_other _ _ _ _ (ne 0)]; exact h.sr.c0, by rw [World.cell?_setCell_other _ _ _ _ (ne 1)]; exact h.sr.c1, by rw [World.frozen?_setCell]; exact h.sr.f1, (h.cr.below lo').mono (by omega)⟩, lo', h.cr, h.hN⟩
theorem FinP.drw (h : FinP w X N SB a len cap k va n vc l) : FinP w X.drew N SB a len cap k va n vc l := ⟨h.ow.below (Below.refl _ _).drew, h.sr.drew, h.lo.drew, h.cr, h.hN⟩
end
/-- A breaker, its rules, a time and the source behind them. -/
def BentB (w w' : World) (N : Nat) (a : Option Addr) (len cap : Nat) (e : Ending) : Prop := ∃ (s t o now a0 a1 a2 a3 a4 : Int) (va : Option Addr) (n vc : Nat) (l : List Mk) (k : Nat), e = .returned (.tuple #[.agg #[.int .i64 s, .int .i64 t, .int .i64 o, .slice va n vc], .agg #[.int .i64 a0, .int .i64 a1, .int .i64 a2, .int .i64 a3, .int .i64 a4], .int .i64 now, .pointer (some ⟨N + 2, 0, none⟩)]) ∧ l.length = n ∧ n ≤ 61 ∧ (0 ≤ now ∧ now ≤ 35000) ∧ k ≤ 300 ∧ FinP w w' N (N + 2) a len cap k va n vc l
theorem BentB.mk {w w' : World} {N : Nat} {a : Option Addr} {len cap : Nat} {s t o now a0 a1 a2 a3 a4 : Int} {va : Option Addr} {n vc : Nat} {l : List Mk} {k : Nat} (h1 : l.length = n) (h2 : n ≤ 61) (h3 : 0 ≤ now ∧ now ≤ 35000) (h4 : k ≤ 300) (h5 : FinP w w' N (N + 2) a len cap k va n vc l) : BentB w w' N a len cap (.returned (.tuple #[.agg #[.int .i64 s, .int .i64 t, .int .i64 o, .slice va n vc], .agg #[.int .i64 a0, .int .i64 a1, .int .i64 a2, .int .i64 a3, .int .i64 a4], .int .i64 now, .pointer (some ⟨N + 2, 0, none⟩)])) := ⟨s, t, o, now, a0, a1, a2, a3, a4, va, n, vc, l, k, rfl, h1, h2, h3, h4, h5⟩
theorem bytes_of_code {w : World} {B : Nat} {a : Option Addr} {len : Nat} (h : CodeRow w B a len) : ∃ l : List UInt8, l.length = len ∧ DIn w a l := by
  rcases h with h | ⟨b, off, rfl, hlt, f, hf⟩
  · exact ⟨[], h.symm, .inl rfl⟩
  · refine ⟨(List.range len).map fun i => UInt8.ofNat (f i).toNat, by simp, .inr ⟨b, off, rfl, fun i u hu => ?_⟩⟩
    rw [List.getElem?_map, Option.map_eq_some_iff] at hu
    obtain ⟨j, hj, rfl⟩ := hu
    obtain ⟨hlt2, rfl⟩ := List.getElem?_eq_some_iff.1 hj
    simp only [List.length_range] at hlt2
    simp only [List.getElem_range]
    obtain ⟨e, p0, p1⟩ := hf i hlt2
    rw [e]
    have : (UInt8.ofNat (f i).toNat).toNat = (f i).toNat := by rw [UInt8.toNat_ofNat']; omega
    rw [this, Int.toNat_of_nonneg p0]
theorem code_of_row {w : World} {base : Nat} {va : Option Addr} {m vc : Nat} {l : List UInt8} (hl : l.length = m) (h : w.ownsRow base 5 1 (.slice va m vc) m (dBytes l)) : CodeRow w w.heap.size va m := by
  by_cases h0 : m = 0
  · exact .inl h0
  · have hx := h
    obtain ⟨_, h1 | ⟨g, c, cur, e, hg, hh, _⟩⟩ := h
    · exact absurd h1.2 h0
    · simp only [Value.slice.injEq] at e
      obtain ⟨rfl, _, rfl⟩ := e
      refine .inr ⟨g, 0, rfl, (Array.getElem?_eq_some_iff.1 hh).1, fun i => ((l.getD i 0).toNat : Int), fun i hi => ?_⟩
      have c0 := World.ownsRow.cellAt hx i (by omega)
      rw [Nat.zero_add, c0]
      have hi2 : i < l.length := by omega
      refine ⟨?_, by show (0 : Int) ≤ ((l.getD i 0).toNat : Int); omega, ?_⟩
      · simp [dBytes, List.getElem?_eq_getElem hi2]
      · have := (l.getD i 0).toNat_lt; show ((l.getD i 0).toNat : Int) ≤ 255; omega
noncomputable def lenOf (X : World) (B : Nat) : Nat := match X.cell? ⟨B, 3, none⟩ with
  | some (.slice _ n _) => n
  | _ => 0
theorem lenOf_eq {X : World} {B n vc : Nat} {va : Option Addr} (h : X.cell? ⟨B, 3, none⟩ = some (.slice va n vc)) : lenOf X B = n := by unfold lenOf; rw [h]
def SBR (Z : World) (B R : Nat) (s t o : Int) (va : Option Addr) (n vc : Nat) (a0 a1 a2 a3 a4 : Int) : Prop := Z.cell? ⟨B, 0, none⟩ = some (.int .i64 s) ∧ Z.cell? ⟨B, 1, none⟩ = some (.int .i64 t) ∧ Z.cell? ⟨B, 2, none⟩ = some (.int .i64 o) ∧ Z.cell? ⟨B, 3, none⟩ = some (.slice va n vc) ∧ Z.cell? ⟨R, 0, none⟩ = some (.int .i64 a0) ∧ Z.cell? ⟨R, 1, none⟩ = some (.int .i64 a1) ∧ Z.cell? ⟨R, 2, none⟩ = some (.int .i64 a2) ∧ Z.cell? ⟨R, 3, none⟩ = some (.int .i64 a3) ∧ Z.cell? ⟨R, 4, none⟩ = some (.int .i64 a4)
theorem SBR.off {Z : World} {B R M i : Nat} {y : Value} {s t o : Int} {va : Option Addr} {n vc : Nat} {a0 a1 a2 a3 a4 : Int} (h : SBR Z B R s t o va n vc a0 a1 a2 a3 a4) (h1 : ¬ M = B) (h2 : ¬ M = R) : SBR (Z.setCell ⟨M, i, none⟩ y) B R s t o va n vc a0 a1 a2 a3 a4 := by
  have e1 : ∀ j : Nat, (Z.setCell ⟨M, i, none⟩ y).cell? ⟨B, j, none⟩ = Z.cell? ⟨B, j, none⟩ := fun j => World.cell?_setCell_other _ _ _ _ (fun e => h1 (congrArg Addr.block e))
  have e2 : ∀ j : Nat, (Z.setCell ⟨M, i, none⟩ y).cell? ⟨R, j, none⟩ = Z.cell? ⟨R, j, none⟩ := fun j => World.cell?_setCell_other _ _ _ _ (fun e => h2 (congrArg Addr.block e))
  unfold SBR
  simp only [e1, e2]
  exact h
set_option linter.unusedSimpArgs false in
set_option maxRecDepth 100000 in
set_option maxHeartbeats 32000000 in
theorem l10Bent_any (w : World) (a : Option Addr) (len cap : Nat) (N : Nat) (hN : w.heap.size = N) (hc : CodeRow w N a len) (hl3 : len ≤ 1048576) :
    Calls Try.prog 61 #[.slice a len cap] w fun e w' => BentB w w' N a len cap e := by
  have hl2 : len ≤ 1048577 := by omega
  have HC := rulQ hc
  obtain ⟨i0, hi0, hz0, hz1, hz2⟩ := info_parts dByteI
  have HI0 := rulQ hi0
  have HZ0 := rulQ hz0
  have HZ1 := rulQ hz1
  have HZ2 := rulQ hz2
  clear hi0 hz0 hz1 hz2
  obtain ⟨V1, hV1⟩ : ∃ V, V = w.alloc (.cells #[.int .i64 0, .int .i64 0, .int .i64 0, .slice none 0 0] 51) := ⟨_, rfl⟩
  obtain ⟨V2, hV2⟩ : ∃ V, V = V1.alloc (.cells #[.int .i64 0, .int .i64 0, .int .i64 0, .int .i64 0, .int .i64 0] 53) := ⟨_, rfl⟩
  have z1 : V1.heap.size = N + 1 := by rw [hV1, ← hN]; simp
  have z2 : V2.heap.size = N + 2 := by rw [hV2]; simp [z1]
  have b1 : Below w.heap.size w V1 := by rw [hV1]; exact (Below.refl _ _).alloc (Nat.le_refl _) _
  have b2 : Below V1.heap.size V1 V2 := by rw [hV2]; exact (Below.refl _ _).alloc (Nat.le_refl _) _
  have b12 : Below N w V2 := by rw [← hN]; exact b1.trans (b2.mono b1.size)
  have q0 : S4 V2 N (.int .i64 0) (.int .i64 0) (.int .i64 0) (.slice none 0 0) := by
    have := S4.new w (.int .i64 0) (.int .i64 0) (.int .i64 0) (.slice none 0 0) 51
    rw [← hV1, hN] at this
    exact this.keep b2
  have q1 : S5 V2 (N + 1) (.int .i64 0) (.int .i64 0) (.int .i64 0) (.int .i64 0) (.int .i64 0) := by
    have := S5.new V1 (.int .i64 0) (.int .i64 0) (.int .i64 0) (.int .i64 0) (.int .i64 0) 53
    rw [← hV2, z1] at this
    exact this
  have HSR : Hid (Calls Try.prog 78 #[.slice a len cap] V2 fun e w' => e = .returned (.pointer (some ⟨N + 2, 0, none⟩)) ∧ Src w' (N + 2) a len cap 0 ∧ Below (N + 2) V2 w') := by
    have := l1Source_any V2 a len cap ((hc.below b12).mono (by omega))
    rw [z2] at this
    exact this
  have HB := rulQ b12
  have HQ := rulQ (show S4 V2 N (.int .i64 0) (.int .i64 0) (.int .i64 0) (.slice none 0 0) ∧ S5 V2 (N + 1) (.int .i64 0) (.int .i64 0) (.int .i64 0) (.int .i64 0) (.int .i64 0) from ⟨q0, q1⟩)
  have HV1 := rulQ hV1
  have HV2 := rulQ hV2
  clear b1 b2 b12 q0 q1 hV1 hV2 hc z1 z2
  go_enter Try.func61, Try.ntmps61
  go_upto_region 1 with fail
  rw [← HV1.out, ← HV2.out]
  clear HV1 HV2
  go_wp2_with fail
  refine HSR.out.mono ?_
  rintro r w1 ⟨rfl, hs1, hb1⟩
  have HX1 := rulQ (show Src w1 (N + 2) a len cap 0 ∧ S4 w1 N (.int .i64 0) (.int .i64 0) (.int .i64 0) (.slice none 0 0) ∧ S5 w1 (N + 1) (.int .i64 0) (.int .i64 0) (.int .i64 0) (.int .i64 0) (.int .i64 0) ∧ Below N w w1 from ⟨hs1, HQ.out.1.low hb1 (by omega), HQ.out.2.low hb1 (by omega), HB.out.trans (hb1.mono (by omega))⟩)
  clear hs1 hb1 HSR HB HQ
  go_wp2_with fail
  refine (l10RulesR_any _ (N + 2) a len cap 0 HX1.out.1 (by omega) hl2).mono ?_
  rintro r w2 ⟨⟨a0, a1, a2, a3, a4, rfl, hru⟩, hs2, hb2, ha2⟩
  obtain ⟨R, hR⟩ : ∃ R, w2.heap.size = R := ⟨_, rfl⟩
  have hlt2 : N + 2 < R := by rw [← hR]; exact hs2.lt
  have HRU := rulQ hru
  obtain ⟨V3, hV3⟩ : ∃ V, V = w2.alloc (.cells #[.int .i64 a0, .int .i64 a1, .int .i64 a2, .int .i64 a3, .int .i64 a4] 53) := ⟨_, rfl⟩
  have b3 : Below w2.heap.size w2 V3 := by rw [hV3]; exact (Below.refl _ _).alloc (Nat.le_refl _) _
  have s3 : S5 V3 R (.int .i64 a0) (.int .i64 a1) (.int .i64 a2) (.int .i64 a3) (.int .i64 a4) := by rw [hV3, ← hR]; exact S5.new w2 _ _ _ _ _ _
  have z3 : V3.heap.size = R + 1 := by rw [hV3, ← hR]; simp
  have HX3 := rulQ (show Src V3 (N + 2) a len cap 5 ∧ S4 V3 N (.int .i64 0) (.int .i64 0) (.int .i64 0) (.slice none 0 0) ∧ S5 V3 (N + 1) (.int .i64 0) (.int .i64 0) (.int .i64 0) (.int .i64 0) (.int .i64 0) ∧ Below N w V3 ∧ S5 V3 R (.int .i64 a0) (.int .i64 a1) (.int .i64 a2) (.int .i64 a3) (.int .i64 a4) from ⟨hs2.below (b3.mono hs2.lt), (HX1.out.2.1.ap ha2 (by omega)).keep b3, (HX1.out.2.2.1.ap ha2 (by omega)).keep b3, (HX1.out.2.2.2.trans (hb2.mono (by omega))).trans (b3.mono (by omega)), s3⟩)
  have HZ3 := rulQ z3
  have HV3 := rulQ hV3
  have HD : Hid (Calls Try.prog 86 #[.pointer (some ⟨N + 2, 0, none⟩), .pointer (some ⟨R, 0, none⟩)] V3 fun e w' => DrawnB V3 w' (R + 1) (N + 2) a len cap 5 e) := l10Draw_any V3 (N + 2) R a0 a1 a2 a3 a4 a len cap 5 HX3.out.1 HX3.out.2.2.2.2 (by omega) HRU.out (by omega) hl2 (R + 1) z3
  clear hs2 hb2 ha2 hru b3 s3 z3 hV3 HX1
  go_upto_region 3 with fail
  rw [← HV3.out]
  try simp only [hR]
  clear HV3 hR
  go_wp2_with fail
  refine HD.out.mono ?_
  rintro r w3 ⟨s, t, o, now, va, n, vc, l, rfl, hln, hn60, hnow, how, ⟨k1, hk1, hs3⟩, hb3, ha3⟩
  obtain ⟨B, hB⟩ : ∃ B, w3.heap.size = B := ⟨_, rfl⟩
  obtain ⟨V4, hV4⟩ : ∃ V, V = w3.alloc (.cells #[.int .i64 s, .int .i64 t, .int .i64 o, .slice va n vc] 51) := ⟨_, rfl⟩
  have b4 : Below w3.heap.size w3 V4 := by rw [hV4]; exact (Below.refl _ _).alloc (Nat.le_refl _) _
  have s4 : S4 V4 B (.int .i64 s) (.int .i64 t) (.int .i64 o) (.slice va n vc) := by rw [hV4, ← hB]; exact S4.new w3 _ _ _ _ _
  have hRB : R + 1 ≤ B := by rw [← hB, ← HZ3.out]; exact ha3.size
  have J0 : Hid (DN w V4 N (N + 2) R B (R + 1) a0 a1 a2 a3 a4 a len cap k1 s t o va n vc l) := by
    refine ⟨hs3.below (b4.mono hs3.lt), (HX3.out.2.1.ah ha3 (by omega)).keep b4, (HX3.out.2.2.1.ah ha3 (by omega)).keep b4, (HX3.out.2.2.2.2.ah ha3 (by omega)).keep b4, s4, how.below b4, fun g hg => ?_, hln, (HX3.out.2.2.2.1.trans (hb3.mono (by omega))).trans (b4.mono (by omega)), rfl, hlt2, by omega, hRB⟩
    have := (World.ownsRow.lt how g hg).2
    omega
  have HV4 := rulQ hV4
  have hk1' : k1 ≤ 205 := by omega
  clear hs3 hb3 ha3 how hln b4 s4 hV4 HX3 HZ3 HD HRU
  go_upto_region 4 with fail
  rw [← HV4.out]
  try simp only [hB]
  clear HV4 hB
  obtain ⟨SB, hSB⟩ : ∃ SB, N + 2 = SB := ⟨_, rfl⟩
  rw [hSB] at J0
  simp only [hSB]
  go_wp2_with fail
  refine (l1Next_h _ SB a len cap k1 18 J0.out.sr (by omega) (by omega) (by omega) hl2).mono ?_
  rintro r w5 ⟨⟨v, v0, v1, rfl⟩, hs1, hb1, ha1⟩
  have J1 := hid12 (J0.out.step hs1 hb1 ha1)
  clear hs1 hb1 ha1 J0
  have HSB : Hid (N + 2 = SB) := hSB
  clear hSB
  go_upto_block 0 with fail
  have hnw : 0 ≤ now ∧ now ≤ 35000 := hnow
  have w50 : IntKind.i64.wrap (now + 50) = now + 50 := by rw [IntKind.wrap_i64]; omega
  have w01 : IntKind.i64.wrap (now + 1) = now + 1 := by rw [IntKind.wrap_i64]; omega
  go_cut [] from 21 to 66 (fun wx => ∃ (s t o : Int) (va : Option Addr) (n vc : Nat) (l : List Mk) (k : Nat), n ≤ 61 ∧ k ≤ 210 ∧ DN w wx N SB R B (R + 1) a0 a1 a2 a3 a4 a len cap k s t o va n vc l)
  case first =>
    have n0 : ¬ v = 0 → (v == 0) = false := fun h => by simpa using h
    have n1 : ¬ v = 1 → (v == 1) = false := fun h => by simpa using h
    have n2 : ¬ v = 2 → (v == 2) = false := fun h => by simpa using h
    have n3 : ¬ v = 3 → (v == 3) = false := fun h => by simpa using h
    have n4 : ¬ v = 4 → (v == 4) = false := fun h => by simpa using h
    by_cases hv0 : v = 0
    · subst hv0
      clear n0 n1 n2 n3 n4
      go_wp2_with fail
      refine (l1Pick_h _ SB a len cap (k1 + 1) J1.out.sr [3, -1, 1, 2, 0] 5 rfl (by omega) (by omega) (by omega) hl2).mono ?_
      rintro r w6 ⟨⟨x, _, rfl⟩, hs1, hb1, ha1⟩
      have J2 := hid12 (J1.out.step hs1 hb1 ha1)
      clear hs1 hb1 ha1 J1
      have J3 := hid12 (J2.out.s0 x)
      obtain ⟨c0, c1, c2, c3, fr, _⟩ := J2.out.bb
      have f0 := fr 0
      have f1 := fr 1
      have f2 := fr 2
      clear fr J2
      go_wp2_with fail
      go_meet
      exact ⟨_, _, _, va, n, vc, l, k1 + 2, by omega, by omega, J3.out⟩
    by_cases hv1 : v = 1
    · subst hv1
      have z0 := n0 (by omega)
      clear n0 n1 n2 n3 n4
      go_wp2_with fail
      refine (l1Pick_h _ SB a len cap (k1 + 1) J1.out.sr [6, -1, 1] 3 rfl (by omega) (by omega) (by omega) hl2).mono ?_
      rintro r w6 ⟨⟨x, _, rfl⟩, hs1, hb1, ha1⟩
      have J2 := hid12 (J1.out.step hs1 hb1 ha1)
      clear hs1 hb1 ha1 J1
      have J3 := hid12 (J2.out.s2 x)
      obtain ⟨c0, c1, c2, c3, fr, _⟩ := J2.out.bb
      have f0 := fr 0
      have f1 := fr 1
      have f2 := fr 2
      clear fr J2
      go_wp2_with fail
      go_meet
      exact ⟨_, _, _, va, n, vc, l, k1 + 2, by omega, by omega, J3.out⟩
    by_cases hv2 : v = 2
    · subst hv2
      have z0 := n0 (by omega)
      have z1 := n1 (by omega)
      clear n0 n1 n2 n3 n4
      go_wp2_with fail
      have HKS : Hid (∀ X, S4 X B (.int .i64 s) (.int .i64 t) (.int .i64 o) (.slice va n vc) → X.cell? ⟨B, 3, none⟩ = some (.slice va n vc)) := fun X h => h.c3
      have JD := hid12 (J1.out.keep (Below.refl _ _).drew)
      have HS0 := hid12 (HKS.out _ JD.out.bb)
      refine wp_region_last (fun X : World => X.cell? ⟨B, 3, none⟩ = some (.slice va n vc)) 11 (by kernel_rfl) ?_
      refine butLast_take (i := 0) (v := .pointer (some ⟨B, 3, none⟩)) rfl (by kernel_rfl) (by kernel_rfl) (by kernel_rfl) (by kernel_rfl) (fun _ _ _ h => h) (Or.inl ⟨by kernel_rfl, ?_⟩) HS0.out ?_
      · intro X s1
        go_simp
      try simp only [Act.put, List.setIfInBounds_toArray, List.set_cons_zero, List.set_cons_succ]
      refine butLast_take (i := 1) (v := .slice va n vc) rfl (by kernel_rfl) (by kernel_rfl) (by kernel_rfl) (by kernel_rfl) (fun _ _ _ h => h) (Or.inl ⟨by kernel_rfl, ?_⟩) HS0.out ?_
      · intro X s1
        go_simp
      try simp only [Act.put, List.setIfInBounds_toArray, List.set_cons_zero, List.set_cons_succ]
      refine butLast_take (i := 2) (v := .pointer (some ⟨SB, 0, none⟩)) rfl (by kernel_rfl) (by kernel_rfl) (by kernel_rfl) (by kernel_rfl) (fun _ _ _ h => h) (Or.inl ⟨by kernel_rfl, ?_⟩) HS0.out ?_
      · intro X s1
        go_simp
      try simp only [Act.put, List.setIfInBounds_toArray, List.set_cons_zero, List.set_cons_succ]
      refine butLast_take (i := 3) (v := .int .i64 now) rfl (by kernel_rfl) (by kernel_rfl) (by kernel_rfl) (by kernel_rfl) (fun _ _ _ h => h) (Or.inl ⟨by kernel_rfl, ?_⟩) HS0.out ?_
      · intro X s1
        go_simp
      try simp only [Act.put, List.setIfInBounds_toArray, List.set_cons_zero, List.set_cons_succ]
      refine butLast_take (i := 4) (v := .int .i64 (now + 50)) rfl (by kernel_rfl) (by kernel_rfl) (by kernel_rfl) (by kernel_rfl) (fun _ _ _ h => h) (Or.inl ⟨by kernel_rfl, ?_⟩) HS0.out ?_
      · intro X s1
        go_simp
      try simp only [Act.put, List.setIfInBounds_toArray, List.set_cons_zero, List.set_cons_succ]
      refine butLast_one (i := 5) rfl (by kernel_rfl) (fun K hK => ?_)
      go_simp
      have JA := hid12 (JD.out.keep ((Below.refl _ _).alloc (Nat.le_refl _) (.cells (([0, -1, now + 50] : List Int).map (Value.int .i64)).toArray 2)))
      refine hK _ _ (.inr (HKS.out _ JA.out.bb)) ?_
      clear hK K JA
      try simp only [Act.put, List.setIfInBounds_toArray, List.set_cons_zero, List.set_cons_succ]
      refine butLast_one (i := 6) rfl (by kernel_rfl) (fun K hK => ?_)
      go_simp
      refine (l1Pick_h _ SB a len cap (k1 + 1) JD.out.sr [0, -1, now + 50] 3 rfl (by omega) (by omega) (by omega) hl2).mono ?_
      rintro r w6 ⟨⟨x, _, rfl⟩, hs1, hb1, ha1⟩
      have J2 := hid12 (JD.out.step hs1 hb1 ha1)
      clear hs1 hb1 ha1 J1 JD
      refine hK _ _ (.inr (HKS.out _ J2.out.bb)) ?_
      clear hK K
      try simp only [Act.put, List.setIfInBounds_toArray, List.set_cons_zero, List.set_cons_succ]
      refine butLast_one (i := 7) rfl (by kernel_rfl) (fun K hK => ?_)
      go_simp
      refine hK _ _ (.inr (HKS.out _ J2.out.bb)) ?_
      clear hK K
      try simp only [Act.put, List.setIfInBounds_toArray, List.set_cons_zero, List.set_cons_succ]
      refine butLast_one (i := 8) rfl (by kernel_rfl) (fun K hK => ?_)
      go_simp
      have J3 := hid12 (J2.out.keep ((Below.refl _ _).alloc (Nat.le_refl _) (.cells #[.int .i64 x, .bool false] 112)))
      refine hK _ _ (.inr (HKS.out _ J3.out.bb)) ?_
      clear hK K
      try simp only [Act.put, List.setIfInBounds_toArray, List.set_cons_zero, List.set_cons_succ]
      obtain ⟨X3, hX3⟩ : ∃ X3, X3 = w6.alloc (.cells #[.int .i64 x, .bool false] 112) := ⟨_, rfl⟩
      have N3 : Hid (X3.cell? ⟨w6.heap.size, 0, none⟩ = some (.int .i64 x) ∧ X3.cell? ⟨w6.heap.size, 1, none⟩ = some (.bool false)) := by rw [hX3]; exact ⟨by simp, by simp⟩
      rw [← hX3] at J3 ⊢
      have bs3 : Hid (R + 1 ≤ X3.heap.size) := by have h1 := J3.out.lt; have h2 := J3.out.bb.lt; show R + 1 ≤ X3.heap.size; omega
      clear hX3
      refine butLast_one (i := 9) rfl (by kernel_rfl) (fun K hK => ?_)
      refine step_append1Mk X3 (by rfl) _ _ (by rfl) (R + 1) _ l ⟨x, false⟩ w6.heap.size n J3.out.ln (by rfl) J3.out.ow (by rfl) N3.out.1 N3.out.2 (by omega) bs3.out ?_
      intro g5 vc5 w7 h41 h42 h43
      have HL5 : (l ++ [(⟨x, false⟩ : Mk)]).length = n + 1 := by rw [List.length_append, J3.out.ln]; rfl
      obtain ⟨l5, hl5⟩ : ∃ l5, l ++ [(⟨x, false⟩ : Mk)] = l5 := ⟨_, rfl⟩
      rw [hl5] at HL5 h41
      clear hl5
      have JP := hid12 (J3.out.push h41 HL5 h42 h43)
      clear h41 h42 h43 HL5 J3 J2 N3 bs3
      refine hK _ _ (.inr (HKS.out _ JP.out.2)) ?_
      clear hK K
      try simp only [Act.put, List.setIfInBounds_toArray, List.set_cons_zero, List.set_cons_succ]
      refine butLast_one (i := 10) rfl (by kernel_rfl) (fun K hK => ?_)
      go_simp
      refine hK _ _ (.inr (HKS.out _ JP.out.2)) ?_
      clear hK K
      try simp only [Act.put, List.setIfInBounds_toArray, List.set_cons_zero, List.set_cons_succ]
      obtain ⟨c0, c1, c2, c3, fr, _⟩ := JP.out.2
      have f3 := fr 3
      clear fr
      refine butLast_one (i := 11) rfl (by kernel_rfl) (fun K hK => ?_)
      go_simp
      refine hK _ _ (.inl rfl) ?_
      clear hK K
      refine butLast_end (by kernel_rfl) ?_
      go_wp2_with fail
      go_meet
      exact ⟨_, _, _, _, n + 1, vc5, l5, k1 + 2, by omega, by omega, JP.out.1⟩
    by_cases hv3 : v = 3
    · subst hv3
      have z0 := n0 (by omega)
      have z1 := n1 (by omega)
      have z2 := n2 (by omega)
      clear n0 n1 n2 n3 n4
      go_wp2_with fail
      refine (l1Pick_h _ SB a len cap (k1 + 1) J1.out.sr [-1, now + 1] 2 rfl (by omega) (by omega) (by omega) hl2).mono ?_
      rintro r w6 ⟨⟨x, _, rfl⟩, hs1, hb1, ha1⟩
      have J2 := hid12 (J1.out.step hs1 hb1 ha1)
      clear hs1 hb1 ha1 J1
      have J3 := hid12 (J2.out.s1 x)
      obtain ⟨c0, c1, c2, c3, fr, _⟩ := J2.out.bb
      have f0 := fr 0
      have f1 := fr 1
      have f2 := fr 2
      clear fr J2
      go_wp2_with fail
      go_meet
      exact ⟨_, _, _, va, n, vc, l, k1 + 2, by omega, by omega, J3.out⟩
    by_cases hv4 : v = 4
    · subst hv4
      have z0 := n0 (by omega)
      have z1 := n1 (by omega)
      have z2 := n2 (by omega)
      have z3 := n3 (by omega)
      clear n0 n1 n2 n3 n4
      go_wp2_with fail
      go_loopw [] (fun X => ∃ (va : Option Addr) (n vc : Nat) (l : List Mk), n ≤ 61 ∧ DN w X N SB R B (R + 1) a0 a1 a2 a3 a4 a len cap (k1 + 1) s t o va n vc l) (fun X => 61 - lenOf X B)
      case atStart => exact ⟨va, n, vc, l, by omega, J1.out⟩
      case round =>
        obtain ⟨vb, nb, vd, lb, hnb, hJ⟩ := hrel
        clear J1
        have J4 := hid12 hJ
        clear hJ
        obtain ⟨c0, c1, c2, c3, fr, _⟩ := J4.out.bb
        have fr3 := fr 3
        clear fr
        by_cases hlt : (nb : Int) < 61
        · have HE : Hid (lenOf wr B = nb) := lenOf_eq c3
          have JA := hid12 (J4.out.keep ((Below.refl _ _).alloc (Nat.le_refl _) (.cells #[.int .i64 now, .bool false] 112)))
          have bs3 : R + 1 ≤ (wr.alloc (.cells #[.int .i64 now, .bool false] 112)).heap.size := by have h1 := J4.out.lt; have h2 := JA.out.bb.lt; omega
          have n0' : (wr.alloc (.cells #[.int .i64 now, .bool false] 112)).cell? ⟨wr.heap.size, 0, none⟩ = some (.int .i64 now) := by simp
          have n1' : (wr.alloc (.cells #[.int .i64 now, .bool false] 112)).cell? ⟨wr.heap.size, 1, none⟩ = some (.bool false) := by simp
          go_wp2_with (at_builtin; refine wpList_append1MkG (wr.alloc (.cells #[.int .i64 now, .bool false] 112)) rfl (.tmp 61) (.tmp 64) rfl (R + 1) (.slice vb nb vd) lb ⟨now, false⟩ wr.heap.size nb J4.out.ln rfl JA.out.ow (by simp [go_sem]) n0' n1' (by omega) bs3 ?_; intro g5 vc5 w7 h41 h42 h43; have HL5 : (lb ++ [(⟨now, false⟩ : Mk)]).length = nb + 1 := (by rw [List.length_append, J4.out.ln]; rfl); obtain ⟨l5, hl5⟩ : ∃ l5, lb ++ [(⟨now, false⟩ : Mk)] = l5 := ⟨_, rfl⟩; rw [hl5] at HL5 h41; clear hl5; have JP := hid12 (JA.out.push h41 HL5 h42 h43); clear h41 h42 h43 HL5 n0' n1' bs3 JA c0 c1 c2 c3 fr3; obtain ⟨d0, d1, d2, d3, df, _⟩ := JP.out.2; have df3 := df 3; clear df)
          go_roundw
          case rel => exact ⟨_, nb + 1, vc5, l5, by omega, JP.out.1⟩
          case measure => have := HE.out; rw [lenOf_eq JP.out.1.bb.c3, this]; omega
        · go_wp2_with fail
          go_meet
          exact ⟨_, _, _, vb, nb, vd, lb, k1 + 1, hnb, by omega, J4.out⟩
    have z0 := n0 hv0
    have z1 := n1 hv1
    have z2 := n2 hv2
    have z3 := n3 hv3
    have z4 := n4 hv4
    clear n0 n1 n2 n3 n4
    go_wp2_with fail
    go_meet
    exact ⟨_, _, _, va, n, vc, l, k1 + 1, by omega, by omega, J1.out⟩
  case rest =>
    obtain ⟨s2, t2, o2, va2, n2, vc2, l2, k2, hn2, hk2, hJ⟩ := hcut
    have J2 := hid12 hJ
    have hn3 : n2 ≤ 61 := hn2
    clear hJ J1 w50 w01
    generalize wc = w6 at *
    go_wp2_with fail
    refine (l1Chance_h _ SB a len cap k2 12 J2.out.sr (by omega) (by omega) (by omega) hl2).mono ?_
    rintro r w7 ⟨⟨c12, rfl⟩, hs1, hb1, ha1⟩
    have J3 := hid12 (J2.out.step hs1 hb1 ha1)
    clear hs1 hb1 ha1 J2
    cases c12
    · skip
      have e2 := HSB.out
      subst e2
      obtain ⟨c0, c1, c2, c3, _, _⟩ := J3.out.bb
      obtain ⟨r0, r1, r2, r3, r4, _, _⟩ := J3.out.rl
      obtain ⟨p0, p1, p2, p3, pf, _⟩ := J3.out.q0
      obtain ⟨x0, x1, x2, x3, x4, xf, _⟩ := J3.out.q1
      have pf0 := pf 0
      have pf1 := pf 1
      have pf2 := pf 2
      have pf3 := pf 3
      have xf0 := xf 0
      have xf1 := xf 1
      have xf2 := xf 2
      have xf3 := xf 3
      have xf4 := xf 4
      clear pf xf
      have HF := hid12 (J3.out.fin HC.out)
      have HLN2 := hid12 J3.out.ln
      have hRN : ¬ R = N ∧ ¬ R = N + 1 ∧ ¬ B = N ∧ ¬ B = N + 1 := by have := J3.out.lt; omega
      obtain ⟨m1, m2, m3, m4⟩ := hRN
      have m5 : ¬ N = R := fun e => m1 e.symm
      have m6 : ¬ N + 1 = R := fun e => m2 e.symm
      have m7 : ¬ N = B := fun e => m3 e.symm
      have m8 : ¬ N + 1 = B := fun e => m4 e.symm
      have HS0 : Hid (SBR w7 B R s2 t2 o2 va2 n2 vc2 a0 a1 a2 a3 a4) := ⟨J3.out.bb.c0, J3.out.bb.c1, J3.out.bb.c2, J3.out.bb.c3, J3.out.rl.c0, J3.out.rl.c1, J3.out.rl.c2, J3.out.rl.c3, J3.out.rl.c4⟩
      have HKS : Hid (∀ Z i y, SBR Z B R s2 t2 o2 va2 n2 vc2 a0 a1 a2 a3 a4 → SBR (Z.setCell ⟨N, i, none⟩ y) B R s2 t2 o2 va2 n2 vc2 a0 a1 a2 a3 a4) := fun Z i y h => h.off m7 m5
      have HKT : Hid (∀ Z i y, SBR Z B R s2 t2 o2 va2 n2 vc2 a0 a1 a2 a3 a4 → SBR (Z.setCell ⟨N + 1, i, none⟩ y) B R s2 t2 o2 va2 n2 vc2 a0 a1 a2 a3 a4) := fun Z i y h => h.off m8 m6
      have HKD : Hid (∀ Z, SBR Z B R s2 t2 o2 va2 n2 vc2 a0 a1 a2 a3 a4 → SBR Z.drew B R s2 t2 o2 va2 n2 vc2 a0 a1 a2 a3 a4) := fun Z h => h
      clear J3
      unfold SBR at HS0 HKS HKT HKD
      go_wp2_with fail
      go_region_held3 (fun Z => Z.cell? ⟨B, 0, none⟩ = some (.int .i64 s2) ∧ Z.cell? ⟨B, 1, none⟩ = some (.int .i64 t2) ∧ Z.cell? ⟨B, 2, none⟩ = some (.int .i64 o2) ∧ Z.cell? ⟨B, 3, none⟩ = some (.slice va2 n2 vc2) ∧ Z.cell? ⟨R, 0, none⟩ = some (.int .i64 a0) ∧ Z.cell? ⟨R, 1, none⟩ = some (.int .i64 a1) ∧ Z.cell? ⟨R, 2, none⟩ = some (.int .i64 a2) ∧ Z.cell? ⟨R, 3, none⟩ = some (.int .i64 a3) ∧ Z.cell? ⟨R, 4, none⟩ = some (.int .i64 a4))
        (repeat (first | with_reducible exact HS0.out | with_reducible refine HKS.out _ _ _ ?_ | with_reducible refine HKT.out _ _ _ ?_ | with_reducible refine HKD.out _ ?_))
        (fail)
      all_goals
        go_wp2_with fail
        exact bodyPost_ret (v := .tuple #[.agg #[.int .i64 s2, .int .i64 t2, .int .i64 o2, .slice va2 n2 vc2], .agg #[.int .i64 a0, .int .i64 a1, .int .i64 a2, .int .i64 a3, .int .i64 a4], .int .i64 now, .pointer (some ⟨N + 2, 0, none⟩)]) (by simp [results, Try.results61, go_sem, p0, p1, p2, p3, x0, x1, x2, x3, x4]) rfl (BentB.mk HLN2.out (by omega) (by omega) (by omega : (k2 + 1) ≤ 300) (by repeat (first | with_reducible exact HF.out | with_reducible refine FinP.set ?_ (by omega) | with_reducible refine FinP.drw ?_)))
    · skip
      obtain ⟨X7, hX7⟩ : ∃ X, X = w7.alloc (.cells #[.int .u8 1] 5) := ⟨_, rfl⟩
      have B1 : Hid (Below w7.heap.size w7 X7) := by show Below _ _ _; rw [hX7]; exact (Below.refl _ _).alloc (Nat.le_refl _) _
      have O1 : Hid (X7.ownsRow w7.heap.size 5 1 (.slice (some ⟨w7.heap.size, 0, none⟩) 1 1) 1 [.int .u8 1]) := by
        show World.ownsRow _ _ _ _ _ _ _
        rw [hX7]
        exact ⟨by simp, .inr ⟨w7.heap.size, 1, #[.int .u8 1], rfl, Nat.le_refl _, heap_alloc_new _ _, Nat.le_refl _, by unfold maxLen; omega, by simp, by simp⟩⟩
      have J4 := hid12 (J3.out.keep B1.out)
      obtain ⟨lc, hlc, hin⟩ := bytes_of_code J4.out.sr.row
      have HIN := hid12 (dBytes_in hin)
      have HLN : Hid ((dBytes lc).length = len * 1) := by show _ = _; unfold dBytes; simp [hlc]
      have HL1 : Hid ((1 :: lc).length = 1 + len) := by show _ = _; simp [hlc]; omega
      have HDB : Hid ([Value.int .u8 1] ++ dBytes lc = dBytes (1 :: lc)) := by show _ = _; simp [dBytes]
      have HX7 := hid12 hX7
      have HLC := hid12 hlc
      clear hX7 hin hlc
      go_wp2_with (at_builtin; rw [← HX7.out]; refine wpList_plain rfl fun _ hK => wp_append_in X7 (.tmp 69) (.tmp 70) 22 5 rfl i0 _ 1 1 Try.underlying22 HI0.out HZ0.out HZ1.out HZ2.out rfl (by omega) w7.heap.size (.slice (some ⟨w7.heap.size, 0, none⟩) 1 1) 1 [.int .u8 1] (by rfl) O1.out a cap len (dBytes lc) (by rfl) HLN.out (by rw [← HLC.out]; exact HIN.out) (dOneB lc) (by unfold maxLen; omega) (by omega) B1.out.size (fun v' w8 h1 h2 _ => hK _ _ ?_); obtain ⟨vr, vq, rfl, _⟩ := row_form h1; rw [HDB.out] at h1; have HCR := hid12 (code_of_row HL1.out h1); have J5 := hid12 (J3.out.keep (B1.out.trans h2)); clear h1 h2)
      refine (drawRules_any _ vr (1 + len) vq HCR.out (by omega)).mono ?_
      rintro r w9 ⟨⟨b0, b1, b2, b3, b4, rfl⟩, hb9⟩
      have J6 := hid12 (J5.out.keep hb9)
      clear hb9 J5 J4 J3 HCR
      obtain ⟨r0, r1, r2, r3, r4, rf, _⟩ := J6.out.rl
      have rf0 := rf 0
      have rf1 := rf 1
      have rf2 := rf 2
      have rf3 := rf 3
      have rf4 := rf 4
      clear rf
      have J7 := hid12 (DN.rset (y0 := b0) (y1 := b1) (y2 := b2) (y3 := b3) (y4 := b4) J6.out)
      obtain ⟨X9, hX9⟩ : ∃ X, X = (((((w9.setCell ⟨R, 0, none⟩ (.int .i64 b0)).setCell ⟨R, 1, none⟩ (.int .i64 b1)).setCell ⟨R, 2, none⟩ (.int .i64 b2)).setCell ⟨R, 3, none⟩ (.int .i64 b3)).setCell ⟨R, 4, none⟩ (.int .i64 b4)) := ⟨_, rfl⟩
      rw [← hX9] at J7
      have HX9 := hid12 hX9
      clear hX9 J6
      go_upto_region 18 with fail
      rw [← HX9.out]
      clear HX9 r0 r1 r2 r3 r4 rf0 rf1 rf2 rf3 rf4
      have e2 := HSB.out
      subst e2
      obtain ⟨c0, c1, c2, c3, _, _⟩ := J7.out.bb
      obtain ⟨r0, r1, r2, r3, r4, _, _⟩ := J7.out.rl
      obtain ⟨p0, p1, p2, p3, pf, _⟩ := J7.out.q0
      obtain ⟨x0, x1, x2, x3, x4, xf, _⟩ := J7.out.q1
      have pf0 := pf 0
      have pf1 := pf 1
      have pf2 := pf 2
      have pf3 := pf 3
      have xf0 := xf 0
      have xf1 := xf 1
      have xf2 := xf 2
      have xf3 := xf 3
      have xf4 := xf 4
      clear pf xf
      have HF := hid12 (J7.out.fin HC.out)
      have HLN2 := hid12 J7.out.ln
      have hRN : ¬ R = N ∧ ¬ R = N + 1 ∧ ¬ B = N ∧ ¬ B = N + 1 := by have := J7.out.lt; omega
      obtain ⟨m1, m2, m3, m4⟩ := hRN
      have m5 : ¬ N = R := fun e => m1 e.symm
      have m6 : ¬ N + 1 = R := fun e => m2 e.symm
      have m7 : ¬ N = B := fun e => m3 e.symm
      have m8 : ¬ N + 1 = B := fun e => m4 e.symm
      have HS0 : Hid (SBR X9 B R s2 t2 o2 va2 n2 vc2 b0 b1 b2 b3 b4) := ⟨J7.out.bb.c0, J7.out.bb.c1, J7.out.bb.c2, J7.out.bb.c3, J7.out.rl.c0, J7.out.rl.c1, J7.out.rl.c2, J7.out.rl.c3, J7.out.rl.c4⟩
      have HKS : Hid (∀ Z i y, SBR Z B R s2 t2 o2 va2 n2 vc2 b0 b1 b2 b3 b4 → SBR (Z.setCell ⟨N, i, none⟩ y) B R s2 t2 o2 va2 n2 vc2 b0 b1 b2 b3 b4) := fun Z i y h => h.off m7 m5
      have HKT : Hid (∀ Z i y, SBR Z B R s2 t2 o2 va2 n2 vc2 b0 b1 b2 b3 b4 → SBR (Z.setCell ⟨N + 1, i, none⟩ y) B R s2 t2 o2 va2 n2 vc2 b0 b1 b2 b3 b4) := fun Z i y h => h.off m8 m6
      have HKD : Hid (∀ Z, SBR Z B R s2 t2 o2 va2 n2 vc2 b0 b1 b2 b3 b4 → SBR Z.drew B R s2 t2 o2 va2 n2 vc2 b0 b1 b2 b3 b4) := fun Z h => h
      clear J7
      unfold SBR at HS0 HKS HKT HKD
      go_wp2_with fail
      go_region_held3 (fun Z => Z.cell? ⟨B, 0, none⟩ = some (.int .i64 s2) ∧ Z.cell? ⟨B, 1, none⟩ = some (.int .i64 t2) ∧ Z.cell? ⟨B, 2, none⟩ = some (.int .i64 o2) ∧ Z.cell? ⟨B, 3, none⟩ = some (.slice va2 n2 vc2) ∧ Z.cell? ⟨R, 0, none⟩ = some (.int .i64 b0) ∧ Z.cell? ⟨R, 1, none⟩ = some (.int .i64 b1) ∧ Z.cell? ⟨R, 2, none⟩ = some (.int .i64 b2) ∧ Z.cell? ⟨R, 3, none⟩ = some (.int .i64 b3) ∧ Z.cell? ⟨R, 4, none⟩ = some (.int .i64 b4))
        (repeat (first | with_reducible exact HS0.out | with_reducible refine HKS.out _ _ _ ?_ | with_reducible refine HKT.out _ _ _ ?_ | with_reducible refine HKD.out _ ?_))
        (fail)
      all_goals
        go_wp2_with fail
        exact bodyPost_ret (v := .tuple #[.agg #[.int .i64 s2, .int .i64 t2, .int .i64 o2, .slice va2 n2 vc2], .agg #[.int .i64 b0, .int .i64 b1, .int .i64 b2, .int .i64 b3, .int .i64 b4], .int .i64 now, .pointer (some ⟨N + 2, 0, none⟩)]) (by simp [results, Try.results61, go_sem, p0, p1, p2, p3, x0, x1, x2, x3, x4]) rfl (BentB.mk HLN2.out (by omega) (by omega) (by omega : (k2 + 1) ≤ 300) (by repeat (first | with_reducible exact HF.out | with_reducible refine FinP.set ?_ (by omega) | with_reducible refine FinP.drw ?_)))
end Go.Proofs.Ytmgidcigihpbeaa
