/-
  What the loop of ParseItems keeps between two rounds.
-/
import Derived.Test.YtibomkcbopkpkaaDoorParseImpl
import Derived.RangeFuncBox
namespace Go.Proofs.YtibomkcbopkpkaaDoor
open Go.ChangeShapes Go.WideShapes Go.ChangeAt Go.RowKit Go.Shelf
/-- Between two rounds: all that was told was an item, and they lie in the row. -/
structure PI (w : World) (pre : List (Rec × Int)) (W : World) : Prop where
  good : ∀ x ∈ pre, x.2 = 0
  row : ∃ v, W.cell? ⟨w.heap.size + 1, 0, none⟩ = some v ∧ OwnI W (w.heap.size + 3) v (pre.map (·.1))
  bf : W.frozen? ⟨w.heap.size + 1, 0, none⟩ = false
  c0 : W.cell? ⟨w.heap.size, 0, none⟩ = some (.int .i64 0)
  c1 : W.cell? ⟨w.heap.size, 1, none⟩ = some (.slice none 0 0)
  f0 : W.frozen? ⟨w.heap.size, 0, none⟩ = false
  f1 : W.frozen? ⟨w.heap.size, 1, none⟩ = false
  below : Below w.heap.size w W
  size : w.heap.size + 3 ≤ W.heap.size
/-- A round has left: the last that was told was none. -/
def PX (w : World) (c : Code) (pre : List (Rec × Int)) (W : World) : Prop := c = .ret ∧ (∃ pr x, pre = pr ++ [x] ∧ x.2 ≠ 0 ∧ W.cell? ⟨w.heap.size, 0, none⟩ = some (.int .i64 x.2) ∧ W.cell? ⟨w.heap.size, 1, none⟩ = some (.slice none 0 0)) ∧ Below w.heap.size w W
theorem ownI_apart {W : World} {base : Nat} {v : Value} {l : List Rec} (h : OwnI W base v l) {row : Option Nat} (hr : ∀ r, row = some r → ∃ o : Obj, W.heap[r]? = some o ∧ o.isCells = false) : v.ownBlock = none ∨ v.ownBlock ≠ row := by
  obtain ⟨_, h1 | ⟨g, c, cur, rfl, _, hh, _⟩⟩ := h
  · left; rw [h1.1]; rfl
  · right
    intro e
    obtain ⟨o, ho, hc⟩ := hr g e.symm
    rw [hh] at ho
    obtain rfl := Option.some.inj ho
    cases hc
theorem pi_grown {w W W' : World} {pre : List (Rec × Int)} {row : Option Nat} (h : PI w pre W) (hg : W.grownBy W' row) (hr : ∀ r, row = some r → w.heap.size + 3 ≤ r ∧ ∃ o : Obj, W.heap[r]? = some o ∧ o.isCells = false) : PI w pre W' := by
  have hr2 : ∀ r, row = some r → ∃ o : Obj, W.heap[r]? = some o ∧ o.isCells = false := fun r e => (hr r e).2
  obtain ⟨v, hv, ho⟩ := h.row
  exact { good := h.good, row := ⟨v, cell_kept hv hg hr2, World.ownsRow.kept ho hg (ownI_apart ho hr2)⟩, bf := (frozen_kept hv hg hr2).trans h.bf,
          c0 := cell_kept h.c0 hg hr2, c1 := cell_kept h.c1 hg hr2, f0 := (frozen_kept h.c0 hg hr2).trans h.f0, f1 := (frozen_kept h.c1 hg hr2).trans h.f1,
          below := h.below.grown hg (by have := h.size; omega) (fun k e => by have := (hr k e).1; omega), size := Nat.le_trans h.size hg.size }
theorem px_grown {w W W' : World} {c : Code} {pre : List (Rec × Int)} {row : Option Nat} (h : PX w c pre W) (hg : W.grownBy W' row) (hr : ∀ r, row = some r → w.heap.size + 3 ≤ r ∧ ∃ o : Obj, W.heap[r]? = some o ∧ o.isCells = false) : PX w c pre W' := by
  have hr2 : ∀ r, row = some r → ∃ o : Obj, W.heap[r]? = some o ∧ o.isCells = false := fun r e => (hr r e).2
  obtain ⟨h1, ⟨pr, x, e, hx, c0, c1⟩, hb⟩ := h
  exact ⟨h1, ⟨pr, x, e, hx, cell_kept c0 hg hr2, cell_kept c1 hg hr2⟩, hb.grown hg hb.size (fun k e => by have := (hr k e).1; omega)⟩
theorem pi_alloc {w W : World} {pre : List (Rec × Int)} (h : PI w pre W) (o : Obj) : PI w pre (W.alloc o) := pi_grown h (World.grownBy_alloc W o none) (fun r e => by cases e)
/-- The row has grown by one item, and its box holds it. -/
theorem pi_append {w W w1 : World} {pre : List (Rec × Int)} {r : Rec} {v v' : Value} {tmp : Obj} {s : ByteArray} (h : PI w pre W) (hv : W.cell? ⟨w.heap.size + 1, 0, none⟩ = some v) (ho : OwnI W (w.heap.size + 3) v (pre.map (·.1)))
    (ho' : OwnI w1 (w.heap.size + 3) v' (pre.map (·.1) ++ [r])) (hg : (W.alloc tmp).grownBy w1 v.ownBlock) :
    w1.cell? ⟨w.heap.size + 1, 0, none⟩ = some v ∧ w1.frozen? ⟨w.heap.size + 1, 0, none⟩ = false ∧ PI w (pre ++ [(r, 0)]) (w1.setCell ⟨w.heap.size + 1, 0, none⟩ v') ∧ KeepT w.heap.size (w.heap.size + 2) s W (w1.setCell ⟨w.heap.size + 1, 0, none⟩ v') ∧ KeepsFrom (w.heap.size + 3) W (w1.setCell ⟨w.heap.size + 1, 0, none⟩ v') := by
  have hA := pi_alloc h tmp
  have hge : ∀ q, v.ownBlock = some q → w.heap.size + 3 ≤ q := fun q hq => own_geI ho q hq
  have kc : ∀ (b o : Nat) (u : Value), b < w.heap.size + 3 → (W.alloc tmp).cell? ⟨b, o, none⟩ = some u → w1.cell? ⟨b, o, none⟩ = some u := fun b o u hb hu => hg.cell hu (fun e => by have := hge b e.symm; omega)
  have kf : ∀ (b o : Nat) (u : Value), b < w.heap.size + 3 → (W.alloc tmp).cell? ⟨b, o, none⟩ = some u → w1.frozen? ⟨b, o, none⟩ = (W.alloc tmp).frozen? ⟨b, o, none⟩ := fun b o u hb hu => World.frozen?_of_block (hg.block b (block_lt_of_cell hu) (fun e => by have := hge b e.symm; omega))
  have hvA : (W.alloc tmp).cell? ⟨w.heap.size + 1, 0, none⟩ = some v := f_keepA tmp hv
  have c1b := kc (w.heap.size + 1) 0 v (by omega) hvA
  have f1b := (kf (w.heap.size + 1) 0 v (by omega) hvA).trans hA.bf
  have ne : ∀ (b o : Nat), b ≠ w.heap.size + 1 → (⟨w.heap.size + 1, 0, none⟩ : Addr) ≠ ⟨b, o, none⟩ := fun b o hb e => hb (congrArg Addr.block e).symm
  have hz : w.heap.size + 3 ≤ (W.alloc tmp).heap.size := hA.size
  have bw : Below w.heap.size w w1 := hA.below.grown hg (by omega) (fun q hq => by have := hge q hq; omega)
  have bW : Below w.heap.size W w1 := ((Below.refl _ W).alloc (by have := h.size; omega) tmp).grown hg (by omega) (fun q hq => by have := hge q hq; omega)
  refine ⟨c1b, f1b, ?_, ⟨bW.setCell (p := ⟨w.heap.size + 1, 0, none⟩) (Nat.le_succ _) _, fun hc => ?_⟩, ?_⟩
  · refine { good := fun x hx => ?_, row := ⟨v', World.cell?_setCell_same _ _ _ c1b, ?_⟩, bf := by rw [World.frozen?_setCell]; exact f1b, c0 := ?_, c1 := ?_, f0 := ?_, f1 := ?_, below := bw.setCell (p := ⟨w.heap.size + 1, 0, none⟩) (Nat.le_succ _) _, size := ?_ }
    · rcases List.mem_append.1 hx with hx | hx
      · exact h.good x hx
      · simp at hx; rw [hx]
    · rw [List.map_append]
      refine World.ownsRow.kept ho' (grownBy_setCell' w1 (w.heap.size + 1) v') ?_
      cases hb : v'.ownBlock with
      | none => exact .inl rfl
      | some q => exact .inr (fun e => by have := own_geI ho' q hb; have := Option.some.inj e; omega)
    · rw [World.cell?_setCell_other _ _ _ _ (ne _ _ (by omega))]; exact kc _ _ _ (by omega) hA.c0
    · rw [World.cell?_setCell_other _ _ _ _ (ne _ _ (by omega))]; exact kc _ _ _ (by omega) hA.c1
    · rw [World.frozen?_setCell]; exact (kf _ _ _ (by omega) hA.c0).trans hA.f0
    · rw [World.frozen?_setCell]; exact (kf _ _ _ (by omega) hA.c1).trans hA.f1
    · have := hg.size
      simp at this ⊢
      have := h.size
      omega
  · rw [World.cell?_setCell_other _ _ _ _ (ne _ _ (by omega))]
    exact kc _ _ _ (by omega) (f_keepA tmp hc)
  · refine (((KeepsOthers.alloc W tmp).trans (KeepsOthers.of_grownBy hg fun j o ej hj => ?_)).trans (KeepsOthers.setCell _ _ _)).from _
    obtain ⟨_, hn | ⟨g, c, cur, rfl, _, hh, _⟩⟩ := World.ownsRow.alloc ho tmp
    · rw [hn.1] at ej; cases ej
    · simp only [Value.ownBlock, Option.some.injEq] at ej
      subst ej
      rw [hh] at hj
      obtain rfl := Option.some.inj hj
      rfl
end Go.Proofs.YtibomkcbopkpkaaDoor
