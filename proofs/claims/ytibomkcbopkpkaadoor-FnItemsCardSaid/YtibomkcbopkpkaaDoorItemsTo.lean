/-
  The laws' copy of a list of items, and their comparing of two.
-/
import Derived.Test.YtibomkcbopkpkaaDoorItemsAt
import Derived.BigQuiet
import Derived.Lib.QuietBelow
namespace Go.Proofs.YtibomkcbopkpkaaDoor
open Go.ChangeShapes Go.WideShapes Go.ChangeAt Go.RowKit Go.Sort
/-- m cells from the head of block G on are there and may be written. -/
def Room (w : World) (G m : Nat) : Prop := ∀ j, j < m → (∃ u, w.cell? ⟨G, j, none⟩ = some u) ∧ w.frozen? ⟨G, j, none⟩ = false
theorem Room.keep {w w' : World} {G m : Nat} (h : Room w G m) (hb : Below w.heap.size w w') : Room w' G m := by
  intro j hj
  obtain ⟨⟨u, hu⟩, hf⟩ := h j hj
  exact ⟨⟨u, by rw [hb.cell (block_lt_of_cell hu)]; exact hu⟩, by rw [hb.frozen (block_lt_of_cell hu)]; exact hf⟩
theorem Room.set {w : World} {G m : Nat} (h : Room w G m) (a : Addr) (v : Value) : Room (w.setCell a v) G m := by
  intro j hj
  obtain ⟨⟨u, hu⟩, hf⟩ := h j hj
  refine ⟨?_, by rw [World.frozen?_setCell]; exact hf⟩
  by_cases e : a = ⟨G, j, none⟩
  · exact ⟨v, by subst e; exact World.cell?_setCell_same _ _ _ hu⟩
  · exact ⟨u, by rw [World.cell?_setCell_other _ _ _ _ e]; exact hu⟩
def put3 (w : World) (G k : Nat) (r : Rec) : World := ((w.setCell ⟨G, k * 3, none⟩ (.string r.name)).setCell ⟨G, k * 3 + 1, none⟩ (.bool r.has)).setCell ⟨G, k * 3 + 2, none⟩ (.string r.value)
theorem off_ne {G i j : Nat} (h : i ≠ j) : (⟨G, i, none⟩ : Addr) ≠ ⟨G, j, none⟩ := fun e => h (congrArg Addr.off e)
theorem put3_other (w : World) (G k : Nat) (r : Rec) (j : Nat) (h0 : k * 3 ≠ j) (h1 : k * 3 + 1 ≠ j) (h2 : k * 3 + 2 ≠ j) : (put3 w G k r).cell? ⟨G, j, none⟩ = w.cell? ⟨G, j, none⟩ := by
  unfold put3
  rw [World.cell?_setCell_other _ _ _ _ (off_ne h2), World.cell?_setCell_other _ _ _ _ (off_ne h1), World.cell?_setCell_other _ _ _ _ (off_ne h0)]
theorem Room.put {w : World} {G m : Nat} (h : Room w G m) (k : Nat) (r : Rec) : Room (put3 w G k r) G m := ((h.set _ _).set _ _).set _ _
theorem ItemsAt.put {w : World} {G n : Nat} {l : List Rec} {k : Nat} {r : Rec} (h : ItemsAt w G 0 (l.take k)) (hr : l[k]? = some r) (hm : Room w G (n * 3)) (hk : k < n) : ItemsAt (put3 w G k r) G 0 (l.take (k + 1)) := by
  intro i q hq
  have hi : i < k + 1 := by
    have := (List.getElem?_eq_some_iff.1 hq).1
    simp at this; omega
  rw [List.getElem?_take_of_lt hi] at hq
  simp only [Nat.zero_add]
  by_cases e : i = k
  · subst e
    rw [hr] at hq
    obtain rfl := Option.some.inj hq
    obtain ⟨⟨u0, g0⟩, _⟩ := hm (i * 3) (by omega)
    obtain ⟨⟨u1, g1⟩, _⟩ := (hm.set ⟨G, i * 3, none⟩ (.string r.name)) (i * 3 + 1) (by omega)
    obtain ⟨⟨u2, g2⟩, _⟩ := ((hm.set ⟨G, i * 3, none⟩ (.string r.name)).set ⟨G, i * 3 + 1, none⟩ (.bool r.has)) (i * 3 + 2) (by omega)
    unfold put3
    refine ⟨?_, ?_, World.cell?_setCell_same _ _ _ g2⟩
    · rw [World.cell?_setCell_other _ _ _ _ (off_ne (by omega)), World.cell?_setCell_other _ _ _ _ (off_ne (by omega))]
      exact World.cell?_setCell_same _ _ _ g0
    · rw [World.cell?_setCell_other _ _ _ _ (off_ne (by omega))]
      exact World.cell?_setCell_same _ _ _ g1
  · have hq2 : (l.take k)[i]? = some q := by rw [List.getElem?_take_of_lt (by omega)]; exact hq
    obtain ⟨a1, a2, a3⟩ := h i q hq2
    simp only [Nat.zero_add] at a1 a2 a3
    exact ⟨by rw [put3_other _ _ _ _ _ (by omega) (by omega) (by omega)]; exact a1, by rw [put3_other _ _ _ _ _ (by omega) (by omega) (by omega)]; exact a2, by rw [put3_other _ _ _ _ _ (by omega) (by omega) (by omega)]; exact a3⟩
theorem infoItem : (Tryd.prog.info? 80).map (fun i => (i.zero, i.size, i.bytes)) = some (some (.agg #[.string ⟨#[]⟩, .bool false, .string ⟨#[]⟩]), 3, 40) := by kernel_rfl
end Go.Proofs.YtibomkcbopkpkaaDoor
