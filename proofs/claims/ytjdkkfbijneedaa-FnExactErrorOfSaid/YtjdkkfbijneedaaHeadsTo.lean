/-
  The laws' copy of a list of items, and their comparing of two.
-/
import Derived.Test.YtjdkkfbijneedaaHeadsAt
import Derived.BigQuiet
import Derived.Lib.QuietBelow
namespace Go.Proofs.Ytjdkkfbijneedaa
open Go.ChangeShapes Go.WideShapes Go.ChangeAt Go.RowKit Go.Sort
/-- m cells from the head of block G on are there and may be written. -/
def HRoom (w : World) (G m : Nat) : Prop := ∀ j, j < m → (∃ u, w.cell? ⟨G, j, none⟩ = some u) ∧ w.frozen? ⟨G, j, none⟩ = false
theorem HRoom.keep {w w' : World} {G m : Nat} (h : HRoom w G m) (hb : Below w.heap.size w w') : HRoom w' G m := by
  intro j hj
  obtain ⟨⟨u, hu⟩, hf⟩ := h j hj
  exact ⟨⟨u, by rw [hb.cell (block_lt_of_cell hu)]; exact hu⟩, by rw [hb.frozen (block_lt_of_cell hu)]; exact hf⟩
theorem HRoom.set {w : World} {G m : Nat} (h : HRoom w G m) (a : Addr) (v : Value) : HRoom (w.setCell a v) G m := by
  intro j hj
  obtain ⟨⟨u, hu⟩, hf⟩ := h j hj
  refine ⟨?_, by rw [World.frozen?_setCell]; exact hf⟩
  by_cases e : a = ⟨G, j, none⟩
  · exact ⟨v, by subst e; exact World.cell?_setCell_same _ _ _ hu⟩
  · exact ⟨u, by rw [World.cell?_setCell_other _ _ _ _ e]; exact hu⟩
def put2 (w : World) (G k : Nat) (r : Hdr) : World := (w.setCell ⟨G, k * 2, none⟩ (.string r.name)).setCell ⟨G, k * 2 + 1, none⟩ (.string r.value)
theorem hoff_ne {G i j : Nat} (h : i ≠ j) : (⟨G, i, none⟩ : Addr) ≠ ⟨G, j, none⟩ := fun e => h (congrArg Addr.off e)
theorem put2_other (w : World) (G k : Nat) (r : Hdr) (j : Nat) (h0 : k * 2 ≠ j) (h1 : k * 2 + 1 ≠ j) : (put2 w G k r).cell? ⟨G, j, none⟩ = w.cell? ⟨G, j, none⟩ := by
  unfold put2
  rw [World.cell?_setCell_other _ _ _ _ (hoff_ne h1), World.cell?_setCell_other _ _ _ _ (hoff_ne h0)]
theorem HRoom.put {w : World} {G m : Nat} (h : HRoom w G m) (k : Nat) (r : Hdr) : HRoom (put2 w G k r) G m := (h.set _ _).set _ _
theorem HeadsAt.put {w : World} {G n : Nat} {l : List Hdr} {k : Nat} {r : Hdr} (h : HeadsAt w G 0 (l.take k)) (hr : l[k]? = some r) (hm : HRoom w G (n * 2)) (hk : k < n) : HeadsAt (put2 w G k r) G 0 (l.take (k + 1)) := by
  intro i q hq
  have hi : i < k + 1 := by
    have := (List.getElem?_eq_some_iff.1 hq).1
    simp at this; omega
  rw [List.getElem?_take_of_lt hi] at hq
  simp only [Nat.zero_add]
  by_cases e : i = k
  · subst e
    rw [hr] at hq
    obtain rfl := Option.some.inj hq
    obtain ⟨⟨u0, g0⟩, _⟩ := hm (i * 2) (by omega)
    obtain ⟨⟨u1, g1⟩, _⟩ := (hm.set ⟨G, i * 2, none⟩ (.string r.name)) (i * 2 + 1) (by omega)
    unfold put2
    refine ⟨?_, World.cell?_setCell_same _ _ _ g1⟩
    rw [World.cell?_setCell_other _ _ _ _ (hoff_ne (by omega))]
    exact World.cell?_setCell_same _ _ _ g0
  · have hq2 : (l.take k)[i]? = some q := by rw [List.getElem?_take_of_lt (by omega)]; exact hq
    obtain ⟨a1, a3⟩ := h i q hq2
    simp only [Nat.zero_add] at a1 a3
    exact ⟨by rw [put2_other _ _ _ _ _ (by omega) (by omega)]; exact a1, by rw [put2_other _ _ _ _ _ (by omega) (by omega)]; exact a3⟩
theorem infoHeader : (Try.prog.info? 35).map (fun i => (i.zero, i.size, i.bytes)) = some (some (.agg #[.string ⟨#[]⟩, .string ⟨#[]⟩]), 2, 32) := by kernel_rfl
end Go.Proofs.Ytjdkkfbijneedaa
