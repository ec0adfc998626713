/-
  The laws' copy of a list, and their comparing of two.
-/
import Derived.Test.YtmgidcigihpbeaaTrAt
import Derived.BigQuiet
import Derived.Lib.QuietBelow
import Derived.Deep.RegionWith
namespace Go.Proofs.Ytmgidcigihpbeaa
open Go.ChangeShapes Go.WideShapes Go.ChangeAt Go.RowKit Go.Sort
/-- m cells from the head of block G on are there and may be written. -/
def RoomTr (w : World) (G m : Nat) : Prop := ∀ j, j < m → (∃ u, w.cell? ⟨G, j, none⟩ = some u) ∧ w.frozen? ⟨G, j, none⟩ = false
theorem RoomTr.keep {w w' : World} {G m : Nat} (h : RoomTr w G m) (hb : Below w.heap.size w w') : RoomTr w' G m := by
  intro j hj
  obtain ⟨⟨u, hu⟩, hf⟩ := h j hj
  exact ⟨⟨u, by rw [hb.cell (block_lt_of_cell hu)]; exact hu⟩, by rw [hb.frozen (block_lt_of_cell hu)]; exact hf⟩
theorem RoomTr.set {w : World} {G m : Nat} (h : RoomTr w G m) (a : Addr) (v : Value) : RoomTr (w.setCell a v) G m := by
  intro j hj
  obtain ⟨⟨u, hu⟩, hf⟩ := h j hj
  refine ⟨?_, by rw [World.frozen?_setCell]; exact hf⟩
  by_cases e : a = ⟨G, j, none⟩
  · exact ⟨v, by subst e; exact World.cell?_setCell_same _ _ _ hu⟩
  · exact ⟨u, by rw [World.cell?_setCell_other _ _ _ _ e]; exact hu⟩
def putTr (w : World) (G k : Nat) (r : Tr) : World := ((w.setCell ⟨G, k * 3, none⟩ (.int .i64 r.tm)).setCell ⟨G, k * 3 + 1, none⟩ (.bool r.ak)).setCell ⟨G, k * 3 + 2, none⟩ (.bool r.gd)
theorem offTr_ne {G i j : Nat} (h : i ≠ j) : (⟨G, i, none⟩ : Addr) ≠ ⟨G, j, none⟩ := fun e => h (congrArg Addr.off e)
theorem putTr_other (w : World) (G k : Nat) (r : Tr) (j : Nat) (h0 : k * 3 ≠ j) (h1 : k * 3 + 1 ≠ j) (h2 : k * 3 + 2 ≠ j) : (putTr w G k r).cell? ⟨G, j, none⟩ = w.cell? ⟨G, j, none⟩ := by
  unfold putTr
  rw [World.cell?_setCell_other _ _ _ _ (offTr_ne h2), World.cell?_setCell_other _ _ _ _ (offTr_ne h1), World.cell?_setCell_other _ _ _ _ (offTr_ne h0)]
theorem RoomTr.put {w : World} {G m : Nat} (h : RoomTr w G m) (k : Nat) (r : Tr) : RoomTr (putTr w G k r) G m := ((h.set _ _).set _ _).set _ _
theorem TrAt.put {w : World} {G n : Nat} {l : List Tr} {k : Nat} {r : Tr} (h : TrAt w G 0 (l.take k)) (hr : l[k]? = some r) (hm : RoomTr w G (n * 3)) (hk : k < n) : TrAt (putTr w G k r) G 0 (l.take (k + 1)) := by
  intro i q hq
  have hi : i < k + 1 := by
    have := (List.getElem?_eq_some_iff.1 hq).1
    simp at this; omega
  rw [List.getElem?_take_of_lt hi] at hq
  simp only [Nat.zero_add]
  by_cases e : i = k
  · subst e
    rw [hr] at hq
    obtain rfl := Option.some.inj hq
    obtain ⟨⟨u0, g0⟩, _⟩ := hm (i * 3) (by omega)
    obtain ⟨⟨u1, g1⟩, _⟩ := (hm.set ⟨G, i * 3, none⟩ (.int .i64 r.tm)) (i * 3 + 1) (by omega)
    obtain ⟨⟨u2, g2⟩, _⟩ := ((hm.set ⟨G, i * 3, none⟩ (.int .i64 r.tm)).set ⟨G, i * 3 + 1, none⟩ (.bool r.ak)) (i * 3 + 2) (by omega)
    unfold putTr
    exact ⟨by rw [World.cell?_setCell_other _ _ _ _ (offTr_ne (by omega)), World.cell?_setCell_other _ _ _ _ (offTr_ne (by omega))]; exact World.cell?_setCell_same _ _ _ g0, by rw [World.cell?_setCell_other _ _ _ _ (offTr_ne (by omega))]; exact World.cell?_setCell_same _ _ _ g1, by exact World.cell?_setCell_same _ _ _ g2⟩
  · have hq2 : (l.take k)[i]? = some q := by rw [List.getElem?_take_of_lt (by omega)]; exact hq
    obtain ⟨a0, a1, a2⟩ := h i q hq2
    simp only [Nat.zero_add] at a0 a1 a2
    exact ⟨by rw [putTr_other _ _ _ _ _ (by omega) (by omega) (by omega)]; exact a0, by rw [putTr_other _ _ _ _ _ (by omega) (by omega) (by omega)]; exact a1, by rw [putTr_other _ _ _ _ _ (by omega) (by omega) (by omega)]; exact a2⟩
end Go.Proofs.Ytmgidcigihpbeaa
