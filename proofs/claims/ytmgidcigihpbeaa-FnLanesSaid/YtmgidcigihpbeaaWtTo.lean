/-
  The laws' copy of a list, and their comparing of two.
-/
import Derived.Test.YtmgidcigihpbeaaWtAt
import Derived.BigQuiet
import Derived.Lib.QuietBelow
import Derived.Deep.RegionWith
namespace Go.Proofs.Ytmgidcigihpbeaa
open Go.ChangeShapes Go.WideShapes Go.ChangeAt Go.RowKit Go.Sort
/-- m cells from the head of block G on are there and may be written. -/
def RoomWt (w : World) (G m : Nat) : Prop := ∀ j, j < m → (∃ u, w.cell? ⟨G, j, none⟩ = some u) ∧ w.frozen? ⟨G, j, none⟩ = false
theorem RoomWt.keep {w w' : World} {G m : Nat} (h : RoomWt w G m) (hb : Below w.heap.size w w') : RoomWt w' G m := by
  intro j hj
  obtain ⟨⟨u, hu⟩, hf⟩ := h j hj
  exact ⟨⟨u, by rw [hb.cell (block_lt_of_cell hu)]; exact hu⟩, by rw [hb.frozen (block_lt_of_cell hu)]; exact hf⟩
theorem RoomWt.set {w : World} {G m : Nat} (h : RoomWt w G m) (a : Addr) (v : Value) : RoomWt (w.setCell a v) G m := by
  intro j hj
  obtain ⟨⟨u, hu⟩, hf⟩ := h j hj
  refine ⟨?_, by rw [World.frozen?_setCell]; exact hf⟩
  by_cases e : a = ⟨G, j, none⟩
  · exact ⟨v, by subst e; exact World.cell?_setCell_same _ _ _ hu⟩
  · exact ⟨u, by rw [World.cell?_setCell_other _ _ _ _ e]; exact hu⟩
def putWt (w : World) (G k : Nat) (r : Wt) : World := (w.setCell ⟨G, k * 2, none⟩ (.int .i64 r.wi)).setCell ⟨G, k * 2 + 1, none⟩ (.int .i64 r.du)
theorem offWt_ne {G i j : Nat} (h : i ≠ j) : (⟨G, i, none⟩ : Addr) ≠ ⟨G, j, none⟩ := fun e => h (congrArg Addr.off e)
theorem putWt_other (w : World) (G k : Nat) (r : Wt) (j : Nat) (h0 : k * 2 ≠ j) (h1 : k * 2 + 1 ≠ j) : (putWt w G k r).cell? ⟨G, j, none⟩ = w.cell? ⟨G, j, none⟩ := by
  unfold putWt
  rw [World.cell?_setCell_other _ _ _ _ (offWt_ne h1), World.cell?_setCell_other _ _ _ _ (offWt_ne h0)]
theorem RoomWt.put {w : World} {G m : Nat} (h : RoomWt w G m) (k : Nat) (r : Wt) : RoomWt (putWt w G k r) G m := (h.set _ _).set _ _
theorem WtAt.put {w : World} {G n : Nat} {l : List Wt} {k : Nat} {r : Wt} (h : WtAt w G 0 (l.take k)) (hr : l[k]? = some r) (hm : RoomWt w G (n * 2)) (hk : k < n) : WtAt (putWt w G k r) G 0 (l.take (k + 1)) := by
  intro i q hq
  have hi : i < k + 1 := by
    have := (List.getElem?_eq_some_iff.1 hq).1
    simp at this; omega
  rw [List.getElem?_take_of_lt hi] at hq
  simp only [Nat.zero_add]
  by_cases e : i = k
  · subst e
    rw [hr] at hq
    obtain rfl := Option.some.inj hq
    obtain ⟨⟨u0, g0⟩, _⟩ := hm (i * 2) (by omega)
    obtain ⟨⟨u1, g1⟩, _⟩ := (hm.set ⟨G, i * 2, none⟩ (.int .i64 r.wi)) (i * 2 + 1) (by omega)
    unfold putWt
    exact ⟨by rw [World.cell?_setCell_other _ _ _ _ (offWt_ne (by omega))]; exact World.cell?_setCell_same _ _ _ g0, by exact World.cell?_setCell_same _ _ _ g1⟩
  · have hq2 : (l.take k)[i]? = some q := by rw [List.getElem?_take_of_lt (by omega)]; exact hq
    obtain ⟨a0, a1⟩ := h i q hq2
    simp only [Nat.zero_add] at a0 a1
    exact ⟨by rw [putWt_other _ _ _ _ _ (by omega) (by omega)]; exact a0, by rw [putWt_other _ _ _ _ _ (by omega) (by omega)]; exact a1⟩
theorem infoWt : (Try.prog.info? 40).map (fun i => (i.zero, i.size, i.bytes)) = some (some (.agg #[.int .i64 0, .int .i64 0]), 2, 16) := by kernel_rfl
end Go.Proofs.Ytmgidcigihpbeaa
