/-
  A world in which one block alone has changed.
-/
import Derived.Test.YtmgidcigihpbeaaSFour
import Derived.Test.YtmgidcigihpbeaaSFive
import Derived.BigQuiet
import Derived.Lib.QuietBelow
namespace Go.Proofs.Ytmgidcigihpbeaa
open Go.ChangeShapes Go.WideShapes Go.ChangeAt Go.RowKit Go.Sort
structure OneB (g : Nat) (w w' : World) : Prop where
  os : w'.os = w.os
  tape : w'.tape = w.tape
  output : w'.output = w.output
  size : w'.heap.size = w.heap.size
  block : ∀ k, k ≠ g → w'.heap[k]? = w.heap[k]?
theorem OneB.refl (g : Nat) (w : World) : OneB g w w := ⟨rfl, rfl, rfl, rfl, fun _ _ => rfl⟩
theorem OneB.trans {g : Nat} {w w1 w2 : World} (h : OneB g w w1) (k : OneB g w1 w2) : OneB g w w2 := ⟨k.os.trans h.os, k.tape.trans h.tape, k.output.trans h.output, k.size.trans h.size, fun i hi => (k.block i hi).trans (h.block i hi)⟩
theorem OneB.set (g : Nat) (w : World) (o : Nat) (u : Value) : OneB g w (w.setCell ⟨g, o, none⟩ u) := ⟨rfl, rfl, rfl, by simp [World.setCell], fun k hk => Below.heap_setCell _ _ _ _ hk⟩
theorem OneB.below {g B : Nat} {w w' : World} (h : OneB g w w') (hB : B ≤ g) : Below B w w' := ⟨h.os, h.tape, h.output, Nat.le_of_eq h.size.symm, fun k hk => h.block k (by omega)⟩
theorem OneB.cell {g : Nat} {w w' : World} (h : OneB g w w') {b : Nat} (o : Nat) (hb : b ≠ g) : w'.cell? ⟨b, o, none⟩ = w.cell? ⟨b, o, none⟩ := by
  exact World.cell?_of_block (w := w) (h.block b hb)
theorem OneB.frozen {g : Nat} {w w' : World} (h : OneB g w w') {b : Nat} (o : Nat) (hb : b ≠ g) : w'.frozen? ⟨b, o, none⟩ = w.frozen? ⟨b, o, none⟩ := by
  exact World.frozen?_of_block (w := w) (h.block b hb)
theorem S4.one {g : Nat} {w w' : World} {b : Nat} {v0 v1 v2 v3 : Value} (k : S4 w b v0 v1 v2 v3) (h : OneB g w w') (hb : b ≠ g) : S4 w' b v0 v1 v2 v3 :=
  ⟨by rw [h.cell _ hb]; exact k.c0, by rw [h.cell _ hb]; exact k.c1, by rw [h.cell _ hb]; exact k.c2, by rw [h.cell _ hb]; exact k.c3, fun o => by rw [h.frozen _ hb]; exact k.fr o, by rw [h.size]; exact k.lt⟩
theorem S5.one {g : Nat} {w w' : World} {b : Nat} {v0 v1 v2 v3 v4 : Value} (k : S5 w b v0 v1 v2 v3 v4) (h : OneB g w w') (hb : b ≠ g) : S5 w' b v0 v1 v2 v3 v4 :=
  ⟨by rw [h.cell _ hb]; exact k.c0, by rw [h.cell _ hb]; exact k.c1, by rw [h.cell _ hb]; exact k.c2, by rw [h.cell _ hb]; exact k.c3, by rw [h.cell _ hb]; exact k.c4, fun o => by rw [h.frozen _ hb]; exact k.fr o, by rw [h.size]; exact k.lt⟩
end Go.Proofs.Ytmgidcigihpbeaa
