/-
  Four cells that may be written.
-/
import Derived.Test.YtmgidcigihpbeaaBase
namespace Go.Proofs.Ytmgidcigihpbeaa
open Go.ChangeShapes Go.WideShapes Go.ChangeAt Go.RowKit
structure S4 (w : World) (b : Nat) (v0 v1 v2 v3 : Value) : Prop where
  c0 : w.cell? ⟨b, 0, none⟩ = some v0
  c1 : w.cell? ⟨b, 1, none⟩ = some v1
  c2 : w.cell? ⟨b, 2, none⟩ = some v2
  c3 : w.cell? ⟨b, 3, none⟩ = some v3
  fr : ∀ o, w.frozen? ⟨b, o, none⟩ = false
  lt : b < w.heap.size
section
variable {w w' : World} {b : Nat} {v0 v1 v2 v3 : Value}
theorem S4.keep (k : S4 w b v0 v1 v2 v3) (hb : Below w.heap.size w w') : S4 w' b v0 v1 v2 v3 :=
  ⟨by rw [hb.cell (p := ⟨b, 0, none⟩) k.lt]; exact k.c0, by rw [hb.cell (p := ⟨b, 1, none⟩) k.lt]; exact k.c1, by rw [hb.cell (p := ⟨b, 2, none⟩) k.lt]; exact k.c2, by rw [hb.cell (p := ⟨b, 3, none⟩) k.lt]; exact k.c3, fun o => by rw [hb.frozen (p := ⟨b, o, none⟩) k.lt]; exact k.fr o, Nat.lt_of_lt_of_le k.lt hb.size⟩
theorem S4.new (w : World) (v0 v1 v2 v3 : Value) (t : TypeId) : S4 (w.alloc (.cells #[v0, v1, v2, v3] t)) w.heap.size v0 v1 v2 v3 := ⟨by simp, by simp, by simp, by simp, fun o => by simp, by simp⟩
theorem S4.off (k : S4 w b v0 v1 v2 v3) {B i : Nat} {x : Value} (h : B ≠ b) : S4 (w.setCell ⟨B, i, none⟩ x) b v0 v1 v2 v3 := by
  have ne : ∀ o : Nat, (⟨B, i, none⟩ : Addr) ≠ ⟨b, o, none⟩ := fun o q => h (congrArg Addr.block q)
  exact ⟨by rw [World.cell?_setCell_other _ _ _ _ (ne _)]; exact k.c0, by rw [World.cell?_setCell_other _ _ _ _ (ne _)]; exact k.c1, by rw [World.cell?_setCell_other _ _ _ _ (ne _)]; exact k.c2, by rw [World.cell?_setCell_other _ _ _ _ (ne _)]; exact k.c3, fun o => by rw [World.frozen?_setCell]; exact k.fr o, by simpa using k.lt⟩
theorem S4.set0 (k : S4 w b v0 v1 v2 v3) (x : Value) : S4 (w.setCell ⟨b, 0, none⟩ x) b x v1 v2 v3 :=
  ⟨World.cell?_setCell_same _ _ _ k.c0, by rw [World.cell?_setCell_other _ _ _ _ (by intro q; have := congrArg Addr.off q; simp at this)]; exact k.c1, by rw [World.cell?_setCell_other _ _ _ _ (by intro q; have := congrArg Addr.off q; simp at this)]; exact k.c2, by rw [World.cell?_setCell_other _ _ _ _ (by intro q; have := congrArg Addr.off q; simp at this)]; exact k.c3, fun o => by rw [World.frozen?_setCell]; exact k.fr o, by simpa using k.lt⟩
theorem S4.set1 (k : S4 w b v0 v1 v2 v3) (x : Value) : S4 (w.setCell ⟨b, 1, none⟩ x) b v0 x v2 v3 :=
  ⟨by rw [World.cell?_setCell_other _ _ _ _ (by intro q; have := congrArg Addr.off q; simp at this)]; exact k.c0, World.cell?_setCell_same _ _ _ k.c1, by rw [World.cell?_setCell_other _ _ _ _ (by intro q; have := congrArg Addr.off q; simp at this)]; exact k.c2, by rw [World.cell?_setCell_other _ _ _ _ (by intro q; have := congrArg Addr.off q; simp at this)]; exact k.c3, fun o => by rw [World.frozen?_setCell]; exact k.fr o, by simpa using k.lt⟩
theorem S4.set2 (k : S4 w b v0 v1 v2 v3) (x : Value) : S4 (w.setCell ⟨b, 2, none⟩ x) b v0 v1 x v3 :=
  ⟨by rw [World.cell?_setCell_other _ _ _ _ (by intro q; have := congrArg Addr.off q; simp at this)]; exact k.c0, by rw [World.cell?_setCell_other _ _ _ _ (by intro q; have := congrArg Addr.off q; simp at this)]; exact k.c1, World.cell?_setCell_same _ _ _ k.c2, by rw [World.cell?_setCell_other _ _ _ _ (by intro q; have := congrArg Addr.off q; simp at this)]; exact k.c3, fun o => by rw [World.frozen?_setCell]; exact k.fr o, by simpa using k.lt⟩
theorem S4.set3 (k : S4 w b v0 v1 v2 v3) (x : Value) : S4 (w.setCell ⟨b, 3, none⟩ x) b v0 v1 v2 x :=
  ⟨by rw [World.cell?_setCell_other _ _ _ _ (by intro q; have := congrArg Addr.off q; simp at this)]; exact k.c0, by rw [World.cell?_setCell_other _ _ _ _ (by intro q; have := congrArg Addr.off q; simp at this)]; exact k.c1, by rw [World.cell?_setCell_other _ _ _ _ (by intro q; have := congrArg Addr.off q; simp at this)]; exact k.c2, World.cell?_setCell_same _ _ _ k.c3, fun o => by rw [World.frozen?_setCell]; exact k.fr o, by simpa using k.lt⟩
end
end Go.Proofs.Ytmgidcigihpbeaa
