/-
  Texts of one claim, one behind the other.
-/
import Derived.BigQuiet
import Derived.Deep.CutBlock
import Derived.Deep.CutRange
import Derived.Deep.RegionHeld3
import Derived.Deep.RegionWith
import Derived.DeepKeys4
import Derived.Laws.RangeAny
import Derived.Laws.StructEq
import Derived.Lay
import Derived.Lib.Join
import Derived.Lib.QuietBelow
import Derived.Lib.SlTrimSet
import Derived.Maps.Own
import Derived.Maps.OwnOps
import Derived.Maps.OwnSet
import Derived.Shelf.Abstract
import Derived.Shelf.SlicesE.Kit
import Derived.WalkSmall
import Derived.Test.YtacninhhkbglaaaGreatDoorMgB
/-
  Eleven cells that may be written.
-/
namespace Go.Proofs.YtacninhhkbglaaaGreatDoor
open Go.ChangeShapes Go.WideShapes Go.ChangeAt Go.RowKit
structure E11 (w : World) (b : Nat) (v0 v1 v2 v3 v4 v5 v6 v7 v8 v9 v10 : Value) : Prop where
  c0 : w.cell? ⟨b, 0, none⟩ = some v0
  c1 : w.cell? ⟨b, 1, none⟩ = some v1
  c2 : w.cell? ⟨b, 2, none⟩ = some v2
  c3 : w.cell? ⟨b, 3, none⟩ = some v3
  c4 : w.cell? ⟨b, 4, none⟩ = some v4
  c5 : w.cell? ⟨b, 5, none⟩ = some v5
  c6 : w.cell? ⟨b, 6, none⟩ = some v6
  c7 : w.cell? ⟨b, 7, none⟩ = some v7
  c8 : w.cell? ⟨b, 8, none⟩ = some v8
  c9 : w.cell? ⟨b, 9, none⟩ = some v9
  c10 : w.cell? ⟨b, 10, none⟩ = some v10
  fr : ∀ o, w.frozen? ⟨b, o, none⟩ = false
  lt : b < w.heap.size
section
variable {w w' : World} {b : Nat} {v0 v1 v2 v3 v4 v5 v6 v7 v8 v9 v10 : Value}
theorem E11.keep (k : E11 w b v0 v1 v2 v3 v4 v5 v6 v7 v8 v9 v10) (hb : Below w.heap.size w w') : E11 w' b v0 v1 v2 v3 v4 v5 v6 v7 v8 v9 v10 :=
  ⟨by rw [hb.cell (p := ⟨b, 0, none⟩) k.lt]; exact k.c0, by rw [hb.cell (p := ⟨b, 1, none⟩) k.lt]; exact k.c1, by rw [hb.cell (p := ⟨b, 2, none⟩) k.lt]; exact k.c2, by rw [hb.cell (p := ⟨b, 3, none⟩) k.lt]; exact k.c3, by rw [hb.cell (p := ⟨b, 4, none⟩) k.lt]; exact k.c4, by rw [hb.cell (p := ⟨b, 5, none⟩) k.lt]; exact k.c5, by rw [hb.cell (p := ⟨b, 6, none⟩) k.lt]; exact k.c6, by rw [hb.cell (p := ⟨b, 7, none⟩) k.lt]; exact k.c7, by rw [hb.cell (p := ⟨b, 8, none⟩) k.lt]; exact k.c8, by rw [hb.cell (p := ⟨b, 9, none⟩) k.lt]; exact k.c9, by rw [hb.cell (p := ⟨b, 10, none⟩) k.lt]; exact k.c10, fun o => by rw [hb.frozen (p := ⟨b, o, none⟩) k.lt]; exact k.fr o, Nat.lt_of_lt_of_le k.lt hb.size⟩
theorem E11.low (k : E11 w b v0 v1 v2 v3 v4 v5 v6 v7 v8 v9 v10) {B : Nat} (hb : Below B w w') (h : b < B) : E11 w' b v0 v1 v2 v3 v4 v5 v6 v7 v8 v9 v10 :=
  ⟨by rw [hb.cell (p := ⟨b, 0, none⟩) h]; exact k.c0, by rw [hb.cell (p := ⟨b, 1, none⟩) h]; exact k.c1, by rw [hb.cell (p := ⟨b, 2, none⟩) h]; exact k.c2, by rw [hb.cell (p := ⟨b, 3, none⟩) h]; exact k.c3, by rw [hb.cell (p := ⟨b, 4, none⟩) h]; exact k.c4, by rw [hb.cell (p := ⟨b, 5, none⟩) h]; exact k.c5, by rw [hb.cell (p := ⟨b, 6, none⟩) h]; exact k.c6, by rw [hb.cell (p := ⟨b, 7, none⟩) h]; exact k.c7, by rw [hb.cell (p := ⟨b, 8, none⟩) h]; exact k.c8, by rw [hb.cell (p := ⟨b, 9, none⟩) h]; exact k.c9, by rw [hb.cell (p := ⟨b, 10, none⟩) h]; exact k.c10, fun o => by rw [hb.frozen (p := ⟨b, o, none⟩) h]; exact k.fr o, Nat.lt_of_lt_of_le k.lt hb.size⟩
theorem E11.new (w : World) (v0 v1 v2 v3 v4 v5 v6 v7 v8 v9 v10 : Value) (t : TypeId) : E11 (w.alloc (.cells #[v0, v1, v2, v3, v4, v5, v6, v7, v8, v9, v10] t)) w.heap.size v0 v1 v2 v3 v4 v5 v6 v7 v8 v9 v10 := ⟨by simp, by simp, by simp, by simp, by simp, by simp, by simp, by simp, by simp, by simp, by simp, fun o => by simp, by simp⟩
theorem E11.off (k : E11 w b v0 v1 v2 v3 v4 v5 v6 v7 v8 v9 v10) {B i : Nat} {x : Value} (h : B ≠ b) : E11 (w.setCell ⟨B, i, none⟩ x) b v0 v1 v2 v3 v4 v5 v6 v7 v8 v9 v10 := by
  have ne : ∀ o : Nat, (⟨B, i, none⟩ : Addr) ≠ ⟨b, o, none⟩ := fun o q => h (congrArg Addr.block q)
  exact ⟨by rw [World.cell?_setCell_other _ _ _ _ (ne _)]; exact k.c0, by rw [World.cell?_setCell_other _ _ _ _ (ne _)]; exact k.c1, by rw [World.cell?_setCell_other _ _ _ _ (ne _)]; exact k.c2, by rw [World.cell?_setCell_other _ _ _ _ (ne _)]; exact k.c3, by rw [World.cell?_setCell_other _ _ _ _ (ne _)]; exact k.c4, by rw [World.cell?_setCell_other _ _ _ _ (ne _)]; exact k.c5, by rw [World.cell?_setCell_other _ _ _ _ (ne _)]; exact k.c6, by rw [World.cell?_setCell_other _ _ _ _ (ne _)]; exact k.c7, by rw [World.cell?_setCell_other _ _ _ _ (ne _)]; exact k.c8, by rw [World.cell?_setCell_other _ _ _ _ (ne _)]; exact k.c9, by rw [World.cell?_setCell_other _ _ _ _ (ne _)]; exact k.c10, fun o => by rw [World.frozen?_setCell]; exact k.fr o, by simpa using k.lt⟩
theorem E11.set0 (k : E11 w b v0 v1 v2 v3 v4 v5 v6 v7 v8 v9 v10) (x : Value) : E11 (w.setCell ⟨b, 0, none⟩ x) b x v1 v2 v3 v4 v5 v6 v7 v8 v9 v10 :=
  ⟨World.cell?_setCell_same _ _ _ k.c0, by rw [World.cell?_setCell_other _ _ _ _ (by intro q; have := congrArg Addr.off q; simp at this)]; exact k.c1, by rw [World.cell?_setCell_other _ _ _ _ (by intro q; have := congrArg Addr.off q; simp at this)]; exact k.c2, by rw [World.cell?_setCell_other _ _ _ _ (by intro q; have := congrArg Addr.off q; simp at this)]; exact k.c3, by rw [World.cell?_setCell_other _ _ _ _ (by intro q; have := congrArg Addr.off q; simp at this)]; exact k.c4, by rw [World.cell?_setCell_other _ _ _ _ (by intro q; have := congrArg Addr.off q; simp at this)]; exact k.c5, by rw [World.cell?_setCell_other _ _ _ _ (by intro q; have := congrArg Addr.off q; simp at this)]; exact k.c6, by rw [World.cell?_setCell_other _ _ _ _ (by intro q; have := congrArg Addr.off q; simp at this)]; exact k.c7, by rw [World.cell?_setCell_other _ _ _ _ (by intro q; have := congrArg Addr.off q; simp at this)]; exact k.c8, by rw [World.cell?_setCell_other _ _ _ _ (by intro q; have := congrArg Addr.off q; simp at this)]; exact k.c9, by rw [World.cell?_setCell_other _ _ _ _ (by intro q; have := congrArg Addr.off q; simp at this)]; exact k.c10, fun o => by rw [World.frozen?_setCell]; exact k.fr o, by simpa using k.lt⟩
theorem E11.set1 (k : E11 w b v0 v1 v2 v3 v4 v5 v6 v7 v8 v9 v10) (x : Value) : E11 (w.setCell ⟨b, 1, none⟩ x) b v0 x v2 v3 v4 v5 v6 v7 v8 v9 v10 :=
  ⟨by rw [World.cell?_setCell_other _ _ _ _ (by intro q; have := congrArg Addr.off q; simp at this)]; exact k.c0, World.cell?_setCell_same _ _ _ k.c1, by rw [World.cell?_setCell_other _ _ _ _ (by intro q; have := congrArg Addr.off q; simp at this)]; exact k.c2, by rw [World.cell?_setCell_other _ _ _ _ (by intro q; have := congrArg Addr.off q; simp at this)]; exact k.c3, by rw [World.cell?_setCell_other _ _ _ _ (by intro q; have := congrArg Addr.off q; simp at this)]; exact k.c4, by rw [World.cell?_setCell_other _ _ _ _ (by intro q; have := congrArg Addr.off q; simp at this)]; exact k.c5, by rw [World.cell?_setCell_other _ _ _ _ (by intro q; have := congrArg Addr.off q; simp at this)]; exact k.c6, by rw [World.cell?_setCell_other _ _ _ _ (by intro q; have := congrArg Addr.off q; simp at this)]; exact k.c7, by rw [World.cell?_setCell_other _ _ _ _ (by intro q; have := congrArg Addr.off q; simp at this)]; exact k.c8, by rw [World.cell?_setCell_other _ _ _ _ (by intro q; have := congrArg Addr.off q; simp at this)]; exact k.c9, by rw [World.cell?_setCell_other _ _ _ _ (by intro q; have := congrArg Addr.off q; simp at this)]; exact k.c10, fun o => by rw [World.frozen?_setCell]; exact k.fr o, by simpa using k.lt⟩
theorem E11.set2 (k : E11 w b v0 v1 v2 v3 v4 v5 v6 v7 v8 v9 v10) (x : Value) : E11 (w.setCell ⟨b, 2, none⟩ x) b v0 v1 x v3 v4 v5 v6 v7 v8 v9 v10 :=
  ⟨by rw [World.cell?_setCell_other _ _ _ _ (by intro q; have := congrArg Addr.off q; simp at this)]; exact k.c0, by rw [World.cell?_setCell_other _ _ _ _ (by intro q; have := congrArg Addr.off q; simp at this)]; exact k.c1, World.cell?_setCell_same _ _ _ k.c2, by rw [World.cell?_setCell_other _ _ _ _ (by intro q; have := congrArg Addr.off q; simp at this)]; exact k.c3, by rw [World.cell?_setCell_other _ _ _ _ (by intro q; have := congrArg Addr.off q; simp at this)]; exact k.c4, by rw [World.cell?_setCell_other _ _ _ _ (by intro q; have := congrArg Addr.off q; simp at this)]; exact k.c5, by rw [World.cell?_setCell_other _ _ _ _ (by intro q; have := congrArg Addr.off q; simp at this)]; exact k.c6, by rw [World.cell?_setCell_other _ _ _ _ (by intro q; have := congrArg Addr.off q; simp at this)]; exact k.c7, by rw [World.cell?_setCell_other _ _ _ _ (by intro q; have := congrArg Addr.off q; simp at this)]; exact k.c8, by rw [World.cell?_setCell_other _ _ _ _ (by intro q; have := congrArg Addr.off q; simp at this)]; exact k.c9, by rw [World.cell?_setCell_other _ _ _ _ (by intro q; have := congrArg Addr.off q; simp at this)]; exact k.c10, fun o => by rw [World.frozen?_setCell]; exact k.fr o, by simpa using k.lt⟩
theorem E11.set3 (k : E11 w b v0 v1 v2 v3 v4 v5 v6 v7 v8 v9 v10) (x : Value) : E11 (w.setCell ⟨b, 3, none⟩ x) b v0 v1 v2 x v4 v5 v6 v7 v8 v9 v10 :=
  ⟨by rw [World.cell?_setCell_other _ _ _ _ (by intro q; have := congrArg Addr.off q; simp at this)]; exact k.c0, by rw [World.cell?_setCell_other _ _ _ _ (by intro q; have := congrArg Addr.off q; simp at this)]; exact k.c1, by rw [World.cell?_setCell_other _ _ _ _ (by intro q; have := congrArg Addr.off q; simp at this)]; exact k.c2, World.cell?_setCell_same _ _ _ k.c3, by rw [World.cell?_setCell_other _ _ _ _ (by intro q; have := congrArg Addr.off q; simp at this)]; exact k.c4, by rw [World.cell?_setCell_other _ _ _ _ (by intro q; have := congrArg Addr.off q; simp at this)]; exact k.c5, by rw [World.cell?_setCell_other _ _ _ _ (by intro q; have := congrArg Addr.off q; simp at this)]; exact k.c6, by rw [World.cell?_setCell_other _ _ _ _ (by intro q; have := congrArg Addr.off q; simp at this)]; exact k.c7, by rw [World.cell?_setCell_other _ _ _ _ (by intro q; have := congrArg Addr.off q; simp at this)]; exact k.c8, by rw [World.cell?_setCell_other _ _ _ _ (by intro q; have := congrArg Addr.off q; simp at this)]; exact k.c9, by rw [World.cell?_setCell_other _ _ _ _ (by intro q; have := congrArg Addr.off q; simp at this)]; exact k.c10, fun o => by rw [World.frozen?_setCell]; exact k.fr o, by simpa using k.lt⟩
theorem E11.set4 (k : E11 w b v0 v1 v2 v3 v4 v5 v6 v7 v8 v9 v10) (x : Value) : E11 (w.setCell ⟨b, 4, none⟩ x) b v0 v1 v2 v3 x v5 v6 v7 v8 v9 v10 :=
  ⟨by rw [World.cell?_setCell_other _ _ _ _ (by intro q; have := congrArg Addr.off q; simp at this)]; exact k.c0, by rw [World.cell?_setCell_other _ _ _ _ (by intro q; have := congrArg Addr.off q; simp at this)]; exact k.c1, by rw [World.cell?_setCell_other _ _ _ _ (by intro q; have := congrArg Addr.off q; simp at this)]; exact k.c2, by rw [World.cell?_setCell_other _ _ _ _ (by intro q; have := congrArg Addr.off q; simp at this)]; exact k.c3, World.cell?_setCell_same _ _ _ k.c4, by rw [World.cell?_setCell_other _ _ _ _ (by intro q; have := congrArg Addr.off q; simp at this)]; exact k.c5, by rw [World.cell?_setCell_other _ _ _ _ (by intro q; have := congrArg Addr.off q; simp at this)]; exact k.c6, by rw [World.cell?_setCell_other _ _ _ _ (by intro q; have := congrArg Addr.off q; simp at this)]; exact k.c7, by rw [World.cell?_setCell_other _ _ _ _ (by intro q; have := congrArg Addr.off q; simp at this)]; exact k.c8, by rw [World.cell?_setCell_other _ _ _ _ (by intro q; have := congrArg Addr.off q; simp at this)]; exact k.c9, by rw [World.cell?_setCell_other _ _ _ _ (by intro q; have := congrArg Addr.off q; simp at this)]; exact k.c10, fun o => by rw [World.frozen?_setCell]; exact k.fr o, by simpa using k.lt⟩
theorem E11.set5 (k : E11 w b v0 v1 v2 v3 v4 v5 v6 v7 v8 v9 v10) (x : Value) : E11 (w.setCell ⟨b, 5, none⟩ x) b v0 v1 v2 v3 v4 x v6 v7 v8 v9 v10 :=
  ⟨by rw [World.cell?_setCell_other _ _ _ _ (by intro q; have := congrArg Addr.off q; simp at this)]; exact k.c0, by rw [World.cell?_setCell_other _ _ _ _ (by intro q; have := congrArg Addr.off q; simp at this)]; exact k.c1, by rw [World.cell?_setCell_other _ _ _ _ (by intro q; have := congrArg Addr.off q; simp at this)]; exact k.c2, by rw [World.cell?_setCell_other _ _ _ _ (by intro q; have := congrArg Addr.off q; simp at this)]; exact k.c3, by rw [World.cell?_setCell_other _ _ _ _ (by intro q; have := congrArg Addr.off q; simp at this)]; exact k.c4, World.cell?_setCell_same _ _ _ k.c5, by rw [World.cell?_setCell_other _ _ _ _ (by intro q; have := congrArg Addr.off q; simp at this)]; exact k.c6, by rw [World.cell?_setCell_other _ _ _ _ (by intro q; have := congrArg Addr.off q; simp at this)]; exact k.c7, by rw [World.cell?_setCell_other _ _ _ _ (by intro q; have := congrArg Addr.off q; simp at this)]; exact k.c8, by rw [World.cell?_setCell_other _ _ _ _ (by intro q; have := congrArg Addr.off q; simp at this)]; exact k.c9, by rw [World.cell?_setCell_other _ _ _ _ (by intro q; have := congrArg Addr.off q; simp at this)]; exact k.c10, fun o => by rw [World.frozen?_setCell]; exact k.fr o, by simpa using k.lt⟩
theorem E11.set6 (k : E11 w b v0 v1 v2 v3 v4 v5 v6 v7 v8 v9 v10) (x : Value) : E11 (w.setCell ⟨b, 6, none⟩ x) b v0 v1 v2 v3 v4 v5 x v7 v8 v9 v10 :=
  ⟨by rw [World.cell?_setCell_other _ _ _ _ (by intro q; have := congrArg Addr.off q; simp at this)]; exact k.c0, by rw [World.cell?_setCell_other _ _ _ _ (by intro q; have := congrArg Addr.off q; simp at this)]; exact k.c1, by rw [World.cell?_setCell_other _ _ _ _ (by intro q; have := congrArg Addr.off q; simp at this)]; exact k.c2, by rw [World.cell?_setCell_other _ _ _ _ (by intro q; have := congrArg Addr.off q; simp at this)]; exact k.c3, by rw [World.cell?_setCell_other _ _ _ _ (by intro q; have := congrArg Addr.off q; simp at this)]; exact k.c4, by rw [World.cell?_setCell_other _ _ _ _ (by intro q; have := congrArg Addr.off q; simp at this)]; exact k.c5, World.cell?_setCell_same _ _ _ k.c6, by rw [World.cell?_setCell_other _ _ _ _ (by intro q; have := congrArg Addr.off q; simp at this)]; exact k.c7, by rw [World.cell?_setCell_other _ _ _ _ (by intro q; have := congrArg Addr.off q; simp at this)]; exact k.c8, by rw [World.cell?_setCell_other _ _ _ _ (by intro q; have := congrArg Addr.off q; simp at this)]; exact k.c9, by rw [World.cell?_setCell_other _ _ _ _ (by intro q; have := congrArg Addr.off q; simp at this)]; exact k.c10, fun o => by rw [World.frozen?_setCell]; exact k.fr o, by simpa using k.lt⟩
theorem E11.set7 (k : E11 w b v0 v1 v2 v3 v4 v5 v6 v7 v8 v9 v10) (x : Value) : E11 (w.setCell ⟨b, 7, none⟩ x) b v0 v1 v2 v3 v4 v5 v6 x v8 v9 v10 :=
  ⟨by rw [World.cell?_setCell_other _ _ _ _ (by intro q; have := congrArg Addr.off q; simp at this)]; exact k.c0, by rw [World.cell?_setCell_other _ _ _ _ (by intro q; have := congrArg Addr.off q; simp at this)]; exact k.c1, by rw [World.cell?_setCell_other _ _ _ _ (by intro q; have := congrArg Addr.off q; simp at this)]; exact k.c2, by rw [World.cell?_setCell_other _ _ _ _ (by intro q; have := congrArg Addr.off q; simp at this)]; exact k.c3, by rw [World.cell?_setCell_other _ _ _ _ (by intro q; have := congrArg Addr.off q; simp at this)]; exact k.c4, by rw [World.cell?_setCell_other _ _ _ _ (by intro q; have := congrArg Addr.off q; simp at this)]; exact k.c5, by rw [World.cell?_setCell_other _ _ _ _ (by intro q; have := congrArg Addr.off q; simp at this)]; exact k.c6, World.cell?_setCell_same _ _ _ k.c7, by rw [World.cell?_setCell_other _ _ _ _ (by intro q; have := congrArg Addr.off q; simp at this)]; exact k.c8, by rw [World.cell?_setCell_other _ _ _ _ (by intro q; have := congrArg Addr.off q; simp at this)]; exact k.c9, by rw [World.cell?_setCell_other _ _ _ _ (by intro q; have := congrArg Addr.off q; simp at this)]; exact k.c10, fun o => by rw [World.frozen?_setCell]; exact k.fr o, by simpa using k.lt⟩
theorem E11.set8 (k : E11 w b v0 v1 v2 v3 v4 v5 v6 v7 v8 v9 v10) (x : Value) : E11 (w.setCell ⟨b, 8, none⟩ x) b v0 v1 v2 v3 v4 v5 v6 v7 x v9 v10 :=
  ⟨by rw [World.cell?_setCell_other _ _ _ _ (by intro q; have := congrArg Addr.off q; simp at this)]; exact k.c0, by rw [World.cell?_setCell_other _ _ _ _ (by intro q; have := congrArg Addr.off q; simp at this)]; exact k.c1, by rw [World.cell?_setCell_other _ _ _ _ (by intro q; have := congrArg Addr.off q; simp at this)]; exact k.c2, by rw [World.cell?_setCell_other _ _ _ _ (by intro q; have := congrArg Addr.off q; simp at this)]; exact k.c3, by rw [World.cell?_setCell_other _ _ _ _ (by intro q; have := congrArg Addr.off q; simp at this)]; exact k.c4, by rw [World.cell?_setCell_other _ _ _ _ (by intro q; have := congrArg Addr.off q; simp at this)]; exact k.c5, by rw [World.cell?_setCell_other _ _ _ _ (by intro q; have := congrArg Addr.off q; simp at this)]; exact k.c6, by rw [World.cell?_setCell_other _ _ _ _ (by intro q; have := congrArg Addr.off q; simp at this)]; exact k.c7, World.cell?_setCell_same _ _ _ k.c8, by rw [World.cell?_setCell_other _ _ _ _ (by intro q; have := congrArg Addr.off q; simp at this)]; exact k.c9, by rw [World.cell?_setCell_other _ _ _ _ (by intro q; have := congrArg Addr.off q; simp at this)]; exact k.c10, fun o => by rw [World.frozen?_setCell]; exact k.fr o, by simpa using k.lt⟩
theorem E11.set9 (k : E11 w b v0 v1 v2 v3 v4 v5 v6 v7 v8 v9 v10) (x : Value) : E11 (w.setCell ⟨b, 9, none⟩ x) b v0 v1 v2 v3 v4 v5 v6 v7 v8 x v10 :=
  ⟨by rw [World.cell?_setCell_other _ _ _ _ (by intro q; have := congrArg Addr.off q; simp at this)]; exact k.c0, by rw [World.cell?_setCell_other _ _ _ _ (by intro q; have := congrArg Addr.off q; simp at this)]; exact k.c1, by rw [World.cell?_setCell_other _ _ _ _ (by intro q; have := congrArg Addr.off q; simp at this)]; exact k.c2, by rw [World.cell?_setCell_other _ _ _ _ (by intro q; have := congrArg Addr.off q; simp at this)]; exact k.c3, by rw [World.cell?_setCell_other _ _ _ _ (by intro q; have := congrArg Addr.off q; simp at this)]; exact k.c4, by rw [World.cell?_setCell_other _ _ _ _ (by intro q; have := congrArg Addr.off q; simp at this)]; exact k.c5, by rw [World.cell?_setCell_other _ _ _ _ (by intro q; have := congrArg Addr.off q; simp at this)]; exact k.c6, by rw [World.cell?_setCell_other _ _ _ _ (by intro q; have := congrArg Addr.off q; simp at this)]; exact k.c7, by rw [World.cell?_setCell_other _ _ _ _ (by intro q; have := congrArg Addr.off q; simp at this)]; exact k.c8, World.cell?_setCell_same _ _ _ k.c9, by rw [World.cell?_setCell_other _ _ _ _ (by intro q; have := congrArg Addr.off q; simp at this)]; exact k.c10, fun o => by rw [World.frozen?_setCell]; exact k.fr o, by simpa using k.lt⟩
theorem E11.set10 (k : E11 w b v0 v1 v2 v3 v4 v5 v6 v7 v8 v9 v10) (x : Value) : E11 (w.setCell ⟨b, 10, none⟩ x) b v0 v1 v2 v3 v4 v5 v6 v7 v8 v9 x :=
  ⟨by rw [World.cell?_setCell_other _ _ _ _ (by intro q; have := congrArg Addr.off q; simp at this)]; exact k.c0, by rw [World.cell?_setCell_other _ _ _ _ (by intro q; have := congrArg Addr.off q; simp at this)]; exact k.c1, by rw [World.cell?_setCell_other _ _ _ _ (by intro q; have := congrArg Addr.off q; simp at this)]; exact k.c2, by rw [World.cell?_setCell_other _ _ _ _ (by intro q; have := congrArg Addr.off q; simp at this)]; exact k.c3, by rw [World.cell?_setCell_other _ _ _ _ (by intro q; have := congrArg Addr.off q; simp at this)]; exact k.c4, by rw [World.cell?_setCell_other _ _ _ _ (by intro q; have := congrArg Addr.off q; simp at this)]; exact k.c5, by rw [World.cell?_setCell_other _ _ _ _ (by intro q; have := congrArg Addr.off q; simp at this)]; exact k.c6, by rw [World.cell?_setCell_other _ _ _ _ (by intro q; have := congrArg Addr.off q; simp at this)]; exact k.c7, by rw [World.cell?_setCell_other _ _ _ _ (by intro q; have := congrArg Addr.off q; simp at this)]; exact k.c8, by rw [World.cell?_setCell_other _ _ _ _ (by intro q; have := congrArg Addr.off q; simp at this)]; exact k.c9, World.cell?_setCell_same _ _ _ k.c10, fun o => by rw [World.frozen?_setCell]; exact k.fr o, by simpa using k.lt⟩
end
theorem E11.all {X : World} {b : Nat} {v0 v1 v2 v3 v4 v5 v6 v7 v8 v9 v10 : Value} (k : E11 X b v0 v1 v2 v3 v4 v5 v6 v7 v8 v9 v10) (x0 x1 x2 x3 x4 x5 x6 x7 x8 x9 x10 : Value) : E11 (((((((((((X.setCell ⟨b, 0, none⟩ x0).setCell ⟨b, 1, none⟩ x1).setCell ⟨b, 2, none⟩ x2).setCell ⟨b, 3, none⟩ x3).setCell ⟨b, 4, none⟩ x4).setCell ⟨b, 5, none⟩ x5).setCell ⟨b, 6, none⟩ x6).setCell ⟨b, 7, none⟩ x7).setCell ⟨b, 8, none⟩ x8).setCell ⟨b, 9, none⟩ x9).setCell ⟨b, 10, none⟩ x10) b x0 x1 x2 x3 x4 x5 x6 x7 x8 x9 x10 := (((((((((((k.set0 _).set1 _).set2 _).set3 _).set4 _).set5 _).set6 _).set7 _).set8 _).set9 _).set10 _)
end Go.Proofs.YtacninhhkbglaaaGreatDoor
/-
  Flights, handed over by the laws: how much room they take.
-/
namespace Go.Proofs.YtacninhhkbglaaaGreatDoor
open Go.ChangeShapes Go.WideShapes Go.ChangeAt Go.RowKit Go.Sort
/-- How much room is left behind a flight; -1: none. -/
def szF (left : Int) (key m h p : ByteArray) (hs : List Hdr) (n : Nat) : Int :=
  if left - (key.size : Int) < 0 then -1 else
  if szRq (left - (key.size : Int)) m h p hs < 0 then -1 else
  if szRq (left - (key.size : Int)) m h p hs - (n : Int) < 0 then -1 else szRq (left - (key.size : Int)) m h p hs - (n : Int)
theorem szF_room {left : Int} {key m h p : ByteArray} {hs : List Hdr} {n : Nat} (h1 : left ≤ 1048576) (hz : ¬ szF left key m h p hs n < 0) : key.size ≤ 1048576 ∧ m.size ≤ 1048576 ∧ h.size ≤ 1048576 ∧ p.size ≤ 1048576 ∧ hs.length ≤ 1048576 ∧ n ≤ 1048576 ∧ szF left key m h p hs n ≤ left := by
  unfold szF at hz ⊢
  by_cases c1 : left - (key.size : Int) < 0
  · rw [if_pos c1] at hz; omega
  rw [if_neg c1] at hz ⊢
  by_cases c2 : szRq (left - (key.size : Int)) m h p hs < 0
  · rw [if_pos c2] at hz; omega
  rw [if_neg c2] at hz ⊢
  by_cases c3 : szRq (left - (key.size : Int)) m h p hs - (n : Int) < 0
  · rw [if_pos c3] at hz; omega
  rw [if_neg c3]
  obtain ⟨a1, a2, a3, a4, a5⟩ := szRq_room (by omega) c2
  exact ⟨by omega, a1, a2, a3, a4, by omega, by omega⟩
set_option maxHeartbeats 4000000 in
theorem szFlight_any (w : World) (id : Int) (key : ByteArray) (bk ot : Bool) (du : Int) (dm : Bool) (m h p : ByteArray) (ha : Option Addr) (hc : Nat) (wa : Option Addr) (wc : Nat) (hs : List Hdr) (ws : List Wr) (left : Int) (h0 : 0 ≤ left) (h1 : left ≤ 1048576) (hk : key.size ≤ maxLen) (z1 : m.size ≤ maxLen) (z2 : h.size ≤ maxLen) (z3 : p.size ≤ maxLen) (hhl : hs.length ≤ maxLen) (hsm : SmallHdrs hs) (hwl : ws.length ≤ maxLen) (hH : HdsIn w ha hs) :
    Calls Tryz.prog 24 #[.agg #[.int .i64 id, .string key, .bool bk, .bool ot, .int .i64 du, .bool dm, .string m, .string h, .string p, .slice ha hs.length hc, .slice wa ws.length wc], .int .i64 left] w fun r w' => r = .returned (.int .i64 (szF left key m h p hs ws.length)) ∧ Below w.heap.size w w' := by
  have HZH : Hid (∀ W left', Below w.heap.size w W → 0 ≤ left' → left' ≤ 1048576 → Calls Tryz.prog 73 #[.agg #[.string m, .string h, .string p, .slice ha hs.length hc], .int .i64 left'] W fun r w' => r = .returned (.int .i64 (szRq left' m h p hs)) ∧ Below W.heap.size W w') := fun W left' hb a b => szRequest_any W m h p ha hc hs z1 z2 z3 hhl hsm (hH.keep hb) left' a b
  have HZB : Hid (∀ W left', 0 ≤ left' → left' ≤ 1048576 → Calls Tryz.prog 74 #[.slice wa ws.length wc, .int .i64 left'] W fun r w' => r = .returned (.int .i64 (szWr left' ws.length)) ∧ w' = W) := fun W left' a b => szWr_any W wa wc ws.length hwl left' a b
  have HLE : Hid (¬ szRq (left - (key.size : Int)) m h p hs < 0 → szRq (left - (key.size : Int)) m h p hs ≤ left - (key.size : Int)) := fun c => (szRq_room (by omega) c).2.2.2.2
  have HB0 : Hid (Below w.heap.size w (w.alloc (.cells #[.int .i64 id, .string key, .bool bk, .bool ot, .int .i64 du, .bool dm, .string m, .string h, .string p, .slice ha hs.length hc, .slice wa ws.length wc] 77))) := (Below.refl _ _).alloc (Nat.le_refl _) _
  have HC0 : Hid (E11 (w.alloc (.cells #[.int .i64 id, .string key, .bool bk, .bool ot, .int .i64 du, .bool dm, .string m, .string h, .string p, .slice ha hs.length hc, .slice wa ws.length wc] 77)) w.heap.size (.int .i64 id) (.string key) (.bool bk) (.bool ot) (.int .i64 du) (.bool dm) (.string m) (.string h) (.string p) (.slice ha hs.length hc) (.slice wa ws.length wc)) := E11.new w _ _ _ _ _ _ _ _ _ _ _ _
  unfold maxLen at hk
  obtain ⟨Z, hZ⟩ : ∃ Z, szF left key m h p hs ws.length = Z := ⟨_, rfl⟩
  rw [hZ]
  unfold szF at hZ
  have HSZ : Hid (_ = Z) := hZ
  clear hZ
  clear hH hsm hhl z1 z2 z3 hwl
  generalize hz1 : szRq (left - (key.size : Int)) m h p hs = y1 at *
  generalize hs.length = hl at *
  generalize ws.length = wn at *
  by_cases c1 : left - (key.size : Int) < 0
  · have HR := HSZ.out
    rw [if_pos c1] at HR
    rw [← HR]
    clear HSZ HR HLE
    go_enter Tryz.func24, Tryz.ntmps24
    go_wp2_with fail
    go_ret
    exact ⟨rfl, HB0.out⟩
  rw [if_neg c1] at HSZ
  by_cases c2 : y1 < 0
  · have HR := HSZ.out
    rw [if_pos c2] at HR
    rw [← HR]
    clear HSZ HR HLE
    go_enter Tryz.func24, Tryz.ntmps24
    go_wp2_with fail
    refine (HZH.out _ _ HB0.out (by omega) (by omega)).mono ?_
    rintro r w1 ⟨rfl, hb1⟩
    rw [hz1]
    have HB1 : Hid (Below w.heap.size w w1) := HB0.out.trans (hb1.mono HB0.out.size)
    clear hb1
    go_wp2_with fail
    go_ret
    exact ⟨rfl, HB1.out⟩
  rw [if_neg c2] at HSZ
  have hle := HLE.out c2
  have HZ1 : Hid (szRq (left - (key.size : Int)) m h p hs = y1) := hz1
  clear HLE hz1
  have HW : Hid (szWr y1 wn = Z) := by show _ = _; rw [← HSZ.out]; unfold szWr; rfl
  clear HSZ
  go_enter Tryz.func24, Tryz.ntmps24
  go_wp2_with fail
  refine (HZH.out _ _ HB0.out (by omega) (by omega)).mono ?_
  rintro r w1 ⟨rfl, hb1⟩
  rw [HZ1.out]
  have HB1 : Hid (Below w.heap.size w w1) := HB0.out.trans (hb1.mono HB0.out.size)
  have HC1 := HC0.out.keep hb1
  have q3 := HC1.c10
  clear hb1 HC1
  go_wp2_with fail
  refine (HZB.out _ _ (by omega) (by omega)).mono ?_
  rintro r w2 ⟨rfl, rfl⟩
  rw [HW.out]
  have hZ : Z = if y1 - (wn : Int) < 0 then -1 else y1 - (wn : Int) := by rw [← HW.out]; rfl
  by_cases c3 : y1 - (wn : Int) < 0
  · rw [if_pos c3] at hZ
    subst hZ
    go_wp2_with fail
    go_ret
    exact ⟨rfl, HB1.out⟩
  · rw [if_neg c3] at hZ
    have hz0 : ¬ Z < 0 := by omega
    clear HW HZ1 hZ
    go_wp2_with fail
    go_ret
    exact ⟨rfl, HB1.out⟩
theorem szFlight_q (w : World) (q : Fl × FlR) (left : Int) (h0 : 0 ≤ left) (h1 : left ≤ 1048576) (hs : FlSm q.1) (hi : FlIn w q.1 q.2) :
    Calls Tryz.prog 24 #[.agg #[.int .i64 q.1.id, .string q.1.key, .bool q.1.bk, .bool q.1.ot, .int .i64 q.1.du, .bool q.1.dm, .string q.1.m, .string q.1.h, .string q.1.p, .slice q.2.ha q.1.hs.length q.2.hc, .slice q.2.wa q.1.ws.length q.2.wc], .int .i64 left] w fun e w' => e = .returned (.int .i64 (szF left q.1.key q.1.m q.1.h q.1.p q.1.hs q.1.ws.length)) ∧ Below w.heap.size w w' :=
  szFlight_any w _ _ _ _ _ _ _ _ _ _ _ _ _ _ _ left h0 h1 hs.key hs.m hs.h hs.p hs.hl hs.hs hs.wl hi.h
def szFs (c : Int) : List (Fl × FlR) → Int
  | [] => c
  | q :: l => if szF c q.1.key q.1.m q.1.h q.1.p q.1.hs q.1.ws.length < 0 then -1 else szFs (szF c q.1.key q.1.m q.1.h q.1.p q.1.hs q.1.ws.length) l
def szFL (left : Int) (l : List (Fl × FlR)) : Int := if left - (l.length : Int) < 0 then -1 else szFs (left - (l.length : Int)) l
set_option maxHeartbeats 4000000 in
theorem szFlightS_any (w : World) (a : Option Addr) (cap : Nat) (l : List (Fl × FlR)) (hl : l.length ≤ maxLen) (hi : FlsIn w a l) (hz : ∀ q ∈ l, FlSm q.1) (left : Int) (h0 : 0 ≤ left) (h1 : left ≤ 1048576) :
    Calls Tryz.prog 37 #[.slice a l.length cap, .int .i64 left] w fun e w' => e = .returned (.int .i64 (szFL left l)) ∧ Below w.heap.size w w' := by
  unfold maxLen at hl
  have HI : Hid (FlsIn w a l) := hi
  have HZ : Hid (∀ q ∈ l, FlSm q.1) := hz
  clear hi hz
  generalize hn : l.length = n at *
  have HN : Hid (l.length = n) := hn
  by_cases c0 : left - (n : Int) < 0
  · have HE : Hid (szFL left l = -1) := by show _ = _; unfold szFL; rw [hn, if_pos c0]
    clear hn
    go_enter Tryz.func37, Tryz.ntmps37
    go_wp2
    go_ret
    exact ⟨ret_int HE.out.symm, Below.refl _ _⟩
  have HE : Hid (szFL left l = szFs (left - (n : Int)) l) := by show _ = _; unfold szFL; rw [hn, if_neg c0]
  have c0' : 0 ≤ left - (n : Int) := by omega
  clear hn
  go_enter Tryz.func37, Tryz.ntmps37
  go_wp2_with fail
  go_loopw [1, 5] (fun x i wr => ∃ (k : Nat) (c : Int), k ≤ n ∧ i = .int .i64 k ∧ x = .int .i64 c ∧ 0 ≤ c ∧ c ≤ 1048576 ∧ szFL left l = szFs c (l.drop k) ∧ Below w.heap.size w wr) (fun _ i _ => n - (intOf i).toNat)
  case atStart => exact ⟨0, left - (n : Int), Nat.zero_le _, rfl, rfl, c0', by omega, HE.out, Below.refl _ _⟩
  case round =>
    obtain ⟨k, c, hk, rfl, rfl, c2, c3, hs, hb⟩ := hrel
    have HS : Hid (szFL left l = szFs c (l.drop k)) := hs
    clear hs HE
    by_cases hlt : k < n
    · obtain ⟨q, hr⟩ : ∃ r, l[k]? = some r := ⟨l[k]'(by have := HN.out; omega), List.getElem?_eq_getElem _⟩
      rcases HI.out with h | ⟨b, off, rfl, hat⟩
      · subst h; simp at hr
      have PC := (hat.keep hb).cells hr
      have C : Hid (Calls Tryz.prog 24 #[.agg #[.int .i64 q.1.id, .string q.1.key, .bool q.1.bk, .bool q.1.ot, .int .i64 q.1.du, .bool q.1.dm, .string q.1.m, .string q.1.h, .string q.1.p, .slice q.2.ha q.1.hs.length q.2.hc, .slice q.2.wa q.1.ws.length q.2.wc], .int .i64 c] wr fun r w' => r = .returned (.int .i64 (szF c q.1.key q.1.m q.1.h q.1.p q.1.hs q.1.ws.length)) ∧ Below wr.heap.size wr w') := szFlight_q wr q c c2 c3 (HZ.out q (List.mem_of_getElem? hr)) ((hat.keep hb).in hr)
      have HS2 : Hid (szFL left l = if szF c q.1.key q.1.m q.1.h q.1.p q.1.hs q.1.ws.length < 0 then -1 else szFs (szF c q.1.key q.1.m q.1.h q.1.p q.1.hs q.1.ws.length) (l.drop (k + 1))) := by
        show _ = _
        obtain ⟨hk2, hr2⟩ := List.getElem?_eq_some_iff.1 hr
        rw [HS.out, List.drop_eq_getElem_cons hk2, hr2, szFs]
      have HLE : Hid (¬ szF c q.1.key q.1.m q.1.h q.1.p q.1.hs q.1.ws.length < 0 → szF c q.1.key q.1.m q.1.h q.1.p q.1.hs q.1.ws.length ≤ c) := fun h => (szF_room c3 h).2.2.2.2.2.2
      have g : (k : Int) < n := by omega
      have HB : Hid (Below w.heap.size w wr) := hb
      clear HS hr hat HI HZ hb
      generalize szF c q.1.key q.1.m q.1.h q.1.p q.1.hs q.1.ws.length = z at *
      have p0 := PC.1
      have p1 := PC.2.1
      have p2 := PC.2.2.1
      have p3 := PC.2.2.2.1
      have p4 := PC.2.2.2.2.1
      have p5 := PC.2.2.2.2.2.1
      have p6 := PC.2.2.2.2.2.2.1
      have p7 := PC.2.2.2.2.2.2.2.1
      have p8 := PC.2.2.2.2.2.2.2.2.1
      have p9 := PC.2.2.2.2.2.2.2.2.2.1
      have p10 := PC.2.2.2.2.2.2.2.2.2.2
      clear PC
      obtain ⟨⟨id, key, bk, ot, du, dm, mt, ho, pa, hs, ws⟩, ⟨ha, hc, wa, wc⟩⟩ := q
      simp only at p0 p1 p2 p3 p4 p5 p6 p7 p8 p9 p10 C
      go_wp2_with fail
      refine C.out.mono ?_
      rintro r w2 ⟨rfl, hb2⟩
      have HB2 : Hid (Below w.heap.size w w2) := HB.out.trans (hb2.mono HB.out.size)
      clear hb2 p0 p1 p2 p3 p4 p5 p6 p7 p8 p9 p10 C HB
      by_cases hd : z < 0
      · have HF : Hid (szFL left l = -1) := by show _ = _; rw [HS2.out, if_pos hd]
        clear HS2
        go_wp2_with fail
        go_ret
        exact ⟨ret_int HF.out.symm, HB2.out⟩
      · have HF : Hid (szFL left l = szFs z (l.drop (k + 1))) := by show _ = _; rw [HS2.out, if_neg hd]
        have hle := HLE.out (by omega)
        clear HS2 HLE
        go_wp2_with fail
        go_roundw
        case rel => exact ⟨k + 1, z, by omega, by go_num, rfl, by omega, by omega, HF.out, HB2.out⟩
        case measure => simp [intOf]; omega
    · have HF : Hid (szFL left l = c) := by
        show _ = _
        rw [HS.out, List.drop_of_length_le (by have := HN.out; omega), szFs]
      clear HS
      go_wp2_with fail
      go_ret
      exact ⟨ret_int HF.out.symm, hb⟩
theorem szFs_room : ∀ (l : List (Fl × FlR)) (c : Int), c ≤ 1048576 → ¬ szFs c l < 0 → ∀ q ∈ l, FlFit q.1
  | [], _, _, _, q, hq => by simp at hq
  | x :: l, c, hc, hz, q, hq => by
    rw [szFs] at hz
    by_cases c1 : szF c x.1.key x.1.m x.1.h x.1.p x.1.hs x.1.ws.length < 0
    · rw [if_pos c1] at hz; omega
    rw [if_neg c1] at hz
    obtain ⟨a1, a2, a3, a4, a5, a6, a7⟩ := szF_room hc c1
    rcases List.mem_cons.1 hq with rfl | hq
    · exact ⟨a1, a2, a3, a4, a5, a6⟩
    · exact szFs_room l _ (by omega) hz q hq
theorem szFs_le : ∀ (l : List (Fl × FlR)) (c : Int), c ≤ 1048576 → ¬ szFs c l < 0 → szFs c l ≤ c
  | [], _, _, _ => by rw [szFs]; omega
  | x :: l, c, hc, hz => by
    rw [szFs] at hz ⊢
    by_cases c1 : szF c x.1.key x.1.m x.1.h x.1.p x.1.hs x.1.ws.length < 0
    · rw [if_pos c1] at hz; omega
    rw [if_neg c1] at hz ⊢
    obtain ⟨a1, a2, a3, a4, a5, a6, a7⟩ := szF_room hc c1
    have := szFs_le l _ (by omega) hz
    omega
theorem szFL_room {left : Int} {l : List (Fl × FlR)} (h1 : left ≤ 1048576) (hz : ¬ szFL left l < 0) : l.length ≤ 1048576 ∧ (∀ q ∈ l, FlFit q.1) ∧ szFL left l ≤ left ∧ 0 ≤ szFL left l := by
  unfold szFL at hz ⊢
  by_cases c : left - (l.length : Int) < 0
  · rw [if_pos c] at hz; omega
  rw [if_neg c] at hz ⊢
  have := szFs_le l _ (by omega) hz
  exact ⟨by omega, szFs_room l _ (by omega) hz, by omega, by omega⟩
end Go.Proofs.YtacninhhkbglaaaGreatDoor
/-
  Flights, handed over by the laws: copies.
-/
namespace Go.Proofs.YtacninhhkbglaaaGreatDoor
open Go.ChangeShapes Go.WideShapes Go.ChangeAt Go.RowKit Go.Sort
theorem QMine.off1 {W : World} {B b i : Nat} {l : List Hdr} (h : QMine W B l) (x : Value) (hne : b ≠ B) : QMine (W.setCell ⟨b, i, none⟩ x) B l := by
  have ne : ∀ o : Nat, (⟨b, i, none⟩ : Addr) ≠ ⟨B, o, none⟩ := fun o q => hne (congrArg Addr.block q)
  exact ⟨fun k r hr => by rw [World.cell?_setCell_other _ _ _ _ (ne _), World.cell?_setCell_other _ _ _ _ (ne _)]; exact h.at0 k r hr, fun o => by rw [World.frozen?_setCell]; exact h.free o, by simpa using h.lt⟩
/-- Waiters that lie in a block of their own. -/
structure WrMine (W : World) (B : Nat) (l : List Wr) : Prop where
  at0 : WrAt W B 0 l
  room : RoomWr W B (l.length * 4)
  lt : B < W.heap.size
theorem WrMine.keep {W W' : World} {B : Nat} {l : List Wr} (h : WrMine W B l) (hb : Below W.heap.size W W') : WrMine W' B l := ⟨h.at0.keep hb, h.room.keep hb, Nat.lt_of_lt_of_le h.lt hb.size⟩
theorem WrMine.in {W : World} {B : Nat} {l : List Wr} (h : WrMine W B l) : WrIn W (some ⟨B, 0, none⟩) l := .inr ⟨B, 0, rfl, h.at0⟩
theorem WrMine.off1 {W : World} {B b i : Nat} {l : List Wr} (h : WrMine W B l) (x : Value) (hne : b ≠ B) : WrMine (W.setCell ⟨b, i, none⟩ x) B l := by
  have ne : ∀ o : Nat, (⟨b, i, none⟩ : Addr) ≠ ⟨B, o, none⟩ := fun o q => hne (congrArg Addr.block q)
  exact ⟨fun k r hr => by rw [World.cell?_setCell_other _ _ _ _ (ne _), World.cell?_setCell_other _ _ _ _ (ne _), World.cell?_setCell_other _ _ _ _ (ne _), World.cell?_setCell_other _ _ _ _ (ne _)]; exact h.at0 k r hr, h.room.set _ _, by simpa using h.lt⟩
set_option maxHeartbeats 8000000 in
theorem toFlight_any (w : World) (id : Int) (key : ByteArray) (bk ot : Bool) (du : Int) (dm : Bool) (m h p : ByteArray) (ha : Option Addr) (hc : Nat) (wa : Option Addr) (wc : Nat) (hs : List Hdr) (ws : List Wr) (hhl : hs.length ≤ 1048576) (hwl : ws.length ≤ 1048576) (hH : HdsIn w ha hs) (hW2 : WrIn w wa ws) :
    Calls Tryz.prog 26 #[.agg #[.int .i64 id, .string key, .bool bk, .bool ot, .int .i64 du, .bool dm, .string m, .string h, .string p, .slice ha hs.length hc, .slice wa ws.length wc]] w fun e w' => (∃ B2, e = .returned (.agg #[.int .i64 id, .string key, .bool bk, .bool ot, .int .i64 du, .bool dm, .string m, .string h, .string p, .slice (some ⟨w.heap.size + 6, 0, none⟩) hs.length hs.length, .slice (some ⟨B2, 0, none⟩) ws.length ws.length]) ∧ QMine w' (w.heap.size + 6) hs ∧ WrMine w' B2 ws ∧ w.heap.size + 6 < B2) ∧ Below w.heap.size w w' := by
  obtain ⟨W, hW⟩ : ∃ W, W = ((w.alloc (.cells #[.int .i64 id, .string key, .bool bk, .bool ot, .int .i64 du, .bool dm, .string m, .string h, .string p, .slice ha hs.length hc, .slice wa ws.length wc] 77)).alloc (.cells #[.int .i64 0, .string ⟨#[]⟩, .bool false, .bool false, .int .i64 0, .bool false, .string ⟨#[]⟩, .string ⟨#[]⟩, .string ⟨#[]⟩, .slice none 0 0, .slice none 0 0] 86)).alloc (.cells #[.int .i64 id, .string key, .bool bk, .bool ot, .int .i64 du, .bool dm, .string ⟨#[]⟩, .string ⟨#[]⟩, .string ⟨#[]⟩, .slice none 0 0, .slice none 0 0] 86) := ⟨_, rfl⟩
  have bW : Below w.heap.size w W := by rw [hW]; exact (((Below.refl _ _).alloc (Nat.le_refl _) _).alloc (by simp) _).alloc (by simp; omega) _
  have hsz : W.heap.size = w.heap.size + 3 := by rw [hW]; simp
  have HW : Hid (W = ((w.alloc (.cells #[.int .i64 id, .string key, .bool bk, .bool ot, .int .i64 du, .bool dm, .string m, .string h, .string p, .slice ha hs.length hc, .slice wa ws.length wc] 77)).alloc (.cells #[.int .i64 0, .string ⟨#[]⟩, .bool false, .bool false, .int .i64 0, .bool false, .string ⟨#[]⟩, .string ⟨#[]⟩, .string ⟨#[]⟩, .slice none 0 0, .slice none 0 0] 86)).alloc (.cells #[.int .i64 id, .string key, .bool bk, .bool ot, .int .i64 du, .bool dm, .string ⟨#[]⟩, .string ⟨#[]⟩, .string ⟨#[]⟩, .slice none 0 0, .slice none 0 0] 86)) := hW
  have f2 : E11 W (w.heap.size + 2) (.int .i64 id) (.string key) (.bool bk) (.bool ot) (.int .i64 du) (.bool dm) (.string ⟨#[]⟩) (.string ⟨#[]⟩) (.string ⟨#[]⟩) (.slice none 0 0) (.slice none 0 0) := by
    rw [hW]
    have := E11.new ((w.alloc (.cells #[.int .i64 id, .string key, .bool bk, .bool ot, .int .i64 du, .bool dm, .string m, .string h, .string p, .slice ha hs.length hc, .slice wa ws.length wc] 77)).alloc (.cells #[.int .i64 0, .string ⟨#[]⟩, .bool false, .bool false, .int .i64 0, .bool false, .string ⟨#[]⟩, .string ⟨#[]⟩, .string ⟨#[]⟩, .slice none 0 0, .slice none 0 0] 86)) (.int .i64 id) (.string key) (.bool bk) (.bool ot) (.int .i64 du) (.bool dm) (.string ⟨#[]⟩) (.string ⟨#[]⟩) (.string ⟨#[]⟩) (.slice none 0 0) (.slice none 0 0) 86
    simpa using this
  have f1 : E11 W (w.heap.size + 1) (.int .i64 0) (.string ⟨#[]⟩) (.bool false) (.bool false) (.int .i64 0) (.bool false) (.string ⟨#[]⟩) (.string ⟨#[]⟩) (.string ⟨#[]⟩) (.slice none 0 0) (.slice none 0 0) := by
    rw [hW]
    have := (E11.new (w.alloc (.cells #[.int .i64 id, .string key, .bool bk, .bool ot, .int .i64 du, .bool dm, .string m, .string h, .string p, .slice ha hs.length hc, .slice wa ws.length wc] 77)) (.int .i64 0) (.string ⟨#[]⟩) (.bool false) (.bool false) (.int .i64 0) (.bool false) (.string ⟨#[]⟩) (.string ⟨#[]⟩) (.string ⟨#[]⟩) (.slice none 0 0) (.slice none 0 0) 86).keep ((Below.refl _ _).alloc (Nat.le_refl _) (.cells #[.int .i64 id, .string key, .bool bk, .bool ot, .int .i64 du, .bool dm, .string ⟨#[]⟩, .string ⟨#[]⟩, .string ⟨#[]⟩, .slice none 0 0, .slice none 0 0] 86))
    simpa using this
  have f0 : E11 W (w.heap.size) (.int .i64 id) (.string key) (.bool bk) (.bool ot) (.int .i64 du) (.bool dm) (.string m) (.string h) (.string p) (.slice ha hs.length hc) (.slice wa ws.length wc) := by
    rw [hW]
    exact ((E11.new w (.int .i64 id) (.string key) (.bool bk) (.bool ot) (.int .i64 du) (.bool dm) (.string m) (.string h) (.string p) (.slice ha hs.length hc) (.slice wa ws.length wc) 77).keep ((Below.refl _ _).alloc (Nat.le_refl _) _)).keep ((Below.refl _ _).alloc (Nat.le_refl _) _)
  have K0 : Hid (Below w.heap.size w W ∧ E11 W (w.heap.size) (.int .i64 id) (.string key) (.bool bk) (.bool ot) (.int .i64 du) (.bool dm) (.string m) (.string h) (.string p) (.slice ha hs.length hc) (.slice wa ws.length wc) ∧ E11 W (w.heap.size + 1) (.int .i64 0) (.string ⟨#[]⟩) (.bool false) (.bool false) (.int .i64 0) (.bool false) (.string ⟨#[]⟩) (.string ⟨#[]⟩) (.string ⟨#[]⟩) (.slice none 0 0) (.slice none 0 0) ∧ E11 W (w.heap.size + 2) (.int .i64 id) (.string key) (.bool bk) (.bool ot) (.int .i64 du) (.bool dm) (.string ⟨#[]⟩) (.string ⟨#[]⟩) (.string ⟨#[]⟩) (.slice none 0 0) (.slice none 0 0) ∧ W.heap.size = w.heap.size + 3) := ⟨bW, f0, f1, f2, hsz⟩
  have C := toRequest_any W m h p ha hc hs hhl (hH.keep bW)
  rw [hsz] at C
  have HCW : Hid (∀ X, Below w.heap.size w X → Calls Tryz.prog 80 #[.slice wa ws.length wc] X fun e w' => e = .returned (.slice (some ⟨X.heap.size, 0, none⟩) ws.length ws.length) ∧ WrMine w' X.heap.size ws ∧ Below X.heap.size X w') := fun X hX => (toWrS_any X wa wc ws hwl (hW2.keep hX)).mono fun e w' ⟨a, b, c, d, e⟩ => ⟨a, ⟨b, c, d⟩, e⟩
  clear hW bW hsz f0 f1 f2 hH hW2 hhl hwl
  generalize hn1 : hs.length = hl at *
  generalize hn2 : ws.length = wn at *
  clear hn1 hn2
  go_enter Tryz.func26, Tryz.ntmps26
  go_wp2_with fail
  rw [← HW.out]
  refine C.mono ?_
  rintro e0 w1 ⟨rfl, hq, hb1⟩
  have hb1' : Below W.heap.size W w1 := by rw [K0.out.2.2.2.2]; exact hb1
  have K1 : Hid (Below w.heap.size w w1 ∧ E11 w1 (w.heap.size) (.int .i64 id) (.string key) (.bool bk) (.bool ot) (.int .i64 du) (.bool dm) (.string m) (.string h) (.string p) (.slice ha hl hc) (.slice wa wn wc) ∧ E11 w1 (w.heap.size + 1) (.int .i64 0) (.string ⟨#[]⟩) (.bool false) (.bool false) (.int .i64 0) (.bool false) (.string ⟨#[]⟩) (.string ⟨#[]⟩) (.string ⟨#[]⟩) (.slice none 0 0) (.slice none 0 0) ∧ E11 w1 (w.heap.size + 2) (.int .i64 id) (.string key) (.bool bk) (.bool ot) (.int .i64 du) (.bool dm) (.string ⟨#[]⟩) (.string ⟨#[]⟩) (.string ⟨#[]⟩) (.slice none 0 0) (.slice none 0 0) ∧ QMine w1 (w.heap.size + 6) hs) := ⟨K0.out.1.trans (hb1'.mono K0.out.1.size), K0.out.2.1.keep hb1', K0.out.2.2.1.keep hb1', K0.out.2.2.2.1.keep hb1', hq⟩
  clear C hq hb1 hb1' K0 HW
  obtain ⟨V1, hV1⟩ : ∃ V, V = ((((w1.setCell ⟨w.heap.size + 2, 6, none⟩ (.string m)).setCell ⟨w.heap.size + 2, 7, none⟩ (.string h)).setCell ⟨w.heap.size + 2, 8, none⟩ (.string p)).setCell ⟨w.heap.size + 2, 9, none⟩ (.slice (some ⟨w.heap.size + 6, 0, none⟩) hl hl)) := ⟨_, rfl⟩
  have HV1 : Hid (V1 = ((((w1.setCell ⟨w.heap.size + 2, 6, none⟩ (.string m)).setCell ⟨w.heap.size + 2, 7, none⟩ (.string h)).setCell ⟨w.heap.size + 2, 8, none⟩ (.string p)).setCell ⟨w.heap.size + 2, 9, none⟩ (.slice (some ⟨w.heap.size + 6, 0, none⟩) hl hl))) := hV1
  clear hV1
  have K1b : Hid (Below w.heap.size w V1 ∧ E11 V1 (w.heap.size) (.int .i64 id) (.string key) (.bool bk) (.bool ot) (.int .i64 du) (.bool dm) (.string m) (.string h) (.string p) (.slice ha hl hc) (.slice wa wn wc) ∧ E11 V1 (w.heap.size + 1) (.int .i64 0) (.string ⟨#[]⟩) (.bool false) (.bool false) (.int .i64 0) (.bool false) (.string ⟨#[]⟩) (.string ⟨#[]⟩) (.string ⟨#[]⟩) (.slice none 0 0) (.slice none 0 0) ∧ E11 V1 (w.heap.size + 2) (.int .i64 id) (.string key) (.bool bk) (.bool ot) (.int .i64 du) (.bool dm) (.string m) (.string h) (.string p) (.slice (some ⟨w.heap.size + 6, 0, none⟩) hl hl) (.slice none 0 0) ∧ QMine V1 (w.heap.size + 6) hs) := by
    rw [HV1.out]
    obtain ⟨p1, p2, p3, p4, p5⟩ := K1.out
    exact ⟨(((p1.setCell (by simp) _).setCell (by simp) _).setCell (by simp) _).setCell (by simp) _, (((p2.off (by omega)).off (by omega)).off (by omega)).off (by omega), (((p3.off (by omega)).off (by omega)).off (by omega)).off (by omega), (((p4.set6 _).set7 _).set8 _).set9 _, (((p5.off1 _ (by omega)).off1 _ (by omega)).off1 _ (by omega)).off1 _ (by omega)⟩
  have a6 := K1.out.2.2.2.1.c6
  have af6 := K1.out.2.2.2.1.fr 6
  have a7 := K1.out.2.2.2.1.c7
  have af7 := K1.out.2.2.2.1.fr 7
  have a8 := K1.out.2.2.2.1.c8
  have af8 := K1.out.2.2.2.1.fr 8
  have a9 := K1.out.2.2.2.1.c9
  have af9 := K1.out.2.2.2.1.fr 9
  have g10 := K1.out.2.1.c10
  clear K1
  go_wp2_with fail
  rw [← HV1.out]
  clear a6 af6 a7 af7 a8 af8 a9 af9 g10 HV1
  refine (HCW.out V1 K1b.out.1).mono ?_
  rintro e0 w2 ⟨rfl, hbm, hb2⟩
  obtain ⟨B2, hB2⟩ : ∃ B, V1.heap.size = B := ⟨_, rfl⟩
  have K2 : Hid (Below w.heap.size w w2 ∧ E11 w2 (w.heap.size + 1) (.int .i64 0) (.string ⟨#[]⟩) (.bool false) (.bool false) (.int .i64 0) (.bool false) (.string ⟨#[]⟩) (.string ⟨#[]⟩) (.string ⟨#[]⟩) (.slice none 0 0) (.slice none 0 0) ∧ E11 w2 (w.heap.size + 2) (.int .i64 id) (.string key) (.bool bk) (.bool ot) (.int .i64 du) (.bool dm) (.string m) (.string h) (.string p) (.slice (some ⟨w.heap.size + 6, 0, none⟩) hl hl) (.slice none 0 0) ∧ QMine w2 (w.heap.size + 6) hs ∧ WrMine w2 B2 ws ∧ w.heap.size + 6 < B2) := by
    obtain ⟨p1, p2, p3, p4, p5⟩ := K1b.out
    exact ⟨p1.trans (hb2.mono p1.size), p3.keep hb2, p4.keep hb2, p5.keep hb2, hB2 ▸ hbm, hB2 ▸ p5.lt⟩
  rw [hB2]
  clear K1b hbm hb2 hB2 HCW
  have a0 := K2.out.2.2.1.c0
  have z0 := K2.out.2.1.c0
  have zf0 := K2.out.2.1.fr 0
  have a1 := K2.out.2.2.1.c1
  have z1 := K2.out.2.1.c1
  have zf1 := K2.out.2.1.fr 1
  have a2 := K2.out.2.2.1.c2
  have z2 := K2.out.2.1.c2
  have zf2 := K2.out.2.1.fr 2
  have a3 := K2.out.2.2.1.c3
  have z3 := K2.out.2.1.c3
  have zf3 := K2.out.2.1.fr 3
  have a4 := K2.out.2.2.1.c4
  have z4 := K2.out.2.1.c4
  have zf4 := K2.out.2.1.fr 4
  have a5 := K2.out.2.2.1.c5
  have z5 := K2.out.2.1.c5
  have zf5 := K2.out.2.1.fr 5
  have a6 := K2.out.2.2.1.c6
  have z6 := K2.out.2.1.c6
  have zf6 := K2.out.2.1.fr 6
  have a7 := K2.out.2.2.1.c7
  have z7 := K2.out.2.1.c7
  have zf7 := K2.out.2.1.fr 7
  have a8 := K2.out.2.2.1.c8
  have z8 := K2.out.2.1.c8
  have zf8 := K2.out.2.1.fr 8
  have a9 := K2.out.2.2.1.c9
  have z9 := K2.out.2.1.c9
  have zf9 := K2.out.2.1.fr 9
  have a10 := K2.out.2.2.1.c10
  have z10 := K2.out.2.1.c10
  have zf10 := K2.out.2.1.fr 10
  have af10 := K2.out.2.2.1.fr 10
  go_wp2_with fail
  obtain ⟨p1, p2, p3, p4, p5, p6⟩ := K2.out
  refine bodyPost_ret (v := .agg #[.int .i64 id, .string key, .bool bk, .bool ot, .int .i64 du, .bool dm, .string m, .string h, .string p, .slice (some ⟨w.heap.size + 6, 0, none⟩) hl hl, .slice (some ⟨B2, 0, none⟩) wn wn]) ?_ rfl ⟨⟨B2, rfl, (((((((((((p4.off1 _ (by omega)).off1 _ (by omega)).off1 _ (by omega)).off1 _ (by omega)).off1 _ (by omega)).off1 _ (by omega)).off1 _ (by omega)).off1 _ (by omega)).off1 _ (by omega)).off1 _ (by omega)).off1 _ (by omega)).off1 _ (by omega), (((((((((((p5.off1 _ (by omega)).off1 _ (by omega)).off1 _ (by omega)).off1 _ (by omega)).off1 _ (by omega)).off1 _ (by omega)).off1 _ (by omega)).off1 _ (by omega)).off1 _ (by omega)).off1 _ (by omega)).off1 _ (by omega)).off1 _ (by omega), p6⟩, (((((((((((p1.setCell (by simp only; omega) _).setCell (by simp only; omega) _).setCell (by simp only; omega) _).setCell (by simp only; omega) _).setCell (by simp only; omega) _).setCell (by simp only; omega) _).setCell (by simp only; omega) _).setCell (by simp only; omega) _).setCell (by simp only; omega) _).setCell (by simp only; omega) _).setCell (by simp only; omega) _).setCell (by simp only; omega) _⟩
  simp [results, Tryz.results26, go_sem, z0, z1, z2, z3, z4, z5, z6, z7, z8, z9, z10]
end Go.Proofs.YtacninhhkbglaaaGreatDoor
/-
  Head lines, held against each other by the laws, wherever they lie.
-/
namespace Go.Proofs.YtacninhhkbglaaaGreatDoor
open Go.ChangeShapes Go.WideShapes Go.ChangeAt Go.RowKit Go.Sort
set_option maxHeartbeats 1000000 in
theorem eqHeaderS_nn (w : World) (a b : Option Addr) (c d : Nat) :
    Calls Tryz.prog 172 #[.slice a 0 c, .slice b 0 d] w fun e w' => e = .returned (.bool true) ∧ Below w.heap.size w w' := by
  go_enter Tryz.func172, Tryz.ntmps172
  go_wp2_with fail
  go_loop [5] (fun i => i = .int .i64 0) (fun _ => 0)
  case atStart => exact rfl
  case round =>
    cases hrel
    go_wp2_with fail
    go_ret
    exact ⟨rfl, Below.refl _ _⟩
theorem eqHeaderS_at (w : World) (a1 a2 : Option Addr) (c1 c2 : Nat) (l : List Hdr) (hl : l.length ≤ 1048576) (h1 : HdsIn w a1 l) (h2 : HdsIn w a2 l) :
    Calls Tryz.prog 172 #[.slice a1 l.length c1, .slice a2 l.length c2] w fun e w' => e = .returned (.bool true) ∧ Below w.heap.size w w' := by
  rcases h1 with rfl | ⟨b, o, rfl, h1⟩
  · exact eqHeaderS_nn w _ _ _ _
  · rcases h2 with rfl | ⟨b2, o2, rfl, h2⟩
    · exact eqHeaderS_nn w _ _ _ _
    · exact eqHeaderS_same w b o b2 o2 c1 c2 l hl h1 h2
end Go.Proofs.YtacninhhkbglaaaGreatDoor
/-
  Flights, held against each other by the laws.
-/
namespace Go.Proofs.YtacninhhkbglaaaGreatDoor
open Go.ChangeShapes Go.WideShapes Go.ChangeAt Go.RowKit Go.Sort
set_option maxHeartbeats 4000000 in
theorem eqRequest_in (W : World) (m h p : ByteArray) (h1 h2 : Option Addr) (k1 k2 : Nat) (hs : List Hdr) (hl : hs.length ≤ 1048576) (i1 : HdsIn W h1 hs) (i2 : HdsIn W h2 hs) :
    Calls Tryz.prog 87 #[.agg #[.string m, .string h, .string p, .slice h1 hs.length k1], .agg #[.string m, .string h, .string p, .slice h2 hs.length k2]] W fun e w' => e = .returned (.bool true) ∧ Below W.heap.size W w' := by
  have bW : Below W.heap.size W ((W.alloc (.cells #[.string m, .string h, .string p, .slice h1 hs.length k1] 83)).alloc (.cells #[.string m, .string h, .string p, .slice h2 hs.length k2] 83)) := ((Below.refl _ _).alloc (Nat.le_refl _) _).alloc (by simp) _
  have C := eqHeaderS_at _ h1 h2 k1 k2 hs hl (i1.keep bW) (i2.keep bW)
  have HB : Hid (Below W.heap.size W ((W.alloc (.cells #[.string m, .string h, .string p, .slice h1 hs.length k1] 83)).alloc (.cells #[.string m, .string h, .string p, .slice h2 hs.length k2] 83))) := bW
  clear bW i1 i2 hl
  generalize hs.length = n at *
  go_enter Tryz.func87, Tryz.ntmps87
  go_wp2_with fail
  refine C.mono ?_
  rintro r w1 ⟨rfl, hb1⟩
  have HB1 : Hid (Below W.heap.size W w1) := HB.out.trans (hb1.mono HB.out.size)
  clear hb1 C HB
  go_wp2_with fail
  go_ret
  exact ⟨rfl, HB1.out⟩
set_option maxHeartbeats 8000000 in
theorem eqFlight_same (w : World) (id : Int) (key : ByteArray) (bk ot : Bool) (du : Int) (dm : Bool) (m h p : ByteArray) (h1 h2 : Option Addr) (k1 k2 : Nat) (w1 w2 : Option Addr) (c1 c2 : Nat) (hs : List Hdr) (ws : List Wr) (hhl : hs.length ≤ 1048576) (hwl : ws.length ≤ 1048576) (i1 : HdsIn w h1 hs) (i2 : HdsIn w h2 hs) (j1 : WrIn w w1 ws) (j2 : WrIn w w2 ws) :
    Calls Tryz.prog 30 #[.agg #[.int .i64 id, .string key, .bool bk, .bool ot, .int .i64 du, .bool dm, .string m, .string h, .string p, .slice h1 hs.length k1, .slice w1 ws.length c1], .agg #[.int .i64 id, .string key, .bool bk, .bool ot, .int .i64 du, .bool dm, .string m, .string h, .string p, .slice h2 hs.length k2, .slice w2 ws.length c2]] w fun e w' => e = .returned (.bool true) ∧ Below w.heap.size w w' := by
  have HB : Hid (Below w.heap.size w ((w.alloc (.cells #[.int .i64 id, .string key, .bool bk, .bool ot, .int .i64 du, .bool dm, .string m, .string h, .string p, .slice h1 hs.length k1, .slice w1 ws.length c1] 86)).alloc (.cells #[.int .i64 id, .string key, .bool bk, .bool ot, .int .i64 du, .bool dm, .string m, .string h, .string p, .slice h2 hs.length k2, .slice w2 ws.length c2] 86))) := ((Below.refl _ _).alloc (Nat.le_refl _) _).alloc (by simp) _
  have HC1 : Hid (E11 ((w.alloc (.cells #[.int .i64 id, .string key, .bool bk, .bool ot, .int .i64 du, .bool dm, .string m, .string h, .string p, .slice h1 hs.length k1, .slice w1 ws.length c1] 86)).alloc (.cells #[.int .i64 id, .string key, .bool bk, .bool ot, .int .i64 du, .bool dm, .string m, .string h, .string p, .slice h2 hs.length k2, .slice w2 ws.length c2] 86)) w.heap.size (.int .i64 id) (.string key) (.bool bk) (.bool ot) (.int .i64 du) (.bool dm) (.string m) (.string h) (.string p) (.slice h1 hs.length k1) (.slice w1 ws.length c1)) := (E11.new w _ _ _ _ _ _ _ _ _ _ _ _).keep ((Below.refl _ _).alloc (Nat.le_refl _) _)
  have HC2 : Hid (E11 ((w.alloc (.cells #[.int .i64 id, .string key, .bool bk, .bool ot, .int .i64 du, .bool dm, .string m, .string h, .string p, .slice h1 hs.length k1, .slice w1 ws.length c1] 86)).alloc (.cells #[.int .i64 id, .string key, .bool bk, .bool ot, .int .i64 du, .bool dm, .string m, .string h, .string p, .slice h2 hs.length k2, .slice w2 ws.length c2] 86)) (w.heap.size + 1) (.int .i64 id) (.string key) (.bool bk) (.bool ot) (.int .i64 du) (.bool dm) (.string m) (.string h) (.string p) (.slice h2 hs.length k2) (.slice w2 ws.length c2)) := by
    have := E11.new (w.alloc (.cells #[.int .i64 id, .string key, .bool bk, .bool ot, .int .i64 du, .bool dm, .string m, .string h, .string p, .slice h1 hs.length k1, .slice w1 ws.length c1] 86)) (.int .i64 id) (.string key) (.bool bk) (.bool ot) (.int .i64 du) (.bool dm) (.string m) (.string h) (.string p) (.slice h2 hs.length k2) (.slice w2 ws.length c2) 86
    show E11 ((w.alloc (.cells #[.int .i64 id, .string key, .bool bk, .bool ot, .int .i64 du, .bool dm, .string m, .string h, .string p, .slice h1 hs.length k1, .slice w1 ws.length c1] 86)).alloc (.cells #[.int .i64 id, .string key, .bool bk, .bool ot, .int .i64 du, .bool dm, .string m, .string h, .string p, .slice h2 hs.length k2, .slice w2 ws.length c2] 86)) (w.heap.size + 1) (.int .i64 id) (.string key) (.bool bk) (.bool ot) (.int .i64 du) (.bool dm) (.string m) (.string h) (.string p) (.slice h2 hs.length k2) (.slice w2 ws.length c2)
    simpa using this
  have HQ : Hid (∀ X, Below w.heap.size w X → Calls Tryz.prog 87 #[.agg #[.string m, .string h, .string p, .slice h1 hs.length k1], .agg #[.string m, .string h, .string p, .slice h2 hs.length k2]] X fun e w' => e = .returned (.bool true) ∧ Below X.heap.size X w') := fun X hb => eqRequest_in X m h p h1 h2 k1 k2 hs hhl (i1.keep hb) (i2.keep hb)
  have HWS : Hid (∀ X, Below w.heap.size w X → Calls Tryz.prog 88 #[.slice w1 ws.length c1, .slice w2 ws.length c2] X fun e w' => e = .returned (.bool true) ∧ Below X.heap.size X w') := fun X hb => eqWrS_same X w1 w2 c1 c2 ws hwl (j1.keep hb) (j2.keep hb)
  obtain ⟨V, hV⟩ : ∃ V, V = ((w.alloc (.cells #[.int .i64 id, .string key, .bool bk, .bool ot, .int .i64 du, .bool dm, .string m, .string h, .string p, .slice h1 hs.length k1, .slice w1 ws.length c1] 86)).alloc (.cells #[.int .i64 id, .string key, .bool bk, .bool ot, .int .i64 du, .bool dm, .string m, .string h, .string p, .slice h2 hs.length k2, .slice w2 ws.length c2] 86)) := ⟨_, rfl⟩
  have HV : Hid (V = ((w.alloc (.cells #[.int .i64 id, .string key, .bool bk, .bool ot, .int .i64 du, .bool dm, .string m, .string h, .string p, .slice h1 hs.length k1, .slice w1 ws.length c1] 86)).alloc (.cells #[.int .i64 id, .string key, .bool bk, .bool ot, .int .i64 du, .bool dm, .string m, .string h, .string p, .slice h2 hs.length k2, .slice w2 ws.length c2] 86))) := hV
  rw [← hV] at HB HC1 HC2
  clear hV i1 i2 j1 j2 hhl hwl
  generalize hs.length = hl at *
  generalize ws.length = wn at *
  go_enter Tryz.func30, Tryz.ntmps30
  go_wp2_with fail
  rw [← HV.out]
  refine (HQ.out _ HB.out).mono ?_
  rintro r v1 ⟨rfl, hb1⟩
  have HB1 : Hid (Below w.heap.size w v1) := HB.out.trans (hb1.mono HB.out.size)
  have q1 := (HC1.out.keep hb1).c10
  have q2 := (HC2.out.keep hb1).c10
  clear hb1 HB HC1 HC2 HV HQ
  go_wp2_with fail
  refine (HWS.out _ HB1.out).mono ?_
  rintro r v2 ⟨rfl, hb2⟩
  have HB2 : Hid (Below w.heap.size w v2) := HB1.out.trans (hb2.mono HB1.out.size)
  clear hb2 HB1 HWS q1 q2
  go_wp2_with fail
  go_ret
  exact ⟨rfl, HB2.out⟩
end Go.Proofs.YtacninhhkbglaaaGreatDoor
/-
  Rows of head lines and of waiters as facts that hang on stretches of blocks; flights marked and held.
-/
namespace Go.Proofs.YtacninhhkbglaaaGreatDoor
open Go.ChangeShapes Go.WideShapes Go.ChangeAt Go.RowKit Go.Sort
/-- Waiters that lie in a block of their own. -/
def WL (v : Value) (l : List Wr) (lo hi : Nat) (X : World) : Prop := (l = [] ∧ ∃ a c, v = .slice a 0 c) ∨ ∃ g off c, v = .slice (some ⟨g, off, none⟩) l.length c ∧ lo ≤ g ∧ g < hi ∧ WrAt X g off l ∧ ∀ o, o < off + l.length * 4 → X.frozen? ⟨g, o, none⟩ = false
/-- The same, marked. -/
def WLm (v : Value) (l : List Wr) (lo hi : Nat) (X : World) : Prop := (l = [] ∧ ∃ a c, v = .slice a 0 c) ∨ ∃ g off c, v = .slice (some ⟨g, off, none⟩) l.length c ∧ lo ≤ g ∧ g < hi ∧ WrAt X g off l
theorem WL.dep (v : Value) (l : List Wr) (lo hi : Nat) : Dep lo hi (WL v l lo hi) := fun X X' _ _ hc k => by
  rcases k with e | ⟨g, off, c, e, h1, h2, hat, hf⟩
  · exact .inl e
  · exact .inr ⟨g, off, c, e, h1, h2, fun i r hr => by rw [(hc g _ h1 h2).1, (hc g _ h1 h2).1, (hc g _ h1 h2).1, (hc g _ h1 h2).1]; exact hat i r hr, fun o ho => by rw [(hc g o h1 h2).2]; exact hf o ho⟩
theorem WLm.dep (v : Value) (l : List Wr) (lo hi : Nat) : Dep lo hi (WLm v l lo hi) := fun X X' _ _ hc k => by
  rcases k with e | ⟨g, off, c, e, h1, h2, hat⟩
  · exact .inl e
  · exact .inr ⟨g, off, c, e, h1, h2, fun i r hr => by rw [(hc g _ h1 h2).1, (hc g _ h1 h2).1, (hc g _ h1 h2).1, (hc g _ h1 h2).1]; exact hat i r hr⟩
theorem WL.in {a : Option Addr} {n c : Nat} {l : List Wr} {lo hi : Nat} {X : World} (k : WL (.slice a n c) l lo hi X) : n = l.length ∧ WrIn X a l := by
  rcases k with ⟨rfl, a', c', e⟩ | ⟨g, off, c', e, _, _, hat, _⟩
  · simp only [Value.slice.injEq] at e
    exact ⟨e.2.1, .inl rfl⟩
  · simp only [Value.slice.injEq] at e
    obtain ⟨rfl, rfl, rfl⟩ := e
    exact ⟨rfl, .inr ⟨g, off, rfl, hat⟩⟩
theorem WLm.in {a : Option Addr} {n c : Nat} {l : List Wr} {lo hi : Nat} {X : World} (k : WLm (.slice a n c) l lo hi X) : n = l.length ∧ WrIn X a l := by
  rcases k with ⟨rfl, a', c', e⟩ | ⟨g, off, c', e, _, _, hat⟩
  · simp only [Value.slice.injEq] at e
    exact ⟨e.2.1, .inl rfl⟩
  · simp only [Value.slice.injEq] at e
    obtain ⟨rfl, rfl, rfl⟩ := e
    exact ⟨rfl, .inr ⟨g, off, rfl, hat⟩⟩
/-- The stretch of a row: its own block, or none from base on. -/
def sLo (v : Value) (b : Nat) : Nat := match v.ownBlock with | some g => g | none => b
def sHi (v : Value) (b : Nat) : Nat := match v.ownBlock with | some g => g + 1 | none => b
theorem s_le (v : Value) (b : Nat) : sLo v b ≤ sHi v b := by unfold sLo sHi; split <;> omega
theorem s_apart {v u : Value} {b : Nat} (ap : ∀ q, v.ownBlock = some q → u.ownBlock ≠ some q) (hv : ∀ q, v.ownBlock = some q → b ≤ q) (hu : ∀ q, u.ownBlock = some q → b ≤ q) : sHi v b ≤ sLo u b ∨ sHi u b ≤ sLo v b := by
  unfold sHi sLo
  cases e1 : v.ownBlock with
  | none =>
    cases e2 : u.ownBlock with
    | none => exact .inl (Nat.le_refl _)
    | some q => exact .inl (hu q e2)
  | some p =>
    cases e2 : u.ownBlock with
    | none => exact .inr (hv p e1)
    | some q =>
      have : p ≠ q := fun e => ap p e1 (by rw [e2, e])
      simp only
      omega
theorem row_stretch {w : World} {base : Nat} {e : TypeId} {size : Nat} {v : Value} {n : Nat} {xs : List Value} (h : w.ownsRow base e size v n xs) {b : Nat} (hb : b ≤ base) (hs : b ≤ w.heap.size) : b ≤ sLo v b ∧ sHi v b ≤ w.heap.size := by
  unfold sLo sHi
  cases e1 : v.ownBlock with
  | none => exact ⟨Nat.le_refl _, hs⟩
  | some q => have := World.ownsRow.lt h q e1; simp only; omega
theorem OwnWr.wl {w : World} {base : Nat} {v : Value} {l : List Wr} (h : OwnWr w base v l) {b : Nat} (hb : b ≤ base) (hs : b ≤ w.heap.size) : At (sLo v b) (sHi v b) (WL v l) w := by
  refine ⟨(row_stretch h hb hs).2, WL.dep _ _ _ _, ?_⟩
  have h2 := h.new
  rcases h2 with ⟨e, a, c, e2⟩ | ⟨g, off, c, e, h1, h3, hat, hf⟩
  · exact .inl ⟨e, a, c, e2⟩
  · refine .inr ⟨g, off, c, e, ?_, ?_, hat, fun o _ => hf o⟩
    · subst e; exact Nat.le_refl _
    · subst e; exact Nat.lt_succ_self _
theorem RowH.hl {w : World} {base : Nat} {v : Value} {l : List Hdr} (h : RowH w base v l) {b : Nat} (hb : b ≤ base) (hs : b ≤ w.heap.size) : At (sLo v b) (sHi v b) (HL v l) w := by
  refine ⟨(row_stretch h hb hs).2, HL.dep _ _ _ _, (OwnH.lv h).1, fun q hq => ?_⟩
  unfold sLo sHi
  rw [hq]
  exact ⟨Nat.le_refl _, Nat.lt_succ_self _⟩
theorem At.gb {l h g : Nat} {C : Nat → Nat → World → Prop} {X X' : World} (k : At l h C X) (q : X.grownBy X' (some g)) (hd : h ≤ g ∨ g < l) : At l h C X' :=
  k.wi (lo := g) (hi := g + 1) ⟨q.size, fun b o hb hn => gbCell q o hb (by omega), fun b o hb hn => gbFrozen q o hb (by omega)⟩ (by omega)
/-- Nothing is written but in blocks of which P says so, and in new ones. -/
structure Wp (P : Nat → Prop) (X X' : World) : Prop where
  size : X.heap.size ≤ X'.heap.size
  cell : ∀ b o, b < X.heap.size → ¬ P b → X'.cell? ⟨b, o, none⟩ = X.cell? ⟨b, o, none⟩
  frozen : ∀ b o, b < X.heap.size → ¬ P b → X'.frozen? ⟨b, o, none⟩ = X.frozen? ⟨b, o, none⟩
theorem Wp.trans {P : Nat → Prop} {X Y Z : World} (g : Wp P X Y) (k : Wp P Y Z) : Wp P X Z :=
  ⟨Nat.le_trans g.size k.size, fun b o h1 h2 => (k.cell b o (Nat.lt_of_lt_of_le h1 g.size) h2).trans (g.cell b o h1 h2), fun b o h1 h2 => (k.frozen b o (Nat.lt_of_lt_of_le h1 g.size) h2).trans (g.frozen b o h1 h2)⟩
theorem Wi.wp {lo hi : Nat} {X X' : World} {P : Nat → Prop} (g : Wi lo hi X X') (h : ∀ b, lo ≤ b → b < hi → P b) : Wp P X X' :=
  ⟨g.size, fun b o hb hn => g.cell b o hb (by by_cases c : b < lo; exact .inl c; exact .inr (by by_cases d : b < hi; exact absurd (h b (by omega) d) hn; omega)), fun b o hb hn => g.frozen b o hb (by by_cases c : b < lo; exact .inl c; exact .inr (by by_cases d : b < hi; exact absurd (h b (by omega) d) hn; omega))⟩
theorem Wp.wi {lo hi : Nat} {X X' : World} {P : Nat → Prop} (g : Wp P X X') (h : ∀ b, P b → lo ≤ b ∧ b < hi) : Wi lo hi X X' :=
  ⟨g.size, fun b o hb hn => g.cell b o hb (fun p => by have := h b p; omega), fun b o hb hn => g.frozen b o hb (fun p => by have := h b p; omega)⟩
theorem Wp.mono {X X' : World} {P Q : Nat → Prop} (g : Wp P X X') (h : ∀ b, P b → Q b) : Wp Q X X' := ⟨g.size, fun b o hb hn => g.cell b o hb (fun p => hn (h b p)), fun b o hb hn => g.frozen b o hb (fun p => hn (h b p))⟩
theorem At.wp {l h : Nat} {C : Nat → Nat → World → Prop} {X X' : World} {P : Nat → Prop} (k : At l h C X) (g : Wp P X X') (hd : ∀ b, l ≤ b → b < h → ¬ P b) : At l h C X' :=
  ⟨Nat.le_trans k.le g.size, k.dep, k.dep X X' k.le g.size (fun b o h1 h2 => ⟨g.cell b o (Nat.lt_of_lt_of_le h2 k.le) (hd b h1 h2), g.frozen b o (Nat.lt_of_lt_of_le h2 k.le) (hd b h1 h2)⟩) k.val⟩
theorem At.lowB {l h base : Nat} {C : Nat → Nat → World → Prop} {X X' : World} (k : At l h C X) (hb : Below base X X') (hh : h ≤ base) : At l h C X' :=
  ⟨Nat.le_trans k.le hb.size, k.dep, k.dep X X' k.le hb.size (fun b o _ h2 => ⟨hb.cell (p := ⟨b, o, none⟩) (Nat.lt_of_lt_of_le h2 hh), hb.frozen (p := ⟨b, o, none⟩) (Nat.lt_of_lt_of_le h2 hh)⟩) k.val⟩
theorem s_off {v : Value} {b c : Nat} (hv : ∀ q, v.ownBlock = some q → c ≤ q) : c ≤ sLo v b ∨ sHi v b = b := by
  unfold sLo sHi
  cases e : v.ownBlock with
  | none => exact .inr rfl
  | some q => exact .inl (hv q e)
/-- The rows of a flight. -/
def FR (L : List Hdr) (W : List Wr) (ra : Option Addr) (rn rk : Nat) (wa : Option Addr) (wn wk : Nat) (lo hi : Nat) (X : World) : Prop := (rn = L.length ∧ wn = W.length) ∧ ∃ l1 h1 l2 h2, (lo ≤ l1 ∧ l1 ≤ h1 ∧ h1 ≤ hi) ∧ (lo ≤ l2 ∧ l2 ≤ h2 ∧ h2 ≤ hi) ∧ (h1 ≤ l2 ∨ h2 ≤ l1) ∧ At l1 h1 (HL (.slice ra rn rk) L) X ∧ At l2 h2 (WL (.slice wa wn wk) W) X
theorem FR.dep (L : List Hdr) (W : List Wr) (ra : Option Addr) (rn rk : Nat) (wa : Option Addr) (wn wk : Nat) (lo hi : Nat) : Dep lo hi (FR L W ra rn rk wa wn wk lo hi) := fun X X' _ h2 hc k => by
  obtain ⟨e, l1, h1, l2, h2', a, b, c, d1, d2⟩ := k
  exact ⟨e, l1, h1, l2, h2', a, b, c, d1.mv a.1 a.2.2 h2 hc, d2.mv b.1 b.2.2 h2 hc⟩
/-- The rows of a flight, and those who wait no more. -/
def RW (L : List Hdr) (W G : List Wr) (ra : Option Addr) (rn rk : Nat) (wa : Option Addr) (wn wk : Nat) (ga : Option Addr) (gn gk : Nat) (lo hi : Nat) (X : World) : Prop := (rn = L.length ∧ wn = W.length ∧ gn = G.length) ∧ ∃ l1 h1 l2 h2 l3 h3, (lo ≤ l1 ∧ l1 ≤ h1 ∧ h1 ≤ hi) ∧ (lo ≤ l2 ∧ l2 ≤ h2 ∧ h2 ≤ hi) ∧ (lo ≤ l3 ∧ l3 ≤ h3 ∧ h3 ≤ hi) ∧ ((h1 ≤ l2 ∨ h2 ≤ l1) ∧ (h1 ≤ l3 ∨ h3 ≤ l1) ∧ (h2 ≤ l3 ∨ h3 ≤ l2)) ∧ At l1 h1 (HL (.slice ra rn rk) L) X ∧ At l2 h2 (WL (.slice wa wn wk) W) X ∧ At l3 h3 (WL (.slice ga gn gk) G) X
theorem RW.dep (L : List Hdr) (W G : List Wr) (ra : Option Addr) (rn rk : Nat) (wa : Option Addr) (wn wk : Nat) (ga : Option Addr) (gn gk : Nat) (lo hi : Nat) : Dep lo hi (RW L W G ra rn rk wa wn wk ga gn gk lo hi) := fun X X' _ h2 hc k => by
  obtain ⟨e, l1, h1, l2, h2', l3, h3, a, b, c, d, d1, d2, d3⟩ := k
  exact ⟨e, l1, h1, l2, h2', l3, h3, a, b, c, d, d1.mv a.1 a.2.2 h2 hc, d2.mv b.1 b.2.2 h2 hc, d3.mv c.1 c.2.2 h2 hc⟩
/-- The same, marked. -/
def RWm (L : List Hdr) (W G : List Wr) (ra : Option Addr) (rn rk : Nat) (wa : Option Addr) (wn wk : Nat) (ga : Option Addr) (gn gk : Nat) (lo hi : Nat) (X : World) : Prop := (rn = L.length ∧ wn = W.length ∧ gn = G.length) ∧ ∃ l1 h1 l2 h2 l3 h3, (lo ≤ l1 ∧ l1 ≤ h1 ∧ h1 ≤ hi) ∧ (lo ≤ l2 ∧ l2 ≤ h2 ∧ h2 ≤ hi) ∧ (lo ≤ l3 ∧ l3 ≤ h3 ∧ h3 ≤ hi) ∧ At l1 h1 (HL (.slice ra rn rk) (mkHL 1 rn)) X ∧ At l2 h2 (WLm (.slice wa wn wk) (mkdWr (1 + 2 * rn) W)) X ∧ At l3 h3 (WLm (.slice ga gn gk) (mkdWr (1 + 2 * rn + wn * 4) G)) X
theorem RWm.dep (L : List Hdr) (W G : List Wr) (ra : Option Addr) (rn rk : Nat) (wa : Option Addr) (wn wk : Nat) (ga : Option Addr) (gn gk : Nat) (lo hi : Nat) : Dep lo hi (RWm L W G ra rn rk wa wn wk ga gn gk lo hi) := fun X X' _ h2 hc k => by
  obtain ⟨e, l1, h1, l2, h2', l3, h3, a, b, c, d1, d2, d3⟩ := k
  exact ⟨e, l1, h1, l2, h2', l3, h3, a, b, c, d1.mv a.1 a.2.2 h2 hc, d2.mv b.1 b.2.2 h2 hc, d3.mv c.1 c.2.2 h2 hc⟩
/-- The same of a flight alone. -/
def FRm (L : List Hdr) (W : List Wr) (ra : Option Addr) (rn rk : Nat) (wa : Option Addr) (wn wk : Nat) (lo hi : Nat) (X : World) : Prop := (rn = L.length ∧ wn = W.length) ∧ ∃ l1 h1 l2 h2, (lo ≤ l1 ∧ l1 ≤ h1 ∧ h1 ≤ hi) ∧ (lo ≤ l2 ∧ l2 ≤ h2 ∧ h2 ≤ hi) ∧ At l1 h1 (HL (.slice ra rn rk) (mkHL 1 rn)) X ∧ At l2 h2 (WLm (.slice wa wn wk) (mkdWr (1 + 2 * rn) W)) X
theorem FRm.dep (L : List Hdr) (W : List Wr) (ra : Option Addr) (rn rk : Nat) (wa : Option Addr) (wn wk : Nat) (lo hi : Nat) : Dep lo hi (FRm L W ra rn rk wa wn wk lo hi) := fun X X' _ h2 hc k => by
  obtain ⟨e, l1, h1, l2, h2', a, b, d1, d2⟩ := k
  exact ⟨e, l1, h1, l2, h2', a, b, d1.mv a.1 a.2.2 h2 hc, d2.mv b.1 b.2.2 h2 hc⟩
theorem exHav {v : Value} {w V w' : World} (hV : Below w.heap.size w V) (h : HAV v V w') : HAV v w w' :=
  ⟨Nat.le_trans hV.size h.size, fun b o hb hn => (h.cell b o (Nat.lt_of_lt_of_le hb hV.size) hn).trans (hV.cell (p := ⟨b, o, none⟩) hb), fun b o hb hn => (h.frozen b o (Nat.lt_of_lt_of_le hb hV.size) hn).trans (hV.frozen (p := ⟨b, o, none⟩) hb)⟩
theorem exHavWi {v : Value} {X X' : World} (h : HAV v X X') {lo hi : Nat} (hv : ∀ b, v.ownBlock = some b → lo ≤ b ∧ b < hi) : Wi lo hi X X' :=
  ⟨h.size, fun b o hb hd => h.cell b o hb (fun e => by have := hv b e; omega), fun b o hb hd => h.frozen b o hb (fun e => by have := hv b e; omega)⟩
set_option maxRecDepth 100000 in
set_option maxHeartbeats 2000000 in
theorem exMarkRq (w : World) (m h p : ByteArray) (a : Option Addr) (n ca : Nat) (l : List Hdr) (lo hi base : Nat) (hn : n = l.length) (hl : l.length ≤ 1048576) (hv : At lo hi (HL (.slice a n ca) l) w) (hb : base ≤ lo) (hbs : base ≤ w.heap.size) :
    Calls Tryz.prog 89 #[.agg #[.string m, .string h, .string p, .slice a n ca], .int .i64 1] w fun e w' => e = .returned (.int .i64 ((1 + 2 * n : Nat) : Int)) ∧ At lo hi (HL (.slice a n ca) (mkHL 1 n)) w' ∧ Wi lo hi w w' ∧ Below base w w' := by
  obtain ⟨V, hV⟩ : ∃ V, V = w.alloc (.cells #[.string m, .string h, .string p, .slice a n ca] 83) := ⟨_, rfl⟩
  have HV : Hid (V = w.alloc (.cells #[.string m, .string h, .string p, .slice a n ca] 83)) := hV
  have bV : Below w.heap.size w V := by rw [hV]; exact (Below.refl _ _).alloc (Nat.le_refl _) _
  have C : Calls Tryz.prog 152 #[.slice a n ca, .int .i64 1] V fun e w' => e = .returned (.int .i64 ((1 + 2 * n : Nat) : Int)) ∧ At lo hi (HL (.slice a n ca) (mkHL 1 n)) w' ∧ Wi lo hi w w' ∧ Below base w w' := by
    have := markHeaderS_lv V (.slice a n ca) l hl (hv.val.1.below bV) base (fun b hq => Nat.le_trans hb (hv.val.2 b hq).1) (Nat.le_trans hbs bV.size)
    rw [← hn] at this
    refine this.mono fun e w1 ⟨he, h1, h2, h3⟩ => ⟨he, ⟨Nat.le_trans hv.le (Nat.le_trans bV.size h2.size), HL.dep _ _ _ _, h1, hv.val.2⟩, exHavWi (exHav bV h2) hv.val.2, (bV.mono hbs).trans h3⟩
  clear bV hV hv hl hb hbs hn
  generalize ((1 + 2 * n : Nat) : Int) = q at *
  go_enter Tryz.func89, Tryz.ntmps89
  go_wp2_with fail
  rw [← HV.out]
  refine C.mono ?_
  rintro e w1 ⟨rfl, hk⟩
  have K := hidL hk
  clear hk C HV
  go_wp2_with fail
  go_ret
  exact ⟨rfl, K.out⟩
set_option maxHeartbeats 2000000 in
theorem exHeldRq (w : World) (m h p : ByteArray) (a : Option Addr) (n ca : Nat) (lo hi : Nat) (hl : n ≤ 1048576) (hv : At lo hi (HL (.slice a n ca) (mkHL 1 n)) w) :
    Calls Tryz.prog 174 #[.agg #[.string m, .string h, .string p, .slice a n ca], .int .i64 1] w fun e w' => e = .returned (.int .i64 ((1 + 2 * n : Nat) : Int)) ∧ Below w.heap.size w w' := by
  have HE := heldHeaderS_lv (w.alloc (.cells #[.string m, .string h, .string p, .slice a n ca] 83)) (.slice a n ca) n hl (hv.val.1.below ((Below.refl _ _).alloc (Nat.le_refl _) _))
  have g : ¬ ((1 + 2 * n : Nat) : Int) < 0 := by omega
  clear hv
  generalize ((1 + 2 * n : Nat) : Int) = q at *
  go_enter Tryz.func174, Tryz.ntmps174
  go_wp2_with fail
  refine HE.mono ?_
  rintro e w1 ⟨rfl, hb⟩
  have KB : Hid (Below w.heap.size w w1) := ((Below.refl _ _).alloc (Nat.le_refl _) _).trans (hb.mono (by simp))
  clear hb HE
  go_wp2_with fail
  go_ret
  exact ⟨rfl, KB.out⟩
theorem exMarkW {X : World} {a : Option Addr} {n cp : Nat} {l : List Wr} {lo hi k base : Nat} (c : At lo hi (WL (.slice a n cp) l) X) (hk : k ≤ 10000000000000) (hl : l.length ≤ 1048576) (hb : base ≤ lo) (hbX : base ≤ X.heap.size) :
    Calls Tryz.prog 90 #[.slice a n cp, .int .i64 (k : Int)] X fun e w' => e = .returned (.int .i64 ((k + n * 4 : Nat) : Int)) ∧ At lo hi (WLm (.slice a n cp) (mkdWr k l)) w' ∧ Wi lo hi X w' ∧ Below base X w' := by
  obtain ⟨rfl, _⟩ := c.val.in
  rcases c.val with ⟨e0, a', c', e⟩ | ⟨g, off, c', e, h1, h2, hat, hf⟩
  · subst e0
    refine (markWr_any X a cp k hk [] hl X.heap.size 0 (.inl rfl)).mono ?_
    rintro e w' ⟨h1, _, h3⟩
    exact ⟨h1, ⟨by rw [h3.size]; exact c.le, WLm.dep _ _ _ _, .inl ⟨rfl, a, cp, rfl⟩⟩, ⟨Nat.le_of_eq h3.size.symm, fun b o hb _ => World.cell?_of_block (w := X) (h3.block b (by omega)), fun b o hb _ => World.frozen?_of_block (w := X) (h3.block b (by omega))⟩, h3.os, h3.tape, h3.output, Nat.le_of_eq h3.size.symm, fun q hq => h3.block q (by omega)⟩
  · simp only [Value.slice.injEq, true_and] at e
    obtain ⟨rfl, rfl⟩ := e
    refine (markWr_any X _ cp k hk l hl g off (.inr ⟨rfl, hat, hf⟩)).mono ?_
    rintro e w' ⟨r1, r2, r3⟩
    refine ⟨r1, ⟨by rw [r3.size]; exact c.le, WLm.dep _ _ _ _, ?_⟩, ⟨Nat.le_of_eq r3.size.symm, fun b o hb _ => World.cell?_of_block (w := X) (r3.block b (by omega)), fun b o hb _ => World.frozen?_of_block (w := X) (r3.block b (by omega))⟩, r3.os, r3.tape, r3.output, Nat.le_of_eq r3.size.symm, fun q hq => r3.block q (by omega)⟩
    rcases r2 with r2 | r2
    · subst r2; exact .inl ⟨rfl, _, _, rfl⟩
    · exact .inr ⟨g, off, cp, by rw [mkdWr_len], h1, h2, r2⟩
theorem exHeldW {X : World} {a : Option Addr} {n cp : Nat} {l : List Wr} {lo hi k : Nat} (c : At lo hi (WLm (.slice a n cp) (mkdWr k l)) X) (hk : k ≤ 10000000000000) (hl : l.length ≤ 1048576) :
    Calls Tryz.prog 175 #[.slice a n cp, .int .i64 (k : Int)] X fun e w' => e = .returned (.int .i64 ((k + n * 4 : Nat) : Int)) ∧ Below X.heap.size X w' := by
  obtain ⟨e, h⟩ := c.val.in
  rw [mkdWr_len] at e
  subst e
  exact (heldWr_any X a cp k hk l hl h).mono fun _ _ ⟨h1, h2⟩ => ⟨h1, h2 ▸ Below.refl _ _⟩
set_option maxRecDepth 100000 in
set_option maxHeartbeats 4000000 in
theorem exMarkFl (X : World) (id : Int) (key : ByteArray) (bk ot : Bool) (du : Int) (dm : Bool) (m h p : ByteArray) (ra : Option Addr) (rn rk : Nat) (wa : Option Addr) (wn wk : Nat) (L : List Hdr) (W : List Wr) (l1 h1 l2 h2 base : Nat) (e1 : rn = L.length) (a1 : At l1 h1 (HL (.slice ra rn rk) L) X) (a2 : At l2 h2 (WL (.slice wa wn wk) W) X) (d : h1 ≤ l2 ∨ h2 ≤ l1) (b1 : base ≤ l1) (b2 : base ≤ l2) (bX : base ≤ X.heap.size) (f1 : L.length ≤ 1048576) (f2 : W.length ≤ 1048576) :
    Calls Tryz.prog 31 #[.agg #[.int .i64 id, .string key, .bool bk, .bool ot, .int .i64 du, .bool dm, .string m, .string h, .string p, .slice ra rn rk, .slice wa wn wk], .int .i64 1] X fun e w' => e = .returned (.int .i64 ((1 + 2 * rn + wn * 4 : Nat) : Int)) ∧ (At l1 h1 (HL (.slice ra rn rk) (mkHL 1 rn)) w' ∧ At l2 h2 (WLm (.slice wa wn wk) (mkdWr (1 + 2 * rn) W)) w' ∧ Wp (fun b => l1 ≤ b ∧ b < h1 ∨ l2 ≤ b ∧ b < h2) X w') ∧ Below base X w' := by
  obtain ⟨V, hV⟩ : ∃ V, V = X.alloc (.cells #[.int .i64 id, .string key, .bool bk, .bool ot, .int .i64 du, .bool dm, .string m, .string h, .string p, .slice ra rn rk, .slice wa wn wk] 86) := ⟨_, rfl⟩
  have HV : Hid (V = X.alloc (.cells #[.int .i64 id, .string key, .bool bk, .bool ot, .int .i64 du, .bool dm, .string m, .string h, .string p, .slice ra rn rk, .slice wa wn wk] 86)) := hV
  have bV : Below X.heap.size X V := by rw [hV]; exact (Below.refl _ _).alloc (Nat.le_refl _) _
  have BX := hidL bV
  have F0 : Hid (At X.heap.size (X.heap.size + 1) (Bx X.heap.size [.int .i64 id, .string key, .bool bk, .bool ot, .int .i64 du, .bool dm, .string m, .string h, .string p, .slice ra rn rk, .slice wa wn wk]) V) := by rw [hV]; exact Bx.new _ [.int .i64 id, .string key, .bool bk, .bool ot, .int .i64 du, .bool dm, .string m, .string h, .string p, .slice ra rn rk, .slice wa wn wk] _
  have G1 := hidL (a1.keep bV)
  have G2 := hidL (a2.keep bV)
  have O := hidL (show h1 ≤ X.heap.size ∧ h2 ≤ X.heap.size ∧ base ≤ X.heap.size ∧ base ≤ l1 ∧ base ≤ l2 ∧ (h1 ≤ l2 ∨ h2 ≤ l1) from ⟨a1.le, a2.le, bX, b1, b2, d⟩)
  have C1 : Hid (∀ Y, X.heap.size ≤ Y.heap.size → At l1 h1 (HL (.slice ra rn rk) L) Y → Calls Tryz.prog 89 #[.agg #[.string m, .string h, .string p, .slice ra rn rk], .int .i64 1] Y fun e w' => e = .returned (.int .i64 ((1 + 2 * rn : Nat) : Int)) ∧ At l1 h1 (HL (.slice ra rn rk) (mkHL 1 rn)) w' ∧ Wi l1 h1 Y w' ∧ Below base Y w') := fun Y hs c => exMarkRq Y m h p ra rn rk L l1 h1 base e1 f1 c b1 (by omega)
  have C2 : Hid (∀ Y, X.heap.size ≤ Y.heap.size → At l2 h2 (WL (.slice wa wn wk) W) Y → Calls Tryz.prog 90 #[.slice wa wn wk, .int .i64 ((1 + 2 * rn : Nat) : Int)] Y fun e w' => e = .returned (.int .i64 ((1 + 2 * rn + wn * 4 : Nat) : Int)) ∧ At l2 h2 (WLm (.slice wa wn wk) (mkdWr (1 + 2 * rn) W)) w' ∧ Wi l2 h2 Y w' ∧ Below base Y w') := fun Y hs c => exMarkW c (by omega) f2 b2 (by omega)
  clear a1 a2 d b1 b2 bX f1 f2 e1 hV bV
  generalize ((1 + 2 * rn + wn * 4 : Nat) : Int) = q2 at *
  generalize ((1 + 2 * rn : Nat) : Int) = q1 at *
  go_enter Tryz.func31, Tryz.ntmps31
  go_wp2_with fail
  rw [← HV.out]
  refine (C1.out V BX.out.size G1.out).mono ?_
  rintro e w1 ⟨rfl, r1, g1, hb⟩
  have K1 := hidL (BX.out.mono O.out.2.2.1 |>.trans hb)
  have W1 := hidL (show Wp (fun b => l1 ≤ b ∧ b < h1 ∨ l2 ≤ b ∧ b < h2) X w1 from (Wi.wp (Wi.of (lo := 0) (hi := 0) BX.out) (fun b _ h => by omega)).trans (g1.wp (fun b q1 q2 => .inl ⟨q1, q2⟩)))
  have M1 := hidL r1
  replace G2 := hidL (G2.out.wi g1 (by have := O.out; omega))
  replace F0 := hidL (F0.out.wi g1 (.inr O.out.1))
  have p10 := F0.out.val.1 10 _ rfl
  clear r1 g1 hb C1 G1 BX HV
  go_wp2_with fail
  refine (C2.out w1 K1.out.size G2.out).mono ?_
  rintro e w2 ⟨rfl, r2, g2, hb⟩
  have K2 := hidL (K1.out.trans hb)
  have W2 := hidL (W1.out.trans (g2.wp (fun b q1 q2 => .inr ⟨q1, q2⟩)))
  have M2 := hidL r2
  replace M1 := hidL (M1.out.wi g2 (by have := O.out; omega))
  clear r2 g2 hb C2 G2 K1 W1 F0 p10
  go_wp2_with fail
  go_ret
  exact ⟨rfl, ⟨M1.out, M2.out, W2.out⟩, K2.out⟩
set_option maxRecDepth 100000 in
set_option maxHeartbeats 4000000 in
theorem exHeldFl (X : World) (id : Int) (key : ByteArray) (bk ot : Bool) (du : Int) (dm : Bool) (m h p : ByteArray) (ra : Option Addr) (rn rk : Nat) (wa : Option Addr) (wn wk : Nat) (W : List Wr) (l1 h1 l2 h2 : Nat) (a1 : At l1 h1 (HL (.slice ra rn rk) (mkHL 1 rn)) X) (a2 : At l2 h2 (WLm (.slice wa wn wk) (mkdWr (1 + 2 * rn) W)) X) (f1 : rn ≤ 1048576) (f2 : W.length ≤ 1048576) :
    Calls Tryz.prog 91 #[.agg #[.int .i64 id, .string key, .bool bk, .bool ot, .int .i64 du, .bool dm, .string m, .string h, .string p, .slice ra rn rk, .slice wa wn wk], .int .i64 1] X fun e w' => e = .returned (.int .i64 ((1 + 2 * rn + wn * 4 : Nat) : Int)) ∧ Below X.heap.size X w' := by
  obtain ⟨V, hV⟩ : ∃ V, V = X.alloc (.cells #[.int .i64 id, .string key, .bool bk, .bool ot, .int .i64 du, .bool dm, .string m, .string h, .string p, .slice ra rn rk, .slice wa wn wk] 86) := ⟨_, rfl⟩
  have HV : Hid (V = X.alloc (.cells #[.int .i64 id, .string key, .bool bk, .bool ot, .int .i64 du, .bool dm, .string m, .string h, .string p, .slice ra rn rk, .slice wa wn wk] 86)) := hV
  have bV : Below X.heap.size X V := by rw [hV]; exact (Below.refl _ _).alloc (Nat.le_refl _) _
  have BX := hidL bV
  have F0 : Hid (At X.heap.size (X.heap.size + 1) (Bx X.heap.size [.int .i64 id, .string key, .bool bk, .bool ot, .int .i64 du, .bool dm, .string m, .string h, .string p, .slice ra rn rk, .slice wa wn wk]) V) := by rw [hV]; exact Bx.new _ [.int .i64 id, .string key, .bool bk, .bool ot, .int .i64 du, .bool dm, .string m, .string h, .string p, .slice ra rn rk, .slice wa wn wk] _
  have C1 : Hid (∀ Y, Below X.heap.size X Y → Calls Tryz.prog 174 #[.agg #[.string m, .string h, .string p, .slice ra rn rk], .int .i64 1] Y fun e w' => e = .returned (.int .i64 ((1 + 2 * rn : Nat) : Int)) ∧ Below Y.heap.size Y w') := fun Y hY => exHeldRq Y m h p ra rn rk l1 h1 f1 (a1.keep hY)
  have C2 : Hid (∀ Y, Below X.heap.size X Y → Calls Tryz.prog 175 #[.slice wa wn wk, .int .i64 ((1 + 2 * rn : Nat) : Int)] Y fun e w' => e = .returned (.int .i64 ((1 + 2 * rn + wn * 4 : Nat) : Int)) ∧ Below Y.heap.size Y w') := fun Y hY => exHeldW (a2.keep hY) (by omega) f2
  have n1 : ¬ ((1 + 2 * rn : Nat) : Int) < 0 := by omega
  have n2 : ¬ ((1 + 2 * rn + wn * 4 : Nat) : Int) < 0 := by omega
  clear a1 a2 f1 f2 hV bV
  generalize ((1 + 2 * rn + wn * 4 : Nat) : Int) = q2 at *
  generalize ((1 + 2 * rn : Nat) : Int) = q1 at *
  go_enter Tryz.func91, Tryz.ntmps91
  go_wp2_with fail
  rw [← HV.out]
  refine (C1.out V BX.out).mono ?_
  rintro e w1 ⟨rfl, hb⟩
  have K1 := hidL (BX.out.trans (hb.mono BX.out.size))
  replace F0 := hidL (F0.out.keep hb)
  have p10 := F0.out.val.1 10 _ rfl
  clear hb C1 BX HV
  go_wp2_with fail
  refine (C2.out w1 K1.out).mono ?_
  rintro e w2 ⟨rfl, hb⟩
  have K2 := hidL (K1.out.trans (hb.mono K1.out.size))
  clear hb C2 K1 F0 p10
  go_wp2_with fail
  go_ret
  exact ⟨rfl, K2.out⟩
end Go.Proofs.YtacninhhkbglaaaGreatDoor
/-
  What JoinFlight answers: compared, marked, held.
-/
namespace Go.Proofs.YtacninhhkbglaaaGreatDoor
open Go.ChangeShapes Go.WideShapes Go.ChangeAt Go.RowKit Go.Sort
set_option maxRecDepth 100000 in
set_option maxHeartbeats 8000000 in
theorem jnEq (w : World) (c : Int) (id : Int) (key : ByteArray) (bk ot : Bool) (du : Int) (dm : Bool) (m h p : ByteArray) (xa : Option Addr) (xk : Nat) (ya : Option Addr) (yk : Nat) (xa2 : Option Addr) (xk2 : Nat) (ya2 : Option Addr) (yk2 : Nat) (L : List Hdr) (W : List Wr) (f1 : L.length ≤ 1048576) (f2 : W.length ≤ 1048576) (i1 : HdsIn w xa L) (i2 : WrIn w ya W) (j1 : HdsIn w xa2 L) (j2 : WrIn w ya2 W) :
    Calls Tryz.prog 29 #[.agg #[.int .i64 c, .int .i64 id, .string key, .bool bk, .bool ot, .int .i64 du, .bool dm, .string m, .string h, .string p, .slice xa L.length xk, .slice ya W.length yk], .agg #[.int .i64 c, .int .i64 id, .string key, .bool bk, .bool ot, .int .i64 du, .bool dm, .string m, .string h, .string p, .slice xa2 L.length xk2, .slice ya2 W.length yk2]] w fun e w' => e = .returned (.bool true) ∧ Below w.heap.size w w' := by
  obtain ⟨V, hV⟩ : ∃ V, V = (w.alloc (.cells #[.int .i64 c, .int .i64 id, .string key, .bool bk, .bool ot, .int .i64 du, .bool dm, .string m, .string h, .string p, .slice xa L.length xk, .slice ya W.length yk] 88)).alloc (.cells #[.int .i64 c, .int .i64 id, .string key, .bool bk, .bool ot, .int .i64 du, .bool dm, .string m, .string h, .string p, .slice xa2 L.length xk2, .slice ya2 W.length yk2] 88) := ⟨_, rfl⟩
  have HV : Hid (V = (w.alloc (.cells #[.int .i64 c, .int .i64 id, .string key, .bool bk, .bool ot, .int .i64 du, .bool dm, .string m, .string h, .string p, .slice xa L.length xk, .slice ya W.length yk] 88)).alloc (.cells #[.int .i64 c, .int .i64 id, .string key, .bool bk, .bool ot, .int .i64 du, .bool dm, .string m, .string h, .string p, .slice xa2 L.length xk2, .slice ya2 W.length yk2] 88)) := hV
  have KV := hidL (show Below w.heap.size w V by rw [hV]; exact ((Below.refl _ _).alloc (Nat.le_refl _) _).alloc (by simp) _)
  have F1 := hidL (show At w.heap.size (w.heap.size + 1) (Bx w.heap.size [.int .i64 c, .int .i64 id, .string key, .bool bk, .bool ot, .int .i64 du, .bool dm, .string m, .string h, .string p, .slice xa L.length xk, .slice ya W.length yk]) V by rw [hV]; exact (Bx.new _ [.int .i64 c, .int .i64 id, .string key, .bool bk, .bool ot, .int .i64 du, .bool dm, .string m, .string h, .string p, .slice xa L.length xk, .slice ya W.length yk] _).al _)
  have F2 := hidL (show At (w.heap.size + 1) (w.heap.size + 1 + 1) (Bx (w.heap.size + 1) [.int .i64 c, .int .i64 id, .string key, .bool bk, .bool ot, .int .i64 du, .bool dm, .string m, .string h, .string p, .slice xa2 L.length xk2, .slice ya2 W.length yk2]) V by rw [hV]; exact Bx.newAt (by simp) [.int .i64 c, .int .i64 id, .string key, .bool bk, .bool ot, .int .i64 du, .bool dm, .string m, .string h, .string p, .slice xa2 L.length xk2, .slice ya2 W.length yk2] _)
  have C1 : Hid (∀ X, Below w.heap.size w X → Calls Tryz.prog 30 #[.agg #[.int .i64 id, .string key, .bool bk, .bool ot, .int .i64 du, .bool dm, .string m, .string h, .string p, .slice xa L.length xk, .slice ya W.length yk], .agg #[.int .i64 id, .string key, .bool bk, .bool ot, .int .i64 du, .bool dm, .string m, .string h, .string p, .slice xa2 L.length xk2, .slice ya2 W.length yk2]] X fun e w' => e = .returned (.bool true) ∧ Below X.heap.size X w') := fun X hX => eqFlight_same X id key bk ot du dm m h p xa xa2 xk xk2 ya ya2 yk yk2 L W f1 f2 (i1.keep hX) (j1.keep hX) (i2.keep hX) (j2.keep hX)
  clear hV f1 f2 i1 i2 j1 j2
  generalize L.length = n at *
  generalize W.length = k at *
  go_enter Tryz.func29, Tryz.ntmps29
  go_upto_region 1 with fail
  rw [← HV.out]
  clear HV
  have p0 := F1.out.val.1 0 _ rfl
  have q0 := F2.out.val.1 0 _ rfl
  have L1 := hidL F1.out.val.1
  have L2 := hidL F2.out.val.1
  go_wp2_with (first | ((with_reducible refine flI_loadAt (b := w.heap.size) (off := 1) (vs := [.int .i64 c, .int .i64 id, .string key, .bool bk, .bool ot, .int .i64 du, .bool dm, .string m, .string h, .string p, .slice xa n xk, .slice ya k yk]) (us := [.int .i64 id, .string key, .bool bk, .bool ot, .int .i64 du, .bool dm, .string m, .string h, .string p, .slice xa n xk, .slice ya k yk]) ?_ ?_ ?_ L1.out ?_); exact rfl; exact rfl; exact rfl) | ((with_reducible refine flI_loadAt (b := w.heap.size + 1) (off := 1) (vs := [.int .i64 c, .int .i64 id, .string key, .bool bk, .bool ot, .int .i64 du, .bool dm, .string m, .string h, .string p, .slice xa2 n xk2, .slice ya2 k yk2]) (us := [.int .i64 id, .string key, .bool bk, .bool ot, .int .i64 du, .bool dm, .string m, .string h, .string p, .slice xa2 n xk2, .slice ya2 k yk2]) ?_ ?_ ?_ L2.out ?_); exact rfl; exact rfl; exact rfl))
  refine (C1.out V KV.out).mono ?_
  rintro e w1 ⟨rfl, hb⟩
  have K1 := hidL (KV.out.trans (hb.mono KV.out.size))
  clear hb p0 q0 L1 L2 F1 F2 KV C1
  go_wp2_with fail
  go_ret
  exact ⟨rfl, K1.out⟩
set_option maxRecDepth 100000 in
set_option maxHeartbeats 8000000 in
theorem jnMark (w : World) (c : Int) (id : Int) (key : ByteArray) (bk ot : Bool) (du : Int) (dm : Bool) (m h p : ByteArray) (ra : Option Addr) (rn rk : Nat) (wa : Option Addr) (wn wk : Nat) (L : List Hdr) (W : List Wr) (lo hi base : Nat) (a : At lo hi (FR L W ra rn rk wa wn wk) w) (hb : base ≤ lo) (hbX : base ≤ w.heap.size) (f1 : L.length ≤ 1000000) (f2 : W.length ≤ 1000000) :
    Calls Tryz.prog 32 #[.agg #[.int .i64 c, .int .i64 id, .string key, .bool bk, .bool ot, .int .i64 du, .bool dm, .string m, .string h, .string p, .slice ra rn rk, .slice wa wn wk], .int .i64 1] w fun e w' => e = .returned (.int .i64 ((1 + 2 * rn + wn * 4 : Nat) : Int)) ∧ At lo hi (FRm L W ra rn rk wa wn wk) w' ∧ Wi lo hi w w' ∧ Below base w w' := by
  obtain ⟨⟨e1, e2⟩, l1, h1, l2, h2, b1, b2, d12, a1, a2⟩ := a.val
  have HH := hidL a.le
  obtain ⟨V, hV⟩ : ∃ V, V = w.alloc (.cells #[.int .i64 c, .int .i64 id, .string key, .bool bk, .bool ot, .int .i64 du, .bool dm, .string m, .string h, .string p, .slice ra rn rk, .slice wa wn wk] 88) := ⟨_, rfl⟩
  have HV : Hid (V = w.alloc (.cells #[.int .i64 c, .int .i64 id, .string key, .bool bk, .bool ot, .int .i64 du, .bool dm, .string m, .string h, .string p, .slice ra rn rk, .slice wa wn wk] 88)) := hV
  have bV : Below w.heap.size w V := by rw [hV]; exact (Below.refl _ _).alloc (Nat.le_refl _) _
  have BV := hidL bV
  have F1 := hidL (show At w.heap.size (w.heap.size + 1) (Bx w.heap.size [.int .i64 c, .int .i64 id, .string key, .bool bk, .bool ot, .int .i64 du, .bool dm, .string m, .string h, .string p, .slice ra rn rk, .slice wa wn wk]) V by rw [hV]; exact Bx.new _ [.int .i64 c, .int .i64 id, .string key, .bool bk, .bool ot, .int .i64 du, .bool dm, .string m, .string h, .string p, .slice ra rn rk, .slice wa wn wk] _)
  have O := hidL (show (lo ≤ l1 ∧ l1 ≤ h1 ∧ h1 ≤ hi) ∧ (lo ≤ l2 ∧ l2 ≤ h2 ∧ h2 ≤ hi) ∧ base ≤ lo ∧ base ≤ w.heap.size ∧ hi ≤ w.heap.size from ⟨b1, b2, hb, hbX, a.le⟩)
  have EE := hidL (show rn = L.length ∧ wn = W.length from ⟨e1, e2⟩)
  have C1 := hidL (exMarkFl V id key bk ot du dm m h p ra rn rk wa wn wk L W l1 h1 l2 h2 base e1 (a1.keep bV) (a2.keep bV) d12 (by omega) (by omega) (Nat.le_trans hbX bV.size) (by omega) (by omega))
  clear a a1 a2 b1 b2 d12 hb hbX f1 f2 hV bV e1 e2
  obtain ⟨q1, hq1⟩ : ∃ q, ((1 + 2 * rn + wn * 4 : Nat) : Int) = q := ⟨_, rfl⟩
  rw [hq1] at C1
  rw [hq1]
  clear hq1
  go_enter Tryz.func32, Tryz.ntmps32
  go_upto_region 1 with fail
  rw [← HV.out]
  clear HV
  have L1 := hidL F1.out.val.1
  go_wp2_with (first | ((with_reducible refine flI_loadAt (b := w.heap.size) (off := 1) (vs := [.int .i64 c, .int .i64 id, .string key, .bool bk, .bool ot, .int .i64 du, .bool dm, .string m, .string h, .string p, .slice ra rn rk, .slice wa wn wk]) (us := [.int .i64 id, .string key, .bool bk, .bool ot, .int .i64 du, .bool dm, .string m, .string h, .string p, .slice ra rn rk, .slice wa wn wk]) ?_ ?_ ?_ L1.out ?_); exact rfl; exact rfl; exact rfl))
  refine C1.out.mono ?_
  rintro e w1 ⟨rfl, ⟨r1, r2, g⟩, hb⟩
  have K1 := hidL ((BV.out.mono O.out.2.2.2.1).trans hb)
  have M1 := hidL r1
  have M2 := hidL r2
  have W1 := hidL (show Wi lo hi w w1 from (Wi.of BV.out).trans (g.wi (fun b hb => by have := O.out; omega)))
  clear r1 r2 g hb C1 F1 L1 BV
  go_wp2_with fail
  go_ret
  exact ⟨rfl, ⟨Nat.le_trans HH.out W1.out.size, FRm.dep _ _ _ _ _ _ _ _ _ _, EE.out, l1, h1, l2, h2, O.out.1, O.out.2.1, M1.out, M2.out⟩, W1.out, K1.out⟩
set_option maxRecDepth 100000 in
set_option maxHeartbeats 8000000 in
theorem jnHeld (w : World) (c : Int) (id : Int) (key : ByteArray) (bk ot : Bool) (du : Int) (dm : Bool) (m h p : ByteArray) (ra : Option Addr) (rn rk : Nat) (wa : Option Addr) (wn wk : Nat) (L : List Hdr) (W : List Wr) (lo hi : Nat) (a : At lo hi (FRm L W ra rn rk wa wn wk) w) (f1 : L.length ≤ 1000000) (f2 : W.length ≤ 1000000) :
    Calls Tryz.prog 33 #[.agg #[.int .i64 c, .int .i64 id, .string key, .bool bk, .bool ot, .int .i64 du, .bool dm, .string m, .string h, .string p, .slice ra rn rk, .slice wa wn wk], .int .i64 1] w fun e w' => e = .returned (.int .i64 ((1 + 2 * rn + wn * 4 : Nat) : Int)) ∧ Below w.heap.size w w' := by
  obtain ⟨⟨e1, e2⟩, l1, h1, l2, h2, b1, b2, a1, a2⟩ := a.val
  obtain ⟨V, hV⟩ : ∃ V, V = w.alloc (.cells #[.int .i64 c, .int .i64 id, .string key, .bool bk, .bool ot, .int .i64 du, .bool dm, .string m, .string h, .string p, .slice ra rn rk, .slice wa wn wk] 88) := ⟨_, rfl⟩
  have HV : Hid (V = w.alloc (.cells #[.int .i64 c, .int .i64 id, .string key, .bool bk, .bool ot, .int .i64 du, .bool dm, .string m, .string h, .string p, .slice ra rn rk, .slice wa wn wk] 88)) := hV
  have bV : Below w.heap.size w V := by rw [hV]; exact (Below.refl _ _).alloc (Nat.le_refl _) _
  have BV := hidL bV
  have F1 := hidL (show At w.heap.size (w.heap.size + 1) (Bx w.heap.size [.int .i64 c, .int .i64 id, .string key, .bool bk, .bool ot, .int .i64 du, .bool dm, .string m, .string h, .string p, .slice ra rn rk, .slice wa wn wk]) V by rw [hV]; exact Bx.new _ [.int .i64 c, .int .i64 id, .string key, .bool bk, .bool ot, .int .i64 du, .bool dm, .string m, .string h, .string p, .slice ra rn rk, .slice wa wn wk] _)
  have C1 : Hid (Calls Tryz.prog 91 #[.agg #[.int .i64 id, .string key, .bool bk, .bool ot, .int .i64 du, .bool dm, .string m, .string h, .string p, .slice ra rn rk, .slice wa wn wk], .int .i64 1] V fun e w' => e = .returned (.int .i64 ((1 + 2 * rn + wn * 4 : Nat) : Int)) ∧ Below V.heap.size V w') := exHeldFl V id key bk ot du dm m h p ra rn rk wa wn wk W l1 h1 l2 h2 (a1.keep bV) (a2.keep bV) (by omega) (by omega)
  have n1 : ¬ ((1 + 2 * rn + wn * 4 : Nat) : Int) < 0 := by omega
  clear a a1 a2 b1 b2 f1 f2 hV bV e1 e2
  generalize ((1 + 2 * rn + wn * 4 : Nat) : Int) = q1 at *
  go_enter Tryz.func33, Tryz.ntmps33
  go_upto_region 1 with fail
  rw [← HV.out]
  clear HV
  have L1 := hidL F1.out.val.1
  go_wp2_with (first | ((with_reducible refine flI_loadAt (b := w.heap.size) (off := 1) (vs := [.int .i64 c, .int .i64 id, .string key, .bool bk, .bool ot, .int .i64 du, .bool dm, .string m, .string h, .string p, .slice ra rn rk, .slice wa wn wk]) (us := [.int .i64 id, .string key, .bool bk, .bool ot, .int .i64 du, .bool dm, .string m, .string h, .string p, .slice ra rn rk, .slice wa wn wk]) ?_ ?_ ?_ L1.out ?_); exact rfl; exact rfl; exact rfl))
  refine C1.out.mono ?_
  rintro e w1 ⟨rfl, hb⟩
  have K1 := hidL (BV.out.trans (hb.mono BV.out.size))
  clear hb C1 F1 L1 BV
  go_wp2_with fail
  go_ret
  exact ⟨rfl, K1.out⟩
end Go.Proofs.YtacninhhkbglaaaGreatDoor
/-
  A flight as an argument of laws.
-/
namespace Go.Proofs.YtacninhhkbglaaaGreatDoor
open Go.ChangeShapes Go.WideShapes Go.ChangeAt Go.RowKit Go.Sort
/-- A flight that was copied. -/
def CFl (x : Fl) (K D lo hi : Nat) (X : World) : Prop := At K (K + 1) (HL (.slice (some ⟨K, 0, none⟩) x.hs.length x.hs.length) x.hs) X ∧ At D (D + 1) (WL (.slice (some ⟨D, 0, none⟩) x.ws.length x.ws.length) x.ws) X ∧ lo ≤ K ∧ K < D ∧ D < hi
theorem CFl.dep (x : Fl) (K D lo hi : Nat) : Dep lo hi (CFl x K D lo hi) := fun X X' _ h2 hc k => ⟨k.1.mv k.2.2.1 (by have := k.2.2.2; omega) h2 hc, k.2.1.mv (by have := k.2.2; omega) (by have := k.2.2.2; omega) h2 hc, k.2.2⟩
theorem CFl.in {x : Fl} {K D lo hi : Nat} {X : World} (k : CFl x K D lo hi X) : FlIn X x ⟨some ⟨K, 0, none⟩, x.hs.length, some ⟨D, 0, none⟩, x.ws.length⟩ := ⟨(k.1.val.in rfl).2, k.2.1.val.in.2, Nat.le_refl _, Nat.le_refl _⟩
theorem flA_T (w : World) (x : Fl) (r : FlR) (f : FlFit x) (hi : FlIn w x r) (X : World) (hX : Below w.heap.size w X) :
    Calls Tryz.prog 26 #[.agg #[.int .i64 x.id, .string x.key, .bool x.bk, .bool x.ot, .int .i64 x.du, .bool x.dm, .string x.m, .string x.h, .string x.p, .slice r.ha x.hs.length r.hc, .slice r.wa x.ws.length r.wc]] X fun e w' => (∃ (K : Nat) (D : Nat), e = .returned (.agg #[.int .i64 x.id, .string x.key, .bool x.bk, .bool x.ot, .int .i64 x.du, .bool x.dm, .string x.m, .string x.h, .string x.p, .slice (some ⟨K, 0, none⟩) x.hs.length x.hs.length, .slice (some ⟨D, 0, none⟩) x.ws.length x.ws.length]) ∧ At X.heap.size w'.heap.size (CFl x K D) w') ∧ Below X.heap.size X w' :=
  (toFlight_any X x.id x.key x.bk x.ot x.du x.dm x.m x.h x.p r.ha r.hc r.wa r.wc x.hs x.ws f.h f.w (hi.h.keep hX) (hi.k.keep hX)).mono fun _ _ ⟨⟨B2, h1, h2, h3, h4⟩, h5⟩ =>
    ⟨⟨_, B2, h1, Nat.le_refl _, CFl.dep _ _ _ _ _, ⟨h2.lt, HL.dep _ _ _ _, .inr ⟨_, _, rfl, h2.lt, h2.at0, h2.free⟩, fun b e => by simp only [Value.ownBlock, Option.some.injEq] at e; omega⟩, ⟨h3.lt, WL.dep _ _ _ _, .inr ⟨B2, 0, _, rfl, Nat.le_refl _, Nat.lt_succ_self _, h3.at0, fun o ho => (h3.room o (by omega)).2⟩⟩, by omega, h4, h3.lt⟩, h5⟩
theorem flA_Q (x : Fl) (f : FlFit x) (X : World) (la ha lb hb Kx Dx Ky Dy : Nat) (c : At la ha (CFl x Kx Dx) X) (d : At lb hb (CFl x Ky Dy) X) :
    Calls Tryz.prog 30 #[.agg #[.int .i64 x.id, .string x.key, .bool x.bk, .bool x.ot, .int .i64 x.du, .bool x.dm, .string x.m, .string x.h, .string x.p, .slice (some ⟨Kx, 0, none⟩) x.hs.length x.hs.length, .slice (some ⟨Dx, 0, none⟩) x.ws.length x.ws.length], .agg #[.int .i64 x.id, .string x.key, .bool x.bk, .bool x.ot, .int .i64 x.du, .bool x.dm, .string x.m, .string x.h, .string x.p, .slice (some ⟨Ky, 0, none⟩) x.hs.length x.hs.length, .slice (some ⟨Dy, 0, none⟩) x.ws.length x.ws.length]] X fun e w' => e = .returned (.bool true) ∧ Below X.heap.size X w' :=
  eqFlight_same X x.id x.key x.bk x.ot x.du x.dm x.m x.h x.p _ _ _ _ _ _ _ _ x.hs x.ws f.h f.w c.val.in.h d.val.in.h c.val.in.k d.val.in.k
theorem flA_M (x : Fl) (f : FlFit x) (base : Nat) (X : World) (lo hi K D : Nat) (c : At lo hi (CFl x K D) X) (hb : base ≤ lo) :
    Calls Tryz.prog 31 #[.agg #[.int .i64 x.id, .string x.key, .bool x.bk, .bool x.ot, .int .i64 x.du, .bool x.dm, .string x.m, .string x.h, .string x.p, .slice (some ⟨K, 0, none⟩) x.hs.length x.hs.length, .slice (some ⟨D, 0, none⟩) x.ws.length x.ws.length], .int .i64 1] X fun e w' => e = .returned (.int .i64 ((1 + 2 * x.hs.length + x.ws.length * 4 : Nat) : Int)) ∧ Wi lo hi X w' ∧ Below base X w' := by
  have h := c.val.2.2
  have h2 := c.le
  exact (exMarkFl X x.id x.key x.bk x.ot x.du x.dm x.m x.h x.p _ _ _ _ _ _ x.hs x.ws K (K + 1) D (D + 1) base rfl c.val.1 c.val.2.1 (.inl (by omega)) (by omega) (by omega) (by omega) f.h f.w).mono fun _ _ ⟨h1, ⟨_, _, g⟩, h3⟩ => ⟨h1, g.wi (fun b hb => by omega), h3⟩
end Go.Proofs.YtacninhhkbglaaaGreatDoor
/-
  Word bytes: the table, plainly. No Go in sight.
-/
namespace Go.Proofs.YtacninhhkbglaaaGreatDoor
def wordTab : List Bool := [false, false, false, false, false, false, false, false, false, false, false, false, false, false, false, false, false, false, false, false, false, false, false, false, false, false, false, false, false, false, false, false, false, true, false, true, true, true, true, true, false, false, true, true, false, true, true, false, true, true, true, true, true, true, true, true, true, true, false, false, false, false, false, false, false, true, true, true, true, true, true, true, true, true, true, true, true, true, true, true, true, true, true, true, true, true, true, true, true, true, true, false, false, false, true, true, false, true, true, true, true, true, true, true, true, true, true, true, true, true, true, true, true, true, true, true, true, true, true, true, true, true, true, false, true, false, true, false]
def wordI (c : Int) : Bool := wordTab.getD c.toNat false
theorem wordTab_len : wordTab.length = 128 := by decide +kernel
/-- One of the signs that are no letter and no digit. -/
def signI (c : Nat) : Bool := [33, 35, 36, 37, 38, 39, 42, 43, 45, 46, 94, 95, 124, 126].contains c
theorem table_all : ∀ c : Fin 256, wordTab.getD c.val false = (signI c.val || (decide (97 ≤ c.val) && decide (c.val ≤ 122)) || (decide (65 ≤ c.val) && decide (c.val ≤ 90)) || (decide (48 ≤ c.val) && decide (c.val ≤ 57))) := by decide +kernel
theorem wordI_eq (c : Int) (h0 : 0 ≤ c) (h1 : c < 256) : wordI c = (signI c.toNat || (decide (97 ≤ c) && decide (c ≤ 122)) || (decide (65 ≤ c) && decide (c ≤ 90)) || (decide (48 ≤ c) && decide (c ≤ 57))) := by
  obtain ⟨n, rfl⟩ := Int.eq_ofNat_of_zero_le h0
  have h2 : n < 256 := by omega
  have := table_all ⟨n, h2⟩
  simp only at this
  rw [wordI, Int.toNat_natCast, this]
  have e : ∀ a : Nat, decide (a ≤ n) = decide ((a : Int) ≤ (n : Int)) := fun a => by simp
  have e' : ∀ a : Nat, decide (n ≤ a) = decide ((n : Int) ≤ (a : Int)) := fun a => by simp
  simp only [e, e']
  rfl
theorem wordI_big (c : Int) (h : 128 ≤ c) : wordI c = false := by
  have hl := wordTab_len
  unfold wordI
  rw [List.getD_eq_getElem?_getD, List.getElem?_eq_none (by omega)]
  rfl
def allW (l : List UInt8) : Bool := l.all fun c => wordI (c.toNat : Int)
theorem allW_snoc (l : List UInt8) (c : UInt8) : allW (l ++ [c]) = (allW l && wordI (c.toNat : Int)) := by simp [allW]
theorem allW_of_take (l : List UInt8) (k : Nat) (h : allW (l.take k) = false) : allW l = false := by
  have e := List.take_append_drop k l
  rw [← e]
  simp only [allW] at h ⊢
  rw [List.all_append, h, Bool.false_and]
theorem allW_not (s : ByteArray) (k : Nat) (h : k < s.size) (hd : wordI (s[k].toNat : Int) = false) : allW s.data.toList = false := by
  refine allW_of_take _ (k + 1) ?_
  rw [take_snoc s k h, allW_snoc, hd, Bool.and_false]
def wordS (s : ByteArray) : Bool := decide (1 ≤ s.size) && decide (s.size ≤ 64) && allW s.data.toList
theorem wordS_short (s : ByteArray) (h : s.size < 1) : wordS s = false := by simp [wordS]; omega
theorem wordS_long (s : ByteArray) (h : 64 < s.size) : wordS s = false := by simp [wordS]; omega
theorem wordS_mid (s : ByteArray) (h1 : 1 ≤ s.size) (h2 : s.size ≤ 64) : wordS s = allW s.data.toList := by simp [wordS, h1, h2]
end Go.Proofs.YtacninhhkbglaaaGreatDoor
/-
  Quotes, plainly. No Go in sight.
-/
namespace Go.Proofs.YtacninhhkbglaaaGreatDoor
def plainI (c : Int) : Bool := c == 9 || (decide (32 ≤ c) && decide (c ≤ 126))
def plainL (l : List UInt8) : Bool := l.all fun c => plainI (c.toNat : Int)
theorem plainL_snoc (l : List UInt8) (c : UInt8) : plainL (l ++ [c]) = (plainL l && plainI (c.toNat : Int)) := by simp [plainL]
theorem plainL_of_take (l : List UInt8) (k : Nat) (h : plainL (l.take k) = false) : plainL l = false := by
  have e := List.take_append_drop k l
  rw [← e]
  simp only [plainL] at h ⊢
  rw [List.all_append, h, Bool.false_and]
theorem plainL_not (s : ByteArray) (k : Nat) (h : k < s.size) (hd : plainI (s[k].toNat : Int) = false) : plainL s.data.toList = false := by
  refine plainL_of_take _ (k + 1) ?_
  rw [take_snoc s k h, plainL_snoc, hd, Bool.and_false]
/-- One byte between quotes. -/
def quoteC (c : UInt8) : List UInt8 := if (c.toNat : Int) = 34 ∨ (c.toNat : Int) = 92 then [92, c] else [c]
def quoteB (l : List UInt8) : List UInt8 := l.flatMap quoteC
def quoteL (l : List UInt8) : List UInt8 := [34] ++ quoteB l ++ [34]
theorem quoteB_snoc (l : List UInt8) (c : UInt8) : quoteB (l ++ [c]) = quoteB l ++ quoteC c := by simp [quoteB]
theorem quoteC_yes {c : UInt8} (h : (c.toNat : Int) = 34 ∨ (c.toNat : Int) = 92) : quoteC c = [92, c] := by simp only [quoteC, if_pos h]
theorem quoteC_no {c : UInt8} (h : ¬ ((c.toNat : Int) = 34 ∨ (c.toNat : Int) = 92)) : quoteC c = [c] := by simp only [quoteC, if_neg h]
theorem quoteC_len (c : UInt8) : (quoteC c).length ≤ 2 := by unfold quoteC; split <;> simp
theorem quoteB_len (l : List UInt8) : (quoteB l).length ≤ 2 * l.length := by
  induction l with
  | nil => simp [quoteB]
  | cons c r ih =>
    have := quoteC_len c
    simp only [quoteB, List.flatMap_cons, List.length_append, List.length_cons] at ih ⊢
    omega
theorem quoteB_ge (l : List UInt8) : l.length ≤ (quoteB l).length := by
  induction l with
  | nil => simp
  | cons c r ih =>
    have : 1 ≤ (quoteC c).length := by unfold quoteC; split <;> simp
    simp only [quoteB, List.flatMap_cons, List.length_append, List.length_cons] at ih ⊢
    omega
/-- What stands between quotes, read from behind the first one; acc: what was taken. -/
def unq (acc : List UInt8) : List UInt8 → List UInt8 × Bool
  | [] => ([], false)
  | [c] => if (c.toNat : Int) = 34 then (acc, true) else ([], false)
  | c :: d :: r => if (c.toNat : Int) = 34 then (acc, false) else if (c.toNat : Int) = 92 then unq (acc ++ [d]) r else unq (acc ++ [c]) (d :: r)
/-- A text between quotes: what it tells, and whether it does. -/
def unqT (l : List UInt8) : List UInt8 × Bool := if 2 ≤ l.length ∧ l.head? = some 34 ∧ plainL l = true then unq [] l.tail else ([], false)
theorem unq_end (acc r : List UInt8) (c : UInt8) (h : (c.toNat : Int) = 34) : unq acc (c :: r) = (acc, decide (r = [])) := by
  cases r with
  | nil => rw [unq, if_pos h]; rfl
  | cons d r => rw [unq, if_pos h]; simp
theorem unq_cut (acc : List UInt8) (c : UInt8) (h : (c.toNat : Int) = 92) : unq acc [c] = ([], false) := by
  rw [unq, if_neg (by omega)]
theorem unq_esc (acc r : List UInt8) (c d : UInt8) (h : (c.toNat : Int) = 92) : unq acc (c :: d :: r) = unq (acc ++ [d]) r := by
  rw [unq, if_neg (by omega), if_pos h]
theorem unq_take (acc r : List UInt8) (c : UInt8) (h1 : ¬ (c.toNat : Int) = 34) (h2 : ¬ (c.toNat : Int) = 92) : unq acc (c :: r) = unq (acc ++ [c]) r := by
  cases r with
  | nil => simp only [unq, if_neg h1]
  | cons d r => rw [unq, if_neg h1, if_neg h2]
/-- What was quoted is read as it was. -/
theorem unq_quote (l : List UInt8) : ∀ acc, unq acc (quoteB l ++ [34]) = (acc ++ l, true) := by
  induction l with
  | nil => intro acc; rw [show quoteB [] ++ [34] = [34] from rfl, unq_end _ _ _ (by decide)]; simp
  | cons c r ih =>
    intro acc
    have e : quoteB (c :: r) ++ [34] = quoteC c ++ (quoteB r ++ [34]) := by simp [quoteB]
    rw [e]
    by_cases h : (c.toNat : Int) = 34 ∨ (c.toNat : Int) = 92
    · rw [quoteC_yes h]
      show unq acc (92 :: c :: (quoteB r ++ [34])) = _
      rw [unq_esc _ _ _ _ (by decide), ih]; simp
    · rw [quoteC_no h]
      show unq acc (c :: (quoteB r ++ [34])) = _
      rw [unq_take _ _ _ (by omega) (by omega), ih]; simp
theorem plain_quoteB (l : List UInt8) (h : plainL l = true) : plainL (quoteB l) = true := by
  induction l with
  | nil => rfl
  | cons c r ih =>
    simp only [plainL, List.all_cons, Bool.and_eq_true] at h
    have e : quoteB (c :: r) = quoteC c ++ quoteB r := by simp [quoteB]
    rw [e]
    simp only [plainL, List.all_append, Bool.and_eq_true]
    refine ⟨?_, ih h.2⟩
    unfold quoteC
    split
    · simp [h.1]; decide
    · simp [h.1]
theorem unqT_quote (l : List UInt8) (h : plainL l = true) : unqT (quoteL l) = (l, true) := by
  have hp : plainL (quoteL l) = true := by
    simp only [quoteL, plainL, List.all_append, Bool.and_eq_true]
    exact ⟨⟨by decide, plain_quoteB l h⟩, by decide⟩
  unfold unqT
  rw [if_pos ⟨by simp [quoteL], rfl, hp⟩]
  show unq [] (quoteB l ++ [34]) = _
  rw [unq_quote]; simp
end Go.Proofs.YtacninhhkbglaaaGreatDoor
/-
  Blanks at both ends: plainly. No Go in sight.
-/
namespace Go.Proofs.YtacninhhkbglaaaGreatDoor
def blankI (c : Int) : Bool := c == 32 || c == 9
def trimT (s : ByteArray) : ByteArray := ⟨(Lib.trimS s.data.toList [32, 9]).toArray⟩
theorem contains_blank (b : UInt8) : [(32 : UInt8), 9].contains b = blankI (b.toNat : Int) := by
  rw [Bool.eq_iff_iff]
  simp [blankI, List.contains_eq_mem]
  constructor
  · rintro (rfl | rfl) <;> simp
  · rintro (h | h)
    · exact .inl (UInt8.toNat_inj.1 (by simpa using (by omega : b.toNat = 32)))
    · exact .inr (UInt8.toNat_inj.1 (by simpa using (by omega : b.toNat = 9)))
theorem trim_between (l : List UInt8) (k m : Nat) (hkm : k ≤ m) (hm : m ≤ l.length)
    (h1 : ∀ (j : Nat) b, j < k → l[j]? = some b → blankI (b.toNat : Int) = true) (h2 : ∀ b, k < l.length → l[k]? = some b → blankI (b.toNat : Int) = false)
    (h3 : ∀ (j : Nat) b, m ≤ j → l[j]? = some b → blankI (b.toNat : Int) = true) (h4 : ∀ b, k < m → l[m - 1]? = some b → blankI (b.toNat : Int) = false) :
    Lib.trimS l [32, 9] = (l.take m).drop k := by
  by_cases e : k < m
  · have er : Lib.trimRightS l [32, 9] = l.take m := by
      refine Lib.trimRightS_take l _ m hm (fun j b hj hb => ?_) (fun b _ hb => ?_)
      · rw [contains_blank]; exact h3 j b hj hb
      · rw [contains_blank]; exact h4 b e hb
    unfold Lib.trimS
    rw [er]
    refine Lib.trimLeftS_drop _ _ k (by simp; omega) (fun j b hj hb => ?_) (fun b hb => ?_)
    · rw [List.getElem?_take_of_lt (by omega)] at hb
      rw [contains_blank]; exact h1 j b hj hb
    · rw [List.getElem?_take_of_lt (by omega)] at hb
      rw [contains_blank]; exact h2 b (by omega) hb
  · obtain rfl : k = m := by omega
    have ek : k = l.length := by
      by_cases c : k < l.length
      · have a := h2 _ c (List.getElem?_eq_getElem c)
        have b := h3 k _ (Nat.le_refl _) (List.getElem?_eq_getElem c)
        rw [a] at b; cases b
      · omega
    have er : Lib.trimRightS l [32, 9] = l.take 0 := by
      refine Lib.trimRightS_take l _ 0 (Nat.zero_le _) (fun j b _ hb => ?_) (fun b h0 _ => absurd h0 (by omega))
      have hj : j < l.length := (List.getElem?_eq_some_iff.1 hb).1
      rw [contains_blank]; exact h1 j b (by omega) hb
    unfold Lib.trimS
    rw [er]
    simp [Lib.trimLeftS, ek]
theorem trim_extract (s : ByteArray) (k m : Nat) (h : Lib.trimS s.data.toList [32, 9] = (s.data.toList.take m).drop k) : s.extract k m = trimT s := by
  apply ByteArray.ext
  unfold trimT
  rw [h]
  apply Array.ext'
  simp [List.drop_take]
end Go.Proofs.YtacninhhkbglaaaGreatDoor
/-
  What the model's l1Lower answers.
-/
namespace Go.Proofs.YtacninhhkbglaaaGreatDoor
open Go.ChangeShapes Go.WideShapes Go.ChangeAt Go.RowKit
def lowS (s : ByteArray) : ByteArray := ⟨(s.data.toList.map lowU).toArray⟩
set_option maxHeartbeats 1000000 in
theorem l1Lower_any (s : ByteArray) (w : World) (hs : s.size ≤ 1048576) :
    Calls Tryz.prog 103 #[.string s] w fun e w' => e = .returned (.string (lowS s)) ∧ Below w.heap.size w w' := by
  obtain ⟨C, cap, hcv, hrow⟩ : ∃ C cap, (convert 9 178 (.string s)).run Tryz.prog w = .ok (.slice (some ⟨w.heap.size, 0, none⟩) s.size cap) (w.drew.alloc (.cells C 5 (C.size, C.size + 1))) ∧ BRow (w.alloc (.cells C 5 (C.size, C.size + 1))) w.heap.size s.data.toList :=
    ⟨_, _, run_bytes_of_string w 9 178 5 s Tryz.underlying9 Tryz.underlying178 Tryz.underlying5, BRow.made w s _ _ rfl⟩
  go_enter Tryz.func103, Tryz.ntmps103
  go_wp2
  go_loopw [4] (fun i wr => ∃ k : Nat, k ≤ s.size ∧ i = .int .i64 k ∧ BRow wr w.heap.size (lowK s.data.toList k) ∧ Below w.heap.size w wr) (fun i _ => s.size - (intOf i).toNat)
  case atStart => exact ⟨0, Nat.zero_le _, rfl, by rw [lowK_zero]; exact ⟨hrow.cell, hrow.free⟩, ((Below.refl _ _).alloc (Nat.le_refl _) _).drew⟩
  case round =>
    obtain ⟨k, hk, rfl, hr, hb⟩ := hrel
    clear hcv hrow
    have hlen := lowK_length s.data.toList k
    by_cases hlt : k < s.size
    · have hl : k < s.data.toList.length := by simpa using hlt
      have hl2 : k < (lowK s.data.toList k).length := by omega
      have hc := hr.cell k hl2
      have hf := hr.free k hl2
      rw [lowK_at _ _ hl hl2] at hc
      have Y : Hid (65 ≤ (s.data.toList[k].toNat : Int) ∧ (s.data.toList[k].toNat : Int) ≤ 90 → BRow (wr.setCell ⟨w.heap.size, k, none⟩ (.int .u8 ((s.data.toList[k].toNat : Int) + 32))) w.heap.size (lowK s.data.toList (k + 1))) := by
        intro ⟨u1, u2⟩
        have := hr.set k (lowU s.data.toList[k])
        rw [lowU_yes _ u1 u2] at this
        rw [lowK_succ _ _ hl]
        exact this
      have N : Hid (¬ (65 ≤ (s.data.toList[k].toNat : Int) ∧ (s.data.toList[k].toNat : Int) ≤ 90) → BRow wr w.heap.size (lowK s.data.toList (k + 1))) := by
        intro u
        rw [lowK_keep _ _ hl u]
        exact hr
      generalize s.data.toList[k] = x at *
      clear hr hlen hl2 hl
      by_cases hU : 65 ≤ (x.toNat : Int) ∧ (x.toNat : Int) ≤ 90
      · have R : Hid (BRow (wr.setCell ⟨w.heap.size, k, none⟩ (.int .u8 ((x.toNat : Int) + 32))) w.heap.size (lowK s.data.toList (k + 1))) := Y.out hU
        obtain ⟨u1, u2⟩ := hU
        have d2 : decide ((x.toNat : Int) ≤ 90) = true := by simpa using u2
        clear Y N
        go_wp2
        go_roundw
        case rel => exact ⟨k + 1, by omega, by go_num, R.out, hb.setCell (Nat.le_refl _) _⟩
        case measure => simp [intOf]; omega
      · have R : Hid (BRow wr w.heap.size (lowK s.data.toList (k + 1))) := N.out hU
        clear Y N
        by_cases u1 : 65 ≤ (x.toNat : Int)
        · have u2 : 90 < (x.toNat : Int) := by omega
          have d2 : decide ((x.toNat : Int) ≤ 90) = false := by simp; omega
          clear hU
          go_wp2
          go_roundw
          case rel => exact ⟨k + 1, by omega, by go_num, R.out, hb⟩
          case measure => simp [intOf]; omega
        · clear hU
          go_wp2
          go_roundw
          case rel => exact ⟨k + 1, by omega, by go_num, R.out, hb⟩
          case measure => simp [intOf]; omega
    · have e : lowK s.data.toList k = s.data.toList.map lowU := lowK_all _ _ (by simp; omega)
      rw [e] at hr
      have hback := hr.back (P := Tryz.prog) 178 9 5 s.size cap (by simp) Tryz.underlying178 Tryz.underlying5 Tryz.underlying9
      have HL : Hid ((⟨(s.data.toList.map lowU).toArray⟩ : ByteArray) = lowS s) := rfl
      generalize (⟨(s.data.toList.map lowU).toArray⟩ : ByteArray) = r at *
      clear hr e hlen
      go_wp2
      go_ret
      exact ⟨ret_str HL.out, hb⟩
end Go.Proofs.YtacninhhkbglaaaGreatDoor
/-
  Head lines, plainly: their faults, their text, how they are found, set and dropped. No Go in sight.
-/
namespace Go.Proofs.YtacninhhkbglaaaGreatDoor
def faultH (r : Hdr) : Int := if wordS r.name = false then 5 else if 200 < r.value.size then 2 else if plainL r.value.data.toList = false then 5 else if trimT r.value = r.value then 0 else 5
def faultHL : List Hdr → Int
  | [] => 0
  | r :: l => if faultH r = 0 then faultHL l else faultH r
theorem faultHL_ok {r : Hdr} {l : List Hdr} (h : faultH r = 0) : faultHL (r :: l) = faultHL l := by rw [faultHL, if_pos h]
theorem faultHL_bad {r : Hdr} {l : List Hdr} (h : faultH r ≠ 0) : faultHL (r :: l) = faultH r := by rw [faultHL, if_neg h]
def headsC (l : List Hdr) : Int := if 20 < l.length then 2 else faultHL l
theorem headsC_many {l : List Hdr} (h : 20 < l.length) : headsC l = 2 := by unfold headsC; rw [if_pos h]
theorem headsC_few {l : List Hdr} (h : ¬ 20 < l.length) : headsC l = faultHL l := by unfold headsC; rw [if_neg h]
theorem faultH_zero {r : Hdr} (h : faultH r = 0) : wordS r.name = true ∧ r.value.size ≤ 200 ∧ plainL r.value.data.toList = true ∧ trimT r.value = r.value := by
  unfold faultH at h
  by_cases c1 : wordS r.name = false
  · rw [if_pos c1] at h; omega
  rw [if_neg c1] at h
  by_cases c2 : 200 < r.value.size
  · rw [if_pos c2] at h; omega
  rw [if_neg c2] at h
  by_cases c3 : plainL r.value.data.toList = false
  · rw [if_pos c3] at h; omega
  rw [if_neg c3] at h
  by_cases c4 : trimT r.value = r.value
  · exact ⟨by simpa using c1, by omega, by simpa using c3, c4⟩
  · rw [if_neg c4] at h; omega
theorem faultHL_zero (l : List Hdr) (h : faultHL l = 0) : ∀ (i : Nat) r, l[i]? = some r → faultH r = 0 := by
  induction l with
  | nil => intro i r hr; simp at hr
  | cons x l ih =>
    intro i r hr
    by_cases c : faultH x = 0
    · rw [faultHL_ok c] at h
      cases i with
      | zero => simp at hr; subst hr; exact c
      | succ i => exact ih h i r (by simpa using hr)
    · rw [faultHL_bad c] at h; exact absurd h c
theorem faultHL_of (l : List Hdr) (h : ∀ r ∈ l, faultH r = 0) : faultHL l = 0 := by
  induction l with
  | nil => rfl
  | cons x l ih => rw [faultHL_ok (h x (by simp))]; exact ih fun r hr => h r (by simp [hr])
theorem headsC_zero {l : List Hdr} (h : headsC l = 0) : l.length ≤ 20 ∧ ∀ (i : Nat) r, l[i]? = some r → faultH r = 0 := by
  by_cases c : 20 < l.length
  · rw [headsC_many c] at h; omega
  · rw [headsC_few c] at h; exact ⟨by omega, faultHL_zero l h⟩
theorem hword_max {s : ByteArray} (h : wordS s = true) : s.size ≤ 64 := by
  by_cases c : 64 < s.size
  · rw [wordS_long s c] at h; cases h
  · omega
theorem take_hdr {l : List Hdr} {k : Nat} {r : Hdr} (h : l[k]? = some r) : l.take (k + 1) = l.take k ++ [r] := by rw [List.take_add_one, h]; rfl
theorem happ_list (a b : ByteArray) : (a ++ b).data.toList = a.data.toList ++ b.data.toList := by simp
theorem hof_list {a : ByteArray} {l : List UInt8} (h : a.data.toList = l) : a = ⟨l.toArray⟩ := by subst h; cases a; simp
theorem hret_ct {a b : Int} {s t : ByteArray} (h : a = b ∧ s = t) : Ending.returned (.agg #[.int .i64 b, .string t]) = .returned (.agg #[.int .i64 a, .string s]) := by rw [h.1, h.2]
/-! ### their text -/
def lineL (r : Hdr) : List UInt8 := r.name.data.toList ++ [58, 32] ++ r.value.data.toList ++ [13, 10]
def packL (l : List Hdr) : List UInt8 := l.flatMap lineL
theorem packL_take {l : List Hdr} {k : Nat} {r : Hdr} (h : l[k]? = some r) : packL (l.take (k + 1)) = packL (l.take k) ++ lineL r := by rw [take_hdr h]; simp [packL]
theorem lineL_len {r : Hdr} (h : faultH r = 0) : (lineL r).length ≤ 268 := by
  obtain ⟨h1, h2, _⟩ := faultH_zero h
  have := hword_max h1
  have e1 : r.name.data.toList.length = r.name.size := by simp
  have e2 : r.value.data.toList.length = r.value.size := by simp
  simp only [lineL, List.length_append, List.length_cons, List.length_nil]
  omega
def packT (l : List Hdr) : ByteArray := if headsC l = 0 then ⟨(packL l).toArray⟩ else ⟨#[]⟩
theorem packT_ok {l : List Hdr} (h : headsC l = 0) : packT l = ⟨(packL l).toArray⟩ := by unfold packT; rw [if_pos h]
theorem packT_bad {l : List Hdr} (h : headsC l ≠ 0) : packT l = ⟨#[]⟩ := by unfold packT; rw [if_neg h]
/-! ### names that are alike -/
def askC (l : List Hdr) (name : ByteArray) : Int := if headsC l = 0 then (if wordS name = true then 0 else 5) else headsC l
theorem askC_bad {l : List Hdr} {name : ByteArray} (h : headsC l ≠ 0) : askC l name = headsC l := by unfold askC; rw [if_neg h]
theorem askC_word {l : List Hdr} {name : ByteArray} (h : headsC l = 0) (hw : wordS name = true) : askC l name = 0 := by unfold askC; rw [if_pos h, if_pos hw]
theorem askC_text {l : List Hdr} {name : ByteArray} (h : headsC l = 0) (hw : wordS name = false) : askC l name = 5 := by unfold askC; rw [if_pos h, if_neg (by rw [hw]; decide)]
theorem askC_zero {l : List Hdr} {name : ByteArray} (h : askC l name = 0) : headsC l = 0 ∧ wordS name = true := by
  by_cases c : headsC l = 0
  · cases hw : wordS name
    · rw [askC_text c hw] at h; omega
    · exact ⟨c, rfl⟩
  · rw [askC_bad c] at h; exact absurd h c
/-- The values of all lines whose name, in small letters, is x. -/
def valsOf (x : ByteArray) (l : List Hdr) : List ByteArray := (l.filter fun r => decide (lowS r.name = x)).map (·.value)
theorem valsOf_yes {x : ByteArray} {r : Hdr} (l : List Hdr) (h : lowS r.name = x) : valsOf x (l ++ [r]) = valsOf x l ++ [r.value] := by simp [valsOf, h]
theorem valsOf_no {x : ByteArray} {r : Hdr} (l : List Hdr) (h : ¬ lowS r.name = x) : valsOf x (l ++ [r]) = valsOf x l := by simp [valsOf, h]
def hjoinL (vs : List ByteArray) : List UInt8 := Lib.join (vs.map (·.data.toList)) [44, 32]
theorem hjoinL_snoc (vs : List ByteArray) (v : ByteArray) : hjoinL (vs ++ [v]) = hjoinL vs ++ (if vs = [] then [] else [44, 32]) ++ v.data.toList := by
  unfold hjoinL
  cases vs with
  | nil => simp [Lib.join, List.intercalate]
  | cons a r =>
    rw [List.map_append, List.map_cons, List.cons_append, Lib.join_cons, Lib.join_cons]
    simp [Lib.joinTail]
def joinC (l : List Hdr) (name : ByteArray) : Int := if askC l name = 0 then (if valsOf (lowS name) l = [] then 4 else 0) else askC l name
def joinT (l : List Hdr) (name : ByteArray) : ByteArray := if joinC l name = 0 then ⟨(hjoinL (valsOf (lowS name) l)).toArray⟩ else ⟨#[]⟩
theorem join_bad {l : List Hdr} {name : ByteArray} (h : askC l name ≠ 0) : joinC l name = askC l name ∧ joinT l name = ⟨#[]⟩ := by
  have e : joinC l name = askC l name := by unfold joinC; rw [if_neg h]
  exact ⟨e, by unfold joinT; rw [if_neg (by rw [e]; exact h)]⟩
theorem join_none {l : List Hdr} {name : ByteArray} (h : askC l name = 0) (hv : valsOf (lowS name) l = []) : joinC l name = 4 ∧ joinT l name = ⟨#[]⟩ := by
  have e : joinC l name = 4 := by unfold joinC; rw [if_pos h, if_pos hv]
  exact ⟨e, by unfold joinT; rw [if_neg (by rw [e]; decide)]⟩
theorem join_some {l : List Hdr} {name : ByteArray} (h : askC l name = 0) (hv : valsOf (lowS name) l ≠ []) : joinC l name = 0 ∧ joinT l name = ⟨(hjoinL (valsOf (lowS name) l)).toArray⟩ := by
  have e : joinC l name = 0 := by unfold joinC; rw [if_pos h, if_neg hv]
  exact ⟨e, by unfold joinT; rw [if_pos e]⟩
/-- What is left without the lines whose name, in small letters, is x. -/
def dropH (x : ByteArray) (l : List Hdr) : List Hdr := l.filter fun r => decide (¬ lowS r.name = x)
theorem dropH_yes {x : ByteArray} {r : Hdr} (l : List Hdr) (h : lowS r.name = x) : dropH x (l ++ [r]) = dropH x l := by simp [dropH, h]
theorem dropH_no {x : ByteArray} {r : Hdr} (l : List Hdr) (h : ¬ lowS r.name = x) : dropH x (l ++ [r]) = dropH x l ++ [r] := by simp [dropH, h]
theorem dropH_len (x : ByteArray) (l : List Hdr) : (dropH x l).length ≤ l.length := List.length_filter_le _ _
def dropL (l : List Hdr) (name : ByteArray) : List Hdr := if askC l name = 0 then dropH (lowS name) l else []
/-- Where the first line of that name stands. -/
def firstAt (x : ByteArray) : List Hdr → Option Nat
  | [] => none
  | r :: l => if lowS r.name = x then some 0 else (firstAt x l).map (· + 1)
theorem firstAt_none {x : ByteArray} : ∀ {l : List Hdr}, firstAt x l = none → ∀ r ∈ l, ¬ lowS r.name = x
  | [], _, r, hr => by simp at hr
  | y :: l, h, r, hr => by
    by_cases c : lowS y.name = x
    · rw [firstAt, if_pos c] at h; cases h
    · rw [firstAt, if_neg c] at h
      rcases List.mem_cons.1 hr with rfl | hr
      · exact c
      · exact firstAt_none (Option.map_eq_none_iff.1 h) r hr
theorem firstAt_lt {x : ByteArray} : ∀ {l : List Hdr} {i : Nat}, firstAt x l = some i → i < l.length
  | [], i, h => by simp [firstAt] at h
  | y :: l, i, h => by
    by_cases c : lowS y.name = x
    · rw [firstAt, if_pos c] at h; obtain rfl := Option.some.inj h; simp
    · rw [firstAt, if_neg c] at h
      obtain ⟨j, hj, rfl⟩ := Option.map_eq_some_iff.1 h
      have := firstAt_lt hj
      simp only [List.length_cons]; omega
theorem firstAt_snoc {x : ByteArray} (r : Hdr) : ∀ (l : List Hdr), firstAt x (l ++ [r]) = match firstAt x l with | some i => some i | none => if lowS r.name = x then some l.length else none
  | [] => by simp [firstAt]
  | y :: l => by
    by_cases c : lowS y.name = x
    · simp [firstAt, c]
    · simp only [List.cons_append, firstAt, if_neg c]
      rw [firstAt_snoc r l]
      cases firstAt x l with
      | some i => rfl
      | none => simp only [Option.map_none]; split <;> simp
theorem valsOf_first {x : ByteArray} : ∀ {l : List Hdr}, valsOf x l = [] ↔ firstAt x l = none
  | [] => by simp [valsOf, firstAt]
  | y :: l => by
    by_cases c : lowS y.name = x
    · simp [valsOf, firstAt, c]
    · have := @valsOf_first x l
      simp only [valsOf] at this
      simp only [valsOf, firstAt, List.filter_cons, c, decide_false, Bool.false_eq_true, if_false, this, Option.map_eq_none_iff]
theorem valsOf_drop {x : ByteArray} : ∀ {l : List Hdr} {i : Nat}, firstAt x l = some i → valsOf x (l.drop i) = valsOf x l ∧ valsOf x (l.take i) = []
  | [], i, h => by simp [firstAt] at h
  | y :: l, i, h => by
    by_cases c : lowS y.name = x
    · rw [firstAt, if_pos c] at h; obtain rfl := Option.some.inj h; simp [valsOf]
    · rw [firstAt, if_neg c] at h
      obtain ⟨j, hj, rfl⟩ := Option.map_eq_some_iff.1 h
      have := valsOf_drop hj
      simp only [valsOf] at this
      simp only [valsOf, List.drop_succ_cons, List.take_succ_cons, List.filter_cons, c, decide_false, Bool.false_eq_true, if_false]
      exact this
/-- A line set. -/
def setGo (h : Hdr) : Bool → List Hdr → List Hdr
  | done, [] => if done = true then [] else [h]
  | done, r :: l => if lowS r.name = lowS h.name then (if done = true then setGo h true l else h :: setGo h true l) else r :: setGo h done l
theorem setGo_done (h : Hdr) : ∀ l : List Hdr, setGo h true l = dropH (lowS h.name) l
  | [] => by simp [setGo, dropH]
  | r :: l => by
    have ih := setGo_done h l
    by_cases c : lowS r.name = lowS h.name
    · simp only [setGo, if_true, ih, dropH, List.filter_cons, c, not_true_eq_false, decide_false, Bool.false_eq_true, if_false]
    · simp [setGo, ih, dropH, c]
theorem setGo_first (h : Hdr) : ∀ (l : List Hdr), setGo h false l = match firstAt (lowS h.name) l with
    | some i => (dropH (lowS h.name) l).take i ++ [h] ++ (dropH (lowS h.name) l).drop i
    | none => dropH (lowS h.name) l ++ [h]
  | [] => by simp [setGo, firstAt, dropH]
  | r :: l => by
    have ih := setGo_first h l
    by_cases c : lowS r.name = lowS h.name
    · simp only [setGo, firstAt, setGo_done, dropH, List.filter_cons, c, not_true_eq_false, decide_false, Bool.false_eq_true, if_false]
      simp
    · simp only [setGo, if_neg c, firstAt]
      rw [ih]
      have e : dropH (lowS h.name) (r :: l) = r :: dropH (lowS h.name) l := by simp [dropH, c]
      rw [e]
      cases firstAt (lowS h.name) l with
      | none => simp
      | some i => simp
theorem dropH_all {x : ByteArray} {l : List Hdr} (h : firstAt x l = none) : dropH x l = l := by
  unfold dropH
  rw [List.filter_eq_self]
  intro r hr
  simpa using firstAt_none h r hr
theorem setGo_len (h : Hdr) (l : List Hdr) : (setGo h false l).length = match firstAt (lowS h.name) l with | some _ => (dropH (lowS h.name) l).length + 1 | none => l.length + 1 := by
  rw [setGo_first]
  cases c : firstAt (lowS h.name) l with
  | none => simp [dropH_all c]
  | some i =>
    simp only [List.length_append, List.length_cons, List.length_nil, List.length_take, List.length_drop]
    omega
theorem dropH_lt {x : ByteArray} {i : Nat} : ∀ {l : List Hdr}, firstAt x l = some i → (dropH x l).length < l.length
  | [], h => by simp [firstAt] at h
  | r :: l, h => by
    by_cases c : lowS r.name = x
    · have := dropH_len x l
      simp only [dropH] at this
      simp only [dropH, List.filter_cons, c, not_true_eq_false, decide_false, Bool.false_eq_true, if_false, List.length_cons]
      omega
    · rw [firstAt, if_neg c] at h
      obtain ⟨j, hj, rfl⟩ := Option.map_eq_some_iff.1 h
      have := dropH_lt hj
      simp only [dropH] at this
      simp only [dropH, List.filter_cons, c, not_false_eq_true, decide_true, if_true, List.length_cons]
      omega
def setC (l : List Hdr) (h : Hdr) : Int := if askC l h.name = 0 then (if faultH h = 0 then (if 20 < (setGo h false l).length then 2 else 0) else faultH h) else askC l h.name
def setL (l : List Hdr) (h : Hdr) : List Hdr := if setC l h = 0 then setGo h false l else []
end Go.Proofs.YtacninhhkbglaaaGreatDoor
/-
  Requests and responses, plainly: their faults. No Go in sight.
-/
namespace Go.Proofs.YtacninhhkbglaaaGreatDoor
def allP (p : Int → Bool) (l : List UInt8) : Bool := l.all fun c => p (c.toNat : Int)
theorem allP_snoc (p : Int → Bool) (l : List UInt8) (c : UInt8) : allP p (l ++ [c]) = (allP p l && p (c.toNat : Int)) := by simp [allP]
theorem allP_of_take (p : Int → Bool) (l : List UInt8) (k : Nat) (h : allP p (l.take k) = false) : allP p l = false := by
  have e := List.take_append_drop k l
  rw [← e]
  simp only [allP] at h ⊢
  rw [List.all_append, h, Bool.false_and]
theorem allP_not (p : Int → Bool) (s : ByteArray) (k : Nat) (h : k < s.size) (hd : p (s[k].toNat : Int) = false) : allP p s.data.toList = false := by
  refine allP_of_take p _ (k + 1) ?_
  rw [take_snoc s k h, allP_snoc, hd, Bool.and_false]
theorem allP_mem {p : Int → Bool} {l : List UInt8} (h : allP p l = true) : ∀ c ∈ l, p (c.toNat : Int) = true := by
  simpa [allP] using h
theorem allP_of_mem {p : Int → Bool} {l : List UInt8} (h : ∀ c ∈ l, p (c.toNat : Int) = true) : allP p l = true := by
  simpa [allP] using h
def hostI (c : Int) : Bool := (decide (97 ≤ c) && decide (c ≤ 122)) || (decide (65 ≤ c) && decide (c ≤ 90)) || (decide (48 ≤ c) && decide (c ≤ 57)) || decide (c = 46) || decide (c = 45)
theorem hostI_big (c : Int) (h : 128 ≤ c) : hostI c = false := by
  simp [hostI]; omega
def markI (c : Nat) : Bool := [47, 63, 61, 38, 58, 64, 44, 59, 40, 41].contains c
def pathI (c : Int) : Bool := markI c.toNat || wordI c
theorem pathI_big (c : Int) (h : 128 ≤ c) : pathI c = false := by
  have e : markI c.toNat = false := by
    have : 128 ≤ c.toNat := by omega
    simp [markI]; omega
  rw [pathI, e, wordI_big c h]; rfl
def hostS (s : ByteArray) : Bool := decide (1 ≤ s.size) && decide (s.size ≤ 60) && allP hostI s.data.toList
theorem hostS_short (s : ByteArray) (h : s.size < 1) : hostS s = false := by simp [hostS]; omega
theorem hostS_long (s : ByteArray) (h : 60 < s.size) : hostS s = false := by simp [hostS]; omega
theorem hostS_mid (s : ByteArray) (h1 : 1 ≤ s.size) (h2 : s.size ≤ 60) : hostS s = allP hostI s.data.toList := by simp [hostS, h1, h2]
def pathS (s : ByteArray) : Bool := decide (s.data.toList.head? = some 47) && decide (s.size ≤ 100) && allP pathI s.data.toList
theorem pathS_first (s : ByteArray) (h : ¬ s.data.toList.head? = some 47) : pathS s = false := by simp [pathS, h]
theorem pathS_long (s : ByteArray) (h : 100 < s.size) : pathS s = false := by
  have : ¬ s.size ≤ 100 := by omega
  simp [pathS, this]
theorem pathS_mid (s : ByteArray) (h1 : s.data.toList.head? = some 47) (h2 : s.size ≤ 100) : pathS s = allP pathI s.data.toList := by simp [pathS, h1, h2]
theorem head_get (s : ByteArray) (h : 0 < s.size) : s.data.toList.head? = some s[0] := by
  rw [List.head?_eq_getElem?, List.getElem?_eq_getElem (by simpa using h)]; rfl
theorem head_none (s : ByteArray) (h : s.size < 1) : s.data.toList.head? = none := by
  have : s.data.toList = [] := List.eq_nil_of_length_eq_zero (by rw [Array.length_toList]; exact Nat.lt_one_iff.1 h)
  rw [this]; rfl
def getT : ByteArray := ⟨#[71, 69, 84]⟩
def headT : ByteArray := ⟨#[72, 69, 65, 68]⟩
def hostN : ByteArray := ⟨#[104, 111, 115, 116]⟩
def methS (m : ByteArray) : Bool := decide (m = getT) || decide (m = headT)
def lineS (m h p : ByteArray) : Bool := methS m && hostS h && pathS p
def restC (l : List Hdr) : Int := if headsC l = 0 then (if valsOf hostN l = [] then (if 20 ≤ l.length then 2 else 0) else 6) else headsC l
def reqC (m h p : ByteArray) (l : List Hdr) : Int := if lineS m h p = true then restC l else 5
theorem reqC_bad {m h p : ByteArray} {l : List Hdr} (c : lineS m h p = false) : reqC m h p l = 5 := by rw [reqC, if_neg (by rw [c]; decide)]
theorem reqC_ok {m h p : ByteArray} {l : List Hdr} (c : lineS m h p = true) : reqC m h p l = restC l := by rw [reqC, if_pos c]
theorem restC_heads {l : List Hdr} (h : headsC l ≠ 0) : restC l = headsC l := by rw [restC, if_neg h]
theorem restC_host {l : List Hdr} (h : headsC l = 0) (hv : valsOf hostN l ≠ []) : restC l = 6 := by rw [restC, if_pos h, if_neg hv]
theorem restC_many {l : List Hdr} (h : headsC l = 0) (hv : valsOf hostN l = []) (hn : 20 ≤ l.length) : restC l = 2 := by rw [restC, if_pos h, if_pos hv, if_pos hn]
theorem restC_ok {l : List Hdr} (h : headsC l = 0) (hv : valsOf hostN l = []) (hn : ¬ 20 ≤ l.length) : restC l = 0 := by rw [restC, if_pos h, if_pos hv, if_neg hn]
theorem headsC_codes (l : List Hdr) : headsC l = 0 ∨ headsC l = 2 ∨ headsC l = 5 := by
  have h1 : ∀ r, faultH r = 0 ∨ faultH r = 2 ∨ faultH r = 5 := fun r => by
    unfold faultH
    repeat' split
    all_goals simp
  have h2 : ∀ l, faultHL l = 0 ∨ faultHL l = 2 ∨ faultHL l = 5 := fun l => by
    induction l with
    | nil => exact .inl rfl
    | cons r l ih =>
      by_cases c : faultH r = 0
      · rw [faultHL_ok c]; exact ih
      · rw [faultHL_bad c]; exact h1 r
  by_cases c : 20 < l.length
  · rw [headsC_many c]; simp
  · rw [headsC_few c]; exact h2 l
theorem restC_codes (l : List Hdr) : restC l = 0 ∨ restC l = 2 ∨ restC l = 5 ∨ restC l = 6 := by
  have := headsC_codes l
  unfold restC
  repeat' split
  all_goals omega
theorem reqC_codes (m h p : ByteArray) (l : List Hdr) : reqC m h p l = 0 ∨ reqC m h p l = 2 ∨ reqC m h p l = 5 ∨ reqC m h p l = 6 := by
  have := restC_codes l
  unfold reqC
  split <;> omega
/-- A request that has no fault. -/
theorem reqC_zero {m h p : ByteArray} {l : List Hdr} (c : reqC m h p l = 0) : lineS m h p = true ∧ headsC l = 0 ∧ valsOf hostN l = [] ∧ l.length < 20 := by
  cases hl : lineS m h p
  · rw [reqC_bad hl] at c; omega
  rw [reqC_ok hl] at c
  by_cases c1 : headsC l = 0
  · by_cases c2 : valsOf hostN l = []
    · by_cases c3 : 20 ≤ l.length
      · rw [restC_many c1 c2 c3] at c; omega
      · exact ⟨rfl, c1, c2, by omega⟩
    · rw [restC_host c1 c2] at c; omega
  · rw [restC_heads c1] at c; exact absurd c c1
theorem lineS_true {m h p : ByteArray} (c : lineS m h p = true) : methS m = true ∧ hostS h = true ∧ pathS p = true := by
  simp only [lineS, Bool.and_eq_true] at c; exact ⟨c.1.1, c.1.2, c.2⟩
def respC (s : Int) (l : List Hdr) (n : Nat) : Int := if s < 200 ∨ 599 < s then 3 else if headsC l = 0 then (if 2000 < n then 2 else 0) else headsC l
theorem respC_range {s : Int} {l : List Hdr} {n : Nat} (h : s < 200 ∨ 599 < s) : respC s l n = 3 := by rw [respC, if_pos h]
theorem respC_heads {s : Int} {l : List Hdr} {n : Nat} (h : ¬ (s < 200 ∨ 599 < s)) (h1 : headsC l ≠ 0) : respC s l n = headsC l := by rw [respC, if_neg h, if_neg h1]
theorem respC_many {s : Int} {l : List Hdr} {n : Nat} (h : ¬ (s < 200 ∨ 599 < s)) (h1 : headsC l = 0) (h2 : 2000 < n) : respC s l n = 2 := by rw [respC, if_neg h, if_pos h1, if_pos h2]
theorem respC_ok {s : Int} {l : List Hdr} {n : Nat} (h : ¬ (s < 200 ∨ 599 < s)) (h1 : headsC l = 0) (h2 : ¬ 2000 < n) : respC s l n = 0 := by rw [respC, if_neg h, if_pos h1, if_neg h2]
theorem respC_codes (s : Int) (l : List Hdr) (n : Nat) : respC s l n = 0 ∨ respC s l n = 2 ∨ respC s l n = 3 ∨ respC s l n = 5 := by
  have := headsC_codes l
  unfold respC
  repeat' split
  all_goals omega
theorem respC_zero {s : Int} {l : List Hdr} {n : Nat} (c : respC s l n = 0) : 200 ≤ s ∧ s ≤ 599 ∧ headsC l = 0 ∧ n ≤ 2000 := by
  by_cases c1 : s < 200 ∨ 599 < s
  · rw [respC_range c1] at c; omega
  by_cases c2 : headsC l = 0
  · by_cases c3 : 2000 < n
    · rw [respC_many c1 c2 c3] at c; omega
    · exact ⟨by omega, by omega, c2, by omega⟩
  · rw [respC_heads c1 c2] at c; exact absurd c c2
end Go.Proofs.YtacninhhkbglaaaGreatDoor
/-
  A flight that is copied, by the model.
-/
namespace Go.Proofs.YtacninhhkbglaaaGreatDoor
open Go.ChangeShapes Go.WideShapes Go.ChangeAt Go.RowKit Go.Sort
theorem exOwnHset {w : World} {base : Nat} {v : Value} {l : List Hdr} (h : OwnH w base v l) {b i : Nat} {u : Value} (hb : b < base) : OwnH (w.setCell ⟨b, i, none⟩ u) base v l := by
  refine World.ownsRow.kept h (gbSet w b i u) ?_
  cases e : Value.ownBlock _ with
  | none => exact .inl rfl
  | some q => right; intro e2; have := row_ge h q e; have := Option.some.inj e2; omega
set_option maxRecDepth 100000 in
set_option maxHeartbeats 4000000 in
theorem l5Copy6_any (w : World) (R : Nat) (m h p : ByteArray) (a : Option Addr) (cap : Nat) (l : List Hdr) (hl : l.length ≤ 1048576) (hi : HdsIn w a l) (hR : R < w.heap.size) (b0 : w.cell? ⟨R, 6, none⟩ = some (.string m)) (b1 : w.cell? ⟨R, 7, none⟩ = some (.string h)) (b2 : w.cell? ⟨R, 8, none⟩ = some (.string p)) (b3 : w.cell? ⟨R, 9, none⟩ = some (.slice a l.length cap)) :
    Calls Tryz.prog 161 #[.pointer (some ⟨R, 6, none⟩)] w fun e w' => (∃ va vc, e = .returned (.agg #[.string m, .string h, .string p, .slice va l.length vc]) ∧ OwnH w' w.heap.size (.slice va l.length vc) l) ∧ Below w.heap.size w w' := by
  have CC : Hid (∀ X, Below w.heap.size w X → Calls Tryz.prog 214 #[.slice a l.length cap] X fun e w' => (∃ va vc, e = .returned (.slice va l.length vc) ∧ OwnH w' X.heap.size (.slice va l.length vc) l) ∧ Below X.heap.size X w') := fun X hX => (l4Copy_in X a cap l hl (hi.keep hX)).mono fun e w' ⟨⟨v, q1, q2⟩, q3⟩ => by
    obtain ⟨va, vc, rfl, _⟩ := row_form q2
    exact ⟨⟨va, vc, q1, q2⟩, q3⟩
  have KB : Hid (∀ X, Below w.heap.size w X → X.cell? ⟨R, 6, none⟩ = some (.string m) ∧ X.cell? ⟨R, 7, none⟩ = some (.string h) ∧ X.cell? ⟨R, 8, none⟩ = some (.string p) ∧ X.cell? ⟨R, 9, none⟩ = some (.slice a l.length cap)) := fun X hX => ⟨by rw [hX.cell (p := ⟨R, 6, none⟩) hR]; exact b0, by rw [hX.cell (p := ⟨R, 7, none⟩) hR]; exact b1, by rw [hX.cell (p := ⟨R, 8, none⟩) hR]; exact b2, by rw [hX.cell (p := ⟨R, 9, none⟩) hR]; exact b3⟩
  clear hi b0 b1 b2 b3 hl
  generalize l.length = n at *
  obtain ⟨p0, p1, p2, p3⟩ := KB.out (w.alloc (.cells #[.string ⟨#[]⟩, .string ⟨#[]⟩, .string ⟨#[]⟩, .slice none 0 0] 83)) ((Below.refl _ _).alloc (Nat.le_refl _) _)
  have hRw := hR
  obtain ⟨V, hV⟩ : ∃ V, V = (w.alloc (.cells #[.string ⟨#[]⟩, .string ⟨#[]⟩, .string ⟨#[]⟩, .slice none 0 0] 83)).alloc (.cells #[.string m, .string h, .string p, .slice a n cap] 83) := ⟨_, rfl⟩
  have HV : Hid (V = (w.alloc (.cells #[.string ⟨#[]⟩, .string ⟨#[]⟩, .string ⟨#[]⟩, .slice none 0 0] 83)).alloc (.cells #[.string m, .string h, .string p, .slice a n cap] 83)) := hV
  have KV : Hid (Below w.heap.size w V ∧ At w.heap.size (w.heap.size + 1) (Bx w.heap.size [.string ⟨#[]⟩, .string ⟨#[]⟩, .string ⟨#[]⟩, .slice none 0 0]) V ∧ At (w.heap.size + 1) (w.heap.size + 1 + 1) (Bx (w.heap.size + 1) [.string m, .string h, .string p, .slice a n cap]) V) := by
    rw [hV]
    exact ⟨((Below.refl _ _).alloc (Nat.le_refl _) _).alloc (by simp) _, (Bx.new _ [.string ⟨#[]⟩, .string ⟨#[]⟩, .string ⟨#[]⟩, .slice none 0 0] _).al _, Bx.newAt (by simp) [.string m, .string h, .string p, .slice a n cap] _⟩
  have q3 := (KB.out V KV.out.1).2.2.2
  rw [HV.out] at q3
  clear hV
  go_enter Tryz.func161, Tryz.ntmps161
  go_wp2_with fail
  rw [← HV.out]
  refine (CC.out V KV.out.1).mono ?_
  rintro r0 w1 ⟨⟨va, vc, rfl, ho⟩, hb⟩
  have K1 : Hid (Below w.heap.size w w1 ∧ At w.heap.size (w.heap.size + 1) (Bx w.heap.size [.string ⟨#[]⟩, .string ⟨#[]⟩, .string ⟨#[]⟩, .slice none 0 0]) w1 ∧ At (w.heap.size + 1) (w.heap.size + 1 + 1) (Bx (w.heap.size + 1) [.string m, .string h, .string p, .slice a n cap]) w1 ∧ OwnH w1 V.heap.size (.slice va n vc) l ∧ w.heap.size + 2 ≤ V.heap.size) := ⟨KV.out.1.trans (hb.mono KV.out.1.size), KV.out.2.1.keep hb, KV.out.2.2.keep hb, ho, by rw [HV.out]; simp⟩
  clear ho hb KV HV CC KB p0 p1 p2 p3 q3
  have z0 := K1.out.2.1.val.1 0 _ rfl
  have z1 := K1.out.2.1.val.1 1 _ rfl
  have z2 := K1.out.2.1.val.1 2 _ rfl
  have z3 := K1.out.2.1.val.1 3 _ rfl
  have zf0 := K1.out.2.1.val.2 0
  have zf1 := K1.out.2.1.val.2 1
  have zf2 := K1.out.2.1.val.2 2
  have zf3 := K1.out.2.1.val.2 3
  have y0 := K1.out.2.2.1.val.1 0 _ rfl
  have y1 := K1.out.2.2.1.val.1 1 _ rfl
  have y2 := K1.out.2.2.1.val.1 2 _ rfl
  have y3 := K1.out.2.2.1.val.1 3 _ rfl
  have yf3 := K1.out.2.2.1.val.2 3
  have HF : Hid (∀ X, X = putAll (w1.setCell ⟨w.heap.size + 1, 3, none⟩ (.slice va n vc)) w.heap.size 0 [.string m, .string h, .string p, .slice va n vc] → OwnH X w.heap.size (.slice va n vc) l ∧ Below w.heap.size w X) := by
    rintro X rfl
    have hx := K1.out.2.2.2.1
    have hs := K1.out.2.2.2.2
    refine ⟨?_, below_putAll (Nat.le_refl _) _ 0 (K1.out.1.setCell (by simp) _)⟩
    have e : ∀ {Y : World} {b i : Nat} (u : Value), b < V.heap.size → OwnH Y V.heap.size (.slice va n vc) l → OwnH (Y.setCell ⟨b, i, none⟩ u) V.heap.size (.slice va n vc) l := fun u hb k => exOwnHset k hb
    have k1 := e (b := w.heap.size + 1) (i := 3) (.slice va n vc) (by omega) hx
    have k2 := e (b := w.heap.size) (i := 0) (.string m) (by omega) k1
    have k3 := e (b := w.heap.size) (i := 1) (.string h) (by omega) k2
    have k4 := e (b := w.heap.size) (i := 2) (.string p) (by omega) k3
    have k5 := e (b := w.heap.size) (i := 3) (.slice va n vc) (by omega) k4
    have hle : w.heap.size ≤ V.heap.size := by omega
    exact row_lower k5 hle
  have KU := K1.out.2.1.set (b := w.heap.size + 1) (i := 3) (.slice va n vc) (.inr (Nat.le_refl _))
  have x0 := KU.val.1 0 _ rfl
  have x1 := KU.val.1 1 _ rfl
  have x2 := KU.val.1 2 _ rfl
  have x3 := KU.val.1 3 _ rfl
  clear K1 KU
  go_wp2_with fail
  exact bodyPost_ret (v := .agg #[.string m, .string h, .string p, .slice va n vc]) (by simp [results, Tryz.results161, go_sem, x0, x1, x2, x3]) rfl ⟨⟨va, vc, rfl, (HF.out _ rfl).1⟩, (HF.out _ rfl).2⟩
set_option maxRecDepth 100000 in
set_option maxHeartbeats 16000000 in
theorem l12Copy_any (w : World) (O : Nat) (x : Fl) (r : FlR) (hl : x.hs.length ≤ 1048576) (hwl : x.ws.length ≤ 1048576) (hi : FlIn w x r) (hB : At O (O + 1) (Bx O [.int .i64 x.id, .string x.key, .bool x.bk, .bool x.ot, .int .i64 x.du, .bool x.dm, .string x.m, .string x.h, .string x.p, .slice r.ha x.hs.length r.hc, .slice r.wa x.ws.length r.wc]) w) :
    Calls Tryz.prog 78 #[.pointer (some ⟨O, 0, none⟩)] w fun e w' => (∃ va vc ua uc, e = .returned (.agg #[.int .i64 x.id, .string x.key, .bool x.bk, .bool x.ot, .int .i64 x.du, .bool x.dm, .string x.m, .string x.h, .string x.p, .slice va x.hs.length vc, .slice ua x.ws.length uc]) ∧ At w.heap.size w'.heap.size (FR x.hs x.ws va x.hs.length vc ua x.ws.length uc) w') ∧ Below w.heap.size w w' := by
  obtain ⟨Z, hZ⟩ : ∃ Z, Z = w.alloc (.cells #[.int .i64 0, .string ⟨#[]⟩, .bool false, .bool false, .int .i64 0, .bool false, .string ⟨#[]⟩, .string ⟨#[]⟩, .string ⟨#[]⟩, .slice none 0 0, .slice none 0 0] 86) := ⟨_, rfl⟩
  have HZ : Hid (Z = w.alloc (.cells #[.int .i64 0, .string ⟨#[]⟩, .bool false, .bool false, .int .i64 0, .bool false, .string ⟨#[]⟩, .string ⟨#[]⟩, .string ⟨#[]⟩, .slice none 0 0, .slice none 0 0] 86)) := hZ
  have bZ : Below w.heap.size w Z := by rw [hZ]; exact (Below.refl _ _).alloc (Nat.le_refl _) _
  obtain ⟨V, hV⟩ : ∃ V, V = Z.alloc (.cells #[.int .i64 x.id, .string x.key, .bool x.bk, .bool x.ot, .int .i64 x.du, .bool x.dm, .string x.m, .string x.h, .string x.p, .slice r.ha x.hs.length r.hc, .slice r.wa x.ws.length r.wc] 86) := ⟨_, rfl⟩
  have HV : Hid (V = Z.alloc (.cells #[.int .i64 x.id, .string x.key, .bool x.bk, .bool x.ot, .int .i64 x.du, .bool x.dm, .string x.m, .string x.h, .string x.p, .slice r.ha x.hs.length r.hc, .slice r.wa x.ws.length r.wc] 86)) := hV
  have bV : Below w.heap.size w V := by rw [hV]; exact bZ.alloc bZ.size _
  have szZ : Z.heap.size = w.heap.size + 1 := by rw [hZ]; simp
  have KV : Hid (Below w.heap.size w V ∧ w.heap.size + 2 ≤ V.heap.size) := ⟨bV, by rw [hV]; simp; omega⟩
  have FZ := hidL (show At w.heap.size (w.heap.size + 1) (Bx w.heap.size [.int .i64 0, .string ⟨#[]⟩, .bool false, .bool false, .int .i64 0, .bool false, .string ⟨#[]⟩, .string ⟨#[]⟩, .string ⟨#[]⟩, .slice none 0 0, .slice none 0 0]) V by rw [hV, hZ]; exact (Bx.new _ [.int .i64 0, .string ⟨#[]⟩, .bool false, .bool false, .int .i64 0, .bool false, .string ⟨#[]⟩, .string ⟨#[]⟩, .string ⟨#[]⟩, .slice none 0 0, .slice none 0 0] _).al _)
  have FB := hidL (show At (w.heap.size + 1) (w.heap.size + 1 + 1) (Bx (w.heap.size + 1) [.int .i64 x.id, .string x.key, .bool x.bk, .bool x.ot, .int .i64 x.du, .bool x.dm, .string x.m, .string x.h, .string x.p, .slice r.ha x.hs.length r.hc, .slice r.wa x.ws.length r.wc]) V by rw [hV]; exact Bx.newAt szZ [.int .i64 x.id, .string x.key, .bool x.bk, .bool x.ot, .int .i64 x.du, .bool x.dm, .string x.m, .string x.h, .string x.p, .slice r.ha x.hs.length r.hc, .slice r.wa x.ws.length r.wc] _)
  have FO := hidL (hB.keep bV)
  have hlO : O < w.heap.size := hB.le
  have hOz : At O (O + 1) (Bx O [.int .i64 x.id, .string x.key, .bool x.bk, .bool x.ot, .int .i64 x.du, .bool x.dm, .string x.m, .string x.h, .string x.p, .slice r.ha x.hs.length r.hc, .slice r.wa x.ws.length r.wc]) Z := hB.keep bZ
  have LZ := hidL hOz.val.1
  have C5 : Hid (∀ X, Below w.heap.size w X → X.cell? ⟨O, 6, none⟩ = some (.string x.m) → X.cell? ⟨O, 7, none⟩ = some (.string x.h) → X.cell? ⟨O, 8, none⟩ = some (.string x.p) → X.cell? ⟨O, 9, none⟩ = some (.slice r.ha x.hs.length r.hc) → Calls Tryz.prog 161 #[.pointer (some ⟨O, 6, none⟩)] X fun e w' => (∃ va vc, e = .returned (.agg #[.string x.m, .string x.h, .string x.p, .slice va x.hs.length vc]) ∧ OwnH w' X.heap.size (.slice va x.hs.length vc) x.hs) ∧ Below X.heap.size X w') := fun X hX b0 b1 b2 b3 => l5Copy6_any X O x.m x.h x.p r.ha r.hc x.hs hl (hi.h.keep hX) (Nat.lt_of_lt_of_le hlO hX.size) b0 b1 b2 b3
  have HW := hidL (show ∀ X, Below w.heap.size w X → WrIn X r.wa x.ws from fun X hX => hi.k.keep hX)
  have HWL := hidL hwl
  clear hZ hV bV bZ hB hi hl hwl hOz
  generalize x.hs.length = n at *
  obtain ⟨k, hk⟩ : ∃ k, x.ws.length = k := ⟨_, rfl⟩
  have HK : Hid (x.ws.length = k) := hk
  rw [hk] at HV FB FO LZ ⊢
  clear hk
  go_enter Tryz.func78, Tryz.ntmps78
  go_upto_region 1 with fail
  rw [← HZ.out]
  go_upto_region 2 with (first | ((with_reducible refine flI_load (b := O) (vs := [.int .i64 x.id, .string x.key, .bool x.bk, .bool x.ot, .int .i64 x.du, .bool x.dm, .string x.m, .string x.h, .string x.p, .slice r.ha n r.hc, .slice r.wa k r.wc]) ?_ ?_ LZ.out ?_); exact rfl; exact rfl) | ((with_reducible refine flI_store (c' := #[.int .i64 x.id, .string x.key, .bool x.bk, .bool x.ot, .int .i64 x.du, .bool x.dm, .string x.m, .string x.h, .string x.p, .slice r.ha n r.hc, .slice r.wa k r.wc]) ?_ ?_ ?_ ?_ ?_ ?_); exact rfl; exact rfl; exact rfl; exact rfl; exact rfl))
  rw [← HV.out]
  clear LZ HZ HV
  have q6 := FO.out.val.1 6 _ rfl
  have q7 := FO.out.val.1 7 _ rfl
  have q8 := FO.out.val.1 8 _ rfl
  have q9 := FO.out.val.1 9 _ rfl
  go_wp2_with fail
  refine (C5.out V KV.out.1 q6 q7 q8 q9).mono ?_
  rintro e0 w1 ⟨⟨va, vc, rfl, ho⟩, hb⟩
  have K1 := hidL (KV.out.1.trans (hb.mono KV.out.1.size))
  have HH := hidL ho
  have S1 := hidL (Nat.le_trans KV.out.2 hb.size)
  replace FZ := hidL (FZ.out.keep hb)
  replace FB := hidL (FB.out.keep hb)
  replace FO := hidL (FO.out.keep hb)
  clear hb ho q6 q7 q8 q9 C5
  obtain ⟨U, hU⟩ : ∃ U, U = (((w1.setCell ⟨w.heap.size + 1, 6, none⟩ (.string x.m)).setCell ⟨w.heap.size + 1, 7, none⟩ (.string x.h)).setCell ⟨w.heap.size + 1, 8, none⟩ (.string x.p)).setCell ⟨w.heap.size + 1, 9, none⟩ (.slice va n vc) := ⟨_, rfl⟩
  have HU : Hid (U = (((w1.setCell ⟨w.heap.size + 1, 6, none⟩ (.string x.m)).setCell ⟨w.heap.size + 1, 7, none⟩ (.string x.h)).setCell ⟨w.heap.size + 1, 8, none⟩ (.string x.p)).setCell ⟨w.heap.size + 1, 9, none⟩ (.slice va n vc)) := hU
  have a6 := FB.out.val.1 6 _ rfl
  have a7 := FB.out.val.1 7 _ rfl
  have a8 := FB.out.val.1 8 _ rfl
  have a9 := FB.out.val.1 9 _ rfl
  have f6 := FB.out.val.2 6
  have f7 := FB.out.val.2 7
  have f8 := FB.out.val.2 8
  have f9 := FB.out.val.2 9
  have KU := hidL (show Below w.heap.size w U by rw [hU]; exact (((K1.out.setCell (by simp only; omega) _).setCell (by simp only; omega) _).setCell (by simp only; omega) _).setCell (by simp only; omega) _)
  have FZ2 := hidL (show At w.heap.size (w.heap.size + 1) (Bx w.heap.size [.int .i64 0, .string ⟨#[]⟩, .bool false, .bool false, .int .i64 0, .bool false, .string ⟨#[]⟩, .string ⟨#[]⟩, .string ⟨#[]⟩, .slice none 0 0, .slice none 0 0]) U by rw [hU]; exact (((FZ.out.set _ (by omega)).set _ (by omega)).set _ (by omega)).set _ (by omega))
  have FO2 := hidL (show At O (O + 1) (Bx O [.int .i64 x.id, .string x.key, .bool x.bk, .bool x.ot, .int .i64 x.du, .bool x.dm, .string x.m, .string x.h, .string x.p, .slice r.ha n r.hc, .slice r.wa k r.wc]) U by rw [hU]; exact (((FO.out.set _ (by omega)).set _ (by omega)).set _ (by omega)).set _ (by omega))
  have FB2 := hidL (show At (w.heap.size + 1) (w.heap.size + 1 + 1) (Bx (w.heap.size + 1) [.int .i64 x.id, .string x.key, .bool x.bk, .bool x.ot, .int .i64 x.du, .bool x.dm, .string x.m, .string x.h, .string x.p, .slice va n vc, .slice r.wa k r.wc]) U by rw [hU]; exact Bx.put (Bx.put (Bx.put (Bx.put FB.out 6 _ (by simp)) 7 _ (by simp)) 8 _ (by simp)) 9 _ (by simp))
  have HH2 := hidL (show OwnH U V.heap.size (.slice va n vc) x.hs by rw [hU]; have h2 := KV.out.2; exact exOwnHset (exOwnHset (exOwnHset (exOwnHset HH.out (by omega)) (by omega)) (by omega)) (by omega))
  have HR := hidL (show (w.heap.size ≤ sLo (.slice va n vc) w.heap.size ∧ sHi (.slice va n vc) w.heap.size ≤ U.heap.size) ∧ (w.heap.size + 2 ≤ sLo (.slice va n vc) w.heap.size ∨ sHi (.slice va n vc) w.heap.size = w.heap.size) ∧ (∀ q, (Value.slice va n vc).ownBlock = some q → w.heap.size + 2 ≤ q ∧ q < U.heap.size) from ⟨row_stretch HH2.out (by have := KV.out.2; omega) KU.out.size, s_off (fun q hq => Nat.le_trans KV.out.2 (row_ge HH2.out q hq)), fun q hq => ⟨Nat.le_trans KV.out.2 (row_ge HH2.out q hq), (World.ownsRow.lt HH2.out q hq).2⟩⟩)
  have AH := hidL (RowH.hl HH2.out (b := w.heap.size) (by have := KV.out.2; omega) KU.out.size)
  clear HH2
  have SU := hidL (show U.heap.size = w1.heap.size by rw [hU]; simp)
  clear hU
  go_upto_region 3 with fail
  rw [← HU.out]
  clear HU a6 a7 a8 a9 f6 f7 f8 f9 FB FO FZ HH K1
  obtain ⟨Y, hY⟩ : ∃ Y, Y = U.alloc (.cells #[] 91) := ⟨_, rfl⟩
  have HY : Hid (Y = U.alloc (.cells #[] 91)) := hY
  have bY : Below U.heap.size U Y := by rw [hY]; exact (Below.refl _ _).alloc (Nat.le_refl _) _
  have KY := hidL (KU.out.trans (bY.mono KU.out.size))
  have OY := hidL (show OwnWr Y U.heap.size (.slice (some ⟨U.heap.size, 0, none⟩) 0 0) [] by rw [hY]; exact OwnWr.made0 U U.heap.size (Nat.le_refl _))
  have o10 := (FO2.out.keep bY).val.1 10 _ rfl
  have FZ3 := hidL (FZ2.out.keep bY)
  have FB3 := hidL (FB2.out.keep bY)
  have AH3 := hidL (AH.out.keep bY)
  rw [hY] at o10
  have WY := hidL (HW.out Y KY.out)
  have hUY : U.heap.size ≤ Y.heap.size := bY.size
  clear hY bY FZ2 FB2 FO2 AH HW
  go_upto_region 4 with (at_builtin; rw [← HY.out]; refine wpList_appendInWr Y rfl (.tmp 12) (.tmp 16) rfl U.heap.size (.slice (some ⟨U.heap.size, 0, none⟩) 0 0) [] x.ws r.wa r.wc rfl (by rw [HK.out]; rfl) OY.out WY.out (by have := HWL.out; have := HK.out; simp; omega) hUY ?_; intro v2 w3 h1 h2; rw [List.nil_append] at h1; obtain ⟨ua, uc, rfl, _, _⟩ := OwnWr.in h1; rw [HK.out] at h1 ⊢; have OW := hidL h1; have BW := hidL h2; have FB4 := hidL (FB3.out.lowB h2 (by have := S1.out; have := SU.out; omega)); have b10 := FB4.out.val.1 10 _ rfl; have bf10 := FB4.out.val.2 10; clear h1 h2)
  obtain ⟨T, hT⟩ : ∃ T, T = w3.setCell ⟨w.heap.size + 1, 10, none⟩ (.slice ua k uc) := ⟨_, rfl⟩
  have HT : Hid (T = w3.setCell ⟨w.heap.size + 1, 10, none⟩ (.slice ua k uc)) := hT
  rw [← HT.out]
  clear HT b10 bf10
  have s0 := S1.out
  have s1 := SU.out
  have s2 := BW.out.size
  have FB5 := hidL (show At (w.heap.size + 1) (w.heap.size + 1 + 1) (Bx (w.heap.size + 1) [.int .i64 x.id, .string x.key, .bool x.bk, .bool x.ot, .int .i64 x.du, .bool x.dm, .string x.m, .string x.h, .string x.p, .slice va n vc, .slice ua k uc]) T by rw [hT]; exact Bx.put FB4.out 10 _ (by simp))
  have FZ5 := hidL (show At w.heap.size (w.heap.size + 1) (Bx w.heap.size [.int .i64 0, .string ⟨#[]⟩, .bool false, .bool false, .int .i64 0, .bool false, .string ⟨#[]⟩, .string ⟨#[]⟩, .string ⟨#[]⟩, .slice none 0 0, .slice none 0 0]) T by rw [hT]; exact (FZ3.out.lowB BW.out (by omega)).set _ (by omega))
  have KT := hidL (show Below w.heap.size w T by rw [hT]; exact (KY.out.trans (BW.out.mono (by omega))).setCell (by simp only; omega) _)
  have AW := hidL (OwnWr.wl OW.out (b := w.heap.size) (by omega) (by omega))
  have RW2 := hidL (show (w.heap.size ≤ sLo (.slice ua k uc) w.heap.size ∧ sHi (.slice ua k uc) w.heap.size ≤ w3.heap.size) ∧ (w.heap.size + 2 ≤ sLo (.slice ua k uc) w.heap.size ∨ sHi (.slice ua k uc) w.heap.size = w.heap.size) ∧ (sHi (.slice va n vc) w.heap.size ≤ sLo (.slice ua k uc) w.heap.size ∨ sHi (.slice ua k uc) w.heap.size ≤ sLo (.slice va n vc) w.heap.size) from ⟨row_stretch OW.out (by omega) (by omega), s_off (fun q hq => by have := row_ge OW.out q hq; omega), s_apart (fun q hq e => by have := HR.out.2.2 q hq; have := row_ge OW.out q e; omega) (fun q hq => by have := HR.out.2.2 q hq; omega) (fun q hq => by have := row_ge OW.out q hq; omega)⟩)
  have AH5 := hidL (show At (sLo (.slice va n vc) w.heap.size) (sHi (.slice va n vc) w.heap.size) (HL (.slice va n vc) x.hs) T by rw [hT]; exact (AH3.out.lowB BW.out HR.out.1.2).set _ (by have := HR.out.2.1; omega))
  have AW5 := hidL (show At (sLo (.slice ua k uc) w.heap.size) (sHi (.slice ua k uc) w.heap.size) (WL (.slice ua k uc) x.ws) T by rw [hT]; exact AW.out.set _ (by have := RW2.out.2.1; omega))
  have sT : T.heap.size = w3.heap.size := by rw [hT]; simp
  clear hT FB4 FZ3 FB3 AH3 AW OW WY OY
  have LB := hidL FB5.out.val.1
  refine wp_copyOut (b1 := w.heap.size + 1) (b2 := w.heap.size) (vs := [.int .i64 x.id, .string x.key, .bool x.bk, .bool x.ot, .int .i64 x.du, .bool x.dm, .string x.m, .string x.h, .string x.p, .slice va n vc, .slice ua k uc]) (zs := [.int .i64 0, .string ⟨#[]⟩, .bool false, .bool false, .int .i64 0, .bool false, .string ⟨#[]⟩, .string ⟨#[]⟩, .string ⟨#[]⟩, .slice none 0 0, .slice none 0 0]) Tryz.underlying86 flI_size rfl (fun _ => rfl) (fun _ => rfl) FB5.out.val.1 FZ5.out.val.1 FZ5.out.val.2 rfl rfl ?_
  obtain ⟨VF, hVF⟩ : ∃ V, V = putAll T w.heap.size 0 [.int .i64 x.id, .string x.key, .bool x.bk, .bool x.ot, .int .i64 x.du, .bool x.dm, .string x.m, .string x.h, .string x.p, .slice va n vc, .slice ua k uc] := ⟨_, rfl⟩
  rw [← hVF]
  have R : At w.heap.size (w.heap.size + 1) (Bx w.heap.size [.int .i64 x.id, .string x.key, .bool x.bk, .bool x.ot, .int .i64 x.du, .bool x.dm, .string x.m, .string x.h, .string x.p, .slice va n vc, .slice ua k uc]) VF := by rw [hVF]; exact Bx.putAll FZ5.out [.int .i64 x.id, .string x.key, .bool x.bk, .bool x.ot, .int .i64 x.du, .bool x.dm, .string x.m, .string x.h, .string x.p, .slice va n vc, .slice ua k uc] rfl
  have KF : Below w.heap.size w VF := by rw [hVF]; exact below_putAll (Nat.le_refl _) [.int .i64 x.id, .string x.key, .bool x.bk, .bool x.ot, .int .i64 x.du, .bool x.dm, .string x.m, .string x.h, .string x.p, .slice va n vc, .slice ua k uc] 0 KT.out
  have E1 : At (sLo (.slice va n vc) w.heap.size) (sHi (.slice va n vc) w.heap.size) (HL (.slice va n vc) x.hs) VF := by rw [hVF]; exact At.putAll (by have := HR.out.2.1; omega) [.int .i64 x.id, .string x.key, .bool x.bk, .bool x.ot, .int .i64 x.du, .bool x.dm, .string x.m, .string x.h, .string x.p, .slice va n vc, .slice ua k uc] 0 AH5.out
  have E2 : At (sLo (.slice ua k uc) w.heap.size) (sHi (.slice ua k uc) w.heap.size) (WL (.slice ua k uc) x.ws) VF := by rw [hVF]; exact At.putAll (by have := RW2.out.2.1; omega) [.int .i64 x.id, .string x.key, .bool x.bk, .bool x.ot, .int .i64 x.du, .bool x.dm, .string x.m, .string x.h, .string x.p, .slice va n vc, .slice ua k uc] 0 AW5.out
  have hr := HR.out
  have hr2 := RW2.out
  have eN := E1.val.in rfl
  have eK := E2.val.in
  have z1 := E1.le
  have z2 := E2.le
  clear hVF FB5 FZ5 KT AH5 AW5 LB HR RW2 KY BW
  go_wp2_with fail
  have rz0 := R.val.1 0 _ rfl
  have rz1 := R.val.1 1 _ rfl
  have rz2 := R.val.1 2 _ rfl
  have rz3 := R.val.1 3 _ rfl
  have rz4 := R.val.1 4 _ rfl
  have rz5 := R.val.1 5 _ rfl
  have rz6 := R.val.1 6 _ rfl
  have rz7 := R.val.1 7 _ rfl
  have rz8 := R.val.1 8 _ rfl
  have rz9 := R.val.1 9 _ rfl
  have rz10 := R.val.1 10 _ rfl
  refine bodyPost_ret (v := .agg #[.int .i64 x.id, .string x.key, .bool x.bk, .bool x.ot, .int .i64 x.du, .bool x.dm, .string x.m, .string x.h, .string x.p, .slice va n vc, .slice ua k uc]) ?_ rfl ⟨⟨va, vc, ua, uc, rfl, Nat.le_refl _, FR.dep _ _ _ _ _ _ _ _ _ _, ⟨eN.1, eK.1⟩, _, _, _, _, ⟨hr.1.1, s_le _ _, z1⟩, ⟨hr2.1.1, s_le _ _, z2⟩, hr2.2.2, E1, E2⟩, KF⟩
  simp [results, Tryz.results78, go_sem, rz0, rz1, rz2, rz3, rz4, rz5, rz6, rz7, rz8, rz9, rz10]
end Go.Proofs.YtacninhhkbglaaaGreatDoor
/-
  A map whose keys are signs: what it holds, as one predicate.
-/
namespace Go.Proofs.YtacninhhkbglaaaGreatDoor
open Go.ChangeShapes Go.WideShapes Go.ChangeAt Go.RowKit Go.Maps
/-- What something in a list of flights is known by. -/
structure Sg where
  kd : Int
  nm : Int
  tx : ByteArray
def sgEq (a b : Sg) : Bool := decide (a.kd = b.kd) && decide (a.nm = b.nm) && decide (a.tx = b.tx)
theorem sgEq_iff {a b : Sg} : sgEq a b = true ↔ a = b := by
  obtain ⟨a1, a2, a3⟩ := a
  obtain ⟨b1, b2, b3⟩ := b
  simp [sgEq, and_assoc]
def sgV (x : Sg) : Value := .agg #[.int .i64 x.kd, .int .i64 x.nm, .string x.tx]
structure SgOk (x : Sg) : Prop where
  kd : (Lit.int .i64 x.kd).wf = true
  nm : (Lit.int .i64 x.nm).wf = true
  tx : x.tx.size ≤ maxLen
def keyS (x : Sg) : Lit := .string (keyBytes [.int .i64 x.kd, .int .i64 x.nm, .string x.tx.data.toList])
theorem keyedS : Keyed Tryz.prog 320 := Keyed.of_law (deep_law_laid (m := 3) (by kernel_rfl) (by omega) (of_decide_eq_true (by kernel_rfl)) (by kernel_rfl) (by kernel_rfl))
theorem keyOf_three {P : Program} {k ti tj ts : TypeId} {f0 f1 f2 : Field} (u0 : P.underlying k = some (.struct #[f0, f1, f2])) (n0 : (f0.name != "_") = true) (n1 : (f1.name != "_") = true) (n2 : (f2.name != "_") = true) (t0 : f0.type = ti) (t1 : f1.type = tj) (t2 : f2.type = ts) (o0 : f0.offset = 0) (o1 : f1.offset = 1) (o2 : f2.offset = 2)
    (c0 : P.cellsOf k = 3) (c1 : P.cellsOf ti = 1) (c2 : P.cellsOf tj = 1) (c3 : P.cellsOf ts = 1) (u1 : P.underlying ti = some (.int .i64)) (u2 : P.underlying tj = some (.int .i64)) (u3 : P.underlying ts = some .string) (hk : P.keyType k = true) {m : Nat} (hm : P.types.size = m + 1) {a b : Int} {s : ByteArray} (h1 : (Lit.int .i64 a).wf = true) (h2 : (Lit.int .i64 b).wf = true) (h3 : s.size ≤ maxLen) :
    keyOf P k (.agg #[.int .i64 a, .int .i64 b, .string s]) = some (.string (keyBytes [.int .i64 a, .int .i64 b, .string s.data.toList])) := by
  simp [keyOf, u0, hk, Value.formed, c0, hm, Program.keyLits, n0, n1, n2, t0, t1, t2, o0, o1, o2, u1, u2, u3, c1, c2, c3, Value.cells, h1, h2, h3]
theorem keyS_mk {x : Sg} (h : SgOk x) : keyOf Tryz.prog 320 (sgV x) = some (keyS x) :=
  keyOf_three Tryz.underlying320 rfl rfl rfl rfl rfl rfl rfl rfl rfl (by kernel_rfl) (by kernel_rfl) (by kernel_rfl) (by kernel_rfl) Tryz.underlying3 Tryz.underlying2 Tryz.underlying9 (by kernel_rfl) (m := Tryz.prog.types.size - 1) (by kernel_rfl) h.kd h.nm h.tx
theorem keyS_inj {x y : Sg} (hx : SgOk x) (hy : SgOk y) (h : keyS x = keyS y) : x = y := by
  have e := keyedS.inj (keyS_mk hx) (by rw [h]; exact keyS_mk hy)
  obtain ⟨a, b, c⟩ := x
  obtain ⟨d, e', f⟩ := y
  simpa [sgV] using e
theorem keyS_ne {x y : Sg} (hx : SgOk x) (hy : SgOk y) (h : x ≠ y) : keyS x ≠ keyS y := fun e => h (keyS_inj hx hy e)
theorem isKeyS (x : Sg) : WideAt.IsKeyLit (keyS x) := trivial
theorem hzeroS (w : World) : (zeroValue 3).run Tryz.prog w = .ok (.int .i64 0) w := by kernel_rfl
def SgsMap (w : World) (B n : Nat) (p : Sg → Option Nat) : Prop :=
  ∃ D : DataW Unit, w.ownsMap Tryz.prog 320 (plainElem Tryz.prog 3) B n D ∧ ∀ x : Sg, SgOk x → Maps.has D (keyS x) = (p x).isSome ∧ ∀ i, p x = some i → D.atKey (keyS x) (.lit (.int .i64 0)) = .lit (.int .i64 (i : Int))
theorem SgsMap.lt {w : World} {B n : Nat} {p : Sg → Option Nat} (h : SgsMap w B n p) : B < w.heap.size := by
  obtain ⟨D, h, _⟩ := h
  exact h.lt
theorem SgsMap.below {w w' : World} {B n : Nat} {p : Sg → Option Nat} (h : SgsMap w B n p) (hb : Below w.heap.size w w') : SgsMap w' B n p := by
  have hl := h.lt
  obtain ⟨D, ⟨es, clock, hh, r⟩, h2⟩ := h
  exact ⟨D, ⟨es, clock, by rw [hb.block B hl]; exact hh, r⟩, h2⟩
theorem SgsMap.setCell {w : World} {B n : Nat} {p : Sg → Option Nat} (h : SgsMap w B n p) {a : Addr} (ha : B ≠ a.block) (u : Value) : SgsMap (w.setCell a u) B n p := by
  obtain ⟨D, h, h2⟩ := h
  exact ⟨D, h.setCell ha u, h2⟩
theorem SgsMap.made (w : World) : SgsMap (w.alloc (.map #[] 0)) w.heap.size 0 (fun _ => none) :=
  ⟨.map [], World.ownsMap_made w _ _ _, fun x _ => ⟨rfl, fun i h => by cases h⟩⟩
theorem SgsMap.of {w : World} {B n : Nat} {p q : Sg → Option Nat} (h : SgsMap w B n p) (e : ∀ x, p x = q x) : SgsMap w B n q := by
  obtain rfl : p = q := funext e
  exact h
theorem turnedS {w w' : World} {B base : Nat} (h : w.mapTurned w' B) (hb : base ≤ B) : Below base w w' :=
  (Below.refl base w).grown h.grown (by
    obtain ⟨es, clock, es', clock', hh, rfl⟩ := h
    have := (Array.getElem?_eq_some_iff.1 hh).1
    omega) (fun q hq => by cases hq; exact hb)
section
variable {ops : Array Oper} {rest : List Oper} {o : Oper} {a : Act} {Q : Exit → Act → World → Prop}
theorem wpList_lookS_none (w : World) (hg : o.guard = none) (m x : Operand) (hop : o.op = Op.lookup 276 m x true) (B n : Nat) (p : Sg → Option Nat)
    (hm : a.eval m = .map (some B)) (hown : SgsMap w B n p) (key : Sg) (hx : a.eval x = sgV key) (hk : SgOk key) (hp : p key = none)
    (hK : wpList Tryz.prog ops Q rest (a.put o.dst (.tuple #[.int .i64 0, .bool false])) w) : wpList Tryz.prog ops Q (o :: rest) a w := by
  obtain ⟨D, hD, hat⟩ := hown
  have h1 : Maps.has D (keyS key) = false := by rw [(hat key hk).1, hp]; rfl
  refine wpList_lookup_own_ok_int w hg m x 276 hop 320 3 .i64 keyedS Tryz.underlying276 Tryz.underlying3 (hzeroS w) B n D hm hD _ (keyS key) hx (keyS_mk hk) ?_
  intro c hc _
  rw [atKey_of_not_has h1] at hc
  obtain rfl : c = 0 := by simpa using hc.symm
  rw [h1]
  exact hK
theorem wpList_lookS_some (w : World) (hg : o.guard = none) (m x : Operand) (hop : o.op = Op.lookup 276 m x true) (B n : Nat) (p : Sg → Option Nat)
    (hm : a.eval m = .map (some B)) (hown : SgsMap w B n p) (key : Sg) (hx : a.eval x = sgV key) (hk : SgOk key) (i : Nat) (hp : p key = some i)
    (hK : wpList Tryz.prog ops Q rest (a.put o.dst (.tuple #[.int .i64 (i : Int), .bool true])) w) : wpList Tryz.prog ops Q (o :: rest) a w := by
  obtain ⟨D, hD, hat⟩ := hown
  have h1 : Maps.has D (keyS key) = true := by rw [(hat key hk).1, hp]; rfl
  refine wpList_lookup_own_ok_int w hg m x 276 hop 320 3 .i64 keyedS Tryz.underlying276 Tryz.underlying3 (hzeroS w) B n D hm hD _ (keyS key) hx (keyS_mk hk) ?_
  intro c hc _
  rw [(hat key hk).2 i hp] at hc
  obtain rfl : c = (i : Int) := by simpa using hc.symm
  rw [h1]
  exact hK
theorem wpList_putS (w : World) (hg : o.guard = none) (m x v : Operand) (hop : o.op = Op.mapUpdate 276 m x v) (B n : Nat) (p : Sg → Option Nat)
    (hm : a.eval m = .map (some B)) (hown : SgsMap w B n p) (hn : n ≤ 1048576) (key : Sg) (hx : a.eval x = sgV key) (hk : SgOk key) (i : Nat) (hi : i ≤ 1048576) (hv : a.eval v = .int .i64 (i : Int)) (base : Nat) (hbase : base ≤ B)
    (hK : ∀ w', SgsMap w' B (n + 1) (fun y => if sgEq y key = true then some i else p y) → Below base w w' → w.grownBy w' (some B) → wpList Tryz.prog ops Q rest (a.put o.dst undef) w') : wpList Tryz.prog ops Q (o :: rest) a w := by
  obtain ⟨D, hD, hat⟩ := hown
  refine wpList_mapUpdate_in w hg m x v 276 hop 320 3 keyedS Tryz.underlying276 _ B n D hm hD (by unfold maxLen; omega) _ _ (keyS key) hx hv (keyS_mk hk) (.lit (.int .i64 (i : Int))) [] (plainElem_int Tryz.underlying3 (WalkArith.wf_i64 (by omega))) ?_
  intro w' hD' ht
  refine hK w' ⟨_, hD', fun y hy => ?_⟩ (turnedS ht hbase) ht.grown
  by_cases e : y = key
  · subst e
    simp only [sgEq_iff.2 rfl, if_true]
    refine ⟨has_put_same hD.isMap (isKeyS _) _, fun j hj => ?_⟩
    obtain rfl := Option.some.inj hj
    exact atKey_put_same hD.isMap (isKeyS _) _ _
  · simp only [if_neg (fun z => e (sgEq_iff.1 z))]
    rw [has_put_other (keyS_ne hy hk e), atKey_put_other (keyS_ne hy hk e)]
    exact hat y hy
end
end Go.Proofs.YtacninhhkbglaaaGreatDoor
/-
  Lists of flights, copied by the laws.
-/
namespace Go.Proofs.YtacninhhkbglaaaGreatDoor
open Go.ChangeShapes Go.WideShapes Go.ChangeAt Go.RowKit Go.Sort
def blkF : Option Addr → Nat
  | some a => a.block
  | none => 0
def mkFR (x : Fl) (B1 B2 : Nat) : FlR := ⟨some ⟨B1, 0, none⟩, x.hs.length, some ⟨B2, 0, none⟩, x.ws.length⟩
/-- A flight whose lists are its own. -/
def FlOwn (W : World) (x : Fl) (r : FlR) : Prop := ∃ B1 B2, r = mkFR x B1 B2 ∧ QMine W B1 x.hs ∧ WrMine W B2 x.ws ∧ B1 < B2
theorem FlOwn.keep {W W' : World} {x : Fl} {r : FlR} (h : FlOwn W x r) (hb : Below W.heap.size W W') : FlOwn W' x r := by
  obtain ⟨B1, B2, e, h1, h2, h4⟩ := h
  exact ⟨B1, B2, e, h1.keep hb, h2.keep hb, h4⟩
theorem FlOwn.in {W : World} {x : Fl} {r : FlR} (h : FlOwn W x r) : FlIn W x r := by
  obtain ⟨B1, B2, rfl, h1, h2, h4⟩ := h
  exact ⟨.inr ⟨_, _, rfl, h1.at0⟩, h2.in, Nat.le_refl _, Nat.le_refl _⟩
theorem FlOwn.lt {W : World} {x : Fl} {r : FlR} (h : FlOwn W x r) : blkF r.wa < W.heap.size := by
  obtain ⟨B1, B2, rfl, h1, h2, h4⟩ := h
  exact h2.lt
theorem FlOwn.off1 {W : World} {x : Fl} {r : FlR} (h : FlOwn W x r) {b i : Nat} (v : Value) (hne : b < blkF r.ha) : FlOwn (W.setCell ⟨b, i, none⟩ v) x r := by
  obtain ⟨B1, B2, rfl, h1, h2, h4⟩ := h
  have q : b < B1 := hne
  exact ⟨B1, B2, rfl, h1.off1 v (by omega), h2.off1 v (by omega), h4⟩
/-- A list of flights that is its holder's own. -/
structure FlsMine (W : World) (G : Nat) (l : List (Fl × FlR)) : Prop where
  cell : ∀ (i : Nat) q, l[i]? = some q → ∀ j, j < 11 → W.cell? ⟨G, i * 11 + j, none⟩ = (flW q.1 q.2)[j]?
  free : ∀ o, W.frozen? ⟨G, o, none⟩ = false
  lt : G < W.heap.size
  own : ∀ q ∈ l, FlOwn W q.1 q.2
  up : ∀ q ∈ l, G < blkF q.2.ha
  pw : l.Pairwise (fun q q' => blkF q.2.wa < blkF q'.2.ha)
theorem FlsMine.keep {W W' : World} {G : Nat} {l : List (Fl × FlR)} (h : FlsMine W G l) (hb : Below W.heap.size W W') : FlsMine W' G l :=
  ⟨fun i q hq j hj => by rw [hb.cell (p := ⟨G, i * 11 + j, none⟩) h.lt]; exact h.cell i q hq j hj, fun o => by rw [hb.frozen (p := ⟨G, o, none⟩) h.lt]; exact h.free o, Nat.lt_of_lt_of_le h.lt hb.size, fun q hq => (h.own q hq).keep hb, h.up, h.pw⟩
theorem FlsMine.at0 {W : World} {G : Nat} {l : List (Fl × FlR)} (h : FlsMine W G l) : FlsAt W G 0 l := fun i q hq => ⟨fun j hj => by rw [Nat.zero_add]; exact h.cell i q hq j hj, (h.own q (List.mem_of_getElem? hq)).in⟩
theorem FlsMine.in {W : World} {G : Nat} {l : List (Fl × FlR)} (h : FlsMine W G l) : FlsIn W (some ⟨G, 0, none⟩) l := .inr ⟨G, 0, rfl, h.at0⟩
def put11 (X : World) (G k : Nat) (x0 x1 x2 x3 x4 x5 x6 x7 x8 x9 x10 : Value) : World := (((((((((((X.setCell ⟨G, k * 11, none⟩ x0).setCell ⟨G, k * 11 + 1, none⟩ x1).setCell ⟨G, k * 11 + 2, none⟩ x2).setCell ⟨G, k * 11 + 3, none⟩ x3).setCell ⟨G, k * 11 + 4, none⟩ x4).setCell ⟨G, k * 11 + 5, none⟩ x5).setCell ⟨G, k * 11 + 6, none⟩ x6).setCell ⟨G, k * 11 + 7, none⟩ x7).setCell ⟨G, k * 11 + 8, none⟩ x8).setCell ⟨G, k * 11 + 9, none⟩ x9).setCell ⟨G, k * 11 + 10, none⟩ x10)
theorem put11_other (X : World) (G k : Nat) (x0 x1 x2 x3 x4 x5 x6 x7 x8 x9 x10 : Value) (i : Nat) (hi : i < k * 11 ∨ k * 11 + 11 ≤ i) : (put11 X G k x0 x1 x2 x3 x4 x5 x6 x7 x8 x9 x10).cell? ⟨G, i, none⟩ = X.cell? ⟨G, i, none⟩ := by
  unfold put11
  rw [World.cell?_setCell_other _ _ _ _ (hoff_ne (by omega)), World.cell?_setCell_other _ _ _ _ (hoff_ne (by omega)), World.cell?_setCell_other _ _ _ _ (hoff_ne (by omega)), World.cell?_setCell_other _ _ _ _ (hoff_ne (by omega)), World.cell?_setCell_other _ _ _ _ (hoff_ne (by omega)), World.cell?_setCell_other _ _ _ _ (hoff_ne (by omega)), World.cell?_setCell_other _ _ _ _ (hoff_ne (by omega)), World.cell?_setCell_other _ _ _ _ (hoff_ne (by omega)), World.cell?_setCell_other _ _ _ _ (hoff_ne (by omega)), World.cell?_setCell_other _ _ _ _ (hoff_ne (by omega)), World.cell?_setCell_other _ _ _ _ (hoff_ne (by omega))]
theorem put11_room {X : World} {G n : Nat} (k : Nat) (x0 x1 x2 x3 x4 x5 x6 x7 x8 x9 x10 : Value) (h : HRoom X G n) : HRoom (put11 X G k x0 x1 x2 x3 x4 x5 x6 x7 x8 x9 x10) G n := (((((((((((h.set _ _).set _ _).set _ _).set _ _).set _ _).set _ _).set _ _).set _ _).set _ _).set _ _).set _ _)
theorem put11_free (X : World) (G k : Nat) (x0 x1 x2 x3 x4 x5 x6 x7 x8 x9 x10 : Value) (p : Addr) : (put11 X G k x0 x1 x2 x3 x4 x5 x6 x7 x8 x9 x10).frozen? p = X.frozen? p := by
  unfold put11
  rw [World.frozen?_setCell, World.frozen?_setCell, World.frozen?_setCell, World.frozen?_setCell, World.frozen?_setCell, World.frozen?_setCell, World.frozen?_setCell, World.frozen?_setCell, World.frozen?_setCell, World.frozen?_setCell, World.frozen?_setCell]
theorem put11_size (X : World) (G k : Nat) (x0 x1 x2 x3 x4 x5 x6 x7 x8 x9 x10 : Value) : (put11 X G k x0 x1 x2 x3 x4 x5 x6 x7 x8 x9 x10).heap.size = X.heap.size := by
  unfold put11
  simp
theorem put11_below {w X : World} {n G : Nat} (k : Nat) (x0 x1 x2 x3 x4 x5 x6 x7 x8 x9 x10 : Value) (h : Below n w X) (hn : n ≤ G) : Below n w (put11 X G k x0 x1 x2 x3 x4 x5 x6 x7 x8 x9 x10) := (((((((((((h.setCell hn _).setCell hn _).setCell hn _).setCell hn _).setCell hn _).setCell hn _).setCell hn _).setCell hn _).setCell hn _).setCell hn _).setCell hn _)
theorem put11_cells {X : World} {G n : Nat} (k : Nat) (x0 x1 x2 x3 x4 x5 x6 x7 x8 x9 x10 : Value) (h : HRoom X G n) (hk : k * 11 + 11 ≤ n) : (put11 X G k x0 x1 x2 x3 x4 x5 x6 x7 x8 x9 x10).cell? ⟨G, k * 11, none⟩ = some x0 ∧ (put11 X G k x0 x1 x2 x3 x4 x5 x6 x7 x8 x9 x10).cell? ⟨G, k * 11 + 1, none⟩ = some x1 ∧ (put11 X G k x0 x1 x2 x3 x4 x5 x6 x7 x8 x9 x10).cell? ⟨G, k * 11 + 2, none⟩ = some x2 ∧ (put11 X G k x0 x1 x2 x3 x4 x5 x6 x7 x8 x9 x10).cell? ⟨G, k * 11 + 3, none⟩ = some x3 ∧ (put11 X G k x0 x1 x2 x3 x4 x5 x6 x7 x8 x9 x10).cell? ⟨G, k * 11 + 4, none⟩ = some x4 ∧ (put11 X G k x0 x1 x2 x3 x4 x5 x6 x7 x8 x9 x10).cell? ⟨G, k * 11 + 5, none⟩ = some x5 ∧ (put11 X G k x0 x1 x2 x3 x4 x5 x6 x7 x8 x9 x10).cell? ⟨G, k * 11 + 6, none⟩ = some x6 ∧ (put11 X G k x0 x1 x2 x3 x4 x5 x6 x7 x8 x9 x10).cell? ⟨G, k * 11 + 7, none⟩ = some x7 ∧ (put11 X G k x0 x1 x2 x3 x4 x5 x6 x7 x8 x9 x10).cell? ⟨G, k * 11 + 8, none⟩ = some x8 ∧ (put11 X G k x0 x1 x2 x3 x4 x5 x6 x7 x8 x9 x10).cell? ⟨G, k * 11 + 9, none⟩ = some x9 ∧ (put11 X G k x0 x1 x2 x3 x4 x5 x6 x7 x8 x9 x10).cell? ⟨G, k * 11 + 10, none⟩ = some x10 := by
  refine ⟨?_, ?_, ?_, ?_, ?_, ?_, ?_, ?_, ?_, ?_, ?_⟩
  · obtain ⟨⟨u, g⟩, _⟩ := h (k * 11) (by omega)
    unfold put11
    rw [World.cell?_setCell_other _ _ _ _ (hoff_ne (by omega)), World.cell?_setCell_other _ _ _ _ (hoff_ne (by omega)), World.cell?_setCell_other _ _ _ _ (hoff_ne (by omega)), World.cell?_setCell_other _ _ _ _ (hoff_ne (by omega)), World.cell?_setCell_other _ _ _ _ (hoff_ne (by omega)), World.cell?_setCell_other _ _ _ _ (hoff_ne (by omega)), World.cell?_setCell_other _ _ _ _ (hoff_ne (by omega)), World.cell?_setCell_other _ _ _ _ (hoff_ne (by omega)), World.cell?_setCell_other _ _ _ _ (hoff_ne (by omega)), World.cell?_setCell_other _ _ _ _ (hoff_ne (by omega))]
    exact World.cell?_setCell_same _ _ _ g
  · obtain ⟨⟨u, g⟩, _⟩ := (h.set ⟨G, k * 11, none⟩ x0) (k * 11 + 1) (by omega)
    unfold put11
    rw [World.cell?_setCell_other _ _ _ _ (hoff_ne (by omega)), World.cell?_setCell_other _ _ _ _ (hoff_ne (by omega)), World.cell?_setCell_other _ _ _ _ (hoff_ne (by omega)), World.cell?_setCell_other _ _ _ _ (hoff_ne (by omega)), World.cell?_setCell_other _ _ _ _ (hoff_ne (by omega)), World.cell?_setCell_other _ _ _ _ (hoff_ne (by omega)), World.cell?_setCell_other _ _ _ _ (hoff_ne (by omega)), World.cell?_setCell_other _ _ _ _ (hoff_ne (by omega)), World.cell?_setCell_other _ _ _ _ (hoff_ne (by omega))]
    exact World.cell?_setCell_same _ _ _ g
  · obtain ⟨⟨u, g⟩, _⟩ := ((h.set ⟨G, k * 11, none⟩ x0).set ⟨G, k * 11 + 1, none⟩ x1) (k * 11 + 2) (by omega)
    unfold put11
    rw [World.cell?_setCell_other _ _ _ _ (hoff_ne (by omega)), World.cell?_setCell_other _ _ _ _ (hoff_ne (by omega)), World.cell?_setCell_other _ _ _ _ (hoff_ne (by omega)), World.cell?_setCell_other _ _ _ _ (hoff_ne (by omega)), World.cell?_setCell_other _ _ _ _ (hoff_ne (by omega)), World.cell?_setCell_other _ _ _ _ (hoff_ne (by omega)), World.cell?_setCell_other _ _ _ _ (hoff_ne (by omega)), World.cell?_setCell_other _ _ _ _ (hoff_ne (by omega))]
    exact World.cell?_setCell_same _ _ _ g
  · obtain ⟨⟨u, g⟩, _⟩ := (((h.set ⟨G, k * 11, none⟩ x0).set ⟨G, k * 11 + 1, none⟩ x1).set ⟨G, k * 11 + 2, none⟩ x2) (k * 11 + 3) (by omega)
    unfold put11
    rw [World.cell?_setCell_other _ _ _ _ (hoff_ne (by omega)), World.cell?_setCell_other _ _ _ _ (hoff_ne (by omega)), World.cell?_setCell_other _ _ _ _ (hoff_ne (by omega)), World.cell?_setCell_other _ _ _ _ (hoff_ne (by omega)), World.cell?_setCell_other _ _ _ _ (hoff_ne (by omega)), World.cell?_setCell_other _ _ _ _ (hoff_ne (by omega)), World.cell?_setCell_other _ _ _ _ (hoff_ne (by omega))]
    exact World.cell?_setCell_same _ _ _ g
  · obtain ⟨⟨u, g⟩, _⟩ := ((((h.set ⟨G, k * 11, none⟩ x0).set ⟨G, k * 11 + 1, none⟩ x1).set ⟨G, k * 11 + 2, none⟩ x2).set ⟨G, k * 11 + 3, none⟩ x3) (k * 11 + 4) (by omega)
    unfold put11
    rw [World.cell?_setCell_other _ _ _ _ (hoff_ne (by omega)), World.cell?_setCell_other _ _ _ _ (hoff_ne (by omega)), World.cell?_setCell_other _ _ _ _ (hoff_ne (by omega)), World.cell?_setCell_other _ _ _ _ (hoff_ne (by omega)), World.cell?_setCell_other _ _ _ _ (hoff_ne (by omega)), World.cell?_setCell_other _ _ _ _ (hoff_ne (by omega))]
    exact World.cell?_setCell_same _ _ _ g
  · obtain ⟨⟨u, g⟩, _⟩ := (((((h.set ⟨G, k * 11, none⟩ x0).set ⟨G, k * 11 + 1, none⟩ x1).set ⟨G, k * 11 + 2, none⟩ x2).set ⟨G, k * 11 + 3, none⟩ x3).set ⟨G, k * 11 + 4, none⟩ x4) (k * 11 + 5) (by omega)
    unfold put11
    rw [World.cell?_setCell_other _ _ _ _ (hoff_ne (by omega)), World.cell?_setCell_other _ _ _ _ (hoff_ne (by omega)), World.cell?_setCell_other _ _ _ _ (hoff_ne (by omega)), World.cell?_setCell_other _ _ _ _ (hoff_ne (by omega)), World.cell?_setCell_other _ _ _ _ (hoff_ne (by omega))]
    exact World.cell?_setCell_same _ _ _ g
  · obtain ⟨⟨u, g⟩, _⟩ := ((((((h.set ⟨G, k * 11, none⟩ x0).set ⟨G, k * 11 + 1, none⟩ x1).set ⟨G, k * 11 + 2, none⟩ x2).set ⟨G, k * 11 + 3, none⟩ x3).set ⟨G, k * 11 + 4, none⟩ x4).set ⟨G, k * 11 + 5, none⟩ x5) (k * 11 + 6) (by omega)
    unfold put11
    rw [World.cell?_setCell_other _ _ _ _ (hoff_ne (by omega)), World.cell?_setCell_other _ _ _ _ (hoff_ne (by omega)), World.cell?_setCell_other _ _ _ _ (hoff_ne (by omega)), World.cell?_setCell_other _ _ _ _ (hoff_ne (by omega))]
    exact World.cell?_setCell_same _ _ _ g
  · obtain ⟨⟨u, g⟩, _⟩ := (((((((h.set ⟨G, k * 11, none⟩ x0).set ⟨G, k * 11 + 1, none⟩ x1).set ⟨G, k * 11 + 2, none⟩ x2).set ⟨G, k * 11 + 3, none⟩ x3).set ⟨G, k * 11 + 4, none⟩ x4).set ⟨G, k * 11 + 5, none⟩ x5).set ⟨G, k * 11 + 6, none⟩ x6) (k * 11 + 7) (by omega)
    unfold put11
    rw [World.cell?_setCell_other _ _ _ _ (hoff_ne (by omega)), World.cell?_setCell_other _ _ _ _ (hoff_ne (by omega)), World.cell?_setCell_other _ _ _ _ (hoff_ne (by omega))]
    exact World.cell?_setCell_same _ _ _ g
  · obtain ⟨⟨u, g⟩, _⟩ := ((((((((h.set ⟨G, k * 11, none⟩ x0).set ⟨G, k * 11 + 1, none⟩ x1).set ⟨G, k * 11 + 2, none⟩ x2).set ⟨G, k * 11 + 3, none⟩ x3).set ⟨G, k * 11 + 4, none⟩ x4).set ⟨G, k * 11 + 5, none⟩ x5).set ⟨G, k * 11 + 6, none⟩ x6).set ⟨G, k * 11 + 7, none⟩ x7) (k * 11 + 8) (by omega)
    unfold put11
    rw [World.cell?_setCell_other _ _ _ _ (hoff_ne (by omega)), World.cell?_setCell_other _ _ _ _ (hoff_ne (by omega))]
    exact World.cell?_setCell_same _ _ _ g
  · obtain ⟨⟨u, g⟩, _⟩ := (((((((((h.set ⟨G, k * 11, none⟩ x0).set ⟨G, k * 11 + 1, none⟩ x1).set ⟨G, k * 11 + 2, none⟩ x2).set ⟨G, k * 11 + 3, none⟩ x3).set ⟨G, k * 11 + 4, none⟩ x4).set ⟨G, k * 11 + 5, none⟩ x5).set ⟨G, k * 11 + 6, none⟩ x6).set ⟨G, k * 11 + 7, none⟩ x7).set ⟨G, k * 11 + 8, none⟩ x8) (k * 11 + 9) (by omega)
    unfold put11
    rw [World.cell?_setCell_other _ _ _ _ (hoff_ne (by omega))]
    exact World.cell?_setCell_same _ _ _ g
  · obtain ⟨⟨u, g⟩, _⟩ := ((((((((((h.set ⟨G, k * 11, none⟩ x0).set ⟨G, k * 11 + 1, none⟩ x1).set ⟨G, k * 11 + 2, none⟩ x2).set ⟨G, k * 11 + 3, none⟩ x3).set ⟨G, k * 11 + 4, none⟩ x4).set ⟨G, k * 11 + 5, none⟩ x5).set ⟨G, k * 11 + 6, none⟩ x6).set ⟨G, k * 11 + 7, none⟩ x7).set ⟨G, k * 11 + 8, none⟩ x8).set ⟨G, k * 11 + 9, none⟩ x9) (k * 11 + 10) (by omega)
    unfold put11
    exact World.cell?_setCell_same _ _ _ g
def putF (X : World) (G k : Nat) (x : Fl) (r : FlR) : World := put11 X G k (.int .i64 x.id) (.string x.key) (.bool x.bk) (.bool x.ot) (.int .i64 x.du) (.bool x.dm) (.string x.m) (.string x.h) (.string x.p) (.slice r.ha x.hs.length r.hc) (.slice r.wa x.ws.length r.wc)
theorem putF_own {X : World} {G k : Nat} {y : Fl} {s : FlR} (x : Fl) (r : FlR) (hk : FlOwn X y s) (h : G < blkF s.ha) : FlOwn (putF X G k x r) y s := (((((((((((hk.off1 _ h).off1 _ h).off1 _ h).off1 _ h).off1 _ h).off1 _ h).off1 _ h).off1 _ h).off1 _ h).off1 _ h).off1 _ h)
theorem FlsMine.put {W : World} {G n : Nat} {l : List (Fl × FlR)} (h : FlsMine W G l) (x : Fl) (r : FlR) (hm : HRoom W G n) (hn : l.length * 11 + 11 ≤ n) (ho : FlOwn W x r) (hu : G < blkF r.ha) (hp : ∀ q ∈ l, blkF q.2.wa < blkF r.ha) : FlsMine (putF W G l.length x r) G (l ++ [(x, r)]) := by
  refine ⟨?_, fun o => ?_, ?_, ?_, ?_, ?_⟩
  · intro i q hq j hj
    have hi : i < l.length + 1 := by have := (List.getElem?_eq_some_iff.1 hq).1; simpa using this
    by_cases e : i = l.length
    · subst e
      rw [List.getElem?_append_right (Nat.le_refl _), Nat.sub_self] at hq
      obtain rfl := Option.some.inj hq
      have c := put11_cells l.length (.int .i64 x.id) (.string x.key) (.bool x.bk) (.bool x.ot) (.int .i64 x.du) (.bool x.dm) (.string x.m) (.string x.h) (.string x.p) (.slice r.ha x.hs.length r.hc) (.slice r.wa x.ws.length r.wc) hm hn
      match j, hj with
      | 0, _ => exact c.1
      | 1, _ => exact c.2.1
      | 2, _ => exact c.2.2.1
      | 3, _ => exact c.2.2.2.1
      | 4, _ => exact c.2.2.2.2.1
      | 5, _ => exact c.2.2.2.2.2.1
      | 6, _ => exact c.2.2.2.2.2.2.1
      | 7, _ => exact c.2.2.2.2.2.2.2.1
      | 8, _ => exact c.2.2.2.2.2.2.2.2.1
      | 9, _ => exact c.2.2.2.2.2.2.2.2.2.1
      | 10, _ => exact c.2.2.2.2.2.2.2.2.2.2
    · rw [List.getElem?_append_left (by omega)] at hq
      have c := h.cell i q hq j hj
      unfold putF
      rw [put11_other _ _ _ _ _ _ _ _ _ _ _ _ _ _ _ (by omega)]
      exact c
  · unfold putF; rw [put11_free]; exact h.free o
  · unfold putF; rw [put11_size]; exact h.lt
  · intro q hq
    rcases List.mem_append.1 hq with hq | hq
    · exact putF_own _ _ (h.own q hq) (h.up q hq)
    · obtain rfl := List.mem_singleton.1 hq
      exact putF_own _ _ ho hu
  · intro q hq
    rcases List.mem_append.1 hq with hq | hq
    · exact h.up q hq
    · obtain rfl := List.mem_singleton.1 hq
      exact hu
  · refine List.pairwise_append.2 ⟨h.pw, List.pairwise_singleton _ _, fun q hq q' hq' => ?_⟩
    obtain rfl := List.mem_singleton.1 hq'
    exact hp q hq
theorem toFlight_q (w : World) (q : Fl × FlR) (h1 : q.1.hs.length ≤ 1048576) (h2 : q.1.ws.length ≤ 1048576) (hi : FlIn w q.1 q.2) :
    Calls Tryz.prog 26 #[.agg #[.int .i64 q.1.id, .string q.1.key, .bool q.1.bk, .bool q.1.ot, .int .i64 q.1.du, .bool q.1.dm, .string q.1.m, .string q.1.h, .string q.1.p, .slice q.2.ha q.1.hs.length q.2.hc, .slice q.2.wa q.1.ws.length q.2.wc]] w fun e w' => (∃ r, e = .returned (flV q.1 r) ∧ FlOwn w' q.1 r ∧ w.heap.size < blkF r.ha) ∧ Below w.heap.size w w' := by
  refine (toFlight_any w _ _ _ _ _ _ _ _ _ _ _ _ _ _ _ h1 h2 hi.h hi.k).mono ?_
  rintro ee w' ⟨⟨B2, rfl, a, b, d⟩, hb⟩
  exact ⟨⟨mkFR q.1 (w.heap.size + 6) B2, rfl, ⟨_, B2, rfl, a, b, d⟩, by show w.heap.size < w.heap.size + 6; omega⟩, hb⟩
theorem infoFlight : (Tryz.prog.info? 86).map (fun i => (i.zero, i.size, i.bytes)) = some (some (.agg #[.int .i64 0, .string ⟨#[]⟩, .bool false, .bool false, .int .i64 0, .bool false, .string ⟨#[]⟩, .string ⟨#[]⟩, .string ⟨#[]⟩, .slice none 0 0, .slice none 0 0]), 11, 144) := by kernel_rfl
set_option maxHeartbeats 8000000 in
theorem toFlightS_any (w : World) (a : Option Addr) (cap : Nat) (l : List (Fl × FlR)) (hl : l.length ≤ 1048576) (hi : FlsIn w a l) (hf : ∀ q ∈ l, FlFit q.1) :
    Calls Tryz.prog 47 #[.slice a l.length cap] w fun e w' => e = .returned (.slice (some ⟨w.heap.size, 0, none⟩) l.length l.length) ∧ (∃ l', l'.map Prod.fst = l.map Prod.fst ∧ FlsMine w' w.heap.size l') ∧ Below w.heap.size w w' := by
  have HI : Hid (FlsIn w a l) := hi
  have HFT : Hid (∀ q ∈ l, FlFit q.1) := hf
  obtain ⟨i0, hi0, hz0, hz1, hz2⟩ := info_parts infoFlight
  clear hi hf
  generalize hn : l.length = n at *
  have HN : Hid (l.length = n) := hn
  clear hn
  go_enter Tryz.func47, Tryz.ntmps47
  go_wp2_with (at_make; refine wpList_make_full w rfl _ _ 46 rfl w.heap.size 86 i0 _ 11 Tryz.underlying46 hi0 hz0 hz1 _ _ _ _ n rfl rfl rfl rfl (by rw [hz2]; omega) (by unfold maxLen; omega) (Nat.le_refl _) ?_; intro w1 hown hgrow)
  have HR1 : Hid (HRoom w1 w.heap.size (n * 11) ∧ FlsMine w1 w.heap.size [] ∧ Below w.heap.size w w1) := by
    refine ⟨fun j hj => ⟨?_, hown.frozenAt j⟩, ⟨fun i q hq => by simp at hq, fun o => hown.frozenAt o, ?lt, fun q hq => by simp at hq, fun q hq => by simp at hq, List.Pairwise.nil⟩, (Below.refl _ _).grown hgrow (Nat.le_refl _) (fun q hq => by cases hq)⟩
    case lt =>
      obtain ⟨_, h | ⟨g, c, cur, e, _, hh, _⟩⟩ := hown
      · cases h.1
      · simp only [Value.slice.injEq, Option.some.injEq] at e
        have e1 := congrArg Addr.block e.1
        simp only at e1
        rw [e1]
        exact (Array.getElem?_eq_some_iff.1 hh).1
    have h1 := hown.cellAt j hj
    have h2 : j < (madeCells (Value.agg #[.int .i64 0, .string ⟨#[]⟩, .bool false, .bool false, .int .i64 0, .bool false, .string ⟨#[]⟩, .string ⟨#[]⟩, .string ⟨#[]⟩, .slice none 0 0, .slice none 0 0]).cells (n * 11)).toList.length := by have := hown.1; omega
    exact ⟨_, h1.trans (List.getElem?_eq_getElem h2)⟩
  clear hown hgrow
  go_loopw [4] (fun i wr => ∃ (k : Nat) (l' : List (Fl × FlR)), k ≤ n ∧ i = .int .i64 k ∧ l'.length = k ∧ l'.map Prod.fst = (l.map Prod.fst).take k ∧ FlsMine wr w.heap.size l' ∧ HRoom wr w.heap.size (n * 11) ∧ Below w.heap.size w wr) (fun i _ => n - (intOf i).toNat)
  case atStart => exact ⟨0, [], Nat.zero_le _, rfl, rfl, by simp, HR1.out.2.1, HR1.out.1, HR1.out.2.2⟩
  case round =>
    obtain ⟨k, l', hk, rfl, hlen, hmap, hmine, hroom, hb⟩ := hrel
    have HL : Hid (l'.length = k) := hlen
    have HMP : Hid (l'.map Prod.fst = (l.map Prod.fst).take k) := hmap
    clear HR1 hlen hmap
    by_cases hlt : k < n
    · obtain ⟨q, hr⟩ : ∃ r, l[k]? = some r := ⟨l[k]'(by have := HN.out; omega), List.getElem?_eq_getElem _⟩
      rcases HI.out with h | ⟨b, off, rfl, hat⟩
      · subst h; simp at hr
      have PC := (hat.keep hb).cells hr
      have ft := HFT.out q (List.mem_of_getElem? hr)
      have C : Hid (Calls Tryz.prog 26 #[.agg #[.int .i64 q.1.id, .string q.1.key, .bool q.1.bk, .bool q.1.ot, .int .i64 q.1.du, .bool q.1.dm, .string q.1.m, .string q.1.h, .string q.1.p, .slice q.2.ha q.1.hs.length q.2.hc, .slice q.2.wa q.1.ws.length q.2.wc]] wr fun ee w' => (∃ r, ee = .returned (flV q.1 r) ∧ FlOwn w' q.1 r ∧ wr.heap.size < blkF r.ha) ∧ Below wr.heap.size wr w') := toFlight_q wr q ft.h ft.w ((hat.keep hb).in hr)
      have HMP2 : Hid (∀ r, (l' ++ [(q.1, r)]).map Prod.fst = (l.map Prod.fst).take (k + 1)) := by
        intro r
        obtain ⟨hk2, hr2⟩ := List.getElem?_eq_some_iff.1 hr
        rw [List.map_append, HMP.out, List.take_succ_eq_append_getElem (by simpa using hk2)]
        simp [hr2]
      have HA : Hid (FlsMine wr w.heap.size l') := hmine
      have HM : Hid (HRoom wr w.heap.size (n * 11)) := hroom
      have HB : Hid (Below w.heap.size w wr) := hb
      have g : (k : Int) < n := by omega
      clear hmine hroom hr hat HI hb ft HFT HMP
      have p0 := PC.1
      have p1 := PC.2.1
      have p2 := PC.2.2.1
      have p3 := PC.2.2.2.1
      have p4 := PC.2.2.2.2.1
      have p5 := PC.2.2.2.2.2.1
      have p6 := PC.2.2.2.2.2.2.1
      have p7 := PC.2.2.2.2.2.2.2.1
      have p8 := PC.2.2.2.2.2.2.2.2.1
      have p9 := PC.2.2.2.2.2.2.2.2.2.1
      have p10 := PC.2.2.2.2.2.2.2.2.2.2
      clear PC
      obtain ⟨x, r0⟩ := q
      simp only at p0 p1 p2 p3 p4 p5 p6 p7 p8 p9 p10 C HMP2
      go_wp2_with fail
      refine C.out.mono ?_
      rintro e w2 ⟨⟨r, rfl, ho, hu⟩, hb2⟩
      have hm2 := HM.out.keep hb2
      have hsz : w.heap.size < wr.heap.size := HA.out.lt
      have HP : Hid (FlsMine (putF w2 w.heap.size k x r) w.heap.size (l' ++ [(x, r)]) ∧ HRoom (putF w2 w.heap.size k x r) w.heap.size (n * 11) ∧ Below w.heap.size w (putF w2 w.heap.size k x r)) := by
        have hbb := HB.out.trans (hb2.mono HB.out.size)
        refine ⟨?_, put11_room _ _ _ _ _ _ _ _ _ _ _ _ hm2, put11_below _ _ _ _ _ _ _ _ _ _ _ _ hbb (Nat.le_refl _)⟩
        have hL := HL.out
        have z := (HA.out.keep hb2).put x r hm2 (by rw [hL]; omega) ho (by omega) (fun q hq => Nat.lt_trans ((HA.out.own q hq).lt) hu)
        rw [hL] at z
        exact z
      obtain ⟨⟨u0, g0⟩, f0⟩ := hm2 (k * 11) (by omega)
      obtain ⟨⟨u1, g1⟩, f1⟩ := hm2 (k * 11 + 1) (by omega)
      obtain ⟨⟨u2, g2⟩, f2⟩ := hm2 (k * 11 + 2) (by omega)
      obtain ⟨⟨u3, g3⟩, f3⟩ := hm2 (k * 11 + 3) (by omega)
      obtain ⟨⟨u4, g4⟩, f4⟩ := hm2 (k * 11 + 4) (by omega)
      obtain ⟨⟨u5, g5⟩, f5⟩ := hm2 (k * 11 + 5) (by omega)
      obtain ⟨⟨u6, g6⟩, f6⟩ := hm2 (k * 11 + 6) (by omega)
      obtain ⟨⟨u7, g7⟩, f7⟩ := hm2 (k * 11 + 7) (by omega)
      obtain ⟨⟨u8, g8⟩, f8⟩ := hm2 (k * 11 + 8) (by omega)
      obtain ⟨⟨u9, g9⟩, f9⟩ := hm2 (k * 11 + 9) (by omega)
      obtain ⟨⟨u10, g10⟩, f10⟩ := hm2 (k * 11 + 10) (by omega)
      have HL2 : Hid ((l' ++ [(x, r)]).length = k + 1) := by show _ = _; rw [List.length_append, HL.out]; rfl
      clear HA HM hb2 HB p0 p1 p2 p3 p4 p5 p6 p7 p8 p9 p10 C hm2 HL ho hu
      unfold flV flW
      go_wp2_with fail
      go_roundw
      case rel => exact ⟨k + 1, l' ++ [(x, r)], by omega, by go_num, HL2.out, HMP2.out r, HP.out.1, HP.out.2.1, HP.out.2.2⟩
      case measure => simp [intOf]; omega
    · have HF : Hid (l'.map Prod.fst = l.map Prod.fst ∧ FlsMine wr w.heap.size l') := by
        have e : (l.map Prod.fst).take k = l.map Prod.fst := List.take_of_length_le (by have := HN.out; simp; omega)
        exact ⟨by rw [HMP.out, e], hmine⟩
      clear hmine hroom
      go_wp2_with fail
      go_ret
      exact ⟨rfl, ⟨l', HF.out.1, HF.out.2⟩, hb⟩
end Go.Proofs.YtacninhhkbglaaaGreatDoor
/-
  What the model's slices.Equal over those who wait answers.
-/
namespace Go.Proofs.YtacninhhkbglaaaGreatDoor
open Go.ChangeShapes Go.WideShapes Go.ChangeAt Go.RowKit Go.Sort
def sameR (x y : Wr) : Bool := (x.rq == y.rq) && (x.hd == y.hd) && (x.du == y.du) && (x.lt == y.lt)
def sameRs : List Wr → List Wr → Bool
  | [], [] => true
  | x :: l, y :: m => sameR x y && sameRs l m
  | _, _ => false
theorem guardWaiter (op : BinOp) (a b : Operand) (x y : Array Value) (w : World) : (eqGuard op 91 a b (.agg x) (.agg y)).run Tryz.prog w = .ok () w := run_eqGuard_agg w op 91 a b x y (by kernel_rfl)
theorem neqWaiter (x y : Wr) (w : World) : (binOp .neq 91 (.agg #[.int .i64 x.rq, .bool x.hd, .int .i64 x.du, .bool x.lt]) (.agg #[.int .i64 y.rq, .bool y.hd, .int .i64 y.du, .bool y.lt])).run Tryz.prog w = .ok (.bool (!sameR x y)) w := by
  have u9 := Tryz.underlying2
  have a9 := Tryz.isAgg2
  have z9 := Tryz.sizeOf2
  have u8 := Tryz.underlying4
  have a8 := Tryz.isAgg4
  have z8 := Tryz.sizeOf4
  have hS : Tryz.prog.underlying 91 = some (.struct (Tryz.prog.fieldsOf 91)) := by kernel_rfl
  have hp : Tryz.prog.stoodInHeld 91 = false := by kernel_rfl
  obtain ⟨n1, v1, m1, l1⟩ := x
  obtain ⟨n2, v2, m2, l2⟩ := y
  simp only [sameR]
  rw [run_neq_struct, show (10000 : Nat) = 9999 + 1 from rfl, run_equalIn_agg w 9999 91 _ _ hS hp]
  simp only [Program.fieldsOf, Tryz.underlying91]
  go_simp
  by_cases e1 : n1 = n2 <;> by_cases e3 : m1 = m2 <;> cases v1 <;> cases v2 <;> cases l1 <;> cases l2 <;> simp [e1, e3]
theorem sameRs_lens : ∀ (l m : List Wr), l.length ≠ m.length → sameRs l m = false
  | [], [], h => absurd rfl h
  | [], _ :: _, _ => rfl
  | _ :: _, [], _ => rfl
  | x :: l, y :: m, h => by
    rw [sameRs, sameRs_lens l m (by simpa using h), Bool.and_false]
theorem sameRs_drop {l m : List Wr} {k : Nat} {x y : Wr} (hx : l[k]? = some x) (hy : m[k]? = some y) : sameRs (l.drop k) (m.drop k) = (sameR x y && sameRs (l.drop (k + 1)) (m.drop (k + 1))) := by
  rw [dropWr l k x hx, dropWr m k y hy, sameRs]
end Go.Proofs.YtacninhhkbglaaaGreatDoor
/-
  What the model's SameHeaders and slices.Equal over head lines answer.
-/
namespace Go.Proofs.YtacninhhkbglaaaGreatDoor
open Go.ChangeShapes Go.WideShapes Go.ChangeAt Go.RowKit Go.Sort
def sameH (x y : Hdr) : Bool := (x.name.toList == y.name.toList) && (x.value.toList == y.value.toList)
def sameHs : List Hdr → List Hdr → Bool
  | [], [] => true
  | x :: l, y :: m => sameH x y && sameHs l m
  | _, _ => false
theorem guardHeader (op : BinOp) (a b : Operand) (x y : Array Value) (w : World) : (eqGuard op 287 a b (.agg x) (.agg y)).run Tryz.prog w = .ok () w := run_eqGuard_agg w op 287 a b x y (by kernel_rfl)
theorem neqHeader (x y : Hdr) (w : World) : (binOp .neq 287 (.agg #[.string x.name, .string x.value]) (.agg #[.string y.name, .string y.value])).run Tryz.prog w = .ok (.bool (!sameH x y)) w := by
  have u9 := Tryz.underlying9
  have a9 := Tryz.isAgg9
  have z9 := Tryz.sizeOf9
  have hS : Tryz.prog.underlying 287 = some (.struct (Tryz.prog.fieldsOf 287)) := by kernel_rfl
  have hp : Tryz.prog.stoodInHeld 287 = false := by kernel_rfl
  obtain ⟨n1, v1⟩ := x
  obtain ⟨n2, v2⟩ := y
  simp only [sameH]
  rw [run_neq_struct, show (10000 : Nat) = 9999 + 1 from rfl, run_equalIn_agg w 9999 287 _ _ hS hp]
  simp only [Program.fieldsOf, Tryz.underlying287]
  go_simp
  by_cases e1 : n1.toList = n2.toList <;> by_cases e3 : v1.toList = v2.toList <;> simp [e1, e3]
end Go.Proofs.YtacninhhkbglaaaGreatDoor
/-
  What the model's SameHeaders and slices.Equal over head lines answer, and SameHeaders.
-/
namespace Go.Proofs.YtacninhhkbglaaaGreatDoor
open Go.ChangeShapes Go.WideShapes Go.ChangeAt Go.RowKit Go.Sort
theorem sameHs_lens : ∀ (l m : List Hdr), l.length ≠ m.length → sameHs l m = false
  | [], [], h => absurd rfl h
  | [], _ :: _, _ => rfl
  | _ :: _, [], _ => rfl
  | x :: l, y :: m, h => by
    rw [sameHs, sameHs_lens l m (by simpa using h), Bool.and_false]
theorem sameHs_drop {l m : List Hdr} {k : Nat} {x y : Hdr} (hx : l[k]? = some x) (hy : m[k]? = some y) : sameHs (l.drop k) (m.drop k) = (sameH x y && sameHs (l.drop (k + 1)) (m.drop (k + 1))) := by
  rw [drop_hdr l k x hx, drop_hdr m k y hy, sameHs]
end Go.Proofs.YtacninhhkbglaaaGreatDoor
/-
  What SameRequests and its model answer.
-/
namespace Go.Proofs.YtacninhhkbglaaaGreatDoor
open Go.ChangeShapes Go.WideShapes Go.ChangeAt Go.RowKit
def sameQ (m h p : ByteArray) (l : List Hdr) (m' h' p' : ByteArray) (l' : List Hdr) : Bool := (m.toList == m'.toList) && (h.toList == h'.toList) && (p.toList == p'.toList) && sameHs l l'
end Go.Proofs.YtacninhhkbglaaaGreatDoor
/-
  Two flights, held against each other: pieces.
-/
namespace Go.Proofs.YtacninhhkbglaaaGreatDoor
open Go.ChangeShapes Go.WideShapes Go.ChangeAt Go.RowKit Go.Sort
def sameC (x y : Fl) : Bool := decide (x.id = y.id) && (x.bk == y.bk) && (x.ot == y.ot) && decide (x.du = y.du) && (x.dm == y.dm)
def sameF (x y : Fl) : Bool := sameC x y && ((x.key.toList == y.key.toList) && sameQ x.m x.h x.p x.hs y.m y.h y.p y.hs) && sameRs x.ws y.ws
theorem guardCourse (op : BinOp) (a b : Operand) (x y : Array Value) (w : World) : (eqGuard op 148 a b (.agg x) (.agg y)).run Tryz.prog w = .ok () w := run_eqGuard_agg w op 148 a b x y (by kernel_rfl)
theorem eqlCourse (x y : Fl) (w : World) : (binOp .eql 148 (.agg #[.int .i64 x.id, .bool x.bk, .bool x.ot, .int .i64 x.du, .bool x.dm]) (.agg #[.int .i64 y.id, .bool y.bk, .bool y.ot, .int .i64 y.du, .bool y.dm])).run Tryz.prog w = .ok (.bool (sameC x y)) w := by
  have u9 := Tryz.underlying2
  have a9 := Tryz.isAgg2
  have z9 := Tryz.sizeOf2
  have u8 := Tryz.underlying4
  have a8 := Tryz.isAgg4
  have z8 := Tryz.sizeOf4
  have hS : Tryz.prog.underlying 148 = some (.struct (Tryz.prog.fieldsOf 148)) := by kernel_rfl
  have hp : Tryz.prog.stoodInHeld 148 = false := by kernel_rfl
  obtain ⟨i1, k1, b1, o1, d1, m1, _, _, _, _, _⟩ := x
  obtain ⟨i2, k2, b2, o2, d2, m2, _, _, _, _, _⟩ := y
  simp only [sameC]
  rw [run_eql_struct, show (10000 : Nat) = 9999 + 1 from rfl, run_equalIn_agg w 9999 148 _ _ hS hp]
  simp only [Program.fieldsOf, Tryz.underlying148]
  go_simp
  by_cases e1 : i1 = i2 <;> by_cases e3 : d1 = d2 <;> cases b1 <;> cases b2 <;> cases o1 <;> cases o2 <;> cases m1 <;> cases m2 <;> simp [e1, e3]
set_option maxHeartbeats 2000000 in
theorem trip_any (w : World) (x : Fl) (r : FlR) :
    Calls Tryz.prog 83 #[.agg #[.int .i64 x.id, .string x.key, .bool x.bk, .bool x.ot, .int .i64 x.du, .bool x.dm, .string x.m, .string x.h, .string x.p, .slice r.ha x.hs.length r.hc, .slice r.wa x.ws.length r.wc]] w fun e w' => e = .returned (.agg #[.string x.key, .string x.m, .string x.h, .string x.p, .slice r.ha x.hs.length r.hc, .int .i64 x.id, .bool x.bk, .bool x.ot, .int .i64 x.du, .bool x.dm, .slice r.wa x.ws.length r.wc]) ∧ Below w.heap.size w w' := by
  have HB : Hid (Below w.heap.size w ((w.alloc (.cells #[.int .i64 x.id, .string x.key, .bool x.bk, .bool x.ot, .int .i64 x.du, .bool x.dm, .string x.m, .string x.h, .string x.p, .slice r.ha x.hs.length r.hc, .slice r.wa x.ws.length r.wc] 86)).alloc (.cells #[.string x.key, .string x.m, .string x.h, .string x.p, .slice r.ha x.hs.length r.hc, .int .i64 x.id, .bool x.bk, .bool x.ot, .int .i64 x.du, .bool x.dm, .slice r.wa x.ws.length r.wc] 150))) := ((Below.refl _ _).alloc (Nat.le_refl _) _).alloc (by simp) _
  obtain ⟨id, key, bk, ot, du, dm, m, h, p, hs, ws⟩ := x
  obtain ⟨ha, hc, wa, wc⟩ := r
  simp only at HB ⊢
  generalize hs.length = hl at *
  generalize ws.length = wn at *
  go_enter Tryz.func83, Tryz.ntmps83
  go_wp2_with fail
  exact bodyPost_ret (v := .agg #[.string key, .string m, .string h, .string p, .slice ha hl hc, .int .i64 id, .bool bk, .bool ot, .int .i64 du, .bool dm, .slice wa wn wc]) (by simp [results, Tryz.results83, go_sem]) rfl ⟨rfl, HB.out⟩
end Go.Proofs.YtacninhhkbglaaaGreatDoor
/-
  The signs of a flight, by the program.
-/
namespace Go.Proofs.YtacninhhkbglaaaGreatDoor
open Go.ChangeShapes Go.WideShapes Go.ChangeAt Go.RowKit Go.Sort
def sgW (l : List Sg) : List Value := l.flatMap fun x => [.int .i64 x.kd, .int .i64 x.nm, .string x.tx]
theorem sgW_app (l m : List Sg) : sgW (l ++ m) = sgW l ++ sgW m := by simp [sgW]
theorem sgW_len (l : List Sg) : (sgW l).length = l.length * 3 := by
  induction l with
  | nil => rfl
  | cons x l ih =>
    have : sgW (x :: l) = [.int .i64 x.kd, .int .i64 x.nm, .string x.tx] ++ sgW l := rfl
    rw [this, List.length_append, ih]
    simp
    omega
def pre2 (id : Int) (key : ByteArray) : List Sg := [⟨0, id, ⟨#[]⟩⟩, ⟨1, 0, key⟩]
def wSign (x : Wr) : Sg := ⟨2, x.rq, ⟨#[]⟩⟩
def signsF (x : Fl) : List Sg := ⟨0, x.id, ⟨#[]⟩⟩ :: ⟨1, 0, x.key⟩ :: x.ws.map wSign
theorem signsF_len (x : Fl) : (signsF x).length = 2 + x.ws.length := by simp [signsF]; omega
theorem infoSg : (Tryz.prog.info? 320).map (fun i => (i.zero, i.size, i.bytes)) = some (some (.agg #[.int .i64 0, .int .i64 0, .string ⟨#[]⟩]), 3, 32) := by kernel_rfl
set_option maxRecDepth 100000 in
set_option maxHeartbeats 4000000 in
theorem signs_any (w : World) (x : Fl) (r : FlR) (hl : x.ws.length ≤ 1000) (hi : WrIn w r.wa x.ws) :
    Calls Tryz.prog 242 #[.agg #[.string x.key, .string x.m, .string x.h, .string x.p, .slice r.ha x.hs.length r.hc, .int .i64 x.id, .bool x.bk, .bool x.ot, .int .i64 x.du, .bool x.dm, .slice r.wa x.ws.length r.wc]] w fun e w' => (∃ va vc, e = .returned (.slice va (2 + x.ws.length) vc) ∧ w'.ownsRow w.heap.size 320 3 (.slice va (2 + x.ws.length) vc) (2 + x.ws.length) (sgW (signsF x))) ∧ Below w.heap.size w w' := by
  obtain ⟨i0, hi0, hz0, hz1, hz2⟩ := info_parts infoSg
  obtain ⟨W, hW⟩ : ∃ W, W = w.alloc (.cells #[.string x.key, .string x.m, .string x.h, .string x.p, .slice r.ha x.hs.length r.hc, .int .i64 x.id, .bool x.bk, .bool x.ot, .int .i64 x.du, .bool x.dm, .slice r.wa x.ws.length r.wc] 150) := ⟨_, rfl⟩
  have bW : Below w.heap.size w W := by rw [hW]; exact (Below.refl _ _).alloc (Nat.le_refl _) _
  obtain ⟨V, hV⟩ : ∃ V, V = W.alloc (.cells #[.int .i64 0, .int .i64 x.id, .string ⟨#[]⟩, .int .i64 1, .int .i64 0, .string x.key] 320) := ⟨_, rfl⟩
  have HV : Hid (V = (w.alloc (.cells #[.string x.key, .string x.m, .string x.h, .string x.p, .slice r.ha x.hs.length r.hc, .int .i64 x.id, .bool x.bk, .bool x.ot, .int .i64 x.du, .bool x.dm, .slice r.wa x.ws.length r.wc] 150)).alloc (.cells #[.int .i64 0, .int .i64 x.id, .string ⟨#[]⟩, .int .i64 1, .int .i64 0, .string x.key] 320)) := by show V = _; rw [hV, hW]
  have HB : Hid (Below w.heap.size w V) := by show Below _ _ _; rw [hV]; exact bW.alloc bW.size _
  have HE : Hid (E11 V w.heap.size (.string x.key) (.string x.m) (.string x.h) (.string x.p) (.slice r.ha x.hs.length r.hc) (.int .i64 x.id) (.bool x.bk) (.bool x.ot) (.int .i64 x.du) (.bool x.dm) (.slice r.wa x.ws.length r.wc)) := by
    show E11 V w.heap.size (.string x.key) (.string x.m) (.string x.h) (.string x.p) (.slice r.ha x.hs.length r.hc) (.int .i64 x.id) (.bool x.bk) (.bool x.ot) (.int .i64 x.du) (.bool x.dm) (.slice r.wa x.ws.length r.wc)
    rw [hV, hW]
    exact (E11.new w _ _ _ _ _ _ _ _ _ _ _ _).keep ((Below.refl _ _).alloc (Nat.le_refl _) _)
  have hWs : W.heap.size = w.heap.size + 1 := by rw [hW]; simp
  have O1 : Hid (V.ownsRow w.heap.size 320 3 (.slice (some ⟨w.heap.size + 1, 0, none⟩) 2 2) 2 (sgW (pre2 x.id x.key))) := by
    show V.ownsRow w.heap.size 320 3 (.slice (some ⟨w.heap.size + 1, 0, none⟩) 2 2) 2 (sgW (pre2 x.id x.key))
    rw [hV, ← hWs]
    exact ⟨by simp [sgW, pre2], .inr ⟨W.heap.size, 2, _, rfl, bW.size, heap_alloc_new W _, Nat.le_refl _, by unfold maxLen; omega, by simp, by simp [sgW, pre2]⟩⟩
  have HW2 : Hid (∀ X, Below w.heap.size w X → WrIn X r.wa x.ws) := fun X hX => hi.keep hX
  have HSG : Hid (∀ (l : List Sg), signsF x = l → l = (pre2 x.id x.key) ++ x.ws.map wSign) := fun l e => by rw [← e]; rfl
  clear hV hW bW hWs hi
  obtain ⟨id, key, bk, ot, du, dm, m, h, p, hs, ws⟩ := x
  obtain ⟨ha, hc, wa, wc⟩ := r
  simp only at HV HE O1 HW2 HSG hl ⊢
  generalize hn : ws.length = n at *
  have HN : Hid (ws.length = n) := hn
  clear hn
  generalize hs.length = hl' at *
  go_enter Tryz.func242, Tryz.ntmps242
  go_upto_region 2 with fail
  rw [← HV.out]
  clear HV
  have q10 := HE.out.c10
  go_wp2_with fail
  clear q10 HE
  go_loopw [3, 18] (fun v i wr => ∃ k : Nat, k ≤ n ∧ i = .int .i64 k ∧ wr.ownsRow w.heap.size 320 3 v (2 + k) (sgW (pre2 id key ++ (ws.take k).map wSign)) ∧ Below w.heap.size w wr) (fun _ i _ => n - (intOf i).toNat)
  case atStart => exact ⟨0, Nat.zero_le _, rfl, by simpa using O1.out, HB.out⟩
  case round =>
    obtain ⟨k, hk, rfl, hrow, hb⟩ := hrel
    obtain ⟨va, vc, rfl, _⟩ := row_form hrow
    clear O1 HB
    by_cases hlt : k < n
    · obtain ⟨y, hr⟩ : ∃ y, ws[k]? = some y := ⟨ws[k]'(by have := HN.out; omega), List.getElem?_eq_getElem _⟩
      rcases HW2.out wr hb with e | ⟨b', off', er, hat⟩
      · rw [e] at hr; simp at hr
      obtain ⟨p0, p1, p2, p3⟩ := hat k y hr
      rw [er]
      have g : (k : Int) < n := by omega
      have g0 : (0 : Int) ≤ k := by omega
      obtain ⟨yr, yh, yd, yl⟩ := y
      simp only at p0 p1 p2 p3
      obtain ⟨X2, hX2⟩ : ∃ X, X = (wr.alloc (.cells #[.int .i64 yr, .bool yh, .int .i64 yd, .bool yl] 91)).alloc (.cells #[.int .i64 2, .int .i64 yr, .string ⟨#[]⟩] 320) := ⟨_, rfl⟩
      have b2 : Below wr.heap.size wr X2 := by rw [hX2]; exact ((Below.refl _ _).alloc (Nat.le_refl _) _).alloc (by simp) _
      have R2 : Hid (X2.ownsRow w.heap.size 320 3 (.slice va (2 + k) vc) (2 + k) (sgW (pre2 id key ++ (ws.take k).map wSign)) ∧ Below w.heap.size w X2) := ⟨row_below hrow b2, hb.trans (b2.mono hb.size)⟩
      have HX2 : Hid (X2 = (wr.alloc (.cells #[.int .i64 yr, .bool yh, .int .i64 yd, .bool yl] 91)).alloc (.cells #[.int .i64 2, .int .i64 yr, .string ⟨#[]⟩] 320)) := hX2
      have N3 : Hid (1 = 0 ∨ ∃ ad, some (⟨wr.heap.size + 1, 0, none⟩ : Addr) = some ad ∧ ∀ j u, ([Value.int .i64 2, Value.int .i64 yr, Value.string ⟨#[]⟩])[j]? = some u → X2.cell? (ad.add j) = some u) := by
        refine .inr ⟨_, rfl, fun j u hj => ?_⟩
        have ad : (⟨wr.heap.size + 1, 0, none⟩ : Addr).add j = ⟨wr.heap.size + 1, j, none⟩ := by unfold Addr.add; split <;> simp_all
        rw [ad, hX2]
        have hsz : (wr.alloc (.cells #[.int .i64 yr, .bool yh, .int .i64 yd, .bool yl] 91)).heap.size = wr.heap.size + 1 := by simp
        rw [← hsz, World.cell?_alloc_mark]
        match j, hj with
        | 0, hj => simp at hj; subst hj; simp
        | 1, hj => simp at hj; subst hj; simp
        | 2, hj => simp at hj; subst hj; simp
      have HT : Hid (sgW (pre2 id key ++ (ws.take k).map wSign) ++ [.int .i64 2, .int .i64 yr, .string ⟨#[]⟩] = sgW (pre2 id key ++ (ws.take (k + 1)).map wSign)) := by
        show _ = _
        obtain ⟨hk2, he2⟩ := List.getElem?_eq_some_iff.1 hr
        rw [List.take_succ_eq_append_getElem hk2, he2, List.map_append, ← List.append_assoc]
        rw [sgW_app (pre2 id key ++ (ws.take k).map wSign) (List.map wSign [⟨yr, yh, yd, yl⟩])]
        rfl
      rw [HX2.out] at R2 N3
      clear hrow hat hr b2 hX2 hb HX2
      go_wp2_with (at_builtin; refine wpList_plain rfl fun _ hK => wp_append_in _ (.tmp 22) (.tmp 26) 317 320 rfl i0 _ 3 32 Tryz.underlying317 hi0 hz0 hz1 hz2 rfl (by omega) w.heap.size _ (2 + k) (sgW (pre2 id key ++ (ws.take k).map wSign)) rfl R2.out.1 (some ⟨wr.heap.size + 1, 0, none⟩) 1 1 [.int .i64 2, .int .i64 yr, .string ⟨#[]⟩] rfl rfl N3.out (by simp [Value.oneCell']) (by unfold maxLen; omega) (by omega) R2.out.2.size (fun v' w' h1 h2 _ => hK _ _ ?_))
      have HF : Hid (w'.ownsRow w.heap.size 320 3 v' (2 + (k + 1)) (sgW (pre2 id key ++ (ws.take (k + 1)).map wSign)) ∧ Below w.heap.size w w') := by
        rw [HT.out] at h1
        exact ⟨by rw [← Nat.add_assoc]; exact h1, R2.out.2.trans h2⟩
      clear h1 h2 R2 N3 p0 p1 p2 p3
      go_wp2_with fail
      go_roundw
      case rel => exact ⟨k + 1, by omega, by go_num, HF.out.1, HF.out.2⟩
      case measure => simp [intOf]; omega
    · have hkn : k = n := by omega
      subst hkn
      have HF : Hid (wr.ownsRow w.heap.size 320 3 (.slice va (2 + k) vc) (2 + k) (sgW (signsF ⟨id, key, bk, ot, du, dm, m, h, p, hs, ws⟩))) := by
        have e : ws.take k = ws := List.take_of_length_le (by have := HN.out; omega)
        rw [e] at hrow
        rw [HSG.out _ rfl]
        exact hrow
      clear hrow
      go_wp2_with fail
      go_ret
      exact ⟨⟨va, vc, rfl, HF.out⟩, hb⟩
end Go.Proofs.YtacninhhkbglaaaGreatDoor
/-
  What stands in a list of flights, by its sign.
-/
namespace Go.Proofs.YtacninhhkbglaaaGreatDoor
open Go.ChangeShapes Go.WideShapes Go.ChangeAt Go.RowKit Go.Sort
def tabS (at' : Nat) : List Sg → (Sg → Option Nat) → Bool → (Sg → Option Nat) × Bool
  | [], p, a => (p, a)
  | s :: l, p, a => tabS at' l (fun y => if sgEq y s = true then some at' else p y) (a && (p s).isNone)
def tabF : Nat → List Fl → (Sg → Option Nat) → Bool → (Sg → Option Nat) × Bool
  | _, [], p, a => (p, a)
  | k, x :: l, p, a => tabF (k + 1) l (tabS k (signsF x) p a).1 (tabS k (signsF x) p a).2
theorem tabS_drop {l : List Sg} {j k : Nat} {s : Sg} {p : Sg → Option Nat} {a : Bool} (h : l[j]? = some s) : tabS k (l.drop j) p a = tabS k (l.drop (j + 1)) (fun y => if sgEq y s = true then some k else p y) (a && (p s).isNone) := by
  obtain ⟨hj, rfl⟩ := List.getElem?_eq_some_iff.1 h
  rw [List.drop_eq_getElem_cons hj, tabS]
theorem tabF_drop {l : List (Fl × FlR)} {k : Nat} {q : Fl × FlR} {p : Sg → Option Nat} {a : Bool} (h : l[k]? = some q) : tabF k ((l.map Prod.fst).drop k) p a = tabF (k + 1) ((l.map Prod.fst).drop (k + 1)) (tabS k (signsF q.1) p a).1 (tabS k (signsF q.1) p a).2 := by
  obtain ⟨hj, rfl⟩ := List.getElem?_eq_some_iff.1 h
  rw [List.drop_eq_getElem_cons (i := k) (by simpa using hj), tabF]
  simp
/-- Signs that can be keys. -/
def SgsOk (x : Fl) : Prop := ∀ s ∈ signsF x, SgOk s
theorem sgW_at : ∀ {l : List Sg} {j : Nat} {s : Sg}, l[j]? = some s → (sgW l)[j * 3]? = some (.int .i64 s.kd) ∧ (sgW l)[j * 3 + 1]? = some (.int .i64 s.nm) ∧ (sgW l)[j * 3 + 2]? = some (.string s.tx)
  | [], _, _, h => by simp at h
  | x :: l, 0, s, h => by
    obtain rfl : x = s := by simpa using h
    exact ⟨rfl, rfl, rfl⟩
  | x :: l, j + 1, s, h => by
    have e : sgW (x :: l) = [.int .i64 x.kd, .int .i64 x.nm, .string x.tx] ++ sgW l := rfl
    have ih := sgW_at (l := l) (j := j) (s := s) (by simpa using h)
    have h0 : (j + 1) * 3 = j * 3 + 3 := by omega
    rw [e, h0]
    refine ⟨?_, ?_, ?_⟩
    · rw [List.getElem?_append_right (by simp)]; simpa using ih.1
    · rw [List.getElem?_append_right (by simp)]; simpa [show j * 3 + 3 + 1 - 3 = j * 3 + 1 by omega] using ih.2.1
    · rw [List.getElem?_append_right (by simp)]; simpa [show j * 3 + 3 + 2 - 3 = j * 3 + 2 by omega] using ih.2.2
theorem sg_add (g j : Nat) : (⟨g, 0, none⟩ : Addr).add j = ⟨g, j, none⟩ := by unfold Addr.add; split <;> simp_all
theorem sg_cells {w : World} {base : Nat} {va : Option Addr} {n vc : Nat} {l : List Sg} (h : w.ownsRow base 320 3 (.slice va n vc) n (sgW l)) {j : Nat} {s : Sg} (hj : l[j]? = some s) :
    ∃ g, va = some ⟨g, 0, none⟩ ∧ base ≤ g ∧ g < w.heap.size ∧ w.cell? ⟨g, j * 3, none⟩ = some (.int .i64 s.kd) ∧ w.cell? ⟨g, j * 3 + 1, none⟩ = some (.int .i64 s.nm) ∧ w.cell? ⟨g, j * 3 + 2, none⟩ = some (.string s.tx) := by
  obtain ⟨s1, s2, s3⟩ := sgW_at hj
  have hl := h.1
  have hh := h.2
  rcases hh with ⟨_, h2⟩ | ⟨g, c, cur, e, hg, hh, _⟩
  · rw [h2] at hl
    have : sgW l = [] := List.length_eq_zero_iff.1 (by simpa using hl)
    rw [this] at s1
    simp at s1
  · simp only [Value.slice.injEq] at e
    have hv : (Value.slice va n vc).ownBlock = some g := by rw [e.1]; rfl
    have hc := h.cells hv
    refine ⟨g, e.1, hg, (Array.getElem?_eq_some_iff.1 hh).1, ?_, ?_, ?_⟩
    · have := hc _ _ s1; rw [sg_add] at this; exact this
    · have := hc _ _ s2; rw [sg_add] at this; exact this
    · have := hc _ _ s3; rw [sg_add] at this; exact this
theorem SgsMap.mono {w : World} {B n n' : Nat} {p : Sg → Option Nat} (h : SgsMap w B n p) (hn : n ≤ n') : SgsMap w B n' p := by
  obtain ⟨D, hD, h2⟩ := h
  exact ⟨D, hD.mono hn, h2⟩
def none3 : Sg → Option Nat := fun _ => none
set_option maxRecDepth 100000 in
set_option maxHeartbeats 16000000 in
theorem flightTable_any (w : World) (a : Option Addr) (cap : Nat) (l : List (Fl × FlR)) (hn : l.length ≤ 24) (hok : ∀ q ∈ l, q.1.ws.length ≤ 10 ∧ SgsOk q.1) (hi : FlsIn w a l) :
    Calls Tryz.prog 200 #[.slice a l.length cap] w fun e w' => (∃ M, e = .returned (.tuple #[.map (some M), .bool (tabF 0 (l.map Prod.fst) none3 true).2]) ∧ SgsMap w' M 1000 (tabF 0 (l.map Prod.fst) none3 true).1 ∧ w.heap.size ≤ M) ∧ Below w.heap.size w w' := by
  have HI : Hid (FlsIn w a l) := hi
  have HOK : Hid (∀ q ∈ l, q.1.ws.length ≤ 10 ∧ SgsOk q.1) := hok
  obtain ⟨T, hT⟩ : ∃ T, Hid (tabF 0 (l.map Prod.fst) none3 true = T) := ⟨_, rfl⟩
  rw [hT.out]
  have hmm := @run_makeMap Tryz.prog
  clear hi hok
  generalize hln : l.length = n at *
  have HN : Hid (l.length = n) := hln
  clear hln
  go_enter Tryz.func200, Tryz.ntmps200
  go_wp2_with fail
  go_loopw [5, 15] (fun ap i wr => ∃ (k : Nat) (p : Sg → Option Nat) (b : Bool) (c : Nat), k ≤ n ∧ i = .int .i64 k ∧ ap = .bool b ∧ SgsMap wr w.heap.size c p ∧ c ≤ 12 * k ∧ tabF k ((l.map Prod.fst).drop k) p b = T ∧ Below w.heap.size w wr) (fun _ i _ => n - (intOf i).toNat)
  case atStart => exact ⟨0, none3, true, 0, Nat.zero_le _, rfl, rfl, SgsMap.made w, Nat.zero_le _, by simpa using hT.out, (Below.refl _ _).alloc (Nat.le_refl _) _⟩
  case round =>
    obtain ⟨k, p, b, c, hk, rfl, rfl, hmap, hc, htab, hb⟩ := hrel
    clear hT hmm
    by_cases hlt : k < n
    · obtain ⟨q, hq⟩ : ∃ q, l[k]? = some q := ⟨l[k]'(by have := HN.out; omega), List.getElem?_eq_getElem _⟩
      obtain ⟨hw10, hsok⟩ := HOK.out q (List.mem_of_getElem? hq)
      rcases HI.out with e | ⟨b1, o1, er, hat⟩
      · rw [e] at hq; simp at hq
      have PC := (hat.keep hb).cells hq
      have PI := (hat.keep hb).in hq
      rw [er]
      have g : (k : Int) < n := by omega
      have g0 : (0 : Int) ≤ k := by omega
      have HTB : Hid (tabF (k + 1) ((l.map Prod.fst).drop (k + 1)) (tabS k (signsF q.1) p b).1 (tabS k (signsF q.1) p b).2 = T) := by show _ = T; rw [← tabF_drop hq]; exact htab
      have HTR : Hid (∀ X, Calls Tryz.prog 83 #[.agg #[.int .i64 q.1.id, .string q.1.key, .bool q.1.bk, .bool q.1.ot, .int .i64 q.1.du, .bool q.1.dm, .string q.1.m, .string q.1.h, .string q.1.p, .slice q.2.ha q.1.hs.length q.2.hc, .slice q.2.wa q.1.ws.length q.2.wc]] X fun e w' => e = .returned (.agg #[.string q.1.key, .string q.1.m, .string q.1.h, .string q.1.p, .slice q.2.ha q.1.hs.length q.2.hc, .int .i64 q.1.id, .bool q.1.bk, .bool q.1.ot, .int .i64 q.1.du, .bool q.1.dm, .slice q.2.wa q.1.ws.length q.2.wc]) ∧ Below X.heap.size X w') := fun X => trip_any X q.1 q.2
      have HSG : Hid (∀ X, Below wr.heap.size wr X → Calls Tryz.prog 242 #[.agg #[.string q.1.key, .string q.1.m, .string q.1.h, .string q.1.p, .slice q.2.ha q.1.hs.length q.2.hc, .int .i64 q.1.id, .bool q.1.bk, .bool q.1.ot, .int .i64 q.1.du, .bool q.1.dm, .slice q.2.wa q.1.ws.length q.2.wc]] X fun e w' => (∃ va vc, e = .returned (.slice va (2 + q.1.ws.length) vc) ∧ w'.ownsRow X.heap.size 320 3 (.slice va (2 + q.1.ws.length) vc) (2 + q.1.ws.length) (sgW (signsF q.1))) ∧ Below X.heap.size X w') := fun X hX => signs_any X q.1 q.2 (by omega) (PI.k.keep hX)
      have HSL : Hid ((signsF q.1).length = 2 + q.1.ws.length) := signsF_len q.1
      have HSO : Hid (∀ s ∈ signsF q.1, SgOk s) := hsok
      have HM : Hid (∀ X, Below wr.heap.size wr X → SgsMap X w.heap.size c p) := fun X hX => hmap.below hX
      have HB : Hid (Below w.heap.size w wr) := hb
      obtain ⟨TS, hTS⟩ : ∃ z, Hid (tabS k (signsF q.1) p b = z) := ⟨_, rfl⟩
      rw [hTS.out] at HTB
      have hTS' : Hid (tabS k ((signsF q.1).drop 0) p b = TS) := hTS.out
      have p0 := PC.1
      have p1 := PC.2.1
      have p2 := PC.2.2.1
      have p3 := PC.2.2.2.1
      have p4 := PC.2.2.2.2.1
      have p5 := PC.2.2.2.2.2.1
      have p6 := PC.2.2.2.2.2.2.1
      have p7 := PC.2.2.2.2.2.2.2.1
      have p8 := PC.2.2.2.2.2.2.2.2.1
      have p9 := PC.2.2.2.2.2.2.2.2.2.1
      have p10 := PC.2.2.2.2.2.2.2.2.2.2
      clear PC PI hq hat hsok htab hmap hb hTS
      obtain ⟨⟨id, key, bk, ot, du, dm, mt, ho, pa, hs, ws⟩, ⟨ha, hcc, wa, wc⟩⟩ := q
      simp only at p0 p1 p2 p3 p4 p5 p6 p7 p8 p9 p10 HTR HSG HSL hw10
      generalize signsF ⟨id, key, bk, ot, du, dm, mt, ho, pa, hs, ws⟩ = sl at *
      generalize hs.length = hl at *
      generalize ws.length = wn at *
      obtain ⟨W2, hW2⟩ : ∃ X, X = wr.alloc (.cells #[.int .i64 id, .string key, .bool bk, .bool ot, .int .i64 du, .bool dm, .string mt, .string ho, .string pa, .slice ha hl hcc, .slice wa wn wc] 86) := ⟨_, rfl⟩
      have HW2 : Hid (W2 = wr.alloc (.cells #[.int .i64 id, .string key, .bool bk, .bool ot, .int .i64 du, .bool dm, .string mt, .string ho, .string pa, .slice ha hl hcc, .slice wa wn wc] 86)) := hW2
      have B2 : Hid (Below wr.heap.size wr W2) := by show Below _ _ _; rw [hW2]; exact (Below.refl _ _).alloc (Nat.le_refl _) _
      clear hW2
      go_wp2_with fail
      rw [← HW2.out]
      clear HW2 p0 p1 p2 p3 p4 p5 p6 p7 p8 p9 p10
      refine (HTR.out _).mono ?_
      rintro e0 w3 ⟨rfl, hb3⟩
      have B3 : Hid (Below wr.heap.size wr w3) := B2.out.trans (hb3.mono B2.out.size)
      clear hb3 B2
      go_wp2_with fail
      refine (HSG.out _ B3.out).mono ?_
      rintro e0 w4 ⟨⟨va, vc, rfl, hrow⟩, hb4⟩
      have B4 : Hid (Below wr.heap.size wr w4) := B3.out.trans (hb4.mono B3.out.size)
      obtain ⟨G, hG⟩ : ∃ G, w3.heap.size = G := ⟨_, rfl⟩
      rw [hG] at hrow
      have HG : Hid (w.heap.size < G) := by have := (HM.out _ B3.out).lt; show _ < _; omega
      have HR : Hid (w4.ownsRow G 320 3 (.slice va (2 + wn) vc) (2 + wn) (sgW sl)) := hrow
      have M4 : Hid (SgsMap w4 w.heap.size c p ∧ Below w.heap.size w w4) := ⟨HM.out _ B4.out, HB.out.trans (B4.out.mono HB.out.size)⟩
      clear hb4 hrow B3 B4 hG HM HSG HTR HB
      go_wp2_with fail
      obtain ⟨wo, hwo⟩ : ∃ wo : World, wo = wr := ⟨_, rfl⟩
      subst hwo
      go_loopw [5, 24] (fun ap i wr => ∃ (j : Nat) (p' : Sg → Option Nat) (b' : Bool) (c' : Nat), j ≤ 2 + wn ∧ i = .int .i64 j ∧ ap = .bool b' ∧ SgsMap wr w.heap.size c' p' ∧ c' ≤ 12 * k + j ∧ tabS k (sl.drop j) p' b' = TS ∧ wr.ownsRow G 320 3 (.slice va (2 + wn) vc) (2 + wn) (sgW sl) ∧ Below w.heap.size w wr) (fun _ i _ => 2 + wn - (intOf i).toNat)
      case atStart => exact ⟨0, p, b, c, Nat.zero_le _, rfl, rfl, M4.out.1, by omega, hTS'.out, HR.out, M4.out.2⟩
      case round =>
        obtain ⟨j, p', b', c', hj, rfl, rfl, hmap', hc', htab', hrow', hb'⟩ := hrel
        clear M4 HR hTS'
        by_cases hlj : j < 2 + wn
        · obtain ⟨s, hs'⟩ : ∃ s, sl[j]? = some s := ⟨sl[j]'(by have := HSL.out; omega), List.getElem?_eq_getElem _⟩
          have hok := HSO.out s (List.mem_of_getElem? hs')
          obtain ⟨gb, rfl, hgb, hglt, s1, s2, s3⟩ := sg_cells hrow' hs'
          have HT2 : Hid (tabS k (sl.drop (j + 1)) (fun y => if sgEq y s = true then some k else p' y) (b' && (p' s).isNone) = TS) := by show _ = TS; rw [← tabS_drop hs']; exact htab'
          have HOKS : Hid (SgOk s) := hok
          have gj : (j : Int) < 2 + wn := by omega
          have gj0 : (0 : Int) ≤ j := by omega
          have HR2 : Hid (wr.ownsRow G 320 3 (.slice (some ⟨gb, 0, none⟩) (2 + wn) vc) (2 + wn) (sgW sl)) := hrow'
          have HB2 : Hid (Below w.heap.size w wr) := hb'
          have HM2 : Hid (SgsMap (wr.alloc (.cells #[.int .i64 s.kd, .int .i64 s.nm, .string s.tx] 320)) w.heap.size c' p') := hmap'.below ((Below.refl _ _).alloc (Nat.le_refl _) _)
          have HNE : Hid (∀ q', (Value.slice (some ⟨gb, 0, none⟩) (2 + wn) vc).ownBlock = some q' → q' ≠ w.heap.size) := fun q' hq' => by
            have e : gb = q' := by simpa [Value.ownBlock] using hq'
            have := HG.out
            omega
          clear hrow' hb' hmap' htab' hok hs'
          obtain ⟨kd, nm, tx⟩ := s
          simp only at s1 s2 s3 HM2
          cases hps : p' ⟨kd, nm, tx⟩ with
          | none =>
            rw [hps] at HT2
            simp only [Option.isNone_none, Bool.and_true] at HT2
            go_wp2_with (first | (at_lookup; refine wpList_lookS_none _ rfl _ _ rfl w.heap.size c' p' rfl HM2.out ⟨kd, nm, tx⟩ rfl HOKS.out hps ?_) | (at_mapUpdate; refine wpList_putS _ rfl _ _ _ rfl w.heap.size c' p' rfl HM2.out (by omega) ⟨kd, nm, tx⟩ rfl HOKS.out k (by omega) rfl w.heap.size (Nat.le_refl _) ?_; intro w5 HM5 hb5 hg5))
            have HF : Hid (w5.ownsRow G 320 3 (.slice (some ⟨gb, 0, none⟩) (2 + wn) vc) (2 + wn) (sgW sl) ∧ Below w.heap.size w w5) := by
              have al : Below wr.heap.size wr (wr.alloc (.cells #[.int .i64 kd, .int .i64 nm, .string tx] 320)) := (Below.refl _ _).alloc (Nat.le_refl _) _
              refine ⟨World.ownsRow.kept (row_below HR2.out al) hg5 (by right; intro e; exact HNE.out _ e rfl), (HB2.out.trans (al.mono HB2.out.size)).trans hb5⟩
            have HM6 : Hid (SgsMap w5 w.heap.size (c' + 1) (fun y => if sgEq y ⟨kd, nm, tx⟩ = true then some k else p' y)) := HM5
            clear HM5 hb5 hg5 HM2 HR2 HB2 s1 s2 s3
            go_wp2_with fail
            go_roundw
            case rel => exact ⟨j + 1, _, _, c' + 1, by omega, by go_num, rfl, HM6.out, by omega, HT2.out, HF.out.1, HF.out.2⟩
            case measure => simp [intOf]; omega
          | some i =>
            rw [hps] at HT2
            simp only [Option.isNone_some, Bool.and_false] at HT2
            go_wp2_with (first | (at_lookup; refine wpList_lookS_some _ rfl _ _ rfl w.heap.size c' p' rfl HM2.out ⟨kd, nm, tx⟩ rfl HOKS.out i hps ?_) | (at_mapUpdate; refine wpList_putS _ rfl _ _ _ rfl w.heap.size c' p' rfl HM2.out (by omega) ⟨kd, nm, tx⟩ rfl HOKS.out k (by omega) rfl w.heap.size (Nat.le_refl _) ?_; intro w5 HM5 hb5 hg5))
            have HF : Hid (w5.ownsRow G 320 3 (.slice (some ⟨gb, 0, none⟩) (2 + wn) vc) (2 + wn) (sgW sl) ∧ Below w.heap.size w w5) := by
              have al : Below wr.heap.size wr (wr.alloc (.cells #[.int .i64 kd, .int .i64 nm, .string tx] 320)) := (Below.refl _ _).alloc (Nat.le_refl _) _
              refine ⟨World.ownsRow.kept (row_below HR2.out al) hg5 (by right; intro e; exact HNE.out _ e rfl), (HB2.out.trans (al.mono HB2.out.size)).trans hb5⟩
            have HM6 : Hid (SgsMap w5 w.heap.size (c' + 1) (fun y => if sgEq y ⟨kd, nm, tx⟩ = true then some k else p' y)) := HM5
            clear HM5 hb5 hg5 HM2 HR2 HB2 s1 s2 s3
            go_wp2_with fail
            go_roundw
            case rel => exact ⟨j + 1, _, _, c' + 1, by omega, by go_num, rfl, HM6.out, by omega, HT2.out, HF.out.1, HF.out.2⟩
            case measure => simp [intOf]; omega
        · have hjn : sl.drop j = [] := List.drop_of_length_le (by have := HSL.out; omega)
          rw [hjn, tabS] at htab'
          have HF : Hid (SgsMap wr w.heap.size c' p' ∧ tabF (k + 1) ((l.map Prod.fst).drop (k + 1)) p' b' = T ∧ Below w.heap.size w wr) := by
            have e1 : TS.1 = p' := by rw [← htab']
            have e2 : TS.2 = b' := by rw [← htab']
            have := HTB.out
            rw [e1, e2] at this
            exact ⟨hmap', this, hb'⟩
          clear hmap' htab' hrow' hb'
          go_wp2_with fail
          go_roundw
          case rel => exact ⟨k + 1, p', b', c', by omega, by go_num, rfl, HF.out.1, by omega, HF.out.2.1, HF.out.2.2⟩
          case measure => simp [intOf]; omega
    · have hd : (l.map Prod.fst).drop k = [] := List.drop_of_length_le (by have := HN.out; simp; omega)
      rw [hd, tabF] at htab
      have HF : Hid (SgsMap wr w.heap.size 1000 T.1 ∧ T.2 = b) := by
        rw [← htab]
        exact ⟨hmap.mono (by omega), rfl⟩
      clear hmap htab
      go_wp2_with fail
      exact bodyPost_ret (v := .tuple #[.map (some w.heap.size), .bool b]) (by simp [results, Tryz.results200, go_sem]) rfl ⟨⟨w.heap.size, by rw [HF.out.2], HF.out.1, Nat.le_refl _⟩, hb⟩
set_option maxHeartbeats 2000000 in
theorem areApart_any (w : World) (a : Option Addr) (cap : Nat) (l : List (Fl × FlR)) (hn : l.length ≤ 24) (hok : ∀ q ∈ l, q.1.ws.length ≤ 10 ∧ SgsOk q.1) (hi : FlsIn w a l) :
    Calls Tryz.prog 130 #[.slice a l.length cap] w fun e w' => e = .returned (.bool (tabF 0 (l.map Prod.fst) none3 true).2) ∧ Below w.heap.size w w' := by
  have C := flightTable_any w a cap l hn hok hi
  clear hok hi
  generalize (tabF 0 (l.map Prod.fst) none3 true) = T at *
  generalize l.length = n at *
  go_enter Tryz.func130, Tryz.ntmps130
  go_wp2_with fail
  refine C.mono ?_
  rintro e w1 ⟨⟨M, rfl, _, _⟩, hb1⟩
  have HB : Hid (Below w.heap.size w w1) := hb1
  clear hb1 C
  go_wp2_with fail
  go_ret
  exact ⟨rfl, HB.out⟩
end Go.Proofs.YtacninhhkbglaaaGreatDoor
/-
  The fault of a flight, plainly.
-/
namespace Go.Proofs.YtacninhhkbglaaaGreatDoor
open Go.ChangeShapes Go.WideShapes Go.ChangeAt Go.RowKit Go.Sort
def waitOk (x : Wr) : Bool := timeB x.rq && timeB x.du
def nodR (l : List Wr) : Bool := decide ((l.map Wr.rq).Nodup)
theorem nodR_iff (l : List Wr) : nodR l = true ↔ ∀ (i j : Nat) x y, j < i → l[i]? = some x → l[j]? = some y → x.rq ≠ y.rq := by
  unfold nodR
  rw [decide_eq_true_eq, List.Nodup, List.pairwise_iff_getElem]
  constructor
  · intro h i j x y hji hx hy e
    obtain ⟨hi, rfl⟩ := List.getElem?_eq_some_iff.1 hx
    obtain ⟨hj, rfl⟩ := List.getElem?_eq_some_iff.1 hy
    exact h j i (by simpa using hj) (by simpa using hi) hji (by simpa using e.symm)
  · intro h i j hi hj hij
    simp only [List.length_map] at hi hj
    simp only [List.getElem_map]
    exact fun e => h j i _ _ hij (List.getElem?_eq_getElem hj) (List.getElem?_eq_getElem hi) e.symm
theorem nodR_no {l : List Wr} {i j : Nat} {x y : Wr} (hji : j < i) (hx : l[i]? = some x) (hy : l[j]? = some y) (h : x.rq = y.rq) : nodR l = false := by
  cases e : nodR l with
  | false => rfl
  | true => exact absurd h ((nodR_iff l).1 e i j x y hji hx hy)
def allOk (l : List Wr) : Bool := l.all waitOk
theorem allOk_iff (l : List Wr) : allOk l = true ↔ ∀ (i : Nat) x, l[i]? = some x → waitOk x = true := by
  unfold allOk
  rw [List.all_eq_true]
  constructor
  · intro h i x hx
    exact h x (List.mem_of_getElem? hx)
  · intro h x hx
    obtain ⟨i, hi⟩ := List.getElem?_of_mem hx
    exact h i x hi
theorem allOk_no {l : List Wr} {i : Nat} {x : Wr} (hx : l[i]? = some x) (h : waitOk x = false) : allOk l = false := by
  cases e : allOk l with
  | false => rfl
  | true => rw [(allOk_iff l).1 e i x hx] at h; cases h
/-- The code of a flight's fault, of the answers to what is asked of it. -/
def flC5 (t : Bool) (ks : Nat) (rq : Int) (ot : Bool) (du : Int) (n : Nat) (ok nd : Bool) : Int :=
  if t = false then 3 else if ks < 1 ∨ 500 < ks then 2 else if rq ≠ 0 then rq else if ot = false ∧ du ≠ 0 then 8 else if 10 < n then 2 else if ok = false then 3 else if nd = false then 6 else 0
def flC (x : Fl) : Int := flC5 (timeB x.id && timeB x.du) x.key.size (reqC x.m x.h x.p x.hs) x.ot x.du x.ws.length (allOk x.ws) (nodR x.ws)
theorem flC_zero {x : Fl} (h : flC x = 0) : timeB x.id = true ∧ timeB x.du = true ∧ 1 ≤ x.key.size ∧ x.key.size ≤ 500 ∧ reqC x.m x.h x.p x.hs = 0 ∧ ¬ (x.ot = false ∧ x.du ≠ 0) ∧ x.ws.length ≤ 10 ∧ allOk x.ws = true ∧ nodR x.ws = true := by
  unfold flC flC5 at h
  split at h
  · cases h
  · rename_i h1
    split at h
    · cases h
    · rename_i h2
      split at h
      · rename_i h3; exact absurd h h3
      · rename_i h3
        split at h
        · cases h
        · rename_i h4
          split at h
          · cases h
          · rename_i h5
            split at h
            · cases h
            · rename_i h6
              split at h
              · cases h
              · rename_i h7
                have h1' : (timeB x.id && timeB x.du) = true := by simpa using h1
                rw [Bool.and_eq_true] at h1'
                exact ⟨h1'.1, h1'.2, by omega, by omega, by simpa using h3, h4, by omega, by simpa using h6, by simpa using h7⟩
end Go.Proofs.YtacninhhkbglaaaGreatDoor
/-
  What ExpireWaiters answers.
-/
namespace Go.Proofs.YtacninhhkbglaaaGreatDoor
open Go.ChangeShapes Go.WideShapes Go.ChangeAt Go.RowKit Go.Sort
def exC (fc now : Int) : Int := if ¬ fc = 0 then fc else if timeB now = false then 3 else 0
def exI (c x : Int) : Int := if c = 0 then x else 0
def exS (c : Int) (s : ByteArray) : ByteArray := if c = 0 then s else ⟨#[]⟩
def exB (c : Int) (b : Bool) : Bool := if c = 0 then b else false
def exL {α : Type} (c : Int) (l : List α) : List α := if c = 0 then l else []
theorem exC_fl {fc now : Int} (h : ¬ fc = 0) : exC fc now = fc := by rw [exC, if_pos h]
theorem exC_time {fc now : Int} (h : fc = 0) (h2 : timeB now = false) : exC fc now = 3 := by rw [exC, if_neg (by simp [h]), if_pos h2]
theorem exC_ok {fc now : Int} (h : fc = 0) (h2 : timeB now = true) : exC fc now = 0 := by rw [exC, if_neg (by simp [h]), if_neg (by simp [h2])]
def ExRes (x : Fl) (now : Int) (w w' : World) (e : Ending) : Prop :=
  ∃ ra rn rk wa wn wk ga gn gk, e = .returned (.agg #[.int .i64 (exC (flC x) now), .int .i64 (exI (exC (flC x) now) x.id), .string (exS (exC (flC x) now) x.key), .bool (exB (exC (flC x) now) x.bk), .bool (exB (exC (flC x) now) x.ot), .int .i64 (exI (exC (flC x) now) x.du), .bool (exB (exC (flC x) now) x.dm), .string (exS (exC (flC x) now) x.m), .string (exS (exC (flC x) now) x.h), .string (exS (exC (flC x) now) x.p), .slice ra rn rk, .slice wa wn wk, .slice ga gn gk]) ∧ At w.heap.size w'.heap.size (RW (exL (exC (flC x) now) x.hs) (exL (exC (flC x) now) (leftR now x.ws)) (exL (exC (flC x) now) (goneR now x.ws)) ra rn rk wa wn wk ga gn gk) w'
theorem RW.nil {X : World} {lo : Nat} (h : lo ≤ X.heap.size) : At lo X.heap.size (RW [] [] [] none 0 0 none 0 0 none 0 0) X :=
  ⟨Nat.le_refl _, RW.dep _ _ _ _ _ _ _ _ _ _ _ _ _ _, ⟨rfl, rfl, rfl⟩, lo, lo, lo, lo, lo, lo, ⟨Nat.le_refl _, Nat.le_refl _, h⟩, ⟨Nat.le_refl _, Nat.le_refl _, h⟩, ⟨Nat.le_refl _, Nat.le_refl _, h⟩, ⟨.inl (Nat.le_refl _), .inl (Nat.le_refl _), .inl (Nat.le_refl _)⟩, ⟨h, HL.dep _ _ _ _, .inl ⟨rfl, rfl⟩, fun b e => by cases e⟩, ⟨h, WL.dep _ _ _ _, .inl ⟨rfl, none, 0, rfl⟩⟩, ⟨h, WL.dep _ _ _ _, .inl ⟨rfl, none, 0, rfl⟩⟩⟩
theorem ExRes.bad {x : Fl} {now c : Int} {w w' : World} (h : exC (flC x) now = c) (h0 : ¬ c = 0) (hs : w.heap.size ≤ w'.heap.size) : ExRes x now w w' (.returned (.agg #[.int .i64 c, .int .i64 0, .string ⟨#[]⟩, .bool false, .bool false, .int .i64 0, .bool false, .string ⟨#[]⟩, .string ⟨#[]⟩, .string ⟨#[]⟩, .slice none 0 0, .slice none 0 0, .slice none 0 0])) := by
  subst h
  refine ⟨none, 0, 0, none, 0, 0, none, 0, 0, ?_, ?_⟩
  · simp only [exI, exS, exB, if_neg h0]
  · simp only [exL, if_neg h0]; exact RW.nil hs
theorem ExRes.good {x : Fl} {now : Int} {w w' : World} {ra : Option Addr} {rn rk : Nat} {wa : Option Addr} {wn wk : Nat} {ga : Option Addr} {gn gk : Nat} (h : exC (flC x) now = 0) (k : At w.heap.size w'.heap.size (RW x.hs (leftR now x.ws) (goneR now x.ws) ra rn rk wa wn wk ga gn gk) w') : ExRes x now w w' (.returned (.agg #[.int .i64 0, .int .i64 x.id, .string x.key, .bool x.bk, .bool x.ot, .int .i64 x.du, .bool x.dm, .string x.m, .string x.h, .string x.p, .slice ra rn rk, .slice wa wn wk, .slice ga gn gk])) := by
  refine ⟨ra, rn, rk, wa, wn, wk, ga, gn, gk, ?_, ?_⟩
  · rw [h]; rfl
  · rw [h]; exact k
end Go.Proofs.YtacninhhkbglaaaGreatDoor
/-
  The program's small functions over those who wait.
-/
namespace Go.Proofs.YtacninhhkbglaaaGreatDoor
open Go.ChangeShapes Go.WideShapes Go.ChangeAt Go.RowKit Go.Sort
/-- A function value tells of those who wait whether they are meant, whatever world follows w. -/
structure PredR (w : World) (g : Nat) (lb : Array Value) (p : Wr → Bool) : Prop where
  eg : ∀ args X, (callFunc g args).run Tryz.prog X = .ok (.enter g args) X
  call : ∀ X, Below w.heap.size w X → ∀ r : Wr, Calls Tryz.prog g (#[.agg #[.int .i64 r.rq, .bool r.hd, .int .i64 r.du, .bool r.lt]] ++ lb) X fun e X' => e = .returned (.bool (p r)) ∧ Below X.heap.size X X'
theorem PredR.later {w w' : World} {g : Nat} {lb : Array Value} {p : Wr → Bool} (h : PredR w g lb p) (hb : Below w.heap.size w w') : PredR w' g lb p := ⟨h.eg, fun X hX => h.call X (hb.trans (hX.mono hb.size))⟩
def IdxR (p : Wr → Bool) (l : List Wr) (e : Ending) : Prop := (∃ k : Nat, e = .returned (.int .i64 (k : Int)) ∧ k ≤ 1048576 ∧ l.any p = true) ∨ (e = .returned (.int .i64 (-1)) ∧ l.any p = false)
theorem anyR_of {p : Wr → Bool} {l : List Wr} {k : Nat} {r : Wr} (hr : l[k]? = some r) (h : p r = true) : l.any p = true := List.any_eq_true.2 ⟨r, List.mem_of_getElem? hr, h⟩
theorem anyR_no {p : Wr → Bool} {l : List Wr} (h : ∀ (j : Nat) x, l[j]? = some x → p x = false) : l.any p = false := by
  rw [List.any_eq_false]
  intro x hx
  obtain ⟨i, hi⟩ := List.getElem?_of_mem hx
  rw [h i x hi]; decide
set_option maxRecDepth 100000 in
set_option maxHeartbeats 4000000 in
theorem indexWr_any (w : World) (g : Nat) (lb : Array Value) (p : Wr → Bool) (a : Option Addr) (cap : Nat) (l : List Wr) (hl : l.length ≤ 1048576) (hi : WrIn w a l) (PH : PredR w g lb p) :
    Calls Tryz.prog 217 #[.slice a l.length cap, .func (.func g) #[] lb] w fun e w' => IdxR p l e ∧ Below w.heap.size w w' := by
  have HI : Hid (WrIn w a l) := hi
  have HP : Hid (∀ X, Below w.heap.size w X → ∀ r : Wr, Calls Tryz.prog g (#[.agg #[.int .i64 r.rq, .bool r.hd, .int .i64 r.du, .bool r.lt]] ++ lb) X fun e X' => e = .returned (.bool (p r)) ∧ Below X.heap.size X X') := PH.call
  have eg := PH.eg
  clear hi PH
  obtain ⟨n, hn⟩ : ∃ n, l.length = n := ⟨_, rfl⟩
  rw [hn] at hl ⊢
  have HN : Hid (l.length = n) := hn
  clear hn
  go_enter Tryz.func217, Tryz.ntmps217
  go_wp2_with fail
  go_loopw [8] (fun i wr => ∃ k : Nat, k ≤ n ∧ i = .int .i64 k ∧ (∀ (j : Nat) x, j < k → l[j]? = some x → p x = false) ∧ Below w.heap.size w wr) (fun i _ => n - (intOf i).toNat)
  case atStart => exact ⟨0, Nat.zero_le _, rfl, fun j x h => by omega, Below.refl _ _⟩
  case round =>
    obtain ⟨k, hk, rfl, hA, hb⟩ := hrel
    have HA : Hid (∀ (j : Nat) x, j < k → l[j]? = some x → p x = false) := hA
    clear hA
    by_cases hlt : k < n
    · obtain ⟨r, hr⟩ : ∃ r, l[k]? = some r := ⟨l[k]'(by have := HN.out; omega), List.getElem?_eq_getElem _⟩
      rcases (HI.out.keep hb) with h | ⟨b, off, rfl, hat⟩
      · subst h; simp at hr
      obtain ⟨p0, p1, p2, p3⟩ := hat k r hr
      have CP := HP.out wr hb r
      have gk : (k : Int) < n := by omega
      have gk0 : (0 : Int) ≤ k := by omega
      have HB : Hid (Below w.heap.size w wr) := hb
      cases he : p r
      · rw [he] at CP
        have HF : Hid (∀ (j : Nat) x, j < k + 1 → l[j]? = some x → p x = false) := by
          intro j x hj hjx
          by_cases e : j = k
          · subst e; rw [hr] at hjx; obtain rfl := Option.some.inj hjx; exact he
          · exact HA.out j x (by omega) hjx
        clear hr hat hb HA HI he HP
        generalize r.rq = rt at *
        generalize r.hd = rh at *
        generalize r.du = rg at *
        generalize r.lt = rl at *
        go_wp2_with (go_at_fn g; refine CP.mono ?_; rintro e w2 ⟨rfl, hb2⟩)
        go_roundw
        case rel => exact ⟨k + 1, by omega, by go_num, HF.out, HB.out.trans (hb2.mono HB.out.size)⟩
        case measure => simp [intOf]; omega
      · rw [he] at CP
        have HF : Hid (IdxR p l (.returned (.int .i64 (k : Int)))) := .inl ⟨k, rfl, by omega, anyR_of hr he⟩
        clear hr hat hb HA HI he HP
        generalize r.rq = rt at *
        generalize r.hd = rh at *
        generalize r.du = rg at *
        generalize r.lt = rl at *
        go_wp2_with (go_at_fn g; refine CP.mono ?_; rintro e w2 ⟨rfl, hb2⟩)
        go_ret
        exact ⟨HF.out, HB.out.trans (hb2.mono HB.out.size)⟩
    · have HF : Hid (IdxR p l (.returned (.int .i64 (-1)))) := .inr ⟨rfl, anyR_no fun j x hx => HA.out j x (by have := (List.getElem?_eq_some_iff.1 hx).1; have := HN.out; omega) hx⟩
      have HB : Hid (Below w.heap.size w wr) := hb
      clear HA hb HP HN HI
      go_wp2_with fail
      go_ret
      exact ⟨HF.out, HB.out⟩
set_option maxHeartbeats 400000 in
theorem containsWr_any (w : World) (g : Nat) (lb : Array Value) (p : Wr → Bool) (a : Option Addr) (cap : Nat) (l : List Wr) (hl : l.length ≤ 1048576) (hi : WrIn w a l) (PH : PredR w g lb p) :
    Calls Tryz.prog 166 #[.slice a l.length cap, .func (.func g) #[] lb] w fun e w' => e = .returned (.bool (l.any p)) ∧ Below w.heap.size w w' := by
  have HC : Hid (Calls Tryz.prog 217 #[.slice a l.length cap, .func (.func g) #[] lb] w fun e w' => IdxR p l e ∧ Below w.heap.size w w') := indexWr_any w g lb p a cap l hl hi PH
  clear hi PH
  generalize l.length = n at *
  go_enter Tryz.func166, Tryz.ntmps166
  go_wp2_with fail
  refine HC.out.mono ?_
  rintro e w1 ⟨hI, hb⟩
  clear HC
  rcases hI with ⟨k, rfl, _, h⟩ | ⟨rfl, h⟩
  · have HH : Hid (l.any p = true) := h
    clear h
    go_wp2_with fail
    go_ret
    exact ⟨by rw [HH.out]; rfl, hb⟩
  · have HH : Hid (l.any p = false) := h
    clear h
    go_wp2_with fail
    go_ret
    exact ⟨by rw [HH.out]; rfl, hb⟩
end Go.Proofs.YtacninhhkbglaaaGreatDoor
/-
  Whether somebody waits for a flight: by the program, by the model.
-/
namespace Go.Proofs.YtacninhhkbglaaaGreatDoor
open Go.ChangeShapes Go.WideShapes Go.ChangeAt Go.RowKit Go.Sort
def hasR (l : List Wr) (x : Int) : Bool := l.any fun r => decide (r.rq = x)
theorem reqIs_any (w : World) (K : Nat) (x : Int) (hK : K < w.heap.size) (hc : w.cell? ⟨K, 0, none⟩ = some (.int .i64 x)) : PredR w 168 #[.pointer (some ⟨K, 0, none⟩)] (fun r => decide (r.rq = x)) := by
  refine ⟨enters_of Tryz.func168 (by kernel_rfl) rfl, fun X hX r => ?_⟩
  have c0 : X.cell? ⟨K, 0, none⟩ = some (.int .i64 x) := by rw [hX.cell (p := ⟨K, 0, none⟩) hK]; exact hc
  have hKX : K < X.heap.size := Nat.lt_of_lt_of_le hK hX.size
  clear hX hc hK
  obtain ⟨rq, rh, rd, rl⟩ := r
  simp only
  show Calls Tryz.prog 168 #[.agg #[.int .i64 rq, .bool rh, .int .i64 rd, .bool rl], .pointer (some ⟨K, 0, none⟩)] X _
  by_cases c : rq = x
  · have e : decide (rq = x) = true := by simpa using c
    rw [e]
    subst c
    go_enter Tryz.func168, Tryz.ntmps168
    go_wp2
    go_ret
    exact ⟨rfl, (Below.refl _ _).alloc (Nat.le_refl _) _⟩
  · have e : decide (rq = x) = false := by simpa using c
    have e2 : (rq == x) = false := by simpa using c
    rw [e]
    go_enter Tryz.func168, Tryz.ntmps168
    go_wp2
    go_ret
    exact ⟨rfl, (Below.refl _ _).alloc (Nat.le_refl _) _⟩
set_option maxHeartbeats 4000000 in
theorem waitedBy_any (w : World) (key m h p : ByteArray) (ha : Option Addr) (n hc : Nat) (id : Int) (bk ot : Bool) (du : Int) (dm : Bool) (wa : Option Addr) (wc : Nat) (ws : List Wr) (x : Int) (hl : ws.length ≤ 1048576) (hi : WrIn w wa ws) :
    Calls Tryz.prog 84 #[.agg #[.string key, .string m, .string h, .string p, .slice ha n hc, .int .i64 id, .bool bk, .bool ot, .int .i64 du, .bool dm, .slice wa ws.length wc], .int .i64 x] w fun e w' => e = .returned (.bool (hasR ws x)) ∧ Below w.heap.size w w' := by
  obtain ⟨W, hW⟩ : ∃ W, W = (w.alloc (.cells #[.string key, .string m, .string h, .string p, .slice ha n hc, .int .i64 id, .bool bk, .bool ot, .int .i64 du, .bool dm, .slice wa ws.length wc] 150)).alloc (.cells #[.int .i64 x] 2) := ⟨_, rfl⟩
  have HW : Hid (W = (w.alloc (.cells #[.string key, .string m, .string h, .string p, .slice ha n hc, .int .i64 id, .bool bk, .bool ot, .int .i64 du, .bool dm, .slice wa ws.length wc] 150)).alloc (.cells #[.int .i64 x] 2)) := hW
  have bW : Below w.heap.size w W := by rw [hW]; exact ((Below.refl _ _).alloc (Nat.le_refl _) _).alloc (by simp) _
  have HB : Hid (Below w.heap.size w W) := bW
  have p10 : W.cell? ⟨w.heap.size, 10, none⟩ = some (.slice wa ws.length wc) := by rw [hW]; simp
  have HC : Hid (Calls Tryz.prog 166 #[.slice wa ws.length wc, .func (.func 168) #[] #[.pointer (some ⟨w.heap.size + 1, 0, none⟩)]] W fun e w' => e = .returned (.bool (hasR ws x)) ∧ Below W.heap.size W w') :=
    containsWr_any W _ _ _ wa wc ws hl (hi.keep bW) (reqIs_any W (w.heap.size + 1) x (by rw [hW]; simp) (by rw [hW]; simp))
  clear hi bW hl hW
  generalize hasR ws x = b at *
  generalize ws.length = k at *
  go_enter Tryz.func84, Tryz.ntmps84
  go_upto_region 1 with fail
  rw [← HW.out]
  clear HW
  go_wp2_with fail
  refine HC.out.mono ?_
  rintro e w2 ⟨rfl, hb⟩
  have HB2 := hidL (HB.out.trans (hb.mono HB.out.size))
  clear hb HC
  go_wp2_with fail
  go_ret
  exact ⟨rfl, HB2.out⟩
set_option maxHeartbeats 4000000 in
theorem l12Waits_any (w : World) (a : Option Addr) (cap : Nat) (l : List Wr) (x : Int) (hl : l.length ≤ 1048576) (hi : WrIn w a l) :
    Calls Tryz.prog 77 #[.slice a l.length cap, .int .i64 x] w fun e w' => e = .returned (.bool (hasR l x)) ∧ w' = w := by
  have HI : Hid (WrIn w a l) := hi
  clear hi
  obtain ⟨n, hn⟩ : ∃ n, l.length = n := ⟨_, rfl⟩
  rw [hn] at hl ⊢
  have HN : Hid (l.length = n) := hn
  clear hn
  go_enter Tryz.func77, Tryz.ntmps77
  go_wp2_with fail
  go_loopw [5] (fun i wr => ∃ k : Nat, k ≤ n ∧ i = .int .i64 k ∧ (∀ (j : Nat) r, j < k → l[j]? = some r → ¬ r.rq = x) ∧ wr = w) (fun i _ => n - (intOf i).toNat)
  case atStart => exact ⟨0, Nat.zero_le _, rfl, fun j r h => by omega, rfl⟩
  case round =>
    obtain ⟨k, hk, rfl, hA, rfl⟩ := hrel
    have HA : Hid (∀ (j : Nat) r, j < k → l[j]? = some r → ¬ r.rq = x) := hA
    clear hA
    by_cases hlt : k < n
    · obtain ⟨r, hr⟩ : ∃ r, l[k]? = some r := ⟨l[k]'(by have := HN.out; omega), List.getElem?_eq_getElem _⟩
      rcases HI.out with h | ⟨b, off, rfl, hat⟩
      · subst h; simp at hr
      have p0 := (hat k r hr).1
      have HR : Hid (l[k]? = some r) := hr
      have g : (k : Int) < n := by omega
      clear hr hat
      obtain ⟨rq, rh, rd, rl⟩ := r
      simp only at p0
      by_cases c : rq = x
      · have HF : Hid (hasR l x = true) := List.any_eq_true.2 ⟨_, List.mem_of_getElem? HR.out, by simpa using c⟩
        subst c
        clear HR HA
        go_wp2_with fail
        go_ret
        exact ⟨ret_bool HF.out.symm, rfl⟩
      · have c2 : (rq == x) = false := by simpa using c
        have HA2 : Hid (∀ (j : Nat) r, j < k + 1 → l[j]? = some r → ¬ r.rq = x) := fun j r hj hr => by
          by_cases e : j = k
          · subst e; rw [HR.out] at hr; cases hr; exact c
          · exact HA.out j r (by omega) hr
        clear HR HA
        go_wp2_with fail
        go_roundw
        case rel => exact ⟨k + 1, by omega, by go_num, HA2.out, by trivial⟩
        case measure => simp [intOf]; omega
    · have HF : Hid (hasR l x = false) := by
        show _ = _
        unfold hasR
        rw [List.any_eq_false]
        intro r hr
        obtain ⟨j, hj⟩ := List.getElem?_of_mem hr
        have hj2 := (List.getElem?_eq_some_iff.1 hj).1
        simpa using HA.out j r (by have := HN.out; omega) hj
      clear HA
      go_wp2_with fail
      go_ret
      exact ⟨ret_bool HF.out.symm, rfl⟩
end Go.Proofs.YtacninhhkbglaaaGreatDoor
/-
  What JoinFlight answers.
-/
namespace Go.Proofs.YtacninhhkbglaaaGreatDoor
open Go.ChangeShapes Go.WideShapes Go.ChangeAt Go.RowKit Go.Sort
def jnC (fc rq du room : Int) (ws : List Wr) : Int := if ¬ fc = 0 then fc else if ¬ (timeB rq = true ∧ timeB du = true ∧ inW 1 10 room = true) then 3 else if hasR ws rq = true then 6 else if room ≤ (ws.length : Int) then 7 else 0
theorem jnC_fl {fc rq du room : Int} {ws : List Wr} (h : ¬ fc = 0) : jnC fc rq du room ws = fc := by rw [jnC, if_pos h]
theorem jnC_t1 {fc rq du room : Int} {ws : List Wr} (h : fc = 0) (h2 : timeB rq = false) : jnC fc rq du room ws = 3 := by rw [jnC, if_neg (by simp [h]), if_pos (by simp [h2])]
theorem jnC_t2 {fc rq du room : Int} {ws : List Wr} (h : fc = 0) (h2 : timeB du = false) : jnC fc rq du room ws = 3 := by rw [jnC, if_neg (by simp [h]), if_pos (by simp [h2])]
theorem jnC_t3 {fc rq du room : Int} {ws : List Wr} (h : fc = 0) (h2 : inW 1 10 room = false) : jnC fc rq du room ws = 3 := by rw [jnC, if_neg (by simp [h]), if_pos (by simp [h2])]
theorem jnC_taken {fc rq du room : Int} {ws : List Wr} (h : fc = 0) (h1 : timeB rq = true) (h2 : timeB du = true) (h3 : inW 1 10 room = true) (h4 : hasR ws rq = true) : jnC fc rq du room ws = 6 := by rw [jnC, if_neg (by simp [h]), if_neg (by simp [h1, h2, h3]), if_pos h4]
theorem jnC_full {fc rq du room : Int} {ws : List Wr} (h : fc = 0) (h1 : timeB rq = true) (h2 : timeB du = true) (h3 : inW 1 10 room = true) (h4 : hasR ws rq = false) (h5 : room ≤ (ws.length : Int)) : jnC fc rq du room ws = 7 := by rw [jnC, if_neg (by simp [h]), if_neg (by simp [h1, h2, h3]), if_neg (by simp [h4]), if_pos h5]
theorem jnC_ok {fc rq du room : Int} {ws : List Wr} (h : fc = 0) (h1 : timeB rq = true) (h2 : timeB du = true) (h3 : inW 1 10 room = true) (h4 : hasR ws rq = false) (h5 : ¬ room ≤ (ws.length : Int)) : jnC fc rq du room ws = 0 := by rw [jnC, if_neg (by simp [h]), if_neg (by simp [h1, h2, h3]), if_neg (by simp [h4]), if_neg h5]
def JnRes (x : Fl) (y : Wr) (room : Int) (w w' : World) (e : Ending) : Prop :=
  ∃ ra rn rk wa wn wk, e = .returned (.agg #[.int .i64 (jnC (flC x) y.rq y.du room x.ws), .int .i64 (exI (jnC (flC x) y.rq y.du room x.ws) x.id), .string (exS (jnC (flC x) y.rq y.du room x.ws) x.key), .bool (exB (jnC (flC x) y.rq y.du room x.ws) x.bk), .bool (exB (jnC (flC x) y.rq y.du room x.ws) x.ot), .int .i64 (exI (jnC (flC x) y.rq y.du room x.ws) x.du), .bool (exB (jnC (flC x) y.rq y.du room x.ws) x.dm), .string (exS (jnC (flC x) y.rq y.du room x.ws) x.m), .string (exS (jnC (flC x) y.rq y.du room x.ws) x.h), .string (exS (jnC (flC x) y.rq y.du room x.ws) x.p), .slice ra rn rk, .slice wa wn wk]) ∧ At w.heap.size w'.heap.size (FR (exL (jnC (flC x) y.rq y.du room x.ws) x.hs) (exL (jnC (flC x) y.rq y.du room x.ws) (x.ws ++ [y])) ra rn rk wa wn wk) w'
theorem FR.nil {X : World} {lo : Nat} (h : lo ≤ X.heap.size) : At lo X.heap.size (FR [] [] none 0 0 none 0 0) X :=
  ⟨Nat.le_refl _, FR.dep _ _ _ _ _ _ _ _ _ _, ⟨rfl, rfl⟩, lo, lo, lo, lo, ⟨Nat.le_refl _, Nat.le_refl _, h⟩, ⟨Nat.le_refl _, Nat.le_refl _, h⟩, .inl (Nat.le_refl _), ⟨h, HL.dep _ _ _ _, .inl ⟨rfl, rfl⟩, fun b e => by cases e⟩, ⟨h, WL.dep _ _ _ _, .inl ⟨rfl, none, 0, rfl⟩⟩⟩
theorem JnRes.bad {x : Fl} {y : Wr} {room c : Int} {w w' : World} (h : (jnC (flC x) y.rq y.du room x.ws) = c) (h0 : ¬ c = 0) (hs : w.heap.size ≤ w'.heap.size) : JnRes x y room w w' (.returned (.agg #[.int .i64 c, .int .i64 0, .string ⟨#[]⟩, .bool false, .bool false, .int .i64 0, .bool false, .string ⟨#[]⟩, .string ⟨#[]⟩, .string ⟨#[]⟩, .slice none 0 0, .slice none 0 0])) := by
  subst h
  refine ⟨none, 0, 0, none, 0, 0, ?_, ?_⟩
  · simp only [exI, exS, exB, if_neg h0]
  · simp only [exL, if_neg h0]; exact FR.nil hs
theorem JnRes.good {x : Fl} {y : Wr} {room : Int} {w w' : World} {ra : Option Addr} {rn rk : Nat} {wa : Option Addr} {wn wk : Nat} (h : (jnC (flC x) y.rq y.du room x.ws) = 0) (k : At w.heap.size w'.heap.size (FR x.hs (x.ws ++ [y]) ra rn rk wa wn wk) w') : JnRes x y room w w' (.returned (.agg #[.int .i64 0, .int .i64 x.id, .string x.key, .bool x.bk, .bool x.ot, .int .i64 x.du, .bool x.dm, .string x.m, .string x.h, .string x.p, .slice ra rn rk, .slice wa wn wk])) := by
  refine ⟨ra, rn, rk, wa, wn, wk, ?_, ?_⟩
  · rw [h]; rfl
  · rw [h]; exact k
end Go.Proofs.YtacninhhkbglaaaGreatDoor
/-
  The boxed answer read at once; a waiter loaded at once.
-/
namespace Go.Proofs.YtacninhhkbglaaaGreatDoor
open Go.ChangeShapes Go.WideShapes Go.ChangeAt Go.RowKit
set_option linter.unusedSimpArgs false in
theorem results_bx {P : Program} {fn : Func} {s : Nat} {t : TypeId} {fs : _} {b : Nat} {vs : List Value} {X : World} {tmps : Array Value} (hf : fn.results = #[.cell s t]) (ht : P.underlying t = some (.struct fs)) (hz : (P.info? t).map (·.size) = some vs.length)
    (h1 : tmps.getD s undef = .pointer (some ⟨b, 0, none⟩)) (k1 : ∀ i v, vs[i]? = some v → X.cell? ⟨b, i, none⟩ = some v) : (results fn tmps).run P X = .ok (.agg vs.toArray) X := by
  have hL := loads_of (P := P) k1 rfl
  obtain ⟨inf, hi, hsz⟩ := Option.map_eq_some_iff.1 hz
  have h2 := h1
  rw [Array.getD_eq_getD_getElem?] at h2
  simp [results, hf, loadVar, isAgg, sizeOf, typeInfo, underlying, h1, h2, ht, hi, hsz, hL, go_sem]
end Go.Proofs.YtacninhhkbglaaaGreatDoor
