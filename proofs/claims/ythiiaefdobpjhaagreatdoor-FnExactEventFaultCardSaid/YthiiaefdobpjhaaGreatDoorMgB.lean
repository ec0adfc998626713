/-
  Texts of one claim, one behind the other.
-/
import Derived.BigQuiet
import Derived.Deep.RegionWith
import Derived.Laws.CopyRow
import Derived.Laws.NewBlocks
import Derived.Laws.RangeAny
import Derived.Lib.AppendZerosOnto
import Derived.Lib.Join
import Derived.Lib.LaidTab
import Derived.Lib.Overlaps
import Derived.Lib.QuietBelow
import Derived.Lib.SlTrimSet
import Derived.Lib.SliceRun
import Derived.Lib.Walk
import Derived.MakeChecks
import Derived.Maps.OwnSet
import Derived.StillTail
import Derived.StillTailTactics
import Derived.Stop.LaidErr
import Derived.Test.YthiiaefdobpjhaaGreatDoorRows
import Derived.Test.YthiiaefdobpjhaaGreatDoorMgA
/-
  Fourteen cells that may be written.
-/
namespace Go.Proofs.YthiiaefdobpjhaaGreatDoor
open Go.ChangeShapes Go.WideShapes Go.ChangeAt Go.RowKit
structure E14 (w : World) (b : Nat) (v0 v1 v2 v3 v4 v5 v6 v7 v8 v9 v10 v11 v12 v13 : Value) : Prop where
  c0 : w.cell? ⟨b, 0, none⟩ = some v0
  c1 : w.cell? ⟨b, 1, none⟩ = some v1
  c2 : w.cell? ⟨b, 2, none⟩ = some v2
  c3 : w.cell? ⟨b, 3, none⟩ = some v3
  c4 : w.cell? ⟨b, 4, none⟩ = some v4
  c5 : w.cell? ⟨b, 5, none⟩ = some v5
  c6 : w.cell? ⟨b, 6, none⟩ = some v6
  c7 : w.cell? ⟨b, 7, none⟩ = some v7
  c8 : w.cell? ⟨b, 8, none⟩ = some v8
  c9 : w.cell? ⟨b, 9, none⟩ = some v9
  c10 : w.cell? ⟨b, 10, none⟩ = some v10
  c11 : w.cell? ⟨b, 11, none⟩ = some v11
  c12 : w.cell? ⟨b, 12, none⟩ = some v12
  c13 : w.cell? ⟨b, 13, none⟩ = some v13
  fr : ∀ o, w.frozen? ⟨b, o, none⟩ = false
  lt : b < w.heap.size
section
variable {w w' : World} {b : Nat} {v0 v1 v2 v3 v4 v5 v6 v7 v8 v9 v10 v11 v12 v13 : Value}
theorem E14.keep (k : E14 w b v0 v1 v2 v3 v4 v5 v6 v7 v8 v9 v10 v11 v12 v13) (hb : Below w.heap.size w w') : E14 w' b v0 v1 v2 v3 v4 v5 v6 v7 v8 v9 v10 v11 v12 v13 :=
  ⟨by rw [hb.cell (p := ⟨b, 0, none⟩) k.lt]; exact k.c0, by rw [hb.cell (p := ⟨b, 1, none⟩) k.lt]; exact k.c1, by rw [hb.cell (p := ⟨b, 2, none⟩) k.lt]; exact k.c2, by rw [hb.cell (p := ⟨b, 3, none⟩) k.lt]; exact k.c3, by rw [hb.cell (p := ⟨b, 4, none⟩) k.lt]; exact k.c4, by rw [hb.cell (p := ⟨b, 5, none⟩) k.lt]; exact k.c5, by rw [hb.cell (p := ⟨b, 6, none⟩) k.lt]; exact k.c6, by rw [hb.cell (p := ⟨b, 7, none⟩) k.lt]; exact k.c7, by rw [hb.cell (p := ⟨b, 8, none⟩) k.lt]; exact k.c8, by rw [hb.cell (p := ⟨b, 9, none⟩) k.lt]; exact k.c9, by rw [hb.cell (p := ⟨b, 10, none⟩) k.lt]; exact k.c10, by rw [hb.cell (p := ⟨b, 11, none⟩) k.lt]; exact k.c11, by rw [hb.cell (p := ⟨b, 12, none⟩) k.lt]; exact k.c12, by rw [hb.cell (p := ⟨b, 13, none⟩) k.lt]; exact k.c13, fun o => by rw [hb.frozen (p := ⟨b, o, none⟩) k.lt]; exact k.fr o, Nat.lt_of_lt_of_le k.lt hb.size⟩
theorem E14.new (w : World) (v0 v1 v2 v3 v4 v5 v6 v7 v8 v9 v10 v11 v12 v13 : Value) (t : TypeId) : E14 (w.alloc (.cells #[v0, v1, v2, v3, v4, v5, v6, v7, v8, v9, v10, v11, v12, v13] t)) w.heap.size v0 v1 v2 v3 v4 v5 v6 v7 v8 v9 v10 v11 v12 v13 := ⟨by simp, by simp, by simp, by simp, by simp, by simp, by simp, by simp, by simp, by simp, by simp, by simp, by simp, by simp, fun o => by simp, by simp⟩
theorem E14.off (k : E14 w b v0 v1 v2 v3 v4 v5 v6 v7 v8 v9 v10 v11 v12 v13) {B i : Nat} {x : Value} (h : B ≠ b) : E14 (w.setCell ⟨B, i, none⟩ x) b v0 v1 v2 v3 v4 v5 v6 v7 v8 v9 v10 v11 v12 v13 := by
  have ne : ∀ o : Nat, (⟨B, i, none⟩ : Addr) ≠ ⟨b, o, none⟩ := fun o q => h (congrArg Addr.block q)
  exact ⟨by rw [World.cell?_setCell_other _ _ _ _ (ne _)]; exact k.c0, by rw [World.cell?_setCell_other _ _ _ _ (ne _)]; exact k.c1, by rw [World.cell?_setCell_other _ _ _ _ (ne _)]; exact k.c2, by rw [World.cell?_setCell_other _ _ _ _ (ne _)]; exact k.c3, by rw [World.cell?_setCell_other _ _ _ _ (ne _)]; exact k.c4, by rw [World.cell?_setCell_other _ _ _ _ (ne _)]; exact k.c5, by rw [World.cell?_setCell_other _ _ _ _ (ne _)]; exact k.c6, by rw [World.cell?_setCell_other _ _ _ _ (ne _)]; exact k.c7, by rw [World.cell?_setCell_other _ _ _ _ (ne _)]; exact k.c8, by rw [World.cell?_setCell_other _ _ _ _ (ne _)]; exact k.c9, by rw [World.cell?_setCell_other _ _ _ _ (ne _)]; exact k.c10, by rw [World.cell?_setCell_other _ _ _ _ (ne _)]; exact k.c11, by rw [World.cell?_setCell_other _ _ _ _ (ne _)]; exact k.c12, by rw [World.cell?_setCell_other _ _ _ _ (ne _)]; exact k.c13, fun o => by rw [World.frozen?_setCell]; exact k.fr o, by simpa using k.lt⟩
theorem E14.set0 (k : E14 w b v0 v1 v2 v3 v4 v5 v6 v7 v8 v9 v10 v11 v12 v13) (x : Value) : E14 (w.setCell ⟨b, 0, none⟩ x) b x v1 v2 v3 v4 v5 v6 v7 v8 v9 v10 v11 v12 v13 :=
  ⟨World.cell?_setCell_same _ _ _ k.c0, by rw [World.cell?_setCell_other _ _ _ _ (by intro q; have := congrArg Addr.off q; simp at this)]; exact k.c1, by rw [World.cell?_setCell_other _ _ _ _ (by intro q; have := congrArg Addr.off q; simp at this)]; exact k.c2, by rw [World.cell?_setCell_other _ _ _ _ (by intro q; have := congrArg Addr.off q; simp at this)]; exact k.c3, by rw [World.cell?_setCell_other _ _ _ _ (by intro q; have := congrArg Addr.off q; simp at this)]; exact k.c4, by rw [World.cell?_setCell_other _ _ _ _ (by intro q; have := congrArg Addr.off q; simp at this)]; exact k.c5, by rw [World.cell?_setCell_other _ _ _ _ (by intro q; have := congrArg Addr.off q; simp at this)]; exact k.c6, by rw [World.cell?_setCell_other _ _ _ _ (by intro q; have := congrArg Addr.off q; simp at this)]; exact k.c7, by rw [World.cell?_setCell_other _ _ _ _ (by intro q; have := congrArg Addr.off q; simp at this)]; exact k.c8, by rw [World.cell?_setCell_other _ _ _ _ (by intro q; have := congrArg Addr.off q; simp at this)]; exact k.c9, by rw [World.cell?_setCell_other _ _ _ _ (by intro q; have := congrArg Addr.off q; simp at this)]; exact k.c10, by rw [World.cell?_setCell_other _ _ _ _ (by intro q; have := congrArg Addr.off q; simp at this)]; exact k.c11, by rw [World.cell?_setCell_other _ _ _ _ (by intro q; have := congrArg Addr.off q; simp at this)]; exact k.c12, by rw [World.cell?_setCell_other _ _ _ _ (by intro q; have := congrArg Addr.off q; simp at this)]; exact k.c13, fun o => by rw [World.frozen?_setCell]; exact k.fr o, by simpa using k.lt⟩
theorem E14.set1 (k : E14 w b v0 v1 v2 v3 v4 v5 v6 v7 v8 v9 v10 v11 v12 v13) (x : Value) : E14 (w.setCell ⟨b, 1, none⟩ x) b v0 x v2 v3 v4 v5 v6 v7 v8 v9 v10 v11 v12 v13 :=
  ⟨by rw [World.cell?_setCell_other _ _ _ _ (by intro q; have := congrArg Addr.off q; simp at this)]; exact k.c0, World.cell?_setCell_same _ _ _ k.c1, by rw [World.cell?_setCell_other _ _ _ _ (by intro q; have := congrArg Addr.off q; simp at this)]; exact k.c2, by rw [World.cell?_setCell_other _ _ _ _ (by intro q; have := congrArg Addr.off q; simp at this)]; exact k.c3, by rw [World.cell?_setCell_other _ _ _ _ (by intro q; have := congrArg Addr.off q; simp at this)]; exact k.c4, by rw [World.cell?_setCell_other _ _ _ _ (by intro q; have := congrArg Addr.off q; simp at this)]; exact k.c5, by rw [World.cell?_setCell_other _ _ _ _ (by intro q; have := congrArg Addr.off q; simp at this)]; exact k.c6, by rw [World.cell?_setCell_other _ _ _ _ (by intro q; have := congrArg Addr.off q; simp at this)]; exact k.c7, by rw [World.cell?_setCell_other _ _ _ _ (by intro q; have := congrArg Addr.off q; simp at this)]; exact k.c8, by rw [World.cell?_setCell_other _ _ _ _ (by intro q; have := congrArg Addr.off q; simp at this)]; exact k.c9, by rw [World.cell?_setCell_other _ _ _ _ (by intro q; have := congrArg Addr.off q; simp at this)]; exact k.c10, by rw [World.cell?_setCell_other _ _ _ _ (by intro q; have := congrArg Addr.off q; simp at this)]; exact k.c11, by rw [World.cell?_setCell_other _ _ _ _ (by intro q; have := congrArg Addr.off q; simp at this)]; exact k.c12, by rw [World.cell?_setCell_other _ _ _ _ (by intro q; have := congrArg Addr.off q; simp at this)]; exact k.c13, fun o => by rw [World.frozen?_setCell]; exact k.fr o, by simpa using k.lt⟩
theorem E14.set2 (k : E14 w b v0 v1 v2 v3 v4 v5 v6 v7 v8 v9 v10 v11 v12 v13) (x : Value) : E14 (w.setCell ⟨b, 2, none⟩ x) b v0 v1 x v3 v4 v5 v6 v7 v8 v9 v10 v11 v12 v13 :=
  ⟨by rw [World.cell?_setCell_other _ _ _ _ (by intro q; have := congrArg Addr.off q; simp at this)]; exact k.c0, by rw [World.cell?_setCell_other _ _ _ _ (by intro q; have := congrArg Addr.off q; simp at this)]; exact k.c1, World.cell?_setCell_same _ _ _ k.c2, by rw [World.cell?_setCell_other _ _ _ _ (by intro q; have := congrArg Addr.off q; simp at this)]; exact k.c3, by rw [World.cell?_setCell_other _ _ _ _ (by intro q; have := congrArg Addr.off q; simp at this)]; exact k.c4, by rw [World.cell?_setCell_other _ _ _ _ (by intro q; have := congrArg Addr.off q; simp at this)]; exact k.c5, by rw [World.cell?_setCell_other _ _ _ _ (by intro q; have := congrArg Addr.off q; simp at this)]; exact k.c6, by rw [World.cell?_setCell_other _ _ _ _ (by intro q; have := congrArg Addr.off q; simp at this)]; exact k.c7, by rw [World.cell?_setCell_other _ _ _ _ (by intro q; have := congrArg Addr.off q; simp at this)]; exact k.c8, by rw [World.cell?_setCell_other _ _ _ _ (by intro q; have := congrArg Addr.off q; simp at this)]; exact k.c9, by rw [World.cell?_setCell_other _ _ _ _ (by intro q; have := congrArg Addr.off q; simp at this)]; exact k.c10, by rw [World.cell?_setCell_other _ _ _ _ (by intro q; have := congrArg Addr.off q; simp at this)]; exact k.c11, by rw [World.cell?_setCell_other _ _ _ _ (by intro q; have := congrArg Addr.off q; simp at this)]; exact k.c12, by rw [World.cell?_setCell_other _ _ _ _ (by intro q; have := congrArg Addr.off q; simp at this)]; exact k.c13, fun o => by rw [World.frozen?_setCell]; exact k.fr o, by simpa using k.lt⟩
theorem E14.set3 (k : E14 w b v0 v1 v2 v3 v4 v5 v6 v7 v8 v9 v10 v11 v12 v13) (x : Value) : E14 (w.setCell ⟨b, 3, none⟩ x) b v0 v1 v2 x v4 v5 v6 v7 v8 v9 v10 v11 v12 v13 :=
  ⟨by rw [World.cell?_setCell_other _ _ _ _ (by intro q; have := congrArg Addr.off q; simp at this)]; exact k.c0, by rw [World.cell?_setCell_other _ _ _ _ (by intro q; have := congrArg Addr.off q; simp at this)]; exact k.c1, by rw [World.cell?_setCell_other _ _ _ _ (by intro q; have := congrArg Addr.off q; simp at this)]; exact k.c2, World.cell?_setCell_same _ _ _ k.c3, by rw [World.cell?_setCell_other _ _ _ _ (by intro q; have := congrArg Addr.off q; simp at this)]; exact k.c4, by rw [World.cell?_setCell_other _ _ _ _ (by intro q; have := congrArg Addr.off q; simp at this)]; exact k.c5, by rw [World.cell?_setCell_other _ _ _ _ (by intro q; have := congrArg Addr.off q; simp at this)]; exact k.c6, by rw [World.cell?_setCell_other _ _ _ _ (by intro q; have := congrArg Addr.off q; simp at this)]; exact k.c7, by rw [World.cell?_setCell_other _ _ _ _ (by intro q; have := congrArg Addr.off q; simp at this)]; exact k.c8, by rw [World.cell?_setCell_other _ _ _ _ (by intro q; have := congrArg Addr.off q; simp at this)]; exact k.c9, by rw [World.cell?_setCell_other _ _ _ _ (by intro q; have := congrArg Addr.off q; simp at this)]; exact k.c10, by rw [World.cell?_setCell_other _ _ _ _ (by intro q; have := congrArg Addr.off q; simp at this)]; exact k.c11, by rw [World.cell?_setCell_other _ _ _ _ (by intro q; have := congrArg Addr.off q; simp at this)]; exact k.c12, by rw [World.cell?_setCell_other _ _ _ _ (by intro q; have := congrArg Addr.off q; simp at this)]; exact k.c13, fun o => by rw [World.frozen?_setCell]; exact k.fr o, by simpa using k.lt⟩
theorem E14.set4 (k : E14 w b v0 v1 v2 v3 v4 v5 v6 v7 v8 v9 v10 v11 v12 v13) (x : Value) : E14 (w.setCell ⟨b, 4, none⟩ x) b v0 v1 v2 v3 x v5 v6 v7 v8 v9 v10 v11 v12 v13 :=
  ⟨by rw [World.cell?_setCell_other _ _ _ _ (by intro q; have := congrArg Addr.off q; simp at this)]; exact k.c0, by rw [World.cell?_setCell_other _ _ _ _ (by intro q; have := congrArg Addr.off q; simp at this)]; exact k.c1, by rw [World.cell?_setCell_other _ _ _ _ (by intro q; have := congrArg Addr.off q; simp at this)]; exact k.c2, by rw [World.cell?_setCell_other _ _ _ _ (by intro q; have := congrArg Addr.off q; simp at this)]; exact k.c3, World.cell?_setCell_same _ _ _ k.c4, by rw [World.cell?_setCell_other _ _ _ _ (by intro q; have := congrArg Addr.off q; simp at this)]; exact k.c5, by rw [World.cell?_setCell_other _ _ _ _ (by intro q; have := congrArg Addr.off q; simp at this)]; exact k.c6, by rw [World.cell?_setCell_other _ _ _ _ (by intro q; have := congrArg Addr.off q; simp at this)]; exact k.c7, by rw [World.cell?_setCell_other _ _ _ _ (by intro q; have := congrArg Addr.off q; simp at this)]; exact k.c8, by rw [World.cell?_setCell_other _ _ _ _ (by intro q; have := congrArg Addr.off q; simp at this)]; exact k.c9, by rw [World.cell?_setCell_other _ _ _ _ (by intro q; have := congrArg Addr.off q; simp at this)]; exact k.c10, by rw [World.cell?_setCell_other _ _ _ _ (by intro q; have := congrArg Addr.off q; simp at this)]; exact k.c11, by rw [World.cell?_setCell_other _ _ _ _ (by intro q; have := congrArg Addr.off q; simp at this)]; exact k.c12, by rw [World.cell?_setCell_other _ _ _ _ (by intro q; have := congrArg Addr.off q; simp at this)]; exact k.c13, fun o => by rw [World.frozen?_setCell]; exact k.fr o, by simpa using k.lt⟩
theorem E14.set5 (k : E14 w b v0 v1 v2 v3 v4 v5 v6 v7 v8 v9 v10 v11 v12 v13) (x : Value) : E14 (w.setCell ⟨b, 5, none⟩ x) b v0 v1 v2 v3 v4 x v6 v7 v8 v9 v10 v11 v12 v13 :=
  ⟨by rw [World.cell?_setCell_other _ _ _ _ (by intro q; have := congrArg Addr.off q; simp at this)]; exact k.c0, by rw [World.cell?_setCell_other _ _ _ _ (by intro q; have := congrArg Addr.off q; simp at this)]; exact k.c1, by rw [World.cell?_setCell_other _ _ _ _ (by intro q; have := congrArg Addr.off q; simp at this)]; exact k.c2, by rw [World.cell?_setCell_other _ _ _ _ (by intro q; have := congrArg Addr.off q; simp at this)]; exact k.c3, by rw [World.cell?_setCell_other _ _ _ _ (by intro q; have := congrArg Addr.off q; simp at this)]; exact k.c4, World.cell?_setCell_same _ _ _ k.c5, by rw [World.cell?_setCell_other _ _ _ _ (by intro q; have := congrArg Addr.off q; simp at this)]; exact k.c6, by rw [World.cell?_setCell_other _ _ _ _ (by intro q; have := congrArg Addr.off q; simp at this)]; exact k.c7, by rw [World.cell?_setCell_other _ _ _ _ (by intro q; have := congrArg Addr.off q; simp at this)]; exact k.c8, by rw [World.cell?_setCell_other _ _ _ _ (by intro q; have := congrArg Addr.off q; simp at this)]; exact k.c9, by rw [World.cell?_setCell_other _ _ _ _ (by intro q; have := congrArg Addr.off q; simp at this)]; exact k.c10, by rw [World.cell?_setCell_other _ _ _ _ (by intro q; have := congrArg Addr.off q; simp at this)]; exact k.c11, by rw [World.cell?_setCell_other _ _ _ _ (by intro q; have := congrArg Addr.off q; simp at this)]; exact k.c12, by rw [World.cell?_setCell_other _ _ _ _ (by intro q; have := congrArg Addr.off q; simp at this)]; exact k.c13, fun o => by rw [World.frozen?_setCell]; exact k.fr o, by simpa using k.lt⟩
theorem E14.set6 (k : E14 w b v0 v1 v2 v3 v4 v5 v6 v7 v8 v9 v10 v11 v12 v13) (x : Value) : E14 (w.setCell ⟨b, 6, none⟩ x) b v0 v1 v2 v3 v4 v5 x v7 v8 v9 v10 v11 v12 v13 :=
  ⟨by rw [World.cell?_setCell_other _ _ _ _ (by intro q; have := congrArg Addr.off q; simp at this)]; exact k.c0, by rw [World.cell?_setCell_other _ _ _ _ (by intro q; have := congrArg Addr.off q; simp at this)]; exact k.c1, by rw [World.cell?_setCell_other _ _ _ _ (by intro q; have := congrArg Addr.off q; simp at this)]; exact k.c2, by rw [World.cell?_setCell_other _ _ _ _ (by intro q; have := congrArg Addr.off q; simp at this)]; exact k.c3, by rw [World.cell?_setCell_other _ _ _ _ (by intro q; have := congrArg Addr.off q; simp at this)]; exact k.c4, by rw [World.cell?_setCell_other _ _ _ _ (by intro q; have := congrArg Addr.off q; simp at this)]; exact k.c5, World.cell?_setCell_same _ _ _ k.c6, by rw [World.cell?_setCell_other _ _ _ _ (by intro q; have := congrArg Addr.off q; simp at this)]; exact k.c7, by rw [World.cell?_setCell_other _ _ _ _ (by intro q; have := congrArg Addr.off q; simp at this)]; exact k.c8, by rw [World.cell?_setCell_other _ _ _ _ (by intro q; have := congrArg Addr.off q; simp at this)]; exact k.c9, by rw [World.cell?_setCell_other _ _ _ _ (by intro q; have := congrArg Addr.off q; simp at this)]; exact k.c10, by rw [World.cell?_setCell_other _ _ _ _ (by intro q; have := congrArg Addr.off q; simp at this)]; exact k.c11, by rw [World.cell?_setCell_other _ _ _ _ (by intro q; have := congrArg Addr.off q; simp at this)]; exact k.c12, by rw [World.cell?_setCell_other _ _ _ _ (by intro q; have := congrArg Addr.off q; simp at this)]; exact k.c13, fun o => by rw [World.frozen?_setCell]; exact k.fr o, by simpa using k.lt⟩
theorem E14.set7 (k : E14 w b v0 v1 v2 v3 v4 v5 v6 v7 v8 v9 v10 v11 v12 v13) (x : Value) : E14 (w.setCell ⟨b, 7, none⟩ x) b v0 v1 v2 v3 v4 v5 v6 x v8 v9 v10 v11 v12 v13 :=
  ⟨by rw [World.cell?_setCell_other _ _ _ _ (by intro q; have := congrArg Addr.off q; simp at this)]; exact k.c0, by rw [World.cell?_setCell_other _ _ _ _ (by intro q; have := congrArg Addr.off q; simp at this)]; exact k.c1, by rw [World.cell?_setCell_other _ _ _ _ (by intro q; have := congrArg Addr.off q; simp at this)]; exact k.c2, by rw [World.cell?_setCell_other _ _ _ _ (by intro q; have := congrArg Addr.off q; simp at this)]; exact k.c3, by rw [World.cell?_setCell_other _ _ _ _ (by intro q; have := congrArg Addr.off q; simp at this)]; exact k.c4, by rw [World.cell?_setCell_other _ _ _ _ (by intro q; have := congrArg Addr.off q; simp at this)]; exact k.c5, by rw [World.cell?_setCell_other _ _ _ _ (by intro q; have := congrArg Addr.off q; simp at this)]; exact k.c6, World.cell?_setCell_same _ _ _ k.c7, by rw [World.cell?_setCell_other _ _ _ _ (by intro q; have := congrArg Addr.off q; simp at this)]; exact k.c8, by rw [World.cell?_setCell_other _ _ _ _ (by intro q; have := congrArg Addr.off q; simp at this)]; exact k.c9, by rw [World.cell?_setCell_other _ _ _ _ (by intro q; have := congrArg Addr.off q; simp at this)]; exact k.c10, by rw [World.cell?_setCell_other _ _ _ _ (by intro q; have := congrArg Addr.off q; simp at this)]; exact k.c11, by rw [World.cell?_setCell_other _ _ _ _ (by intro q; have := congrArg Addr.off q; simp at this)]; exact k.c12, by rw [World.cell?_setCell_other _ _ _ _ (by intro q; have := congrArg Addr.off q; simp at this)]; exact k.c13, fun o => by rw [World.frozen?_setCell]; exact k.fr o, by simpa using k.lt⟩
theorem E14.set8 (k : E14 w b v0 v1 v2 v3 v4 v5 v6 v7 v8 v9 v10 v11 v12 v13) (x : Value) : E14 (w.setCell ⟨b, 8, none⟩ x) b v0 v1 v2 v3 v4 v5 v6 v7 x v9 v10 v11 v12 v13 :=
  ⟨by rw [World.cell?_setCell_other _ _ _ _ (by intro q; have := congrArg Addr.off q; simp at this)]; exact k.c0, by rw [World.cell?_setCell_other _ _ _ _ (by intro q; have := congrArg Addr.off q; simp at this)]; exact k.c1, by rw [World.cell?_setCell_other _ _ _ _ (by intro q; have := congrArg Addr.off q; simp at this)]; exact k.c2, by rw [World.cell?_setCell_other _ _ _ _ (by intro q; have := congrArg Addr.off q; simp at this)]; exact k.c3, by rw [World.cell?_setCell_other _ _ _ _ (by intro q; have := congrArg Addr.off q; simp at this)]; exact k.c4, by rw [World.cell?_setCell_other _ _ _ _ (by intro q; have := congrArg Addr.off q; simp at this)]; exact k.c5, by rw [World.cell?_setCell_other _ _ _ _ (by intro q; have := congrArg Addr.off q; simp at this)]; exact k.c6, by rw [World.cell?_setCell_other _ _ _ _ (by intro q; have := congrArg Addr.off q; simp at this)]; exact k.c7, World.cell?_setCell_same _ _ _ k.c8, by rw [World.cell?_setCell_other _ _ _ _ (by intro q; have := congrArg Addr.off q; simp at this)]; exact k.c9, by rw [World.cell?_setCell_other _ _ _ _ (by intro q; have := congrArg Addr.off q; simp at this)]; exact k.c10, by rw [World.cell?_setCell_other _ _ _ _ (by intro q; have := congrArg Addr.off q; simp at this)]; exact k.c11, by rw [World.cell?_setCell_other _ _ _ _ (by intro q; have := congrArg Addr.off q; simp at this)]; exact k.c12, by rw [World.cell?_setCell_other _ _ _ _ (by intro q; have := congrArg Addr.off q; simp at this)]; exact k.c13, fun o => by rw [World.frozen?_setCell]; exact k.fr o, by simpa using k.lt⟩
theorem E14.set9 (k : E14 w b v0 v1 v2 v3 v4 v5 v6 v7 v8 v9 v10 v11 v12 v13) (x : Value) : E14 (w.setCell ⟨b, 9, none⟩ x) b v0 v1 v2 v3 v4 v5 v6 v7 v8 x v10 v11 v12 v13 :=
  ⟨by rw [World.cell?_setCell_other _ _ _ _ (by intro q; have := congrArg Addr.off q; simp at this)]; exact k.c0, by rw [World.cell?_setCell_other _ _ _ _ (by intro q; have := congrArg Addr.off q; simp at this)]; exact k.c1, by rw [World.cell?_setCell_other _ _ _ _ (by intro q; have := congrArg Addr.off q; simp at this)]; exact k.c2, by rw [World.cell?_setCell_other _ _ _ _ (by intro q; have := congrArg Addr.off q; simp at this)]; exact k.c3, by rw [World.cell?_setCell_other _ _ _ _ (by intro q; have := congrArg Addr.off q; simp at this)]; exact k.c4, by rw [World.cell?_setCell_other _ _ _ _ (by intro q; have := congrArg Addr.off q; simp at this)]; exact k.c5, by rw [World.cell?_setCell_other _ _ _ _ (by intro q; have := congrArg Addr.off q; simp at this)]; exact k.c6, by rw [World.cell?_setCell_other _ _ _ _ (by intro q; have := congrArg Addr.off q; simp at this)]; exact k.c7, by rw [World.cell?_setCell_other _ _ _ _ (by intro q; have := congrArg Addr.off q; simp at this)]; exact k.c8, World.cell?_setCell_same _ _ _ k.c9, by rw [World.cell?_setCell_other _ _ _ _ (by intro q; have := congrArg Addr.off q; simp at this)]; exact k.c10, by rw [World.cell?_setCell_other _ _ _ _ (by intro q; have := congrArg Addr.off q; simp at this)]; exact k.c11, by rw [World.cell?_setCell_other _ _ _ _ (by intro q; have := congrArg Addr.off q; simp at this)]; exact k.c12, by rw [World.cell?_setCell_other _ _ _ _ (by intro q; have := congrArg Addr.off q; simp at this)]; exact k.c13, fun o => by rw [World.frozen?_setCell]; exact k.fr o, by simpa using k.lt⟩
theorem E14.set10 (k : E14 w b v0 v1 v2 v3 v4 v5 v6 v7 v8 v9 v10 v11 v12 v13) (x : Value) : E14 (w.setCell ⟨b, 10, none⟩ x) b v0 v1 v2 v3 v4 v5 v6 v7 v8 v9 x v11 v12 v13 :=
  ⟨by rw [World.cell?_setCell_other _ _ _ _ (by intro q; have := congrArg Addr.off q; simp at this)]; exact k.c0, by rw [World.cell?_setCell_other _ _ _ _ (by intro q; have := congrArg Addr.off q; simp at this)]; exact k.c1, by rw [World.cell?_setCell_other _ _ _ _ (by intro q; have := congrArg Addr.off q; simp at this)]; exact k.c2, by rw [World.cell?_setCell_other _ _ _ _ (by intro q; have := congrArg Addr.off q; simp at this)]; exact k.c3, by rw [World.cell?_setCell_other _ _ _ _ (by intro q; have := congrArg Addr.off q; simp at this)]; exact k.c4, by rw [World.cell?_setCell_other _ _ _ _ (by intro q; have := congrArg Addr.off q; simp at this)]; exact k.c5, by rw [World.cell?_setCell_other _ _ _ _ (by intro q; have := congrArg Addr.off q; simp at this)]; exact k.c6, by rw [World.cell?_setCell_other _ _ _ _ (by intro q; have := congrArg Addr.off q; simp at this)]; exact k.c7, by rw [World.cell?_setCell_other _ _ _ _ (by intro q; have := congrArg Addr.off q; simp at this)]; exact k.c8, by rw [World.cell?_setCell_other _ _ _ _ (by intro q; have := congrArg Addr.off q; simp at this)]; exact k.c9, World.cell?_setCell_same _ _ _ k.c10, by rw [World.cell?_setCell_other _ _ _ _ (by intro q; have := congrArg Addr.off q; simp at this)]; exact k.c11, by rw [World.cell?_setCell_other _ _ _ _ (by intro q; have := congrArg Addr.off q; simp at this)]; exact k.c12, by rw [World.cell?_setCell_other _ _ _ _ (by intro q; have := congrArg Addr.off q; simp at this)]; exact k.c13, fun o => by rw [World.frozen?_setCell]; exact k.fr o, by simpa using k.lt⟩
theorem E14.set11 (k : E14 w b v0 v1 v2 v3 v4 v5 v6 v7 v8 v9 v10 v11 v12 v13) (x : Value) : E14 (w.setCell ⟨b, 11, none⟩ x) b v0 v1 v2 v3 v4 v5 v6 v7 v8 v9 v10 x v12 v13 :=
  ⟨by rw [World.cell?_setCell_other _ _ _ _ (by intro q; have := congrArg Addr.off q; simp at this)]; exact k.c0, by rw [World.cell?_setCell_other _ _ _ _ (by intro q; have := congrArg Addr.off q; simp at this)]; exact k.c1, by rw [World.cell?_setCell_other _ _ _ _ (by intro q; have := congrArg Addr.off q; simp at this)]; exact k.c2, by rw [World.cell?_setCell_other _ _ _ _ (by intro q; have := congrArg Addr.off q; simp at this)]; exact k.c3, by rw [World.cell?_setCell_other _ _ _ _ (by intro q; have := congrArg Addr.off q; simp at this)]; exact k.c4, by rw [World.cell?_setCell_other _ _ _ _ (by intro q; have := congrArg Addr.off q; simp at this)]; exact k.c5, by rw [World.cell?_setCell_other _ _ _ _ (by intro q; have := congrArg Addr.off q; simp at this)]; exact k.c6, by rw [World.cell?_setCell_other _ _ _ _ (by intro q; have := congrArg Addr.off q; simp at this)]; exact k.c7, by rw [World.cell?_setCell_other _ _ _ _ (by intro q; have := congrArg Addr.off q; simp at this)]; exact k.c8, by rw [World.cell?_setCell_other _ _ _ _ (by intro q; have := congrArg Addr.off q; simp at this)]; exact k.c9, by rw [World.cell?_setCell_other _ _ _ _ (by intro q; have := congrArg Addr.off q; simp at this)]; exact k.c10, World.cell?_setCell_same _ _ _ k.c11, by rw [World.cell?_setCell_other _ _ _ _ (by intro q; have := congrArg Addr.off q; simp at this)]; exact k.c12, by rw [World.cell?_setCell_other _ _ _ _ (by intro q; have := congrArg Addr.off q; simp at this)]; exact k.c13, fun o => by rw [World.frozen?_setCell]; exact k.fr o, by simpa using k.lt⟩
theorem E14.set12 (k : E14 w b v0 v1 v2 v3 v4 v5 v6 v7 v8 v9 v10 v11 v12 v13) (x : Value) : E14 (w.setCell ⟨b, 12, none⟩ x) b v0 v1 v2 v3 v4 v5 v6 v7 v8 v9 v10 v11 x v13 :=
  ⟨by rw [World.cell?_setCell_other _ _ _ _ (by intro q; have := congrArg Addr.off q; simp at this)]; exact k.c0, by rw [World.cell?_setCell_other _ _ _ _ (by intro q; have := congrArg Addr.off q; simp at this)]; exact k.c1, by rw [World.cell?_setCell_other _ _ _ _ (by intro q; have := congrArg Addr.off q; simp at this)]; exact k.c2, by rw [World.cell?_setCell_other _ _ _ _ (by intro q; have := congrArg Addr.off q; simp at this)]; exact k.c3, by rw [World.cell?_setCell_other _ _ _ _ (by intro q; have := congrArg Addr.off q; simp at this)]; exact k.c4, by rw [World.cell?_setCell_other _ _ _ _ (by intro q; have := congrArg Addr.off q; simp at this)]; exact k.c5, by rw [World.cell?_setCell_other _ _ _ _ (by intro q; have := congrArg Addr.off q; simp at this)]; exact k.c6, by rw [World.cell?_setCell_other _ _ _ _ (by intro q; have := congrArg Addr.off q; simp at this)]; exact k.c7, by rw [World.cell?_setCell_other _ _ _ _ (by intro q; have := congrArg Addr.off q; simp at this)]; exact k.c8, by rw [World.cell?_setCell_other _ _ _ _ (by intro q; have := congrArg Addr.off q; simp at this)]; exact k.c9, by rw [World.cell?_setCell_other _ _ _ _ (by intro q; have := congrArg Addr.off q; simp at this)]; exact k.c10, by rw [World.cell?_setCell_other _ _ _ _ (by intro q; have := congrArg Addr.off q; simp at this)]; exact k.c11, World.cell?_setCell_same _ _ _ k.c12, by rw [World.cell?_setCell_other _ _ _ _ (by intro q; have := congrArg Addr.off q; simp at this)]; exact k.c13, fun o => by rw [World.frozen?_setCell]; exact k.fr o, by simpa using k.lt⟩
theorem E14.set13 (k : E14 w b v0 v1 v2 v3 v4 v5 v6 v7 v8 v9 v10 v11 v12 v13) (x : Value) : E14 (w.setCell ⟨b, 13, none⟩ x) b v0 v1 v2 v3 v4 v5 v6 v7 v8 v9 v10 v11 v12 x :=
  ⟨by rw [World.cell?_setCell_other _ _ _ _ (by intro q; have := congrArg Addr.off q; simp at this)]; exact k.c0, by rw [World.cell?_setCell_other _ _ _ _ (by intro q; have := congrArg Addr.off q; simp at this)]; exact k.c1, by rw [World.cell?_setCell_other _ _ _ _ (by intro q; have := congrArg Addr.off q; simp at this)]; exact k.c2, by rw [World.cell?_setCell_other _ _ _ _ (by intro q; have := congrArg Addr.off q; simp at this)]; exact k.c3, by rw [World.cell?_setCell_other _ _ _ _ (by intro q; have := congrArg Addr.off q; simp at this)]; exact k.c4, by rw [World.cell?_setCell_other _ _ _ _ (by intro q; have := congrArg Addr.off q; simp at this)]; exact k.c5, by rw [World.cell?_setCell_other _ _ _ _ (by intro q; have := congrArg Addr.off q; simp at this)]; exact k.c6, by rw [World.cell?_setCell_other _ _ _ _ (by intro q; have := congrArg Addr.off q; simp at this)]; exact k.c7, by rw [World.cell?_setCell_other _ _ _ _ (by intro q; have := congrArg Addr.off q; simp at this)]; exact k.c8, by rw [World.cell?_setCell_other _ _ _ _ (by intro q; have := congrArg Addr.off q; simp at this)]; exact k.c9, by rw [World.cell?_setCell_other _ _ _ _ (by intro q; have := congrArg Addr.off q; simp at this)]; exact k.c10, by rw [World.cell?_setCell_other _ _ _ _ (by intro q; have := congrArg Addr.off q; simp at this)]; exact k.c11, by rw [World.cell?_setCell_other _ _ _ _ (by intro q; have := congrArg Addr.off q; simp at this)]; exact k.c12, World.cell?_setCell_same _ _ _ k.c13, fun o => by rw [World.frozen?_setCell]; exact k.fr o, by simpa using k.lt⟩
end
end Go.Proofs.YthiiaefdobpjhaaGreatDoor
/-
  Word bytes: the table, plainly. No Go in sight.
-/
namespace Go.Proofs.YthiiaefdobpjhaaGreatDoor
def wordTab : List Bool := [false, false, false, false, false, false, false, false, false, false, false, false, false, false, false, false, false, false, false, false, false, false, false, false, false, false, false, false, false, false, false, false, false, true, false, true, true, true, true, true, false, false, true, true, false, true, true, false, true, true, true, true, true, true, true, true, true, true, false, false, false, false, false, false, false, true, true, true, true, true, true, true, true, true, true, true, true, true, true, true, true, true, true, true, true, true, true, true, true, true, true, false, false, false, true, true, false, true, true, true, true, true, true, true, true, true, true, true, true, true, true, true, true, true, true, true, true, true, true, true, true, true, true, false, true, false, true, false]
def wordI (c : Int) : Bool := wordTab.getD c.toNat false
theorem wordTab_len : wordTab.length = 128 := by decide +kernel
/-- One of the signs that are no letter and no digit. -/
def signI (c : Nat) : Bool := [33, 35, 36, 37, 38, 39, 42, 43, 45, 46, 94, 95, 124, 126].contains c
theorem table_all : ∀ c : Fin 256, wordTab.getD c.val false = (signI c.val || (decide (97 ≤ c.val) && decide (c.val ≤ 122)) || (decide (65 ≤ c.val) && decide (c.val ≤ 90)) || (decide (48 ≤ c.val) && decide (c.val ≤ 57))) := by decide +kernel
theorem wordI_eq (c : Int) (h0 : 0 ≤ c) (h1 : c < 256) : wordI c = (signI c.toNat || (decide (97 ≤ c) && decide (c ≤ 122)) || (decide (65 ≤ c) && decide (c ≤ 90)) || (decide (48 ≤ c) && decide (c ≤ 57))) := by
  obtain ⟨n, rfl⟩ := Int.eq_ofNat_of_zero_le h0
  have h2 : n < 256 := by omega
  have := table_all ⟨n, h2⟩
  simp only at this
  rw [wordI, Int.toNat_natCast, this]
  have e : ∀ a : Nat, decide (a ≤ n) = decide ((a : Int) ≤ (n : Int)) := fun a => by simp
  have e' : ∀ a : Nat, decide (n ≤ a) = decide ((n : Int) ≤ (a : Int)) := fun a => by simp
  simp only [e, e']
  rfl
theorem wordI_big (c : Int) (h : 128 ≤ c) : wordI c = false := by
  have hl := wordTab_len
  unfold wordI
  rw [List.getD_eq_getElem?_getD, List.getElem?_eq_none (by omega)]
  rfl
def allW (l : List UInt8) : Bool := l.all fun c => wordI (c.toNat : Int)
theorem allW_snoc (l : List UInt8) (c : UInt8) : allW (l ++ [c]) = (allW l && wordI (c.toNat : Int)) := by simp [allW]
theorem allW_of_take (l : List UInt8) (k : Nat) (h : allW (l.take k) = false) : allW l = false := by
  have e := List.take_append_drop k l
  rw [← e]
  simp only [allW] at h ⊢
  rw [List.all_append, h, Bool.false_and]
theorem allW_not (s : ByteArray) (k : Nat) (h : k < s.size) (hd : wordI (s[k].toNat : Int) = false) : allW s.data.toList = false := by
  refine allW_of_take _ (k + 1) ?_
  rw [take_snoc s k h, allW_snoc, hd, Bool.and_false]
def wordS (s : ByteArray) : Bool := decide (1 ≤ s.size) && decide (s.size ≤ 64) && allW s.data.toList
theorem wordS_short (s : ByteArray) (h : s.size < 1) : wordS s = false := by simp [wordS]; omega
theorem wordS_long (s : ByteArray) (h : 64 < s.size) : wordS s = false := by simp [wordS]; omega
theorem wordS_mid (s : ByteArray) (h1 : 1 ≤ s.size) (h2 : s.size ≤ 64) : wordS s = allW s.data.toList := by simp [wordS, h1, h2]
end Go.Proofs.YthiiaefdobpjhaaGreatDoor
/-
  Quotes, plainly. No Go in sight.
-/
namespace Go.Proofs.YthiiaefdobpjhaaGreatDoor
def plainI (c : Int) : Bool := c == 9 || (decide (32 ≤ c) && decide (c ≤ 126))
def plainL (l : List UInt8) : Bool := l.all fun c => plainI (c.toNat : Int)
theorem plainL_snoc (l : List UInt8) (c : UInt8) : plainL (l ++ [c]) = (plainL l && plainI (c.toNat : Int)) := by simp [plainL]
theorem plainL_of_take (l : List UInt8) (k : Nat) (h : plainL (l.take k) = false) : plainL l = false := by
  have e := List.take_append_drop k l
  rw [← e]
  simp only [plainL] at h ⊢
  rw [List.all_append, h, Bool.false_and]
theorem plainL_not (s : ByteArray) (k : Nat) (h : k < s.size) (hd : plainI (s[k].toNat : Int) = false) : plainL s.data.toList = false := by
  refine plainL_of_take _ (k + 1) ?_
  rw [take_snoc s k h, plainL_snoc, hd, Bool.and_false]
/-- One byte between quotes. -/
def quoteC (c : UInt8) : List UInt8 := if (c.toNat : Int) = 34 ∨ (c.toNat : Int) = 92 then [92, c] else [c]
def quoteB (l : List UInt8) : List UInt8 := l.flatMap quoteC
def quoteL (l : List UInt8) : List UInt8 := [34] ++ quoteB l ++ [34]
theorem quoteB_snoc (l : List UInt8) (c : UInt8) : quoteB (l ++ [c]) = quoteB l ++ quoteC c := by simp [quoteB]
theorem quoteC_yes {c : UInt8} (h : (c.toNat : Int) = 34 ∨ (c.toNat : Int) = 92) : quoteC c = [92, c] := by simp only [quoteC, if_pos h]
theorem quoteC_no {c : UInt8} (h : ¬ ((c.toNat : Int) = 34 ∨ (c.toNat : Int) = 92)) : quoteC c = [c] := by simp only [quoteC, if_neg h]
theorem quoteC_len (c : UInt8) : (quoteC c).length ≤ 2 := by unfold quoteC; split <;> simp
theorem quoteB_len (l : List UInt8) : (quoteB l).length ≤ 2 * l.length := by
  induction l with
  | nil => simp [quoteB]
  | cons c r ih =>
    have := quoteC_len c
    simp only [quoteB, List.flatMap_cons, List.length_append, List.length_cons] at ih ⊢
    omega
theorem quoteB_ge (l : List UInt8) : l.length ≤ (quoteB l).length := by
  induction l with
  | nil => simp
  | cons c r ih =>
    have : 1 ≤ (quoteC c).length := by unfold quoteC; split <;> simp
    simp only [quoteB, List.flatMap_cons, List.length_append, List.length_cons] at ih ⊢
    omega
/-- What stands between quotes, read from behind the first one; acc: what was taken. -/
def unq (acc : List UInt8) : List UInt8 → List UInt8 × Bool
  | [] => ([], false)
  | [c] => if (c.toNat : Int) = 34 then (acc, true) else ([], false)
  | c :: d :: r => if (c.toNat : Int) = 34 then (acc, false) else if (c.toNat : Int) = 92 then unq (acc ++ [d]) r else unq (acc ++ [c]) (d :: r)
/-- A text between quotes: what it tells, and whether it does. -/
def unqT (l : List UInt8) : List UInt8 × Bool := if 2 ≤ l.length ∧ l.head? = some 34 ∧ plainL l = true then unq [] l.tail else ([], false)
theorem unq_end (acc r : List UInt8) (c : UInt8) (h : (c.toNat : Int) = 34) : unq acc (c :: r) = (acc, decide (r = [])) := by
  cases r with
  | nil => rw [unq, if_pos h]; rfl
  | cons d r => rw [unq, if_pos h]; simp
theorem unq_cut (acc : List UInt8) (c : UInt8) (h : (c.toNat : Int) = 92) : unq acc [c] = ([], false) := by
  rw [unq, if_neg (by omega)]
theorem unq_esc (acc r : List UInt8) (c d : UInt8) (h : (c.toNat : Int) = 92) : unq acc (c :: d :: r) = unq (acc ++ [d]) r := by
  rw [unq, if_neg (by omega), if_pos h]
theorem unq_take (acc r : List UInt8) (c : UInt8) (h1 : ¬ (c.toNat : Int) = 34) (h2 : ¬ (c.toNat : Int) = 92) : unq acc (c :: r) = unq (acc ++ [c]) r := by
  cases r with
  | nil => simp only [unq, if_neg h1]
  | cons d r => rw [unq, if_neg h1, if_neg h2]
/-- What was quoted is read as it was. -/
theorem unq_quote (l : List UInt8) : ∀ acc, unq acc (quoteB l ++ [34]) = (acc ++ l, true) := by
  induction l with
  | nil => intro acc; rw [show quoteB [] ++ [34] = [34] from rfl, unq_end _ _ _ (by decide)]; simp
  | cons c r ih =>
    intro acc
    have e : quoteB (c :: r) ++ [34] = quoteC c ++ (quoteB r ++ [34]) := by simp [quoteB]
    rw [e]
    by_cases h : (c.toNat : Int) = 34 ∨ (c.toNat : Int) = 92
    · rw [quoteC_yes h]
      show unq acc (92 :: c :: (quoteB r ++ [34])) = _
      rw [unq_esc _ _ _ _ (by decide), ih]; simp
    · rw [quoteC_no h]
      show unq acc (c :: (quoteB r ++ [34])) = _
      rw [unq_take _ _ _ (by omega) (by omega), ih]; simp
theorem plain_quoteB (l : List UInt8) (h : plainL l = true) : plainL (quoteB l) = true := by
  induction l with
  | nil => rfl
  | cons c r ih =>
    simp only [plainL, List.all_cons, Bool.and_eq_true] at h
    have e : quoteB (c :: r) = quoteC c ++ quoteB r := by simp [quoteB]
    rw [e]
    simp only [plainL, List.all_append, Bool.and_eq_true]
    refine ⟨?_, ih h.2⟩
    unfold quoteC
    split
    · simp [h.1]; decide
    · simp [h.1]
theorem unqT_quote (l : List UInt8) (h : plainL l = true) : unqT (quoteL l) = (l, true) := by
  have hp : plainL (quoteL l) = true := by
    simp only [quoteL, plainL, List.all_append, Bool.and_eq_true]
    exact ⟨⟨by decide, plain_quoteB l h⟩, by decide⟩
  unfold unqT
  rw [if_pos ⟨by simp [quoteL], rfl, hp⟩]
  show unq [] (quoteB l ++ [34]) = _
  rw [unq_quote]; simp
end Go.Proofs.YthiiaefdobpjhaaGreatDoor
/-
  Blanks at both ends: plainly. No Go in sight.
-/
namespace Go.Proofs.YthiiaefdobpjhaaGreatDoor
def blankI (c : Int) : Bool := c == 32 || c == 9
def trimT (s : ByteArray) : ByteArray := ⟨(Lib.trimS s.data.toList [32, 9]).toArray⟩
theorem contains_blank (b : UInt8) : [(32 : UInt8), 9].contains b = blankI (b.toNat : Int) := by
  rw [Bool.eq_iff_iff]
  simp [blankI, List.contains_eq_mem]
  constructor
  · rintro (rfl | rfl) <;> simp
  · rintro (h | h)
    · exact .inl (UInt8.toNat_inj.1 (by simpa using (by omega : b.toNat = 32)))
    · exact .inr (UInt8.toNat_inj.1 (by simpa using (by omega : b.toNat = 9)))
theorem trim_between (l : List UInt8) (k m : Nat) (hkm : k ≤ m) (hm : m ≤ l.length)
    (h1 : ∀ (j : Nat) b, j < k → l[j]? = some b → blankI (b.toNat : Int) = true) (h2 : ∀ b, k < l.length → l[k]? = some b → blankI (b.toNat : Int) = false)
    (h3 : ∀ (j : Nat) b, m ≤ j → l[j]? = some b → blankI (b.toNat : Int) = true) (h4 : ∀ b, k < m → l[m - 1]? = some b → blankI (b.toNat : Int) = false) :
    Lib.trimS l [32, 9] = (l.take m).drop k := by
  by_cases e : k < m
  · have er : Lib.trimRightS l [32, 9] = l.take m := by
      refine Lib.trimRightS_take l _ m hm (fun j b hj hb => ?_) (fun b _ hb => ?_)
      · rw [contains_blank]; exact h3 j b hj hb
      · rw [contains_blank]; exact h4 b e hb
    unfold Lib.trimS
    rw [er]
    refine Lib.trimLeftS_drop _ _ k (by simp; omega) (fun j b hj hb => ?_) (fun b hb => ?_)
    · rw [List.getElem?_take_of_lt (by omega)] at hb
      rw [contains_blank]; exact h1 j b hj hb
    · rw [List.getElem?_take_of_lt (by omega)] at hb
      rw [contains_blank]; exact h2 b (by omega) hb
  · obtain rfl : k = m := by omega
    have ek : k = l.length := by
      by_cases c : k < l.length
      · have a := h2 _ c (List.getElem?_eq_getElem c)
        have b := h3 k _ (Nat.le_refl _) (List.getElem?_eq_getElem c)
        rw [a] at b; cases b
      · omega
    have er : Lib.trimRightS l [32, 9] = l.take 0 := by
      refine Lib.trimRightS_take l _ 0 (Nat.zero_le _) (fun j b _ hb => ?_) (fun b h0 _ => absurd h0 (by omega))
      have hj : j < l.length := (List.getElem?_eq_some_iff.1 hb).1
      rw [contains_blank]; exact h1 j b (by omega) hb
    unfold Lib.trimS
    rw [er]
    simp [Lib.trimLeftS, ek]
theorem trim_extract (s : ByteArray) (k m : Nat) (h : Lib.trimS s.data.toList [32, 9] = (s.data.toList.take m).drop k) : s.extract k m = trimT s := by
  apply ByteArray.ext
  unfold trimT
  rw [h]
  apply Array.ext'
  simp [List.drop_take]
end Go.Proofs.YthiiaefdobpjhaaGreatDoor
/-
  What the model's l1Lower answers.
-/
namespace Go.Proofs.YthiiaefdobpjhaaGreatDoor
open Go.ChangeShapes Go.WideShapes Go.ChangeAt Go.RowKit
def lowS (s : ByteArray) : ByteArray := ⟨(s.data.toList.map lowU).toArray⟩
set_option maxHeartbeats 1000000 in
theorem l1Lower_any (s : ByteArray) (w : World) (hs : s.size ≤ 1048576) :
    Calls Tryz.prog 56 #[.string s] w fun e w' => e = .returned (.string (lowS s)) ∧ Below w.heap.size w w' := by
  obtain ⟨C, cap, hcv, hrow⟩ : ∃ C cap, (convert 9 25 (.string s)).run Tryz.prog w = .ok (.slice (some ⟨w.heap.size, 0, none⟩) s.size cap) (w.drew.alloc (.cells C 5 (C.size, C.size + 1))) ∧ BRow (w.alloc (.cells C 5 (C.size, C.size + 1))) w.heap.size s.data.toList :=
    ⟨_, _, run_bytes_of_string w 9 25 5 s Tryz.underlying9 Tryz.underlying25 Tryz.underlying5, BRow.made w s _ _ rfl⟩
  go_enter Tryz.func56, Tryz.ntmps56
  go_wp2
  go_loopw [4] (fun i wr => ∃ k : Nat, k ≤ s.size ∧ i = .int .i64 k ∧ BRow wr w.heap.size (lowK s.data.toList k) ∧ Below w.heap.size w wr) (fun i _ => s.size - (intOf i).toNat)
  case atStart => exact ⟨0, Nat.zero_le _, rfl, by rw [lowK_zero]; exact ⟨hrow.cell, hrow.free⟩, ((Below.refl _ _).alloc (Nat.le_refl _) _).drew⟩
  case round =>
    obtain ⟨k, hk, rfl, hr, hb⟩ := hrel
    clear hcv hrow
    have hlen := lowK_length s.data.toList k
    by_cases hlt : k < s.size
    · have hl : k < s.data.toList.length := by simpa using hlt
      have hl2 : k < (lowK s.data.toList k).length := by omega
      have hc := hr.cell k hl2
      have hf := hr.free k hl2
      rw [lowK_at _ _ hl hl2] at hc
      have Y : Hid (65 ≤ (s.data.toList[k].toNat : Int) ∧ (s.data.toList[k].toNat : Int) ≤ 90 → BRow (wr.setCell ⟨w.heap.size, k, none⟩ (.int .u8 ((s.data.toList[k].toNat : Int) + 32))) w.heap.size (lowK s.data.toList (k + 1))) := by
        intro ⟨u1, u2⟩
        have := hr.set k (lowU s.data.toList[k])
        rw [lowU_yes _ u1 u2] at this
        rw [lowK_succ _ _ hl]
        exact this
      have N : Hid (¬ (65 ≤ (s.data.toList[k].toNat : Int) ∧ (s.data.toList[k].toNat : Int) ≤ 90) → BRow wr w.heap.size (lowK s.data.toList (k + 1))) := by
        intro u
        rw [lowK_keep _ _ hl u]
        exact hr
      generalize s.data.toList[k] = x at *
      clear hr hlen hl2 hl
      by_cases hU : 65 ≤ (x.toNat : Int) ∧ (x.toNat : Int) ≤ 90
      · have R : Hid (BRow (wr.setCell ⟨w.heap.size, k, none⟩ (.int .u8 ((x.toNat : Int) + 32))) w.heap.size (lowK s.data.toList (k + 1))) := Y.out hU
        obtain ⟨u1, u2⟩ := hU
        have d2 : decide ((x.toNat : Int) ≤ 90) = true := by simpa using u2
        clear Y N
        go_wp2
        go_roundw
        case rel => exact ⟨k + 1, by omega, by go_num, R.out, hb.setCell (Nat.le_refl _) _⟩
        case measure => simp [intOf]; omega
      · have R : Hid (BRow wr w.heap.size (lowK s.data.toList (k + 1))) := N.out hU
        clear Y N
        by_cases u1 : 65 ≤ (x.toNat : Int)
        · have u2 : 90 < (x.toNat : Int) := by omega
          have d2 : decide ((x.toNat : Int) ≤ 90) = false := by simp; omega
          clear hU
          go_wp2
          go_roundw
          case rel => exact ⟨k + 1, by omega, by go_num, R.out, hb⟩
          case measure => simp [intOf]; omega
        · clear hU
          go_wp2
          go_roundw
          case rel => exact ⟨k + 1, by omega, by go_num, R.out, hb⟩
          case measure => simp [intOf]; omega
    · have e : lowK s.data.toList k = s.data.toList.map lowU := lowK_all _ _ (by simp; omega)
      rw [e] at hr
      have hback := hr.back (P := Tryz.prog) 25 9 5 s.size cap (by simp) Tryz.underlying25 Tryz.underlying5 Tryz.underlying9
      have HL : Hid ((⟨(s.data.toList.map lowU).toArray⟩ : ByteArray) = lowS s) := rfl
      generalize (⟨(s.data.toList.map lowU).toArray⟩ : ByteArray) = r at *
      clear hr e hlen
      go_wp2
      go_ret
      exact ⟨ret_str HL.out, hb⟩
end Go.Proofs.YthiiaefdobpjhaaGreatDoor
/-
  Head lines, plainly: their faults, their text, how they are found, set and dropped. No Go in sight.
-/
namespace Go.Proofs.YthiiaefdobpjhaaGreatDoor
def faultH (r : Hdr) : Int := if wordS r.name = false then 5 else if 200 < r.value.size then 2 else if plainL r.value.data.toList = false then 5 else if trimT r.value = r.value then 0 else 5
def faultHL : List Hdr → Int
  | [] => 0
  | r :: l => if faultH r = 0 then faultHL l else faultH r
theorem faultHL_ok {r : Hdr} {l : List Hdr} (h : faultH r = 0) : faultHL (r :: l) = faultHL l := by rw [faultHL, if_pos h]
theorem faultHL_bad {r : Hdr} {l : List Hdr} (h : faultH r ≠ 0) : faultHL (r :: l) = faultH r := by rw [faultHL, if_neg h]
def headsC (l : List Hdr) : Int := if 20 < l.length then 2 else faultHL l
theorem headsC_many {l : List Hdr} (h : 20 < l.length) : headsC l = 2 := by unfold headsC; rw [if_pos h]
theorem headsC_few {l : List Hdr} (h : ¬ 20 < l.length) : headsC l = faultHL l := by unfold headsC; rw [if_neg h]
theorem faultH_zero {r : Hdr} (h : faultH r = 0) : wordS r.name = true ∧ r.value.size ≤ 200 ∧ plainL r.value.data.toList = true ∧ trimT r.value = r.value := by
  unfold faultH at h
  by_cases c1 : wordS r.name = false
  · rw [if_pos c1] at h; omega
  rw [if_neg c1] at h
  by_cases c2 : 200 < r.value.size
  · rw [if_pos c2] at h; omega
  rw [if_neg c2] at h
  by_cases c3 : plainL r.value.data.toList = false
  · rw [if_pos c3] at h; omega
  rw [if_neg c3] at h
  by_cases c4 : trimT r.value = r.value
  · exact ⟨by simpa using c1, by omega, by simpa using c3, c4⟩
  · rw [if_neg c4] at h; omega
theorem faultHL_zero (l : List Hdr) (h : faultHL l = 0) : ∀ (i : Nat) r, l[i]? = some r → faultH r = 0 := by
  induction l with
  | nil => intro i r hr; simp at hr
  | cons x l ih =>
    intro i r hr
    by_cases c : faultH x = 0
    · rw [faultHL_ok c] at h
      cases i with
      | zero => simp at hr; subst hr; exact c
      | succ i => exact ih h i r (by simpa using hr)
    · rw [faultHL_bad c] at h; exact absurd h c
theorem faultHL_of (l : List Hdr) (h : ∀ r ∈ l, faultH r = 0) : faultHL l = 0 := by
  induction l with
  | nil => rfl
  | cons x l ih => rw [faultHL_ok (h x (by simp))]; exact ih fun r hr => h r (by simp [hr])
theorem headsC_zero {l : List Hdr} (h : headsC l = 0) : l.length ≤ 20 ∧ ∀ (i : Nat) r, l[i]? = some r → faultH r = 0 := by
  by_cases c : 20 < l.length
  · rw [headsC_many c] at h; omega
  · rw [headsC_few c] at h; exact ⟨by omega, faultHL_zero l h⟩
theorem hword_max {s : ByteArray} (h : wordS s = true) : s.size ≤ 64 := by
  by_cases c : 64 < s.size
  · rw [wordS_long s c] at h; cases h
  · omega
theorem take_hdr {l : List Hdr} {k : Nat} {r : Hdr} (h : l[k]? = some r) : l.take (k + 1) = l.take k ++ [r] := by rw [List.take_add_one, h]; rfl
theorem happ_list (a b : ByteArray) : (a ++ b).data.toList = a.data.toList ++ b.data.toList := by simp
theorem hof_list {a : ByteArray} {l : List UInt8} (h : a.data.toList = l) : a = ⟨l.toArray⟩ := by subst h; cases a; simp
theorem hret_ct {a b : Int} {s t : ByteArray} (h : a = b ∧ s = t) : Ending.returned (.agg #[.int .i64 b, .string t]) = .returned (.agg #[.int .i64 a, .string s]) := by rw [h.1, h.2]
/-! ### their text -/
def lineL (r : Hdr) : List UInt8 := r.name.data.toList ++ [58, 32] ++ r.value.data.toList ++ [13, 10]
def packL (l : List Hdr) : List UInt8 := l.flatMap lineL
theorem packL_take {l : List Hdr} {k : Nat} {r : Hdr} (h : l[k]? = some r) : packL (l.take (k + 1)) = packL (l.take k) ++ lineL r := by rw [take_hdr h]; simp [packL]
theorem lineL_len {r : Hdr} (h : faultH r = 0) : (lineL r).length ≤ 268 := by
  obtain ⟨h1, h2, _⟩ := faultH_zero h
  have := hword_max h1
  have e1 : r.name.data.toList.length = r.name.size := by simp
  have e2 : r.value.data.toList.length = r.value.size := by simp
  simp only [lineL, List.length_append, List.length_cons, List.length_nil]
  omega
def packT (l : List Hdr) : ByteArray := if headsC l = 0 then ⟨(packL l).toArray⟩ else ⟨#[]⟩
theorem packT_ok {l : List Hdr} (h : headsC l = 0) : packT l = ⟨(packL l).toArray⟩ := by unfold packT; rw [if_pos h]
theorem packT_bad {l : List Hdr} (h : headsC l ≠ 0) : packT l = ⟨#[]⟩ := by unfold packT; rw [if_neg h]
/-! ### names that are alike -/
def askC (l : List Hdr) (name : ByteArray) : Int := if headsC l = 0 then (if wordS name = true then 0 else 5) else headsC l
theorem askC_bad {l : List Hdr} {name : ByteArray} (h : headsC l ≠ 0) : askC l name = headsC l := by unfold askC; rw [if_neg h]
theorem askC_word {l : List Hdr} {name : ByteArray} (h : headsC l = 0) (hw : wordS name = true) : askC l name = 0 := by unfold askC; rw [if_pos h, if_pos hw]
theorem askC_text {l : List Hdr} {name : ByteArray} (h : headsC l = 0) (hw : wordS name = false) : askC l name = 5 := by unfold askC; rw [if_pos h, if_neg (by rw [hw]; decide)]
theorem askC_zero {l : List Hdr} {name : ByteArray} (h : askC l name = 0) : headsC l = 0 ∧ wordS name = true := by
  by_cases c : headsC l = 0
  · cases hw : wordS name
    · rw [askC_text c hw] at h; omega
    · exact ⟨c, rfl⟩
  · rw [askC_bad c] at h; exact absurd h c
/-- The values of all lines whose name, in small letters, is x. -/
def valsOf (x : ByteArray) (l : List Hdr) : List ByteArray := (l.filter fun r => decide (lowS r.name = x)).map (·.value)
theorem valsOf_yes {x : ByteArray} {r : Hdr} (l : List Hdr) (h : lowS r.name = x) : valsOf x (l ++ [r]) = valsOf x l ++ [r.value] := by simp [valsOf, h]
theorem valsOf_no {x : ByteArray} {r : Hdr} (l : List Hdr) (h : ¬ lowS r.name = x) : valsOf x (l ++ [r]) = valsOf x l := by simp [valsOf, h]
def hjoinL (vs : List ByteArray) : List UInt8 := Lib.join (vs.map (·.data.toList)) [44, 32]
theorem hjoinL_snoc (vs : List ByteArray) (v : ByteArray) : hjoinL (vs ++ [v]) = hjoinL vs ++ (if vs = [] then [] else [44, 32]) ++ v.data.toList := by
  unfold hjoinL
  cases vs with
  | nil => simp [Lib.join, List.intercalate]
  | cons a r =>
    rw [List.map_append, List.map_cons, List.cons_append, Lib.join_cons, Lib.join_cons]
    simp [Lib.joinTail]
def joinC (l : List Hdr) (name : ByteArray) : Int := if askC l name = 0 then (if valsOf (lowS name) l = [] then 4 else 0) else askC l name
def joinT (l : List Hdr) (name : ByteArray) : ByteArray := if joinC l name = 0 then ⟨(hjoinL (valsOf (lowS name) l)).toArray⟩ else ⟨#[]⟩
theorem join_bad {l : List Hdr} {name : ByteArray} (h : askC l name ≠ 0) : joinC l name = askC l name ∧ joinT l name = ⟨#[]⟩ := by
  have e : joinC l name = askC l name := by unfold joinC; rw [if_neg h]
  exact ⟨e, by unfold joinT; rw [if_neg (by rw [e]; exact h)]⟩
theorem join_none {l : List Hdr} {name : ByteArray} (h : askC l name = 0) (hv : valsOf (lowS name) l = []) : joinC l name = 4 ∧ joinT l name = ⟨#[]⟩ := by
  have e : joinC l name = 4 := by unfold joinC; rw [if_pos h, if_pos hv]
  exact ⟨e, by unfold joinT; rw [if_neg (by rw [e]; decide)]⟩
theorem join_some {l : List Hdr} {name : ByteArray} (h : askC l name = 0) (hv : valsOf (lowS name) l ≠ []) : joinC l name = 0 ∧ joinT l name = ⟨(hjoinL (valsOf (lowS name) l)).toArray⟩ := by
  have e : joinC l name = 0 := by unfold joinC; rw [if_pos h, if_neg hv]
  exact ⟨e, by unfold joinT; rw [if_pos e]⟩
/-- What is left without the lines whose name, in small letters, is x. -/
def dropH (x : ByteArray) (l : List Hdr) : List Hdr := l.filter fun r => decide (¬ lowS r.name = x)
theorem dropH_yes {x : ByteArray} {r : Hdr} (l : List Hdr) (h : lowS r.name = x) : dropH x (l ++ [r]) = dropH x l := by simp [dropH, h]
theorem dropH_no {x : ByteArray} {r : Hdr} (l : List Hdr) (h : ¬ lowS r.name = x) : dropH x (l ++ [r]) = dropH x l ++ [r] := by simp [dropH, h]
theorem dropH_len (x : ByteArray) (l : List Hdr) : (dropH x l).length ≤ l.length := List.length_filter_le _ _
def dropL (l : List Hdr) (name : ByteArray) : List Hdr := if askC l name = 0 then dropH (lowS name) l else []
/-- Where the first line of that name stands. -/
def firstAt (x : ByteArray) : List Hdr → Option Nat
  | [] => none
  | r :: l => if lowS r.name = x then some 0 else (firstAt x l).map (· + 1)
theorem firstAt_none {x : ByteArray} : ∀ {l : List Hdr}, firstAt x l = none → ∀ r ∈ l, ¬ lowS r.name = x
  | [], _, r, hr => by simp at hr
  | y :: l, h, r, hr => by
    by_cases c : lowS y.name = x
    · rw [firstAt, if_pos c] at h; cases h
    · rw [firstAt, if_neg c] at h
      rcases List.mem_cons.1 hr with rfl | hr
      · exact c
      · exact firstAt_none (Option.map_eq_none_iff.1 h) r hr
theorem firstAt_lt {x : ByteArray} : ∀ {l : List Hdr} {i : Nat}, firstAt x l = some i → i < l.length
  | [], i, h => by simp [firstAt] at h
  | y :: l, i, h => by
    by_cases c : lowS y.name = x
    · rw [firstAt, if_pos c] at h; obtain rfl := Option.some.inj h; simp
    · rw [firstAt, if_neg c] at h
      obtain ⟨j, hj, rfl⟩ := Option.map_eq_some_iff.1 h
      have := firstAt_lt hj
      simp only [List.length_cons]; omega
theorem firstAt_snoc {x : ByteArray} (r : Hdr) : ∀ (l : List Hdr), firstAt x (l ++ [r]) = match firstAt x l with | some i => some i | none => if lowS r.name = x then some l.length else none
  | [] => by simp [firstAt]
  | y :: l => by
    by_cases c : lowS y.name = x
    · simp [firstAt, c]
    · simp only [List.cons_append, firstAt, if_neg c]
      rw [firstAt_snoc r l]
      cases firstAt x l with
      | some i => rfl
      | none => simp only [Option.map_none]; split <;> simp
theorem valsOf_first {x : ByteArray} : ∀ {l : List Hdr}, valsOf x l = [] ↔ firstAt x l = none
  | [] => by simp [valsOf, firstAt]
  | y :: l => by
    by_cases c : lowS y.name = x
    · simp [valsOf, firstAt, c]
    · have := @valsOf_first x l
      simp only [valsOf] at this
      simp only [valsOf, firstAt, List.filter_cons, c, decide_false, Bool.false_eq_true, if_false, this, Option.map_eq_none_iff]
theorem valsOf_drop {x : ByteArray} : ∀ {l : List Hdr} {i : Nat}, firstAt x l = some i → valsOf x (l.drop i) = valsOf x l ∧ valsOf x (l.take i) = []
  | [], i, h => by simp [firstAt] at h
  | y :: l, i, h => by
    by_cases c : lowS y.name = x
    · rw [firstAt, if_pos c] at h; obtain rfl := Option.some.inj h; simp [valsOf]
    · rw [firstAt, if_neg c] at h
      obtain ⟨j, hj, rfl⟩ := Option.map_eq_some_iff.1 h
      have := valsOf_drop hj
      simp only [valsOf] at this
      simp only [valsOf, List.drop_succ_cons, List.take_succ_cons, List.filter_cons, c, decide_false, Bool.false_eq_true, if_false]
      exact this
/-- A line set. -/
def setGo (h : Hdr) : Bool → List Hdr → List Hdr
  | done, [] => if done = true then [] else [h]
  | done, r :: l => if lowS r.name = lowS h.name then (if done = true then setGo h true l else h :: setGo h true l) else r :: setGo h done l
theorem setGo_done (h : Hdr) : ∀ l : List Hdr, setGo h true l = dropH (lowS h.name) l
  | [] => by simp [setGo, dropH]
  | r :: l => by
    have ih := setGo_done h l
    by_cases c : lowS r.name = lowS h.name
    · simp only [setGo, if_true, ih, dropH, List.filter_cons, c, not_true_eq_false, decide_false, Bool.false_eq_true, if_false]
    · simp [setGo, ih, dropH, c]
theorem setGo_first (h : Hdr) : ∀ (l : List Hdr), setGo h false l = match firstAt (lowS h.name) l with
    | some i => (dropH (lowS h.name) l).take i ++ [h] ++ (dropH (lowS h.name) l).drop i
    | none => dropH (lowS h.name) l ++ [h]
  | [] => by simp [setGo, firstAt, dropH]
  | r :: l => by
    have ih := setGo_first h l
    by_cases c : lowS r.name = lowS h.name
    · simp only [setGo, firstAt, setGo_done, dropH, List.filter_cons, c, not_true_eq_false, decide_false, Bool.false_eq_true, if_false]
      simp
    · simp only [setGo, if_neg c, firstAt]
      rw [ih]
      have e : dropH (lowS h.name) (r :: l) = r :: dropH (lowS h.name) l := by simp [dropH, c]
      rw [e]
      cases firstAt (lowS h.name) l with
      | none => simp
      | some i => simp
theorem dropH_all {x : ByteArray} {l : List Hdr} (h : firstAt x l = none) : dropH x l = l := by
  unfold dropH
  rw [List.filter_eq_self]
  intro r hr
  simpa using firstAt_none h r hr
theorem setGo_len (h : Hdr) (l : List Hdr) : (setGo h false l).length = match firstAt (lowS h.name) l with | some _ => (dropH (lowS h.name) l).length + 1 | none => l.length + 1 := by
  rw [setGo_first]
  cases c : firstAt (lowS h.name) l with
  | none => simp [dropH_all c]
  | some i =>
    simp only [List.length_append, List.length_cons, List.length_nil, List.length_take, List.length_drop]
    omega
theorem dropH_lt {x : ByteArray} {i : Nat} : ∀ {l : List Hdr}, firstAt x l = some i → (dropH x l).length < l.length
  | [], h => by simp [firstAt] at h
  | r :: l, h => by
    by_cases c : lowS r.name = x
    · have := dropH_len x l
      simp only [dropH] at this
      simp only [dropH, List.filter_cons, c, not_true_eq_false, decide_false, Bool.false_eq_true, if_false, List.length_cons]
      omega
    · rw [firstAt, if_neg c] at h
      obtain ⟨j, hj, rfl⟩ := Option.map_eq_some_iff.1 h
      have := dropH_lt hj
      simp only [dropH] at this
      simp only [dropH, List.filter_cons, c, not_false_eq_true, decide_true, if_true, List.length_cons]
      omega
def setC (l : List Hdr) (h : Hdr) : Int := if askC l h.name = 0 then (if faultH h = 0 then (if 20 < (setGo h false l).length then 2 else 0) else faultH h) else askC l h.name
def setL (l : List Hdr) (h : Hdr) : List Hdr := if setC l h = 0 then setGo h false l else []
end Go.Proofs.YthiiaefdobpjhaaGreatDoor
/-
  What the model's l1WordByte answers at any byte.
-/
namespace Go.Proofs.YthiiaefdobpjhaaGreatDoor
open Go.ChangeShapes Go.WideShapes Go.ChangeAt Go.RowKit
set_option maxHeartbeats 400000 in
theorem wordByte_33 (w : World) :
    Calls Tryz.prog 52 #[.int .u8 33] w fun e w' => e = .returned (.bool (wordI 33)) ∧ w' = w := by
  have W : wordI 33 = true := by decide +kernel
  rw [W]
  clear W
  go_enter Tryz.func52, Tryz.ntmps52
  go_wp2
  go_ret
  exact ⟨rfl, rfl⟩
set_option maxHeartbeats 400000 in
theorem wordByte_35 (w : World) :
    Calls Tryz.prog 52 #[.int .u8 35] w fun e w' => e = .returned (.bool (wordI 35)) ∧ w' = w := by
  have W : wordI 35 = true := by decide +kernel
  rw [W]
  clear W
  go_enter Tryz.func52, Tryz.ntmps52
  go_wp2
  go_ret
  exact ⟨rfl, rfl⟩
set_option maxHeartbeats 400000 in
theorem wordByte_36 (w : World) :
    Calls Tryz.prog 52 #[.int .u8 36] w fun e w' => e = .returned (.bool (wordI 36)) ∧ w' = w := by
  have W : wordI 36 = true := by decide +kernel
  rw [W]
  clear W
  go_enter Tryz.func52, Tryz.ntmps52
  go_wp2
  go_ret
  exact ⟨rfl, rfl⟩
set_option maxHeartbeats 400000 in
theorem wordByte_37 (w : World) :
    Calls Tryz.prog 52 #[.int .u8 37] w fun e w' => e = .returned (.bool (wordI 37)) ∧ w' = w := by
  have W : wordI 37 = true := by decide +kernel
  rw [W]
  clear W
  go_enter Tryz.func52, Tryz.ntmps52
  go_wp2
  go_ret
  exact ⟨rfl, rfl⟩
set_option maxHeartbeats 400000 in
theorem wordByte_38 (w : World) :
    Calls Tryz.prog 52 #[.int .u8 38] w fun e w' => e = .returned (.bool (wordI 38)) ∧ w' = w := by
  have W : wordI 38 = true := by decide +kernel
  rw [W]
  clear W
  go_enter Tryz.func52, Tryz.ntmps52
  go_wp2
  go_ret
  exact ⟨rfl, rfl⟩
set_option maxHeartbeats 400000 in
theorem wordByte_39 (w : World) :
    Calls Tryz.prog 52 #[.int .u8 39] w fun e w' => e = .returned (.bool (wordI 39)) ∧ w' = w := by
  have W : wordI 39 = true := by decide +kernel
  rw [W]
  clear W
  go_enter Tryz.func52, Tryz.ntmps52
  go_wp2
  go_ret
  exact ⟨rfl, rfl⟩
set_option maxHeartbeats 400000 in
theorem wordByte_42 (w : World) :
    Calls Tryz.prog 52 #[.int .u8 42] w fun e w' => e = .returned (.bool (wordI 42)) ∧ w' = w := by
  have W : wordI 42 = true := by decide +kernel
  rw [W]
  clear W
  go_enter Tryz.func52, Tryz.ntmps52
  go_wp2
  go_ret
  exact ⟨rfl, rfl⟩
set_option maxHeartbeats 400000 in
theorem wordByte_43 (w : World) :
    Calls Tryz.prog 52 #[.int .u8 43] w fun e w' => e = .returned (.bool (wordI 43)) ∧ w' = w := by
  have W : wordI 43 = true := by decide +kernel
  rw [W]
  clear W
  go_enter Tryz.func52, Tryz.ntmps52
  go_wp2
  go_ret
  exact ⟨rfl, rfl⟩
set_option maxHeartbeats 400000 in
theorem wordByte_45 (w : World) :
    Calls Tryz.prog 52 #[.int .u8 45] w fun e w' => e = .returned (.bool (wordI 45)) ∧ w' = w := by
  have W : wordI 45 = true := by decide +kernel
  rw [W]
  clear W
  go_enter Tryz.func52, Tryz.ntmps52
  go_wp2
  go_ret
  exact ⟨rfl, rfl⟩
set_option maxHeartbeats 400000 in
theorem wordByte_46 (w : World) :
    Calls Tryz.prog 52 #[.int .u8 46] w fun e w' => e = .returned (.bool (wordI 46)) ∧ w' = w := by
  have W : wordI 46 = true := by decide +kernel
  rw [W]
  clear W
  go_enter Tryz.func52, Tryz.ntmps52
  go_wp2
  go_ret
  exact ⟨rfl, rfl⟩
set_option maxHeartbeats 400000 in
theorem wordByte_94 (w : World) :
    Calls Tryz.prog 52 #[.int .u8 94] w fun e w' => e = .returned (.bool (wordI 94)) ∧ w' = w := by
  have W : wordI 94 = true := by decide +kernel
  rw [W]
  clear W
  go_enter Tryz.func52, Tryz.ntmps52
  go_wp2
  go_ret
  exact ⟨rfl, rfl⟩
set_option maxHeartbeats 400000 in
theorem wordByte_95 (w : World) :
    Calls Tryz.prog 52 #[.int .u8 95] w fun e w' => e = .returned (.bool (wordI 95)) ∧ w' = w := by
  have W : wordI 95 = true := by decide +kernel
  rw [W]
  clear W
  go_enter Tryz.func52, Tryz.ntmps52
  go_wp2
  go_ret
  exact ⟨rfl, rfl⟩
set_option maxHeartbeats 400000 in
theorem wordByte_124 (w : World) :
    Calls Tryz.prog 52 #[.int .u8 124] w fun e w' => e = .returned (.bool (wordI 124)) ∧ w' = w := by
  have W : wordI 124 = true := by decide +kernel
  rw [W]
  clear W
  go_enter Tryz.func52, Tryz.ntmps52
  go_wp2
  go_ret
  exact ⟨rfl, rfl⟩
set_option maxHeartbeats 400000 in
theorem wordByte_126 (w : World) :
    Calls Tryz.prog 52 #[.int .u8 126] w fun e w' => e = .returned (.bool (wordI 126)) ∧ w' = w := by
  have W : wordI 126 = true := by decide +kernel
  rw [W]
  clear W
  go_enter Tryz.func52, Tryz.ntmps52
  go_wp2
  go_ret
  exact ⟨rfl, rfl⟩
set_option maxHeartbeats 1000000 in
theorem wordByte_else (c : Int) (w : World) (h0 : 0 ≤ c) (h1 : c < 256) (hs : signI c.toNat = false) :
    Calls Tryz.prog 52 #[.int .u8 c] w fun e w' => e = .returned (.bool (wordI c)) ∧ w' = w := by
  have HE : Hid (wordI c = ((decide (97 ≤ c) && decide (c ≤ 122)) || (decide (65 ≤ c) && decide (c ≤ 90)) || (decide (48 ≤ c) && decide (c ≤ 57)))) := by
    show _ = _
    rw [wordI_eq c h0 h1, hs, Bool.false_or]
  obtain ⟨n, rfl⟩ := Int.eq_ofNat_of_zero_le h0
  simp only [Int.toNat_natCast, signI, List.contains_eq_mem, List.mem_cons, List.not_mem_nil, or_false, decide_eq_false_iff_not, not_or] at hs
  obtain ⟨s0, s1, s2, s3, s4, s5, s6, s7, s8, s9, s10, s11, s12, s13⟩ := hs
  have t0 : ((n : Int) == 33) = false := by simp; omega
  have t1 : ((n : Int) == 35) = false := by simp; omega
  have t2 : ((n : Int) == 36) = false := by simp; omega
  have t3 : ((n : Int) == 37) = false := by simp; omega
  have t4 : ((n : Int) == 38) = false := by simp; omega
  have t5 : ((n : Int) == 39) = false := by simp; omega
  have t6 : ((n : Int) == 42) = false := by simp; omega
  have t7 : ((n : Int) == 43) = false := by simp; omega
  have t8 : ((n : Int) == 45) = false := by simp; omega
  have t9 : ((n : Int) == 46) = false := by simp; omega
  have t10 : ((n : Int) == 94) = false := by simp; omega
  have t11 : ((n : Int) == 95) = false := by simp; omega
  have t12 : ((n : Int) == 124) = false := by simp; omega
  have t13 : ((n : Int) == 126) = false := by simp; omega
  clear s0 s1 s2 s3 s4 s5 s6 s7 s8 s9 s10 s11 s12 s13
  generalize (n : Int) = c at *
  clear n
  have key : ∀ b : Bool, wordI c = b → Ending.returned (.bool b) = .returned (.bool (wordI c)) := fun b h => by rw [h]
  have KEY : Hid (∀ b : Bool, wordI c = b → Ending.returned (.bool b) = .returned (.bool (wordI c))) := key
  clear key
  by_cases c1 : c < 48
  · have W : Hid (wordI c = false) := by
      show _ = _
      rw [HE.out]; simp; omega
    go_enter Tryz.func52, Tryz.ntmps52
    go_wp2
    go_ret
    exact ⟨KEY.out _ W.out, rfl⟩
  by_cases c2 : c ≤ 57
  · have W : Hid (wordI c = true) := by
      show _ = _
      rw [HE.out]; simp; omega
    have d1 : decide (c ≤ 57) = true := by simpa using c2
    go_enter Tryz.func52, Tryz.ntmps52
    go_wp2
    go_ret
    exact ⟨KEY.out _ W.out, rfl⟩
  have d2 : decide (c ≤ 57) = false := by simpa using c2
  by_cases c3 : c < 65
  · have W : Hid (wordI c = false) := by
      show _ = _
      rw [HE.out]; simp; omega
    go_enter Tryz.func52, Tryz.ntmps52
    go_wp2
    go_ret
    exact ⟨KEY.out _ W.out, rfl⟩
  by_cases c4 : c ≤ 90
  · have W : Hid (wordI c = true) := by
      show _ = _
      rw [HE.out]; simp; omega
    have d1 : decide (c ≤ 90) = true := by simpa using c4
    go_enter Tryz.func52, Tryz.ntmps52
    go_wp2
    go_ret
    exact ⟨KEY.out _ W.out, rfl⟩
  have d4 : decide (c ≤ 90) = false := by simpa using c4
  by_cases c5 : c < 97
  · have W : Hid (wordI c = false) := by
      show _ = _
      rw [HE.out]; simp; omega
    go_enter Tryz.func52, Tryz.ntmps52
    go_wp2
    go_ret
    exact ⟨KEY.out _ W.out, rfl⟩
  by_cases c6 : c ≤ 122
  · have W : Hid (wordI c = true) := by
      show _ = _
      rw [HE.out]; simp; omega
    have d1 : decide (c ≤ 122) = true := by simpa using c6
    go_enter Tryz.func52, Tryz.ntmps52
    go_wp2
    go_ret
    exact ⟨KEY.out _ W.out, rfl⟩
  have d6 : decide (c ≤ 122) = false := by simpa using c6
  have W : Hid (wordI c = false) := by
    show _ = _
    rw [HE.out]; simp; omega
  go_enter Tryz.func52, Tryz.ntmps52
  go_wp2
  go_ret
  exact ⟨KEY.out _ W.out, rfl⟩
theorem wordByte_any (c : Int) (w : World) (h0 : 0 ≤ c) (h1 : c < 256) :
    Calls Tryz.prog 52 #[.int .u8 c] w fun e w' => e = .returned (.bool (wordI c)) ∧ w' = w := by
  cases h : signI c.toNat
  · exact wordByte_else c w h0 h1 h
  · obtain ⟨n, rfl⟩ := Int.eq_ofNat_of_zero_le h0
    simp only [Int.toNat_natCast, signI, List.contains_eq_mem, List.mem_cons, List.not_mem_nil, or_false, decide_eq_true_eq] at h
    rcases h with rfl | rfl | rfl | rfl | rfl | rfl | rfl | rfl | rfl | rfl | rfl | rfl | rfl | rfl
    · exact wordByte_33 w
    · exact wordByte_35 w
    · exact wordByte_36 w
    · exact wordByte_37 w
    · exact wordByte_38 w
    · exact wordByte_39 w
    · exact wordByte_42 w
    · exact wordByte_43 w
    · exact wordByte_45 w
    · exact wordByte_46 w
    · exact wordByte_94 w
    · exact wordByte_95 w
    · exact wordByte_124 w
    · exact wordByte_126 w
end Go.Proofs.YthiiaefdobpjhaaGreatDoor
/-
  What the model's IsWord answers, and hasOnly over the table.
-/
namespace Go.Proofs.YthiiaefdobpjhaaGreatDoor
open Go.ChangeShapes Go.WideShapes Go.ChangeAt Go.RowKit
set_option maxHeartbeats 400000 in
theorem specIsWord_size (s : ByteArray) (w : World) (h : s.size < 1 ∨ 64 < s.size) :
    Calls Tryz.prog 53 #[.string s] w fun e w' => e = .returned (.bool false) ∧ w' = w := by
  rcases h with h | h
  · have hh : (s.size : Int) < 1 := by omega
    go_enter Tryz.func53, Tryz.ntmps53
    go_wp2
    go_ret
    exact ⟨rfl, rfl⟩
  · have hh : (64 : Int) < s.size := by omega
    have h1 : ¬ (s.size : Int) < 1 := by omega
    go_enter Tryz.func53, Tryz.ntmps53
    go_wp2
    go_ret
    exact ⟨rfl, rfl⟩
set_option maxHeartbeats 1000000 in
theorem specIsWord_mid (s : ByteArray) (w : World) (h1 : 1 ≤ s.size) (h2 : s.size ≤ 64) :
    Calls Tryz.prog 53 #[.string s] w fun e w' => e = .returned (.bool (allW s.data.toList)) ∧ w' = w := by
  have g1 : ¬ (s.size : Int) < 1 := by omega
  have g2 : ¬ (64 : Int) < s.size := by omega
  go_enter Tryz.func53, Tryz.ntmps53
  go_wp2
  go_loop [3] (fun i => ∃ k : Nat, k ≤ s.size ∧ i = .int .i64 k ∧ allW (s.data.toList.take k) = true) (fun i => s.size - (intOf i).toNat)
  case atStart => exact ⟨0, Nat.zero_le _, rfl, rfl⟩
  case round =>
    obtain ⟨k, hk, rfl, hall⟩ := hrel
    by_cases hlt : k < s.size
    · have hb : ((s[k].toNat : Nat) : Int) < 256 := by have := s[k].toNat_lt; omega
      cases hw : wordI (s[k].toNat : Int)
      · have HN : Hid (allW s.data.toList = false) := allW_not s k hlt hw
        have HW : Hid (wordI (s[k].toNat : Int) = false) := hw
        clear hall hw
        go_wp2_with fail
        refine (wordByte_any _ _ (by omega) hb).mono ?_
        rintro e w' ⟨rfl, rfl⟩
        rw [HW.out]
        go_wp2
        go_ret
        exact ⟨ret_bool HN.out.symm, rfl⟩
      · have HA : Hid (allW (s.data.toList.take (k + 1)) = true) := by
          show _ = _
          rw [take_snoc s k hlt, allW_snoc, hall, hw]; rfl
        have HW : Hid (wordI (s[k].toNat : Int) = true) := hw
        clear hall hw
        go_wp2_with fail
        refine (wordByte_any _ _ (by omega) hb).mono ?_
        rintro e w' ⟨rfl, rfl⟩
        rw [HW.out]
        go_wp2
        go_round
        case rel => exact ⟨k + 1, by omega, by go_num, HA.out⟩
        case measure => simp [intOf]; omega
    · have ek : s.data.toList.take k = s.data.toList := List.take_of_length_le (by simp; omega)
      rw [ek] at hall
      have HN : Hid (allW s.data.toList = true) := hall
      clear ek hall
      go_wp2
      go_ret
      exact ⟨ret_bool HN.out.symm, rfl⟩
theorem specIsWord_any (s : ByteArray) (w : World) :
    Calls Tryz.prog 53 #[.string s] w fun e w' => e = .returned (.bool (wordS s)) ∧ w' = w := by
  by_cases c : s.size < 1 ∨ 64 < s.size
  · have h : wordS s = false := by
      rcases c with c | c
      · exact wordS_short s c
      · exact wordS_long s c
    rw [h]; exact specIsWord_size s w c
  · rw [wordS_mid s (by omega) (by omega)]
    exact specIsWord_mid s w (by omega) (by omega)
set_option maxHeartbeats 1000000 in
theorem hasOnly_any (s : ByteArray) (cs : Array Value) (w : World) (hs : s.size ≤ 64) (hcs : ∀ i, i < 128 → cs[i]? = some (.bool (wordI (i : Int)))) :
    Calls Tryz.prog 70 #[.string s, .agg cs] w fun e w' => e = .returned (.bool (allW s.data.toList)) ∧ Below w.heap.size w w' := by
  have hcell : ∀ i, i < 128 → (w.alloc (.cells cs 95)).cell? ⟨w.heap.size, i, none⟩ = some (.bool (wordI (i : Int))) := fun i hi => by
    rw [World.cell?_alloc_mark]; exact hcs i hi
  have HC : Hid (∀ i, i < 128 → (w.alloc (.cells cs 95)).cell? ⟨w.heap.size, i, none⟩ = some (.bool (wordI (i : Int)))) := hcell
  clear hcell hcs
  go_enter Tryz.func70, Tryz.ntmps70
  go_wp2
  go_loop [9] (fun i => ∃ k : Nat, k ≤ s.size ∧ i = .int .i64 k ∧ allW (s.data.toList.take k) = true) (fun i => s.size - (intOf i).toNat)
  case atStart => exact ⟨0, Nat.zero_le _, rfl, rfl⟩
  case round =>
    obtain ⟨k, hk, rfl, hall⟩ := hrel
    by_cases hlt : k < s.size
    · have hb : ((s[k].toNat : Nat) : Int) < 256 := by have := s[k].toNat_lt; omega
      by_cases hbig : 128 ≤ (s[k].toNat : Int)
      · have HN : Hid (allW s.data.toList = false) := allW_not s k hlt (wordI_big _ hbig)
        clear hall
        go_wp2
        go_ret
        exact ⟨ret_bool HN.out.symm, (Below.refl _ _).alloc (Nat.le_refl _) _⟩
      · have hc := HC.out s[k].toNat (by omega)
        cases hw : wordI (s[k].toNat : Int)
        · have HN : Hid (allW s.data.toList = false) := allW_not s k hlt hw
          rw [hw] at hc
          clear hall hw
          go_wp2
          go_ret
          exact ⟨ret_bool HN.out.symm, (Below.refl _ _).alloc (Nat.le_refl _) _⟩
        · have HA : Hid (allW (s.data.toList.take (k + 1)) = true) := by
            show _ = _
            rw [take_snoc s k hlt, allW_snoc, hall, hw]; rfl
          rw [hw] at hc
          clear hall hw
          go_wp2
          go_round
          case rel => exact ⟨k + 1, by omega, by go_num, HA.out⟩
          case measure => simp [intOf]; omega
    · have ek : s.data.toList.take k = s.data.toList := List.take_of_length_le (by simp; omega)
      rw [ek] at hall
      have HN : Hid (allW s.data.toList = true) := hall
      clear ek hall
      go_wp2
      go_ret
      exact ⟨ret_bool HN.out.symm, (Below.refl _ _).alloc (Nat.le_refl _) _⟩
end Go.Proofs.YthiiaefdobpjhaaGreatDoor
/-
  A slice of bytes that the call itself grows: one byte more.
-/
namespace Go.Proofs.YthiiaefdobpjhaaGreatDoor
open Go.ChangeShapes Go.WideShapes Go.ChangeAt Go.RowKit
theorem infoByteB : (Tryz.prog.info? 5).map (fun i => (i.zero, i.size, i.bytes)) = some (some (.int .u8 0), 1, 1) := by kernel_rfl
def bytesW (l : List UInt8) : List Value := l.map fun c => Value.int .u8 (c.toNat : Int)
/-- v, a slice that is not nil, holds the bytes l in a row of the call's own, from block base on. -/
structure OwnB (w : World) (base : Nat) (v : Value) (l : List UInt8) : Prop where
  own : w.ownsRow base 5 1 v l.length (bytesW l)
  nn : v ≠ .slice none 0 0
theorem own_geB {w : World} {base : Nat} {e : TypeId} {size : Nat} {v : Value} {n : Nat} {xs : List Value} (h : w.ownsRow base e size v n xs) (q : Nat) (hq : v.ownBlock = some q) : base ≤ q := by
  obtain ⟨_, h | ⟨g, c, cur, rfl, hg, _⟩⟩ := h
  · rw [h.1] at hq; cases hq
  · simp only [Value.ownBlock, Option.some.injEq] at hq; omega
theorem OwnB.text {w : World} {base : Nat} {v : Value} {l : List UInt8} (h : OwnB w base v l) :
    (convert 25 9 v).run Tryz.prog w = .ok (.string ⟨l.toArray⟩) w := by
  have h0 := h.own
  obtain ⟨_, hn | ⟨g, c, cur, rfl, hg, _⟩⟩ := h.own
  · exact absurd hn.1 h.nn
  · refine run_convert_bytes_back w 25 9 5 ⟨g, 0, none⟩ c l Tryz.underlying25 Tryz.underlying5 Tryz.underlying9 ?_
    intro j hj
    have := h0.cellAt j (by omega)
    have e : (⟨g, 0, none⟩ : Addr).add j = ⟨g, j, none⟩ := by unfold Addr.add; split <;> simp_all
    rw [e, this]
    simp [bytesW, hj]
/-- A slice literal of bytes, just laid. -/
theorem OwnB.made (w : World) (base : Nat) (hb : base ≤ w.heap.size) (l : List UInt8) (hl : l.length ≤ 1000000) : OwnB (w.alloc (.cells (bytesW l).toArray 5)) base (.slice (some ⟨w.heap.size, 0, none⟩) l.length l.length) l where
  own := ⟨by simp [bytesW], .inr ⟨w.heap.size, l.length, (bytesW l).toArray, rfl, hb, heap_alloc_new _ _, Nat.le_refl _, by unfold maxLen; omega, by simp [bytesW], by simp [bytesW, List.take_of_length_le]⟩⟩
  nn := by simp
theorem OwnB.below {w w' : World} {base : Nat} {v : Value} {l : List UInt8} (h : OwnB w base v l) (hb : Below w.heap.size w w') : OwnB w' base v l := by
  refine ⟨?_, h.nn⟩
  obtain ⟨h1, h2⟩ := h.own
  refine ⟨h1, ?_⟩
  rcases h2 with h2 | ⟨g, c, cur, e, hg, hh, hrest⟩
  · exact .inl h2
  · exact .inr ⟨g, c, cur, e, hg, by rw [hb.block g (Array.getElem?_eq_some_iff.1 hh).1]; exact hh, hrest⟩
/-- 'out = append(out, c)', the byte laid in a block of its own right ahead. -/
theorem wpList_append_byte {ops : Array Oper} {rest : List Oper} {o : Oper} {a : Act} {Q : Exit → Act → World → Prop} (w : World) (hgd : o.guard = none) (s x : Operand)
    (ho : o.op = .call { callee := .builtin .append, args := #[s, x], argTypes := #[25, 25] }) (base : Nat) (v : Value) (l : List UInt8) (z : Int) (c : UInt8)
    (hs : a.eval s = v) (hx : a.eval x = .slice (some ⟨w.heap.size, 0, none⟩) 1 1) (hown : OwnB w base v l) (hc : (c.toNat : Int) = z) (hl : l.length ≤ 1000000) (hbase : base ≤ w.heap.size)
    (h : ∀ v' w', OwnB w' base v' (l ++ [c]) → Below base w w' → w.heap.size ≤ w'.heap.size → wpList Tryz.prog ops Q rest (a.put o.dst v') w') :
    wpList Tryz.prog ops Q (o :: rest) a (w.alloc (.cells #[.int .u8 z] 5)) := by
  obtain ⟨i0, hi, hz0, hz1, hz2⟩ := info_parts infoByteB
  refine wpList_append_own _ hgd s x 25 ho base 5 i0 (.int .u8 0) 1 1 Tryz.underlying25 hi hz0 hz1 hz2 rfl (by decide) v l.length (bytesW l) hs (hown.own.alloc _) ⟨w.heap.size, 0, none⟩ 1 1 [.int .u8 z] hx rfl ?_ ?_ ?_ ?_ ?_ ?_
  · intro j u hj
    match j, hj with
    | 0, hj => simp at hj; subst hj; simp [Addr.add]
  · intro u hu; simp at hu; subst hu; rfl
  · unfold maxLen; omega
  · omega
  · simp; omega
  · intro v' w' h1 h2 h3
    have e : bytesW (l ++ [c]) = bytesW l ++ [Value.int .u8 z] := by simp [bytesW, hc]
    refine h v' w' ⟨by rw [e, List.length_append]; exact h1, fun hv => hown.nn (h3.1 hv).1⟩ ?_ ?_
    · exact ((Below.refl base w).alloc hbase _).grown h2 (by simp; omega) (fun q hq => own_geB hown.own q hq)
    · have hb := ((Below.refl 0 w).alloc (Nat.zero_le _) (.cells #[.int .u8 z] 5)).grown h2 (Nat.zero_le _) (fun q _ => Nat.zero_le _)
      exact hb.size
end Go.Proofs.YthiiaefdobpjhaaGreatDoor
/-
  What the model's l2Plain and l2PlainText answer.
-/
namespace Go.Proofs.YthiiaefdobpjhaaGreatDoor
open Go.ChangeShapes Go.WideShapes Go.ChangeAt Go.RowKit
set_option maxHeartbeats 400000 in
theorem plain_any (c : Int) (w : World) (h0 : 0 ≤ c) (h1 : c < 256) :
    Calls Tryz.prog 64 #[.int .u8 c] w fun e w' => e = .returned (.bool (plainI c)) ∧ w' = w := by
  by_cases e9 : c = 9
  · subst e9
    go_enter Tryz.func64, Tryz.ntmps64
    go_wp2
    go_ret
    exact ⟨rfl, rfl⟩
  · have d9 : (c == 9) = false := by simpa using e9
    by_cases a1 : 32 ≤ c
    · by_cases a2 : c ≤ 126
      · have d2 : decide (c ≤ 126) = true := by simpa using a2
        have HP : Hid (plainI c = true) := by show _ = _; simp [plainI, a1, a2]
        go_enter Tryz.func64, Tryz.ntmps64
        go_wp2
        go_ret
        exact ⟨ret_bool HP.out.symm, rfl⟩
      · have d2 : decide (c ≤ 126) = false := by simpa using a2
        have HP : Hid (plainI c = false) := by show _ = _; simp [plainI, e9]; omega
        go_enter Tryz.func64, Tryz.ntmps64
        go_wp2
        go_ret
        exact ⟨ret_bool HP.out.symm, rfl⟩
    · have HP : Hid (plainI c = false) := by show _ = _; simp [plainI, e9]; omega
      go_enter Tryz.func64, Tryz.ntmps64
      go_wp2
      go_ret
      exact ⟨ret_bool HP.out.symm, rfl⟩
set_option maxHeartbeats 1000000 in
theorem plainText_any (s : ByteArray) (w : World) (hs : s.size ≤ 1048576) :
    Calls Tryz.prog 54 #[.string s] w fun e w' => e = .returned (.bool (plainL s.data.toList)) ∧ w' = w := by
  go_enter Tryz.func54, Tryz.ntmps54
  go_wp2
  go_loop [3] (fun i => ∃ k : Nat, k ≤ s.size ∧ i = .int .i64 k ∧ plainL (s.data.toList.take k) = true) (fun i => s.size - (intOf i).toNat)
  case atStart => exact ⟨0, Nat.zero_le _, rfl, rfl⟩
  case round =>
    obtain ⟨k, hk, rfl, hall⟩ := hrel
    by_cases hlt : k < s.size
    · have hb : ((s[k].toNat : Nat) : Int) < 256 := by have := s[k].toNat_lt; omega
      cases hw : plainI (s[k].toNat : Int)
      · have HN : Hid (plainL s.data.toList = false) := plainL_not s k hlt hw
        have HW : Hid (plainI (s[k].toNat : Int) = false) := hw
        clear hall hw
        go_wp2_with fail
        refine (plain_any _ _ (by omega) hb).mono ?_
        rintro e w' ⟨rfl, rfl⟩
        rw [HW.out]
        go_wp2
        go_ret
        exact ⟨ret_bool HN.out.symm, rfl⟩
      · have HA : Hid (plainL (s.data.toList.take (k + 1)) = true) := by
          show _ = _
          rw [take_snoc s k hlt, plainL_snoc, hall, hw]; rfl
        have HW : Hid (plainI (s[k].toNat : Int) = true) := hw
        clear hall hw
        go_wp2_with fail
        refine (plain_any _ _ (by omega) hb).mono ?_
        rintro e w' ⟨rfl, rfl⟩
        rw [HW.out]
        go_wp2
        go_round
        case rel => exact ⟨k + 1, by omega, by go_num, HA.out⟩
        case measure => simp [intOf]; omega
    · have ek : s.data.toList.take k = s.data.toList := List.take_of_length_le (by simp; omega)
      rw [ek] at hall
      have HN : Hid (plainL s.data.toList = true) := hall
      clear ek hall
      go_wp2
      go_ret
      exact ⟨ret_bool HN.out.symm, rfl⟩
end Go.Proofs.YthiiaefdobpjhaaGreatDoor
/-
  What the model's l1Trim answers.
-/
namespace Go.Proofs.YthiiaefdobpjhaaGreatDoor
open Go.ChangeShapes Go.WideShapes Go.ChangeAt Go.RowKit
set_option maxHeartbeats 400000 in
theorem blank_any (c : Int) (w : World) :
    Calls Tryz.prog 65 #[.int .u8 c] w fun e w' => e = .returned (.bool (blankI c)) ∧ w' = w := by
  by_cases h1 : c = 32
  · subst h1
    go_enter Tryz.func65, Tryz.ntmps65
    go_wp2
    go_ret
    exact ⟨rfl, rfl⟩
  · by_cases h2 : c = 9
    · subst h2
      go_enter Tryz.func65, Tryz.ntmps65
      go_wp2
      go_ret
      exact ⟨rfl, rfl⟩
    · have d1 : (c == 32) = false := by simpa using h1
      have d2 : (c == 9) = false := by simpa using h2
      have HB : Hid (blankI c = false) := by
        show _ = _
        unfold blankI
        rw [d1, d2]; rfl
      clear h1 h2
      go_enter Tryz.func65, Tryz.ntmps65
      go_wp2
      go_ret
      exact ⟨ret_bool HB.out.symm, rfl⟩
set_option maxHeartbeats 1000000 in
theorem l1Trim_big (s : ByteArray) (w : World) (hs : s.size ≤ 1048576) :
    Calls Tryz.prog 55 #[.string s] w fun e w' => e = .returned (.string (trimT s)) ∧ w' = w := by
  go_enter Tryz.func55, Tryz.ntmps55
  go_wp2
  go_loop [3] (fun i => ∃ k : Nat, k ≤ s.size ∧ i = .int .i64 k ∧ ∀ (j : Nat) b, j < k → s.data.toList[j]? = some b → blankI (b.toNat : Int) = true) (fun i => s.size - (intOf i).toNat)
  case atStart => exact ⟨0, Nat.zero_le _, rfl, fun j b h => absurd h (Nat.not_lt_zero _)⟩
  case round =>
    obtain ⟨k, hk, rfl, hall⟩ := hrel
    have H1 : Hid (∀ (j : Nat) b, j < k → s.data.toList[j]? = some b → blankI (b.toNat : Int) = true) := hall
    clear hall
    by_cases hgo : ∃ h : k < s.size, blankI (s[k].toNat : Int) = true
    · obtain ⟨hlt, hb⟩ := hgo
      have HB : Hid (blankI (s[k].toNat : Int) = true) := hb
      clear hb
      go_wp2_with fail
      refine (blank_any _ _).mono ?_
      rintro e w' ⟨rfl, rfl⟩
      rw [HB.out]
      go_wp2
      go_round
      case rel =>
        refine ⟨k + 1, by omega, by go_num, fun j b hj hbj => ?_⟩
        by_cases e : j = k
        · subst e
          have : s.data.toList[j]? = some s[j] := by rw [List.getElem?_eq_getElem (by simpa using hlt)]; rfl
          rw [this] at hbj
          obtain rfl := Option.some.inj hbj
          exact HB.out
        · exact H1.out j b (by omega) hbj
      case measure => simp [intOf]; omega
    · have H2 : Hid (∀ b, k < s.data.toList.length → s.data.toList[k]? = some b → blankI (b.toNat : Int) = false) := by
        intro b hlt hb
        have hlt' : k < s.size := by simpa using hlt
        have : s.data.toList[k]? = some s[k] := by rw [List.getElem?_eq_getElem hlt]; rfl
        rw [this] at hb
        obtain rfl := Option.some.inj hb
        cases hx : blankI (s[k].toNat : Int)
        · rfl
        · exact absurd ⟨hlt', hx⟩ hgo
      by_cases hlt : k < s.size
      · have HB : Hid (blankI (s[k].toNat : Int) = false) := by
          show _ = _
          cases hx : blankI (s[k].toNat : Int)
          · rfl
          · exact absurd ⟨hlt, hx⟩ hgo
        clear hgo
        go_wp2_with fail
        refine (blank_any _ _).mono ?_
        rintro e w' ⟨rfl, rfl⟩
        rw [HB.out]
        clear HB
        go_wp2
        go_loop [4] (fun i => ∃ m : Nat, k ≤ m ∧ m ≤ s.size ∧ i = .int .i64 m ∧ ∀ (j : Nat) b, m ≤ j → s.data.toList[j]? = some b → blankI (b.toNat : Int) = true) (fun i => (intOf i).toNat)
        case atStart => exact ⟨s.size, hk, Nat.le_refl _, rfl, fun j b hj hb => absurd (List.getElem?_eq_some_iff.1 hb).1 (by simp; omega)⟩
        case round =>
          obtain ⟨m, hkm, hm, rfl, hall⟩ := hrel
          have H3 : Hid (∀ (j : Nat) b, m ≤ j → s.data.toList[j]? = some b → blankI (b.toNat : Int) = true) := hall
          clear hall
          by_cases hkm2 : k < m
          · obtain ⟨n, rfl⟩ : ∃ n, m = n + 1 := ⟨m - 1, by omega⟩
            have hn : n < s.size := by omega
            cases hb : blankI (s[n].toNat : Int)
            · have HB : Hid (blankI (s[n].toNat : Int) = false) := hb
              have HT : Hid (s.extract k (n + 1) = trimT s) := by
                refine trim_extract s k (n + 1) (trim_between _ k (n + 1) hkm (by simpa using hm) H1.out H2.out H3.out ?_)
                intro b _ hbn
                have : s.data.toList[n]? = some s[n] := by rw [List.getElem?_eq_getElem (by simpa using hn)]; rfl
                rw [Nat.add_sub_cancel, this] at hbn
                obtain rfl := Option.some.inj hbn
                exact HB.out
              clear hb
              go_wp2_with fail
              refine (blank_any _ _).mono ?_
              rintro e w' ⟨rfl, rfl⟩
              rw [HB.out]
              go_wp2
              go_ret
              exact ⟨ret_str HT.out, rfl⟩
            · have HB : Hid (blankI (s[n].toNat : Int) = true) := hb
              clear hb
              go_wp2_with fail
              refine (blank_any _ _).mono ?_
              rintro e w' ⟨rfl, rfl⟩
              rw [HB.out]
              go_wp2
              go_round
              case rel =>
                refine ⟨n, by omega, by omega, by go_num, fun j b hj hbj => ?_⟩
                by_cases e : j = n
                · subst e
                  have : s.data.toList[j]? = some s[j] := by rw [List.getElem?_eq_getElem (by simpa using hn)]; rfl
                  rw [this] at hbj
                  obtain rfl := Option.some.inj hbj
                  exact HB.out
                · exact H3.out j b (by omega) hbj
              case measure => simp [intOf]
          · obtain rfl : k = m := by omega
            have HT : Hid (ByteArray.empty = trimT s) := by
              have e := trim_extract s k k (trim_between _ k k (Nat.le_refl _) (by simpa using hm) H1.out H2.out H3.out (fun b h => absurd h (Nat.lt_irrefl _)))
              have e0 : s.extract k k = ByteArray.empty := by simp
              exact e0.symm.trans e
            go_wp2
            go_ret
            exact ⟨ret_str HT.out, rfl⟩
      · clear hgo
        go_wp2
        go_loop [4] (fun i => ∃ m : Nat, k ≤ m ∧ m ≤ s.size ∧ i = .int .i64 m ∧ ∀ (j : Nat) b, m ≤ j → s.data.toList[j]? = some b → blankI (b.toNat : Int) = true) (fun i => (intOf i).toNat)
        case atStart => exact ⟨s.size, hk, Nat.le_refl _, rfl, fun j b hj hb => absurd (List.getElem?_eq_some_iff.1 hb).1 (by simp; omega)⟩
        case round =>
          obtain ⟨m, hkm, hm, rfl, hall⟩ := hrel
          have H3 : Hid (∀ (j : Nat) b, m ≤ j → s.data.toList[j]? = some b → blankI (b.toNat : Int) = true) := hall
          clear hall
          obtain rfl : k = m := by omega
          have HT : Hid (ByteArray.empty = trimT s) := by
            have e := trim_extract s k k (trim_between _ k k (Nat.le_refl _) (by simpa using hm) H1.out H2.out H3.out (fun b h => absurd h (Nat.lt_irrefl _)))
            have e0 : s.extract k k = ByteArray.empty := by simp
            exact e0.symm.trans e
          go_wp2
          go_ret
          exact ⟨ret_str HT.out, rfl⟩
theorem l1Trim_any (s : ByteArray) (w : World) (hs : s.size ≤ 1000) :
    Calls Tryz.prog 55 #[.string s] w fun e w' => e = .returned (.string (trimT s)) ∧ w' = w := l1Trim_big s w (by omega)
end Go.Proofs.YthiiaefdobpjhaaGreatDoor
/-
  What the model's l4Line and HeadersFault answer.
-/
namespace Go.Proofs.YthiiaefdobpjhaaGreatDoor
open Go.ChangeShapes Go.WideShapes Go.ChangeAt Go.RowKit
theorem hstr_ne {a b : ByteArray} (h : a ≠ b) : (a.toList == b.toList) = false := by
  rw [beq_eq_false_iff_ne]
  intro e
  rw [ByteArray.toList_eq, ByteArray.toList_eq] at e
  exact h (ByteArray.ext (Array.ext' e))
set_option maxHeartbeats 2000000 in
theorem l4Line_any (r : Hdr) (w : World) :
    Calls Tryz.prog 43 #[.agg #[.string r.name, .string r.value]] w fun e w' => e = .returned (.int .i64 (faultH r)) ∧ Below w.heap.size w w' := by
  obtain ⟨n, v⟩ := r
  simp only
  have kb : Below w.heap.size w (w.alloc (.cells #[.string n, .string v] 73)) := (Below.refl _ _).alloc (Nat.le_refl _) _
  have KB : Hid (Below w.heap.size w (w.alloc (.cells #[.string n, .string v] 73))) := kb
  clear kb
  have HW : Hid (∀ w, Calls Tryz.prog 53 #[.string n] w fun e w' => e = .returned (.bool (wordS n)) ∧ w' = w) := specIsWord_any n
  cases hw : wordS n
  · have HE : Hid (faultH ⟨n, v⟩ = 5) := by show _ = _; simp [faultH, hw]
    rw [hw] at HW
    clear hw
    go_enter Tryz.func43, Tryz.ntmps43
    go_wp2_with fail
    refine (HW.out _).mono ?_
    rintro e w1 ⟨rfl, rfl⟩
    go_wp2_with fail
    go_ret
    exact ⟨ret_int HE.out.symm, KB.out⟩
  rw [hw] at HW
  by_cases hbig : 200 < v.size
  · have HE : Hid (faultH ⟨n, v⟩ = 2) := by show _ = _; simp only [faultH, hw]; rw [if_neg (by simp), if_pos hbig]
    have g : (200 : Int) < v.size := by omega
    clear hw
    go_enter Tryz.func43, Tryz.ntmps43
    go_wp2_with fail
    refine (HW.out _).mono ?_
    rintro e w1 ⟨rfl, rfl⟩
    go_wp2_with fail
    go_ret
    exact ⟨ret_int HE.out.symm, KB.out⟩
  have g : ¬ (200 : Int) < v.size := by omega
  have HP : Hid (∀ w, Calls Tryz.prog 54 #[.string v] w fun e w' => e = .returned (.bool (plainL v.data.toList)) ∧ w' = w) := fun w => plainText_any v w (by omega)
  have HT : Hid (∀ w, Calls Tryz.prog 55 #[.string v] w fun e w' => e = .returned (.string (trimT v)) ∧ w' = w) := fun w => l1Trim_any v w (by omega)
  cases hp : plainL v.data.toList
  · have HE : Hid (faultH ⟨n, v⟩ = 5) := by show _ = _; simp only [faultH, hw]; rw [if_neg (by simp), if_neg hbig, if_pos hp]
    rw [hp] at HP
    clear hw hp hbig
    go_enter Tryz.func43, Tryz.ntmps43
    go_wp2_with fail
    refine (HW.out _).mono ?_
    rintro e w1 ⟨rfl, rfl⟩
    go_wp2_with fail
    refine (HP.out _).mono ?_
    rintro e w1 ⟨rfl, rfl⟩
    go_wp2_with fail
    go_ret
    exact ⟨ret_int HE.out.symm, KB.out⟩
  rw [hp] at HP
  by_cases ht : trimT v = v
  · have HE : Hid (faultH ⟨n, v⟩ = 0) := by show _ = _; simp only [faultH, hw]; rw [if_neg (by simp), if_neg hbig, if_neg (by simp [hp]), if_pos ht]
    rw [ht] at HT
    clear hw hp hbig ht
    go_enter Tryz.func43, Tryz.ntmps43
    go_wp2_with fail
    refine (HW.out _).mono ?_
    rintro e w1 ⟨rfl, rfl⟩
    go_wp2_with fail
    refine (HP.out _).mono ?_
    rintro e w1 ⟨rfl, rfl⟩
    go_wp2_with fail
    refine (HT.out _).mono ?_
    rintro e w1 ⟨rfl, rfl⟩
    go_wp2_with fail
    go_ret
    exact ⟨ret_int HE.out.symm, KB.out⟩
  · have HE : Hid (faultH ⟨n, v⟩ = 5) := by show _ = _; simp only [faultH, hw]; rw [if_neg (by simp), if_neg hbig, if_neg (by simp [hp]), if_neg ht]
    have hq := hstr_ne ht
    generalize trimT v = t at *
    clear hw hp hbig ht
    go_enter Tryz.func43, Tryz.ntmps43
    go_wp2_with fail
    refine (HW.out _).mono ?_
    rintro e w1 ⟨rfl, rfl⟩
    go_wp2_with fail
    refine (HP.out _).mono ?_
    rintro e w1 ⟨rfl, rfl⟩
    go_wp2_with fail
    refine (HT.out _).mono ?_
    rintro e w1 ⟨rfl, rfl⟩
    go_wp2_with fail
    go_ret
    exact ⟨ret_int HE.out.symm, KB.out⟩
set_option maxRecDepth 100000 in
set_option maxHeartbeats 4000000 in
theorem specHFault_any (w : World) (a : Option Addr) (cap : Nat) (l : List Hdr) (hl : l.length ≤ 1048576) (hi : HdsIn w a l) :
    Calls Tryz.prog 29 #[.slice a l.length cap] w fun e w' => e = .returned (.int .i64 (headsC l)) ∧ Below w.heap.size w w' := by
  by_cases h20 : 20 < l.length
  · have HE : Hid (headsC l = 2) := headsC_many h20
    have g : (20 : Int) < (l.length : Int) := by omega
    clear hi
    generalize l.length = n at *
    go_enter Tryz.func29, Tryz.ntmps29
    go_wp2_with fail
    go_ret
    exact ⟨ret_int HE.out.symm, Below.refl _ _⟩
  have HC : Hid (headsC l = faultHL l) := headsC_few h20
  have HI : Hid (HdsIn w a l) := hi
  clear hi
  generalize hn : l.length = n at *
  have HN : Hid (l.length = n) := hn
  clear hn
  have g : ¬ (20 : Int) < (n : Int) := by omega
  go_enter Tryz.func29, Tryz.ntmps29
  go_wp2_with fail
  go_loopw [3] (fun i wr => ∃ k : Nat, k ≤ n ∧ i = .int .i64 k ∧ faultHL l = faultHL (l.drop k) ∧ Below w.heap.size w wr) (fun i _ => n - (intOf i).toNat)
  case atStart => exact ⟨0, Nat.zero_le _, rfl, rfl, Below.refl _ _⟩
  case round =>
    obtain ⟨k, hk, rfl, hf, hb⟩ := hrel
    have HF : Hid (faultHL l = faultHL (l.drop k)) := hf
    clear hf
    by_cases hlt : k < n
    · obtain ⟨r, hr⟩ : ∃ r, l[k]? = some r := ⟨l[k]'(by have := HN.out; omega), List.getElem?_eq_getElem _⟩
      rcases HI.out with h | ⟨b, off, rfl, hat⟩
      · subst h; simp at hr
      obtain ⟨p1, p3⟩ := (hat.keep hb) k r hr
      have HD : Hid (l.drop k = r :: l.drop (k + 1)) := drop_hdr l k r hr
      have gk : (k : Int) < n := by omega
      have SF : Hid (∀ w, Calls Tryz.prog 43 #[.agg #[.string r.name, .string r.value]] w fun e w' => e = .returned (.int .i64 (faultH r)) ∧ Below w.heap.size w w') := l4Line_any r
      clear hr hat HI
      by_cases hfr : faultH r = 0
      · have HX : Hid (faultHL l = faultHL (l.drop (k + 1))) := by show _ = _; rw [HF.out, HD.out, faultHL_ok hfr]
        rw [hfr] at SF
        clear hfr HD HF
        obtain ⟨rn, rv⟩ := r
        simp only at p1 p3 SF
        go_wp2_with fail
        refine (SF.out _).mono ?_
        rintro e w2 ⟨rfl, hb2⟩
        have hbb := hb.trans (hb2.mono hb.size)
        clear hb2 hb
        go_wp2_with fail
        go_roundw
        case rel => exact ⟨k + 1, by omega, by go_num, HX.out, hbb⟩
        case measure => simp [intOf]; omega
      · have HX : Hid (headsC l = faultH r) := by show _ = _; rw [HC.out, HF.out, HD.out, faultHL_bad hfr]
        clear HD HF HC
        obtain ⟨rn, rv⟩ := r
        simp only at p1 p3 SF
        generalize faultH ⟨rn, rv⟩ = fr at *
        go_wp2_with fail
        refine (SF.out _).mono ?_
        rintro e w2 ⟨rfl, hb2⟩
        have hbb := hb.trans (hb2.mono hb.size)
        clear hb2 hb
        go_wp2_with fail
        go_ret
        exact ⟨ret_int HX.out.symm, hbb⟩
    · have HX : Hid (headsC l = 0) := by
        show _ = _
        rw [HC.out, HF.out, List.drop_of_length_le (by have := HN.out; omega)]
        rfl
      clear HF HC
      go_wp2_with fail
      go_ret
      exact ⟨ret_int HX.out.symm, hb⟩
end Go.Proofs.YthiiaefdobpjhaaGreatDoor
/-
  What isPlain and allPlain answer.
-/
namespace Go.Proofs.YthiiaefdobpjhaaGreatDoor
open Go.ChangeShapes Go.WideShapes Go.ChangeAt Go.RowKit
set_option maxHeartbeats 400000 in
theorem iplain_any (c : Int) (w : World) (h0 : 0 ≤ c) (h1 : c < 256) :
    Calls Tryz.prog 87 #[.int .u8 c] w fun e w' => e = .returned (.bool (plainI c)) ∧ w' = w := by
  by_cases e9 : c = 9
  · subst e9
    go_enter Tryz.func87, Tryz.ntmps87
    go_wp2
    go_ret
    exact ⟨rfl, rfl⟩
  · have d9 : (c == 9) = false := by simpa using e9
    by_cases a1 : 32 ≤ c
    · by_cases a2 : c ≤ 126
      · have d2 : decide (c ≤ 126) = true := by simpa using a2
        have HP : Hid (plainI c = true) := by show _ = _; simp [plainI, a1, a2]
        go_enter Tryz.func87, Tryz.ntmps87
        go_wp2
        go_ret
        exact ⟨ret_bool HP.out.symm, rfl⟩
      · have d2 : decide (c ≤ 126) = false := by simpa using a2
        have HP : Hid (plainI c = false) := by show _ = _; simp [plainI, e9]; omega
        go_enter Tryz.func87, Tryz.ntmps87
        go_wp2
        go_ret
        exact ⟨ret_bool HP.out.symm, rfl⟩
    · have HP : Hid (plainI c = false) := by show _ = _; simp [plainI, e9]; omega
      go_enter Tryz.func87, Tryz.ntmps87
      go_wp2
      go_ret
      exact ⟨ret_bool HP.out.symm, rfl⟩
set_option maxHeartbeats 1000000 in
theorem allPlain_any (s : ByteArray) (w : World) (hs : s.size ≤ 1048576) :
    Calls Tryz.prog 80 #[.string s] w fun e w' => e = .returned (.bool (plainL s.data.toList)) ∧ w' = w := by
  go_enter Tryz.func80, Tryz.ntmps80
  go_wp2
  go_loop [6] (fun i => ∃ k : Nat, k ≤ s.size ∧ i = .int .i64 k ∧ plainL (s.data.toList.take k) = true) (fun i => s.size - (intOf i).toNat)
  case atStart => exact ⟨0, Nat.zero_le _, rfl, rfl⟩
  case round =>
    obtain ⟨k, hk, rfl, hall⟩ := hrel
    by_cases hlt : k < s.size
    · have hb : ((s[k].toNat : Nat) : Int) < 256 := by have := s[k].toNat_lt; omega
      cases hw : plainI (s[k].toNat : Int)
      · have HN : Hid (plainL s.data.toList = false) := plainL_not s k hlt hw
        have HW : Hid (plainI (s[k].toNat : Int) = false) := hw
        clear hall hw
        go_wp2_with fail
        refine (iplain_any _ _ (by omega) hb).mono ?_
        rintro e w' ⟨rfl, rfl⟩
        rw [HW.out]
        go_wp2
        go_ret
        exact ⟨ret_bool HN.out.symm, rfl⟩
      · have HA : Hid (plainL (s.data.toList.take (k + 1)) = true) := by
          show _ = _
          rw [take_snoc s k hlt, plainL_snoc, hall, hw]; rfl
        have HW : Hid (plainI (s[k].toNat : Int) = true) := hw
        clear hall hw
        go_wp2_with fail
        refine (iplain_any _ _ (by omega) hb).mono ?_
        rintro e w' ⟨rfl, rfl⟩
        rw [HW.out]
        go_wp2
        go_round
        case rel => exact ⟨k + 1, by omega, by go_num, HA.out⟩
        case measure => simp [intOf]; omega
    · have ek : s.data.toList.take k = s.data.toList := List.take_of_length_le (by simp; omega)
      rw [ek] at hall
      have HN : Hid (plainL s.data.toList = true) := hall
      clear ek hall
      go_wp2
      go_ret
      exact ⟨ret_bool HN.out.symm, rfl⟩
end Go.Proofs.YthiiaefdobpjhaaGreatDoor
/-
  What IsWord answers where the table lies in memory as the program lays it.
-/
namespace Go.Proofs.YthiiaefdobpjhaaGreatDoor
open Go.ChangeShapes Go.WideShapes Go.ChangeAt Go.RowKit
set_option maxHeartbeats 400000 in
theorem implIsWord_size (s : ByteArray) (w : World) (h : s.size < 1 ∨ 64 < s.size) :
    Calls Tryz.prog 79 #[.string s] w fun e w' => e = .returned (.bool false) ∧ Below w.heap.size w w' := by
  rcases h with h | h
  · have hh : (s.size : Int) < 1 := by omega
    go_enter Tryz.func79, Tryz.ntmps79
    go_wp2
    go_ret
    exact ⟨rfl, Below.refl _ _⟩
  · have hh : (64 : Int) < s.size := by omega
    have h1 : (1 : Int) ≤ s.size := by omega
    have d : decide ((s.size : Int) ≤ 64) = false := by simp; omega
    go_enter Tryz.func79, Tryz.ntmps79
    go_wp2
    go_ret
    exact ⟨rfl, Below.refl _ _⟩
/-- A whole array loaded behind a guard that lets it. -/
theorem wpList_load_row_g {P : Program} {ops : Array Oper} {rest : List Oper} {o : Oper} {a : Act} {w : World} {Q : Exit → Act → World → Prop} (hw : Region.wanted o (yielded ops a.tmps) = true) (ty : TypeId) (x : Operand) (ho : o.op = .load ty x)
    (g : Nat) (hx : a.eval x = .pointer (some ⟨g, 0, none⟩)) (t : TypeId) (cs : Array Value) (fr : Nat × Nat) (d : TypeDesc) (hg : w.heap[g]? = some (.cells cs t fr))
    (hu : P.underlying ty = some d) (hd : (match d with | .struct _ | .array _ _ => true | _ => false) = true) (hi : (P.info? ty).map (·.size) = some cs.size)
    (h : wpList P ops Q rest (a.put o.dst (.agg cs)) w) : wpList P ops Q (o :: rest) a w :=
  wpList_step fun _ hK => by rw [if_pos hw]; exact wp_load_row ty x ho g hx t cs fr d hg hu hd hi (hK _ _ h)
theorem infoSet : (Tryz.prog.info? 95).map (·.size) = some 128 := by kernel_rfl
set_option maxHeartbeats 400000 in
theorem implIsWord_mid (s : ByteArray) (w : World) (cs : Array Value) (tt : TypeId) (fr : Nat × Nat) (h1 : 1 ≤ s.size) (h2 : s.size ≤ 64) (hg : w.heap[4]? = some (.cells cs tt fr)) (hsz : cs.size = 128) (hcs : ∀ i, i < 128 → cs[i]? = some (.bool (wordI (i : Int)))) :
    Calls Tryz.prog 79 #[.string s] w fun e w' => e = .returned (.bool (allW s.data.toList)) ∧ Below w.heap.size w w' := by
  have g1 : (1 : Int) ≤ s.size := by omega
  have d : decide ((s.size : Int) ≤ 64) = true := by simp; omega
  have HG : Hid (w.heap[4]? = some (.cells cs tt fr)) := hg
  have HI : Hid ((Tryz.prog.info? 95).map (·.size) = some cs.size) := by
    show _ = _
    rw [infoSet, hsz]
  have HC : Hid (∀ i, i < 128 → cs[i]? = some (.bool (wordI (i : Int)))) := hcs
  clear hcs hg hsz
  go_enter Tryz.func79, Tryz.ntmps79
  go_wp2_with (refine wpList_load_row_g (by rfl) 95 (.global 4) rfl 4 rfl tt cs fr _ HG.out Tryz.underlying95 rfl HI.out ?_)
  refine (hasOnly_any s cs _ h2 HC.out).mono ?_
  rintro e w1 ⟨rfl, hb⟩
  go_wp2
  go_ret
  exact ⟨rfl, hb⟩
theorem implIsWord_any (s : ByteArray) (w : World) (cs : Array Value) (tt : TypeId) (fr : Nat × Nat) (hg : w.heap[4]? = some (.cells cs tt fr)) (hsz : cs.size = 128) (hcs : ∀ i, i < 128 → cs[i]? = some (.bool (wordI (i : Int)))) :
    Calls Tryz.prog 79 #[.string s] w fun e w' => e = .returned (.bool (wordS s)) ∧ Below w.heap.size w w' := by
  by_cases c : s.size < 1 ∨ 64 < s.size
  · have h : wordS s = false := by
      rcases c with c | c
      · exact wordS_short s c
      · exact wordS_long s c
    rw [h]; exact implIsWord_size s w c
  · rw [wordS_mid s (by omega) (by omega)]
    exact implIsWord_mid s w cs tt fr (by omega) (by omega) hg hsz hcs
end Go.Proofs.YthiiaefdobpjhaaGreatDoor
/-
  The law of IsWord out of contracts; what the row's list gives.
-/
namespace Go.Proofs.YthiiaefdobpjhaaGreatDoor
open Go.ChangeShapes Go.WideShapes Go.ChangeAt Go.RowKit
/-- An array of bools that reads as a table holds the table, cell for cell. -/
theorem cells_of_bools {H : Type} {enc : TypeId × Value → H} {P : Program} {w : World} {base : Nat} {sp : Nat → Bool} {held : Bool} {fuel : Nat} {t e : TypeId} {n : Nat} {cs : List Value} {zs : List Bool} {p : List MemPlace}
    (ht : P.underlying t = some (.array n e)) (he : P.underlying e = some .bool) (hce : P.cellsOf e = 1) (hct : P.cellsOf t = n)
    (h : DataW.trod enc P w base sp held fuel t cs = some (.agg (zs.map fun z => .lit (.bool z)), p)) : cs = zs.map fun z => Value.bool z := by
  cases fuel with
  | zero => simp [DataW.trod] at h
  | succ fuel =>
    simp only [DataW.trod, ht, hce, hct, Nat.mul_one] at h
    split at h
    · rename_i hl
      obtain ⟨xs, hm, hx⟩ := Option.map_eq_some_iff.1 h
      have hxs : xs.map (·.1) = zs.map fun z => (DataW.lit (.bool z) : DataW H) := by
        have := congrArg Prod.fst hx
        simpa using this
      have hxl : xs.length = n := by simpa using Lib.mapM_length hm
      have hzl : zs.length = n := by
        have := congrArg List.length hxs
        simp at this
        omega
      apply List.ext_getElem?
      intro i
      by_cases hi : i < n
      · obtain ⟨b, hb, hf⟩ := Lib.mapM_at hm i i (by simp [hi])
        obtain ⟨z, hc, rfl⟩ := DataW.trod_bool he hf
        have h1 : cs[i]? = some (.bool z) := by
          have := congrArg (·[0]?) hc
          simpa [List.getElem?_take, List.getElem?_drop] using this
        have h2 : (xs.map (·.1))[i]? = some (DataW.lit (.bool z) : DataW H) := by simp [hb]
        rw [hxs] at h2
        simp only [List.getElem?_map, Option.map_eq_some_iff, DataW.lit.injEq, Lit.bool.injEq] at h2
        obtain ⟨z', hz', rfl⟩ := h2
        simp [h1, hz']
      · rw [List.getElem?_eq_none (by omega), List.getElem?_eq_none (by simp; omega)]
    · cases h
theorem setCells : Tryz.prog.cellsOf 95 = 128 := by kernel_rfl
theorem boolCells : Tryz.prog.cellsOf 4 = 1 := by kernel_rfl
theorem setNamed : Tryz.prog.globalNamed "loop.example/g00665/impl.wordBytes" = some 4 := by kernel_rfl
theorem setType : (Tryz.prog.globals[4]?).map (·.type) = some 95 := by kernel_rfl
theorem laidTab {H : Type} : (Rows.laid_loop_example_g00665_impl_wordBytes : DataW H) = .agg (wordTab.map fun z => .lit (.bool z)) := by kernel_rfl
/-- The table lies in memory. -/
def SetIs (w : World) : Prop := ∃ cs tt fr, w.heap[4]? = some (.cells cs tt fr) ∧ cs.size = 128 ∧ ∀ i, i < 128 → cs[i]? = some (.bool (wordI (i : Int)))
theorem setIs_of {w : World} {rest : List (String × DataW Unit)} (h : laidMet Tryz.prog (("loop.example/g00665/impl.wordBytes", Rows.laid_loop_example_g00665_impl_wordBytes) :: rest) w) : SetIs w := by
  obtain ⟨ps, ⟨g', t', cs, fuel, p, q, hg', ht', hvar, hd, _, _⟩, _⟩ := h
  obtain rfl := Option.some.inj (setNamed.symm.trans hg')
  obtain rfl := Option.some.inj (setType.symm.trans ht')
  rw [laidTab] at hd
  have hcs := cells_of_bools Tryz.underlying95 Tryz.underlying4 boolCells setCells hd
  unfold World.var? at hvar
  rw [setNamed] at hvar
  simp only [Option.bind_some] at hvar
  cases hb : w.heap[4]? with
  | none => rw [hb] at hvar; cases hvar
  | some o =>
    rw [hb] at hvar
    cases o with
    | cells c tt fr =>
      simp only [Option.some.injEq] at hvar
      subst hvar
      have hl : c.toList.length = 128 := by rw [hcs, List.length_map]; exact wordTab_len
      refine ⟨c, tt, fr, hb, by simpa using hl, fun i hi => ?_⟩
      rw [← Array.getElem?_toList, hcs, List.getElem?_map]
      have hi2 : i < wordTab.length := by rw [wordTab_len]; exact hi
      rw [List.getElem?_eq_getElem hi2]
      simp [wordI, hi2]
    | map _ _ => cases hvar
    | _ => cases hvar
theorem SetIs.below {w w' : World} (h : SetIs w) (hb : Below w.heap.size w w') : SetIs w' := by
  obtain ⟨cs, tt, fr, hg, h1, h2⟩ := h
  refine ⟨cs, tt, fr, ?_, h1, h2⟩
  rw [hb.block 4 (Array.getElem?_eq_some_iff.1 hg).1, hg]
theorem implIsWord_set (s : ByteArray) (w : World) (h : SetIs w) :
    Calls Tryz.prog 79 #[.string s] w fun e w' => e = .returned (.bool (wordS s)) ∧ Below w.heap.size w w' := by
  obtain ⟨cs, tt, fr, hg, h1, h2⟩ := h
  exact implIsWord_any s w cs tt fr hg h1 h2
end Go.Proofs.YthiiaefdobpjhaaGreatDoor
/-
  What TrimText and its model answer; the law of TrimText out of them.
-/
namespace Go.Proofs.YthiiaefdobpjhaaGreatDoor
open Go.ChangeShapes Go.WideShapes Go.ChangeAt Go.RowKit
theorem trimT_size (s : ByteArray) : (trimT s).size ≤ s.size := by
  have h : (Lib.trimS s.data.toList [32, 9]).length ≤ s.data.toList.length := by
    unfold Lib.trimS Lib.trimLeftS Lib.trimRightS
    refine Nat.le_trans (List.dropWhile_sublist _).length_le ?_
    rw [List.length_reverse]
    refine Nat.le_trans (List.dropWhile_sublist _).length_le ?_
    rw [List.length_reverse]
    exact Nat.le_refl _
  have e : (trimT s).size = (Lib.trimS s.data.toList [32, 9]).length := by simp [trimT, ByteArray.size]
  rw [e]
  simpa using h
theorem trim_lib (s : ByteArray) (w : World) (hs : s.size ≤ 1000) :
    Calls Tryz.prog 81 #[.string s, .string ⟨#[32, 9]⟩] w fun e w' => e = .returned (.string (trimT s)) ∧ Below w.heap.size w w' :=
  Any.strings_Trim_laid Tryz.lays160 (by kernel_rfl) s ⟨#[32, 9]⟩ w (by omega) (by decide) (ascii_of_all (by decide))
theorem trim_big (s : ByteArray) (w : World) (hs : s.size ≤ 1048576) :
    Calls Tryz.prog 81 #[.string s, .string ⟨#[32, 9]⟩] w fun e w' => e = .returned (.string (trimT s)) ∧ Below w.heap.size w w' :=
  Any.strings_Trim_laid Tryz.lays160 (by kernel_rfl) s ⟨#[32, 9]⟩ w (by omega) (by decide) (ascii_of_all (by decide))
theorem clone_lib (s : ByteArray) (w : World) (hs : s.size ≤ 1000) :
    Calls Tryz.prog 83 #[.string s] w fun e w' => e = .returned (.string s) ∧ Below w.heap.size w w' :=
  Any.stringslite_Clone Tryz.laysM316 s w (by omega)
set_option maxHeartbeats 400000 in
theorem clone_any (s : ByteArray) (w : World) (hs : s.size ≤ 1000) :
    Calls Tryz.prog 76 #[.string s] w fun e w' => e = .returned (.string s) ∧ Below w.heap.size w w' := by
  go_enter Tryz.func76, Tryz.ntmps76
  go_wp2_with fail
  refine (clone_lib s _ hs).mono ?_
  rintro e w1 ⟨rfl, hb⟩
  go_wp2
  go_ret
  exact ⟨rfl, hb⟩
end Go.Proofs.YthiiaefdobpjhaaGreatDoor
/-
  What lineFault and HeadersFault answer.
-/
namespace Go.Proofs.YthiiaefdobpjhaaGreatDoor
open Go.ChangeShapes Go.WideShapes Go.ChangeAt Go.RowKit Go.Sort
theorem hdr_room {w w1 : World} {n v : ByteArray} {t : TypeId} (hb : Below (w.alloc (.cells #[.string n, .string v] t)).heap.size (w.alloc (.cells #[.string n, .string v] t)) w1) :
    w.heap.size < w1.heap.size ∧ w1.cell? ⟨w.heap.size, 0, none⟩ = some (.string n) ∧ w1.cell? ⟨w.heap.size, 1, none⟩ = some (.string v) ∧ Below w.heap.size w w1 := by
  rw [World.size_alloc] at hb
  have hz := hb.size
  simp only [World.size_alloc] at hz
  exact ⟨hz, by rw [hb.cell (p := ⟨w.heap.size, 0, none⟩) (Nat.lt_succ_self _)]; simp, by rw [hb.cell (p := ⟨w.heap.size, 1, none⟩) (Nat.lt_succ_self _)]; simp, ((Below.refl _ _).alloc (Nat.le_refl _) _).trans (hb.mono (Nat.le_succ _))⟩
theorem hkeep {W W' : World} (hb : Below W.heap.size W W') {p : Addr} {v : Value} (h : W.cell? p = some v) : W'.cell? p = some v := by
  rw [hb.cell (block_lt_of_cell h)]; exact h
set_option maxHeartbeats 2000000 in
theorem implLine_any (r : Hdr) (w : World) (hset : SetIs w) :
    Calls Tryz.prog 72 #[.agg #[.string r.name, .string r.value]] w fun e w' => e = .returned (.int .i64 (faultH r)) ∧ Below w.heap.size w w' := by
  obtain ⟨n, v⟩ := r
  simp only
  have HW : Hid (Calls Tryz.prog 79 #[.string n] (w.alloc (.cells #[.string n, .string v] 73)) fun e w' => e = .returned (.bool (wordS n)) ∧ Below (w.alloc (.cells #[.string n, .string v] 73)).heap.size (w.alloc (.cells #[.string n, .string v] 73)) w') := implIsWord_set n _ (hset.below ((Below.refl _ _).alloc (Nat.le_refl _) _))
  clear hset
  cases hw : wordS n
  · have HE : Hid (faultH ⟨n, v⟩ = 5) := by show _ = _; simp [faultH, hw]
    rw [hw] at HW
    clear hw
    go_enter Tryz.func72, Tryz.ntmps72
    go_wp2_with fail
    refine HW.out.mono ?_
    rintro e w1 ⟨rfl, hb1⟩
    obtain ⟨hz1, p0, p1, kb⟩ := hdr_room hb1
    have KB : Hid (Below w.heap.size w w1) := kb
    clear hb1 kb
    go_wp2_with fail
    go_ret
    exact ⟨ret_int HE.out.symm, KB.out⟩
  rw [hw] at HW
  by_cases hbig : 200 < v.size
  · have HE : Hid (faultH ⟨n, v⟩ = 2) := by show _ = _; simp only [faultH, hw]; rw [if_neg (by simp), if_pos hbig]
    have g : (200 : Int) < v.size := by omega
    clear hw
    go_enter Tryz.func72, Tryz.ntmps72
    go_wp2_with fail
    refine HW.out.mono ?_
    rintro e w1 ⟨rfl, hb1⟩
    obtain ⟨hz1, p0, p1, kb⟩ := hdr_room hb1
    have KB : Hid (Below w.heap.size w w1) := kb
    clear hb1 kb
    go_wp2_with fail
    go_ret
    exact ⟨ret_int HE.out.symm, KB.out⟩
  have g : ¬ (200 : Int) < v.size := by omega
  have HP : Hid (∀ w, Calls Tryz.prog 80 #[.string v] w fun e w' => e = .returned (.bool (plainL v.data.toList)) ∧ Below w.heap.size w w') := fun w => (allPlain_any v w (by omega)).mono fun _ _ ⟨h1, h2⟩ => ⟨h1, h2 ▸ Below.refl _ _⟩
  have HT : Hid (∀ w, Calls Tryz.prog 81 #[.string v, .string ⟨#[32, 9]⟩] w fun e w' => e = .returned (.string (trimT v)) ∧ Below w.heap.size w w') := fun w => trim_big v w (by omega)
  cases hp : plainL v.data.toList
  · have HE : Hid (faultH ⟨n, v⟩ = 5) := by show _ = _; simp only [faultH, hw]; rw [if_neg (by simp), if_neg hbig, if_pos hp]
    rw [hp] at HP
    clear hw hp hbig
    go_enter Tryz.func72, Tryz.ntmps72
    go_wp2_with fail
    refine HW.out.mono ?_
    rintro e w1 ⟨rfl, hb1⟩
    obtain ⟨hz1, p0, p1, kb⟩ := hdr_room hb1
    have KB : Hid (Below w.heap.size w w1) := kb
    clear hb1 kb
    go_wp2_with fail
    have q1 := cell_regrown p1
    have cP : ∀ d' os, Calls Tryz.prog 80 #[.string v] (grow (redrawn w1 d') os) fun e w'' => e = .returned (.bool false) ∧ ∃ p : Regrown, w'' = grow (redrawn w1 p.d) p.os := fun d' os => Calls.regrown_of (HP.out _)
    refine wp_region_quiet_below (by kernel_rfl) (by kernel_rfl) ?_
    repeat (go_big_quiet_step (first | (go_at_call 80; exact cP _ _)))
    refine wpQuiet_nil ?_
    intro W2 hW2
    have hbW2 : Below w1.heap.size w1 W2 := by
      obtain ⟨⟨d, os⟩, rfl⟩ := hW2
      exact below_regrown w1 d os
    have KB2 : Hid (Below w.heap.size w W2) := KB.out.trans (hbW2.mono KB.out.size)
    clear hW2 hbW2 cP q1 p0 p1 KB
    go_wp2_with fail
    go_ret
    exact ⟨ret_int HE.out.symm, KB2.out⟩
  rw [hp] at HP
  by_cases ht : trimT v = v
  · have HE : Hid (faultH ⟨n, v⟩ = 0) := by show _ = _; simp only [faultH, hw]; rw [if_neg (by simp), if_neg hbig, if_neg (by simp [hp]), if_pos ht]
    rw [ht] at HT
    clear hw hp hbig ht
    go_enter Tryz.func72, Tryz.ntmps72
    go_wp2_with fail
    refine HW.out.mono ?_
    rintro e w1 ⟨rfl, hb1⟩
    obtain ⟨hz1, p0, p1, kb⟩ := hdr_room hb1
    have KB : Hid (Below w.heap.size w w1) := kb
    clear hb1 kb
    go_wp2_with fail
    have q1 := cell_regrown p1
    have cP : ∀ d' os, Calls Tryz.prog 80 #[.string v] (grow (redrawn w1 d') os) fun e w'' => e = .returned (.bool true) ∧ ∃ p : Regrown, w'' = grow (redrawn w1 p.d) p.os := fun d' os => Calls.regrown_of (HP.out _)
    have cT : ∀ d' os, Calls Tryz.prog 81 #[.string v, .string ⟨#[32, 9]⟩] (grow (redrawn w1 d') os) fun e w'' => e = .returned (.string v) ∧ ∃ p : Regrown, w'' = grow (redrawn w1 p.d) p.os := fun d' os => Calls.regrown_of (HT.out _)
    refine wp_region_quiet_below (by kernel_rfl) (by kernel_rfl) ?_
    repeat (go_big_quiet_step (first | (go_at_call 80; exact cP _ _) | (go_at_call 81; exact cT _ _)))
    refine wpQuiet_nil ?_
    intro W2 hW2
    have hbW2 : Below w1.heap.size w1 W2 := by
      obtain ⟨⟨d, os⟩, rfl⟩ := hW2
      exact below_regrown w1 d os
    have KB2 : Hid (Below w.heap.size w W2) := KB.out.trans (hbW2.mono KB.out.size)
    clear hW2 hbW2 cP cT q1 p0 p1 KB
    go_wp2_with fail
    go_ret
    exact ⟨ret_int HE.out.symm, KB2.out⟩
  · have HE : Hid (faultH ⟨n, v⟩ = 5) := by show _ = _; simp only [faultH, hw]; rw [if_neg (by simp), if_neg hbig, if_neg (by simp [hp]), if_neg ht]
    have hq := hstr_ne ht
    generalize trimT v = t at *
    clear hw hp hbig ht
    go_enter Tryz.func72, Tryz.ntmps72
    go_wp2_with fail
    refine HW.out.mono ?_
    rintro e w1 ⟨rfl, hb1⟩
    obtain ⟨hz1, p0, p1, kb⟩ := hdr_room hb1
    have KB : Hid (Below w.heap.size w w1) := kb
    clear hb1 kb
    go_wp2_with fail
    have q1 := cell_regrown p1
    have cP : ∀ d' os, Calls Tryz.prog 80 #[.string v] (grow (redrawn w1 d') os) fun e w'' => e = .returned (.bool true) ∧ ∃ p : Regrown, w'' = grow (redrawn w1 p.d) p.os := fun d' os => Calls.regrown_of (HP.out _)
    have cT : ∀ d' os, Calls Tryz.prog 81 #[.string v, .string ⟨#[32, 9]⟩] (grow (redrawn w1 d') os) fun e w'' => e = .returned (.string t) ∧ ∃ p : Regrown, w'' = grow (redrawn w1 p.d) p.os := fun d' os => Calls.regrown_of (HT.out _)
    refine wp_region_quiet_below (by kernel_rfl) (by kernel_rfl) ?_
    repeat (go_big_quiet_step (first | (go_at_call 80; exact cP _ _) | (go_at_call 81; exact cT _ _)))
    refine wpQuiet_nil ?_
    intro W2 hW2
    have hbW2 : Below w1.heap.size w1 W2 := by
      obtain ⟨⟨d, os⟩, rfl⟩ := hW2
      exact below_regrown w1 d os
    have KB2 : Hid (Below w.heap.size w W2) := KB.out.trans (hbW2.mono KB.out.size)
    clear hW2 hbW2 cP cT q1 p0 p1 KB
    go_wp2_with fail
    go_ret
    exact ⟨ret_int HE.out.symm, KB2.out⟩
set_option maxRecDepth 100000 in
set_option maxHeartbeats 4000000 in
theorem implHFault_any (w : World) (a : Option Addr) (cap : Nat) (l : List Hdr) (hl : l.length ≤ 1048576) (hset : SetIs w) (hi : HdsIn w a l) :
    Calls Tryz.prog 62 #[.slice a l.length cap] w fun e w' => e = .returned (.int .i64 (headsC l)) ∧ Below w.heap.size w w' := by
  by_cases h20 : 20 < l.length
  · have HE : Hid (headsC l = 2) := headsC_many h20
    have g : (20 : Int) < (l.length : Int) := by omega
    clear hi hset
    generalize l.length = n at *
    go_enter Tryz.func62, Tryz.ntmps62
    go_wp2_with fail
    go_ret
    exact ⟨ret_int HE.out.symm, Below.refl _ _⟩
  have HC : Hid (headsC l = faultHL l) := headsC_few h20
  have HI : Hid (HdsIn w a l) := hi
  have HS : Hid (SetIs w) := hset
  clear hi hset
  generalize hn : l.length = n at *
  have HN : Hid (l.length = n) := hn
  clear hn
  have g : ¬ (20 : Int) < (n : Int) := by omega
  go_enter Tryz.func62, Tryz.ntmps62
  go_wp2_with fail
  go_loopw [11] (fun i wr => ∃ k : Nat, k ≤ n ∧ i = .int .i64 k ∧ faultHL l = faultHL (l.drop k) ∧ Below w.heap.size w wr) (fun i _ => n - (intOf i).toNat)
  case atStart => exact ⟨0, Nat.zero_le _, rfl, rfl, Below.refl _ _⟩
  case round =>
    obtain ⟨k, hk, rfl, hf, hb⟩ := hrel
    have HF : Hid (faultHL l = faultHL (l.drop k)) := hf
    clear hf
    by_cases hlt : k < n
    · obtain ⟨r, hr⟩ : ∃ r, l[k]? = some r := ⟨l[k]'(by have := HN.out; omega), List.getElem?_eq_getElem _⟩
      rcases HI.out with h | ⟨b, off, rfl, hat⟩
      · subst h; simp at hr
      obtain ⟨p1, p3⟩ := (hat.keep hb) k r hr
      have HD : Hid (l.drop k = r :: l.drop (k + 1)) := drop_hdr l k r hr
      have gk : (k : Int) < n := by omega
      have SF : Hid (∀ W, Below wr.heap.size wr W → Calls Tryz.prog 72 #[.agg #[.string r.name, .string r.value]] W fun e w' => e = .returned (.int .i64 (faultH r)) ∧ Below W.heap.size W w') := fun W h => implLine_any r W ((HS.out.below hb).below h)
      clear hr hat HI
      by_cases hfr : faultH r = 0
      · have HX : Hid (faultHL l = faultHL (l.drop (k + 1))) := by show _ = _; rw [HF.out, HD.out, faultHL_ok hfr]
        rw [hfr] at SF
        clear hfr HD HF
        obtain ⟨rn, rv⟩ := r
        simp only at p1 p3 SF
        go_wp2_with fail
        refine (SF.out _ ((Below.refl _ _).alloc (Nat.le_refl _) _)).mono ?_
        rintro e w2 ⟨rfl, hb2⟩
        obtain ⟨_, _, _, kb⟩ := hdr_room hb2
        have hbb := hb.trans (kb.mono hb.size)
        clear hb2 hb kb
        go_wp2_with fail
        go_roundw
        case rel => exact ⟨k + 1, by omega, by go_num, HX.out, hbb⟩
        case measure => simp [intOf]; omega
      · have HX : Hid (headsC l = faultH r) := by show _ = _; rw [HC.out, HF.out, HD.out, faultHL_bad hfr]
        clear HD HF HC
        obtain ⟨rn, rv⟩ := r
        simp only at p1 p3 SF
        generalize faultH ⟨rn, rv⟩ = fr at *
        go_wp2_with fail
        refine (SF.out _ ((Below.refl _ _).alloc (Nat.le_refl _) _)).mono ?_
        rintro e w2 ⟨rfl, hb2⟩
        obtain ⟨_, _, _, kb⟩ := hdr_room hb2
        have hbb := hb.trans (kb.mono hb.size)
        clear hb2 hb kb
        go_wp2_with fail
        go_ret
        exact ⟨ret_int HX.out.symm, hbb⟩
    · have HX : Hid (headsC l = 0) := by
        show _ = _
        rw [HC.out, HF.out, List.drop_of_length_le (by have := HN.out; omega)]
        rfl
      clear HF HC
      go_wp2_with fail
      go_ret
      exact ⟨ret_int HX.out.symm, hb⟩
end Go.Proofs.YthiiaefdobpjhaaGreatDoor
/-
  What LowerText answers where the text is not too long.
-/
namespace Go.Proofs.YthiiaefdobpjhaaGreatDoor
open Go.ChangeShapes Go.WideShapes Go.ChangeAt Go.RowKit
set_option maxHeartbeats 1000000 in
theorem implLower_any (s : ByteArray) (w : World) (hs : s.size ≤ 1000) :
    Calls Tryz.prog 82 #[.string s] w fun e w' => e = .returned (.agg #[.int .i64 0, .string (lowS s)]) ∧ Below w.heap.size w w' := by
  obtain ⟨C, cap, hcv, hrow⟩ : ∃ C cap, (convert 9 25 (.string s)).run Tryz.prog (w.alloc (.cells #[.int .i64 0, .string ⟨#[]⟩] 86)) = .ok (.slice (some ⟨w.heap.size + 1, 0, none⟩) s.size cap) ((w.alloc (.cells #[.int .i64 0, .string ⟨#[]⟩] 86)).drew.alloc (.cells C 5 (C.size, C.size + 1))) ∧ BRow ((w.alloc (.cells #[.int .i64 0, .string ⟨#[]⟩] 86)).alloc (.cells C 5 (C.size, C.size + 1))) (w.heap.size + 1) s.data.toList := by
    have h1 := run_bytes_of_string (P := Tryz.prog) (w.alloc (.cells #[.int .i64 0, .string ⟨#[]⟩] 86)) 9 25 5 s Tryz.underlying9 Tryz.underlying25 Tryz.underlying5
    have h2 := fun cap => BRow.made (w.alloc (.cells #[.int .i64 0, .string ⟨#[]⟩] 86)) s cap _ rfl
    simp only [World.size_alloc] at h1 h2
    exact ⟨_, _, h1, h2 _⟩
  have hns : ¬ (1000 : Int) < s.size := by omega
  go_enter Tryz.func82, Tryz.ntmps82
  go_wp2
  go_loopw [14] (fun i wr => ∃ k : Nat, k ≤ s.size ∧ i = .int .i64 k ∧ BRow wr (w.heap.size + 1) (lowK s.data.toList k) ∧ Below (w.heap.size + 1) (w.alloc (.cells #[.int .i64 0, .string ⟨#[]⟩] 86)) wr) (fun i _ => s.size - (intOf i).toNat)
  case atStart => exact ⟨0, Nat.zero_le _, rfl, by rw [lowK_zero]; exact ⟨hrow.cell, hrow.free⟩, ((Below.refl _ _).alloc (by simp) _).drew⟩
  case round =>
    obtain ⟨k, hk, rfl, hr, hb⟩ := hrel
    clear hcv hrow
    have hlen := lowK_length s.data.toList k
    by_cases hlt : k < s.size
    · have hl : k < s.data.toList.length := by simpa using hlt
      have hl2 : k < (lowK s.data.toList k).length := by omega
      have hc := hr.cell k hl2
      have hf := hr.free k hl2
      rw [lowK_at _ _ hl hl2] at hc
      have Y : Hid (65 ≤ (s.data.toList[k].toNat : Int) ∧ (s.data.toList[k].toNat : Int) ≤ 90 → BRow (wr.setCell ⟨w.heap.size + 1, k, none⟩ (.int .u8 ((s.data.toList[k].toNat : Int) + 32))) (w.heap.size + 1) (lowK s.data.toList (k + 1))) := by
        intro ⟨u1, u2⟩
        have := hr.set k (lowU s.data.toList[k])
        rw [lowU_yes _ u1 u2] at this
        rw [lowK_succ _ _ hl]
        exact this
      have N : Hid (¬ (65 ≤ (s.data.toList[k].toNat : Int) ∧ (s.data.toList[k].toNat : Int) ≤ 90) → BRow wr (w.heap.size + 1) (lowK s.data.toList (k + 1))) := by
        intro u
        rw [lowK_keep _ _ hl u]
        exact hr
      generalize s.data.toList[k] = x at *
      clear hr hlen hl2 hl
      by_cases hU : 65 ≤ (x.toNat : Int) ∧ (x.toNat : Int) ≤ 90
      · have R : Hid (BRow (wr.setCell ⟨w.heap.size + 1, k, none⟩ (.int .u8 ((x.toNat : Int) - 65 + 97))) (w.heap.size + 1) (lowK s.data.toList (k + 1))) := by
          have := Y.out hU
          rw [show (x.toNat : Int) + 32 = (x.toNat : Int) - 65 + 97 from by omega] at this
          exact this
        obtain ⟨u1, u2⟩ := hU
        have d2 : decide ((x.toNat : Int) ≤ 90) = true := by simpa using u2
        clear Y N
        go_wp2
        go_roundw
        case rel => exact ⟨k + 1, by omega, by go_num, R.out, hb.setCell (Nat.le_refl _) _⟩
        case measure => simp [intOf]; omega
      · have R : Hid (BRow wr (w.heap.size + 1) (lowK s.data.toList (k + 1))) := N.out hU
        clear Y N
        by_cases u1 : 65 ≤ (x.toNat : Int)
        · have u2 : 90 < (x.toNat : Int) := by omega
          have d2 : decide ((x.toNat : Int) ≤ 90) = false := by simp; omega
          clear hU
          go_wp2
          go_roundw
          case rel => exact ⟨k + 1, by omega, by go_num, R.out, hb⟩
          case measure => simp [intOf]; omega
        · clear hU
          go_wp2
          go_roundw
          case rel => exact ⟨k + 1, by omega, by go_num, R.out, hb⟩
          case measure => simp [intOf]; omega
    · have e : lowK s.data.toList k = s.data.toList.map lowU := lowK_all _ _ (by simp; omega)
      rw [e] at hr
      have hback := hr.back (P := Tryz.prog) 25 9 5 s.size cap (by simp) Tryz.underlying25 Tryz.underlying5 Tryz.underlying9
      have HL : Hid ((⟨(s.data.toList.map lowU).toArray⟩ : ByteArray) = lowS s) := rfl
      generalize (⟨(s.data.toList.map lowU).toArray⟩ : ByteArray) = r at *
      clear hr e hlen
      have p0 : wr.cell? ⟨w.heap.size, 0, none⟩ = some (.int .i64 0) := by rw [hb.cell (p := ⟨w.heap.size, 0, none⟩) (Nat.lt_succ_self _)]; simp
      have p1 : wr.cell? ⟨w.heap.size, 1, none⟩ = some (.string ⟨#[]⟩) := by rw [hb.cell (p := ⟨w.heap.size, 1, none⟩) (Nat.lt_succ_self _)]; simp
      have f0 : wr.frozen? ⟨w.heap.size, 0, none⟩ = false := by rw [hb.frozen (p := ⟨w.heap.size, 0, none⟩) (Nat.lt_succ_self _)]; simp
      have f1 : wr.frozen? ⟨w.heap.size, 1, none⟩ = false := by rw [hb.frozen (p := ⟨w.heap.size, 1, none⟩) (Nat.lt_succ_self _)]; simp
      obtain ⟨q0, q1⟩ := two_set (v0 := .int .i64 0) (v1 := .string r) p0 p1
      go_wp2
      have kb : Below w.heap.size w wr := ((Below.refl _ _).alloc (Nat.le_refl _) _).trans (hb.mono (Nat.le_succ _))
      exact bodyPost_ret (v := .agg #[.int .i64 0, .string r]) (by simp [results, Tryz.results82, go_sem, q0, q1]) rfl ⟨by rw [HL.out], (kb.setCell (Nat.le_refl _) _).setCell (Nat.le_refl _) _⟩
set_option maxHeartbeats 400000 in
theorem implLower_long (s : ByteArray) (w : World) (h : 1000 < s.size) :
    Calls Tryz.prog 82 #[.string s] w fun e w' => e = .returned (.agg #[.int .i64 2, .string ⟨#[]⟩]) ∧ Below w.heap.size w w' := by
  have hh : (1000 : Int) < s.size := by omega
  go_enter Tryz.func82, Tryz.ntmps82
  go_wp2
  exact bodyPost_ret (v := .agg #[.int .i64 2, .string ⟨#[]⟩]) (by simp [results, Tryz.results82, go_sem]) rfl ⟨rfl, (Below.refl _ _).alloc (Nat.le_refl _) _⟩
end Go.Proofs.YthiiaefdobpjhaaGreatDoor
/-
  Fields of results; what lies in memory behind a call.
-/
namespace Go.Proofs.YthiiaefdobpjhaaGreatDoor
open Go.ChangeShapes Go.WideShapes Go.ChangeAt Go.RowKit Go.Sort
theorem f_field_code (c : Int) (s : ByteArray) (w : World) : (Instr.field 86 (.agg #[.int .i64 c, .string s]) 0).run Tryz.prog w = .ok (.int .i64 c) w := by kernel_rfl
theorem f_field_text (c : Int) (s : ByteArray) (w : World) : (Instr.field 86 (.agg #[.int .i64 c, .string s]) 1).run Tryz.prog w = .ok (.string s) w := by kernel_rfl
theorem f_keep {W W' : World} (hb : Below W.heap.size W W') {p : Addr} {v : Value} (h : W.cell? p = some v) : W'.cell? p = some v := by
  rw [hb.cell (block_lt_of_cell h)]; exact h
theorem f_keepA {W : World} {p : Addr} {v : Value} (o : Obj) (h : W.cell? p = some v) : (W.alloc o).cell? p = some v := f_keep ((Below.refl _ _).alloc (Nat.le_refl _) _) h
end Go.Proofs.YthiiaefdobpjhaaGreatDoor
/-
  A map of texts to places, in memory: what is asked of it, what is laid into it, what goes from it.
-/
namespace Go.Proofs.YthiiaefdobpjhaaGreatDoor
open Go.ChangeShapes Go.WideShapes Go.ChangeAt Go.RowKit Go.Maps
open Go.WideMaps (keyOf_string_mk)
theorem isKeyL (x : ByteArray) : WideAt.IsKeyLit (.string x.data.toList) := trivial
theorem hkeyed : Keyed Tryz.prog 9 := string_keyed Tryz.underlying9
theorem hzeroInt (w : World) : (zeroValue 3).run Tryz.prog w = .ok (.int .i64 0) w := by kernel_rfl
def keyL (x : ByteArray) : Lit := .string x.data.toList
theorem keyL_ne {x y : ByteArray} (h : x ≠ y) : keyL x ≠ keyL y := by
  intro e
  unfold keyL at e
  simp only [Lit.string.injEq] at e
  exact h (ByteArray.ext (Array.ext' e))
/-- Block B is a map of at most n entries that has p's places at p's names. -/
def NamesMap (w : World) (B n : Nat) (p : ByteArray → Option Nat) : Prop :=
  ∃ D : DataW Unit, w.ownsMap Tryz.prog 9 (plainElem Tryz.prog 3) B n D ∧ ∀ x : ByteArray, Maps.has D (keyL x) = (p x).isSome ∧ ∀ i, p x = some i → D.atKey (keyL x) (.lit (.int .i64 0)) = .lit (.int .i64 (i : Int))
theorem NamesMap.lt {w : World} {B n : Nat} {p : ByteArray → Option Nat} (h : NamesMap w B n p) : B < w.heap.size := by
  obtain ⟨D, h, _⟩ := h
  exact h.lt
theorem NamesMap.below {w w' : World} {B n : Nat} {p : ByteArray → Option Nat} (h : NamesMap w B n p) (hb : Below w.heap.size w w') : NamesMap w' B n p := by
  have hl := h.lt
  obtain ⟨D, ⟨es, clock, hh, r⟩, h2⟩ := h
  exact ⟨D, ⟨es, clock, by rw [hb.block B hl]; exact hh, r⟩, h2⟩
theorem NamesMap.setCell {w : World} {B n : Nat} {p : ByteArray → Option Nat} (h : NamesMap w B n p) {a : Addr} (ha : B ≠ a.block) (u : Value) : NamesMap (w.setCell a u) B n p := by
  obtain ⟨D, h, h2⟩ := h
  exact ⟨D, h.setCell ha u, h2⟩
theorem NamesMap.made (w : World) : NamesMap (w.alloc (.map #[] 0)) w.heap.size 0 (fun _ => none) :=
  ⟨.map [], World.ownsMap_made w _ _ _, fun x => ⟨rfl, fun i h => by cases h⟩⟩
theorem NamesMap.of {w : World} {B n : Nat} {p q : ByteArray → Option Nat} (h : NamesMap w B n p) (e : ∀ x, p x = q x) : NamesMap w B n q := by
  obtain rfl : p = q := funext e
  exact h
theorem turned_below {w w' : World} {B base : Nat} (h : w.mapTurned w' B) (hb : base ≤ B) : Below base w w' :=
  (Below.refl base w).grown h.grown (by
    obtain ⟨es, clock, es', clock', hh, rfl⟩ := h
    have := (Array.getElem?_eq_some_iff.1 hh).1
    omega) (fun q hq => by cases hq; exact hb)
section
variable {ops : Array Oper} {rest : List Oper} {o : Oper} {a : Act} {Q : Exit → Act → World → Prop}
theorem wpList_look_none (w : World) (hg : o.guard = none) (m x : Operand) (hop : o.op = Op.lookup 99 m x true) (B n : Nat) (p : ByteArray → Option Nat)
    (hm : a.eval m = .map (some B)) (hown : NamesMap w B n p) (key : ByteArray) (hx : a.eval x = .string key) (hk : key.size ≤ 1048576) (hp : p key = none)
    (hK : wpList Tryz.prog ops Q rest (a.put o.dst (.tuple #[.int .i64 0, .bool false])) w) : wpList Tryz.prog ops Q (o :: rest) a w := by
  obtain ⟨D, hD, hat⟩ := hown
  have h1 : Maps.has D (keyL key) = false := by rw [(hat key).1, hp]; rfl
  refine wpList_lookup_own_ok_int w hg m x 99 hop 9 3 .i64 hkeyed Tryz.underlying99 Tryz.underlying3 (hzeroInt w) B n D hm hD _ (keyL key) hx (keyOf_string_mk Tryz.underlying9 (by unfold maxLen; omega)) ?_
  intro c hc _
  rw [atKey_of_not_has h1] at hc
  obtain rfl : c = 0 := by simpa using hc.symm
  rw [h1]
  exact hK
theorem wpList_look_some (w : World) (hg : o.guard = none) (m x : Operand) (hop : o.op = Op.lookup 99 m x true) (B n : Nat) (p : ByteArray → Option Nat)
    (hm : a.eval m = .map (some B)) (hown : NamesMap w B n p) (key : ByteArray) (hx : a.eval x = .string key) (hk : key.size ≤ 1048576) (i : Nat) (hp : p key = some i)
    (hK : wpList Tryz.prog ops Q rest (a.put o.dst (.tuple #[.int .i64 (i : Int), .bool true])) w) : wpList Tryz.prog ops Q (o :: rest) a w := by
  obtain ⟨D, hD, hat⟩ := hown
  have h1 : Maps.has D (keyL key) = true := by rw [(hat key).1, hp]; rfl
  refine wpList_lookup_own_ok_int w hg m x 99 hop 9 3 .i64 hkeyed Tryz.underlying99 Tryz.underlying3 (hzeroInt w) B n D hm hD _ (keyL key) hx (keyOf_string_mk Tryz.underlying9 (by unfold maxLen; omega)) ?_
  intro c hc _
  rw [(hat key).2 i hp] at hc
  obtain rfl : c = (i : Int) := by simpa using hc.symm
  rw [h1]
  exact hK
theorem wpList_put (w : World) (hg : o.guard = none) (m x v : Operand) (hop : o.op = Op.mapUpdate 99 m x v) (B n : Nat) (p : ByteArray → Option Nat)
    (hm : a.eval m = .map (some B)) (hown : NamesMap w B n p) (hn : n ≤ 1048576) (key : ByteArray) (hx : a.eval x = .string key) (hk : key.size ≤ 1048576) (i : Nat) (hi : i ≤ 1048576) (hv : a.eval v = .int .i64 (i : Int)) (base : Nat) (hbase : base ≤ B)
    (hK : ∀ w', NamesMap w' B (n + 1) (fun y => if y = key then some i else p y) → Below base w w' → wpList Tryz.prog ops Q rest (a.put o.dst undef) w') : wpList Tryz.prog ops Q (o :: rest) a w := by
  obtain ⟨D, hD, hat⟩ := hown
  refine wpList_mapUpdate_in w hg m x v 99 hop 9 3 hkeyed Tryz.underlying99 _ B n D hm hD (by unfold maxLen; omega) _ _ (keyL key) hx hv (keyOf_string_mk Tryz.underlying9 (by unfold maxLen; omega)) (.lit (.int .i64 (i : Int))) [] (plainElem_int Tryz.underlying3 (WalkArith.wf_i64 (by omega))) ?_
  intro w' hD' ht
  refine hK w' ⟨_, hD', fun y => ?_⟩ (turned_below ht hbase)
  by_cases e : y = key
  · subst e
    simp only [if_true]
    refine ⟨has_put_same hD.isMap (isKeyL _) _, fun j hj => ?_⟩
    obtain rfl := Option.some.inj hj
    exact atKey_put_same hD.isMap (isKeyL _) _ _
  · simp only [if_neg e]
    rw [has_put_other (keyL_ne e), atKey_put_other (keyL_ne e)]
    exact hat y
theorem wpList_del (w : World) (hg : o.guard = none) (m x : Operand) (hop : o.op = Op.call { callee := Callee.builtin Builtin.delete, args := #[m, x], argTypes := #[99, 9] }) (B n : Nat) (p : ByteArray → Option Nat)
    (hm : a.eval m = .map (some B)) (hown : NamesMap w B n p) (key : ByteArray) (hx : a.eval x = .string key) (hk : key.size ≤ 1048576) (base : Nat) (hbase : base ≤ B)
    (hK : ∀ w', NamesMap w' B n (fun y => if y = key then none else p y) → Below base w w' → wpList Tryz.prog ops Q rest (a.put o.dst (.tuple #[])) w') : wpList Tryz.prog ops Q (o :: rest) a w := by
  obtain ⟨D, hD, hat⟩ := hown
  refine wpList_delete_own w hg m x 99 9 hop 3 hkeyed Tryz.underlying99 _ B n D hm hD _ (keyL key) hx (keyOf_string_mk Tryz.underlying9 (by unfold maxLen; omega)) ?_
  intro w' hD' ht
  refine hK w' ⟨_, hD', fun y => ?_⟩ (turned_below ht hbase)
  by_cases e : y = key
  · subst e
    simp only [if_true]
    exact ⟨has_del_same, fun j hj => by cases hj⟩
  · simp only [if_neg e]
    rw [has_del_other (keyL_ne e), atKey_del_other (keyL_ne e)]
    exact hat y
end
end Go.Proofs.YthiiaefdobpjhaaGreatDoor
/-
  Names that are alike; what is asked ahead by all that look for a name.
-/
namespace Go.Proofs.YthiiaefdobpjhaaGreatDoor
open Go.ChangeShapes Go.WideShapes Go.ChangeAt Go.RowKit Go.Sort
theorem lowS_size (s : ByteArray) : (lowS s).size = s.size := by
  show ((s.data.toList.map lowU).toArray).size = s.data.size
  rw [List.size_toArray, List.length_map, Array.length_toList]
set_option maxHeartbeats 1000000 in
theorem smallName_any (s : ByteArray) (w : World) (hs : s.size ≤ 1000) :
    Calls Tryz.prog 74 #[.string s] w fun e w' => e = .returned (.string (lowS s)) ∧ Below w.heap.size w w' := by
  have HC := implLower_any s w hs
  have hf := f_field_text
  generalize lowS s = q at *
  go_enter Tryz.func74, Tryz.ntmps74
  go_wp2_with fail
  refine HC.mono ?_
  rintro e w1 ⟨rfl, hb⟩
  go_wp2_with fail
  go_ret
  exact ⟨rfl, hb⟩
set_option maxHeartbeats 1000000 in
theorem l4Alike_any (s t : ByteArray) (w : World) (hs : s.size ≤ 1048576) (ht : t.size ≤ 1048576) :
    Calls Tryz.prog 44 #[.string s, .string t] w fun e w' => e = .returned (.bool (decide (lowS s = lowS t))) ∧ Below w.heap.size w w' := by
  have H1 : Hid (∀ w, Calls Tryz.prog 56 #[.string s] w fun e w' => e = .returned (.string (lowS s)) ∧ Below w.heap.size w w') := fun w => l1Lower_any s w hs
  have H2 : Hid (∀ w, Calls Tryz.prog 56 #[.string t] w fun e w' => e = .returned (.string (lowS t)) ∧ Below w.heap.size w w') := fun w => l1Lower_any t w ht
  by_cases he : lowS s = lowS t
  · have HE : Hid (decide (lowS s = lowS t) = true) := by show _ = _; simpa using he
    rw [he] at H1
    clear he
    generalize lowS t = q at *
    go_enter Tryz.func44, Tryz.ntmps44
    go_wp2_with fail
    refine (H1.out _).mono ?_
    rintro e w1 ⟨rfl, hb1⟩
    go_wp2_with fail
    refine (H2.out _).mono ?_
    rintro e w2 ⟨rfl, hb2⟩
    have hbb := hb1.trans (hb2.mono hb1.size)
    clear hb1 hb2
    go_wp2_with fail
    go_ret
    exact ⟨ret_bool HE.out.symm, hbb⟩
  · have HE : Hid (decide (lowS s = lowS t) = false) := by show _ = _; simpa using he
    have hq := hstr_ne he
    clear he
    generalize lowS t = q at *
    generalize lowS s = p at *
    go_enter Tryz.func44, Tryz.ntmps44
    go_wp2_with fail
    refine (H1.out _).mono ?_
    rintro e w1 ⟨rfl, hb1⟩
    go_wp2_with fail
    refine (H2.out _).mono ?_
    rintro e w2 ⟨rfl, hb2⟩
    have hbb := hb1.trans (hb2.mono hb1.size)
    clear hb1 hb2
    go_wp2_with fail
    go_ret
    exact ⟨ret_bool HE.out.symm, hbb⟩
set_option maxHeartbeats 1000000 in
theorem namedFault_any (w : World) (a : Option Addr) (cap : Nat) (l : List Hdr) (name : ByteArray) (hl : l.length ≤ 1048576) (hset : SetIs w) (hi : HdsIn w a l) :
    Calls Tryz.prog 73 #[.slice a l.length cap, .string name] w fun e w' => e = .returned (.int .i64 (askC l name)) ∧ Below w.heap.size w w' := by
  have HF := implHFault_any w a cap l hl hset hi
  have HS : Hid (SetIs w) := hset
  clear hi hset
  by_cases h0 : headsC l = 0
  · rw [h0] at HF
    generalize l.length = n at *
    cases hw : wordS name
    · have HE : Hid (askC l name = 5) := askC_text h0 hw
      have HW : Hid (wordS name = false) := hw
      clear h0 hw
      go_enter Tryz.func73, Tryz.ntmps73
      go_wp2_with fail
      refine HF.mono ?_
      rintro e w1 ⟨rfl, hb1⟩
      go_wp2_with fail
      refine (implIsWord_set name _ (HS.out.below hb1)).mono ?_
      rintro e w2 ⟨rfl, hb2⟩
      rw [HW.out]
      have hbb := hb1.trans (hb2.mono hb1.size)
      clear hb1 hb2
      go_wp2_with fail
      go_ret
      exact ⟨ret_int HE.out.symm, hbb⟩
    · have HE : Hid (askC l name = 0) := askC_word h0 hw
      have HW : Hid (wordS name = true) := hw
      clear h0 hw
      go_enter Tryz.func73, Tryz.ntmps73
      go_wp2_with fail
      refine HF.mono ?_
      rintro e w1 ⟨rfl, hb1⟩
      go_wp2_with fail
      refine (implIsWord_set name _ (HS.out.below hb1)).mono ?_
      rintro e w2 ⟨rfl, hb2⟩
      rw [HW.out]
      have hbb := hb1.trans (hb2.mono hb1.size)
      clear hb1 hb2
      go_wp2_with fail
      go_ret
      exact ⟨ret_int HE.out.symm, hbb⟩
  · have HE : Hid (askC l name = headsC l) := askC_bad h0
    generalize headsC l = fc at *
    generalize l.length = n at *
    go_enter Tryz.func73, Tryz.ntmps73
    go_wp2_with fail
    refine HF.mono ?_
    rintro e w1 ⟨rfl, hb1⟩
    go_wp2_with fail
    go_ret
    exact ⟨ret_int HE.out.symm, hb1⟩
set_option maxHeartbeats 1000000 in
theorem hclone_any (s : ByteArray) (w : World) (hs : s.size ≤ 1048576) :
    Calls Tryz.prog 76 #[.string s] w fun e w' => e = .returned (.string s) ∧ Below w.heap.size w w' := by
  go_enter Tryz.func76, Tryz.ntmps76
  go_wp2_with fail
  refine (Any.stringslite_Clone Tryz.laysM316 s _ (by omega)).mono ?_
  rintro e w1 ⟨rfl, hb⟩
  go_wp2
  go_ret
  exact ⟨rfl, hb⟩
theorem hdr_free {w w1 : World} {t : TypeId} (hb : Below (w.heap.size + 1) (w.alloc (.cells #[.string ⟨#[]⟩, .string ⟨#[]⟩] t)) w1) :
    w.heap.size < w1.heap.size ∧ w1.cell? ⟨w.heap.size, 0, none⟩ = some (.string ⟨#[]⟩) ∧ w1.cell? ⟨w.heap.size, 1, none⟩ = some (.string ⟨#[]⟩) ∧ w1.frozen? ⟨w.heap.size, 0, none⟩ = false ∧ w1.frozen? ⟨w.heap.size, 1, none⟩ = false ∧ Below w.heap.size w w1 := by
  have hz := hb.size
  simp only [World.size_alloc] at hz
  exact ⟨hz, by rw [hb.cell (p := ⟨w.heap.size, 0, none⟩) (Nat.lt_succ_self _)]; simp, by rw [hb.cell (p := ⟨w.heap.size, 1, none⟩) (Nat.lt_succ_self _)]; simp, by rw [hb.frozen (p := ⟨w.heap.size, 0, none⟩) (Nat.lt_succ_self _)]; simp, by rw [hb.frozen (p := ⟨w.heap.size, 1, none⟩) (Nat.lt_succ_self _)]; simp, ((Below.refl _ _).alloc (Nat.le_refl _) _).trans (hb.mono (Nat.le_succ _))⟩
end Go.Proofs.YthiiaefdobpjhaaGreatDoor
/-
  The room of a TextResult behind a call.
-/
namespace Go.Proofs.YthiiaefdobpjhaaGreatDoor
open Go.ChangeShapes Go.WideShapes Go.ChangeAt Go.RowKit
theorem text_room {w w1 : World} (hb : Below (w.heap.size + 1) (w.alloc (.cells #[.int .i64 0, .string ⟨#[]⟩] 86)) w1) :
    w.heap.size < w1.heap.size ∧ w1.cell? ⟨w.heap.size, 0, none⟩ = some (.int .i64 0) ∧ w1.cell? ⟨w.heap.size, 1, none⟩ = some (.string ⟨#[]⟩) ∧ w1.frozen? ⟨w.heap.size, 0, none⟩ = false ∧ w1.frozen? ⟨w.heap.size, 1, none⟩ = false ∧ Below w.heap.size w w1 := by
  have hz := hb.size
  simp only [World.size_alloc] at hz
  exact ⟨hz, by rw [hb.cell (p := ⟨w.heap.size, 0, none⟩) (Nat.lt_succ_self _)]; simp, by rw [hb.cell (p := ⟨w.heap.size, 1, none⟩) (Nat.lt_succ_self _)]; simp, by rw [hb.frozen (p := ⟨w.heap.size, 0, none⟩) (Nat.lt_succ_self _)]; simp, by rw [hb.frozen (p := ⟨w.heap.size, 1, none⟩) (Nat.lt_succ_self _)]; simp, ((Below.refl _ _).alloc (Nat.le_refl _) _).trans (hb.mono (Nat.le_succ _))⟩
end Go.Proofs.YthiiaefdobpjhaaGreatDoor
/-
  What the model of PackHeaders tells.
-/
namespace Go.Proofs.YthiiaefdobpjhaaGreatDoor
open Go.ChangeShapes Go.WideShapes Go.ChangeAt Go.RowKit Go.Sort
theorem HdsIn.ok {w : World} {a : Option Addr} {l : List Hdr} (h : HdsIn w a l) {k : Nat} {r : Hdr} (hr : l[k]? = some r) : ∃ b off, a = some ⟨b, off, none⟩ ∧ HeadsAt w b off l := by
  rcases h with h | h
  · subst h; simp at hr
  · exact h
theorem line_app (o n v : ByteArray) : (o ++ n ++ ⟨#[58, 32]⟩ ++ v ++ ⟨#[13, 10]⟩ : ByteArray).data.toList = o.data.toList ++ lineL ⟨n, v⟩ := by
  simp only [happ_list, lineL, List.append_assoc]
theorem line_app2 (o n v : ByteArray) : (o ++ (n ++ ⟨#[58, 32]⟩ ++ v ++ ⟨#[13, 10]⟩) : ByteArray).data.toList = o.data.toList ++ lineL ⟨n, v⟩ := by
  simp only [happ_list, lineL, List.append_assoc]
end Go.Proofs.YthiiaefdobpjhaaGreatDoor
/-
  What PackHeaders and its model answer.
-/
namespace Go.Proofs.YthiiaefdobpjhaaGreatDoor
open Go.ChangeShapes Go.WideShapes Go.ChangeAt Go.RowKit Go.Sort
end Go.Proofs.YthiiaefdobpjhaaGreatDoor
/-
  What firstPlaces and linesNamed answer.
-/
namespace Go.Proofs.YthiiaefdobpjhaaGreatDoor
open Go.ChangeShapes Go.WideShapes Go.ChangeAt Go.RowKit Go.Sort
theorem firstAt_known {l : List Hdr} {r : Hdr} {j : Nat} (h : firstAt (lowS r.name) l = some j) (x : ByteArray) : firstAt x l = firstAt x (l ++ [r]) := by
  rw [firstAt_snoc]
  cases c : firstAt x l with
  | some i => rfl
  | none =>
    by_cases e : lowS r.name = x
    · subst e; rw [h] at c; cases c
    · simp only [if_neg e]
theorem firstAt_new {l : List Hdr} {r : Hdr} (h : firstAt (lowS r.name) l = none) (x : ByteArray) : (if x = lowS r.name then some l.length else firstAt x l) = firstAt x (l ++ [r]) := by
  rw [firstAt_snoc]
  by_cases e : x = lowS r.name
  · subst e
    rw [if_pos rfl, h]
    simp
  · rw [if_neg e]
    cases c : firstAt x l with
    | some i => rfl
    | none => simp only [if_neg (fun q => e (Eq.symm q))]
set_option maxRecDepth 100000 in
set_option maxHeartbeats 4000000 in
theorem firstPlaces_any {m : Nat} (w : World) (a : Option Addr) (cap : Nat) (l : List Hdr) (h20 : l.length ≤ m) (hz : ∀ (i : Nat) r, l[i]? = some r → r.name.size ≤ 64) (hi : HdsIn w a l) (hm : m ≤ 1000 := by decide) :
    Calls Tryz.prog 75 #[.slice a l.length cap] w fun e w' => e = .returned (.map (some w.heap.size)) ∧ NamesMap w' w.heap.size m (fun x => firstAt x l) ∧ Below w.heap.size w w' := by
  have HI : Hid (HdsIn w a l) := hi
  have HZ : Hid (∀ (i : Nat) r, l[i]? = some r → r.name.size ≤ 64) := hz
  clear hi hz
  generalize hn : l.length = n at *
  have HN : Hid (l.length = n) := hn
  clear hn
  have hmm := @run_makeMap Tryz.prog
  go_enter Tryz.func75, Tryz.ntmps75
  go_wp2_with fail
  go_loopw [12] (fun i wr => ∃ (k : Nat), k ≤ n ∧ i = .int .i64 k ∧ NamesMap wr w.heap.size k (fun x => firstAt x (l.take k)) ∧ Below w.heap.size w wr) (fun i _ => n - (intOf i).toNat)
  case atStart => exact ⟨0, Nat.zero_le _, rfl, NamesMap.made w, (Below.refl _ _).alloc (Nat.le_refl _) _⟩
  case round =>
    obtain ⟨k, hk, rfl, hm, hb⟩ := hrel
    have HM : Hid (NamesMap wr w.heap.size k (fun x => firstAt x (l.take k))) := hm
    clear hm
    by_cases hlt : k < n
    · obtain ⟨r, hr⟩ : ∃ r, l[k]? = some r := ⟨l[k]'(by have := HN.out; omega), List.getElem?_eq_getElem _⟩
      obtain ⟨b, off, rfl, hat⟩ := HI.out.ok hr
      obtain ⟨p1, p3⟩ := (hat.keep hb) k r hr
      have z1 := HZ.out k r hr
      have HK : Hid (l.take (k + 1) = l.take k ++ [r]) := take_hdr hr
      have hlk : Hid ((l.take k).length = k) := by show _ = _; rw [List.length_take]; have := HN.out; omega
      have gk : (k : Int) < n := by omega
      clear hr hat HI HZ
      have FS := fun j => @firstAt_known (l.take k) r j
      have FN := @firstAt_new (l.take k) r
      obtain ⟨rn, rv⟩ := r
      simp only at p1 p3 z1 FS FN
      rw [hlk.out] at FN
      have SN := fun w => smallName_any rn w (by omega)
      have sz := lowS_size rn
      generalize lowS rn = q at *
      have HSN : Hid (∀ w, Calls Tryz.prog 74 #[.string rn] w fun e w' => e = .returned (.string q) ∧ Below w.heap.size w w') := SN
      clear SN
      cases hq : firstAt q (l.take k) with
      | some j =>
        have HX : Hid (∀ x, firstAt x (l.take k) = firstAt x (l.take (k + 1))) := fun x => by rw [HK.out]; exact FS j hq x
        have HQ : Hid (firstAt q (l.take k) = some j) := hq
        clear hq FS FN HK
        go_wp2_with fail
        refine (HSN.out _).mono ?_
        rintro e w2 ⟨rfl, hb2⟩
        obtain ⟨_, _, _, kb⟩ := hdr_room hb2
        have HM2 : Hid (NamesMap w2 w.heap.size k (fun x => firstAt x (l.take k))) := HM.out.below kb
        have HB2 : Hid (Below w.heap.size w w2) := hb.trans (kb.mono hb.size)
        clear hb2 kb hb HM p1 p3
        go_wp2_with (at_lookup; refine wpList_look_some _ rfl _ _ rfl w.heap.size k _ rfl HM2.out q rfl (by omega) j HQ.out ?_)
        go_roundw
        case rel => exact ⟨k + 1, by omega, by go_num, NamesMap.of (by obtain ⟨D, h1, h2⟩ := HM2.out; exact ⟨D, h1.mono (Nat.le_succ _), h2⟩) HX.out, HB2.out⟩
        case measure => simp [intOf]; omega
      | none =>
        have HX : Hid (∀ x, (if x = q then some k else firstAt x (l.take k)) = firstAt x (l.take (k + 1))) := fun x => by rw [HK.out]; exact FN hq x
        have HQ : Hid (firstAt q (l.take k) = none) := hq
        clear hq FS FN HK
        go_wp2_with fail
        refine (HSN.out _).mono ?_
        rintro e w2 ⟨rfl, hb2⟩
        obtain ⟨_, _, _, kb⟩ := hdr_room hb2
        have HM2 : Hid (NamesMap w2 w.heap.size k (fun x => firstAt x (l.take k))) := HM.out.below kb
        have HB2 : Hid (Below w.heap.size w w2) := hb.trans (kb.mono hb.size)
        clear hb2 kb hb HM p1 p3
        go_wp2_with (first | (at_lookup; refine wpList_look_none _ rfl _ _ rfl w.heap.size k _ rfl HM2.out q rfl (by omega) HQ.out ?_) | (at_mapUpdate; refine wpList_put _ rfl _ _ _ rfl w.heap.size k _ rfl HM2.out (by omega) q rfl (by omega) k (by omega) rfl w.heap.size (Nat.le_refl _) ?_; intro w3 HM3 hb3))
        go_roundw
        case rel => exact ⟨k + 1, by omega, by go_num, HM3.of HX.out, HB2.out.trans hb3⟩
        case measure => simp [intOf]; omega
    · have HX : Hid (NamesMap wr w.heap.size m (fun x => firstAt x l)) := by
        have e : l.take k = l := List.take_of_length_le (by have := HN.out; omega)
        have := HM.out
        rw [e] at this
        obtain ⟨D, h1, h2⟩ := this
        exact ⟨D, h1.mono (by omega), h2⟩
      clear HM
      go_wp2_with fail
      go_ret
      exact ⟨rfl, HX.out, hb⟩
/-- What is left of the lines: those whose names the map has. -/
def keptH (p : ByteArray → Option Nat) (l : List Hdr) : List Hdr := l.filter fun r => (p (lowS r.name)).isSome
theorem keptH_yes {p : ByteArray → Option Nat} {r : Hdr} {i : Nat} (l : List Hdr) (h : p (lowS r.name) = some i) : keptH p (l ++ [r]) = keptH p l ++ [r] := by simp [keptH, h]
theorem keptH_no {p : ByteArray → Option Nat} {r : Hdr} (l : List Hdr) (h : p (lowS r.name) = none) : keptH p (l ++ [r]) = keptH p l := by simp [keptH, h]
theorem keptH_len (p : ByteArray → Option Nat) (l : List Hdr) : (keptH p l).length ≤ l.length := List.length_filter_le _ _
def KeptRes (base : Nat) (L : List Hdr) (e : Ending) (w : World) : Prop := ∃ v, e = .returned v ∧ OwnH w base v L
theorem KeptRes.mk {base : Nat} {L M : List Hdr} {w : World} {v : Value} (h : M = L) (ho : OwnH w base v L) : KeptRes base M (.returned v) w := ⟨v, rfl, h ▸ ho⟩
end Go.Proofs.YthiiaefdobpjhaaGreatDoor
/-
  What DropHeader and its model answer.
-/
namespace Go.Proofs.YthiiaefdobpjhaaGreatDoor
open Go.ChangeShapes Go.WideShapes Go.ChangeAt Go.RowKit Go.Sort
/-- A result: a code and head lines in memory of the call's own. -/
def HRes (c : Int) (L : List Hdr) (base : Nat) (e : Ending) (w : World) : Prop := ∃ v, e = .returned (.agg #[.int .i64 c, v]) ∧ OwnH w base v L
theorem HRes.mk {c d : Int} {L M : List Hdr} {base : Nat} {w : World} {v : Value} (h : c = d ∧ L = M) (ho : OwnH w base v M) : HRes c L base (.returned (.agg #[.int .i64 d, v])) w := ⟨v, by rw [h.1], by rw [h.2]; exact ho⟩
theorem ownH_set {w : World} {base b o : Nat} {v u : Value} {l : List Hdr} (h : OwnH w base v l) (hb : b < base) : OwnH (w.setCell ⟨b, o, none⟩ u) base v l := by
  obtain ⟨h1, h2⟩ := h
  refine ⟨h1, ?_⟩
  rcases h2 with h2 | ⟨g, c, cur, e, hg, hh, hrest⟩
  · exact .inl h2
  · exact .inr ⟨g, c, cur, e, hg, by rw [RowKit.Below.heap_setCell _ _ _ _ (by show g ≠ b; omega)]; exact hh, hrest⟩
theorem dropL_bad {l : List Hdr} {name : ByteArray} (h : askC l name ≠ 0) : dropL l name = [] := by unfold dropL; rw [if_neg h]
theorem dropL_ok {l : List Hdr} {name : ByteArray} (h : askC l name = 0) : dropL l name = dropH (lowS name) l := by unfold dropL; rw [if_pos h]
theorem dropL_len (l : List Hdr) (name : ByteArray) : (dropL l name).length ≤ 20 := by
  by_cases h : askC l name = 0
  · rw [dropL_ok h]
    have := (headsC_zero (askC_zero h).1).1
    exact Nat.le_trans (dropH_len _ _) this
  · rw [dropL_bad h]; simp
theorem asked {l : List Hdr} {name : ByteArray} (h : askC l name = 0) : l.length ≤ 20 ∧ (∀ (i : Nat) r, l[i]? = some r → r.name.size ≤ 64 ∧ r.value.size ≤ 200) ∧ name.size ≤ 64 := by
  obtain ⟨h0, hw⟩ := askC_zero h
  obtain ⟨h20, hf⟩ := headsC_zero h0
  exact ⟨h20, fun i r hr => by obtain ⟨x1, x2, _⟩ := faultH_zero (hf i r hr); exact ⟨hword_max x1, x2⟩, hword_max hw⟩
theorem keptH_drop (x : ByteArray) (l : List Hdr) : keptH (fun y => if y = x then none else firstAt y l) l = dropH x l := by
  unfold keptH dropH
  refine List.filter_congr fun r hr => ?_
  by_cases e : lowS r.name = x
  · simp [e]
  · simp only [e, not_false_eq_true, decide_true]
    cases c : firstAt (lowS r.name) l with
    | some i => rfl
    | none => exact absurd rfl (firstAt_none c r hr)
end Go.Proofs.YthiiaefdobpjhaaGreatDoor
/-
  Results of head lines: compared, marked, held.
-/
namespace Go.Proofs.YthiiaefdobpjhaaGreatDoor
open Go.ChangeShapes Go.WideShapes Go.ChangeAt Go.RowKit Go.Sort
/-- A result in a variable. -/
structure HHRoom (w : World) (b : Nat) (c : Int) (v : Value) : Prop where
  c0 : w.cell? ⟨b, 0, none⟩ = some (.int .i64 c)
  c1 : w.cell? ⟨b, 1, none⟩ = some v
theorem HHRoom.lt {w : World} {b : Nat} {c : Int} {v : Value} (h : HHRoom w b c v) : b < w.heap.size := block_lt_of_cell h.c0
theorem HHRoom.keep {w w' : World} {b : Nat} {c : Int} {v : Value} (h : HHRoom w b c v) (hb : Below w.heap.size w w') : HHRoom w' b c v :=
  ⟨by rw [hb.cell (p := ⟨b, 0, none⟩) h.lt, h.c0], by rw [hb.cell (p := ⟨b, 1, none⟩) h.lt, h.c1]⟩
theorem HHRoom.av {w w' : World} {b : Nat} {c : Int} {v u : Value} (h : HHRoom w b c v) (k : HAV u w w') (hn : u.ownBlock ≠ some b) : HHRoom w' b c v :=
  ⟨by rw [k.cell b 0 h.lt hn, h.c0], by rw [k.cell b 1 h.lt hn, h.c1]⟩
theorem hroom_new (w : World) (c : Int) (a : Option Addr) (n cap : Nat) (t : TypeId) : HHRoom (w.alloc (.cells #[.int .i64 c, .slice a n cap] t)) w.heap.size c (.slice a n cap) := ⟨by simp, by simp⟩
theorem HLV.block_lt {w : World} {v : Value} {l : List Hdr} (h : HLV w v l) : ∀ b, v.ownBlock = some b → b < w.heap.size := by
  rcases h with ⟨rfl, _⟩ | ⟨g, c, rfl, hg, _⟩
  · intro b hb; cases hb
  · intro b hb; simp only [Value.ownBlock, Option.some.injEq] at hb; omega
/-- What a call hands back: head lines in memory of its own. -/
structure HGot (L : List Hdr) (base : Nat) (a : Option Addr) (n cap : Nat) (w : World) : Prop where
  len : n = L.length
  lv : HLV w (.slice a n cap) L
  ge : ∀ b, (Value.slice a n cap).ownBlock = some b → base ≤ b
theorem HRes.got {c : Int} {L : List Hdr} {base : Nat} {e : Ending} {w : World} (h : HRes c L base e w) : ∃ a n cap, e = .returned (.agg #[.int .i64 c, .slice a n cap]) ∧ HGot L base a n cap w := by
  obtain ⟨v, rfl, ho⟩ := h
  obtain ⟨a, c, rfl, _⟩ := ho.at
  exact ⟨a, _, c, rfl, rfl, ho.lv.1, ho.lv.2⟩
structure HMarkedR (w : World) (base : Nat) (a : Option Addr) (n ca : Nat) (w' : World) : Prop where
  lv : HLV w' (.slice a n ca) (mkHL 1 n)
  av : HAV (.slice a n ca) w w'
  low : Below base w w'
/-- Two results in variables, and their lines. -/
structure HKK (w : World) (X1 X2 : Nat) (c : Int) (v1 v2 : Value) (L1 L2 : List Hdr) (W : World) : Prop where
  b : Below w.heap.size w W
  r1 : HHRoom W X1 c v1
  r2 : HHRoom W X2 c v2
  l1 : HLV W v1 L1
  l2 : HLV W v2 L2
theorem HKK.keep {w : World} {X1 X2 : Nat} {c : Int} {v1 v2 : Value} {L1 L2 : List Hdr} {W W' : World} (h : HKK w X1 X2 c v1 v2 L1 L2 W) (hb : Below W.heap.size W W') : HKK w X1 X2 c v1 v2 L1 L2 W' :=
  ⟨h.b.trans (hb.mono h.b.size), h.r1.keep hb, h.r2.keep hb, h.l1.below hb, h.l2.below hb⟩
theorem HKK.av {w : World} {X1 X2 : Nat} {c : Int} {v1 v2 u : Value} {L1 L2 : List Hdr} {W W' : World} (h : HKK w X1 X2 c v1 v2 L1 L2 W) (k : HAV u W W') (hb : Below w.heap.size W W') (h1 : u.ownBlock ≠ some X1) (h2 : u.ownBlock ≠ some X2) (h3 : ∀ b, v1.ownBlock = some b → u.ownBlock ≠ some b) (h4 : ∀ b, v2.ownBlock = some b → u.ownBlock ≠ some b) : HKK w X1 X2 c v1 v2 L1 L2 W' :=
  ⟨h.b.trans hb, h.r1.av k h1, h.r2.av k h2, h.l1.av k h3, h.l2.av k h4⟩
/-- Lines of the law's own, that may be written. -/
structure HMine (W : World) (B : Nat) (l : List Hdr) : Prop where
  at0 : HeadsAt W B 0 l
  free : ∀ o, W.frozen? ⟨B, o, none⟩ = false
  lt : B < W.heap.size
theorem HMine.keep {W W' : World} {B : Nat} {l : List Hdr} (h : HMine W B l) (hb : Below W.heap.size W W') : HMine W' B l :=
  ⟨h.at0.keep hb, fun o => by rw [hb.frozen (p := ⟨B, o, none⟩) h.lt]; exact h.free o, Nat.lt_of_lt_of_le h.lt hb.size⟩
end Go.Proofs.YthiiaefdobpjhaaGreatDoor
/-
  Rows of texts as a value: compared, marked, held.
-/
namespace Go.Proofs.YthiiaefdobpjhaaGreatDoor
open Go.ChangeShapes Go.WideShapes Go.ChangeAt Go.RowKit Go.Sort
def mkTL (k n : Nat) : List ByteArray := (List.range n).map fun j => mkT (k + j)
theorem mkTL_len (k n : Nat) : (mkTL k n).length = n := by simp [mkTL]
theorem mkTL_get {k n i : Nat} (h : i < n) : (mkTL k n)[i]? = some (mkT (k + i)) := by simp [mkTL, h]
theorem tput {w : World} {g off i : Nat} {L : List ByteArray} {r : ByteArray} (h : TAt w g off L) (hr : L[i]? = some r) (n : ByteArray) : TAt (w.setCell ⟨g, off + i, none⟩ (.string n)) g off (L.set i n) := by
  intro j q hq
  by_cases e : j = i
  · subst e
    have hl := (List.getElem?_eq_some_iff.1 hr).1
    rw [List.getElem?_set_self hl] at hq
    obtain rfl := Option.some.inj hq
    exact hcell_set_same (h j r hr)
  · rw [List.getElem?_set_ne (fun k => e k.symm)] at hq
    rw [hcell_set_off (by omega)]
    exact h j q hq
/-- The state of the marking loop: j texts are marked. -/
structure TMarked (w : World) (g off : Nat) (k n j : Nat) (L : List ByteArray) (W : World) : Prop where
  len : L.length = n
  done : ∀ i, i < j → L[i]? = some (mkT (k + i))
  items : TAt W g off L
  thaw : ∀ o, W.frozen? ⟨g, o, none⟩ = false
  apart : Apart g w W
  low : Below g w W
  lt : g < W.heap.size
theorem TMarked.below {w : World} {g off k n j : Nat} {L : List ByteArray} {W W' : World} (h : TMarked w g off k n j L W) (hb : Below W.heap.size W W') : TMarked w g off k n j L W' :=
  ⟨h.len, h.done, h.items.keep hb, fun o => by rw [hb.frozen (p := ⟨g, o, none⟩) h.lt, h.thaw], h.apart.trans (.below hb), h.low.trans (hb.mono (Nat.le_of_lt h.lt)), Nat.lt_of_lt_of_le h.lt hb.size⟩
theorem TMarked.set {w : World} {g off k n j : Nat} {L : List ByteArray} {W : World} {r : ByteArray} (h : TMarked w g off k n j L W) (hr : L[j]? = some r) : TMarked w g off k n (j + 1) (L.set j (mkT (k + j))) (W.setCell ⟨g, off + j, none⟩ (.string (mkT (k + j)))) := by
  refine ⟨by rw [List.length_set]; exact h.len, fun i hi => ?_, tput h.items hr _, fun o => by rw [World.frozen?_setCell, h.thaw], h.apart.trans (.set _ _ _ _), h.low.setCell (Nat.le_refl _) _, by simpa using h.lt⟩
  by_cases e : i = j
  · subst e; exact List.getElem?_set_self (List.getElem?_eq_some_iff.1 hr).1
  · rw [List.getElem?_set_ne (fun k => e k.symm)]; exact h.done i (by omega)
def TLV (w : World) (v : Value) (l : List ByteArray) : Prop :=
  (v = .slice none 0 0 ∧ l = []) ∨ ∃ g cap, v = .slice (some ⟨g, 0, none⟩) l.length cap ∧ g < w.heap.size ∧ TAt w g 0 l ∧ ∀ o, w.frozen? ⟨g, o, none⟩ = false
theorem OwnS.lv {w : World} {base : Nat} {v : Value} {l : List ByteArray} (h : OwnS w base v l) : TLV w v l ∧ ∀ b, v.ownBlock = some b → base ≤ b := by
  have h0 := h
  obtain ⟨_, h1 | ⟨g, c, cur, rfl, hg, hh, _⟩⟩ := h
  · have e : l = [] := List.eq_nil_of_length_eq_zero h1.2
    exact ⟨.inl ⟨h1.1, e⟩, fun b hb => by rw [h1.1] at hb; cases hb⟩
  · refine ⟨.inr ⟨g, c, rfl, (Array.getElem?_eq_some_iff.1 hh).1, fun i x hx => ?_, fun o => ?_⟩, fun b hb => ?_⟩
    · have hk := (List.getElem?_eq_some_iff.1 hx).1
      have := World.ownsRow.cellAt h0 i (by omega)
      rw [Nat.zero_add, this]
      simp [textsW, hx]
    · simp [World.frozen?, hh]
    · simp only [Value.ownBlock, Option.some.injEq] at hb; omega
theorem TLV.below {w w' : World} {v : Value} {l : List ByteArray} (h : TLV w v l) (hb : Below w.heap.size w w') : TLV w' v l := by
  rcases h with h | ⟨g, c, e, hg, hi, hf⟩
  · exact .inl h
  · exact .inr ⟨g, c, e, Nat.lt_of_lt_of_le hg hb.size, hi.keep hb, fun o => by rw [hb.frozen (p := ⟨g, o, none⟩) hg, hf]⟩
theorem TLV.av {w w' : World} {v v1 : Value} {l : List ByteArray} (h : TLV w v1 l) (k : HAV v w w') (hne : ∀ b, v1.ownBlock = some b → v.ownBlock ≠ some b) : TLV w' v1 l := by
  rcases h with h | ⟨g, c, rfl, hg, hi, hf⟩
  · exact .inl h
  · have hn := hne g rfl
    exact .inr ⟨g, c, rfl, Nat.lt_of_lt_of_le hg k.size, fun i r hr => by rw [k.cell g _ hg hn]; exact hi i r hr, fun o => by rw [k.frozen g o hg hn, hf]⟩
theorem TLV.tin {w : World} {v : Value} {l : List ByteArray} (h : TLV w v l) : ∃ a c, v = .slice a l.length c ∧ TIn w a l := by
  rcases h with ⟨rfl, rfl⟩ | ⟨g, c, rfl, _, hi, _⟩
  · exact ⟨none, 0, rfl, .inl rfl⟩
  · exact ⟨_, c, rfl, .inr ⟨g, 0, rfl, hi⟩⟩
theorem TLV.block_lt {w : World} {v : Value} {l : List ByteArray} (h : TLV w v l) : ∀ b, v.ownBlock = some b → b < w.heap.size := by
  rcases h with ⟨rfl, _⟩ | ⟨g, c, rfl, hg, _⟩
  · intro b hb; cases hb
  · intro b hb; simp only [Value.ownBlock, Option.some.injEq] at hb; omega
/-- What a call hands back: texts in memory of its own. -/
structure TGot (L : List ByteArray) (base : Nat) (a : Option Addr) (n cap : Nat) (w : World) : Prop where
  len : n = L.length
  lv : TLV w (.slice a n cap) L
  ge : ∀ b, (Value.slice a n cap).ownBlock = some b → base ≤ b
def TRes (c : Int) (L : List ByteArray) (base : Nat) (e : Ending) (w : World) : Prop := ∃ v, e = .returned (.agg #[.int .i64 c, v]) ∧ OwnS w base v L
theorem TRes.got {c : Int} {L : List ByteArray} {base : Nat} {e : Ending} {w : World} (h : TRes c L base e w) : ∃ a n cap, e = .returned (.agg #[.int .i64 c, .slice a n cap]) ∧ TGot L base a n cap w := by
  obtain ⟨v, rfl, ho⟩ := h
  obtain ⟨a, c, rfl, _⟩ := ho.lv.1.tin
  exact ⟨a, _, c, rfl, rfl, ho.lv.1, ho.lv.2⟩
structure TMarkedR (w : World) (base : Nat) (a : Option Addr) (n ca : Nat) (w' : World) : Prop where
  lv : TLV w' (.slice a n ca) (mkTL 1 n)
  av : HAV (.slice a n ca) w w'
  low : Below base w w'
/-- Two results in variables, and their lines. -/
structure TKK (w : World) (X1 X2 : Nat) (c : Int) (v1 v2 : Value) (L1 L2 : List ByteArray) (W : World) : Prop where
  b : Below w.heap.size w W
  r1 : HHRoom W X1 c v1
  r2 : HHRoom W X2 c v2
  l1 : TLV W v1 L1
  l2 : TLV W v2 L2
theorem TKK.keep {w : World} {X1 X2 : Nat} {c : Int} {v1 v2 : Value} {L1 L2 : List ByteArray} {W W' : World} (h : TKK w X1 X2 c v1 v2 L1 L2 W) (hb : Below W.heap.size W W') : TKK w X1 X2 c v1 v2 L1 L2 W' :=
  ⟨h.b.trans (hb.mono h.b.size), h.r1.keep hb, h.r2.keep hb, h.l1.below hb, h.l2.below hb⟩
theorem TKK.av {w : World} {X1 X2 : Nat} {c : Int} {v1 v2 u : Value} {L1 L2 : List ByteArray} {W W' : World} (h : TKK w X1 X2 c v1 v2 L1 L2 W) (k : HAV u W W') (hb : Below w.heap.size W W') (h1 : u.ownBlock ≠ some X1) (h2 : u.ownBlock ≠ some X2) (h3 : ∀ b, v1.ownBlock = some b → u.ownBlock ≠ some b) (h4 : ∀ b, v2.ownBlock = some b → u.ownBlock ≠ some b) : TKK w X1 X2 c v1 v2 L1 L2 W' :=
  ⟨h.b.trans hb, h.r1.av k h1, h.r2.av k h2, h.l1.av k h3, h.l2.av k h4⟩
end Go.Proofs.YthiiaefdobpjhaaGreatDoor
/-
  Results that hold bytes: owned, compared, marked, held.
-/
namespace Go.Proofs.YthiiaefdobpjhaaGreatDoor
open Go.ChangeShapes Go.WideShapes Go.ChangeAt Go.RowKit
structure Two (W : World) (B : Nat) (v0 v1 : Value) : Prop where
  c0 : W.cell? ⟨B, 0, none⟩ = some v0
  c1 : W.cell? ⟨B, 1, none⟩ = some v1
  fr : ∀ o, W.frozen? ⟨B, o, none⟩ = false
  lt : B < W.heap.size
theorem Two.keep {W W' : World} {B : Nat} {v0 v1 : Value} (h : Two W B v0 v1) (hb : Below W.heap.size W W') : Two W' B v0 v1 :=
  ⟨by rw [hb.cell (p := ⟨B, 0, none⟩) h.lt]; exact h.c0, by rw [hb.cell (p := ⟨B, 1, none⟩) h.lt]; exact h.c1, fun o => by rw [hb.frozen (p := ⟨B, o, none⟩) h.lt]; exact h.fr o, Nat.lt_of_lt_of_le h.lt hb.size⟩
theorem Two.new (W : World) (v0 v1 : Value) (t : TypeId) : Two (W.alloc (.cells #[v0, v1] t)) W.heap.size v0 v1 :=
  ⟨by rw [World.cell?_alloc_mark]; rfl, by rw [World.cell?_alloc_mark]; rfl, fun o => by have e := heap_alloc_new W (.cells #[v0, v1] t); unfold World.frozen?; rw [e]; simp, by simp⟩
/-- v holds the bytes l in a row of its own, from block base on; or it is nil and there are none. -/
def BOwn (w : World) (base : Nat) (v : Value) (l : List UInt8) : Prop := (v = .slice none 0 0 ∧ l = []) ∨ ∃ g k, v = .slice (some ⟨g, 0, none⟩) l.length k ∧ base ≤ g ∧ BMine w g l
theorem BOwn.keep {w w' : World} {base : Nat} {v : Value} {l : List UInt8} (h : BOwn w base v l) (hb : Below w.heap.size w w') : BOwn w' base v l := by
  rcases h with h | ⟨g, k, e, hg, hm⟩
  · exact .inl h
  · exact .inr ⟨g, k, e, hg, hm.keep hb⟩
theorem BOwn.lower {w : World} {b0 base : Nat} {v : Value} {l : List UInt8} (h : BOwn w base v l) (hb : b0 ≤ base) : BOwn w b0 v l := by
  rcases h with h | ⟨g, k, e, hg, hm⟩
  · exact .inl h
  · exact .inr ⟨g, k, e, Nat.le_trans hb hg, hm⟩
theorem BOwn.shape {w : World} {base : Nat} {v : Value} {l : List UInt8} (h : BOwn w base v l) : ∃ a k, v = .slice a l.length k ∧ BIn w a l := by
  rcases h with ⟨rfl, rfl⟩ | ⟨g, k, rfl, hg, hm⟩
  · exact ⟨none, 0, rfl, .inl rfl⟩
  · exact ⟨_, _, rfl, hm.in⟩
theorem BOwn.block {w : World} {base : Nat} {v : Value} {l : List UInt8} (h : BOwn w base v l) : ∀ b, v.ownBlock = some b → base ≤ b ∧ b < w.heap.size := by
  rcases h with ⟨rfl, _⟩ | ⟨g, k, rfl, hg, hm⟩
  · intro b hb; cases hb
  · intro b hb; simp only [Value.ownBlock, Option.some.injEq] at hb; subst hb; exact ⟨hg, hm.lt⟩
/-- What a call hands back: a code, and bytes of its own. -/
def BGot (c : Int) (l : List UInt8) (base : Nat) (e : Ending) (w : World) : Prop := ∃ a n k, e = .returned (.agg #[.int .i64 c, .slice a n k]) ∧ BOwn w base (.slice a n k) l
theorem BGot.nil (c : Int) (base : Nat) (w : World) : BGot c [] base (.returned (.agg #[.int .i64 c, .slice none 0 0])) w := ⟨none, 0, 0, rfl, .inl ⟨rfl, rfl⟩⟩
/-- A text turned into bytes. -/
theorem bytes_of_text (w : World) (s : ByteArray) : ∃ C cap, (convert 9 25 (.string s)).run Tryz.prog w = .ok (.slice (some ⟨w.heap.size, 0, none⟩) s.size cap) (w.drew.alloc (.cells C 5 (C.size, C.size + 1))) ∧ BMine (w.drew.alloc (.cells C 5 (C.size, C.size + 1))) w.heap.size s.data.toList := by
  have h1 := run_bytes_of_string (P := Tryz.prog) w 9 25 5 s Tryz.underlying9 Tryz.underlying25 Tryz.underlying5
  have h2 := fun cap => BRow.made w s cap _ rfl
  refine ⟨_, _, h1, ?_⟩
  have h3 := h2 (grownCap w s.size 0 5)
  refine ⟨fun i c hc => ?_, fun o ho => ?_, ?_⟩
  · obtain ⟨hi, rfl⟩ := List.getElem?_eq_some_iff.1 hc
    rw [Nat.zero_add]
    exact h3.cell i hi
  · exact h3.free o ho
  · show w.heap.size < (w.drew.heap.push _).size
    rw [Array.size_push]; exact Nat.lt_succ_self _
end Go.Proofs.YthiiaefdobpjhaaGreatDoor
/-
  Results that hold bytes: compared, marked, held.
-/
namespace Go.Proofs.YthiiaefdobpjhaaGreatDoor
open Go.ChangeShapes Go.WideShapes Go.ChangeAt Go.RowKit Go.Sort
/-- All that was there, but for the memory of v, is as it was. -/
structure BAV (v : Value) (w w' : World) : Prop where
  size : w'.heap.size = w.heap.size
  cell : ∀ b o, b < w.heap.size → v.ownBlock ≠ some b → w'.cell? ⟨b, o, none⟩ = w.cell? ⟨b, o, none⟩
  frozen : ∀ b o, w'.frozen? ⟨b, o, none⟩ = w.frozen? ⟨b, o, none⟩
/-- v holds the marks from k on. -/
def MarkB (w : World) (v : Value) (k n : Nat) : Prop := n = 0 ∨ ∃ g c, v = .slice (some ⟨g, 0, none⟩) n c ∧ g < w.heap.size ∧ ∀ i, i < n → w.cell? ⟨g, i, none⟩ = some (.int .u8 (((k + i : Nat) : Int) % 256))
theorem MarkB.keep {w w' : World} {v : Value} {k n : Nat} (h : MarkB w v k n) (hb : Below w.heap.size w w') : MarkB w' v k n := by
  rcases h with h | ⟨g, c, e, hg, hc⟩
  · exact .inl h
  · exact .inr ⟨g, c, e, Nat.lt_of_lt_of_le hg hb.size, fun i hi => by rw [hb.cell (p := ⟨g, i, none⟩) hg]; exact hc i hi⟩
theorem MarkB.av {w w' : World} {v u : Value} {k n : Nat} (h : MarkB w v k n) (ha : BAV u w w') (hne : ∀ b, v.ownBlock = some b → u.ownBlock ≠ some b) : MarkB w' v k n := by
  rcases h with h | ⟨g, c, rfl, hg, hc⟩
  · exact .inl h
  · exact .inr ⟨g, c, rfl, by rw [ha.size]; exact hg, fun i hi => by rw [ha.cell g i hg (hne g rfl)]; exact hc i hi⟩
end Go.Proofs.YthiiaefdobpjhaaGreatDoor
/-
  Answers of PeekEntry, handed over by the laws: compared, marked, held.
-/
namespace Go.Proofs.YthiiaefdobpjhaaGreatDoor
open Go.ChangeShapes Go.WideShapes Go.ChangeAt Go.RowKit Go.Sort
end Go.Proofs.YthiiaefdobpjhaaGreatDoor
/-
  Four cells that may be written.
-/
namespace Go.Proofs.YthiiaefdobpjhaaGreatDoor
open Go.ChangeShapes Go.WideShapes Go.ChangeAt Go.RowKit
structure S4 (w : World) (b : Nat) (v0 v1 v2 v3 : Value) : Prop where
  c0 : w.cell? ⟨b, 0, none⟩ = some v0
  c1 : w.cell? ⟨b, 1, none⟩ = some v1
  c2 : w.cell? ⟨b, 2, none⟩ = some v2
  c3 : w.cell? ⟨b, 3, none⟩ = some v3
  fr : ∀ o, w.frozen? ⟨b, o, none⟩ = false
  lt : b < w.heap.size
section
variable {w w' : World} {b : Nat} {v0 v1 v2 v3 : Value}
theorem S4.keep (k : S4 w b v0 v1 v2 v3) (hb : Below w.heap.size w w') : S4 w' b v0 v1 v2 v3 :=
  ⟨by rw [hb.cell (p := ⟨b, 0, none⟩) k.lt]; exact k.c0, by rw [hb.cell (p := ⟨b, 1, none⟩) k.lt]; exact k.c1, by rw [hb.cell (p := ⟨b, 2, none⟩) k.lt]; exact k.c2, by rw [hb.cell (p := ⟨b, 3, none⟩) k.lt]; exact k.c3, fun o => by rw [hb.frozen (p := ⟨b, o, none⟩) k.lt]; exact k.fr o, Nat.lt_of_lt_of_le k.lt hb.size⟩
theorem S4.new (w : World) (v0 v1 v2 v3 : Value) (t : TypeId) : S4 (w.alloc (.cells #[v0, v1, v2, v3] t)) w.heap.size v0 v1 v2 v3 := ⟨by simp, by simp, by simp, by simp, fun o => by simp, by simp⟩
theorem S4.off (k : S4 w b v0 v1 v2 v3) {B i : Nat} {x : Value} (h : B ≠ b) : S4 (w.setCell ⟨B, i, none⟩ x) b v0 v1 v2 v3 := by
  have ne : ∀ o : Nat, (⟨B, i, none⟩ : Addr) ≠ ⟨b, o, none⟩ := fun o q => h (congrArg Addr.block q)
  exact ⟨by rw [World.cell?_setCell_other _ _ _ _ (ne _)]; exact k.c0, by rw [World.cell?_setCell_other _ _ _ _ (ne _)]; exact k.c1, by rw [World.cell?_setCell_other _ _ _ _ (ne _)]; exact k.c2, by rw [World.cell?_setCell_other _ _ _ _ (ne _)]; exact k.c3, fun o => by rw [World.frozen?_setCell]; exact k.fr o, by simpa using k.lt⟩
theorem S4.set0 (k : S4 w b v0 v1 v2 v3) (x : Value) : S4 (w.setCell ⟨b, 0, none⟩ x) b x v1 v2 v3 :=
  ⟨World.cell?_setCell_same _ _ _ k.c0, by rw [World.cell?_setCell_other _ _ _ _ (by intro q; have := congrArg Addr.off q; simp at this)]; exact k.c1, by rw [World.cell?_setCell_other _ _ _ _ (by intro q; have := congrArg Addr.off q; simp at this)]; exact k.c2, by rw [World.cell?_setCell_other _ _ _ _ (by intro q; have := congrArg Addr.off q; simp at this)]; exact k.c3, fun o => by rw [World.frozen?_setCell]; exact k.fr o, by simpa using k.lt⟩
theorem S4.set1 (k : S4 w b v0 v1 v2 v3) (x : Value) : S4 (w.setCell ⟨b, 1, none⟩ x) b v0 x v2 v3 :=
  ⟨by rw [World.cell?_setCell_other _ _ _ _ (by intro q; have := congrArg Addr.off q; simp at this)]; exact k.c0, World.cell?_setCell_same _ _ _ k.c1, by rw [World.cell?_setCell_other _ _ _ _ (by intro q; have := congrArg Addr.off q; simp at this)]; exact k.c2, by rw [World.cell?_setCell_other _ _ _ _ (by intro q; have := congrArg Addr.off q; simp at this)]; exact k.c3, fun o => by rw [World.frozen?_setCell]; exact k.fr o, by simpa using k.lt⟩
theorem S4.set2 (k : S4 w b v0 v1 v2 v3) (x : Value) : S4 (w.setCell ⟨b, 2, none⟩ x) b v0 v1 x v3 :=
  ⟨by rw [World.cell?_setCell_other _ _ _ _ (by intro q; have := congrArg Addr.off q; simp at this)]; exact k.c0, by rw [World.cell?_setCell_other _ _ _ _ (by intro q; have := congrArg Addr.off q; simp at this)]; exact k.c1, World.cell?_setCell_same _ _ _ k.c2, by rw [World.cell?_setCell_other _ _ _ _ (by intro q; have := congrArg Addr.off q; simp at this)]; exact k.c3, fun o => by rw [World.frozen?_setCell]; exact k.fr o, by simpa using k.lt⟩
theorem S4.set3 (k : S4 w b v0 v1 v2 v3) (x : Value) : S4 (w.setCell ⟨b, 3, none⟩ x) b v0 v1 v2 x :=
  ⟨by rw [World.cell?_setCell_other _ _ _ _ (by intro q; have := congrArg Addr.off q; simp at this)]; exact k.c0, by rw [World.cell?_setCell_other _ _ _ _ (by intro q; have := congrArg Addr.off q; simp at this)]; exact k.c1, by rw [World.cell?_setCell_other _ _ _ _ (by intro q; have := congrArg Addr.off q; simp at this)]; exact k.c2, World.cell?_setCell_same _ _ _ k.c3, fun o => by rw [World.frozen?_setCell]; exact k.fr o, by simpa using k.lt⟩
end
end Go.Proofs.YthiiaefdobpjhaaGreatDoor
/-
  Stores, handed over by the laws: room, copies, comparisons.
-/
namespace Go.Proofs.YthiiaefdobpjhaaGreatDoor
open Go.ChangeShapes Go.WideShapes Go.ChangeAt Go.RowKit Go.Sort
theorem EntsMine.off1 {W : World} {G : Nat} {l : List (Ent × EntR)} (h : EntsMine W G l) {b i : Nat} (v : Value) (hne : b < G) : EntsMine (W.setCell ⟨b, i, none⟩ v) G l := by
  have ne : ∀ o : Nat, (⟨b, i, none⟩ : Addr) ≠ ⟨G, o, none⟩ := fun o q => by have := congrArg Addr.block q; simp only at this; omega
  exact ⟨fun i q hq j hj => by rw [World.cell?_setCell_other _ _ _ _ (ne _)]; exact h.cell i q hq j hj, fun o => by rw [World.frozen?_setCell]; exact h.free o, by simpa using h.lt, fun q hq => (h.own q hq).off1 v (Nat.lt_trans hne (h.up q hq)), h.up, h.pw⟩
def szSt (left : Int) (tl kl : List (Ent × EntR)) : Int := if szEL left tl < 0 then -1 else if szEL (szEL left tl) kl < 0 then -1 else szEL (szEL left tl) kl
theorem szEs_le : ∀ (l : List (Ent × EntR)) (c : Int), c ≤ 1048576 → ¬ szEs c l < 0 → szEs c l ≤ c ∧ ∀ q ∈ l, EntFit q.1
  | [], c, _, _ => ⟨Int.le_refl _, fun q hq => by simp at hq⟩
  | q :: l, c, hc, h => by
    unfold szEs at h ⊢
    by_cases d : szE c q.1.key q.1.hs q.1.bl q.1.ts < 0
    · rw [if_pos d] at h; omega
    · rw [if_neg d] at h ⊢
      have r := szE_room hc d
      have z := szEs_le l _ (by omega) h
      refine ⟨by omega, fun p hp => ?_⟩
      rcases List.mem_cons.1 hp with rfl | hp
      · exact ⟨r.2.1, r.2.2.1, r.2.2.2.1⟩
      · exact z.2 p hp
theorem szEL_room {l : List (Ent × EntR)} {left : Int} (hc : left ≤ 1048576) (h : ¬ szEL left l < 0) : szEL left l ≤ left ∧ l.length ≤ 1048576 ∧ ∀ q ∈ l, EntFit q.1 := by
  unfold szEL at h ⊢
  by_cases d : left - (l.length : Int) < 0
  · rw [if_pos d] at h; omega
  · rw [if_neg d] at h ⊢
    have z := szEs_le l _ (by omega) h
    exact ⟨by omega, by omega, z.2⟩
/-- A store of one's own: its two lists, apart. -/
structure StoMine (W : World) (G1 G2 : Nat) (tl kl : List (Ent × EntR)) : Prop where
  t : EntsMine W G1 tl
  k : EntsMine W G2 kl
  lt : G1 < G2
  up : ∀ q ∈ tl, blk q.2.ta < G2
theorem StoMine.keep {W W' : World} {G1 G2 : Nat} {tl kl : List (Ent × EntR)} (h : StoMine W G1 G2 tl kl) (hb : Below W.heap.size W W') : StoMine W' G1 G2 tl kl := ⟨h.t.keep hb, h.k.keep hb, h.lt, h.up⟩
end Go.Proofs.YthiiaefdobpjhaaGreatDoor
/-
  A store that is marked all over: what lies outside of it is as it was.
-/
namespace Go.Proofs.YthiiaefdobpjhaaGreatDoor
open Go.ChangeShapes Go.WideShapes Go.ChangeAt Go.RowKit Go.Sort
/-- What was there from block hi on is as it was. -/
structure Above (hi : Nat) (w w' : World) : Prop where
  size : w.heap.size ≤ w'.heap.size
  cell : ∀ b o, hi ≤ b → b < w.heap.size → w'.cell? ⟨b, o, none⟩ = w.cell? ⟨b, o, none⟩
  frozen : ∀ b o, hi ≤ b → b < w.heap.size → w'.frozen? ⟨b, o, none⟩ = w.frozen? ⟨b, o, none⟩
theorem Above.refl (hi : Nat) (w : World) : Above hi w w := ⟨Nat.le_refl _, fun _ _ _ _ => rfl, fun _ _ _ _ => rfl⟩
theorem Above.trans {hi : Nat} {w w1 w2 : World} (h : Above hi w w1) (k : Above hi w1 w2) : Above hi w w2 :=
  ⟨Nat.le_trans h.size k.size, fun b o hb hn => by rw [k.cell b o hb (Nat.lt_of_lt_of_le hn h.size), h.cell b o hb hn], fun b o hb hn => by rw [k.frozen b o hb (Nat.lt_of_lt_of_le hn h.size), h.frozen b o hb hn]⟩
theorem Above.apart {hi B : Nat} {w w' : World} (h : Apart B w w') (hB : B < hi) : Above hi w w' :=
  ⟨h.size, fun b o hb hn => h.cell b o hn (by omega), fun b o hb hn => h.frozen b o hn (by omega)⟩
theorem Above.below {hi : Nat} {w w' : World} (h : Below w.heap.size w w') : Above hi w w' :=
  ⟨h.size, fun b o _ hn => h.cell (p := ⟨b, o, none⟩) hn, fun b o _ hn => h.frozen (p := ⟨b, o, none⟩) hn⟩
theorem QMine.apart {W W' : World} {B b : Nat} {l : List Hdr} (h : QMine W b l) (k : Apart B W W') (hne : b ≠ B) : QMine W' b l :=
  ⟨fun i r hr => by rw [k.cell b _ h.lt hne, k.cell b _ h.lt hne]; exact h.at0 i r hr, fun o => by rw [k.frozen b o h.lt hne]; exact h.free o, Nat.lt_of_lt_of_le h.lt k.size⟩
theorem BMine.apart {W W' : World} {B b : Nat} {l : List UInt8} (h : BMine W b l) (k : Apart B W W') (hne : b ≠ B) : BMine W' b l :=
  ⟨fun i r hr => by rw [k.cell b _ h.lt hne]; exact h.at0 i r hr, fun o ho => by rw [k.frozen b o h.lt hne]; exact h.free o ho, Nat.lt_of_lt_of_le h.lt k.size⟩
theorem TMine.apart {W W' : World} {B b : Nat} {l : List ByteArray} (h : TMine W b l) (k : Apart B W W') (hne : b ≠ B) : TMine W' b l :=
  ⟨fun i r hr => by rw [k.cell b _ h.lt hne]; exact h.at0 i r hr, fun o ho => by rw [k.frozen b o h.lt hne]; exact h.free o ho, Nat.lt_of_lt_of_le h.lt k.size⟩
theorem EntOwn.apart {W W' : World} {B : Nat} {x : Ent} {r : EntR} (h : EntOwn W x r) (k : Apart B W W') (hne : B < blk r.ha) : EntOwn W' x r := by
  obtain ⟨B1, B2, B3, rfl, h1, h2, h3, h4, h5⟩ := h
  have q : B < B1 := hne
  exact ⟨B1, B2, B3, rfl, h1.apart k (by omega), h2.apart k (by omega), h3.apart k (by omega), h4, h5⟩
theorem HRoom.apart {W W' : World} {B G m : Nat} (h : HRoom W G m) (hG : G < W.heap.size) (k : Apart B W W') (hne : G ≠ B) : HRoom W' G m := fun j hj => by
  obtain ⟨⟨u, hu⟩, hf⟩ := h j hj
  exact ⟨⟨u, by rw [k.cell G j hG hne]; exact hu⟩, by rw [k.frozen G j hG hne]; exact hf⟩
/-- The entries from k on are as they were. -/
structure EFrom (W : World) (G k n : Nat) (l : List (Ent × EntR)) : Prop where
  cell : ∀ (i : Nat) q, k ≤ i → l[i]? = some q → ∀ j, j < 13 → W.cell? ⟨G, i * 13 + j, none⟩ = (entW q.1 q.2)[j]?
  own : ∀ (i : Nat) q, k ≤ i → l[i]? = some q → EntOwn W q.1 q.2
  room : HRoom W G (n * 13)
  lt : G < W.heap.size
theorem EFrom.next {W : World} {G k n : Nat} {l : List (Ent × EntR)} (h : EFrom W G k n l) : EFrom W G (k + 1) n l := ⟨fun i q hi => h.cell i q (by omega), fun i q hi => h.own i q (by omega), h.room, h.lt⟩
theorem EFrom.apart {W W' : World} {B G k n : Nat} {l : List (Ent × EntR)} (h : EFrom W G k n l) (a : Apart B W W') (hG : G ≠ B) (hB : ∀ (i : Nat) q, k ≤ i → l[i]? = some q → B < blk q.2.ha) : EFrom W' G k n l :=
  ⟨fun i q hi hq j hj => by rw [a.cell G _ h.lt hG]; exact h.cell i q hi hq j hj, fun i q hi hq => (h.own i q hi hq).apart a (hB i q hi hq), h.room.apart h.lt a hG, Nat.lt_of_lt_of_le h.lt a.size⟩
theorem EFrom.below {W W' : World} {G k n : Nat} {l : List (Ent × EntR)} (h : EFrom W G k n l) (b : Below W.heap.size W W') : EFrom W' G k n l :=
  ⟨fun i q hi hq j hj => by rw [b.cell (p := ⟨G, i * 13 + j, none⟩) h.lt]; exact h.cell i q hi hq j hj, fun i q hi hq => (h.own i q hi hq).keep b, h.room.keep b, Nat.lt_of_lt_of_le h.lt b.size⟩
theorem EFrom.set {W : World} {G k n : Nat} {l : List (Ent × EntR)} (h : EFrom W G (k + 1) n l) (hup : ∀ q ∈ l, G < blk q.2.ha) (o : Nat) (ho : o < (k + 1) * 13) (u : Value) : EFrom (W.setCell ⟨G, o, none⟩ u) G (k + 1) n l := by
  refine ⟨fun i q hi hq j hj => ?_, fun i q hi hq => (h.own i q hi hq).off1 u (hup q (List.mem_of_getElem? hq)), h.room.set _ _, by simpa using h.lt⟩
  rw [World.cell?_setCell_other _ _ _ _ (hoff_ne (by omega))]
  exact h.cell i q hi hq j hj
/-- While entry k is being marked. -/
structure MS (w : World) (lo hi G n k : Nat) (l : List (Ent × EntR)) (v2 v3 v11 : Value) (W : World) : Prop where
  fr : EFrom W G (k + 1) n l
  c2 : W.cell? ⟨G, k * 13 + 2, none⟩ = some v2
  c3 : W.cell? ⟨G, k * 13 + 3, none⟩ = some v3
  c11 : W.cell? ⟨G, k * 13 + 11, none⟩ = some v11
  bl : Below lo w W
  ab : Above hi w W
  le : lo ≤ w.heap.size
section
variable {w W W' : World} {lo hi G n k : Nat} {l : List (Ent × EntR)} {v2 v3 v11 : Value}
theorem MS.below (h : MS w lo hi G n k l v2 v3 v11 W) (b : Below W.heap.size W W') : MS w lo hi G n k l v2 v3 v11 W' :=
  ⟨h.fr.below b, by rw [b.cell (p := ⟨G, k * 13 + 2, none⟩) h.fr.lt]; exact h.c2, by rw [b.cell (p := ⟨G, k * 13 + 3, none⟩) h.fr.lt]; exact h.c3, by rw [b.cell (p := ⟨G, k * 13 + 11, none⟩) h.fr.lt]; exact h.c11, h.bl.trans (b.mono (Nat.le_trans h.le h.bl.size)), h.ab.trans (.below b), h.le⟩
theorem MS.set (h : MS w lo hi G n k l v2 v3 v11 W) (hup : ∀ q ∈ l, G < blk q.2.ha) (hlo : lo ≤ G) (hhi : G < hi) (j : Nat) (hj : j < 13) (h2 : j ≠ 2) (h3 : j ≠ 3) (h4 : j ≠ 11) (u : Value) : MS w lo hi G n k l v2 v3 v11 (W.setCell ⟨G, k * 13 + j, none⟩ u) :=
  ⟨h.fr.set hup _ (by omega) u, by rw [World.cell?_setCell_other _ _ _ _ (hoff_ne (by omega))]; exact h.c2, by rw [World.cell?_setCell_other _ _ _ _ (hoff_ne (by omega))]; exact h.c3, by rw [World.cell?_setCell_other _ _ _ _ (hoff_ne (by omega))]; exact h.c11, h.bl.setCell hlo u, h.ab.trans (.apart (Apart.set G _ W u) hhi), h.le⟩
theorem MS.apart (h : MS w lo hi G n k l v2 v3 v11 W) {B : Nat} (a : Apart B W W') (b : Below B W W') (hlo : lo ≤ B) (hhi : B < hi) (hG : G < B) (hB : ∀ (i : Nat) q, k + 1 ≤ i → l[i]? = some q → B < blk q.2.ha) : MS w lo hi G n k l v2 v3 v11 W' :=
  ⟨h.fr.apart a (by omega) hB, by rw [a.cell G _ h.fr.lt (by omega)]; exact h.c2, by rw [a.cell G _ h.fr.lt (by omega)]; exact h.c3, by rw [a.cell G _ h.fr.lt (by omega)]; exact h.c11, h.bl.trans (b.mono hlo), h.ab.trans (.apart a hhi), h.le⟩
end
theorem BMine.room {W : World} {B : Nat} {l : List UInt8} (h : BMine W B l) : HRoom W B l.length := fun j hj => ⟨⟨_, by have := h.at0 j l[j] (List.getElem?_eq_getElem hj); rw [Nat.zero_add] at this; exact this⟩, h.free j hj⟩
theorem TMine.room {W : World} {B : Nat} {l : List ByteArray} (h : TMine W B l) : HRoom W B l.length := fun j hj => ⟨⟨_, by have := h.at0 j l[j] (List.getElem?_eq_getElem hj); rw [Nat.zero_add] at this; exact this⟩, h.free j hj⟩
theorem BAV.ap {g n c : Nat} {w w' : World} (h : BAV (.slice (some ⟨g, 0, none⟩) n c) w w') : Apart g w w' :=
  ⟨by rw [h.size]; exact Nat.le_refl _, fun b o hb hn => h.cell b o hb (by simp only [Value.ownBlock, ne_eq, Option.some.injEq]; omega), fun b o _ _ => h.frozen b o⟩
end Go.Proofs.YthiiaefdobpjhaaGreatDoor
/-
  A store that a law is about: what its own helpers make of it.
-/
namespace Go.Proofs.YthiiaefdobpjhaaGreatDoor
open Go.ChangeShapes Go.WideShapes Go.ChangeAt Go.RowKit Go.Sort
/-- A store that came in. -/
structure StoArg (w : World) (ta ka : Option Addr) (tl kl : List (Ent × EntR)) : Prop where
  t : EntsIn w ta tl
  k : EntsIn w ka kl
  tn : tl.length ≤ maxLen
  kn : kl.length ≤ maxLen
  ts : ∀ q ∈ tl, EntSm q.1
  ks : ∀ q ∈ kl, EntSm q.1
theorem StoArg.keep {w w' : World} {ta ka : Option Addr} {tl kl : List (Ent × EntR)} (h : StoArg w ta ka tl kl) (hb : Below w.heap.size w w') : StoArg w' ta ka tl kl := ⟨h.t.keep hb, h.k.keep hb, h.tn, h.kn, h.ts, h.ks⟩
structure StoFit (tl kl : List (Ent × EntR)) : Prop where
  tn : tl.length ≤ 1048576
  kn : kl.length ≤ 1048576
  tf : ∀ q ∈ tl, EntFit q.1
  kf : ∀ q ∈ kl, EntFit q.1
theorem szSt_room {left : Int} {tl kl : List (Ent × EntR)} (hl : left ≤ 1048576) (h : ¬ szSt left tl kl < 0) : StoFit tl kl ∧ szSt left tl kl ≤ left := by
  unfold szSt at h ⊢
  by_cases c1 : szEL left tl < 0
  · rw [if_pos c1] at h; omega
  rw [if_neg c1] at h ⊢
  by_cases c2 : szEL (szEL left tl) kl < 0
  · rw [if_pos c2] at h; omega
  rw [if_neg c2]
  have r1 := szEL_room hl c1
  have r2 := szEL_room (Int.le_trans r1.1 hl) c2
  exact ⟨⟨r1.2.1, r2.2.1, r1.2.2, r2.2.2⟩, by omega⟩
/-- A copy of it, its holder's own. -/
def StoNew (W : World) (G1 G2 : Nat) (tl kl : List (Ent × EntR)) : Prop := ∃ tl' kl', tl'.map Prod.fst = tl.map Prod.fst ∧ kl'.map Prod.fst = kl.map Prod.fst ∧ StoMine W G1 G2 tl' kl'
theorem StoNew.keep {W W' : World} {G1 G2 : Nat} {tl kl : List (Ent × EntR)} (h : StoNew W G1 G2 tl kl) (hb : Below W.heap.size W W') : StoNew W' G1 G2 tl kl := by
  obtain ⟨a, b, e1, e2, m⟩ := h
  exact ⟨a, b, e1, e2, m.keep hb⟩
theorem fit_map {l m : List (Ent × EntR)} (e : l.map Prod.fst = m.map Prod.fst) (h : ∀ q ∈ m, EntFit q.1) : ∀ q ∈ l, EntFit q.1 := by
  intro q hq
  have : q.1 ∈ m.map Prod.fst := by rw [← e]; exact List.mem_map_of_mem hq
  obtain ⟨p, hp, e2⟩ := List.mem_map.1 this
  rw [← e2]
  exact h p hp
theorem len_map {l m : List (Ent × EntR)} (e : l.map Prod.fst = m.map Prod.fst) : l.length = m.length := by
  have := congrArg List.length e
  simpa using this
end Go.Proofs.YthiiaefdobpjhaaGreatDoor
/-
  A whole store that is marked: what lies outside of it is as it was.
-/
namespace Go.Proofs.YthiiaefdobpjhaaGreatDoor
open Go.ChangeShapes Go.WideShapes Go.ChangeAt Go.RowKit Go.Sort
theorem Above.mono {h1 h2 : Nat} {w w' : World} (h : Above h1 w w') (hh : h1 ≤ h2) : Above h2 w w' := ⟨h.size, fun b o hb hn => h.cell b o (by omega) hn, fun b o hb hn => h.frozen b o (by omega) hn⟩
theorem EntOwn.above {W W' : World} {hi : Nat} {x : Ent} {r : EntR} (h : EntOwn W x r) (k : Above hi W W') (hh : hi ≤ blk r.ha) : EntOwn W' x r := by
  obtain ⟨B1, B2, B3, rfl, h1, h2, h3, h4, h5⟩ := h
  have q : hi ≤ B1 := hh
  refine ⟨B1, B2, B3, rfl, ⟨fun i r hr => ?_, fun o => ?_, ?_⟩, ⟨fun i r hr => ?_, fun o ho => ?_, ?_⟩, ⟨fun i r hr => ?_, fun o ho => ?_, ?_⟩, h4, h5⟩
  · rw [k.cell B1 _ q h1.lt, k.cell B1 _ q h1.lt]; exact h1.at0 i r hr
  · rw [k.frozen B1 o q h1.lt]; exact h1.free o
  · exact Nat.lt_of_lt_of_le h1.lt k.size
  · rw [k.cell B2 _ (by omega) h2.lt]; exact h2.at0 i r hr
  · rw [k.frozen B2 o (by omega) h2.lt]; exact h2.free o ho
  · exact Nat.lt_of_lt_of_le h2.lt k.size
  · rw [k.cell B3 _ (by omega) h3.lt]; exact h3.at0 i r hr
  · rw [k.frozen B3 o (by omega) h3.lt]; exact h3.free o ho
  · exact Nat.lt_of_lt_of_le h3.lt k.size
theorem EntsMine.above {W W' : World} {hi G : Nat} {l : List (Ent × EntR)} (h : EntsMine W G l) (k : Above hi W W') (hh : hi ≤ G) : EntsMine W' G l :=
  ⟨fun i q hq j hj => by rw [k.cell G _ hh h.lt]; exact h.cell i q hq j hj, fun o => by rw [k.frozen G o hh h.lt]; exact h.free o, Nat.lt_of_lt_of_le h.lt k.size, fun q hq => (h.own q hq).above k (Nat.le_trans hh (Nat.le_of_lt (h.up q hq))), h.up, h.pw⟩
theorem EntsMine.room {W : World} {G : Nat} {l : List (Ent × EntR)} (h : EntsMine W G l) : HRoom W G (l.length * 13) := fun j hj => by
  have hm : j / 13 * 13 + j % 13 = j := by omega
  obtain ⟨q, hq⟩ : ∃ r, l[j / 13]? = some r := ⟨l[j / 13]'(by omega), List.getElem?_eq_getElem _⟩
  have c := h.cell (j / 13) q hq (j % 13) (by omega)
  rw [hm] at c
  exact ⟨⟨_, c.trans (List.getElem?_eq_getElem (by rw [show (entW q.1 q.2).length = 13 from rfl]; omega))⟩, h.free j⟩
end Go.Proofs.YthiiaefdobpjhaaGreatDoor
/-
  An entry whose lists are its own: marked, held.
-/
namespace Go.Proofs.YthiiaefdobpjhaaGreatDoor
open Go.ChangeShapes Go.WideShapes Go.ChangeAt Go.RowKit Go.Sort
def BLV (w : World) (v : Value) (l : List UInt8) : Prop :=
  (v = .slice none 0 0 ∧ l = []) ∨ ∃ g cap, v = .slice (some ⟨g, 0, none⟩) l.length cap ∧ g < w.heap.size ∧ BAt w g 0 l ∧ ∀ o, w.frozen? ⟨g, o, none⟩ = false
theorem RowB.lv {w : World} {base : Nat} {v : Value} {l : List UInt8} (h : RowB w base v l) : BLV w v l ∧ ∀ b, v.ownBlock = some b → base ≤ b := by
  have h0 := h
  obtain ⟨_, h1 | ⟨g, c, cur, rfl, hg, hh, _⟩⟩ := h
  · have e : l = [] := List.eq_nil_of_length_eq_zero h1.2
    exact ⟨.inl ⟨h1.1, e⟩, fun b hb => by rw [h1.1] at hb; cases hb⟩
  · refine ⟨.inr ⟨g, c, rfl, (Array.getElem?_eq_some_iff.1 hh).1, fun i q hq => ?_, fun o => ?_⟩, fun b hb => ?_⟩
    · have hi := (List.getElem?_eq_some_iff.1 hq).1
      have c1 := World.ownsRow.cellAt h0 i (by omega)
      rw [Nat.zero_add, c1]
      unfold cBytes
      rw [List.getElem?_map, hq]
      rfl
    · simp [World.frozen?, hh]
    · simp only [Value.ownBlock, Option.some.injEq] at hb; omega
theorem RowT.lv {w : World} {base : Nat} {v : Value} {l : List ByteArray} (h : RowT w base v l) : TLV w v l ∧ ∀ b, v.ownBlock = some b → base ≤ b := by
  have h0 := h
  obtain ⟨_, h1 | ⟨g, c, cur, rfl, hg, hh, _⟩⟩ := h
  · have e : l = [] := List.eq_nil_of_length_eq_zero h1.2
    exact ⟨.inl ⟨h1.1, e⟩, fun b hb => by rw [h1.1] at hb; cases hb⟩
  · refine ⟨.inr ⟨g, c, rfl, (Array.getElem?_eq_some_iff.1 hh).1, fun i q hq => ?_, fun o => ?_⟩, fun b hb => ?_⟩
    · have hi := (List.getElem?_eq_some_iff.1 hq).1
      have c1 := World.ownsRow.cellAt h0 i (by omega)
      rw [Nat.zero_add, c1]
      unfold cTexts
      rw [List.getElem?_map, hq]
      rfl
    · simp [World.frozen?, hh]
    · simp only [Value.ownBlock, Option.some.injEq] at hb; omega
theorem RowH.lv {w : World} {base : Nat} {v : Value} {l : List Hdr} (h : RowH w base v l) : HLV w v l ∧ ∀ b, v.ownBlock = some b → base ≤ b := OwnH.lv h
theorem BLV.below {w w' : World} {v : Value} {l : List UInt8} (h : BLV w v l) (hb : Below w.heap.size w w') : BLV w' v l := by
  rcases h with h | ⟨g, c, e, hg, hi, hf⟩
  · exact .inl h
  · exact .inr ⟨g, c, e, Nat.lt_of_lt_of_le hg hb.size, hi.keep hb, fun o => by rw [hb.frozen (p := ⟨g, o, none⟩) hg, hf]⟩
theorem BLV.av {w w' : World} {v v1 : Value} {l : List UInt8} (h : BLV w v1 l) (k : HAV v w w') (hne : ∀ b, v1.ownBlock = some b → v.ownBlock ≠ some b) : BLV w' v1 l := by
  rcases h with h | ⟨g, c, rfl, hg, hi, hf⟩
  · exact .inl h
  · have hn := hne g rfl
    exact .inr ⟨g, c, rfl, Nat.lt_of_lt_of_le hg k.size, fun i r hr => by rw [k.cell g _ hg hn]; exact hi i r hr, fun o => by rw [k.frozen g o hg hn, hf]⟩
theorem MarkB.hav {w w' : World} {v u : Value} {k n : Nat} (h : MarkB w v k n) (ha : HAV u w w') (hne : ∀ b, v.ownBlock = some b → u.ownBlock ≠ some b) : MarkB w' v k n := by
  rcases h with h | ⟨g, c, rfl, hg, hc⟩
  · exact .inl h
  · exact .inr ⟨g, c, rfl, Nat.lt_of_lt_of_le hg ha.size, fun i hi => by rw [ha.cell g i hg (hne g rfl)]; exact hc i hi⟩
/-! ### from any number on -/
structure EntLV (w : World) (base : Nat) (x : Ent) (r : EntR) : Prop where
  h : HLV w (.slice r.ha x.hs.length r.hc) x.hs
  b : BLV w (.slice r.ba x.bl.length r.bc) x.bl
  t : TLV w (.slice r.ta x.ts.length r.tc) x.ts
  gh : ∀ g, (Value.slice r.ha x.hs.length r.hc).ownBlock = some g → base ≤ g
  gb : ∀ g, (Value.slice r.ba x.bl.length r.bc).ownBlock = some g → base ≤ g
  gt : ∀ g, (Value.slice r.ta x.ts.length r.tc).ownBlock = some g → base ≤ g
  n1 : ∀ g, (Value.slice r.ha x.hs.length r.hc).ownBlock = some g → (Value.slice r.ba x.bl.length r.bc).ownBlock ≠ some g
  n2 : ∀ g, (Value.slice r.ha x.hs.length r.hc).ownBlock = some g → (Value.slice r.ta x.ts.length r.tc).ownBlock ≠ some g
  n3 : ∀ g, (Value.slice r.ba x.bl.length r.bc).ownBlock = some g → (Value.slice r.ta x.ts.length r.tc).ownBlock ≠ some g
  hc : x.hs.length ≤ r.hc
  bc : x.bl.length ≤ r.bc
  tc : x.ts.length ≤ r.tc
def Flat (v : Value) : Prop := ∃ n c, v = .slice none n c ∨ ∃ g, v = .slice (some ⟨g, 0, none⟩) n c
theorem flat_ne {a b : Option Addr} {n c m d : Nat} (ha : Flat (.slice a n c)) (hb : Flat (.slice b m d)) (h : a = none ∨ a ≠ b) : ∀ g, (Value.slice a n c).ownBlock = some g → (Value.slice b m d).ownBlock ≠ some g := by
  intro g h1 h2
  obtain ⟨_, _, e | ⟨g1, e⟩⟩ := ha
  · simp only [Value.slice.injEq] at e
    obtain ⟨rfl, _⟩ := e
    cases h1
  · obtain ⟨_, _, f | ⟨g2, f⟩⟩ := hb
    · simp only [Value.slice.injEq] at f
      obtain ⟨rfl, _⟩ := f
      cases h2
    · simp only [Value.slice.injEq] at e f
      obtain ⟨rfl, _⟩ := e
      obtain ⟨rfl, _⟩ := f
      simp only [Value.ownBlock, Option.some.injEq] at h1 h2
      subst h1 h2
      rcases h with h | h
      · cases h
      · exact h rfl
theorem HLV.flat {w : World} {v : Value} {l : List Hdr} (h : HLV w v l) : Flat v := by
  rcases h with ⟨rfl, _⟩ | ⟨g, c, rfl, _⟩
  · exact ⟨_, _, .inl rfl⟩
  · exact ⟨_, _, .inr ⟨g, rfl⟩⟩
theorem BLV.flat {w : World} {v : Value} {l : List UInt8} (h : BLV w v l) : Flat v := by
  rcases h with ⟨rfl, _⟩ | ⟨g, c, rfl, _⟩
  · exact ⟨_, _, .inl rfl⟩
  · exact ⟨_, _, .inr ⟨g, rfl⟩⟩
theorem TLV.flat {w : World} {v : Value} {l : List ByteArray} (h : TLV w v l) : Flat v := by
  rcases h with ⟨rfl, _⟩ | ⟨g, c, rfl, _⟩
  · exact ⟨_, _, .inl rfl⟩
  · exact ⟨_, _, .inr ⟨g, rfl⟩⟩
theorem EntRow.lv {w : World} {base : Nat} {x : Ent} {r : EntR} (h : EntRow w base x r) : EntLV w base x r := by
  obtain ⟨h1, g1⟩ := RowH.lv h.h
  obtain ⟨h2, g2⟩ := RowB.lv h.b
  obtain ⟨h3, g3⟩ := RowT.lv h.t
  have i := h.in
  exact ⟨h1, h2, h3, g1, g2, g3, flat_ne h1.flat h2.flat h.n1, flat_ne h1.flat h3.flat h.n2, flat_ne h2.flat h3.flat h.n3, i.hc, i.bc, i.tc⟩
theorem EntLV.below {w w' : World} {base : Nat} {x : Ent} {r : EntR} (h : EntLV w base x r) (hb : Below w.heap.size w w') : EntLV w' base x r :=
  ⟨h.h.below hb, h.b.below hb, h.t.below hb, h.gh, h.gb, h.gt, h.n1, h.n2, h.n3, h.hc, h.bc, h.tc⟩
theorem EntLV.above {w w' : World} {base hi : Nat} {x : Ent} {r : EntR} (h : EntLV w base x r) (k : Above hi w w') (hh : hi ≤ base) : EntLV w' base x r := by
  refine ⟨?_, ?_, ?_, h.gh, h.gb, h.gt, h.n1, h.n2, h.n3, h.hc, h.bc, h.tc⟩
  · have g0 := h.gh
    rcases h.h with h | ⟨g, c, e, hg, hi, hf⟩
    · exact .inl h
    · have hge : base ≤ g := g0 g (by rw [e]; rfl)
      exact .inr ⟨g, c, e, Nat.lt_of_lt_of_le hg k.size, fun i r hr => by rw [k.cell g _ (by omega) hg, k.cell g _ (by omega) hg]; exact hi i r hr, fun o => by rw [k.frozen g o (by omega) hg, hf]⟩
  · have g0 := h.gb
    rcases h.b with h | ⟨g, c, e, hg, hi, hf⟩
    · exact .inl h
    · have hge : base ≤ g := g0 g (by rw [e]; rfl)
      exact .inr ⟨g, c, e, Nat.lt_of_lt_of_le hg k.size, fun i r hr => by rw [k.cell g _ (by omega) hg]; exact hi i r hr, fun o => by rw [k.frozen g o (by omega) hg, hf]⟩
  · have g0 := h.gt
    rcases h.t with h | ⟨g, c, e, hg, hi, hf⟩
    · exact .inl h
    · have hge : base ≤ g := g0 g (by rw [e]; rfl)
      exact .inr ⟨g, c, e, Nat.lt_of_lt_of_le hg k.size, fun i r hr => by rw [k.cell g _ (by omega) hg]; exact hi i r hr, fun o => by rw [k.frozen g o (by omega) hg, hf]⟩
theorem EntLV.in {w : World} {base : Nat} {x : Ent} {r : EntR} (h : EntLV w base x r) : EntIn w x r := by
  refine ⟨?_, ?_, ?_, h.hc, h.bc, h.tc⟩
  · rcases h.h with ⟨_, e⟩ | ⟨g, c, e, hg, hi, hf⟩
    · exact .inl e
    · simp only [Value.slice.injEq] at e
      exact .inr ⟨g, 0, e.1, hi⟩
  · rcases h.b with ⟨_, e⟩ | ⟨g, c, e, hg, hi, hf⟩
    · exact .inl e
    · simp only [Value.slice.injEq] at e
      exact .inr ⟨g, 0, e.1, hi⟩
  · rcases h.t with ⟨_, e⟩ | ⟨g, c, e, hg, hi, hf⟩
    · exact .inl e
    · simp only [Value.slice.injEq] at e
      exact .inr ⟨g, 0, e.1, hi⟩
/-- What an entry's lists hold once they were marked. -/
structure EntHeld (w : World) (x : Ent) (r : EntR) : Prop where
  h : HLV w (.slice r.ha x.hs.length r.hc) (mkHL 1 x.hs.length)
  b : MarkB w (.slice r.ba x.bl.length r.bc) (1 + 2 * x.hs.length) x.bl.length
  t : TLV w (.slice r.ta x.ts.length r.tc) (mkTL (1 + 2 * x.hs.length + x.bl.length) x.ts.length)
theorem EntHeld.below {w w' : World} {x : Ent} {r : EntR} (h : EntHeld w x r) (hb : Below w.heap.size w w') : EntHeld w' x r := ⟨h.h.below hb, h.b.keep hb, h.t.below hb⟩
theorem HAV.above {v : Value} {hi : Nat} {w w' : World} (h : HAV v w w') (hv : ∀ g, v.ownBlock = some g → g < hi) : Above hi w w' :=
  ⟨h.size, fun b o h1 h2 => h.cell b o h2 (fun e => by have := hv b e; omega), fun b o h1 h2 => h.frozen b o h2 (fun e => by have := hv b e; omega)⟩
theorem BLV.block_lt {w : World} {v : Value} {l : List UInt8} (h : BLV w v l) : ∀ b, v.ownBlock = some b → b < w.heap.size := by
  rcases h with ⟨rfl, _⟩ | ⟨g, c, rfl, hg, _⟩
  · intro b hb; cases hb
  · intro b hb; simp only [Value.ownBlock, Option.some.injEq] at hb; omega
structure EntLt (hi : Nat) (x : Ent) (r : EntR) : Prop where
  h : ∀ g, (Value.slice r.ha x.hs.length r.hc).ownBlock = some g → g < hi
  b : ∀ g, (Value.slice r.ba x.bl.length r.bc).ownBlock = some g → g < hi
  t : ∀ g, (Value.slice r.ta x.ts.length r.tc).ownBlock = some g → g < hi
theorem EntLV.lts {w : World} {base : Nat} {x : Ent} {r : EntR} (h : EntLV w base x r) : EntLt w.heap.size x r := ⟨HLV.block_lt h.h, h.b.block_lt, h.t.block_lt⟩
end Go.Proofs.YthiiaefdobpjhaaGreatDoor
/-
  Rows of head lines, of bytes and of texts, as facts that hang on a stretch of blocks.
-/
namespace Go.Proofs.YthiiaefdobpjhaaGreatDoor
open Go.ChangeShapes Go.WideShapes Go.ChangeAt Go.RowKit Go.Sort
def BL (v : Value) (l : List UInt8) (lo hi : Nat) (X : World) : Prop := BLV X v l ∧ ∀ b, v.ownBlock = some b → lo ≤ b ∧ b < hi
def TL (v : Value) (l : List ByteArray) (lo hi : Nat) (X : World) : Prop := TLV X v l ∧ ∀ b, v.ownBlock = some b → lo ≤ b ∧ b < hi
def MB (v : Value) (k n lo hi : Nat) (X : World) : Prop := MarkB X v k n ∧ ∀ b, v.ownBlock = some b → lo ≤ b ∧ b < hi
theorem BL.dep (v : Value) (l : List UInt8) (lo hi : Nat) : Dep lo hi (BL v l lo hi) := fun X X' h1 h2 hc k => by
  refine ⟨?_, k.2⟩
  rcases k.1 with e | ⟨g, c, rfl, hg, hi', hf⟩
  · exact .inl e
  · obtain ⟨b1, b2⟩ := k.2 g rfl
    exact .inr ⟨g, c, rfl, Nat.lt_of_lt_of_le hg h2, fun i r hr => by rw [(hc g _ b1 b2).1]; exact hi' i r hr, fun o => by rw [(hc g o b1 b2).2, hf]⟩
theorem TL.dep (v : Value) (l : List ByteArray) (lo hi : Nat) : Dep lo hi (TL v l lo hi) := fun X X' h1 h2 hc k => by
  refine ⟨?_, k.2⟩
  rcases k.1 with e | ⟨g, c, rfl, hg, hi', hf⟩
  · exact .inl e
  · obtain ⟨b1, b2⟩ := k.2 g rfl
    exact .inr ⟨g, c, rfl, Nat.lt_of_lt_of_le hg h2, fun i r hr => by rw [(hc g _ b1 b2).1]; exact hi' i r hr, fun o => by rw [(hc g o b1 b2).2, hf]⟩
theorem MB.dep (v : Value) (k n lo hi : Nat) : Dep lo hi (MB v k n lo hi) := fun X X' h1 h2 hc q => by
  refine ⟨?_, q.2⟩
  rcases q.1 with e | ⟨g, c, rfl, hg, hi'⟩
  · exact .inl e
  · obtain ⟨b1, b2⟩ := q.2 g rfl
    exact .inr ⟨g, c, rfl, Nat.lt_of_lt_of_le hg h2, fun i hi2 => by rw [(hc g _ b1 b2).1]; exact hi' i hi2⟩
theorem Dep.and {lo hi : Nat} {A B : World → Prop} (a : Dep lo hi A) (b : Dep lo hi B) : Dep lo hi (fun X => A X ∧ B X) := fun X X' h1 h2 hc k => ⟨a X X' h1 h2 hc k.1, b X X' h1 h2 hc k.2⟩
theorem Dep.const {lo hi : Nat} (p : Prop) : Dep lo hi (fun _ => p) := fun _ _ _ _ _ k => k
theorem BL.wide {v : Value} {l : List UInt8} {lo hi lo' hi' : Nat} {X : World} (k : BL v l lo hi X) (h1 : lo' ≤ lo) (h2 : hi ≤ hi') : BL v l lo' hi' X := ⟨k.1, fun b hb => by have := k.2 b hb; omega⟩
theorem TL.wide {v : Value} {l : List ByteArray} {lo hi lo' hi' : Nat} {X : World} (k : TL v l lo hi X) (h1 : lo' ≤ lo) (h2 : hi ≤ hi') : TL v l lo' hi' X := ⟨k.1, fun b hb => by have := k.2 b hb; omega⟩
theorem RowB.at {w : World} {base : Nat} {v : Value} {l : List UInt8} (h : RowB w base v l) : At base w.heap.size (BL v l) w :=
  ⟨Nat.le_refl _, BL.dep _ _ _ _, h.lv.1, fun b hb => ⟨h.lv.2 b hb, (World.ownsRow.lt h b hb).2⟩⟩
theorem RowT.at {w : World} {base : Nat} {v : Value} {l : List ByteArray} (h : RowT w base v l) : At base w.heap.size (TL v l) w :=
  ⟨Nat.le_refl _, TL.dep _ _ _ _, h.lv.1, fun b hb => ⟨h.lv.2 b hb, (World.ownsRow.lt h b hb).2⟩⟩
theorem BL.in {v : Value} {l : List UInt8} {lo hi : Nat} {X : World} {a : Option Addr} {n c : Nat} (k : BL v l lo hi X) (e : v = .slice a n c) : n = l.length ∧ BIn X a l := by
  subst e
  rcases k.1 with ⟨e, rfl⟩ | ⟨g, c', e, _, h, _⟩
  · simp only [Value.slice.injEq] at e
    obtain ⟨rfl, rfl, rfl⟩ := e
    exact ⟨rfl, .inl rfl⟩
  · simp only [Value.slice.injEq] at e
    obtain ⟨rfl, rfl, rfl⟩ := e
    exact ⟨rfl, .inr ⟨g, 0, rfl, h⟩⟩
theorem TL.in {v : Value} {l : List ByteArray} {lo hi : Nat} {X : World} {a : Option Addr} {n c : Nat} (k : TL v l lo hi X) (e : v = .slice a n c) : n = l.length ∧ TIn X a l := by
  subst e
  rcases k.1 with ⟨e, rfl⟩ | ⟨g, c', e, _, h, _⟩
  · simp only [Value.slice.injEq] at e
    obtain ⟨rfl, rfl, rfl⟩ := e
    exact ⟨rfl, .inl rfl⟩
  · simp only [Value.slice.injEq] at e
    obtain ⟨rfl, rfl, rfl⟩ := e
    exact ⟨rfl, .inr ⟨g, 0, rfl, h⟩⟩
/-- No block is both's. -/
def Ap (v u : Value) : Prop := ∀ b, v.ownBlock = some b → u.ownBlock ≠ some b
theorem HAV.wi {v : Value} {X X' : World} (h : HAV v X X') {lo hi : Nat} (hv : ∀ b, v.ownBlock = some b → lo ≤ b ∧ b < hi) : Wi lo hi X X' :=
  ⟨h.size, fun b o hb hd => h.cell b o hb (fun e => by have := hv b e; omega), fun b o hb hd => h.frozen b o hb (fun e => by have := hv b e; omega)⟩
/-! ### marking -/
end Go.Proofs.YthiiaefdobpjhaaGreatDoor
/-
  What a marking leaves as it was; requests marked.
-/
namespace Go.Proofs.YthiiaefdobpjhaaGreatDoor
open Go.ChangeShapes Go.WideShapes Go.ChangeAt Go.RowKit
/-- All that was there, but for the memory of v, is as it was. -/
structure OutV (v : Value) (W W' : World) : Prop where
  size : W.heap.size ≤ W'.heap.size
  cell : ∀ b o, b < W.heap.size → v.ownBlock ≠ some b → W'.cell? ⟨b, o, none⟩ = W.cell? ⟨b, o, none⟩
  frozen : ∀ b o, b < W.heap.size → v.ownBlock ≠ some b → W'.frozen? ⟨b, o, none⟩ = W.frozen? ⟨b, o, none⟩
theorem Four.out {v : Value} {W W' : World} {B : Nat} {v0 v1 v2 v3 : Value} (h : Four W B v0 v1 v2 v3) (k : OutV v W W') (hne : v.ownBlock ≠ some B) : Four W' B v0 v1 v2 v3 :=
  ⟨by rw [k.cell B 0 h.lt hne]; exact h.c0, by rw [k.cell B 1 h.lt hne]; exact h.c1, by rw [k.cell B 2 h.lt hne]; exact h.c2, by rw [k.cell B 3 h.lt hne]; exact h.c3, fun o => by rw [k.frozen B o h.lt hne]; exact h.fr o, Nat.lt_of_lt_of_le h.lt k.size⟩
theorem Two.out {v : Value} {W W' : World} {B : Nat} {v0 v1 : Value} (h : Two W B v0 v1) (k : OutV v W W') (hne : v.ownBlock ≠ some B) : Two W' B v0 v1 :=
  ⟨by rw [k.cell B 0 h.lt hne]; exact h.c0, by rw [k.cell B 1 h.lt hne]; exact h.c1, fun o => by rw [k.frozen B o h.lt hne]; exact h.fr o, Nat.lt_of_lt_of_le h.lt k.size⟩
theorem BOwn.out {v u : Value} {W W' : World} {base : Nat} {l : List UInt8} (h : BOwn W base u l) (k : OutV v W W') (hne : ∀ b, u.ownBlock = some b → v.ownBlock ≠ some b) : BOwn W' base u l := by
  rcases h with h | ⟨g, c, rfl, hg, hm⟩
  · exact .inl h
  · have hn := hne g rfl
    exact .inr ⟨g, c, rfl, hg, fun i x hx => by rw [k.cell g _ hm.lt hn]; exact hm.at0 i x hx, fun o ho => by rw [k.frozen g o hm.lt hn]; exact hm.free o ho, Nat.lt_of_lt_of_le hm.lt k.size⟩
theorem QMine.out {v : Value} {W W' : World} {B : Nat} {l : List Hdr} (h : QMine W B l) (k : OutV v W W') (hne : v.ownBlock ≠ some B) : QMine W' B l :=
  ⟨fun i r hr => by rw [k.cell B _ h.lt hne, k.cell B _ h.lt hne]; exact h.at0 i r hr, fun o => by rw [k.frozen B o h.lt hne]; exact h.free o, Nat.lt_of_lt_of_le h.lt k.size⟩
end Go.Proofs.YthiiaefdobpjhaaGreatDoor
/-
  Responses marked.
-/
namespace Go.Proofs.YthiiaefdobpjhaaGreatDoor
open Go.ChangeShapes Go.WideShapes Go.ChangeAt Go.RowKit
theorem Three.out {v : Value} {W W' : World} {B : Nat} {v0 v1 v2 : Value} (h : Three W B v0 v1 v2) (k : OutV v W W') (hne : v.ownBlock ≠ some B) : Three W' B v0 v1 v2 :=
  ⟨by rw [k.cell B 0 h.lt hne]; exact h.c0, by rw [k.cell B 1 h.lt hne]; exact h.c1, by rw [k.cell B 2 h.lt hne]; exact h.c2, fun o => by rw [k.frozen B o h.lt hne]; exact h.fr o, Nat.lt_of_lt_of_le h.lt k.size⟩
theorem BMine.out {v : Value} {W W' : World} {B : Nat} {l : List UInt8} (h : BMine W B l) (k : OutV v W W') (hne : v.ownBlock ≠ some B) : BMine W' B l :=
  ⟨fun i r hr => by rw [k.cell B _ h.lt hne]; exact h.at0 i r hr, fun o ho => by rw [k.frozen B o h.lt hne]; exact h.free o ho, Nat.lt_of_lt_of_le h.lt k.size⟩
end Go.Proofs.YthiiaefdobpjhaaGreatDoor
/-
  Texts of one's own, as facts that hang on a stretch of blocks.
-/
namespace Go.Proofs.YthiiaefdobpjhaaGreatDoor
open Go.ChangeShapes Go.WideShapes Go.ChangeAt Go.RowKit Go.Sort
def TM (B : Nat) (l : List ByteArray) (lo hi : Nat) (X : World) : Prop := TMine X B l ∧ lo ≤ B ∧ B < hi
theorem TM.dep (B : Nat) (l : List ByteArray) (lo hi : Nat) : Dep lo hi (TM B l lo hi) := fun X X' h1 h2 hc k =>
  ⟨⟨fun i r hr => by rw [(hc B _ k.2.1 k.2.2).1]; exact k.1.at0 i r hr, fun o ho => by rw [(hc B o k.2.1 k.2.2).2]; exact k.1.free o ho, Nat.lt_of_lt_of_le k.1.lt h2⟩, k.2⟩
theorem TMine.at {X : World} {B : Nat} {l : List ByteArray} (h : TMine X B l) : At B (B + 1) (TM B l) X := ⟨h.lt, TM.dep _ _ _ _, h, Nat.le_refl _, Nat.lt_succ_self _⟩
theorem TM.in {B lo hi : Nat} {l : List ByteArray} {X : World} (h : TM B l lo hi X) : TIn X (some ⟨B, 0, none⟩) l := h.1.in
end Go.Proofs.YthiiaefdobpjhaaGreatDoor
/-
  Arguments as the laws hand them over: rows of their own, and their marks from any number on.
-/
namespace Go.Proofs.YthiiaefdobpjhaaGreatDoor
open Go.ChangeShapes Go.WideShapes Go.ChangeAt Go.RowKit Go.Sort
def QM (B : Nat) (l : List Hdr) (lo hi : Nat) (X : World) : Prop := QMine X B l ∧ lo ≤ B ∧ B < hi
def BM (B : Nat) (l : List UInt8) (lo hi : Nat) (X : World) : Prop := BMine X B l ∧ lo ≤ B ∧ B < hi
theorem QM.dep (B : Nat) (l : List Hdr) (lo hi : Nat) : Dep lo hi (QM B l lo hi) := fun X X' h1 h2 hc k =>
  ⟨⟨fun i r hr => by rw [(hc B _ k.2.1 k.2.2).1, (hc B _ k.2.1 k.2.2).1]; exact k.1.at0 i r hr, fun o => by rw [(hc B o k.2.1 k.2.2).2]; exact k.1.free o, Nat.lt_of_lt_of_le k.1.lt h2⟩, k.2⟩
theorem BM.dep (B : Nat) (l : List UInt8) (lo hi : Nat) : Dep lo hi (BM B l lo hi) := fun X X' h1 h2 hc k =>
  ⟨⟨fun i r hr => by rw [(hc B _ k.2.1 k.2.2).1]; exact k.1.at0 i r hr, fun o ho => by rw [(hc B o k.2.1 k.2.2).2]; exact k.1.free o ho, Nat.lt_of_lt_of_le k.1.lt h2⟩, k.2⟩
theorem QMine.at {X : World} {B : Nat} {l : List Hdr} (h : QMine X B l) : At B (B + 1) (QM B l) X := ⟨h.lt, QM.dep _ _ _ _, h, Nat.le_refl _, Nat.lt_succ_self _⟩
theorem BMine.at {X : World} {B : Nat} {l : List UInt8} (h : BMine X B l) : At B (B + 1) (BM B l) X := ⟨h.lt, BM.dep _ _ _ _, h, Nat.le_refl _, Nat.lt_succ_self _⟩
end Go.Proofs.YthiiaefdobpjhaaGreatDoor
/-
  Pieces of the program's copying of an entry: lineOf, bytes.Clone, one more behind a row.
-/
namespace Go.Proofs.YthiiaefdobpjhaaGreatDoor
open Go.ChangeShapes Go.WideShapes Go.ChangeAt Go.RowKit Go.Sort
end Go.Proofs.YthiiaefdobpjhaaGreatDoor
/-
  slices.Insert of one head line into lines of the call's own.
-/
namespace Go.Proofs.YthiiaefdobpjhaaGreatDoor
open Go.ChangeShapes Go.WideShapes Go.ChangeAt Go.RowKit Go.Sort
theorem hdr_size2 : (Tryz.prog.info? 73).map (·.size) = some 2 := by kernel_rfl
theorem hdr_mixed : Tryz.prog.follows .mixedOrders = true := by kernel_rfl
/-- copy between slices of two cells an element, into a row. -/
theorem run_copy_row2 (w : World) (ty : TypeId) (g o dLen dCap : Nat) (a : Addr) (sLen sCap n : Nat) (cur : Array Value) (t : TypeId) (cs : List Value)
    (hg : w.heap[g]? = some (.cells cur t (0, 0))) (hn : n = Nat.min sLen dLen) (hcl : cs.length = n * 2)
    (hsrc : ∀ j v, cs[j]? = some v → w.cell? (a.add j) = some v) (hfit : o + cs.length ≤ cur.size) (h1 : ∀ v ∈ cs, v.oneCell' = true) :
    (Builtin.copy_ #[32, 32] ty #[.slice (some ⟨g, o, none⟩) dLen dCap, .slice (some a) sLen sCap]).run Tryz.prog w =
      .ok (goInt n) (w.setRow g (cur.toList.take o ++ cs ++ cur.toList.drop (o + cs.length)).toArray) := by
  have hl := run_loadCells_list (P := Tryz.prog) w a cs hsrc
  have hst := run_storeCells_at Tryz.prog g o t cs 0 cur w hg (by simpa using hfit) h1
  have hu := Tryz.underlying32
  cases hq : Tryz.prog.info? 73 with
  | none => have := hdr_size2; simp [hq] at this
  | some i =>
    have hi : i.size = 2 := by have := hdr_size2; simpa [hq] using this
    rw [hcl] at hl
    simp [Builtin.copy_, run_underlying hu, Builtin.lenOf, Builtin.firstCells, sizeOf, typeInfo, hq, hi, ← hn, hl, hst]
theorem wp_copy_runH (w : World) {o : Oper} {a : Act} {K : Act → World → Prop} {Q : Exit → Act → World → Prop} (d s : Operand) (t t' : TypeId)
    (ho : o.op = .call { callee := .builtin .copy, args := #[d, s], argTypes := #[t, t'] }) (v u : Value) (hd : a.eval d = v) (hs : a.eval s = u) {v' : Value} {w' : World}
    (hr : (Builtin.copy_ #[t, t'] o.type #[v, u]).run Tryz.prog w = .ok v' w') (h : K (a.put o.dst v') w') : o.wp Tryz.prog a w K Q := by
  unfold Oper.wp execOp
  simp only [ho, resolve, invoke, builtin, Sem.run_bind, Sem.run_pure, Result.andThen_ok, List.map_toArray, List.map_cons, List.map_nil, hd, hs, hr]
  exact h
theorem wpList_copy_runH (w : World) {ops : Array Oper} {rest : List Oper} {o : Oper} {a : Act} {Q : Exit → Act → World → Prop} (hgd : o.guard = none) (d s : Operand) (t t' : TypeId)
    (ho : o.op = .call { callee := .builtin .copy, args := #[d, s], argTypes := #[t, t'] }) (v u : Value) (hd : a.eval d = v) (hs : a.eval s = u) {v' : Value} {w' : World}
    (hr : (Builtin.copy_ #[t, t'] o.type #[v, u]).run Tryz.prog w = .ok v' w') (h : wpList Tryz.prog ops Q rest (a.put o.dst v') w') : wpList Tryz.prog ops Q (o :: rest) a w :=
  wpList_plain hgd fun _ hK => wp_copy_runH w d s t t' ho v u hd hs hr (hK _ _ h)
theorem grown_setRow (w : World) (g : Nat) (cs : Array Value) : w.grownBy (w.setRow g cs) (some g) :=
  ⟨rfl, rfl, rfl, by simp, fun i _ hi => setRow_other w g i cs (fun e => hi (by rw [e]))⟩
theorem below_setRow {base g : Nat} (w : World) (cs : Array Value) (hg : base ≤ g) (hw : base ≤ w.heap.size) : Below base w (w.setRow g cs) :=
  (Below.refl base w).grown (grown_setRow w g cs) hw (fun k hk => by cases hk; exact hg)
theorem hdrsW_one (l : List Hdr) : ∀ v ∈ hdrsW l, v.oneCell' = true := by
  intro v hv
  obtain ⟨r, _, hr⟩ := List.mem_flatMap.1 hv
  simp only [hdrW, List.mem_cons, List.not_mem_nil, or_false] at hr
  rcases hr with rfl | rfl <;> rfl
theorem hdrsW_app (l m : List Hdr) : hdrsW (l ++ m) = hdrsW l ++ hdrsW m := by simp [hdrsW]
theorem hdrsW_take (l : List Hdr) (i : Nat) (hi : i ≤ l.length) : (hdrsW l).take (i * 2) = hdrsW (l.take i) := by
  have h : hdrsW l = hdrsW (l.take i) ++ hdrsW (l.drop i) := by rw [← hdrsW_app, List.take_append_drop]
  rw [h, List.take_left' (by rw [hdrsW_len, List.length_take]; omega)]
theorem hdrsW_drop (l : List Hdr) (i : Nat) (hi : i ≤ l.length) : (hdrsW l).drop (i * 2) = hdrsW (l.drop i) := by
  have h : hdrsW l = hdrsW (l.take i) ++ hdrsW (l.drop i) := by rw [← hdrsW_app, List.take_append_drop]
  rw [h, List.drop_left' (by rw [hdrsW_len, List.length_take]; omega)]
/-- What the two copies leave, where there is room. -/
theorem rows_shift (A B T : List Value) (x y : Value) (k : Nat) (hA : A.length = k) (hT : 2 ≤ T.length) :
    ((((A ++ B ++ T).take (k + 2) ++ B ++ (A ++ B ++ T).drop (k + 2 + B.length)).take k ++ [x, y] ++ ((A ++ B ++ T).take (k + 2) ++ B ++ (A ++ B ++ T).drop (k + 2 + B.length)).drop (k + 2))) = A ++ [x, y] ++ B ++ T.drop 2 := by
  have h1 : ((A ++ B ++ T).take (k + 2)).length = k + 2 := by simp; omega
  have e1 : ((A ++ B ++ T).take (k + 2) ++ B ++ (A ++ B ++ T).drop (k + 2 + B.length)).drop (k + 2) = B ++ (A ++ B ++ T).drop (k + 2 + B.length) := by
    rw [List.append_assoc, List.drop_left' h1]
  have e2 : ((A ++ B ++ T).take (k + 2) ++ B ++ (A ++ B ++ T).drop (k + 2 + B.length)).take k = A := by
    rw [List.append_assoc, List.take_append_of_le_length (by omega), List.take_take, Nat.min_eq_left (by omega), List.append_assoc, List.take_left' hA]
  have e3 : (A ++ B ++ T).drop (k + 2 + B.length) = T.drop 2 := by
    rw [show k + 2 + B.length = (A ++ B).length + 2 from by simp; omega, List.drop_append]
    simp
  rw [e1, e2, e3]
  simp
/-- What the two copies leave in a new row. -/
theorem rows_grow (A B Z T : List Value) (x y : Value) (k : Nat) (hA : A.length = k) (hZ : Z.length = B.length + 2) :
    (((A ++ Z ++ T).take k ++ [x, y] ++ (A ++ Z ++ T).drop (k + 2)).take (k + 2) ++ B ++ ((A ++ Z ++ T).take k ++ [x, y] ++ (A ++ Z ++ T).drop (k + 2)).drop (k + 2 + B.length)) = A ++ [x, y] ++ B ++ T := by
  have e0 : (A ++ Z ++ T).take k = A := by rw [List.append_assoc, List.take_left' hA]
  have h2 : (A ++ [x, y]).length = k + 2 := by simp [hA]
  have e1 : (A ++ [x, y] ++ (A ++ Z ++ T).drop (k + 2)).take (k + 2) = A ++ [x, y] := List.take_left' h2
  have e2 : (A ++ [x, y] ++ (A ++ Z ++ T).drop (k + 2)).drop (k + 2 + B.length) = T := by
    rw [show k + 2 + B.length = (A ++ [x, y]).length + B.length from by omega, List.drop_append]
    have e3 : (A ++ [x, y]).drop ((A ++ [x, y]).length + B.length) = [] := List.drop_of_length_le (by omega)
    rw [e3, List.nil_append, show (A ++ [x, y]).length + B.length - (A ++ [x, y]).length = B.length from by omega, List.drop_drop]
    rw [show k + 2 + B.length = (A ++ Z).length from by simp; omega, List.drop_left]
  rw [e0, e1, e2]
end Go.Proofs.YthiiaefdobpjhaaGreatDoor
/-
  slices.Insert of one head line: its roads.
-/
namespace Go.Proofs.YthiiaefdobpjhaaGreatDoor
open Go.ChangeShapes Go.WideShapes Go.ChangeAt Go.RowKit Go.Sort
theorem wpList_append_line {ops : Array Oper} {rest : List Oper} {o : Oper} {a : Act} {Q : Exit → Act → World → Prop} (w : World) (hgd : o.guard = none) (s x : Operand)
    (ho : o.op = .call { callee := .builtin .append, args := #[s, x], argTypes := #[32, 32] }) (base : Nat) (v : Value) (l : List Hdr) (n z : ByteArray) (vb : Nat)
    (hs : a.eval s = v) (hx : a.eval x = .slice (some ⟨vb, 0, none⟩) 1 1) (hown : OwnH w base v l) (c0 : w.cell? ⟨vb, 0, none⟩ = some (.string n)) (c1 : w.cell? ⟨vb, 1, none⟩ = some (.string z)) (hl : l.length ≤ 1000000) (hbase : base ≤ w.heap.size)
    (h : ∀ v' w', OwnH w' base v' (l ++ [⟨n, z⟩]) → Below base w w' → wpList Tryz.prog ops Q rest (a.put o.dst v') w') :
    wpList Tryz.prog ops Q (o :: rest) a w := by
  obtain ⟨i0, hi, hz0, hz1, hz2⟩ := info_parts infoHeader
  refine wpList_append_own _ hgd s x 32 ho base 73 i0 (.agg #[.string ⟨#[]⟩, .string ⟨#[]⟩]) 2 32 Tryz.underlying32 hi hz0 hz1 hz2 rfl (by decide) v l.length (hdrsW l) hs hown ⟨vb, 0, none⟩ 1 1 [.string n, .string z] hx rfl ?_ ?_ ?_ ?_ ?_ ?_
  · intro j u hj
    match j, hj with
    | 0, hj => simp at hj; subst hj; simpa [Addr.add] using c0
    | 1, hj => simp at hj; subst hj; simpa [Addr.add] using c1
  · intro u hu; simp at hu; rcases hu with rfl | rfl <;> rfl
  · unfold maxLen; omega
  · omega
  · exact hbase
  · intro v' w' h1 h2 h3
    have e : hdrsW (l ++ [⟨n, z⟩]) = hdrsW l ++ [.string n, .string z] := by simp [hdrsW, hdrW]
    exact h v' w' (by unfold OwnH; rw [e, List.length_append]; exact h1) ((Below.refl base w).grown h2 hbase (fun q hq => own_geH hown q hq))
theorem hdr_mid (l : List Hdr) (i : Nat) (hn hv : ByteArray) : hdrsW (l.take i ++ [⟨hn, hv⟩] ++ l.drop i) = hdrsW (l.take i) ++ [.string hn, .string hv] ++ hdrsW (l.drop i) := by
  rw [hdrsW_app, hdrsW_app]; rfl
theorem ownH_row {w : World} {base g c : Nat} {R : Array Value} {T : List Value} {l : List Hdr} {i : Nat} {hn hv : ByteArray} (hi : i ≤ l.length) (hg : w.heap[g]? = some (.cells R 73 (0, 0))) (hbg : base ≤ g) (hc : l.length + 1 ≤ c) (hcm : c ≤ maxLen) (hs : R.size = c * 2)
    (hR : R.toList = hdrsW (l.take i) ++ [.string hn, .string hv] ++ hdrsW (l.drop i) ++ T) : OwnH w base (.slice (some ⟨g, 0, none⟩) (l.length + 1) c) (l.take i ++ [⟨hn, hv⟩] ++ l.drop i) := by
  have hl : (l.take i ++ [(⟨hn, hv⟩ : Hdr)] ++ l.drop i).length = l.length + 1 := by simp only [List.length_append, List.length_take, List.length_cons, List.length_nil, List.length_drop]; omega
  unfold OwnH
  rw [hl]
  refine ⟨by rw [hdrsW_len, hl], .inr ⟨g, c, R, rfl, hbg, hg, hc, hcm, hs, ?_⟩⟩
  rw [hR, ← hdr_mid, List.take_left' (by rw [hdrsW_len, hl])]
end Go.Proofs.YthiiaefdobpjhaaGreatDoor
/-
  slices.Insert of one head line into lines that have no room.
-/
namespace Go.Proofs.YthiiaefdobpjhaaGreatDoor
open Go.ChangeShapes Go.WideShapes Go.ChangeAt Go.RowKit Go.Sort
theorem newRow_at (w : World) (R : Array Value) (t : TypeId) : (w.drew.alloc (.cells R t)).heap[w.heap.size]? = some (.cells R t (0, 0)) := (MapKept.heap_alloc w.drew _).1
theorem newRow_old (w : World) (R : Array Value) (t : TypeId) (k : Nat) (h : k < w.heap.size) : (w.drew.alloc (.cells R t)).heap[k]? = w.heap[k]? := Below.heap_alloc w.drew _ k h
end Go.Proofs.YthiiaefdobpjhaaGreatDoor
/-
  What the model's SetHeader answers; slices.Insert, whole.
-/
namespace Go.Proofs.YthiiaefdobpjhaaGreatDoor
open Go.ChangeShapes Go.WideShapes Go.ChangeAt Go.RowKit Go.Sort
theorem setGo_other {h r : Hdr} {bd : Bool} {l : List Hdr} (he : ¬ lowS r.name = lowS h.name) : setGo h bd (r :: l) = r :: setGo h bd l := by rw [setGo, if_neg he]
theorem setGo_put {h r : Hdr} {l : List Hdr} (he : lowS r.name = lowS h.name) : setGo h false (r :: l) = h :: setGo h true l := by rw [setGo, if_pos he]; rfl
theorem setGo_skip {h r : Hdr} {l : List Hdr} (he : lowS r.name = lowS h.name) : setGo h true (r :: l) = setGo h true l := by rw [setGo, if_pos he]; rfl
theorem setGo_end (h : Hdr) : setGo h true [] = [] ∧ setGo h false [] = [h] := ⟨rfl, rfl⟩
theorem box_room {w w1 : World} {n v : ByteArray} {t : TypeId} (hb : Below (w.heap.size + 1) (w.alloc (.cells #[.string n, .string v] t)) w1) :
    w1.cell? ⟨w.heap.size, 0, none⟩ = some (.string n) ∧ w1.cell? ⟨w.heap.size, 1, none⟩ = some (.string v) := by
  exact ⟨by rw [hb.cell (p := ⟨w.heap.size, 0, none⟩) (Nat.lt_succ_self _)]; simp, by rw [hb.cell (p := ⟨w.heap.size, 1, none⟩) (Nat.lt_succ_self _)]; simp⟩
end Go.Proofs.YthiiaefdobpjhaaGreatDoor
/-
  What SetHeader and its model answer.
-/
namespace Go.Proofs.YthiiaefdobpjhaaGreatDoor
open Go.ChangeShapes Go.WideShapes Go.ChangeAt Go.RowKit Go.Sort
theorem wpAny_seq2 {P : Program} {md : Region.Mode} {ops : Array Oper} {Q : Exit → Act → World → Prop} {k : Nat} {o1 o2 : Oper} {listed : Array Bool} {a : Act} {w : World} (h1 : ops[k]? = some o1) (h2 : ops[k + 1]? = some o2) (h4 : ops.size = k + 2)
    (hB : Region.seqB md ops 2 k listed = true) (h : wpList P ops Q [o1, o2] a w) : wpAny P md ops Q 2 listed a w :=
  wpAny_of_seq [o1, o2] k listed a w (fun j => by
    match j with
    | 0 => simpa using h1.symm
    | 1 => simpa using h2.symm
    | j + 2 => rw [Array.getElem?_eq_none (by omega)]; simp) hB h
theorem set_ask {l : List Hdr} {h : Hdr} (h0 : askC l h.name ≠ 0) : setC l h = askC l h.name ∧ setL l h = [] := by
  have e : setC l h = askC l h.name := by unfold setC; rw [if_neg h0]
  exact ⟨e, by unfold setL; rw [if_neg (by rw [e]; exact h0)]⟩
theorem set_line {l : List Hdr} {h : Hdr} (h0 : askC l h.name = 0) (h1 : faultH h ≠ 0) : setC l h = faultH h ∧ setL l h = [] := by
  have e : setC l h = faultH h := by unfold setC; rw [if_pos h0, if_neg h1]
  exact ⟨e, by unfold setL; rw [if_neg (by rw [e]; exact h1)]⟩
theorem set_many {l : List Hdr} {h : Hdr} (h0 : askC l h.name = 0) (h1 : faultH h = 0) (h2 : 20 < (setGo h false l).length) : setC l h = 2 ∧ setL l h = [] := by
  have e : setC l h = 2 := by unfold setC; rw [if_pos h0, if_pos h1, if_pos h2]
  exact ⟨e, by unfold setL; rw [if_neg (by rw [e]; decide)]⟩
theorem set_ok {l : List Hdr} {h : Hdr} (h0 : askC l h.name = 0) (h1 : faultH h = 0) (h2 : ¬ 20 < (setGo h false l).length) : setC l h = 0 ∧ setL l h = setGo h false l := by
  have e : setC l h = 0 := by unfold setC; rw [if_pos h0, if_pos h1, if_neg h2]
  exact ⟨e, by unfold setL; rw [if_pos e]⟩
theorem setL_len (l : List Hdr) (h : Hdr) : (setL l h).length ≤ 20 := by
  by_cases h0 : askC l h.name = 0
  · by_cases h1 : faultH h = 0
    · by_cases h2 : 20 < (setGo h false l).length
      · rw [(set_many h0 h1 h2).2]; exact Nat.zero_le _
      · rw [(set_ok h0 h1 h2).2]; omega
    · rw [(set_line h0 h1).2]; exact Nat.zero_le _
  · rw [(set_ask h0).2]; exact Nat.zero_le _
theorem first_le {x : ByteArray} : ∀ {l : List Hdr} {i : Nat}, firstAt x l = some i → i ≤ (dropH x l).length
  | [], i, h => by simp [firstAt] at h
  | r :: l, i, h => by
    by_cases c : lowS r.name = x
    · rw [firstAt, if_pos c] at h; obtain rfl := Option.some.inj h; exact Nat.zero_le _
    · rw [firstAt, if_neg c] at h
      obtain ⟨j, hj, rfl⟩ := Option.map_eq_some_iff.1 h
      have := first_le hj
      simp only [dropH] at this
      simp only [dropH, List.filter_cons, c, not_false_eq_true, decide_true, if_true, List.length_cons]
      omega
theorem ownH_lt {w : World} {base : Nat} {v : Value} {l : List Hdr} (h : OwnH w base v l) : ∀ g, v.ownBlock = some g → g < w.heap.size := fun g hg => (World.ownsRow.lt h g hg).2
end Go.Proofs.YthiiaefdobpjhaaGreatDoor
/-
  A line set among any number of lines.
-/
namespace Go.Proofs.YthiiaefdobpjhaaGreatDoor
open Go.ChangeShapes Go.WideShapes Go.ChangeAt Go.RowKit Go.Sort
theorem with_low {w w1 : World} {n v : ByteArray} {t : TypeId} (hb : Below (w.heap.size + 1) (w.alloc (.cells #[.string n, .string v] t)) w1) : Below w.heap.size w w1 :=
  ((Below.refl _ _).alloc (Nat.le_refl _) _).trans (hb.mono (Nat.le_succ _))
end Go.Proofs.YthiiaefdobpjhaaGreatDoor
/-
  What SetHeader answers, at every argument.
-/
namespace Go.Proofs.YthiiaefdobpjhaaGreatDoor
open Go.ChangeShapes Go.WideShapes Go.ChangeAt Go.RowKit Go.Sort
end Go.Proofs.YthiiaefdobpjhaaGreatDoor
/-
  Requests and responses, plainly: their faults. No Go in sight.
-/
namespace Go.Proofs.YthiiaefdobpjhaaGreatDoor
def allP (p : Int → Bool) (l : List UInt8) : Bool := l.all fun c => p (c.toNat : Int)
theorem allP_snoc (p : Int → Bool) (l : List UInt8) (c : UInt8) : allP p (l ++ [c]) = (allP p l && p (c.toNat : Int)) := by simp [allP]
theorem allP_of_take (p : Int → Bool) (l : List UInt8) (k : Nat) (h : allP p (l.take k) = false) : allP p l = false := by
  have e := List.take_append_drop k l
  rw [← e]
  simp only [allP] at h ⊢
  rw [List.all_append, h, Bool.false_and]
theorem allP_not (p : Int → Bool) (s : ByteArray) (k : Nat) (h : k < s.size) (hd : p (s[k].toNat : Int) = false) : allP p s.data.toList = false := by
  refine allP_of_take p _ (k + 1) ?_
  rw [take_snoc s k h, allP_snoc, hd, Bool.and_false]
theorem allP_mem {p : Int → Bool} {l : List UInt8} (h : allP p l = true) : ∀ c ∈ l, p (c.toNat : Int) = true := by
  simpa [allP] using h
theorem allP_of_mem {p : Int → Bool} {l : List UInt8} (h : ∀ c ∈ l, p (c.toNat : Int) = true) : allP p l = true := by
  simpa [allP] using h
def hostI (c : Int) : Bool := (decide (97 ≤ c) && decide (c ≤ 122)) || (decide (65 ≤ c) && decide (c ≤ 90)) || (decide (48 ≤ c) && decide (c ≤ 57)) || decide (c = 46) || decide (c = 45)
theorem hostI_big (c : Int) (h : 128 ≤ c) : hostI c = false := by
  simp [hostI]; omega
def markI (c : Nat) : Bool := [47, 63, 61, 38, 58, 64, 44, 59, 40, 41].contains c
def pathI (c : Int) : Bool := markI c.toNat || wordI c
theorem pathI_big (c : Int) (h : 128 ≤ c) : pathI c = false := by
  have e : markI c.toNat = false := by
    have : 128 ≤ c.toNat := by omega
    simp [markI]; omega
  rw [pathI, e, wordI_big c h]; rfl
def hostS (s : ByteArray) : Bool := decide (1 ≤ s.size) && decide (s.size ≤ 60) && allP hostI s.data.toList
theorem hostS_short (s : ByteArray) (h : s.size < 1) : hostS s = false := by simp [hostS]; omega
theorem hostS_long (s : ByteArray) (h : 60 < s.size) : hostS s = false := by simp [hostS]; omega
theorem hostS_mid (s : ByteArray) (h1 : 1 ≤ s.size) (h2 : s.size ≤ 60) : hostS s = allP hostI s.data.toList := by simp [hostS, h1, h2]
def pathS (s : ByteArray) : Bool := decide (s.data.toList.head? = some 47) && decide (s.size ≤ 100) && allP pathI s.data.toList
theorem pathS_first (s : ByteArray) (h : ¬ s.data.toList.head? = some 47) : pathS s = false := by simp [pathS, h]
theorem pathS_long (s : ByteArray) (h : 100 < s.size) : pathS s = false := by
  have : ¬ s.size ≤ 100 := by omega
  simp [pathS, this]
theorem pathS_mid (s : ByteArray) (h1 : s.data.toList.head? = some 47) (h2 : s.size ≤ 100) : pathS s = allP pathI s.data.toList := by simp [pathS, h1, h2]
theorem head_get (s : ByteArray) (h : 0 < s.size) : s.data.toList.head? = some s[0] := by
  rw [List.head?_eq_getElem?, List.getElem?_eq_getElem (by simpa using h)]; rfl
theorem head_none (s : ByteArray) (h : s.size < 1) : s.data.toList.head? = none := by
  have : s.data.toList = [] := List.eq_nil_of_length_eq_zero (by rw [Array.length_toList]; exact Nat.lt_one_iff.1 h)
  rw [this]; rfl
def getT : ByteArray := ⟨#[71, 69, 84]⟩
def headT : ByteArray := ⟨#[72, 69, 65, 68]⟩
def hostN : ByteArray := ⟨#[104, 111, 115, 116]⟩
def methS (m : ByteArray) : Bool := decide (m = getT) || decide (m = headT)
def lineS (m h p : ByteArray) : Bool := methS m && hostS h && pathS p
def restC (l : List Hdr) : Int := if headsC l = 0 then (if valsOf hostN l = [] then (if 20 ≤ l.length then 2 else 0) else 6) else headsC l
def reqC (m h p : ByteArray) (l : List Hdr) : Int := if lineS m h p = true then restC l else 5
theorem reqC_bad {m h p : ByteArray} {l : List Hdr} (c : lineS m h p = false) : reqC m h p l = 5 := by rw [reqC, if_neg (by rw [c]; decide)]
theorem reqC_ok {m h p : ByteArray} {l : List Hdr} (c : lineS m h p = true) : reqC m h p l = restC l := by rw [reqC, if_pos c]
theorem restC_heads {l : List Hdr} (h : headsC l ≠ 0) : restC l = headsC l := by rw [restC, if_neg h]
theorem restC_host {l : List Hdr} (h : headsC l = 0) (hv : valsOf hostN l ≠ []) : restC l = 6 := by rw [restC, if_pos h, if_neg hv]
theorem restC_many {l : List Hdr} (h : headsC l = 0) (hv : valsOf hostN l = []) (hn : 20 ≤ l.length) : restC l = 2 := by rw [restC, if_pos h, if_pos hv, if_pos hn]
theorem restC_ok {l : List Hdr} (h : headsC l = 0) (hv : valsOf hostN l = []) (hn : ¬ 20 ≤ l.length) : restC l = 0 := by rw [restC, if_pos h, if_pos hv, if_neg hn]
theorem headsC_codes (l : List Hdr) : headsC l = 0 ∨ headsC l = 2 ∨ headsC l = 5 := by
  have h1 : ∀ r, faultH r = 0 ∨ faultH r = 2 ∨ faultH r = 5 := fun r => by
    unfold faultH
    repeat' split
    all_goals simp
  have h2 : ∀ l, faultHL l = 0 ∨ faultHL l = 2 ∨ faultHL l = 5 := fun l => by
    induction l with
    | nil => exact .inl rfl
    | cons r l ih =>
      by_cases c : faultH r = 0
      · rw [faultHL_ok c]; exact ih
      · rw [faultHL_bad c]; exact h1 r
  by_cases c : 20 < l.length
  · rw [headsC_many c]; simp
  · rw [headsC_few c]; exact h2 l
theorem restC_codes (l : List Hdr) : restC l = 0 ∨ restC l = 2 ∨ restC l = 5 ∨ restC l = 6 := by
  have := headsC_codes l
  unfold restC
  repeat' split
  all_goals omega
theorem reqC_codes (m h p : ByteArray) (l : List Hdr) : reqC m h p l = 0 ∨ reqC m h p l = 2 ∨ reqC m h p l = 5 ∨ reqC m h p l = 6 := by
  have := restC_codes l
  unfold reqC
  split <;> omega
/-- A request that has no fault. -/
theorem reqC_zero {m h p : ByteArray} {l : List Hdr} (c : reqC m h p l = 0) : lineS m h p = true ∧ headsC l = 0 ∧ valsOf hostN l = [] ∧ l.length < 20 := by
  cases hl : lineS m h p
  · rw [reqC_bad hl] at c; omega
  rw [reqC_ok hl] at c
  by_cases c1 : headsC l = 0
  · by_cases c2 : valsOf hostN l = []
    · by_cases c3 : 20 ≤ l.length
      · rw [restC_many c1 c2 c3] at c; omega
      · exact ⟨rfl, c1, c2, by omega⟩
    · rw [restC_host c1 c2] at c; omega
  · rw [restC_heads c1] at c; exact absurd c c1
theorem lineS_true {m h p : ByteArray} (c : lineS m h p = true) : methS m = true ∧ hostS h = true ∧ pathS p = true := by
  simp only [lineS, Bool.and_eq_true] at c; exact ⟨c.1.1, c.1.2, c.2⟩
def respC (s : Int) (l : List Hdr) (n : Nat) : Int := if s < 200 ∨ 599 < s then 3 else if headsC l = 0 then (if 2000 < n then 2 else 0) else headsC l
theorem respC_range {s : Int} {l : List Hdr} {n : Nat} (h : s < 200 ∨ 599 < s) : respC s l n = 3 := by rw [respC, if_pos h]
theorem respC_heads {s : Int} {l : List Hdr} {n : Nat} (h : ¬ (s < 200 ∨ 599 < s)) (h1 : headsC l ≠ 0) : respC s l n = headsC l := by rw [respC, if_neg h, if_neg h1]
theorem respC_many {s : Int} {l : List Hdr} {n : Nat} (h : ¬ (s < 200 ∨ 599 < s)) (h1 : headsC l = 0) (h2 : 2000 < n) : respC s l n = 2 := by rw [respC, if_neg h, if_pos h1, if_pos h2]
theorem respC_ok {s : Int} {l : List Hdr} {n : Nat} (h : ¬ (s < 200 ∨ 599 < s)) (h1 : headsC l = 0) (h2 : ¬ 2000 < n) : respC s l n = 0 := by rw [respC, if_neg h, if_pos h1, if_neg h2]
theorem respC_codes (s : Int) (l : List Hdr) (n : Nat) : respC s l n = 0 ∨ respC s l n = 2 ∨ respC s l n = 3 ∨ respC s l n = 5 := by
  have := headsC_codes l
  unfold respC
  repeat' split
  all_goals omega
theorem respC_zero {s : Int} {l : List Hdr} {n : Nat} (c : respC s l n = 0) : 200 ≤ s ∧ s ≤ 599 ∧ headsC l = 0 ∧ n ≤ 2000 := by
  by_cases c1 : s < 200 ∨ 599 < s
  · rw [respC_range c1] at c; omega
  by_cases c2 : headsC l = 0
  · by_cases c3 : 2000 < n
    · rw [respC_many c1 c2 c3] at c; omega
    · exact ⟨by omega, by omega, c2, by omega⟩
  · rw [respC_heads c1 c2] at c; exact absurd c c2
end Go.Proofs.YthiiaefdobpjhaaGreatDoor
/-
  What JoinHeader and its model answer.
-/
namespace Go.Proofs.YthiiaefdobpjhaaGreatDoor
open Go.ChangeShapes Go.WideShapes Go.ChangeAt Go.RowKit Go.Sort
def anyV (vs : List ByteArray) : Bool := !vs.isEmpty
theorem anyV_snoc (vs : List ByteArray) (v : ByteArray) : anyV (vs ++ [v]) = true := by simp [anyV]
theorem hret_sb {a b : ByteArray} {c d : Bool} (h1 : a = b) (h2 : c = d) : Ending.returned (.tuple #[.string a, .bool c]) = .returned (.tuple #[.string b, .bool d]) := by rw [h1, h2]
set_option maxRecDepth 100000 in
set_option maxHeartbeats 8000000 in
theorem l4Join_any (w : World) (a : Option Addr) (cap : Nat) (l : List Hdr) (name : ByteArray) (h20 : l.length ≤ 20) (hz : ∀ (i : Nat) r, l[i]? = some r → r.name.size ≤ 64 ∧ r.value.size ≤ 200) (hnm : name.size ≤ 64) (hi : HdsIn w a l) :
    Calls Tryz.prog 30 #[.slice a l.length cap, .string name] w fun e w' => e = .returned (.tuple #[.string ⟨(hjoinL (valsOf (lowS name) l)).toArray⟩, .bool (anyV (valsOf (lowS name) l))]) ∧ Below w.heap.size w w' := by
  have HI : Hid (HdsIn w a l) := hi
  have HZ : Hid (∀ (i : Nat) r, l[i]? = some r → r.name.size ≤ 64 ∧ r.value.size ≤ 200) := hz
  clear hi hz
  generalize hn : l.length = n at *
  have HN : Hid (l.length = n) := hn
  clear hn
  go_enter Tryz.func30, Tryz.ntmps30
  go_wp2_with fail
  go_loopw [6, 7, 8] (fun v f i wr => ∃ (k : Nat) (o : ByteArray) (bf : Bool), k ≤ n ∧ i = .int .i64 k ∧ v = .string o ∧ f = .bool bf ∧ o.data.toList = hjoinL (valsOf (lowS name) (l.take k)) ∧ bf = anyV (valsOf (lowS name) (l.take k)) ∧ o.size ≤ k * 202 ∧ Below w.heap.size w wr) (fun _ _ i _ => n - (intOf i).toNat)
  case atStart => exact ⟨0, ⟨#[]⟩, false, Nat.zero_le _, rfl, rfl, rfl, rfl, rfl, Nat.zero_le _, Below.refl _ _⟩
  case round =>
    obtain ⟨k, o, bf, hk, rfl, rfl, rfl, ho, hbf, hos, hb⟩ := hrel
    have HO : Hid (o.data.toList = hjoinL (valsOf (lowS name) (l.take k))) := ho
    have HBF : Hid (bf = anyV (valsOf (lowS name) (l.take k))) := hbf
    clear ho hbf
    by_cases hlt : k < n
    · obtain ⟨r, hr⟩ : ∃ r, l[k]? = some r := ⟨l[k]'(by have := HN.out; omega), List.getElem?_eq_getElem _⟩
      obtain ⟨b, off, rfl, hat⟩ := HI.out.ok hr
      obtain ⟨p1, p3⟩ := (hat.keep hb) k r hr
      obtain ⟨z1, z2⟩ := HZ.out k r hr
      have HK : Hid (l.take (k + 1) = l.take k ++ [r]) := take_hdr hr
      have gk : (k : Int) < n := by omega
      clear hr hat HI HZ
      have KY := @valsOf_yes (lowS name) r (l.take k)
      have KN := @valsOf_no (lowS name) r (l.take k)
      obtain ⟨rn, rv⟩ := r
      simp only at p1 p3 z1 z2 KY KN
      have SA := fun w => l4Alike_any rn name w (by omega) (by omega)
      by_cases he : lowS rn = lowS name
      · have HX : Hid (valsOf (lowS name) (l.take (k + 1)) = valsOf (lowS name) (l.take k) ++ [rv]) := by show _ = _; rw [HK.out]; exact KY he
        have HSA : Hid (∀ w, Calls Tryz.prog 44 #[.string rn, .string name] w fun e w' => e = .returned (.bool true) ∧ Below w.heap.size w w') := by
          rw [show decide (lowS rn = lowS name) = true from by simpa using he] at SA
          exact SA
        have HY : Hid (anyV (valsOf (lowS name) (l.take (k + 1))) = true) := by show _ = _; rw [HX.out]; exact anyV_snoc _ _
        clear SA KY KN HK he
        cases bf
        · have HV : Hid (valsOf (lowS name) (l.take k) = []) := by
            show _ = _
            have := HBF.out
            simpa [anyV] using this.symm
          have HT : Hid ((o ++ rv : ByteArray).data.toList = hjoinL (valsOf (lowS name) (l.take (k + 1)))) := by
            show _ = _
            rw [HX.out, hjoinL_snoc, happ_list, HO.out, if_pos HV.out, List.append_nil]
          have HU : Hid ((o ++ rv : ByteArray).size ≤ (k + 1) * 202) := by
            show _ ≤ _
            rw [ByteArray.size_append]; omega
          have hoz : o.size ≤ 5000 := by omega
          clear HX HV HO HBF
          go_wp2_with fail
          refine (HSA.out _).mono ?_
          rintro e w2 ⟨rfl, hb2⟩
          have HB2 : Hid (Below w.heap.size w w2) := hb.trans (hb2.mono hb.size)
          have p1 := hkeep hb2 p1
          have p3 := hkeep hb2 p3
          clear hb2 hb
          go_wp2_with fail
          go_roundw
          case rel => exact ⟨k + 1, o ++ rv, true, by omega, by go_num, rfl, rfl, HT.out, HY.out.symm, HU.out, HB2.out⟩
          case measure => simp [intOf]; omega
        · have HV : Hid (¬ valsOf (lowS name) (l.take k) = []) := by
            have := HBF.out
            intro e
            rw [e] at this
            cases this
          have HT : Hid ((o ++ ⟨#[44, 32]⟩ ++ rv : ByteArray).data.toList = hjoinL (valsOf (lowS name) (l.take (k + 1)))) := by
            show _ = _
            rw [HX.out, hjoinL_snoc, happ_list, happ_list, HO.out, if_neg HV.out]
          have HU : Hid ((o ++ ⟨#[44, 32]⟩ ++ rv : ByteArray).size ≤ (k + 1) * 202) := by
            show _ ≤ _
            rw [ByteArray.size_append, ByteArray.size_append, show (⟨#[44, 32]⟩ : ByteArray).size = 2 from rfl]; omega
          have hoz : o.size ≤ 5000 := by omega
          clear HX HV HO HBF
          go_wp2_with fail
          refine (HSA.out _).mono ?_
          rintro e w2 ⟨rfl, hb2⟩
          have HB2 : Hid (Below w.heap.size w w2) := hb.trans (hb2.mono hb.size)
          have p1 := hkeep hb2 p1
          have p3 := hkeep hb2 p3
          clear hb2 hb
          go_wp2_with fail
          go_roundw
          case rel => exact ⟨k + 1, o ++ ⟨#[44, 32]⟩ ++ rv, true, by omega, by go_num, rfl, rfl, HT.out, HY.out.symm, HU.out, HB2.out⟩
          case measure => simp [intOf]; omega
      · have HX : Hid (valsOf (lowS name) (l.take (k + 1)) = valsOf (lowS name) (l.take k)) := by show _ = _; rw [HK.out]; exact KN he
        have HSA : Hid (∀ w, Calls Tryz.prog 44 #[.string rn, .string name] w fun e w' => e = .returned (.bool false) ∧ Below w.heap.size w w') := by
          rw [show decide (lowS rn = lowS name) = false from by simpa using he] at SA
          exact SA
        clear SA KY KN HK he
        go_wp2_with fail
        refine (HSA.out _).mono ?_
        rintro e w2 ⟨rfl, hb2⟩
        have HB2 : Hid (Below w.heap.size w w2) := hb.trans (hb2.mono hb.size)
        clear hb2 hb p1 p3
        go_wp2_with fail
        go_roundw
        case rel => exact ⟨k + 1, o, bf, by omega, by go_num, rfl, rfl, by rw [HX.out]; exact HO.out, by rw [HX.out]; exact HBF.out, by omega, HB2.out⟩
        case measure => simp [intOf]; omega
    · have ek : l.take k = l := List.take_of_length_le (by have := HN.out; omega)
      have HT : Hid ((⟨(hjoinL (valsOf (lowS name) l)).toArray⟩ : ByteArray) = o) := by
        show _ = _
        have := HO.out
        rw [ek] at this
        exact (hof_list this).symm
      have HF : Hid (anyV (valsOf (lowS name) l) = bf) := by
        have := HBF.out
        rw [ek] at this
        exact this.symm
      clear HO HBF ek
      go_wp2_with fail
      go_ret2
      exact ⟨hret_sb HT.out.symm HF.out.symm, hb⟩
end Go.Proofs.YthiiaefdobpjhaaGreatDoor
