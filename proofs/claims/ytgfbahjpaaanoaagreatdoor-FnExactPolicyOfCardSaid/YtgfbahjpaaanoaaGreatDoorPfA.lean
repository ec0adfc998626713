/-
  Texts of one claim, one behind the other.
-/
import Derived.Below
import Derived.BigQuiet
import Derived.Deep.RegionWith
import Derived.Deep.Slices
import Derived.Deep.Strs
import Derived.JoinedCond
import Derived.Laws.IdiomStrings
import Derived.Lib.Join
import Derived.Lib.LaidTab
import Derived.Lib.QuietBelow
import Derived.Lib.SlTrimSet
import Derived.MakeChecks
import Derived.Maps.OwnSet
import Derived.OpenShut
import Derived.ProofKit
import Derived.Shelf.LaysM
import Derived.Shelf.Strconv.Clone
import Derived.Shelf.Strconv.Itoa4
import Derived.Shelf.Strings.Cut
import Derived.Shelf.Strings.OnBuilder
import Derived.Shelf.Strings.Prefix
import Derived.Shelf.Strings.Search2
import Derived.Shelf.Strings.SlTrimAscii
import Derived.Test.YtgfbahjpaaanoaaGreatDoorProg
import Derived.Test.YtgfbahjpaaanoaaGreatDoorRows
import Derived.WalkKit
import Derived.WalkLawsBesides
import Derived.WalkSpells
/-
  Facts of the program as a whole that every card of this seat leans on: each reckoned by the kernel, each by itself.
-/
namespace Go.Proofs.YtgfbahjpaaanoaaGreatDoor
theorem pf_laid : laidOutB Tryz.prog = true := by kernel_rfl
theorem pf_maps : mapsRowed Tryz.prog = true := by kernel_rfl
theorem pf_stops : (Tryz.prog.stops == []) = true := by kernel_rfl
theorem pf_knobs : (Tryz.prog.stopKnobs == []) = true := by kernel_rfl
theorem pf_heard : Tryz.prog.stopsHeard = true := by kernel_rfl
theorem pf_enter : Tryz.prog.mayEnter = true := by kernel_rfl
theorem pf_prog : Tryz.pinned.checked.prog = Tryz.prog := by kernel_rfl
end Go.Proofs.YtgfbahjpaaanoaaGreatDoor
/-
  Small lemmas that the walks share.
-/
namespace Go.Proofs.YtgfbahjpaaanoaaGreatDoor
open Go.ChangeShapes Go.WideShapes Go.ChangeAt Go.RowKit
theorem bcell {W w1 : World} (hb : Below W.heap.size W w1) : (∀ b o, b < W.heap.size → w1.cell? ⟨b, o, none⟩ = W.cell? ⟨b, o, none⟩) ∧ (∀ b o, b < W.heap.size → w1.frozen? ⟨b, o, none⟩ = W.frozen? ⟨b, o, none⟩) :=
  ⟨fun b o h => hb.cell (p := ⟨b, o, none⟩) h, fun b o h => hb.frozen (p := ⟨b, o, none⟩) h⟩
theorem two_set {w : World} {B : Nat} {u0 u1 v0 v1 : Value} (p0 : w.cell? ⟨B, 0, none⟩ = some u0) (p1 : w.cell? ⟨B, 1, none⟩ = some u1) :
    ((w.setCell ⟨B, 0, none⟩ v0).setCell ⟨B, 1, none⟩ v1).cell? ⟨B, 0, none⟩ = some v0 ∧ ((w.setCell ⟨B, 0, none⟩ v0).setCell ⟨B, 1, none⟩ v1).cell? ⟨B, 1, none⟩ = some v1 := by
  constructor
  · rw [World.cell?_setCell_other _ _ _ _ (by intro h; have := congrArg Addr.off h; simp at this), World.cell?_setCell_same _ _ _ p0]
  · refine World.cell?_setCell_same _ _ _ (u := u1) ?_
    rw [World.cell?_setCell_other _ _ _ _ (by intro h; have := congrArg Addr.off h; simp at this), p1]
theorem ret_int {k : IntKind} {a b : Int} (h : a = b) : Ending.returned (.int k a) = .returned (.int k b) := by rw [h]
theorem ret_bool {a b : Bool} (h : a = b) : Ending.returned (.bool a) = .returned (.bool b) := by rw [h]
theorem ret_str {a b : ByteArray} (h : a = b) : Ending.returned (.string a) = .returned (.string b) := by rw [h]
theorem take_snoc (s : ByteArray) (k : Nat) (h : k < s.size) : s.data.toList.take (k + 1) = s.data.toList.take k ++ [s[k]] := by
  rw [List.take_succ_eq_append_getElem (by simpa using h)]; rfl
end Go.Proofs.YtgfbahjpaaanoaaGreatDoor
/-
  Eight cells that may be written.
-/
namespace Go.Proofs.YtgfbahjpaaanoaaGreatDoor
open Go.ChangeShapes Go.WideShapes Go.ChangeAt Go.RowKit
/-- Eight cells that may be written. -/
structure Z8 (w : World) (b : Nat) (v0 v1 v2 v3 v4 v5 v6 v7 : Value) : Prop where
  c0 : w.cell? ⟨b, 0, none⟩ = some v0
  c1 : w.cell? ⟨b, 1, none⟩ = some v1
  c2 : w.cell? ⟨b, 2, none⟩ = some v2
  c3 : w.cell? ⟨b, 3, none⟩ = some v3
  c4 : w.cell? ⟨b, 4, none⟩ = some v4
  c5 : w.cell? ⟨b, 5, none⟩ = some v5
  c6 : w.cell? ⟨b, 6, none⟩ = some v6
  c7 : w.cell? ⟨b, 7, none⟩ = some v7
  fr : ∀ o, w.frozen? ⟨b, o, none⟩ = false
  lt : b < w.heap.size
section
variable {w w' : World} {b : Nat} {v0 v1 v2 v3 v4 v5 v6 v7 : Value}
theorem Z8.keep (k : Z8 w b v0 v1 v2 v3 v4 v5 v6 v7) (hb : Below w.heap.size w w') : Z8 w' b v0 v1 v2 v3 v4 v5 v6 v7 :=
  ⟨by rw [hb.cell (p := ⟨b, 0, none⟩) k.lt]; exact k.c0, by rw [hb.cell (p := ⟨b, 1, none⟩) k.lt]; exact k.c1, by rw [hb.cell (p := ⟨b, 2, none⟩) k.lt]; exact k.c2, by rw [hb.cell (p := ⟨b, 3, none⟩) k.lt]; exact k.c3, by rw [hb.cell (p := ⟨b, 4, none⟩) k.lt]; exact k.c4, by rw [hb.cell (p := ⟨b, 5, none⟩) k.lt]; exact k.c5, by rw [hb.cell (p := ⟨b, 6, none⟩) k.lt]; exact k.c6, by rw [hb.cell (p := ⟨b, 7, none⟩) k.lt]; exact k.c7, fun o => by rw [hb.frozen (p := ⟨b, o, none⟩) k.lt]; exact k.fr o, Nat.lt_of_lt_of_le k.lt hb.size⟩
theorem Z8.new (w : World) (v0 v1 v2 v3 v4 v5 v6 v7 : Value) (t : TypeId) : Z8 (w.alloc (.cells #[v0, v1, v2, v3, v4, v5, v6, v7] t)) w.heap.size v0 v1 v2 v3 v4 v5 v6 v7 := ⟨by simp, by simp, by simp, by simp, by simp, by simp, by simp, by simp, fun o => by simp, by simp⟩
theorem Z8.off (k : Z8 w b v0 v1 v2 v3 v4 v5 v6 v7) {B i : Nat} {x : Value} (h : B ≠ b) : Z8 (w.setCell ⟨B, i, none⟩ x) b v0 v1 v2 v3 v4 v5 v6 v7 := by
  have ne : ∀ o : Nat, (⟨B, i, none⟩ : Addr) ≠ ⟨b, o, none⟩ := fun o q => h (congrArg Addr.block q)
  exact ⟨by rw [World.cell?_setCell_other _ _ _ _ (ne _)]; exact k.c0, by rw [World.cell?_setCell_other _ _ _ _ (ne _)]; exact k.c1, by rw [World.cell?_setCell_other _ _ _ _ (ne _)]; exact k.c2, by rw [World.cell?_setCell_other _ _ _ _ (ne _)]; exact k.c3, by rw [World.cell?_setCell_other _ _ _ _ (ne _)]; exact k.c4, by rw [World.cell?_setCell_other _ _ _ _ (ne _)]; exact k.c5, by rw [World.cell?_setCell_other _ _ _ _ (ne _)]; exact k.c6, by rw [World.cell?_setCell_other _ _ _ _ (ne _)]; exact k.c7, fun o => by rw [World.frozen?_setCell]; exact k.fr o, by simpa using k.lt⟩
theorem Z8.set0 (k : Z8 w b v0 v1 v2 v3 v4 v5 v6 v7) (x : Value) : Z8 (w.setCell ⟨b, 0, none⟩ x) b x v1 v2 v3 v4 v5 v6 v7 :=
  ⟨World.cell?_setCell_same _ _ _ k.c0, by rw [World.cell?_setCell_other _ _ _ _ (by intro q; have := congrArg Addr.off q; simp at this)]; exact k.c1, by rw [World.cell?_setCell_other _ _ _ _ (by intro q; have := congrArg Addr.off q; simp at this)]; exact k.c2, by rw [World.cell?_setCell_other _ _ _ _ (by intro q; have := congrArg Addr.off q; simp at this)]; exact k.c3, by rw [World.cell?_setCell_other _ _ _ _ (by intro q; have := congrArg Addr.off q; simp at this)]; exact k.c4, by rw [World.cell?_setCell_other _ _ _ _ (by intro q; have := congrArg Addr.off q; simp at this)]; exact k.c5, by rw [World.cell?_setCell_other _ _ _ _ (by intro q; have := congrArg Addr.off q; simp at this)]; exact k.c6, by rw [World.cell?_setCell_other _ _ _ _ (by intro q; have := congrArg Addr.off q; simp at this)]; exact k.c7, fun o => by rw [World.frozen?_setCell]; exact k.fr o, by simpa using k.lt⟩
theorem Z8.set1 (k : Z8 w b v0 v1 v2 v3 v4 v5 v6 v7) (x : Value) : Z8 (w.setCell ⟨b, 1, none⟩ x) b v0 x v2 v3 v4 v5 v6 v7 :=
  ⟨by rw [World.cell?_setCell_other _ _ _ _ (by intro q; have := congrArg Addr.off q; simp at this)]; exact k.c0, World.cell?_setCell_same _ _ _ k.c1, by rw [World.cell?_setCell_other _ _ _ _ (by intro q; have := congrArg Addr.off q; simp at this)]; exact k.c2, by rw [World.cell?_setCell_other _ _ _ _ (by intro q; have := congrArg Addr.off q; simp at this)]; exact k.c3, by rw [World.cell?_setCell_other _ _ _ _ (by intro q; have := congrArg Addr.off q; simp at this)]; exact k.c4, by rw [World.cell?_setCell_other _ _ _ _ (by intro q; have := congrArg Addr.off q; simp at this)]; exact k.c5, by rw [World.cell?_setCell_other _ _ _ _ (by intro q; have := congrArg Addr.off q; simp at this)]; exact k.c6, by rw [World.cell?_setCell_other _ _ _ _ (by intro q; have := congrArg Addr.off q; simp at this)]; exact k.c7, fun o => by rw [World.frozen?_setCell]; exact k.fr o, by simpa using k.lt⟩
theorem Z8.set2 (k : Z8 w b v0 v1 v2 v3 v4 v5 v6 v7) (x : Value) : Z8 (w.setCell ⟨b, 2, none⟩ x) b v0 v1 x v3 v4 v5 v6 v7 :=
  ⟨by rw [World.cell?_setCell_other _ _ _ _ (by intro q; have := congrArg Addr.off q; simp at this)]; exact k.c0, by rw [World.cell?_setCell_other _ _ _ _ (by intro q; have := congrArg Addr.off q; simp at this)]; exact k.c1, World.cell?_setCell_same _ _ _ k.c2, by rw [World.cell?_setCell_other _ _ _ _ (by intro q; have := congrArg Addr.off q; simp at this)]; exact k.c3, by rw [World.cell?_setCell_other _ _ _ _ (by intro q; have := congrArg Addr.off q; simp at this)]; exact k.c4, by rw [World.cell?_setCell_other _ _ _ _ (by intro q; have := congrArg Addr.off q; simp at this)]; exact k.c5, by rw [World.cell?_setCell_other _ _ _ _ (by intro q; have := congrArg Addr.off q; simp at this)]; exact k.c6, by rw [World.cell?_setCell_other _ _ _ _ (by intro q; have := congrArg Addr.off q; simp at this)]; exact k.c7, fun o => by rw [World.frozen?_setCell]; exact k.fr o, by simpa using k.lt⟩
theorem Z8.set3 (k : Z8 w b v0 v1 v2 v3 v4 v5 v6 v7) (x : Value) : Z8 (w.setCell ⟨b, 3, none⟩ x) b v0 v1 v2 x v4 v5 v6 v7 :=
  ⟨by rw [World.cell?_setCell_other _ _ _ _ (by intro q; have := congrArg Addr.off q; simp at this)]; exact k.c0, by rw [World.cell?_setCell_other _ _ _ _ (by intro q; have := congrArg Addr.off q; simp at this)]; exact k.c1, by rw [World.cell?_setCell_other _ _ _ _ (by intro q; have := congrArg Addr.off q; simp at this)]; exact k.c2, World.cell?_setCell_same _ _ _ k.c3, by rw [World.cell?_setCell_other _ _ _ _ (by intro q; have := congrArg Addr.off q; simp at this)]; exact k.c4, by rw [World.cell?_setCell_other _ _ _ _ (by intro q; have := congrArg Addr.off q; simp at this)]; exact k.c5, by rw [World.cell?_setCell_other _ _ _ _ (by intro q; have := congrArg Addr.off q; simp at this)]; exact k.c6, by rw [World.cell?_setCell_other _ _ _ _ (by intro q; have := congrArg Addr.off q; simp at this)]; exact k.c7, fun o => by rw [World.frozen?_setCell]; exact k.fr o, by simpa using k.lt⟩
theorem Z8.set4 (k : Z8 w b v0 v1 v2 v3 v4 v5 v6 v7) (x : Value) : Z8 (w.setCell ⟨b, 4, none⟩ x) b v0 v1 v2 v3 x v5 v6 v7 :=
  ⟨by rw [World.cell?_setCell_other _ _ _ _ (by intro q; have := congrArg Addr.off q; simp at this)]; exact k.c0, by rw [World.cell?_setCell_other _ _ _ _ (by intro q; have := congrArg Addr.off q; simp at this)]; exact k.c1, by rw [World.cell?_setCell_other _ _ _ _ (by intro q; have := congrArg Addr.off q; simp at this)]; exact k.c2, by rw [World.cell?_setCell_other _ _ _ _ (by intro q; have := congrArg Addr.off q; simp at this)]; exact k.c3, World.cell?_setCell_same _ _ _ k.c4, by rw [World.cell?_setCell_other _ _ _ _ (by intro q; have := congrArg Addr.off q; simp at this)]; exact k.c5, by rw [World.cell?_setCell_other _ _ _ _ (by intro q; have := congrArg Addr.off q; simp at this)]; exact k.c6, by rw [World.cell?_setCell_other _ _ _ _ (by intro q; have := congrArg Addr.off q; simp at this)]; exact k.c7, fun o => by rw [World.frozen?_setCell]; exact k.fr o, by simpa using k.lt⟩
theorem Z8.set5 (k : Z8 w b v0 v1 v2 v3 v4 v5 v6 v7) (x : Value) : Z8 (w.setCell ⟨b, 5, none⟩ x) b v0 v1 v2 v3 v4 x v6 v7 :=
  ⟨by rw [World.cell?_setCell_other _ _ _ _ (by intro q; have := congrArg Addr.off q; simp at this)]; exact k.c0, by rw [World.cell?_setCell_other _ _ _ _ (by intro q; have := congrArg Addr.off q; simp at this)]; exact k.c1, by rw [World.cell?_setCell_other _ _ _ _ (by intro q; have := congrArg Addr.off q; simp at this)]; exact k.c2, by rw [World.cell?_setCell_other _ _ _ _ (by intro q; have := congrArg Addr.off q; simp at this)]; exact k.c3, by rw [World.cell?_setCell_other _ _ _ _ (by intro q; have := congrArg Addr.off q; simp at this)]; exact k.c4, World.cell?_setCell_same _ _ _ k.c5, by rw [World.cell?_setCell_other _ _ _ _ (by intro q; have := congrArg Addr.off q; simp at this)]; exact k.c6, by rw [World.cell?_setCell_other _ _ _ _ (by intro q; have := congrArg Addr.off q; simp at this)]; exact k.c7, fun o => by rw [World.frozen?_setCell]; exact k.fr o, by simpa using k.lt⟩
theorem Z8.set6 (k : Z8 w b v0 v1 v2 v3 v4 v5 v6 v7) (x : Value) : Z8 (w.setCell ⟨b, 6, none⟩ x) b v0 v1 v2 v3 v4 v5 x v7 :=
  ⟨by rw [World.cell?_setCell_other _ _ _ _ (by intro q; have := congrArg Addr.off q; simp at this)]; exact k.c0, by rw [World.cell?_setCell_other _ _ _ _ (by intro q; have := congrArg Addr.off q; simp at this)]; exact k.c1, by rw [World.cell?_setCell_other _ _ _ _ (by intro q; have := congrArg Addr.off q; simp at this)]; exact k.c2, by rw [World.cell?_setCell_other _ _ _ _ (by intro q; have := congrArg Addr.off q; simp at this)]; exact k.c3, by rw [World.cell?_setCell_other _ _ _ _ (by intro q; have := congrArg Addr.off q; simp at this)]; exact k.c4, by rw [World.cell?_setCell_other _ _ _ _ (by intro q; have := congrArg Addr.off q; simp at this)]; exact k.c5, World.cell?_setCell_same _ _ _ k.c6, by rw [World.cell?_setCell_other _ _ _ _ (by intro q; have := congrArg Addr.off q; simp at this)]; exact k.c7, fun o => by rw [World.frozen?_setCell]; exact k.fr o, by simpa using k.lt⟩
theorem Z8.set7 (k : Z8 w b v0 v1 v2 v3 v4 v5 v6 v7) (x : Value) : Z8 (w.setCell ⟨b, 7, none⟩ x) b v0 v1 v2 v3 v4 v5 v6 x :=
  ⟨by rw [World.cell?_setCell_other _ _ _ _ (by intro q; have := congrArg Addr.off q; simp at this)]; exact k.c0, by rw [World.cell?_setCell_other _ _ _ _ (by intro q; have := congrArg Addr.off q; simp at this)]; exact k.c1, by rw [World.cell?_setCell_other _ _ _ _ (by intro q; have := congrArg Addr.off q; simp at this)]; exact k.c2, by rw [World.cell?_setCell_other _ _ _ _ (by intro q; have := congrArg Addr.off q; simp at this)]; exact k.c3, by rw [World.cell?_setCell_other _ _ _ _ (by intro q; have := congrArg Addr.off q; simp at this)]; exact k.c4, by rw [World.cell?_setCell_other _ _ _ _ (by intro q; have := congrArg Addr.off q; simp at this)]; exact k.c5, by rw [World.cell?_setCell_other _ _ _ _ (by intro q; have := congrArg Addr.off q; simp at this)]; exact k.c6, World.cell?_setCell_same _ _ _ k.c7, fun o => by rw [World.frozen?_setCell]; exact k.fr o, by simpa using k.lt⟩
end
theorem Z8.all {X : World} {b : Nat} {u0 u1 u2 u3 u4 u5 u6 u7 : Value} (k : Z8 X b u0 u1 u2 u3 u4 u5 u6 u7) (x0 x1 x2 x3 x4 x5 x6 x7 : Value) : Z8 ((((((((X.setCell ⟨b, 0, none⟩ x0).setCell ⟨b, 1, none⟩ x1).setCell ⟨b, 2, none⟩ x2).setCell ⟨b, 3, none⟩ x3).setCell ⟨b, 4, none⟩ x4).setCell ⟨b, 5, none⟩ x5).setCell ⟨b, 6, none⟩ x6).setCell ⟨b, 7, none⟩ x7) b x0 x1 x2 x3 x4 x5 x6 x7 :=
  (((((((k.set0 _).set1 _).set2 _).set3 _).set4 _).set5 _).set6 _).set7 _
end Go.Proofs.YtgfbahjpaaanoaaGreatDoor
/-
  Head lines in memory; the laws' own helpers over them.
-/
namespace Go.Proofs.YtgfbahjpaaanoaaGreatDoor
open Go.ChangeShapes Go.WideShapes Go.ChangeAt Go.RowKit
/-- A head line: its name and its value. -/
structure Hdr where
  name : ByteArray
  value : ByteArray
/-- The lines l lie in block b from off on, two cells each. -/
def HeadsAt (w : World) (b off : Nat) (l : List Hdr) : Prop :=
  ∀ (i : Nat) r, l[i]? = some r → w.cell? ⟨b, off + i * 2, none⟩ = some (.string r.name) ∧ w.cell? ⟨b, off + i * 2 + 1, none⟩ = some (.string r.value)
def hdrV (r : Hdr) : Value := .agg #[.string r.name, .string r.value]
def szH (left : Int) (r : Hdr) : Int := if left - (r.name.size : Int) < 0 then -1 else if left - (r.name.size : Int) - (r.value.size : Int) < 0 then -1 else left - (r.name.size : Int) - (r.value.size : Int)
set_option maxHeartbeats 400000 in
theorem szHeader_any (r : Hdr) (left : Int) (w : World) (h0 : 0 ≤ left) (h1 : left ≤ 1048576) (z1 : r.name.size ≤ maxLen) (z2 : r.value.size ≤ maxLen) :
    Calls Tryz.prog 39 #[.agg #[.string r.name, .string r.value], .int .i64 left] w fun e w' => e = .returned (.int .i64 (szH left r)) ∧ Below w.heap.size w w' := by
  unfold maxLen at z1 z2
  obtain ⟨n, v⟩ := r
  simp only at z1 z2 ⊢
  by_cases c1 : left - (n.size : Int) < 0
  · have HE : Hid (szH left ⟨n, v⟩ = -1) := by show _ = _; simp [szH, c1]
    go_enter Tryz.func39, Tryz.ntmps39
    go_wp2
    go_ret
    exact ⟨ret_int HE.out.symm, (Below.refl _ _).alloc (Nat.le_refl _) _⟩
  · by_cases c2 : left - (n.size : Int) - (v.size : Int) < 0
    · have HE : Hid (szH left ⟨n, v⟩ = -1) := by show _ = _; simp [szH, c1, c2]
      go_enter Tryz.func39, Tryz.ntmps39
      go_wp2
      go_ret
      exact ⟨ret_int HE.out.symm, (Below.refl _ _).alloc (Nat.le_refl _) _⟩
    · have HE : Hid (szH left ⟨n, v⟩ = left - (n.size : Int) - (v.size : Int)) := by show _ = _; simp [szH, c1, c2]
      go_enter Tryz.func39, Tryz.ntmps39
      go_wp2
      go_ret
      exact ⟨ret_int HE.out.symm, (Below.refl _ _).alloc (Nat.le_refl _) _⟩
set_option maxHeartbeats 400000 in
theorem toHeader_any (r : Hdr) (w : World) :
    Calls Tryz.prog 40 #[.agg #[.string r.name, .string r.value]] w fun e w' => e = .returned (.agg #[.string r.name, .string r.value]) ∧ Below w.heap.size w w' := by
  obtain ⟨n, v⟩ := r
  simp only
  go_enter Tryz.func40, Tryz.ntmps40
  go_wp2
  exact bodyPost_ret (v := .agg #[.string n, .string v]) (by simp [results, Tryz.results40, go_sem]) rfl ⟨rfl, (((Below.refl _ _).alloc (Nat.le_refl _) _).alloc (by simp) _).alloc (by simp; omega) _⟩
set_option maxHeartbeats 400000 in
theorem eqHeader_same (r : Hdr) (w : World) :
    Calls Tryz.prog 42 #[.agg #[.string r.name, .string r.value], .agg #[.string r.name, .string r.value]] w fun e w' => e = .returned (.bool true) ∧ Below w.heap.size w w' := by
  obtain ⟨n, v⟩ := r
  simp only
  go_enter Tryz.func42, Tryz.ntmps42
  go_wp2
  go_ret
  exact ⟨rfl, ((Below.refl _ _).alloc (Nat.le_refl _) _).alloc (by simp) _⟩
/-- How much room is left behind the items; -1: none. -/
def szHs (left : Int) : List Hdr → Int
  | [] => left
  | r :: l => if szH left r < 0 then -1 else szHs (szH left r) l
def szHL (left : Int) (l : List Hdr) : Int := if left - (l.length : Int) < 0 then -1 else szHs (left - (l.length : Int)) l
def SmallHdrs (l : List Hdr) : Prop := ∀ (i : Nat) r, l[i]? = some r → r.name.size ≤ maxLen ∧ r.value.size ≤ maxLen
theorem HeadsAt.keep {w w' : World} {b off : Nat} {l : List Hdr} (h : HeadsAt w b off l) (hb : Below w.heap.size w w') : HeadsAt w' b off l := by
  intro i r hr
  obtain ⟨a1, a3⟩ := h i r hr
  exact ⟨by rw [hb.cell (block_lt_of_cell a1)]; exact a1, by rw [hb.cell (block_lt_of_cell a3)]; exact a3⟩
theorem szH_le (left : Int) (r : Hdr) : szH left r ≤ left ∨ szH left r = -1 := by
  unfold szH
  split
  · exact .inr rfl
  · split
    · exact .inr rfl
    · left; omega
theorem drop_hdr (l : List Hdr) (k : Nat) (r : Hdr) (h : l[k]? = some r) : l.drop k = r :: l.drop (k + 1) := by
  obtain ⟨hk, rfl⟩ := List.getElem?_eq_some_iff.1 h
  exact List.drop_eq_getElem_cons hk
set_option maxHeartbeats 2000000 in
theorem szHeaderS_any (w : World) (a : Option Addr) (cap : Nat) (l : List Hdr) (hl : l.length ≤ maxLen) (hi : l = [] ∨ ∃ b off, a = some ⟨b, off, none⟩ ∧ HeadsAt w b off l) (hz : SmallHdrs l) (left : Int) (h0 : 0 ≤ left) (h1 : left ≤ 1048576) :
    Calls Tryz.prog 14 #[.slice a l.length cap, .int .i64 left] w fun e w' => e = .returned (.int .i64 (szHL left l)) ∧ Below w.heap.size w w' := by
  unfold maxLen at hl
  have HI : Hid (l = [] ∨ ∃ b off, a = some ⟨b, off, none⟩ ∧ HeadsAt w b off l) := hi
  have HZ : Hid (SmallHdrs l) := hz
  clear hi hz
  generalize hn : l.length = n at *
  have HN : Hid (l.length = n) := hn
  by_cases c0 : left - (n : Int) < 0
  · have HE : Hid (szHL left l = -1) := by show _ = _; unfold szHL; rw [hn, if_pos c0]
    clear hn
    go_enter Tryz.func14, Tryz.ntmps14
    go_wp2
    go_ret
    exact ⟨ret_int HE.out.symm, Below.refl _ _⟩
  have HE : Hid (szHL left l = szHs (left - (n : Int)) l) := by show _ = _; unfold szHL; rw [hn, if_neg c0]
  have c0' : 0 ≤ left - (n : Int) := by omega
  clear hn
  go_enter Tryz.func14, Tryz.ntmps14
  go_wp2_with fail
  go_loopw [1, 5] (fun x i wr => ∃ (k : Nat) (c : Int), k ≤ n ∧ i = .int .i64 k ∧ x = .int .i64 c ∧ 0 ≤ c ∧ c ≤ 1048576 ∧ szHL left l = szHs c (l.drop k) ∧ Below w.heap.size w wr) (fun _ i _ => n - (intOf i).toNat)
  case atStart => exact ⟨0, left - (n : Int), Nat.zero_le _, rfl, rfl, c0', by omega, HE.out, Below.refl _ _⟩
  case round =>
    obtain ⟨k, c, hk, rfl, rfl, c2, c3, hs, hb⟩ := hrel
    have HS : Hid (szHL left l = szHs c (l.drop k)) := hs
    clear hs HE
    by_cases hlt : k < n
    · obtain ⟨r, hr⟩ : ∃ r, l[k]? = some r := ⟨l[k]'(by have := HN.out; omega), List.getElem?_eq_getElem _⟩
      rcases HI.out with h | ⟨b, off, rfl, hat⟩
      · subst h; simp at hr
      obtain ⟨p1, p3⟩ := (hat.keep hb) k r hr
      obtain ⟨z1, z2⟩ := HZ.out k r hr
      have HS2 : Hid (szHL left l = if szH c r < 0 then -1 else szHs (szH c r) (l.drop (k + 1))) := by
        show _ = _
        rw [HS.out, drop_hdr l k r hr, szHs]
      have HC : Hid (∀ w, Calls Tryz.prog 39 #[.agg #[.string r.name, .string r.value], .int .i64 c] w fun e w' => e = .returned (.int .i64 (szH c r)) ∧ Below w.heap.size w w') := fun w => szHeader_any r c w c2 c3 z1 z2
      have hle := szH_le c r
      have g : (k : Int) < n := by omega
      clear HS hr hat z1 z2 HI
      generalize szH c r = d at *
      generalize r.name = rn at *
      generalize r.value = rv at *
      go_wp2_with fail
      refine (HC.out _).mono ?_
      rintro e w2 ⟨rfl, hb2⟩
      have hbb : Below w.heap.size w w2 := hb.trans (hb2.mono hb.size)
      clear hb2 hb p1 p3 HC
      by_cases hd : d < 0
      · have HF : Hid (szHL left l = -1) := by show _ = _; rw [HS2.out, if_pos hd]
        clear HS2
        go_wp2_with fail
        go_ret
        exact ⟨ret_int HF.out.symm, hbb⟩
      · have HF : Hid (szHL left l = szHs d (l.drop (k + 1))) := by show _ = _; rw [HS2.out, if_neg hd]
        clear HS2
        go_wp2_with fail
        go_roundw
        case rel => exact ⟨k + 1, d, by omega, by go_num, rfl, by omega, by omega, HF.out, hbb⟩
        case measure => simp [intOf]; omega
    · have HF : Hid (szHL left l = c) := by
        show _ = _
        rw [HS.out, List.drop_of_length_le (by have := HN.out; omega), szHs]
      clear HS
      go_wp2_with fail
      go_ret
      exact ⟨ret_int HF.out.symm, hb⟩
end Go.Proofs.YtgfbahjpaaanoaaGreatDoor
/-
  The laws' copy of a list of items, and their comparing of two.
-/
namespace Go.Proofs.YtgfbahjpaaanoaaGreatDoor
open Go.ChangeShapes Go.WideShapes Go.ChangeAt Go.RowKit Go.Sort
/-- m cells from the head of block G on are there and may be written. -/
def HRoom (w : World) (G m : Nat) : Prop := ∀ j, j < m → (∃ u, w.cell? ⟨G, j, none⟩ = some u) ∧ w.frozen? ⟨G, j, none⟩ = false
theorem HRoom.keep {w w' : World} {G m : Nat} (h : HRoom w G m) (hb : Below w.heap.size w w') : HRoom w' G m := by
  intro j hj
  obtain ⟨⟨u, hu⟩, hf⟩ := h j hj
  exact ⟨⟨u, by rw [hb.cell (block_lt_of_cell hu)]; exact hu⟩, by rw [hb.frozen (block_lt_of_cell hu)]; exact hf⟩
theorem HRoom.set {w : World} {G m : Nat} (h : HRoom w G m) (a : Addr) (v : Value) : HRoom (w.setCell a v) G m := by
  intro j hj
  obtain ⟨⟨u, hu⟩, hf⟩ := h j hj
  refine ⟨?_, by rw [World.frozen?_setCell]; exact hf⟩
  by_cases e : a = ⟨G, j, none⟩
  · exact ⟨v, by subst e; exact World.cell?_setCell_same _ _ _ hu⟩
  · exact ⟨u, by rw [World.cell?_setCell_other _ _ _ _ e]; exact hu⟩
def put2 (w : World) (G k : Nat) (r : Hdr) : World := (w.setCell ⟨G, k * 2, none⟩ (.string r.name)).setCell ⟨G, k * 2 + 1, none⟩ (.string r.value)
theorem hoff_ne {G i j : Nat} (h : i ≠ j) : (⟨G, i, none⟩ : Addr) ≠ ⟨G, j, none⟩ := fun e => h (congrArg Addr.off e)
theorem put2_other (w : World) (G k : Nat) (r : Hdr) (j : Nat) (h0 : k * 2 ≠ j) (h1 : k * 2 + 1 ≠ j) : (put2 w G k r).cell? ⟨G, j, none⟩ = w.cell? ⟨G, j, none⟩ := by
  unfold put2
  rw [World.cell?_setCell_other _ _ _ _ (hoff_ne h1), World.cell?_setCell_other _ _ _ _ (hoff_ne h0)]
theorem HRoom.put {w : World} {G m : Nat} (h : HRoom w G m) (k : Nat) (r : Hdr) : HRoom (put2 w G k r) G m := (h.set _ _).set _ _
theorem HeadsAt.put {w : World} {G n : Nat} {l : List Hdr} {k : Nat} {r : Hdr} (h : HeadsAt w G 0 (l.take k)) (hr : l[k]? = some r) (hm : HRoom w G (n * 2)) (hk : k < n) : HeadsAt (put2 w G k r) G 0 (l.take (k + 1)) := by
  intro i q hq
  have hi : i < k + 1 := by
    have := (List.getElem?_eq_some_iff.1 hq).1
    simp at this; omega
  rw [List.getElem?_take_of_lt hi] at hq
  simp only [Nat.zero_add]
  by_cases e : i = k
  · subst e
    rw [hr] at hq
    obtain rfl := Option.some.inj hq
    obtain ⟨⟨u0, g0⟩, _⟩ := hm (i * 2) (by omega)
    obtain ⟨⟨u1, g1⟩, _⟩ := (hm.set ⟨G, i * 2, none⟩ (.string r.name)) (i * 2 + 1) (by omega)
    unfold put2
    refine ⟨?_, World.cell?_setCell_same _ _ _ g1⟩
    rw [World.cell?_setCell_other _ _ _ _ (hoff_ne (by omega))]
    exact World.cell?_setCell_same _ _ _ g0
  · have hq2 : (l.take k)[i]? = some q := by rw [List.getElem?_take_of_lt (by omega)]; exact hq
    obtain ⟨a1, a3⟩ := h i q hq2
    simp only [Nat.zero_add] at a1 a3
    exact ⟨by rw [put2_other _ _ _ _ _ (by omega) (by omega)]; exact a1, by rw [put2_other _ _ _ _ _ (by omega) (by omega)]; exact a3⟩
theorem infoHeader : (Tryz.prog.info? 49).map (fun i => (i.zero, i.size, i.bytes)) = some (some (.agg #[.string ⟨#[]⟩, .string ⟨#[]⟩]), 2, 32) := by kernel_rfl
set_option maxHeartbeats 2000000 in
theorem toHeaderS_any (w : World) (a : Option Addr) (cap : Nat) (l : List Hdr) (hl : l.length ≤ 1048576) (hi : l = [] ∨ ∃ b off, a = some ⟨b, off, none⟩ ∧ HeadsAt w b off l) :
    Calls Tryz.prog 15 #[.slice a l.length cap] w fun e w' => e = .returned (.slice (some ⟨w.heap.size, 0, none⟩) l.length l.length) ∧ HeadsAt w' w.heap.size 0 l ∧ Below w.heap.size w w' := by
  have HI : Hid (l = [] ∨ ∃ b off, a = some ⟨b, off, none⟩ ∧ HeadsAt w b off l) := hi
  obtain ⟨i0, hi0, hz0, hz1, hz2⟩ := info_parts infoHeader
  clear hi
  generalize hn : l.length = n at *
  have HN : Hid (l.length = n) := hn
  clear hn
  go_enter Tryz.func15, Tryz.ntmps15
  go_wp2_with (at_make; refine wpList_make_full w rfl _ _ 24 rfl w.heap.size 49 i0 _ 2 Tryz.underlying24 hi0 hz0 hz1 _ _ _ _ n rfl rfl rfl rfl (by rw [hz2]; omega) (by unfold maxLen; omega) (Nat.le_refl _) ?_; intro w1 hown hgrow)
  have HR1 : Hid (HRoom w1 w.heap.size (n * 2) ∧ Below w.heap.size w w1) := by
    refine ⟨fun j hj => ⟨?_, hown.frozenAt j⟩, (Below.refl _ _).grown hgrow (Nat.le_refl _) (fun q hq => by cases hq)⟩
    have h1 := hown.cellAt j hj
    have h2 : j < (madeCells (Value.agg #[.string ⟨#[]⟩, .string ⟨#[]⟩]).cells (n * 2)).toList.length := by have := hown.1; omega
    exact ⟨_, h1.trans (List.getElem?_eq_getElem h2)⟩
  clear hown hgrow
  go_loopw [4] (fun i wr => ∃ k : Nat, k ≤ n ∧ i = .int .i64 k ∧ HeadsAt wr w.heap.size 0 (l.take k) ∧ HRoom wr w.heap.size (n * 2) ∧ Below w.heap.size w wr) (fun i _ => n - (intOf i).toNat)
  case atStart => exact ⟨0, Nat.zero_le _, rfl, fun i r hr => by simp at hr, HR1.out.1, HR1.out.2⟩
  case round =>
    obtain ⟨k, hk, rfl, hat, hroom, hb⟩ := hrel
    clear HR1
    by_cases hlt : k < n
    · obtain ⟨r, hr⟩ : ∃ r, l[k]? = some r := ⟨l[k]'(by have := HN.out; omega), List.getElem?_eq_getElem _⟩
      rcases HI.out with h | ⟨b, off, rfl, hsrc⟩
      · subst h; simp at hr
      have hblt : b < w.heap.size := block_lt_of_cell (hsrc k r hr).1
      have hkeep := (hsrc.keep (w' := w) (Below.refl _ _)) k r hr
      have p1 : wr.cell? ⟨b, off + k * 2, none⟩ = some (.string r.name) := by rw [hb.cell (p := ⟨b, off + k * 2, none⟩) hblt]; exact hkeep.1
      have p3 : wr.cell? ⟨b, off + k * 2 + 1, none⟩ = some (.string r.value) := by rw [hb.cell (p := ⟨b, off + k * 2 + 1, none⟩) hblt]; exact hkeep.2
      have HA : Hid (HeadsAt wr w.heap.size 0 (l.take k)) := hat
      have HM : Hid (HRoom wr w.heap.size (n * 2)) := hroom
      have HR : Hid (l[k]? = some r) := hr
      have g : (k : Int) < n := by omega
      clear hat hroom hr hsrc hkeep HI
      go_wp2_with fail
      refine (toHeader_any r _).mono ?_
      rintro e w2 ⟨rfl, hb2⟩
      have HA2 : Hid (HeadsAt w2 w.heap.size 0 (l.take k)) := HA.out.keep hb2
      have HM2 : Hid (HRoom w2 w.heap.size (n * 2)) := HM.out.keep hb2
      have hbb : Below w.heap.size w w2 := hb.trans (hb2.mono hb.size)
      obtain ⟨⟨u0, g0⟩, f0⟩ := HM2.out (k * 2) (by omega)
      obtain ⟨⟨u1, g1⟩, f1⟩ := HM2.out (k * 2 + 1) (by omega)
      have HP : Hid (HeadsAt (put2 w2 w.heap.size k r) w.heap.size 0 (l.take (k + 1)) ∧ HRoom (put2 w2 w.heap.size k r) w.heap.size (n * 2)) := ⟨HA2.out.put HR.out HM2.out hlt, HM2.out.put k r⟩
      clear HA HM HA2 HM2 hb2 hb p1 p3
      obtain ⟨rn, rv⟩ := r
      go_wp2_with fail
      go_roundw
      case rel => exact ⟨k + 1, by omega, by go_num, HP.out.1, HP.out.2, (hbb.setCell (Nat.le_refl _) _).setCell (Nat.le_refl _) _⟩
      case measure => simp [intOf]; omega
    · have HF : Hid (HeadsAt wr w.heap.size 0 l) := by
        have e : l.take k = l := List.take_of_length_le (by have := HN.out; omega)
        rw [e] at hat
        exact hat
      clear hat hroom
      go_wp2_with fail
      go_ret
      exact ⟨rfl, HF.out, hb⟩
end Go.Proofs.YtgfbahjpaaanoaaGreatDoor
/-
  What the laws over lists of items share.
-/
namespace Go.Proofs.YtgfbahjpaaanoaaGreatDoor
open Go.ChangeShapes Go.WideShapes Go.ChangeAt Go.RowKit
/-- The slice at a holds the items l. -/
def HdsIn (w : World) (a : Option Addr) (l : List Hdr) : Prop := l = [] ∨ ∃ b off, a = some ⟨b, off, none⟩ ∧ HeadsAt w b off l
theorem HdsIn.keep {w w' : World} {a : Option Addr} {l : List Hdr} (h : HdsIn w a l) (hb : Below w.heap.size w w') : HdsIn w' a l := by
  rcases h with h | ⟨b, off, e, hat⟩
  · exact .inl h
  · exact .inr ⟨b, off, e, hat.keep hb⟩
theorem szH_room {left : Int} {r : Hdr} (h : ¬ szH left r < 0) : (r.name.size : Int) ≤ left ∧ (r.value.size : Int) ≤ left ∧ szH left r ≤ left := by
  by_cases c1 : left - (r.name.size : Int) < 0
  · rw [show szH left r = -1 from by simp [szH, c1]] at h; omega
  · by_cases c2 : left - (r.name.size : Int) - (r.value.size : Int) < 0
    · rw [show szH left r = -1 from by simp [szH, c1, c2]] at h; omega
    · have e : szH left r = left - (r.name.size : Int) - (r.value.size : Int) := by simp [szH, c1, c2]
      rw [e]
      omega
theorem szHs_room (l : List Hdr) : ∀ left : Int, ¬ szHs left l < 0 → left ≤ 1048576 → ∀ (i : Nat) r, l[i]? = some r → r.name.size ≤ 1048576 ∧ r.value.size ≤ 1048576 := by
  induction l with
  | nil => intro left _ _ i r hr; simp at hr
  | cons x l ih =>
    intro left h hl i r hr
    rw [szHs] at h
    by_cases c : szH left x < 0
    · rw [if_pos c] at h; omega
    · rw [if_neg c] at h
      obtain ⟨z1, z2, z3⟩ := szH_room c
      cases i with
      | zero => simp at hr; subst hr; omega
      | succ i => exact ih _ h (by omega) i r (by simpa using hr)
theorem szHL_room {l : List Hdr} {left : Int} (hl : left ≤ 1048576) (h : ¬ szHL left l < 0) : (l.length : Int) ≤ 1048576 ∧ ∀ (i : Nat) r, l[i]? = some r → r.name.size ≤ 1048576 ∧ r.value.size ≤ 1048576 := by
  unfold szHL at h
  by_cases c : left - (l.length : Int) < 0
  · rw [if_pos c] at h; omega
  · rw [if_neg c] at h
    exact ⟨by omega, szHs_room l _ h (by omega)⟩
theorem szHs_le (l : List Hdr) : ∀ left : Int, szHs left l ≤ left ∨ szHs left l < 0 := by
  induction l with
  | nil => intro left; exact .inl (Int.le_refl _)
  | cons x l ih =>
    intro left
    rw [szHs]
    by_cases c : szH left x < 0
    · rw [if_pos c]; right; decide
    · rw [if_neg c]
      have := (szH_room c).2.2
      rcases ih (szH left x) with h | h
      · left; omega
      · right; exact h
theorem szHL_le {l : List Hdr} {left : Int} (h : ¬ szHL left l < 0) : szHL left l ≤ left := by
  unfold szHL at h ⊢
  by_cases c : left - (l.length : Int) < 0
  · rw [if_pos c] at h; omega
  · rw [if_neg c] at h ⊢
    rcases szHs_le l (left - (l.length : Int)) with x | x <;> omega
end Go.Proofs.YtgfbahjpaaanoaaGreatDoor
/-
  Word bytes: the table, plainly. No Go in sight.
-/
namespace Go.Proofs.YtgfbahjpaaanoaaGreatDoor
def wordTab : List Bool := [false, false, false, false, false, false, false, false, false, false, false, false, false, false, false, false, false, false, false, false, false, false, false, false, false, false, false, false, false, false, false, false, false, true, false, true, true, true, true, true, false, false, true, true, false, true, true, false, true, true, true, true, true, true, true, true, true, true, false, false, false, false, false, false, false, true, true, true, true, true, true, true, true, true, true, true, true, true, true, true, true, true, true, true, true, true, true, true, true, true, true, false, false, false, true, true, false, true, true, true, true, true, true, true, true, true, true, true, true, true, true, true, true, true, true, true, true, true, true, true, true, true, true, false, true, false, true, false]
def wordI (c : Int) : Bool := wordTab.getD c.toNat false
theorem wordTab_len : wordTab.length = 128 := by decide +kernel
/-- One of the signs that are no letter and no digit. -/
def signI (c : Nat) : Bool := [33, 35, 36, 37, 38, 39, 42, 43, 45, 46, 94, 95, 124, 126].contains c
theorem table_all : ∀ c : Fin 256, wordTab.getD c.val false = (signI c.val || (decide (97 ≤ c.val) && decide (c.val ≤ 122)) || (decide (65 ≤ c.val) && decide (c.val ≤ 90)) || (decide (48 ≤ c.val) && decide (c.val ≤ 57))) := by decide +kernel
theorem wordI_eq (c : Int) (h0 : 0 ≤ c) (h1 : c < 256) : wordI c = (signI c.toNat || (decide (97 ≤ c) && decide (c ≤ 122)) || (decide (65 ≤ c) && decide (c ≤ 90)) || (decide (48 ≤ c) && decide (c ≤ 57))) := by
  obtain ⟨n, rfl⟩ := Int.eq_ofNat_of_zero_le h0
  have h2 : n < 256 := by omega
  have := table_all ⟨n, h2⟩
  simp only at this
  rw [wordI, Int.toNat_natCast, this]
  have e : ∀ a : Nat, decide (a ≤ n) = decide ((a : Int) ≤ (n : Int)) := fun a => by simp
  have e' : ∀ a : Nat, decide (n ≤ a) = decide ((n : Int) ≤ (a : Int)) := fun a => by simp
  simp only [e, e']
  rfl
theorem wordI_big (c : Int) (h : 128 ≤ c) : wordI c = false := by
  have hl := wordTab_len
  unfold wordI
  rw [List.getD_eq_getElem?_getD, List.getElem?_eq_none (by omega)]
  rfl
def allW (l : List UInt8) : Bool := l.all fun c => wordI (c.toNat : Int)
theorem allW_snoc (l : List UInt8) (c : UInt8) : allW (l ++ [c]) = (allW l && wordI (c.toNat : Int)) := by simp [allW]
theorem allW_of_take (l : List UInt8) (k : Nat) (h : allW (l.take k) = false) : allW l = false := by
  have e := List.take_append_drop k l
  rw [← e]
  simp only [allW] at h ⊢
  rw [List.all_append, h, Bool.false_and]
theorem allW_not (s : ByteArray) (k : Nat) (h : k < s.size) (hd : wordI (s[k].toNat : Int) = false) : allW s.data.toList = false := by
  refine allW_of_take _ (k + 1) ?_
  rw [take_snoc s k h, allW_snoc, hd, Bool.and_false]
def wordS (s : ByteArray) : Bool := decide (1 ≤ s.size) && decide (s.size ≤ 64) && allW s.data.toList
theorem wordS_short (s : ByteArray) (h : s.size < 1) : wordS s = false := by simp [wordS]; omega
theorem wordS_long (s : ByteArray) (h : 64 < s.size) : wordS s = false := by simp [wordS]; omega
theorem wordS_mid (s : ByteArray) (h1 : 1 ≤ s.size) (h2 : s.size ≤ 64) : wordS s = allW s.data.toList := by simp [wordS, h1, h2]
end Go.Proofs.YtgfbahjpaaanoaaGreatDoor
/-
  Quotes, plainly. No Go in sight.
-/
namespace Go.Proofs.YtgfbahjpaaanoaaGreatDoor
def plainI (c : Int) : Bool := c == 9 || (decide (32 ≤ c) && decide (c ≤ 126))
def plainL (l : List UInt8) : Bool := l.all fun c => plainI (c.toNat : Int)
theorem plainL_snoc (l : List UInt8) (c : UInt8) : plainL (l ++ [c]) = (plainL l && plainI (c.toNat : Int)) := by simp [plainL]
theorem plainL_of_take (l : List UInt8) (k : Nat) (h : plainL (l.take k) = false) : plainL l = false := by
  have e := List.take_append_drop k l
  rw [← e]
  simp only [plainL] at h ⊢
  rw [List.all_append, h, Bool.false_and]
theorem plainL_not (s : ByteArray) (k : Nat) (h : k < s.size) (hd : plainI (s[k].toNat : Int) = false) : plainL s.data.toList = false := by
  refine plainL_of_take _ (k + 1) ?_
  rw [take_snoc s k h, plainL_snoc, hd, Bool.and_false]
/-- One byte between quotes. -/
def quoteC (c : UInt8) : List UInt8 := if (c.toNat : Int) = 34 ∨ (c.toNat : Int) = 92 then [92, c] else [c]
def quoteB (l : List UInt8) : List UInt8 := l.flatMap quoteC
def quoteL (l : List UInt8) : List UInt8 := [34] ++ quoteB l ++ [34]
theorem quoteB_snoc (l : List UInt8) (c : UInt8) : quoteB (l ++ [c]) = quoteB l ++ quoteC c := by simp [quoteB]
theorem quoteC_yes {c : UInt8} (h : (c.toNat : Int) = 34 ∨ (c.toNat : Int) = 92) : quoteC c = [92, c] := by simp only [quoteC, if_pos h]
theorem quoteC_no {c : UInt8} (h : ¬ ((c.toNat : Int) = 34 ∨ (c.toNat : Int) = 92)) : quoteC c = [c] := by simp only [quoteC, if_neg h]
theorem quoteC_len (c : UInt8) : (quoteC c).length ≤ 2 := by unfold quoteC; split <;> simp
theorem quoteB_len (l : List UInt8) : (quoteB l).length ≤ 2 * l.length := by
  induction l with
  | nil => simp [quoteB]
  | cons c r ih =>
    have := quoteC_len c
    simp only [quoteB, List.flatMap_cons, List.length_append, List.length_cons] at ih ⊢
    omega
theorem quoteB_ge (l : List UInt8) : l.length ≤ (quoteB l).length := by
  induction l with
  | nil => simp
  | cons c r ih =>
    have : 1 ≤ (quoteC c).length := by unfold quoteC; split <;> simp
    simp only [quoteB, List.flatMap_cons, List.length_append, List.length_cons] at ih ⊢
    omega
/-- What stands between quotes, read from behind the first one; acc: what was taken. -/
def unq (acc : List UInt8) : List UInt8 → List UInt8 × Bool
  | [] => ([], false)
  | [c] => if (c.toNat : Int) = 34 then (acc, true) else ([], false)
  | c :: d :: r => if (c.toNat : Int) = 34 then (acc, false) else if (c.toNat : Int) = 92 then unq (acc ++ [d]) r else unq (acc ++ [c]) (d :: r)
/-- A text between quotes: what it tells, and whether it does. -/
def unqT (l : List UInt8) : List UInt8 × Bool := if 2 ≤ l.length ∧ l.head? = some 34 ∧ plainL l = true then unq [] l.tail else ([], false)
theorem unq_end (acc r : List UInt8) (c : UInt8) (h : (c.toNat : Int) = 34) : unq acc (c :: r) = (acc, decide (r = [])) := by
  cases r with
  | nil => rw [unq, if_pos h]; rfl
  | cons d r => rw [unq, if_pos h]; simp
theorem unq_cut (acc : List UInt8) (c : UInt8) (h : (c.toNat : Int) = 92) : unq acc [c] = ([], false) := by
  rw [unq, if_neg (by omega)]
theorem unq_esc (acc r : List UInt8) (c d : UInt8) (h : (c.toNat : Int) = 92) : unq acc (c :: d :: r) = unq (acc ++ [d]) r := by
  rw [unq, if_neg (by omega), if_pos h]
theorem unq_take (acc r : List UInt8) (c : UInt8) (h1 : ¬ (c.toNat : Int) = 34) (h2 : ¬ (c.toNat : Int) = 92) : unq acc (c :: r) = unq (acc ++ [c]) r := by
  cases r with
  | nil => simp only [unq, if_neg h1]
  | cons d r => rw [unq, if_neg h1, if_neg h2]
/-- What was quoted is read as it was. -/
theorem unq_quote (l : List UInt8) : ∀ acc, unq acc (quoteB l ++ [34]) = (acc ++ l, true) := by
  induction l with
  | nil => intro acc; rw [show quoteB [] ++ [34] = [34] from rfl, unq_end _ _ _ (by decide)]; simp
  | cons c r ih =>
    intro acc
    have e : quoteB (c :: r) ++ [34] = quoteC c ++ (quoteB r ++ [34]) := by simp [quoteB]
    rw [e]
    by_cases h : (c.toNat : Int) = 34 ∨ (c.toNat : Int) = 92
    · rw [quoteC_yes h]
      show unq acc (92 :: c :: (quoteB r ++ [34])) = _
      rw [unq_esc _ _ _ _ (by decide), ih]; simp
    · rw [quoteC_no h]
      show unq acc (c :: (quoteB r ++ [34])) = _
      rw [unq_take _ _ _ (by omega) (by omega), ih]; simp
theorem plain_quoteB (l : List UInt8) (h : plainL l = true) : plainL (quoteB l) = true := by
  induction l with
  | nil => rfl
  | cons c r ih =>
    simp only [plainL, List.all_cons, Bool.and_eq_true] at h
    have e : quoteB (c :: r) = quoteC c ++ quoteB r := by simp [quoteB]
    rw [e]
    simp only [plainL, List.all_append, Bool.and_eq_true]
    refine ⟨?_, ih h.2⟩
    unfold quoteC
    split
    · simp [h.1]; decide
    · simp [h.1]
theorem unqT_quote (l : List UInt8) (h : plainL l = true) : unqT (quoteL l) = (l, true) := by
  have hp : plainL (quoteL l) = true := by
    simp only [quoteL, plainL, List.all_append, Bool.and_eq_true]
    exact ⟨⟨by decide, plain_quoteB l h⟩, by decide⟩
  unfold unqT
  rw [if_pos ⟨by simp [quoteL], rfl, hp⟩]
  show unq [] (quoteB l ++ [34]) = _
  rw [unq_quote]; simp
end Go.Proofs.YtgfbahjpaaanoaaGreatDoor
/-
  Blanks at both ends: plainly. No Go in sight.
-/
namespace Go.Proofs.YtgfbahjpaaanoaaGreatDoor
def blankI (c : Int) : Bool := c == 32 || c == 9
def trimT (s : ByteArray) : ByteArray := ⟨(Lib.trimS s.data.toList [32, 9]).toArray⟩
theorem contains_blank (b : UInt8) : [(32 : UInt8), 9].contains b = blankI (b.toNat : Int) := by
  rw [Bool.eq_iff_iff]
  simp [blankI, List.contains_eq_mem]
  constructor
  · rintro (rfl | rfl) <;> simp
  · rintro (h | h)
    · exact .inl (UInt8.toNat_inj.1 (by simpa using (by omega : b.toNat = 32)))
    · exact .inr (UInt8.toNat_inj.1 (by simpa using (by omega : b.toNat = 9)))
theorem trim_between (l : List UInt8) (k m : Nat) (hkm : k ≤ m) (hm : m ≤ l.length)
    (h1 : ∀ (j : Nat) b, j < k → l[j]? = some b → blankI (b.toNat : Int) = true) (h2 : ∀ b, k < l.length → l[k]? = some b → blankI (b.toNat : Int) = false)
    (h3 : ∀ (j : Nat) b, m ≤ j → l[j]? = some b → blankI (b.toNat : Int) = true) (h4 : ∀ b, k < m → l[m - 1]? = some b → blankI (b.toNat : Int) = false) :
    Lib.trimS l [32, 9] = (l.take m).drop k := by
  by_cases e : k < m
  · have er : Lib.trimRightS l [32, 9] = l.take m := by
      refine Lib.trimRightS_take l _ m hm (fun j b hj hb => ?_) (fun b _ hb => ?_)
      · rw [contains_blank]; exact h3 j b hj hb
      · rw [contains_blank]; exact h4 b e hb
    unfold Lib.trimS
    rw [er]
    refine Lib.trimLeftS_drop _ _ k (by simp; omega) (fun j b hj hb => ?_) (fun b hb => ?_)
    · rw [List.getElem?_take_of_lt (by omega)] at hb
      rw [contains_blank]; exact h1 j b hj hb
    · rw [List.getElem?_take_of_lt (by omega)] at hb
      rw [contains_blank]; exact h2 b (by omega) hb
  · obtain rfl : k = m := by omega
    have ek : k = l.length := by
      by_cases c : k < l.length
      · have a := h2 _ c (List.getElem?_eq_getElem c)
        have b := h3 k _ (Nat.le_refl _) (List.getElem?_eq_getElem c)
        rw [a] at b; cases b
      · omega
    have er : Lib.trimRightS l [32, 9] = l.take 0 := by
      refine Lib.trimRightS_take l _ 0 (Nat.zero_le _) (fun j b _ hb => ?_) (fun b h0 _ => absurd h0 (by omega))
      have hj : j < l.length := (List.getElem?_eq_some_iff.1 hb).1
      rw [contains_blank]; exact h1 j b (by omega) hb
    unfold Lib.trimS
    rw [er]
    simp [Lib.trimLeftS, ek]
theorem trim_extract (s : ByteArray) (k m : Nat) (h : Lib.trimS s.data.toList [32, 9] = (s.data.toList.take m).drop k) : s.extract k m = trimT s := by
  apply ByteArray.ext
  unfold trimT
  rw [h]
  apply Array.ext'
  simp [List.drop_take]
end Go.Proofs.YtgfbahjpaaanoaaGreatDoor
/-
  A row of bytes in memory, and small letters: no function of the program in sight.
-/
namespace Go.Proofs.YtgfbahjpaaanoaaGreatDoor
/-- The block B holds the bytes l from its head on, none of them frozen. -/
structure BRow (w : World) (B : Nat) (l : List UInt8) : Prop where
  cell : ∀ j (hj : j < l.length), w.cell? ⟨B, j, none⟩ = some (.int .u8 (l[j].toNat : Int))
  free : ∀ j, j < l.length → w.frozen? ⟨B, j, none⟩ = false
theorem BRow.set {w : World} {B : Nat} {l : List UInt8} (h : BRow w B l) (k : Nat) (x : UInt8) : BRow (w.setCell ⟨B, k, none⟩ (.int .u8 (x.toNat : Int))) B (l.set k x) := by
  constructor
  · intro j hj
    simp only [List.length_set] at hj
    by_cases e : k = j
    · subst e
      rw [World.cell?_setCell_same _ _ _ (h.cell k hj)]
      simp
    · rw [World.cell?_setCell_other _ _ _ _ (by intro h2; exact e (congrArg Addr.off h2)), h.cell j hj, List.getElem_set_ne e]
  · intro j hj
    simp only [List.length_set] at hj
    rw [World.frozen?_setCell]
    exact h.free j hj
/-- What a conversion from a text lays. -/
theorem BRow.made (w : World) (s : ByteArray) (cap : Nat) (C : Array Value) (hC : C = bytesRow s cap) : BRow (w.alloc (.cells C 5 (C.size, C.size + 1))) w.heap.size s.data.toList := by
  subst hC
  have hsz : s.data.size ≤ (bytesRow s cap).size := by simp [bytesRow]
  constructor
  · intro j hj
    have hj' : j < s.data.size := by simpa using hj
    rw [World.cell?_alloc_mark, bytesRow_at s cap j hj']
    simp
  · intro j hj
    have hj' : j < s.data.size := by simpa using hj
    rw [World.frozen?_alloc_mark]
    simp
    omega
theorem BRow.back {P : Program} {w : World} {B : Nat} {l : List UInt8} (h : BRow w B l) (src dst e : TypeId) (n cap : Nat) (hn : n = l.length) (hs : P.underlying src = some (.slice e)) (he : P.underlying e = some (.int .u8)) (hd : P.underlying dst = some .string) :
    (convert src dst (.slice (some ⟨B, 0, none⟩) n cap)).run P w = .ok (.string ⟨l.toArray⟩) w := by
  subst hn
  refine run_convert_bytes_back w src dst e ⟨B, 0, none⟩ cap l hs he hd ?_
  intro j hj
  have := h.cell j hj
  by_cases e : j = 0
  · subst e; simpa [Addr.add] using this
  · simpa [Addr.add, e] using this
def lowU (c : UInt8) : UInt8 := if 65 ≤ (c.toNat : Int) ∧ (c.toNat : Int) ≤ 90 then UInt8.ofNat (c.toNat + 32) else c
theorem lowU_yes (c : UInt8) (h1 : 65 ≤ (c.toNat : Int)) (h2 : (c.toNat : Int) ≤ 90) : ((lowU c).toNat : Int) = (c.toNat : Int) + 32 := by
  unfold lowU
  rw [if_pos ⟨h1, h2⟩]
  simp
  omega
theorem lowU_no (c : UInt8) (h : ¬ (65 ≤ (c.toNat : Int) ∧ (c.toNat : Int) ≤ 90)) : lowU c = c := by
  unfold lowU
  rw [if_neg h]
/-- The bytes behind k rounds. -/
def lowK (l : List UInt8) (k : Nat) : List UInt8 := (l.take k).map lowU ++ l.drop k
theorem lowK_zero (l : List UInt8) : lowK l 0 = l := by simp [lowK]
theorem lowK_all (l : List UInt8) (k : Nat) (h : l.length ≤ k) : lowK l k = l.map lowU := by
  simp [lowK, List.take_of_length_le h, List.drop_of_length_le h]
theorem lowK_length (l : List UInt8) (k : Nat) : (lowK l k).length = l.length := by simp [lowK]; omega
theorem lowK_at? (l : List UInt8) (k : Nat) (h : k < l.length) : (lowK l k)[k]? = some l[k] := by
  unfold lowK
  rw [List.getElem?_append_right (by simp; omega)]
  simp [Nat.min_eq_left (Nat.le_of_lt h)]
theorem lowK_at (l : List UInt8) (k : Nat) (h : k < l.length) (h' : k < (lowK l k).length) : (lowK l k)[k] = l[k] := by
  have := lowK_at? l k h
  rw [List.getElem?_eq_getElem h'] at this
  exact Option.some.inj this
theorem lowK_succ (l : List UInt8) (k : Nat) (h : k < l.length) : lowK l (k + 1) = (lowK l k).set k (lowU l[k]) := by
  have hm : min k l.length = k := Nat.min_eq_left (Nat.le_of_lt h)
  unfold lowK
  rw [List.take_succ_eq_append_getElem h, List.map_append, List.drop_eq_getElem_cons h]
  rw [List.set_append_right _ _ (by simp [hm])]
  simp only [List.length_map, List.length_take, hm, Nat.sub_self, List.set_cons_zero, List.map_cons, List.map_nil, List.append_assoc, List.cons_append, List.nil_append]
theorem lowK_keep (l : List UInt8) (k : Nat) (h : k < l.length) (hn : ¬ (65 ≤ (l[k].toNat : Int) ∧ (l[k].toNat : Int) ≤ 90)) : lowK l (k + 1) = lowK l k := by
  have h2 : k < (lowK l k).length := by rw [lowK_length]; exact h
  rw [lowK_succ l k h, lowU_no _ hn, ← lowK_at l k h h2, List.set_getElem_self]
end Go.Proofs.YtgfbahjpaaanoaaGreatDoor
/-
  What the model's l1Lower answers.
-/
namespace Go.Proofs.YtgfbahjpaaanoaaGreatDoor
open Go.ChangeShapes Go.WideShapes Go.ChangeAt Go.RowKit
def lowS (s : ByteArray) : ByteArray := ⟨(s.data.toList.map lowU).toArray⟩
set_option maxHeartbeats 1000000 in
theorem l1Lower_any (s : ByteArray) (w : World) (hs : s.size ≤ 1048576) :
    Calls Tryz.prog 118 #[.string s] w fun e w' => e = .returned (.string (lowS s)) ∧ Below w.heap.size w w' := by
  obtain ⟨C, cap, hcv, hrow⟩ : ∃ C cap, (convert 9 22 (.string s)).run Tryz.prog w = .ok (.slice (some ⟨w.heap.size, 0, none⟩) s.size cap) (w.drew.alloc (.cells C 5 (C.size, C.size + 1))) ∧ BRow (w.alloc (.cells C 5 (C.size, C.size + 1))) w.heap.size s.data.toList :=
    ⟨_, _, run_bytes_of_string w 9 22 5 s Tryz.underlying9 Tryz.underlying22 Tryz.underlying5, BRow.made w s _ _ rfl⟩
  go_enter Tryz.func118, Tryz.ntmps118
  go_wp2
  go_loopw [4] (fun i wr => ∃ k : Nat, k ≤ s.size ∧ i = .int .i64 k ∧ BRow wr w.heap.size (lowK s.data.toList k) ∧ Below w.heap.size w wr) (fun i _ => s.size - (intOf i).toNat)
  case atStart => exact ⟨0, Nat.zero_le _, rfl, by rw [lowK_zero]; exact ⟨hrow.cell, hrow.free⟩, ((Below.refl _ _).alloc (Nat.le_refl _) _).drew⟩
  case round =>
    obtain ⟨k, hk, rfl, hr, hb⟩ := hrel
    clear hcv hrow
    have hlen := lowK_length s.data.toList k
    by_cases hlt : k < s.size
    · have hl : k < s.data.toList.length := by simpa using hlt
      have hl2 : k < (lowK s.data.toList k).length := by omega
      have hc := hr.cell k hl2
      have hf := hr.free k hl2
      rw [lowK_at _ _ hl hl2] at hc
      have Y : Hid (65 ≤ (s.data.toList[k].toNat : Int) ∧ (s.data.toList[k].toNat : Int) ≤ 90 → BRow (wr.setCell ⟨w.heap.size, k, none⟩ (.int .u8 ((s.data.toList[k].toNat : Int) + 32))) w.heap.size (lowK s.data.toList (k + 1))) := by
        intro ⟨u1, u2⟩
        have := hr.set k (lowU s.data.toList[k])
        rw [lowU_yes _ u1 u2] at this
        rw [lowK_succ _ _ hl]
        exact this
      have N : Hid (¬ (65 ≤ (s.data.toList[k].toNat : Int) ∧ (s.data.toList[k].toNat : Int) ≤ 90) → BRow wr w.heap.size (lowK s.data.toList (k + 1))) := by
        intro u
        rw [lowK_keep _ _ hl u]
        exact hr
      generalize s.data.toList[k] = x at *
      clear hr hlen hl2 hl
      by_cases hU : 65 ≤ (x.toNat : Int) ∧ (x.toNat : Int) ≤ 90
      · have R : Hid (BRow (wr.setCell ⟨w.heap.size, k, none⟩ (.int .u8 ((x.toNat : Int) + 32))) w.heap.size (lowK s.data.toList (k + 1))) := Y.out hU
        obtain ⟨u1, u2⟩ := hU
        have d2 : decide ((x.toNat : Int) ≤ 90) = true := by simpa using u2
        clear Y N
        go_wp2
        go_roundw
        case rel => exact ⟨k + 1, by omega, by go_num, R.out, hb.setCell (Nat.le_refl _) _⟩
        case measure => simp [intOf]; omega
      · have R : Hid (BRow wr w.heap.size (lowK s.data.toList (k + 1))) := N.out hU
        clear Y N
        by_cases u1 : 65 ≤ (x.toNat : Int)
        · have u2 : 90 < (x.toNat : Int) := by omega
          have d2 : decide ((x.toNat : Int) ≤ 90) = false := by simp; omega
          clear hU
          go_wp2
          go_roundw
          case rel => exact ⟨k + 1, by omega, by go_num, R.out, hb⟩
          case measure => simp [intOf]; omega
        · clear hU
          go_wp2
          go_roundw
          case rel => exact ⟨k + 1, by omega, by go_num, R.out, hb⟩
          case measure => simp [intOf]; omega
    · have e : lowK s.data.toList k = s.data.toList.map lowU := lowK_all _ _ (by simp; omega)
      rw [e] at hr
      have hback := hr.back (P := Tryz.prog) 22 9 5 s.size cap (by simp) Tryz.underlying22 Tryz.underlying5 Tryz.underlying9
      have HL : Hid ((⟨(s.data.toList.map lowU).toArray⟩ : ByteArray) = lowS s) := rfl
      generalize (⟨(s.data.toList.map lowU).toArray⟩ : ByteArray) = r at *
      clear hr e hlen
      go_wp2
      go_ret
      exact ⟨ret_str HL.out, hb⟩
end Go.Proofs.YtgfbahjpaaanoaaGreatDoor
/-
  Head lines, plainly: their faults, their text, how they are found, set and dropped. No Go in sight.
-/
namespace Go.Proofs.YtgfbahjpaaanoaaGreatDoor
def faultH (r : Hdr) : Int := if wordS r.name = false then 5 else if 200 < r.value.size then 2 else if plainL r.value.data.toList = false then 5 else if trimT r.value = r.value then 0 else 5
def faultHL : List Hdr → Int
  | [] => 0
  | r :: l => if faultH r = 0 then faultHL l else faultH r
theorem faultHL_ok {r : Hdr} {l : List Hdr} (h : faultH r = 0) : faultHL (r :: l) = faultHL l := by rw [faultHL, if_pos h]
theorem faultHL_bad {r : Hdr} {l : List Hdr} (h : faultH r ≠ 0) : faultHL (r :: l) = faultH r := by rw [faultHL, if_neg h]
def headsC (l : List Hdr) : Int := if 20 < l.length then 2 else faultHL l
theorem headsC_many {l : List Hdr} (h : 20 < l.length) : headsC l = 2 := by unfold headsC; rw [if_pos h]
theorem headsC_few {l : List Hdr} (h : ¬ 20 < l.length) : headsC l = faultHL l := by unfold headsC; rw [if_neg h]
theorem faultH_zero {r : Hdr} (h : faultH r = 0) : wordS r.name = true ∧ r.value.size ≤ 200 ∧ plainL r.value.data.toList = true ∧ trimT r.value = r.value := by
  unfold faultH at h
  by_cases c1 : wordS r.name = false
  · rw [if_pos c1] at h; omega
  rw [if_neg c1] at h
  by_cases c2 : 200 < r.value.size
  · rw [if_pos c2] at h; omega
  rw [if_neg c2] at h
  by_cases c3 : plainL r.value.data.toList = false
  · rw [if_pos c3] at h; omega
  rw [if_neg c3] at h
  by_cases c4 : trimT r.value = r.value
  · exact ⟨by simpa using c1, by omega, by simpa using c3, c4⟩
  · rw [if_neg c4] at h; omega
theorem faultHL_zero (l : List Hdr) (h : faultHL l = 0) : ∀ (i : Nat) r, l[i]? = some r → faultH r = 0 := by
  induction l with
  | nil => intro i r hr; simp at hr
  | cons x l ih =>
    intro i r hr
    by_cases c : faultH x = 0
    · rw [faultHL_ok c] at h
      cases i with
      | zero => simp at hr; subst hr; exact c
      | succ i => exact ih h i r (by simpa using hr)
    · rw [faultHL_bad c] at h; exact absurd h c
theorem faultHL_of (l : List Hdr) (h : ∀ r ∈ l, faultH r = 0) : faultHL l = 0 := by
  induction l with
  | nil => rfl
  | cons x l ih => rw [faultHL_ok (h x (by simp))]; exact ih fun r hr => h r (by simp [hr])
theorem headsC_zero {l : List Hdr} (h : headsC l = 0) : l.length ≤ 20 ∧ ∀ (i : Nat) r, l[i]? = some r → faultH r = 0 := by
  by_cases c : 20 < l.length
  · rw [headsC_many c] at h; omega
  · rw [headsC_few c] at h; exact ⟨by omega, faultHL_zero l h⟩
theorem hword_max {s : ByteArray} (h : wordS s = true) : s.size ≤ 64 := by
  by_cases c : 64 < s.size
  · rw [wordS_long s c] at h; cases h
  · omega
theorem take_hdr {l : List Hdr} {k : Nat} {r : Hdr} (h : l[k]? = some r) : l.take (k + 1) = l.take k ++ [r] := by rw [List.take_add_one, h]; rfl
theorem happ_list (a b : ByteArray) : (a ++ b).data.toList = a.data.toList ++ b.data.toList := by simp
theorem hof_list {a : ByteArray} {l : List UInt8} (h : a.data.toList = l) : a = ⟨l.toArray⟩ := by subst h; cases a; simp
theorem hret_ct {a b : Int} {s t : ByteArray} (h : a = b ∧ s = t) : Ending.returned (.agg #[.int .i64 b, .string t]) = .returned (.agg #[.int .i64 a, .string s]) := by rw [h.1, h.2]
/-! ### their text -/
def lineL (r : Hdr) : List UInt8 := r.name.data.toList ++ [58, 32] ++ r.value.data.toList ++ [13, 10]
def packL (l : List Hdr) : List UInt8 := l.flatMap lineL
theorem packL_take {l : List Hdr} {k : Nat} {r : Hdr} (h : l[k]? = some r) : packL (l.take (k + 1)) = packL (l.take k) ++ lineL r := by rw [take_hdr h]; simp [packL]
theorem lineL_len {r : Hdr} (h : faultH r = 0) : (lineL r).length ≤ 268 := by
  obtain ⟨h1, h2, _⟩ := faultH_zero h
  have := hword_max h1
  have e1 : r.name.data.toList.length = r.name.size := by simp
  have e2 : r.value.data.toList.length = r.value.size := by simp
  simp only [lineL, List.length_append, List.length_cons, List.length_nil]
  omega
def packT (l : List Hdr) : ByteArray := if headsC l = 0 then ⟨(packL l).toArray⟩ else ⟨#[]⟩
theorem packT_ok {l : List Hdr} (h : headsC l = 0) : packT l = ⟨(packL l).toArray⟩ := by unfold packT; rw [if_pos h]
theorem packT_bad {l : List Hdr} (h : headsC l ≠ 0) : packT l = ⟨#[]⟩ := by unfold packT; rw [if_neg h]
/-! ### names that are alike -/
def askC (l : List Hdr) (name : ByteArray) : Int := if headsC l = 0 then (if wordS name = true then 0 else 5) else headsC l
theorem askC_bad {l : List Hdr} {name : ByteArray} (h : headsC l ≠ 0) : askC l name = headsC l := by unfold askC; rw [if_neg h]
theorem askC_word {l : List Hdr} {name : ByteArray} (h : headsC l = 0) (hw : wordS name = true) : askC l name = 0 := by unfold askC; rw [if_pos h, if_pos hw]
theorem askC_text {l : List Hdr} {name : ByteArray} (h : headsC l = 0) (hw : wordS name = false) : askC l name = 5 := by unfold askC; rw [if_pos h, if_neg (by rw [hw]; decide)]
theorem askC_zero {l : List Hdr} {name : ByteArray} (h : askC l name = 0) : headsC l = 0 ∧ wordS name = true := by
  by_cases c : headsC l = 0
  · cases hw : wordS name
    · rw [askC_text c hw] at h; omega
    · exact ⟨c, rfl⟩
  · rw [askC_bad c] at h; exact absurd h c
/-- The values of all lines whose name, in small letters, is x. -/
def valsOf (x : ByteArray) (l : List Hdr) : List ByteArray := (l.filter fun r => decide (lowS r.name = x)).map (·.value)
theorem valsOf_yes {x : ByteArray} {r : Hdr} (l : List Hdr) (h : lowS r.name = x) : valsOf x (l ++ [r]) = valsOf x l ++ [r.value] := by simp [valsOf, h]
theorem valsOf_no {x : ByteArray} {r : Hdr} (l : List Hdr) (h : ¬ lowS r.name = x) : valsOf x (l ++ [r]) = valsOf x l := by simp [valsOf, h]
def hjoinL (vs : List ByteArray) : List UInt8 := Lib.join (vs.map (·.data.toList)) [44, 32]
theorem hjoinL_snoc (vs : List ByteArray) (v : ByteArray) : hjoinL (vs ++ [v]) = hjoinL vs ++ (if vs = [] then [] else [44, 32]) ++ v.data.toList := by
  unfold hjoinL
  cases vs with
  | nil => simp [Lib.join, List.intercalate]
  | cons a r =>
    rw [List.map_append, List.map_cons, List.cons_append, Lib.join_cons, Lib.join_cons]
    simp [Lib.joinTail]
def joinC (l : List Hdr) (name : ByteArray) : Int := if askC l name = 0 then (if valsOf (lowS name) l = [] then 4 else 0) else askC l name
def joinT (l : List Hdr) (name : ByteArray) : ByteArray := if joinC l name = 0 then ⟨(hjoinL (valsOf (lowS name) l)).toArray⟩ else ⟨#[]⟩
theorem join_bad {l : List Hdr} {name : ByteArray} (h : askC l name ≠ 0) : joinC l name = askC l name ∧ joinT l name = ⟨#[]⟩ := by
  have e : joinC l name = askC l name := by unfold joinC; rw [if_neg h]
  exact ⟨e, by unfold joinT; rw [if_neg (by rw [e]; exact h)]⟩
theorem join_none {l : List Hdr} {name : ByteArray} (h : askC l name = 0) (hv : valsOf (lowS name) l = []) : joinC l name = 4 ∧ joinT l name = ⟨#[]⟩ := by
  have e : joinC l name = 4 := by unfold joinC; rw [if_pos h, if_pos hv]
  exact ⟨e, by unfold joinT; rw [if_neg (by rw [e]; decide)]⟩
theorem join_some {l : List Hdr} {name : ByteArray} (h : askC l name = 0) (hv : valsOf (lowS name) l ≠ []) : joinC l name = 0 ∧ joinT l name = ⟨(hjoinL (valsOf (lowS name) l)).toArray⟩ := by
  have e : joinC l name = 0 := by unfold joinC; rw [if_pos h, if_neg hv]
  exact ⟨e, by unfold joinT; rw [if_pos e]⟩
/-- What is left without the lines whose name, in small letters, is x. -/
def dropH (x : ByteArray) (l : List Hdr) : List Hdr := l.filter fun r => decide (¬ lowS r.name = x)
theorem dropH_yes {x : ByteArray} {r : Hdr} (l : List Hdr) (h : lowS r.name = x) : dropH x (l ++ [r]) = dropH x l := by simp [dropH, h]
theorem dropH_no {x : ByteArray} {r : Hdr} (l : List Hdr) (h : ¬ lowS r.name = x) : dropH x (l ++ [r]) = dropH x l ++ [r] := by simp [dropH, h]
theorem dropH_len (x : ByteArray) (l : List Hdr) : (dropH x l).length ≤ l.length := List.length_filter_le _ _
def dropL (l : List Hdr) (name : ByteArray) : List Hdr := if askC l name = 0 then dropH (lowS name) l else []
/-- Where the first line of that name stands. -/
def firstAt (x : ByteArray) : List Hdr → Option Nat
  | [] => none
  | r :: l => if lowS r.name = x then some 0 else (firstAt x l).map (· + 1)
theorem firstAt_none {x : ByteArray} : ∀ {l : List Hdr}, firstAt x l = none → ∀ r ∈ l, ¬ lowS r.name = x
  | [], _, r, hr => by simp at hr
  | y :: l, h, r, hr => by
    by_cases c : lowS y.name = x
    · rw [firstAt, if_pos c] at h; cases h
    · rw [firstAt, if_neg c] at h
      rcases List.mem_cons.1 hr with rfl | hr
      · exact c
      · exact firstAt_none (Option.map_eq_none_iff.1 h) r hr
theorem firstAt_lt {x : ByteArray} : ∀ {l : List Hdr} {i : Nat}, firstAt x l = some i → i < l.length
  | [], i, h => by simp [firstAt] at h
  | y :: l, i, h => by
    by_cases c : lowS y.name = x
    · rw [firstAt, if_pos c] at h; obtain rfl := Option.some.inj h; simp
    · rw [firstAt, if_neg c] at h
      obtain ⟨j, hj, rfl⟩ := Option.map_eq_some_iff.1 h
      have := firstAt_lt hj
      simp only [List.length_cons]; omega
theorem firstAt_snoc {x : ByteArray} (r : Hdr) : ∀ (l : List Hdr), firstAt x (l ++ [r]) = match firstAt x l with | some i => some i | none => if lowS r.name = x then some l.length else none
  | [] => by simp [firstAt]
  | y :: l => by
    by_cases c : lowS y.name = x
    · simp [firstAt, c]
    · simp only [List.cons_append, firstAt, if_neg c]
      rw [firstAt_snoc r l]
      cases firstAt x l with
      | some i => rfl
      | none => simp only [Option.map_none]; split <;> simp
theorem valsOf_first {x : ByteArray} : ∀ {l : List Hdr}, valsOf x l = [] ↔ firstAt x l = none
  | [] => by simp [valsOf, firstAt]
  | y :: l => by
    by_cases c : lowS y.name = x
    · simp [valsOf, firstAt, c]
    · have := @valsOf_first x l
      simp only [valsOf] at this
      simp only [valsOf, firstAt, List.filter_cons, c, decide_false, Bool.false_eq_true, if_false, this, Option.map_eq_none_iff]
theorem valsOf_drop {x : ByteArray} : ∀ {l : List Hdr} {i : Nat}, firstAt x l = some i → valsOf x (l.drop i) = valsOf x l ∧ valsOf x (l.take i) = []
  | [], i, h => by simp [firstAt] at h
  | y :: l, i, h => by
    by_cases c : lowS y.name = x
    · rw [firstAt, if_pos c] at h; obtain rfl := Option.some.inj h; simp [valsOf]
    · rw [firstAt, if_neg c] at h
      obtain ⟨j, hj, rfl⟩ := Option.map_eq_some_iff.1 h
      have := valsOf_drop hj
      simp only [valsOf] at this
      simp only [valsOf, List.drop_succ_cons, List.take_succ_cons, List.filter_cons, c, decide_false, Bool.false_eq_true, if_false]
      exact this
/-- A line set. -/
def setGo (h : Hdr) : Bool → List Hdr → List Hdr
  | done, [] => if done = true then [] else [h]
  | done, r :: l => if lowS r.name = lowS h.name then (if done = true then setGo h true l else h :: setGo h true l) else r :: setGo h done l
theorem setGo_done (h : Hdr) : ∀ l : List Hdr, setGo h true l = dropH (lowS h.name) l
  | [] => by simp [setGo, dropH]
  | r :: l => by
    have ih := setGo_done h l
    by_cases c : lowS r.name = lowS h.name
    · simp only [setGo, if_true, ih, dropH, List.filter_cons, c, not_true_eq_false, decide_false, Bool.false_eq_true, if_false]
    · simp [setGo, ih, dropH, c]
theorem setGo_first (h : Hdr) : ∀ (l : List Hdr), setGo h false l = match firstAt (lowS h.name) l with
    | some i => (dropH (lowS h.name) l).take i ++ [h] ++ (dropH (lowS h.name) l).drop i
    | none => dropH (lowS h.name) l ++ [h]
  | [] => by simp [setGo, firstAt, dropH]
  | r :: l => by
    have ih := setGo_first h l
    by_cases c : lowS r.name = lowS h.name
    · simp only [setGo, firstAt, setGo_done, dropH, List.filter_cons, c, not_true_eq_false, decide_false, Bool.false_eq_true, if_false]
      simp
    · simp only [setGo, if_neg c, firstAt]
      rw [ih]
      have e : dropH (lowS h.name) (r :: l) = r :: dropH (lowS h.name) l := by simp [dropH, c]
      rw [e]
      cases firstAt (lowS h.name) l with
      | none => simp
      | some i => simp
theorem dropH_all {x : ByteArray} {l : List Hdr} (h : firstAt x l = none) : dropH x l = l := by
  unfold dropH
  rw [List.filter_eq_self]
  intro r hr
  simpa using firstAt_none h r hr
theorem setGo_len (h : Hdr) (l : List Hdr) : (setGo h false l).length = match firstAt (lowS h.name) l with | some _ => (dropH (lowS h.name) l).length + 1 | none => l.length + 1 := by
  rw [setGo_first]
  cases c : firstAt (lowS h.name) l with
  | none => simp [dropH_all c]
  | some i =>
    simp only [List.length_append, List.length_cons, List.length_nil, List.length_take, List.length_drop]
    omega
theorem dropH_lt {x : ByteArray} {i : Nat} : ∀ {l : List Hdr}, firstAt x l = some i → (dropH x l).length < l.length
  | [], h => by simp [firstAt] at h
  | r :: l, h => by
    by_cases c : lowS r.name = x
    · have := dropH_len x l
      simp only [dropH] at this
      simp only [dropH, List.filter_cons, c, not_true_eq_false, decide_false, Bool.false_eq_true, if_false, List.length_cons]
      omega
    · rw [firstAt, if_neg c] at h
      obtain ⟨j, hj, rfl⟩ := Option.map_eq_some_iff.1 h
      have := dropH_lt hj
      simp only [dropH] at this
      simp only [dropH, List.filter_cons, c, not_false_eq_true, decide_true, if_true, List.length_cons]
      omega
def setC (l : List Hdr) (h : Hdr) : Int := if askC l h.name = 0 then (if faultH h = 0 then (if 20 < (setGo h false l).length then 2 else 0) else faultH h) else askC l h.name
def setL (l : List Hdr) (h : Hdr) : List Hdr := if setC l h = 0 then setGo h false l else []
end Go.Proofs.YtgfbahjpaaanoaaGreatDoor
/-
  What the model's l1WordByte answers at any byte.
-/
namespace Go.Proofs.YtgfbahjpaaanoaaGreatDoor
open Go.ChangeShapes Go.WideShapes Go.ChangeAt Go.RowKit
set_option maxHeartbeats 400000 in
theorem wordByte_33 (w : World) :
    Calls Tryz.prog 115 #[.int .u8 33] w fun e w' => e = .returned (.bool (wordI 33)) ∧ w' = w := by
  have W : wordI 33 = true := by decide +kernel
  rw [W]
  clear W
  go_enter Tryz.func115, Tryz.ntmps115
  go_wp2
  go_ret
  exact ⟨rfl, rfl⟩
set_option maxHeartbeats 400000 in
theorem wordByte_35 (w : World) :
    Calls Tryz.prog 115 #[.int .u8 35] w fun e w' => e = .returned (.bool (wordI 35)) ∧ w' = w := by
  have W : wordI 35 = true := by decide +kernel
  rw [W]
  clear W
  go_enter Tryz.func115, Tryz.ntmps115
  go_wp2
  go_ret
  exact ⟨rfl, rfl⟩
set_option maxHeartbeats 400000 in
theorem wordByte_36 (w : World) :
    Calls Tryz.prog 115 #[.int .u8 36] w fun e w' => e = .returned (.bool (wordI 36)) ∧ w' = w := by
  have W : wordI 36 = true := by decide +kernel
  rw [W]
  clear W
  go_enter Tryz.func115, Tryz.ntmps115
  go_wp2
  go_ret
  exact ⟨rfl, rfl⟩
set_option maxHeartbeats 400000 in
theorem wordByte_37 (w : World) :
    Calls Tryz.prog 115 #[.int .u8 37] w fun e w' => e = .returned (.bool (wordI 37)) ∧ w' = w := by
  have W : wordI 37 = true := by decide +kernel
  rw [W]
  clear W
  go_enter Tryz.func115, Tryz.ntmps115
  go_wp2
  go_ret
  exact ⟨rfl, rfl⟩
set_option maxHeartbeats 400000 in
theorem wordByte_38 (w : World) :
    Calls Tryz.prog 115 #[.int .u8 38] w fun e w' => e = .returned (.bool (wordI 38)) ∧ w' = w := by
  have W : wordI 38 = true := by decide +kernel
  rw [W]
  clear W
  go_enter Tryz.func115, Tryz.ntmps115
  go_wp2
  go_ret
  exact ⟨rfl, rfl⟩
set_option maxHeartbeats 400000 in
theorem wordByte_39 (w : World) :
    Calls Tryz.prog 115 #[.int .u8 39] w fun e w' => e = .returned (.bool (wordI 39)) ∧ w' = w := by
  have W : wordI 39 = true := by decide +kernel
  rw [W]
  clear W
  go_enter Tryz.func115, Tryz.ntmps115
  go_wp2
  go_ret
  exact ⟨rfl, rfl⟩
set_option maxHeartbeats 400000 in
theorem wordByte_42 (w : World) :
    Calls Tryz.prog 115 #[.int .u8 42] w fun e w' => e = .returned (.bool (wordI 42)) ∧ w' = w := by
  have W : wordI 42 = true := by decide +kernel
  rw [W]
  clear W
  go_enter Tryz.func115, Tryz.ntmps115
  go_wp2
  go_ret
  exact ⟨rfl, rfl⟩
set_option maxHeartbeats 400000 in
theorem wordByte_43 (w : World) :
    Calls Tryz.prog 115 #[.int .u8 43] w fun e w' => e = .returned (.bool (wordI 43)) ∧ w' = w := by
  have W : wordI 43 = true := by decide +kernel
  rw [W]
  clear W
  go_enter Tryz.func115, Tryz.ntmps115
  go_wp2
  go_ret
  exact ⟨rfl, rfl⟩
set_option maxHeartbeats 400000 in
theorem wordByte_45 (w : World) :
    Calls Tryz.prog 115 #[.int .u8 45] w fun e w' => e = .returned (.bool (wordI 45)) ∧ w' = w := by
  have W : wordI 45 = true := by decide +kernel
  rw [W]
  clear W
  go_enter Tryz.func115, Tryz.ntmps115
  go_wp2
  go_ret
  exact ⟨rfl, rfl⟩
set_option maxHeartbeats 400000 in
theorem wordByte_46 (w : World) :
    Calls Tryz.prog 115 #[.int .u8 46] w fun e w' => e = .returned (.bool (wordI 46)) ∧ w' = w := by
  have W : wordI 46 = true := by decide +kernel
  rw [W]
  clear W
  go_enter Tryz.func115, Tryz.ntmps115
  go_wp2
  go_ret
  exact ⟨rfl, rfl⟩
set_option maxHeartbeats 400000 in
theorem wordByte_94 (w : World) :
    Calls Tryz.prog 115 #[.int .u8 94] w fun e w' => e = .returned (.bool (wordI 94)) ∧ w' = w := by
  have W : wordI 94 = true := by decide +kernel
  rw [W]
  clear W
  go_enter Tryz.func115, Tryz.ntmps115
  go_wp2
  go_ret
  exact ⟨rfl, rfl⟩
set_option maxHeartbeats 400000 in
theorem wordByte_95 (w : World) :
    Calls Tryz.prog 115 #[.int .u8 95] w fun e w' => e = .returned (.bool (wordI 95)) ∧ w' = w := by
  have W : wordI 95 = true := by decide +kernel
  rw [W]
  clear W
  go_enter Tryz.func115, Tryz.ntmps115
  go_wp2
  go_ret
  exact ⟨rfl, rfl⟩
set_option maxHeartbeats 400000 in
theorem wordByte_124 (w : World) :
    Calls Tryz.prog 115 #[.int .u8 124] w fun e w' => e = .returned (.bool (wordI 124)) ∧ w' = w := by
  have W : wordI 124 = true := by decide +kernel
  rw [W]
  clear W
  go_enter Tryz.func115, Tryz.ntmps115
  go_wp2
  go_ret
  exact ⟨rfl, rfl⟩
set_option maxHeartbeats 400000 in
theorem wordByte_126 (w : World) :
    Calls Tryz.prog 115 #[.int .u8 126] w fun e w' => e = .returned (.bool (wordI 126)) ∧ w' = w := by
  have W : wordI 126 = true := by decide +kernel
  rw [W]
  clear W
  go_enter Tryz.func115, Tryz.ntmps115
  go_wp2
  go_ret
  exact ⟨rfl, rfl⟩
set_option maxHeartbeats 1000000 in
theorem wordByte_else (c : Int) (w : World) (h0 : 0 ≤ c) (h1 : c < 256) (hs : signI c.toNat = false) :
    Calls Tryz.prog 115 #[.int .u8 c] w fun e w' => e = .returned (.bool (wordI c)) ∧ w' = w := by
  have HE : Hid (wordI c = ((decide (97 ≤ c) && decide (c ≤ 122)) || (decide (65 ≤ c) && decide (c ≤ 90)) || (decide (48 ≤ c) && decide (c ≤ 57)))) := by
    show _ = _
    rw [wordI_eq c h0 h1, hs, Bool.false_or]
  obtain ⟨n, rfl⟩ := Int.eq_ofNat_of_zero_le h0
  simp only [Int.toNat_natCast, signI, List.contains_eq_mem, List.mem_cons, List.not_mem_nil, or_false, decide_eq_false_iff_not, not_or] at hs
  obtain ⟨s0, s1, s2, s3, s4, s5, s6, s7, s8, s9, s10, s11, s12, s13⟩ := hs
  have t0 : ((n : Int) == 33) = false := by simp; omega
  have t1 : ((n : Int) == 35) = false := by simp; omega
  have t2 : ((n : Int) == 36) = false := by simp; omega
  have t3 : ((n : Int) == 37) = false := by simp; omega
  have t4 : ((n : Int) == 38) = false := by simp; omega
  have t5 : ((n : Int) == 39) = false := by simp; omega
  have t6 : ((n : Int) == 42) = false := by simp; omega
  have t7 : ((n : Int) == 43) = false := by simp; omega
  have t8 : ((n : Int) == 45) = false := by simp; omega
  have t9 : ((n : Int) == 46) = false := by simp; omega
  have t10 : ((n : Int) == 94) = false := by simp; omega
  have t11 : ((n : Int) == 95) = false := by simp; omega
  have t12 : ((n : Int) == 124) = false := by simp; omega
  have t13 : ((n : Int) == 126) = false := by simp; omega
  clear s0 s1 s2 s3 s4 s5 s6 s7 s8 s9 s10 s11 s12 s13
  generalize (n : Int) = c at *
  clear n
  have key : ∀ b : Bool, wordI c = b → Ending.returned (.bool b) = .returned (.bool (wordI c)) := fun b h => by rw [h]
  have KEY : Hid (∀ b : Bool, wordI c = b → Ending.returned (.bool b) = .returned (.bool (wordI c))) := key
  clear key
  by_cases c1 : c < 48
  · have W : Hid (wordI c = false) := by
      show _ = _
      rw [HE.out]; simp; omega
    go_enter Tryz.func115, Tryz.ntmps115
    go_wp2
    go_ret
    exact ⟨KEY.out _ W.out, rfl⟩
  by_cases c2 : c ≤ 57
  · have W : Hid (wordI c = true) := by
      show _ = _
      rw [HE.out]; simp; omega
    have d1 : decide (c ≤ 57) = true := by simpa using c2
    go_enter Tryz.func115, Tryz.ntmps115
    go_wp2
    go_ret
    exact ⟨KEY.out _ W.out, rfl⟩
  have d2 : decide (c ≤ 57) = false := by simpa using c2
  by_cases c3 : c < 65
  · have W : Hid (wordI c = false) := by
      show _ = _
      rw [HE.out]; simp; omega
    go_enter Tryz.func115, Tryz.ntmps115
    go_wp2
    go_ret
    exact ⟨KEY.out _ W.out, rfl⟩
  by_cases c4 : c ≤ 90
  · have W : Hid (wordI c = true) := by
      show _ = _
      rw [HE.out]; simp; omega
    have d1 : decide (c ≤ 90) = true := by simpa using c4
    go_enter Tryz.func115, Tryz.ntmps115
    go_wp2
    go_ret
    exact ⟨KEY.out _ W.out, rfl⟩
  have d4 : decide (c ≤ 90) = false := by simpa using c4
  by_cases c5 : c < 97
  · have W : Hid (wordI c = false) := by
      show _ = _
      rw [HE.out]; simp; omega
    go_enter Tryz.func115, Tryz.ntmps115
    go_wp2
    go_ret
    exact ⟨KEY.out _ W.out, rfl⟩
  by_cases c6 : c ≤ 122
  · have W : Hid (wordI c = true) := by
      show _ = _
      rw [HE.out]; simp; omega
    have d1 : decide (c ≤ 122) = true := by simpa using c6
    go_enter Tryz.func115, Tryz.ntmps115
    go_wp2
    go_ret
    exact ⟨KEY.out _ W.out, rfl⟩
  have d6 : decide (c ≤ 122) = false := by simpa using c6
  have W : Hid (wordI c = false) := by
    show _ = _
    rw [HE.out]; simp; omega
  go_enter Tryz.func115, Tryz.ntmps115
  go_wp2
  go_ret
  exact ⟨KEY.out _ W.out, rfl⟩
theorem wordByte_any (c : Int) (w : World) (h0 : 0 ≤ c) (h1 : c < 256) :
    Calls Tryz.prog 115 #[.int .u8 c] w fun e w' => e = .returned (.bool (wordI c)) ∧ w' = w := by
  cases h : signI c.toNat
  · exact wordByte_else c w h0 h1 h
  · obtain ⟨n, rfl⟩ := Int.eq_ofNat_of_zero_le h0
    simp only [Int.toNat_natCast, signI, List.contains_eq_mem, List.mem_cons, List.not_mem_nil, or_false, decide_eq_true_eq] at h
    rcases h with rfl | rfl | rfl | rfl | rfl | rfl | rfl | rfl | rfl | rfl | rfl | rfl | rfl | rfl
    · exact wordByte_33 w
    · exact wordByte_35 w
    · exact wordByte_36 w
    · exact wordByte_37 w
    · exact wordByte_38 w
    · exact wordByte_39 w
    · exact wordByte_42 w
    · exact wordByte_43 w
    · exact wordByte_45 w
    · exact wordByte_46 w
    · exact wordByte_94 w
    · exact wordByte_95 w
    · exact wordByte_124 w
    · exact wordByte_126 w
end Go.Proofs.YtgfbahjpaaanoaaGreatDoor
/-
  What the model's IsWord answers, and hasOnly over the table.
-/
namespace Go.Proofs.YtgfbahjpaaanoaaGreatDoor
open Go.ChangeShapes Go.WideShapes Go.ChangeAt Go.RowKit
set_option maxHeartbeats 400000 in
theorem specIsWord_size (s : ByteArray) (w : World) (h : s.size < 1 ∨ 64 < s.size) :
    Calls Tryz.prog 84 #[.string s] w fun e w' => e = .returned (.bool false) ∧ w' = w := by
  rcases h with h | h
  · have hh : (s.size : Int) < 1 := by omega
    go_enter Tryz.func84, Tryz.ntmps84
    go_wp2
    go_ret
    exact ⟨rfl, rfl⟩
  · have hh : (64 : Int) < s.size := by omega
    have h1 : ¬ (s.size : Int) < 1 := by omega
    go_enter Tryz.func84, Tryz.ntmps84
    go_wp2
    go_ret
    exact ⟨rfl, rfl⟩
set_option maxHeartbeats 1000000 in
theorem specIsWord_mid (s : ByteArray) (w : World) (h1 : 1 ≤ s.size) (h2 : s.size ≤ 64) :
    Calls Tryz.prog 84 #[.string s] w fun e w' => e = .returned (.bool (allW s.data.toList)) ∧ w' = w := by
  have g1 : ¬ (s.size : Int) < 1 := by omega
  have g2 : ¬ (64 : Int) < s.size := by omega
  go_enter Tryz.func84, Tryz.ntmps84
  go_wp2
  go_loop [3] (fun i => ∃ k : Nat, k ≤ s.size ∧ i = .int .i64 k ∧ allW (s.data.toList.take k) = true) (fun i => s.size - (intOf i).toNat)
  case atStart => exact ⟨0, Nat.zero_le _, rfl, rfl⟩
  case round =>
    obtain ⟨k, hk, rfl, hall⟩ := hrel
    by_cases hlt : k < s.size
    · have hb : ((s[k].toNat : Nat) : Int) < 256 := by have := s[k].toNat_lt; omega
      cases hw : wordI (s[k].toNat : Int)
      · have HN : Hid (allW s.data.toList = false) := allW_not s k hlt hw
        have HW : Hid (wordI (s[k].toNat : Int) = false) := hw
        clear hall hw
        go_wp2_with fail
        refine (wordByte_any _ _ (by omega) hb).mono ?_
        rintro e w' ⟨rfl, rfl⟩
        rw [HW.out]
        go_wp2
        go_ret
        exact ⟨ret_bool HN.out.symm, rfl⟩
      · have HA : Hid (allW (s.data.toList.take (k + 1)) = true) := by
          show _ = _
          rw [take_snoc s k hlt, allW_snoc, hall, hw]; rfl
        have HW : Hid (wordI (s[k].toNat : Int) = true) := hw
        clear hall hw
        go_wp2_with fail
        refine (wordByte_any _ _ (by omega) hb).mono ?_
        rintro e w' ⟨rfl, rfl⟩
        rw [HW.out]
        go_wp2
        go_round
        case rel => exact ⟨k + 1, by omega, by go_num, HA.out⟩
        case measure => simp [intOf]; omega
    · have ek : s.data.toList.take k = s.data.toList := List.take_of_length_le (by simp; omega)
      rw [ek] at hall
      have HN : Hid (allW s.data.toList = true) := hall
      clear ek hall
      go_wp2
      go_ret
      exact ⟨ret_bool HN.out.symm, rfl⟩
theorem specIsWord_any (s : ByteArray) (w : World) :
    Calls Tryz.prog 84 #[.string s] w fun e w' => e = .returned (.bool (wordS s)) ∧ w' = w := by
  by_cases c : s.size < 1 ∨ 64 < s.size
  · have h : wordS s = false := by
      rcases c with c | c
      · exact wordS_short s c
      · exact wordS_long s c
    rw [h]; exact specIsWord_size s w c
  · rw [wordS_mid s (by omega) (by omega)]
    exact specIsWord_mid s w (by omega) (by omega)
set_option maxHeartbeats 1000000 in
theorem hasOnly_any (s : ByteArray) (cs : Array Value) (w : World) (hs : s.size ≤ 64) (hcs : ∀ i, i < 128 → cs[i]? = some (.bool (wordI (i : Int)))) :
    Calls Tryz.prog 83 #[.string s, .agg cs] w fun e w' => e = .returned (.bool (allW s.data.toList)) ∧ Below w.heap.size w w' := by
  have hcell : ∀ i, i < 128 → (w.alloc (.cells cs 119)).cell? ⟨w.heap.size, i, none⟩ = some (.bool (wordI (i : Int))) := fun i hi => by
    rw [World.cell?_alloc_mark]; exact hcs i hi
  have HC : Hid (∀ i, i < 128 → (w.alloc (.cells cs 119)).cell? ⟨w.heap.size, i, none⟩ = some (.bool (wordI (i : Int)))) := hcell
  clear hcell hcs
  go_enter Tryz.func83, Tryz.ntmps83
  go_wp2
  go_loop [9] (fun i => ∃ k : Nat, k ≤ s.size ∧ i = .int .i64 k ∧ allW (s.data.toList.take k) = true) (fun i => s.size - (intOf i).toNat)
  case atStart => exact ⟨0, Nat.zero_le _, rfl, rfl⟩
  case round =>
    obtain ⟨k, hk, rfl, hall⟩ := hrel
    by_cases hlt : k < s.size
    · have hb : ((s[k].toNat : Nat) : Int) < 256 := by have := s[k].toNat_lt; omega
      by_cases hbig : 128 ≤ (s[k].toNat : Int)
      · have HN : Hid (allW s.data.toList = false) := allW_not s k hlt (wordI_big _ hbig)
        clear hall
        go_wp2
        go_ret
        exact ⟨ret_bool HN.out.symm, (Below.refl _ _).alloc (Nat.le_refl _) _⟩
      · have hc := HC.out s[k].toNat (by omega)
        cases hw : wordI (s[k].toNat : Int)
        · have HN : Hid (allW s.data.toList = false) := allW_not s k hlt hw
          rw [hw] at hc
          clear hall hw
          go_wp2
          go_ret
          exact ⟨ret_bool HN.out.symm, (Below.refl _ _).alloc (Nat.le_refl _) _⟩
        · have HA : Hid (allW (s.data.toList.take (k + 1)) = true) := by
            show _ = _
            rw [take_snoc s k hlt, allW_snoc, hall, hw]; rfl
          rw [hw] at hc
          clear hall hw
          go_wp2
          go_round
          case rel => exact ⟨k + 1, by omega, by go_num, HA.out⟩
          case measure => simp [intOf]; omega
    · have ek : s.data.toList.take k = s.data.toList := List.take_of_length_le (by simp; omega)
      rw [ek] at hall
      have HN : Hid (allW s.data.toList = true) := hall
      clear ek hall
      go_wp2
      go_ret
      exact ⟨ret_bool HN.out.symm, (Below.refl _ _).alloc (Nat.le_refl _) _⟩
end Go.Proofs.YtgfbahjpaaanoaaGreatDoor
/-
  A slice of bytes that the call itself grows: one byte more.
-/
namespace Go.Proofs.YtgfbahjpaaanoaaGreatDoor
open Go.ChangeShapes Go.WideShapes Go.ChangeAt Go.RowKit
theorem infoByteB : (Tryz.prog.info? 5).map (fun i => (i.zero, i.size, i.bytes)) = some (some (.int .u8 0), 1, 1) := by kernel_rfl
def bytesW (l : List UInt8) : List Value := l.map fun c => Value.int .u8 (c.toNat : Int)
/-- v, a slice that is not nil, holds the bytes l in a row of the call's own, from block base on. -/
structure OwnB (w : World) (base : Nat) (v : Value) (l : List UInt8) : Prop where
  own : w.ownsRow base 5 1 v l.length (bytesW l)
  nn : v ≠ .slice none 0 0
theorem own_geB {w : World} {base : Nat} {e : TypeId} {size : Nat} {v : Value} {n : Nat} {xs : List Value} (h : w.ownsRow base e size v n xs) (q : Nat) (hq : v.ownBlock = some q) : base ≤ q := by
  obtain ⟨_, h | ⟨g, c, cur, rfl, hg, _⟩⟩ := h
  · rw [h.1] at hq; cases hq
  · simp only [Value.ownBlock, Option.some.injEq] at hq; omega
theorem OwnB.text {w : World} {base : Nat} {v : Value} {l : List UInt8} (h : OwnB w base v l) :
    (convert 22 9 v).run Tryz.prog w = .ok (.string ⟨l.toArray⟩) w := by
  have h0 := h.own
  obtain ⟨_, hn | ⟨g, c, cur, rfl, hg, _⟩⟩ := h.own
  · exact absurd hn.1 h.nn
  · refine run_convert_bytes_back w 22 9 5 ⟨g, 0, none⟩ c l Tryz.underlying22 Tryz.underlying5 Tryz.underlying9 ?_
    intro j hj
    have := h0.cellAt j (by omega)
    have e : (⟨g, 0, none⟩ : Addr).add j = ⟨g, j, none⟩ := by unfold Addr.add; split <;> simp_all
    rw [e, this]
    simp [bytesW, hj]
/-- A slice literal of bytes, just laid. -/
theorem OwnB.made (w : World) (base : Nat) (hb : base ≤ w.heap.size) (l : List UInt8) (hl : l.length ≤ 1000000) : OwnB (w.alloc (.cells (bytesW l).toArray 5)) base (.slice (some ⟨w.heap.size, 0, none⟩) l.length l.length) l where
  own := ⟨by simp [bytesW], .inr ⟨w.heap.size, l.length, (bytesW l).toArray, rfl, hb, heap_alloc_new _ _, Nat.le_refl _, by unfold maxLen; omega, by simp [bytesW], by simp [bytesW, List.take_of_length_le]⟩⟩
  nn := by simp
theorem OwnB.below {w w' : World} {base : Nat} {v : Value} {l : List UInt8} (h : OwnB w base v l) (hb : Below w.heap.size w w') : OwnB w' base v l := by
  refine ⟨?_, h.nn⟩
  obtain ⟨h1, h2⟩ := h.own
  refine ⟨h1, ?_⟩
  rcases h2 with h2 | ⟨g, c, cur, e, hg, hh, hrest⟩
  · exact .inl h2
  · exact .inr ⟨g, c, cur, e, hg, by rw [hb.block g (Array.getElem?_eq_some_iff.1 hh).1]; exact hh, hrest⟩
/-- 'out = append(out, c)', the byte laid in a block of its own right ahead. -/
theorem wpList_append_byte {ops : Array Oper} {rest : List Oper} {o : Oper} {a : Act} {Q : Exit → Act → World → Prop} (w : World) (hgd : o.guard = none) (s x : Operand)
    (ho : o.op = .call { callee := .builtin .append, args := #[s, x], argTypes := #[22, 22] }) (base : Nat) (v : Value) (l : List UInt8) (z : Int) (c : UInt8)
    (hs : a.eval s = v) (hx : a.eval x = .slice (some ⟨w.heap.size, 0, none⟩) 1 1) (hown : OwnB w base v l) (hc : (c.toNat : Int) = z) (hl : l.length ≤ 1000000) (hbase : base ≤ w.heap.size)
    (h : ∀ v' w', OwnB w' base v' (l ++ [c]) → Below base w w' → w.heap.size ≤ w'.heap.size → wpList Tryz.prog ops Q rest (a.put o.dst v') w') :
    wpList Tryz.prog ops Q (o :: rest) a (w.alloc (.cells #[.int .u8 z] 5)) := by
  obtain ⟨i0, hi, hz0, hz1, hz2⟩ := info_parts infoByteB
  refine wpList_append_own _ hgd s x 22 ho base 5 i0 (.int .u8 0) 1 1 Tryz.underlying22 hi hz0 hz1 hz2 rfl (by decide) v l.length (bytesW l) hs (hown.own.alloc _) ⟨w.heap.size, 0, none⟩ 1 1 [.int .u8 z] hx rfl ?_ ?_ ?_ ?_ ?_ ?_
  · intro j u hj
    match j, hj with
    | 0, hj => simp at hj; subst hj; simp [Addr.add]
  · intro u hu; simp at hu; subst hu; rfl
  · unfold maxLen; omega
  · omega
  · simp; omega
  · intro v' w' h1 h2 h3
    have e : bytesW (l ++ [c]) = bytesW l ++ [Value.int .u8 z] := by simp [bytesW, hc]
    refine h v' w' ⟨by rw [e, List.length_append]; exact h1, fun hv => hown.nn (h3.1 hv).1⟩ ?_ ?_
    · exact ((Below.refl base w).alloc hbase _).grown h2 (by simp; omega) (fun q hq => own_geB hown.own q hq)
    · have hb := ((Below.refl 0 w).alloc (Nat.zero_le _) (.cells #[.int .u8 z] 5)).grown h2 (Nat.zero_le _) (fun q _ => Nat.zero_le _)
      exact hb.size
end Go.Proofs.YtgfbahjpaaanoaaGreatDoor
/-
  What the model's l2Plain and l2PlainText answer.
-/
namespace Go.Proofs.YtgfbahjpaaanoaaGreatDoor
open Go.ChangeShapes Go.WideShapes Go.ChangeAt Go.RowKit
set_option maxHeartbeats 400000 in
theorem plain_any (c : Int) (w : World) (h0 : 0 ≤ c) (h1 : c < 256) :
    Calls Tryz.prog 116 #[.int .u8 c] w fun e w' => e = .returned (.bool (plainI c)) ∧ w' = w := by
  by_cases e9 : c = 9
  · subst e9
    go_enter Tryz.func116, Tryz.ntmps116
    go_wp2
    go_ret
    exact ⟨rfl, rfl⟩
  · have d9 : (c == 9) = false := by simpa using e9
    by_cases a1 : 32 ≤ c
    · by_cases a2 : c ≤ 126
      · have d2 : decide (c ≤ 126) = true := by simpa using a2
        have HP : Hid (plainI c = true) := by show _ = _; simp [plainI, a1, a2]
        go_enter Tryz.func116, Tryz.ntmps116
        go_wp2
        go_ret
        exact ⟨ret_bool HP.out.symm, rfl⟩
      · have d2 : decide (c ≤ 126) = false := by simpa using a2
        have HP : Hid (plainI c = false) := by show _ = _; simp [plainI, e9]; omega
        go_enter Tryz.func116, Tryz.ntmps116
        go_wp2
        go_ret
        exact ⟨ret_bool HP.out.symm, rfl⟩
    · have HP : Hid (plainI c = false) := by show _ = _; simp [plainI, e9]; omega
      go_enter Tryz.func116, Tryz.ntmps116
      go_wp2
      go_ret
      exact ⟨ret_bool HP.out.symm, rfl⟩
set_option maxHeartbeats 1000000 in
theorem plainText_any (s : ByteArray) (w : World) (hs : s.size ≤ 1048576) :
    Calls Tryz.prog 85 #[.string s] w fun e w' => e = .returned (.bool (plainL s.data.toList)) ∧ w' = w := by
  go_enter Tryz.func85, Tryz.ntmps85
  go_wp2
  go_loop [3] (fun i => ∃ k : Nat, k ≤ s.size ∧ i = .int .i64 k ∧ plainL (s.data.toList.take k) = true) (fun i => s.size - (intOf i).toNat)
  case atStart => exact ⟨0, Nat.zero_le _, rfl, rfl⟩
  case round =>
    obtain ⟨k, hk, rfl, hall⟩ := hrel
    by_cases hlt : k < s.size
    · have hb : ((s[k].toNat : Nat) : Int) < 256 := by have := s[k].toNat_lt; omega
      cases hw : plainI (s[k].toNat : Int)
      · have HN : Hid (plainL s.data.toList = false) := plainL_not s k hlt hw
        have HW : Hid (plainI (s[k].toNat : Int) = false) := hw
        clear hall hw
        go_wp2_with fail
        refine (plain_any _ _ (by omega) hb).mono ?_
        rintro e w' ⟨rfl, rfl⟩
        rw [HW.out]
        go_wp2
        go_ret
        exact ⟨ret_bool HN.out.symm, rfl⟩
      · have HA : Hid (plainL (s.data.toList.take (k + 1)) = true) := by
          show _ = _
          rw [take_snoc s k hlt, plainL_snoc, hall, hw]; rfl
        have HW : Hid (plainI (s[k].toNat : Int) = true) := hw
        clear hall hw
        go_wp2_with fail
        refine (plain_any _ _ (by omega) hb).mono ?_
        rintro e w' ⟨rfl, rfl⟩
        rw [HW.out]
        go_wp2
        go_round
        case rel => exact ⟨k + 1, by omega, by go_num, HA.out⟩
        case measure => simp [intOf]; omega
    · have ek : s.data.toList.take k = s.data.toList := List.take_of_length_le (by simp; omega)
      rw [ek] at hall
      have HN : Hid (plainL s.data.toList = true) := hall
      clear ek hall
      go_wp2
      go_ret
      exact ⟨ret_bool HN.out.symm, rfl⟩
end Go.Proofs.YtgfbahjpaaanoaaGreatDoor
/-
  What the model's l1Trim answers.
-/
namespace Go.Proofs.YtgfbahjpaaanoaaGreatDoor
open Go.ChangeShapes Go.WideShapes Go.ChangeAt Go.RowKit
set_option maxHeartbeats 400000 in
theorem blank_any (c : Int) (w : World) :
    Calls Tryz.prog 117 #[.int .u8 c] w fun e w' => e = .returned (.bool (blankI c)) ∧ w' = w := by
  by_cases h1 : c = 32
  · subst h1
    go_enter Tryz.func117, Tryz.ntmps117
    go_wp2
    go_ret
    exact ⟨rfl, rfl⟩
  · by_cases h2 : c = 9
    · subst h2
      go_enter Tryz.func117, Tryz.ntmps117
      go_wp2
      go_ret
      exact ⟨rfl, rfl⟩
    · have d1 : (c == 32) = false := by simpa using h1
      have d2 : (c == 9) = false := by simpa using h2
      have HB : Hid (blankI c = false) := by
        show _ = _
        unfold blankI
        rw [d1, d2]; rfl
      clear h1 h2
      go_enter Tryz.func117, Tryz.ntmps117
      go_wp2
      go_ret
      exact ⟨ret_bool HB.out.symm, rfl⟩
set_option maxHeartbeats 1000000 in
theorem l1Trim_big (s : ByteArray) (w : World) (hs : s.size ≤ 1048576) :
    Calls Tryz.prog 86 #[.string s] w fun e w' => e = .returned (.string (trimT s)) ∧ w' = w := by
  go_enter Tryz.func86, Tryz.ntmps86
  go_wp2
  go_loop [3] (fun i => ∃ k : Nat, k ≤ s.size ∧ i = .int .i64 k ∧ ∀ (j : Nat) b, j < k → s.data.toList[j]? = some b → blankI (b.toNat : Int) = true) (fun i => s.size - (intOf i).toNat)
  case atStart => exact ⟨0, Nat.zero_le _, rfl, fun j b h => absurd h (Nat.not_lt_zero _)⟩
  case round =>
    obtain ⟨k, hk, rfl, hall⟩ := hrel
    have H1 : Hid (∀ (j : Nat) b, j < k → s.data.toList[j]? = some b → blankI (b.toNat : Int) = true) := hall
    clear hall
    by_cases hgo : ∃ h : k < s.size, blankI (s[k].toNat : Int) = true
    · obtain ⟨hlt, hb⟩ := hgo
      have HB : Hid (blankI (s[k].toNat : Int) = true) := hb
      clear hb
      go_wp2_with fail
      refine (blank_any _ _).mono ?_
      rintro e w' ⟨rfl, rfl⟩
      rw [HB.out]
      go_wp2
      go_round
      case rel =>
        refine ⟨k + 1, by omega, by go_num, fun j b hj hbj => ?_⟩
        by_cases e : j = k
        · subst e
          have : s.data.toList[j]? = some s[j] := by rw [List.getElem?_eq_getElem (by simpa using hlt)]; rfl
          rw [this] at hbj
          obtain rfl := Option.some.inj hbj
          exact HB.out
        · exact H1.out j b (by omega) hbj
      case measure => simp [intOf]; omega
    · have H2 : Hid (∀ b, k < s.data.toList.length → s.data.toList[k]? = some b → blankI (b.toNat : Int) = false) := by
        intro b hlt hb
        have hlt' : k < s.size := by simpa using hlt
        have : s.data.toList[k]? = some s[k] := by rw [List.getElem?_eq_getElem hlt]; rfl
        rw [this] at hb
        obtain rfl := Option.some.inj hb
        cases hx : blankI (s[k].toNat : Int)
        · rfl
        · exact absurd ⟨hlt', hx⟩ hgo
      by_cases hlt : k < s.size
      · have HB : Hid (blankI (s[k].toNat : Int) = false) := by
          show _ = _
          cases hx : blankI (s[k].toNat : Int)
          · rfl
          · exact absurd ⟨hlt, hx⟩ hgo
        clear hgo
        go_wp2_with fail
        refine (blank_any _ _).mono ?_
        rintro e w' ⟨rfl, rfl⟩
        rw [HB.out]
        clear HB
        go_wp2
        go_loop [4] (fun i => ∃ m : Nat, k ≤ m ∧ m ≤ s.size ∧ i = .int .i64 m ∧ ∀ (j : Nat) b, m ≤ j → s.data.toList[j]? = some b → blankI (b.toNat : Int) = true) (fun i => (intOf i).toNat)
        case atStart => exact ⟨s.size, hk, Nat.le_refl _, rfl, fun j b hj hb => absurd (List.getElem?_eq_some_iff.1 hb).1 (by simp; omega)⟩
        case round =>
          obtain ⟨m, hkm, hm, rfl, hall⟩ := hrel
          have H3 : Hid (∀ (j : Nat) b, m ≤ j → s.data.toList[j]? = some b → blankI (b.toNat : Int) = true) := hall
          clear hall
          by_cases hkm2 : k < m
          · obtain ⟨n, rfl⟩ : ∃ n, m = n + 1 := ⟨m - 1, by omega⟩
            have hn : n < s.size := by omega
            cases hb : blankI (s[n].toNat : Int)
            · have HB : Hid (blankI (s[n].toNat : Int) = false) := hb
              have HT : Hid (s.extract k (n + 1) = trimT s) := by
                refine trim_extract s k (n + 1) (trim_between _ k (n + 1) hkm (by simpa using hm) H1.out H2.out H3.out ?_)
                intro b _ hbn
                have : s.data.toList[n]? = some s[n] := by rw [List.getElem?_eq_getElem (by simpa using hn)]; rfl
                rw [Nat.add_sub_cancel, this] at hbn
                obtain rfl := Option.some.inj hbn
                exact HB.out
              clear hb
              go_wp2_with fail
              refine (blank_any _ _).mono ?_
              rintro e w' ⟨rfl, rfl⟩
              rw [HB.out]
              go_wp2
              go_ret
              exact ⟨ret_str HT.out, rfl⟩
            · have HB : Hid (blankI (s[n].toNat : Int) = true) := hb
              clear hb
              go_wp2_with fail
              refine (blank_any _ _).mono ?_
              rintro e w' ⟨rfl, rfl⟩
              rw [HB.out]
              go_wp2
              go_round
              case rel =>
                refine ⟨n, by omega, by omega, by go_num, fun j b hj hbj => ?_⟩
                by_cases e : j = n
                · subst e
                  have : s.data.toList[j]? = some s[j] := by rw [List.getElem?_eq_getElem (by simpa using hn)]; rfl
                  rw [this] at hbj
                  obtain rfl := Option.some.inj hbj
                  exact HB.out
                · exact H3.out j b (by omega) hbj
              case measure => simp [intOf]
          · obtain rfl : k = m := by omega
            have HT : Hid (ByteArray.empty = trimT s) := by
              have e := trim_extract s k k (trim_between _ k k (Nat.le_refl _) (by simpa using hm) H1.out H2.out H3.out (fun b h => absurd h (Nat.lt_irrefl _)))
              have e0 : s.extract k k = ByteArray.empty := by simp
              exact e0.symm.trans e
            go_wp2
            go_ret
            exact ⟨ret_str HT.out, rfl⟩
      · clear hgo
        go_wp2
        go_loop [4] (fun i => ∃ m : Nat, k ≤ m ∧ m ≤ s.size ∧ i = .int .i64 m ∧ ∀ (j : Nat) b, m ≤ j → s.data.toList[j]? = some b → blankI (b.toNat : Int) = true) (fun i => (intOf i).toNat)
        case atStart => exact ⟨s.size, hk, Nat.le_refl _, rfl, fun j b hj hb => absurd (List.getElem?_eq_some_iff.1 hb).1 (by simp; omega)⟩
        case round =>
          obtain ⟨m, hkm, hm, rfl, hall⟩ := hrel
          have H3 : Hid (∀ (j : Nat) b, m ≤ j → s.data.toList[j]? = some b → blankI (b.toNat : Int) = true) := hall
          clear hall
          obtain rfl : k = m := by omega
          have HT : Hid (ByteArray.empty = trimT s) := by
            have e := trim_extract s k k (trim_between _ k k (Nat.le_refl _) (by simpa using hm) H1.out H2.out H3.out (fun b h => absurd h (Nat.lt_irrefl _)))
            have e0 : s.extract k k = ByteArray.empty := by simp
            exact e0.symm.trans e
          go_wp2
          go_ret
          exact ⟨ret_str HT.out, rfl⟩
theorem l1Trim_any (s : ByteArray) (w : World) (hs : s.size ≤ 1000) :
    Calls Tryz.prog 86 #[.string s] w fun e w' => e = .returned (.string (trimT s)) ∧ w' = w := l1Trim_big s w (by omega)
end Go.Proofs.YtgfbahjpaaanoaaGreatDoor
/-
  What the model's l4Line and HeadersFault answer.
-/
namespace Go.Proofs.YtgfbahjpaaanoaaGreatDoor
open Go.ChangeShapes Go.WideShapes Go.ChangeAt Go.RowKit
theorem hstr_ne {a b : ByteArray} (h : a ≠ b) : (a.toList == b.toList) = false := by
  rw [beq_eq_false_iff_ne]
  intro e
  rw [ByteArray.toList_eq, ByteArray.toList_eq] at e
  exact h (ByteArray.ext (Array.ext' e))
set_option maxHeartbeats 2000000 in
theorem l4Line_any (r : Hdr) (w : World) :
    Calls Tryz.prog 64 #[.agg #[.string r.name, .string r.value]] w fun e w' => e = .returned (.int .i64 (faultH r)) ∧ Below w.heap.size w w' := by
  obtain ⟨n, v⟩ := r
  simp only
  have kb : Below w.heap.size w (w.alloc (.cells #[.string n, .string v] 49)) := (Below.refl _ _).alloc (Nat.le_refl _) _
  have KB : Hid (Below w.heap.size w (w.alloc (.cells #[.string n, .string v] 49))) := kb
  clear kb
  have HW : Hid (∀ w, Calls Tryz.prog 84 #[.string n] w fun e w' => e = .returned (.bool (wordS n)) ∧ w' = w) := specIsWord_any n
  cases hw : wordS n
  · have HE : Hid (faultH ⟨n, v⟩ = 5) := by show _ = _; simp [faultH, hw]
    rw [hw] at HW
    clear hw
    go_enter Tryz.func64, Tryz.ntmps64
    go_wp2_with fail
    refine (HW.out _).mono ?_
    rintro e w1 ⟨rfl, rfl⟩
    go_wp2_with fail
    go_ret
    exact ⟨ret_int HE.out.symm, KB.out⟩
  rw [hw] at HW
  by_cases hbig : 200 < v.size
  · have HE : Hid (faultH ⟨n, v⟩ = 2) := by show _ = _; simp only [faultH, hw]; rw [if_neg (by simp), if_pos hbig]
    have g : (200 : Int) < v.size := by omega
    clear hw
    go_enter Tryz.func64, Tryz.ntmps64
    go_wp2_with fail
    refine (HW.out _).mono ?_
    rintro e w1 ⟨rfl, rfl⟩
    go_wp2_with fail
    go_ret
    exact ⟨ret_int HE.out.symm, KB.out⟩
  have g : ¬ (200 : Int) < v.size := by omega
  have HP : Hid (∀ w, Calls Tryz.prog 85 #[.string v] w fun e w' => e = .returned (.bool (plainL v.data.toList)) ∧ w' = w) := fun w => plainText_any v w (by omega)
  have HT : Hid (∀ w, Calls Tryz.prog 86 #[.string v] w fun e w' => e = .returned (.string (trimT v)) ∧ w' = w) := fun w => l1Trim_any v w (by omega)
  cases hp : plainL v.data.toList
  · have HE : Hid (faultH ⟨n, v⟩ = 5) := by show _ = _; simp only [faultH, hw]; rw [if_neg (by simp), if_neg hbig, if_pos hp]
    rw [hp] at HP
    clear hw hp hbig
    go_enter Tryz.func64, Tryz.ntmps64
    go_wp2_with fail
    refine (HW.out _).mono ?_
    rintro e w1 ⟨rfl, rfl⟩
    go_wp2_with fail
    refine (HP.out _).mono ?_
    rintro e w1 ⟨rfl, rfl⟩
    go_wp2_with fail
    go_ret
    exact ⟨ret_int HE.out.symm, KB.out⟩
  rw [hp] at HP
  by_cases ht : trimT v = v
  · have HE : Hid (faultH ⟨n, v⟩ = 0) := by show _ = _; simp only [faultH, hw]; rw [if_neg (by simp), if_neg hbig, if_neg (by simp [hp]), if_pos ht]
    rw [ht] at HT
    clear hw hp hbig ht
    go_enter Tryz.func64, Tryz.ntmps64
    go_wp2_with fail
    refine (HW.out _).mono ?_
    rintro e w1 ⟨rfl, rfl⟩
    go_wp2_with fail
    refine (HP.out _).mono ?_
    rintro e w1 ⟨rfl, rfl⟩
    go_wp2_with fail
    refine (HT.out _).mono ?_
    rintro e w1 ⟨rfl, rfl⟩
    go_wp2_with fail
    go_ret
    exact ⟨ret_int HE.out.symm, KB.out⟩
  · have HE : Hid (faultH ⟨n, v⟩ = 5) := by show _ = _; simp only [faultH, hw]; rw [if_neg (by simp), if_neg hbig, if_neg (by simp [hp]), if_neg ht]
    have hq := hstr_ne ht
    generalize trimT v = t at *
    clear hw hp hbig ht
    go_enter Tryz.func64, Tryz.ntmps64
    go_wp2_with fail
    refine (HW.out _).mono ?_
    rintro e w1 ⟨rfl, rfl⟩
    go_wp2_with fail
    refine (HP.out _).mono ?_
    rintro e w1 ⟨rfl, rfl⟩
    go_wp2_with fail
    refine (HT.out _).mono ?_
    rintro e w1 ⟨rfl, rfl⟩
    go_wp2_with fail
    go_ret
    exact ⟨ret_int HE.out.symm, KB.out⟩
set_option maxRecDepth 100000 in
set_option maxHeartbeats 4000000 in
theorem specHFault_any (w : World) (a : Option Addr) (cap : Nat) (l : List Hdr) (hl : l.length ≤ 1048576) (hi : HdsIn w a l) :
    Calls Tryz.prog 29 #[.slice a l.length cap] w fun e w' => e = .returned (.int .i64 (headsC l)) ∧ Below w.heap.size w w' := by
  by_cases h20 : 20 < l.length
  · have HE : Hid (headsC l = 2) := headsC_many h20
    have g : (20 : Int) < (l.length : Int) := by omega
    clear hi
    generalize l.length = n at *
    go_enter Tryz.func29, Tryz.ntmps29
    go_wp2_with fail
    go_ret
    exact ⟨ret_int HE.out.symm, Below.refl _ _⟩
  have HC : Hid (headsC l = faultHL l) := headsC_few h20
  have HI : Hid (HdsIn w a l) := hi
  clear hi
  generalize hn : l.length = n at *
  have HN : Hid (l.length = n) := hn
  clear hn
  have g : ¬ (20 : Int) < (n : Int) := by omega
  go_enter Tryz.func29, Tryz.ntmps29
  go_wp2_with fail
  go_loopw [3] (fun i wr => ∃ k : Nat, k ≤ n ∧ i = .int .i64 k ∧ faultHL l = faultHL (l.drop k) ∧ Below w.heap.size w wr) (fun i _ => n - (intOf i).toNat)
  case atStart => exact ⟨0, Nat.zero_le _, rfl, rfl, Below.refl _ _⟩
  case round =>
    obtain ⟨k, hk, rfl, hf, hb⟩ := hrel
    have HF : Hid (faultHL l = faultHL (l.drop k)) := hf
    clear hf
    by_cases hlt : k < n
    · obtain ⟨r, hr⟩ : ∃ r, l[k]? = some r := ⟨l[k]'(by have := HN.out; omega), List.getElem?_eq_getElem _⟩
      rcases HI.out with h | ⟨b, off, rfl, hat⟩
      · subst h; simp at hr
      obtain ⟨p1, p3⟩ := (hat.keep hb) k r hr
      have HD : Hid (l.drop k = r :: l.drop (k + 1)) := drop_hdr l k r hr
      have gk : (k : Int) < n := by omega
      have SF : Hid (∀ w, Calls Tryz.prog 64 #[.agg #[.string r.name, .string r.value]] w fun e w' => e = .returned (.int .i64 (faultH r)) ∧ Below w.heap.size w w') := l4Line_any r
      clear hr hat HI
      by_cases hfr : faultH r = 0
      · have HX : Hid (faultHL l = faultHL (l.drop (k + 1))) := by show _ = _; rw [HF.out, HD.out, faultHL_ok hfr]
        rw [hfr] at SF
        clear hfr HD HF
        obtain ⟨rn, rv⟩ := r
        simp only at p1 p3 SF
        go_wp2_with fail
        refine (SF.out _).mono ?_
        rintro e w2 ⟨rfl, hb2⟩
        have hbb := hb.trans (hb2.mono hb.size)
        clear hb2 hb
        go_wp2_with fail
        go_roundw
        case rel => exact ⟨k + 1, by omega, by go_num, HX.out, hbb⟩
        case measure => simp [intOf]; omega
      · have HX : Hid (headsC l = faultH r) := by show _ = _; rw [HC.out, HF.out, HD.out, faultHL_bad hfr]
        clear HD HF HC
        obtain ⟨rn, rv⟩ := r
        simp only at p1 p3 SF
        generalize faultH ⟨rn, rv⟩ = fr at *
        go_wp2_with fail
        refine (SF.out _).mono ?_
        rintro e w2 ⟨rfl, hb2⟩
        have hbb := hb.trans (hb2.mono hb.size)
        clear hb2 hb
        go_wp2_with fail
        go_ret
        exact ⟨ret_int HX.out.symm, hbb⟩
    · have HX : Hid (headsC l = 0) := by
        show _ = _
        rw [HC.out, HF.out, List.drop_of_length_le (by have := HN.out; omega)]
        rfl
      clear HF HC
      go_wp2_with fail
      go_ret
      exact ⟨ret_int HX.out.symm, hb⟩
end Go.Proofs.YtgfbahjpaaanoaaGreatDoor
/-
  What isPlain and allPlain answer.
-/
namespace Go.Proofs.YtgfbahjpaaanoaaGreatDoor
open Go.ChangeShapes Go.WideShapes Go.ChangeAt Go.RowKit
set_option maxHeartbeats 400000 in
theorem iplain_any (c : Int) (w : World) (h0 : 0 ≤ c) (h1 : c < 256) :
    Calls Tryz.prog 95 #[.int .u8 c] w fun e w' => e = .returned (.bool (plainI c)) ∧ w' = w := by
  by_cases e9 : c = 9
  · subst e9
    go_enter Tryz.func95, Tryz.ntmps95
    go_wp2
    go_ret
    exact ⟨rfl, rfl⟩
  · have d9 : (c == 9) = false := by simpa using e9
    by_cases a1 : 32 ≤ c
    · by_cases a2 : c ≤ 126
      · have d2 : decide (c ≤ 126) = true := by simpa using a2
        have HP : Hid (plainI c = true) := by show _ = _; simp [plainI, a1, a2]
        go_enter Tryz.func95, Tryz.ntmps95
        go_wp2
        go_ret
        exact ⟨ret_bool HP.out.symm, rfl⟩
      · have d2 : decide (c ≤ 126) = false := by simpa using a2
        have HP : Hid (plainI c = false) := by show _ = _; simp [plainI, e9]; omega
        go_enter Tryz.func95, Tryz.ntmps95
        go_wp2
        go_ret
        exact ⟨ret_bool HP.out.symm, rfl⟩
    · have HP : Hid (plainI c = false) := by show _ = _; simp [plainI, e9]; omega
      go_enter Tryz.func95, Tryz.ntmps95
      go_wp2
      go_ret
      exact ⟨ret_bool HP.out.symm, rfl⟩
set_option maxHeartbeats 1000000 in
theorem allPlain_any (s : ByteArray) (w : World) (hs : s.size ≤ 1048576) :
    Calls Tryz.prog 73 #[.string s] w fun e w' => e = .returned (.bool (plainL s.data.toList)) ∧ w' = w := by
  go_enter Tryz.func73, Tryz.ntmps73
  go_wp2
  go_loop [6] (fun i => ∃ k : Nat, k ≤ s.size ∧ i = .int .i64 k ∧ plainL (s.data.toList.take k) = true) (fun i => s.size - (intOf i).toNat)
  case atStart => exact ⟨0, Nat.zero_le _, rfl, rfl⟩
  case round =>
    obtain ⟨k, hk, rfl, hall⟩ := hrel
    by_cases hlt : k < s.size
    · have hb : ((s[k].toNat : Nat) : Int) < 256 := by have := s[k].toNat_lt; omega
      cases hw : plainI (s[k].toNat : Int)
      · have HN : Hid (plainL s.data.toList = false) := plainL_not s k hlt hw
        have HW : Hid (plainI (s[k].toNat : Int) = false) := hw
        clear hall hw
        go_wp2_with fail
        refine (iplain_any _ _ (by omega) hb).mono ?_
        rintro e w' ⟨rfl, rfl⟩
        rw [HW.out]
        go_wp2
        go_ret
        exact ⟨ret_bool HN.out.symm, rfl⟩
      · have HA : Hid (plainL (s.data.toList.take (k + 1)) = true) := by
          show _ = _
          rw [take_snoc s k hlt, plainL_snoc, hall, hw]; rfl
        have HW : Hid (plainI (s[k].toNat : Int) = true) := hw
        clear hall hw
        go_wp2_with fail
        refine (iplain_any _ _ (by omega) hb).mono ?_
        rintro e w' ⟨rfl, rfl⟩
        rw [HW.out]
        go_wp2
        go_round
        case rel => exact ⟨k + 1, by omega, by go_num, HA.out⟩
        case measure => simp [intOf]; omega
    · have ek : s.data.toList.take k = s.data.toList := List.take_of_length_le (by simp; omega)
      rw [ek] at hall
      have HN : Hid (plainL s.data.toList = true) := hall
      clear ek hall
      go_wp2
      go_ret
      exact ⟨ret_bool HN.out.symm, rfl⟩
end Go.Proofs.YtgfbahjpaaanoaaGreatDoor
/-
  What IsWord answers where the table lies in memory as the program lays it.
-/
namespace Go.Proofs.YtgfbahjpaaanoaaGreatDoor
open Go.ChangeShapes Go.WideShapes Go.ChangeAt Go.RowKit
set_option maxHeartbeats 400000 in
theorem implIsWord_size (s : ByteArray) (w : World) (h : s.size < 1 ∨ 64 < s.size) :
    Calls Tryz.prog 62 #[.string s] w fun e w' => e = .returned (.bool false) ∧ Below w.heap.size w w' := by
  rcases h with h | h
  · have hh : (s.size : Int) < 1 := by omega
    go_enter Tryz.func62, Tryz.ntmps62
    go_wp2
    go_ret
    exact ⟨rfl, Below.refl _ _⟩
  · have hh : (64 : Int) < s.size := by omega
    have h1 : (1 : Int) ≤ s.size := by omega
    have d : decide ((s.size : Int) ≤ 64) = false := by simp; omega
    go_enter Tryz.func62, Tryz.ntmps62
    go_wp2
    go_ret
    exact ⟨rfl, Below.refl _ _⟩
/-- A whole array loaded behind a guard that lets it. -/
theorem wpList_load_row_g {P : Program} {ops : Array Oper} {rest : List Oper} {o : Oper} {a : Act} {w : World} {Q : Exit → Act → World → Prop} (hw : Region.wanted o (yielded ops a.tmps) = true) (ty : TypeId) (x : Operand) (ho : o.op = .load ty x)
    (g : Nat) (hx : a.eval x = .pointer (some ⟨g, 0, none⟩)) (t : TypeId) (cs : Array Value) (fr : Nat × Nat) (d : TypeDesc) (hg : w.heap[g]? = some (.cells cs t fr))
    (hu : P.underlying ty = some d) (hd : (match d with | .struct _ | .array _ _ => true | _ => false) = true) (hi : (P.info? ty).map (·.size) = some cs.size)
    (h : wpList P ops Q rest (a.put o.dst (.agg cs)) w) : wpList P ops Q (o :: rest) a w :=
  wpList_step fun _ hK => by rw [if_pos hw]; exact wp_load_row ty x ho g hx t cs fr d hg hu hd hi (hK _ _ h)
theorem infoSet : (Tryz.prog.info? 119).map (·.size) = some 128 := by kernel_rfl
set_option maxHeartbeats 400000 in
theorem implIsWord_mid (s : ByteArray) (w : World) (cs : Array Value) (tt : TypeId) (fr : Nat × Nat) (h1 : 1 ≤ s.size) (h2 : s.size ≤ 64) (hg : w.heap[0]? = some (.cells cs tt fr)) (hsz : cs.size = 128) (hcs : ∀ i, i < 128 → cs[i]? = some (.bool (wordI (i : Int)))) :
    Calls Tryz.prog 62 #[.string s] w fun e w' => e = .returned (.bool (allW s.data.toList)) ∧ Below w.heap.size w w' := by
  have g1 : (1 : Int) ≤ s.size := by omega
  have d : decide ((s.size : Int) ≤ 64) = true := by simp; omega
  have HG : Hid (w.heap[0]? = some (.cells cs tt fr)) := hg
  have HI : Hid ((Tryz.prog.info? 119).map (·.size) = some cs.size) := by
    show _ = _
    rw [infoSet, hsz]
  have HC : Hid (∀ i, i < 128 → cs[i]? = some (.bool (wordI (i : Int)))) := hcs
  clear hcs hg hsz
  go_enter Tryz.func62, Tryz.ntmps62
  go_wp2_with (refine wpList_load_row_g (by rfl) 119 (.global 0) rfl 0 rfl tt cs fr _ HG.out Tryz.underlying119 rfl HI.out ?_)
  refine (hasOnly_any s cs _ h2 HC.out).mono ?_
  rintro e w1 ⟨rfl, hb⟩
  go_wp2
  go_ret
  exact ⟨rfl, hb⟩
theorem implIsWord_any (s : ByteArray) (w : World) (cs : Array Value) (tt : TypeId) (fr : Nat × Nat) (hg : w.heap[0]? = some (.cells cs tt fr)) (hsz : cs.size = 128) (hcs : ∀ i, i < 128 → cs[i]? = some (.bool (wordI (i : Int)))) :
    Calls Tryz.prog 62 #[.string s] w fun e w' => e = .returned (.bool (wordS s)) ∧ Below w.heap.size w w' := by
  by_cases c : s.size < 1 ∨ 64 < s.size
  · have h : wordS s = false := by
      rcases c with c | c
      · exact wordS_short s c
      · exact wordS_long s c
    rw [h]; exact implIsWord_size s w c
  · rw [wordS_mid s (by omega) (by omega)]
    exact implIsWord_mid s w cs tt fr (by omega) (by omega) hg hsz hcs
end Go.Proofs.YtgfbahjpaaanoaaGreatDoor
/-
  The law of IsWord out of contracts; what the row's list gives.
-/
namespace Go.Proofs.YtgfbahjpaaanoaaGreatDoor
open Go.ChangeShapes Go.WideShapes Go.ChangeAt Go.RowKit
/-- An array of bools that reads as a table holds the table, cell for cell. -/
theorem cells_of_bools {H : Type} {enc : TypeId × Value → H} {P : Program} {w : World} {base : Nat} {sp : Nat → Bool} {held : Bool} {fuel : Nat} {t e : TypeId} {n : Nat} {cs : List Value} {zs : List Bool} {p : List MemPlace}
    (ht : P.underlying t = some (.array n e)) (he : P.underlying e = some .bool) (hce : P.cellsOf e = 1) (hct : P.cellsOf t = n)
    (h : DataW.trod enc P w base sp held fuel t cs = some (.agg (zs.map fun z => .lit (.bool z)), p)) : cs = zs.map fun z => Value.bool z := by
  cases fuel with
  | zero => simp [DataW.trod] at h
  | succ fuel =>
    simp only [DataW.trod, ht, hce, hct, Nat.mul_one] at h
    split at h
    · rename_i hl
      obtain ⟨xs, hm, hx⟩ := Option.map_eq_some_iff.1 h
      have hxs : xs.map (·.1) = zs.map fun z => (DataW.lit (.bool z) : DataW H) := by
        have := congrArg Prod.fst hx
        simpa using this
      have hxl : xs.length = n := by simpa using Lib.mapM_length hm
      have hzl : zs.length = n := by
        have := congrArg List.length hxs
        simp at this
        omega
      apply List.ext_getElem?
      intro i
      by_cases hi : i < n
      · obtain ⟨b, hb, hf⟩ := Lib.mapM_at hm i i (by simp [hi])
        obtain ⟨z, hc, rfl⟩ := DataW.trod_bool he hf
        have h1 : cs[i]? = some (.bool z) := by
          have := congrArg (·[0]?) hc
          simpa [List.getElem?_take, List.getElem?_drop] using this
        have h2 : (xs.map (·.1))[i]? = some (DataW.lit (.bool z) : DataW H) := by simp [hb]
        rw [hxs] at h2
        simp only [List.getElem?_map, Option.map_eq_some_iff, DataW.lit.injEq, Lit.bool.injEq] at h2
        obtain ⟨z', hz', rfl⟩ := h2
        simp [h1, hz']
      · rw [List.getElem?_eq_none (by omega), List.getElem?_eq_none (by simp; omega)]
    · cases h
theorem setCells : Tryz.prog.cellsOf 119 = 128 := by kernel_rfl
theorem boolCells : Tryz.prog.cellsOf 4 = 1 := by kernel_rfl
theorem setNamed : Tryz.prog.globalNamed "loop.example/g00665/impl.wordBytes" = some 0 := by kernel_rfl
theorem setType : (Tryz.prog.globals[0]?).map (·.type) = some 119 := by kernel_rfl
theorem laidTab {H : Type} : (Rows.laid_loop_example_g00665_impl_wordBytes : DataW H) = .agg (wordTab.map fun z => .lit (.bool z)) := by kernel_rfl
/-- The table lies in memory. -/
def SetIs (w : World) : Prop := ∃ cs tt fr, w.heap[0]? = some (.cells cs tt fr) ∧ cs.size = 128 ∧ ∀ i, i < 128 → cs[i]? = some (.bool (wordI (i : Int)))
theorem setIs_of {w : World} {rest : List (String × DataW Unit)} (h : laidMet Tryz.prog (("loop.example/g00665/impl.wordBytes", Rows.laid_loop_example_g00665_impl_wordBytes) :: rest) w) : SetIs w := by
  obtain ⟨ps, ⟨g', t', cs, fuel, p, q, hg', ht', hvar, hd, _, _⟩, _⟩ := h
  obtain rfl := Option.some.inj (setNamed.symm.trans hg')
  obtain rfl := Option.some.inj (setType.symm.trans ht')
  rw [laidTab] at hd
  have hcs := cells_of_bools Tryz.underlying119 Tryz.underlying4 boolCells setCells hd
  unfold World.var? at hvar
  rw [setNamed] at hvar
  simp only [Option.bind_some] at hvar
  cases hb : w.heap[0]? with
  | none => rw [hb] at hvar; cases hvar
  | some o =>
    rw [hb] at hvar
    cases o with
    | cells c tt fr =>
      simp only [Option.some.injEq] at hvar
      subst hvar
      have hl : c.toList.length = 128 := by rw [hcs, List.length_map]; exact wordTab_len
      refine ⟨c, tt, fr, hb, by simpa using hl, fun i hi => ?_⟩
      rw [← Array.getElem?_toList, hcs, List.getElem?_map]
      have hi2 : i < wordTab.length := by rw [wordTab_len]; exact hi
      rw [List.getElem?_eq_getElem hi2]
      simp [wordI, hi2]
    | map _ _ => cases hvar
    | _ => cases hvar
theorem SetIs.below {w w' : World} (h : SetIs w) (hb : Below w.heap.size w w') : SetIs w' := by
  obtain ⟨cs, tt, fr, hg, h1, h2⟩ := h
  refine ⟨cs, tt, fr, ?_, h1, h2⟩
  rw [hb.block 0 (Array.getElem?_eq_some_iff.1 hg).1, hg]
theorem implIsWord_set (s : ByteArray) (w : World) (h : SetIs w) :
    Calls Tryz.prog 62 #[.string s] w fun e w' => e = .returned (.bool (wordS s)) ∧ Below w.heap.size w w' := by
  obtain ⟨cs, tt, fr, hg, h1, h2⟩ := h
  exact implIsWord_any s w cs tt fr hg h1 h2
end Go.Proofs.YtgfbahjpaaanoaaGreatDoor
/-
  Contracts of Go library functions at this program: the tables by which the library of proofs knows its functions here (made by the kit tool lay-plain).
-/
namespace Go.Proofs
open Go.Shelf
def Tryz.lays156_ren : Go.Shelf.Ren := ⟨fun | 156 => 80 | 165 => 108 | 166 => 109 | 169 => 110 | 240 => 131 | 241 => 132 | 276 => 154 | 277 => 155 | n => n, fun | 31 => 88 | 9 => 9 | 3 => 3 | 4 => 4 | 0 => 0 | 20 => 20 | 72 => 136 | 76 => 140 | 70 => 134 | 37 => 22 | 75 => 139 | 127 => 157 | 164 => 172 | 5 => 5 | 80 => 142 | n => n, fun | n => n⟩
theorem Tryz.lays156 : Go.Proofs.Lays.n156 Tryz.prog Tryz.lays156_ren := {
  mixed := by kernel_rfl
  f156 := Tryz.func80.trans (congrArg some (by kernel_rfl))
  f165 := Tryz.func108.trans (congrArg some (by kernel_rfl))
  f166 := Tryz.func109.trans (congrArg some (by kernel_rfl))
  f169 := Tryz.func110.trans (congrArg some (by kernel_rfl))
  f240 := Tryz.func131.trans (congrArg some (by kernel_rfl))
  f241 := Tryz.func132.trans (congrArg some (by kernel_rfl))
  f276 := Tryz.func154.trans (congrArg some (by kernel_rfl))
  f277 := Tryz.func155.trans (congrArg some (by kernel_rfl))
  t0 := Tryz.underlying0
  a0 := Tryz.isAgg0
  z0 := Tryz.sizeOf0
  v0 := Tryz.zeroValue0
  t3 := Tryz.underlying3
  a3 := Tryz.isAgg3
  z3 := Tryz.sizeOf3
  v3 := Tryz.zeroValue3
  t4 := Tryz.underlying4
  a4 := Tryz.isAgg4
  z4 := Tryz.sizeOf4
  v4 := Tryz.zeroValue4
  t9 := Tryz.underlying9
  a9 := Tryz.isAgg9
  z9 := Tryz.sizeOf9
  v9 := Tryz.zeroValue9
  t20 := Tryz.underlying20
  a20 := Tryz.isAgg20
  z20 := Tryz.sizeOf20
  v20 := Tryz.zeroValue20
  t31 := Tryz.underlying88
  a31 := Tryz.isAgg88
  z31 := Tryz.sizeOf88
  v31 := Tryz.zeroValue88
  t37 := Tryz.underlying22
  a37 := Tryz.isAgg22
  z37 := Tryz.sizeOf22
  v37 := Tryz.zeroValue22
  t70 := Tryz.underlying134
  a70 := Tryz.isAgg134
  z70 := Tryz.sizeOf134
  v70 := Tryz.zeroValue134
  t72 := Tryz.underlying136
  a72 := Tryz.isAgg136
  z72 := Tryz.sizeOf136
  v72 := Tryz.zeroValue136
  t75 := Tryz.underlying139
  a75 := Tryz.isAgg139
  z75 := Tryz.sizeOf139
  v75 := Tryz.zeroValue139
  t76 := Tryz.underlying140
  a76 := Tryz.isAgg140
  z76 := Tryz.sizeOf140
  v76 := Tryz.zeroValue140
  t127 := Tryz.underlying157
  a127 := Tryz.isAgg157
  z127 := Tryz.sizeOf157
  v127 := Tryz.zeroValue157
  t164 := Tryz.underlying172
  a164 := Tryz.isAgg172
  z164 := Tryz.sizeOf172
  v164 := Tryz.zeroValue172 }
def Tryz.lays160_ren : Go.Shelf.Ren := ⟨fun | 160 => 74 | 232 => 97 | 231 => 96 | 227 => 98 | 234 => 100 | 233 => 99 | 236 => 102 | 235 => 101 | 228 => 124 | 271 => 127 | 151 => 126 | 197 => 125 | 120 => 151 | 152 => 150 | 260 => 149 | 137 => 164 | 119 => 165 | 224 => 166 | 225 => 167 | 217 => 177 | 266 => 184 | n => n, fun | 9 => 9 | 4 => 4 | 3 => 3 | 5 => 5 | 117 => 125 | 116 => 124 | 0 => 0 | 124 => 128 | 21 => 21 | 105 => 152 | 46 => 177 | 119 => 176 | 139 => 180 | 138 => 179 | n => n, fun | 3 => 1 | 4 => 2 | n => n⟩
theorem Tryz.lays160 : Go.Proofs.Lays.n160 Tryz.prog Tryz.lays160_ren := {
  mixed := by kernel_rfl
  f119 := Tryz.func165.trans (congrArg some (by kernel_rfl))
  f120 := Tryz.func151.trans (congrArg some (by kernel_rfl))
  f137 := Tryz.func164.trans (congrArg some (by kernel_rfl))
  f151 := Tryz.func126.trans (congrArg some (by kernel_rfl))
  f152 := Tryz.func150.trans (congrArg some (by kernel_rfl))
  f160 := Tryz.func74.trans (congrArg some (by kernel_rfl))
  f197 := Tryz.func125.trans (congrArg some (by kernel_rfl))
  f217 := Tryz.func177.trans (congrArg some (by kernel_rfl))
  f224 := Tryz.func166.trans (congrArg some (by kernel_rfl))
  f225 := Tryz.func167.trans (congrArg some (by kernel_rfl))
  f227 := Tryz.func98.trans (congrArg some (by kernel_rfl))
  f228 := Tryz.func124.trans (congrArg some (by kernel_rfl))
  f231 := Tryz.func96.trans (congrArg some (by kernel_rfl))
  f232 := Tryz.func97.trans (congrArg some (by kernel_rfl))
  f233 := Tryz.func99.trans (congrArg some (by kernel_rfl))
  f234 := Tryz.func100.trans (congrArg some (by kernel_rfl))
  f235 := Tryz.func101.trans (congrArg some (by kernel_rfl))
  f236 := Tryz.func102.trans (congrArg some (by kernel_rfl))
  f260 := Tryz.func149.trans (congrArg some (by kernel_rfl))
  f266 := Tryz.func184.trans (congrArg some (by kernel_rfl))
  f271 := Tryz.func127.trans (congrArg some (by kernel_rfl))
  t0 := Tryz.underlying0
  a0 := Tryz.isAgg0
  z0 := Tryz.sizeOf0
  v0 := Tryz.zeroValue0
  t3 := Tryz.underlying3
  a3 := Tryz.isAgg3
  z3 := Tryz.sizeOf3
  v3 := Tryz.zeroValue3
  t4 := Tryz.underlying4
  a4 := Tryz.isAgg4
  z4 := Tryz.sizeOf4
  v4 := Tryz.zeroValue4
  t5 := Tryz.underlying5
  a5 := Tryz.isAgg5
  z5 := Tryz.sizeOf5
  v5 := Tryz.zeroValue5
  t9 := Tryz.underlying9
  a9 := Tryz.isAgg9
  z9 := Tryz.sizeOf9
  v9 := Tryz.zeroValue9
  t21 := Tryz.underlying21
  a21 := Tryz.isAgg21
  z21 := Tryz.sizeOf21
  v21 := Tryz.zeroValue21
  t46 := Tryz.underlying177
  a46 := Tryz.isAgg177
  z46 := Tryz.sizeOf177
  v46 := Tryz.zeroValue177
  t105 := Tryz.underlying152
  a105 := Tryz.isAgg152
  z105 := Tryz.sizeOf152
  v105 := Tryz.zeroValue152
  t116 := Tryz.underlying124
  a116 := Tryz.isAgg124
  z116 := Tryz.sizeOf124
  t117 := Tryz.underlying125
  a117 := Tryz.isAgg125
  z117 := Tryz.sizeOf125
  v117 := Tryz.zeroValue125
  t119 := Tryz.underlying176
  a119 := Tryz.isAgg176
  z119 := Tryz.sizeOf176
  t124 := Tryz.underlying128
  a124 := Tryz.isAgg128
  z124 := Tryz.sizeOf128
  v124 := Tryz.zeroValue128
  t138 := Tryz.underlying179
  a138 := Tryz.isAgg179
  z138 := Tryz.sizeOf179
  v138 := Tryz.zeroValue179
  t139 := Tryz.underlying180
  a139 := Tryz.isAgg180
  z139 := Tryz.sizeOf180
  v139 := Tryz.zeroValue180
  g3 := by kernel_rfl
  g4 := by kernel_rfl }
def Tryz.laysM316_ren : Go.Shelf.Ren := ⟨fun | 316 => 107 | n => n, fun | 9 => 9 | 3 => 3 | 4 => 4 | 37 => 22 | 0 => 0 | 127 => 157 | 5 => 5 | n => n, fun | n => n⟩
theorem Tryz.laysM316 : Go.Proofs.LaysM.n316 Tryz.prog Tryz.laysM316_ren := {
  mixed := by kernel_rfl
  f316 := Tryz.func107.trans (congrArg some (by kernel_rfl))
  t0 := Tryz.underlying0
  a0 := Tryz.isAgg0
  z0 := Tryz.sizeOf0
  v0 := Tryz.zeroValue0
  t3 := Tryz.underlying3
  a3 := Tryz.isAgg3
  z3 := Tryz.sizeOf3
  v3 := Tryz.zeroValue3
  t4 := Tryz.underlying4
  a4 := Tryz.isAgg4
  z4 := Tryz.sizeOf4
  v4 := Tryz.zeroValue4
  t9 := Tryz.underlying9
  a9 := Tryz.isAgg9
  z9 := Tryz.sizeOf9
  v9 := Tryz.zeroValue9
  t37 := Tryz.underlying22
  a37 := Tryz.isAgg22
  z37 := Tryz.sizeOf22
  v37 := Tryz.zeroValue22
  t127 := Tryz.underlying157
  a127 := Tryz.isAgg157
  z127 := Tryz.sizeOf157
  v127 := Tryz.zeroValue157
  t5 := Tryz.underlying5
  a5 := Tryz.isAgg5
  z5 := Tryz.sizeOf5
  v5 := Tryz.zeroValue5
  i0 := by kernel_rfl
  i3 := by kernel_rfl
  i4 := by kernel_rfl
  i5 := by kernel_rfl
  i9 := by kernel_rfl
  i37 := by kernel_rfl
  i127 := by kernel_rfl }
def Tryz.laysM145_ren : Go.Shelf.Ren := ⟨fun | 145 => 129 | 220 => 152 | 219 => 168 | 217 => 177 | 225 => 167 | 224 => 166 | 267 => 178 | 266 => 184 | 314 => 185 | n => n, fun | 9 => 9 | 4 => 4 | 59 => 155 | 3 => 3 | 5 => 5 | 46 => 177 | 146 => 198 | 51 => 194 | n => n, fun | 1 => 3 | n => n⟩
theorem Tryz.laysM145 : Go.Proofs.LaysM.n145 Tryz.prog Tryz.laysM145_ren := {
  mixed := by kernel_rfl
  f145 := Tryz.func129.trans (congrArg some (by kernel_rfl))
  f217 := Tryz.func177.trans (congrArg some (by kernel_rfl))
  f219 := Tryz.func168.trans (congrArg some (by kernel_rfl))
  f220 := Tryz.func152.trans (congrArg some (by kernel_rfl))
  f224 := Tryz.func166.trans (congrArg some (by kernel_rfl))
  f225 := Tryz.func167.trans (congrArg some (by kernel_rfl))
  f266 := Tryz.func184.trans (congrArg some (by kernel_rfl))
  f267 := Tryz.func178.trans (congrArg some (by kernel_rfl))
  f314 := Tryz.func185.trans (congrArg some (by kernel_rfl))
  t3 := Tryz.underlying3
  a3 := Tryz.isAgg3
  z3 := Tryz.sizeOf3
  v3 := Tryz.zeroValue3
  t4 := Tryz.underlying4
  a4 := Tryz.isAgg4
  z4 := Tryz.sizeOf4
  v4 := Tryz.zeroValue4
  t5 := Tryz.underlying5
  a5 := Tryz.isAgg5
  z5 := Tryz.sizeOf5
  v5 := Tryz.zeroValue5
  t9 := Tryz.underlying9
  a9 := Tryz.isAgg9
  z9 := Tryz.sizeOf9
  v9 := Tryz.zeroValue9
  t46 := Tryz.underlying177
  a46 := Tryz.isAgg177
  z46 := Tryz.sizeOf177
  v46 := Tryz.zeroValue177
  t51 := Tryz.underlying194
  a51 := Tryz.isAgg194
  z51 := Tryz.sizeOf194
  v51 := Tryz.zeroValue194
  t59 := Tryz.underlying155
  a59 := Tryz.isAgg155
  z59 := Tryz.sizeOf155
  v59 := Tryz.zeroValue155
  t146 := Tryz.underlying198
  a146 := Tryz.isAgg198
  z146 := Tryz.sizeOf198
  v146 := Tryz.zeroValue198
  g1 := by kernel_rfl
  i3 := by kernel_rfl
  i4 := by kernel_rfl
  i5 := by kernel_rfl
  i9 := by kernel_rfl
  i46 := by kernel_rfl
  i51 := by kernel_rfl
  i59 := by kernel_rfl
  i146 := by kernel_rfl
  m1 := by kernel_rfl
  s1_3 := fun w h => Go.Proofs.cell_of_shapedOpen_int (zero := #[.int .i64 0]) (t := 3) h (of_decide_eq_true (by kernel_rfl)) (by kernel_rfl) rfl (by kernel_rfl) (by kernel_rfl) Tryz.underlying3 }
def Tryz.lays99_ren : Go.Shelf.Ren := ⟨fun | 99 => 153 | 206 => 169 | n => n, fun | 9 => 9 | 4 => 4 | 3 => 3 | n => n, fun | n => n⟩
theorem Tryz.lays99 : Go.Proofs.Lays.n99 Tryz.prog Tryz.lays99_ren := {
  mixed := by kernel_rfl
  f99 := Tryz.func153.trans (congrArg some (by kernel_rfl))
  f206 := Tryz.func169.trans (congrArg some (by kernel_rfl))
  t3 := Tryz.underlying3
  a3 := Tryz.isAgg3
  z3 := Tryz.sizeOf3
  v3 := Tryz.zeroValue3
  t4 := Tryz.underlying4
  a4 := Tryz.isAgg4
  z4 := Tryz.sizeOf4
  v4 := Tryz.zeroValue4
  t9 := Tryz.underlying9
  a9 := Tryz.isAgg9
  z9 := Tryz.sizeOf9
  v9 := Tryz.zeroValue9 }
def Tryz.lays219_ren : Go.Shelf.Ren := ⟨fun | 219 => 168 | 217 => 177 | 225 => 167 | 224 => 166 | 267 => 178 | 266 => 184 | 314 => 185 | n => n, fun | 9 => 9 | 3 => 3 | 4 => 4 | 5 => 5 | 46 => 177 | 146 => 198 | 51 => 194 | n => n, fun | 1 => 3 | n => n⟩
theorem Tryz.lays219 : Go.Proofs.Lays.n219 Tryz.prog Tryz.lays219_ren := {
  mixed := by kernel_rfl
  f217 := Tryz.func177.trans (congrArg some (by kernel_rfl))
  f219 := Tryz.func168.trans (congrArg some (by kernel_rfl))
  f224 := Tryz.func166.trans (congrArg some (by kernel_rfl))
  f225 := Tryz.func167.trans (congrArg some (by kernel_rfl))
  f266 := Tryz.func184.trans (congrArg some (by kernel_rfl))
  f267 := Tryz.func178.trans (congrArg some (by kernel_rfl))
  f314 := Tryz.func185.trans (congrArg some (by kernel_rfl))
  t3 := Tryz.underlying3
  a3 := Tryz.isAgg3
  z3 := Tryz.sizeOf3
  v3 := Tryz.zeroValue3
  t4 := Tryz.underlying4
  a4 := Tryz.isAgg4
  z4 := Tryz.sizeOf4
  v4 := Tryz.zeroValue4
  t5 := Tryz.underlying5
  a5 := Tryz.isAgg5
  z5 := Tryz.sizeOf5
  v5 := Tryz.zeroValue5
  t9 := Tryz.underlying9
  a9 := Tryz.isAgg9
  z9 := Tryz.sizeOf9
  v9 := Tryz.zeroValue9
  t46 := Tryz.underlying177
  a46 := Tryz.isAgg177
  z46 := Tryz.sizeOf177
  v46 := Tryz.zeroValue177
  t51 := Tryz.underlying194
  a51 := Tryz.isAgg194
  z51 := Tryz.sizeOf194
  v51 := Tryz.zeroValue194
  t146 := Tryz.underlying198
  a146 := Tryz.isAgg198
  z146 := Tryz.sizeOf198
  v146 := Tryz.zeroValue198
  g1 := by kernel_rfl }
def Tryz.laysM173_ren : Go.Shelf.Ren := ⟨fun | 173 => 139 | 246 => 160 | 283 => 172 | 284 => 173 | 285 => 174 | 286 => 175 | 129 => 180 | 317 => 179 | 318 => 181 | 319 => 182 | 320 => 183 | 337 => 186 | 338 => 187 | n => n, fun | 2 => 2 | 3 => 3 | 9 => 9 | 4 => 4 | 171 => 186 | 0 => 0 | 53 => 187 | 37 => 22 | 5 => 5 | 173 => 190 | 212 => 193 | 51 => 194 | 20 => 20 | 213 => 195 | 46 => 177 | 232 => 201 | 233 => 202 | n => n, fun | 17 => 4 | 18 => 5 | 19 => 6 | n => n⟩
theorem Tryz.laysM173 : Go.Proofs.LaysM.n173 Tryz.prog Tryz.laysM173_ren := {
  mixed := by kernel_rfl
  f129 := Tryz.func180.trans (congrArg some (by kernel_rfl))
  f173 := Tryz.func139.trans (congrArg some (by kernel_rfl))
  f246 := Tryz.func160.trans (congrArg some (by kernel_rfl))
  f283 := Tryz.func172.trans (congrArg some (by kernel_rfl))
  f284 := Tryz.func173.trans (congrArg some (by kernel_rfl))
  f285 := Tryz.func174.trans (congrArg some (by kernel_rfl))
  f286 := Tryz.func175.trans (congrArg some (by kernel_rfl))
  f317 := Tryz.func179.trans (congrArg some (by kernel_rfl))
  f318 := Tryz.func181.trans (congrArg some (by kernel_rfl))
  f319 := Tryz.func182.trans (congrArg some (by kernel_rfl))
  f320 := Tryz.func183.trans (congrArg some (by kernel_rfl))
  f337 := Tryz.func186.trans (congrArg some (by kernel_rfl))
  f338 := Tryz.func187.trans (congrArg some (by kernel_rfl))
  t0 := Tryz.underlying0
  a0 := Tryz.isAgg0
  z0 := Tryz.sizeOf0
  v0 := Tryz.zeroValue0
  t2 := Tryz.underlying2
  a2 := Tryz.isAgg2
  z2 := Tryz.sizeOf2
  v2 := Tryz.zeroValue2
  t3 := Tryz.underlying3
  a3 := Tryz.isAgg3
  z3 := Tryz.sizeOf3
  v3 := Tryz.zeroValue3
  t4 := Tryz.underlying4
  a4 := Tryz.isAgg4
  z4 := Tryz.sizeOf4
  v4 := Tryz.zeroValue4
  t5 := Tryz.underlying5
  a5 := Tryz.isAgg5
  z5 := Tryz.sizeOf5
  v5 := Tryz.zeroValue5
  t9 := Tryz.underlying9
  a9 := Tryz.isAgg9
  z9 := Tryz.sizeOf9
  v9 := Tryz.zeroValue9
  t20 := Tryz.underlying20
  a20 := Tryz.isAgg20
  z20 := Tryz.sizeOf20
  v20 := Tryz.zeroValue20
  t37 := Tryz.underlying22
  a37 := Tryz.isAgg22
  z37 := Tryz.sizeOf22
  v37 := Tryz.zeroValue22
  t46 := Tryz.underlying177
  a46 := Tryz.isAgg177
  z46 := Tryz.sizeOf177
  v46 := Tryz.zeroValue177
  t51 := Tryz.underlying194
  a51 := Tryz.isAgg194
  z51 := Tryz.sizeOf194
  v51 := Tryz.zeroValue194
  t53 := Tryz.underlying187
  a53 := Tryz.isAgg187
  z53 := Tryz.sizeOf187
  v53 := Tryz.zeroValue187
  t171 := Tryz.underlying186
  a171 := Tryz.isAgg186
  z171 := Tryz.sizeOf186
  v171 := Tryz.zeroValue186
  t173 := Tryz.underlying190
  a173 := Tryz.isAgg190
  z173 := Tryz.sizeOf190
  v173 := Tryz.zeroValue190
  t212 := Tryz.underlying193
  a212 := Tryz.isAgg193
  z212 := Tryz.sizeOf193
  v212 := Tryz.zeroValue193
  t213 := Tryz.underlying195
  a213 := Tryz.isAgg195
  z213 := Tryz.sizeOf195
  t232 := Tryz.underlying201
  a232 := Tryz.isAgg201
  z232 := Tryz.sizeOf201
  v232 := Tryz.zeroValue201
  t233 := Tryz.underlying202
  a233 := Tryz.isAgg202
  z233 := Tryz.sizeOf202
  v233 := Tryz.zeroValue202
  g17 := by kernel_rfl
  g18 := by kernel_rfl
  g19 := by kernel_rfl
  i0 := by kernel_rfl
  i2 := by kernel_rfl
  i3 := by kernel_rfl
  i4 := by kernel_rfl
  i5 := by kernel_rfl
  i9 := by kernel_rfl
  i20 := by kernel_rfl
  i37 := by kernel_rfl
  i46 := by kernel_rfl
  i51 := by kernel_rfl
  i53 := by kernel_rfl
  i171 := by kernel_rfl
  i173 := by kernel_rfl
  i212 := by kernel_rfl
  i232 := by kernel_rfl
  i233 := by kernel_rfl
  m17 := by kernel_rfl
  m18 := by kernel_rfl
  m19 := by kernel_rfl }
end Go.Proofs
/-
  What TrimText and its model answer; the law of TrimText out of them.
-/
namespace Go.Proofs.YtgfbahjpaaanoaaGreatDoor
open Go.ChangeShapes Go.WideShapes Go.ChangeAt Go.RowKit
theorem trimT_size (s : ByteArray) : (trimT s).size ≤ s.size := by
  have h : (Lib.trimS s.data.toList [32, 9]).length ≤ s.data.toList.length := by
    unfold Lib.trimS Lib.trimLeftS Lib.trimRightS
    refine Nat.le_trans (List.dropWhile_sublist _).length_le ?_
    rw [List.length_reverse]
    refine Nat.le_trans (List.dropWhile_sublist _).length_le ?_
    rw [List.length_reverse]
    exact Nat.le_refl _
  have e : (trimT s).size = (Lib.trimS s.data.toList [32, 9]).length := by simp [trimT, ByteArray.size]
  rw [e]
  simpa using h
theorem trim_lib (s : ByteArray) (w : World) (hs : s.size ≤ 1000) :
    Calls Tryz.prog 74 #[.string s, .string ⟨#[32, 9]⟩] w fun e w' => e = .returned (.string (trimT s)) ∧ Below w.heap.size w w' :=
  Any.strings_Trim_laid Tryz.lays160 (by kernel_rfl) s ⟨#[32, 9]⟩ w (by omega) (by decide) (ascii_of_all (by decide))
theorem trim_big (s : ByteArray) (w : World) (hs : s.size ≤ 1048576) :
    Calls Tryz.prog 74 #[.string s, .string ⟨#[32, 9]⟩] w fun e w' => e = .returned (.string (trimT s)) ∧ Below w.heap.size w w' :=
  Any.strings_Trim_laid Tryz.lays160 (by kernel_rfl) s ⟨#[32, 9]⟩ w (by omega) (by decide) (ascii_of_all (by decide))
theorem clone_lib (s : ByteArray) (w : World) (hs : s.size ≤ 1000) :
    Calls Tryz.prog 107 #[.string s] w fun e w' => e = .returned (.string s) ∧ Below w.heap.size w w' :=
  Any.stringslite_Clone Tryz.laysM316 s w (by omega)
set_option maxHeartbeats 400000 in
theorem clone_any (s : ByteArray) (w : World) (hs : s.size ≤ 1000) :
    Calls Tryz.prog 79 #[.string s] w fun e w' => e = .returned (.string s) ∧ Below w.heap.size w w' := by
  go_enter Tryz.func79, Tryz.ntmps79
  go_wp2_with fail
  refine (clone_lib s _ hs).mono ?_
  rintro e w1 ⟨rfl, hb⟩
  go_wp2
  go_ret
  exact ⟨rfl, hb⟩
end Go.Proofs.YtgfbahjpaaanoaaGreatDoor
/-
  What lineFault and HeadersFault answer.
-/
namespace Go.Proofs.YtgfbahjpaaanoaaGreatDoor
open Go.ChangeShapes Go.WideShapes Go.ChangeAt Go.RowKit Go.Sort
theorem hdr_room {w w1 : World} {n v : ByteArray} {t : TypeId} (hb : Below (w.alloc (.cells #[.string n, .string v] t)).heap.size (w.alloc (.cells #[.string n, .string v] t)) w1) :
    w.heap.size < w1.heap.size ∧ w1.cell? ⟨w.heap.size, 0, none⟩ = some (.string n) ∧ w1.cell? ⟨w.heap.size, 1, none⟩ = some (.string v) ∧ Below w.heap.size w w1 := by
  rw [World.size_alloc] at hb
  have hz := hb.size
  simp only [World.size_alloc] at hz
  exact ⟨hz, by rw [hb.cell (p := ⟨w.heap.size, 0, none⟩) (Nat.lt_succ_self _)]; simp, by rw [hb.cell (p := ⟨w.heap.size, 1, none⟩) (Nat.lt_succ_self _)]; simp, ((Below.refl _ _).alloc (Nat.le_refl _) _).trans (hb.mono (Nat.le_succ _))⟩
theorem hkeep {W W' : World} (hb : Below W.heap.size W W') {p : Addr} {v : Value} (h : W.cell? p = some v) : W'.cell? p = some v := by
  rw [hb.cell (block_lt_of_cell h)]; exact h
set_option maxHeartbeats 2000000 in
theorem implLine_any (r : Hdr) (w : World) (hset : SetIs w) :
    Calls Tryz.prog 47 #[.agg #[.string r.name, .string r.value]] w fun e w' => e = .returned (.int .i64 (faultH r)) ∧ Below w.heap.size w w' := by
  obtain ⟨n, v⟩ := r
  simp only
  have HW : Hid (Calls Tryz.prog 62 #[.string n] (w.alloc (.cells #[.string n, .string v] 49)) fun e w' => e = .returned (.bool (wordS n)) ∧ Below (w.alloc (.cells #[.string n, .string v] 49)).heap.size (w.alloc (.cells #[.string n, .string v] 49)) w') := implIsWord_set n _ (hset.below ((Below.refl _ _).alloc (Nat.le_refl _) _))
  clear hset
  cases hw : wordS n
  · have HE : Hid (faultH ⟨n, v⟩ = 5) := by show _ = _; simp [faultH, hw]
    rw [hw] at HW
    clear hw
    go_enter Tryz.func47, Tryz.ntmps47
    go_wp2_with fail
    refine HW.out.mono ?_
    rintro e w1 ⟨rfl, hb1⟩
    obtain ⟨hz1, p0, p1, kb⟩ := hdr_room hb1
    have KB : Hid (Below w.heap.size w w1) := kb
    clear hb1 kb
    go_wp2_with fail
    go_ret
    exact ⟨ret_int HE.out.symm, KB.out⟩
  rw [hw] at HW
  by_cases hbig : 200 < v.size
  · have HE : Hid (faultH ⟨n, v⟩ = 2) := by show _ = _; simp only [faultH, hw]; rw [if_neg (by simp), if_pos hbig]
    have g : (200 : Int) < v.size := by omega
    clear hw
    go_enter Tryz.func47, Tryz.ntmps47
    go_wp2_with fail
    refine HW.out.mono ?_
    rintro e w1 ⟨rfl, hb1⟩
    obtain ⟨hz1, p0, p1, kb⟩ := hdr_room hb1
    have KB : Hid (Below w.heap.size w w1) := kb
    clear hb1 kb
    go_wp2_with fail
    go_ret
    exact ⟨ret_int HE.out.symm, KB.out⟩
  have g : ¬ (200 : Int) < v.size := by omega
  have HP : Hid (∀ w, Calls Tryz.prog 73 #[.string v] w fun e w' => e = .returned (.bool (plainL v.data.toList)) ∧ Below w.heap.size w w') := fun w => (allPlain_any v w (by omega)).mono fun _ _ ⟨h1, h2⟩ => ⟨h1, h2 ▸ Below.refl _ _⟩
  have HT : Hid (∀ w, Calls Tryz.prog 74 #[.string v, .string ⟨#[32, 9]⟩] w fun e w' => e = .returned (.string (trimT v)) ∧ Below w.heap.size w w') := fun w => trim_big v w (by omega)
  cases hp : plainL v.data.toList
  · have HE : Hid (faultH ⟨n, v⟩ = 5) := by show _ = _; simp only [faultH, hw]; rw [if_neg (by simp), if_neg hbig, if_pos hp]
    rw [hp] at HP
    clear hw hp hbig
    go_enter Tryz.func47, Tryz.ntmps47
    go_wp2_with fail
    refine HW.out.mono ?_
    rintro e w1 ⟨rfl, hb1⟩
    obtain ⟨hz1, p0, p1, kb⟩ := hdr_room hb1
    have KB : Hid (Below w.heap.size w w1) := kb
    clear hb1 kb
    go_wp2_with fail
    have q1 := cell_regrown p1
    have cP : ∀ d' os, Calls Tryz.prog 73 #[.string v] (grow (redrawn w1 d') os) fun e w'' => e = .returned (.bool false) ∧ ∃ p : Regrown, w'' = grow (redrawn w1 p.d) p.os := fun d' os => Calls.regrown_of (HP.out _)
    refine wp_region_quiet_below (by kernel_rfl) (by kernel_rfl) ?_
    repeat (go_big_quiet_step (first | (go_at_call 73; exact cP _ _)))
    refine wpQuiet_nil ?_
    intro W2 hW2
    have hbW2 : Below w1.heap.size w1 W2 := by
      obtain ⟨⟨d, os⟩, rfl⟩ := hW2
      exact below_regrown w1 d os
    have KB2 : Hid (Below w.heap.size w W2) := KB.out.trans (hbW2.mono KB.out.size)
    clear hW2 hbW2 cP q1 p0 p1 KB
    go_wp2_with fail
    go_ret
    exact ⟨ret_int HE.out.symm, KB2.out⟩
  rw [hp] at HP
  by_cases ht : trimT v = v
  · have HE : Hid (faultH ⟨n, v⟩ = 0) := by show _ = _; simp only [faultH, hw]; rw [if_neg (by simp), if_neg hbig, if_neg (by simp [hp]), if_pos ht]
    rw [ht] at HT
    clear hw hp hbig ht
    go_enter Tryz.func47, Tryz.ntmps47
    go_wp2_with fail
    refine HW.out.mono ?_
    rintro e w1 ⟨rfl, hb1⟩
    obtain ⟨hz1, p0, p1, kb⟩ := hdr_room hb1
    have KB : Hid (Below w.heap.size w w1) := kb
    clear hb1 kb
    go_wp2_with fail
    have q1 := cell_regrown p1
    have cP : ∀ d' os, Calls Tryz.prog 73 #[.string v] (grow (redrawn w1 d') os) fun e w'' => e = .returned (.bool true) ∧ ∃ p : Regrown, w'' = grow (redrawn w1 p.d) p.os := fun d' os => Calls.regrown_of (HP.out _)
    have cT : ∀ d' os, Calls Tryz.prog 74 #[.string v, .string ⟨#[32, 9]⟩] (grow (redrawn w1 d') os) fun e w'' => e = .returned (.string v) ∧ ∃ p : Regrown, w'' = grow (redrawn w1 p.d) p.os := fun d' os => Calls.regrown_of (HT.out _)
    refine wp_region_quiet_below (by kernel_rfl) (by kernel_rfl) ?_
    repeat (go_big_quiet_step (first | (go_at_call 73; exact cP _ _) | (go_at_call 74; exact cT _ _)))
    refine wpQuiet_nil ?_
    intro W2 hW2
    have hbW2 : Below w1.heap.size w1 W2 := by
      obtain ⟨⟨d, os⟩, rfl⟩ := hW2
      exact below_regrown w1 d os
    have KB2 : Hid (Below w.heap.size w W2) := KB.out.trans (hbW2.mono KB.out.size)
    clear hW2 hbW2 cP cT q1 p0 p1 KB
    go_wp2_with fail
    go_ret
    exact ⟨ret_int HE.out.symm, KB2.out⟩
  · have HE : Hid (faultH ⟨n, v⟩ = 5) := by show _ = _; simp only [faultH, hw]; rw [if_neg (by simp), if_neg hbig, if_neg (by simp [hp]), if_neg ht]
    have hq := hstr_ne ht
    generalize trimT v = t at *
    clear hw hp hbig ht
    go_enter Tryz.func47, Tryz.ntmps47
    go_wp2_with fail
    refine HW.out.mono ?_
    rintro e w1 ⟨rfl, hb1⟩
    obtain ⟨hz1, p0, p1, kb⟩ := hdr_room hb1
    have KB : Hid (Below w.heap.size w w1) := kb
    clear hb1 kb
    go_wp2_with fail
    have q1 := cell_regrown p1
    have cP : ∀ d' os, Calls Tryz.prog 73 #[.string v] (grow (redrawn w1 d') os) fun e w'' => e = .returned (.bool true) ∧ ∃ p : Regrown, w'' = grow (redrawn w1 p.d) p.os := fun d' os => Calls.regrown_of (HP.out _)
    have cT : ∀ d' os, Calls Tryz.prog 74 #[.string v, .string ⟨#[32, 9]⟩] (grow (redrawn w1 d') os) fun e w'' => e = .returned (.string t) ∧ ∃ p : Regrown, w'' = grow (redrawn w1 p.d) p.os := fun d' os => Calls.regrown_of (HT.out _)
    refine wp_region_quiet_below (by kernel_rfl) (by kernel_rfl) ?_
    repeat (go_big_quiet_step (first | (go_at_call 73; exact cP _ _) | (go_at_call 74; exact cT _ _)))
    refine wpQuiet_nil ?_
    intro W2 hW2
    have hbW2 : Below w1.heap.size w1 W2 := by
      obtain ⟨⟨d, os⟩, rfl⟩ := hW2
      exact below_regrown w1 d os
    have KB2 : Hid (Below w.heap.size w W2) := KB.out.trans (hbW2.mono KB.out.size)
    clear hW2 hbW2 cP cT q1 p0 p1 KB
    go_wp2_with fail
    go_ret
    exact ⟨ret_int HE.out.symm, KB2.out⟩
set_option maxRecDepth 100000 in
set_option maxHeartbeats 4000000 in
theorem implHFault_any (w : World) (a : Option Addr) (cap : Nat) (l : List Hdr) (hl : l.length ≤ 1048576) (hset : SetIs w) (hi : HdsIn w a l) :
    Calls Tryz.prog 22 #[.slice a l.length cap] w fun e w' => e = .returned (.int .i64 (headsC l)) ∧ Below w.heap.size w w' := by
  by_cases h20 : 20 < l.length
  · have HE : Hid (headsC l = 2) := headsC_many h20
    have g : (20 : Int) < (l.length : Int) := by omega
    clear hi hset
    generalize l.length = n at *
    go_enter Tryz.func22, Tryz.ntmps22
    go_wp2_with fail
    go_ret
    exact ⟨ret_int HE.out.symm, Below.refl _ _⟩
  have HC : Hid (headsC l = faultHL l) := headsC_few h20
  have HI : Hid (HdsIn w a l) := hi
  have HS : Hid (SetIs w) := hset
  clear hi hset
  generalize hn : l.length = n at *
  have HN : Hid (l.length = n) := hn
  clear hn
  have g : ¬ (20 : Int) < (n : Int) := by omega
  go_enter Tryz.func22, Tryz.ntmps22
  go_wp2_with fail
  go_loopw [11] (fun i wr => ∃ k : Nat, k ≤ n ∧ i = .int .i64 k ∧ faultHL l = faultHL (l.drop k) ∧ Below w.heap.size w wr) (fun i _ => n - (intOf i).toNat)
  case atStart => exact ⟨0, Nat.zero_le _, rfl, rfl, Below.refl _ _⟩
  case round =>
    obtain ⟨k, hk, rfl, hf, hb⟩ := hrel
    have HF : Hid (faultHL l = faultHL (l.drop k)) := hf
    clear hf
    by_cases hlt : k < n
    · obtain ⟨r, hr⟩ : ∃ r, l[k]? = some r := ⟨l[k]'(by have := HN.out; omega), List.getElem?_eq_getElem _⟩
      rcases HI.out with h | ⟨b, off, rfl, hat⟩
      · subst h; simp at hr
      obtain ⟨p1, p3⟩ := (hat.keep hb) k r hr
      have HD : Hid (l.drop k = r :: l.drop (k + 1)) := drop_hdr l k r hr
      have gk : (k : Int) < n := by omega
      have SF : Hid (∀ W, Below wr.heap.size wr W → Calls Tryz.prog 47 #[.agg #[.string r.name, .string r.value]] W fun e w' => e = .returned (.int .i64 (faultH r)) ∧ Below W.heap.size W w') := fun W h => implLine_any r W ((HS.out.below hb).below h)
      clear hr hat HI
      by_cases hfr : faultH r = 0
      · have HX : Hid (faultHL l = faultHL (l.drop (k + 1))) := by show _ = _; rw [HF.out, HD.out, faultHL_ok hfr]
        rw [hfr] at SF
        clear hfr HD HF
        obtain ⟨rn, rv⟩ := r
        simp only at p1 p3 SF
        go_wp2_with fail
        refine (SF.out _ ((Below.refl _ _).alloc (Nat.le_refl _) _)).mono ?_
        rintro e w2 ⟨rfl, hb2⟩
        obtain ⟨_, _, _, kb⟩ := hdr_room hb2
        have hbb := hb.trans (kb.mono hb.size)
        clear hb2 hb kb
        go_wp2_with fail
        go_roundw
        case rel => exact ⟨k + 1, by omega, by go_num, HX.out, hbb⟩
        case measure => simp [intOf]; omega
      · have HX : Hid (headsC l = faultH r) := by show _ = _; rw [HC.out, HF.out, HD.out, faultHL_bad hfr]
        clear HD HF HC
        obtain ⟨rn, rv⟩ := r
        simp only at p1 p3 SF
        generalize faultH ⟨rn, rv⟩ = fr at *
        go_wp2_with fail
        refine (SF.out _ ((Below.refl _ _).alloc (Nat.le_refl _) _)).mono ?_
        rintro e w2 ⟨rfl, hb2⟩
        obtain ⟨_, _, _, kb⟩ := hdr_room hb2
        have hbb := hb.trans (kb.mono hb.size)
        clear hb2 hb kb
        go_wp2_with fail
        go_ret
        exact ⟨ret_int HX.out.symm, hbb⟩
    · have HX : Hid (headsC l = 0) := by
        show _ = _
        rw [HC.out, HF.out, List.drop_of_length_le (by have := HN.out; omega)]
        rfl
      clear HF HC
      go_wp2_with fail
      go_ret
      exact ⟨ret_int HX.out.symm, hb⟩
end Go.Proofs.YtgfbahjpaaanoaaGreatDoor
/-
  What LowerText answers where the text is not too long.
-/
namespace Go.Proofs.YtgfbahjpaaanoaaGreatDoor
open Go.ChangeShapes Go.WideShapes Go.ChangeAt Go.RowKit
set_option maxHeartbeats 1000000 in
theorem implLower_any (s : ByteArray) (w : World) (hs : s.size ≤ 1000) :
    Calls Tryz.prog 63 #[.string s] w fun e w' => e = .returned (.agg #[.int .i64 0, .string (lowS s)]) ∧ Below w.heap.size w w' := by
  obtain ⟨C, cap, hcv, hrow⟩ : ∃ C cap, (convert 9 22 (.string s)).run Tryz.prog (w.alloc (.cells #[.int .i64 0, .string ⟨#[]⟩] 98)) = .ok (.slice (some ⟨w.heap.size + 1, 0, none⟩) s.size cap) ((w.alloc (.cells #[.int .i64 0, .string ⟨#[]⟩] 98)).drew.alloc (.cells C 5 (C.size, C.size + 1))) ∧ BRow ((w.alloc (.cells #[.int .i64 0, .string ⟨#[]⟩] 98)).alloc (.cells C 5 (C.size, C.size + 1))) (w.heap.size + 1) s.data.toList := by
    have h1 := run_bytes_of_string (P := Tryz.prog) (w.alloc (.cells #[.int .i64 0, .string ⟨#[]⟩] 98)) 9 22 5 s Tryz.underlying9 Tryz.underlying22 Tryz.underlying5
    have h2 := fun cap => BRow.made (w.alloc (.cells #[.int .i64 0, .string ⟨#[]⟩] 98)) s cap _ rfl
    simp only [World.size_alloc] at h1 h2
    exact ⟨_, _, h1, h2 _⟩
  have hns : ¬ (1000 : Int) < s.size := by omega
  go_enter Tryz.func63, Tryz.ntmps63
  go_wp2
  go_loopw [14] (fun i wr => ∃ k : Nat, k ≤ s.size ∧ i = .int .i64 k ∧ BRow wr (w.heap.size + 1) (lowK s.data.toList k) ∧ Below (w.heap.size + 1) (w.alloc (.cells #[.int .i64 0, .string ⟨#[]⟩] 98)) wr) (fun i _ => s.size - (intOf i).toNat)
  case atStart => exact ⟨0, Nat.zero_le _, rfl, by rw [lowK_zero]; exact ⟨hrow.cell, hrow.free⟩, ((Below.refl _ _).alloc (by simp) _).drew⟩
  case round =>
    obtain ⟨k, hk, rfl, hr, hb⟩ := hrel
    clear hcv hrow
    have hlen := lowK_length s.data.toList k
    by_cases hlt : k < s.size
    · have hl : k < s.data.toList.length := by simpa using hlt
      have hl2 : k < (lowK s.data.toList k).length := by omega
      have hc := hr.cell k hl2
      have hf := hr.free k hl2
      rw [lowK_at _ _ hl hl2] at hc
      have Y : Hid (65 ≤ (s.data.toList[k].toNat : Int) ∧ (s.data.toList[k].toNat : Int) ≤ 90 → BRow (wr.setCell ⟨w.heap.size + 1, k, none⟩ (.int .u8 ((s.data.toList[k].toNat : Int) + 32))) (w.heap.size + 1) (lowK s.data.toList (k + 1))) := by
        intro ⟨u1, u2⟩
        have := hr.set k (lowU s.data.toList[k])
        rw [lowU_yes _ u1 u2] at this
        rw [lowK_succ _ _ hl]
        exact this
      have N : Hid (¬ (65 ≤ (s.data.toList[k].toNat : Int) ∧ (s.data.toList[k].toNat : Int) ≤ 90) → BRow wr (w.heap.size + 1) (lowK s.data.toList (k + 1))) := by
        intro u
        rw [lowK_keep _ _ hl u]
        exact hr
      generalize s.data.toList[k] = x at *
      clear hr hlen hl2 hl
      by_cases hU : 65 ≤ (x.toNat : Int) ∧ (x.toNat : Int) ≤ 90
      · have R : Hid (BRow (wr.setCell ⟨w.heap.size + 1, k, none⟩ (.int .u8 ((x.toNat : Int) - 65 + 97))) (w.heap.size + 1) (lowK s.data.toList (k + 1))) := by
          have := Y.out hU
          rw [show (x.toNat : Int) + 32 = (x.toNat : Int) - 65 + 97 from by omega] at this
          exact this
        obtain ⟨u1, u2⟩ := hU
        have d2 : decide ((x.toNat : Int) ≤ 90) = true := by simpa using u2
        clear Y N
        go_wp2
        go_roundw
        case rel => exact ⟨k + 1, by omega, by go_num, R.out, hb.setCell (Nat.le_refl _) _⟩
        case measure => simp [intOf]; omega
      · have R : Hid (BRow wr (w.heap.size + 1) (lowK s.data.toList (k + 1))) := N.out hU
        clear Y N
        by_cases u1 : 65 ≤ (x.toNat : Int)
        · have u2 : 90 < (x.toNat : Int) := by omega
          have d2 : decide ((x.toNat : Int) ≤ 90) = false := by simp; omega
          clear hU
          go_wp2
          go_roundw
          case rel => exact ⟨k + 1, by omega, by go_num, R.out, hb⟩
          case measure => simp [intOf]; omega
        · clear hU
          go_wp2
          go_roundw
          case rel => exact ⟨k + 1, by omega, by go_num, R.out, hb⟩
          case measure => simp [intOf]; omega
    · have e : lowK s.data.toList k = s.data.toList.map lowU := lowK_all _ _ (by simp; omega)
      rw [e] at hr
      have hback := hr.back (P := Tryz.prog) 22 9 5 s.size cap (by simp) Tryz.underlying22 Tryz.underlying5 Tryz.underlying9
      have HL : Hid ((⟨(s.data.toList.map lowU).toArray⟩ : ByteArray) = lowS s) := rfl
      generalize (⟨(s.data.toList.map lowU).toArray⟩ : ByteArray) = r at *
      clear hr e hlen
      have p0 : wr.cell? ⟨w.heap.size, 0, none⟩ = some (.int .i64 0) := by rw [hb.cell (p := ⟨w.heap.size, 0, none⟩) (Nat.lt_succ_self _)]; simp
      have p1 : wr.cell? ⟨w.heap.size, 1, none⟩ = some (.string ⟨#[]⟩) := by rw [hb.cell (p := ⟨w.heap.size, 1, none⟩) (Nat.lt_succ_self _)]; simp
      have f0 : wr.frozen? ⟨w.heap.size, 0, none⟩ = false := by rw [hb.frozen (p := ⟨w.heap.size, 0, none⟩) (Nat.lt_succ_self _)]; simp
      have f1 : wr.frozen? ⟨w.heap.size, 1, none⟩ = false := by rw [hb.frozen (p := ⟨w.heap.size, 1, none⟩) (Nat.lt_succ_self _)]; simp
      obtain ⟨q0, q1⟩ := two_set (v0 := .int .i64 0) (v1 := .string r) p0 p1
      go_wp2
      have kb : Below w.heap.size w wr := ((Below.refl _ _).alloc (Nat.le_refl _) _).trans (hb.mono (Nat.le_succ _))
      exact bodyPost_ret (v := .agg #[.int .i64 0, .string r]) (by simp [results, Tryz.results63, go_sem, q0, q1]) rfl ⟨by rw [HL.out], (kb.setCell (Nat.le_refl _) _).setCell (Nat.le_refl _) _⟩
set_option maxHeartbeats 400000 in
theorem implLower_long (s : ByteArray) (w : World) (h : 1000 < s.size) :
    Calls Tryz.prog 63 #[.string s] w fun e w' => e = .returned (.agg #[.int .i64 2, .string ⟨#[]⟩]) ∧ Below w.heap.size w w' := by
  have hh : (1000 : Int) < s.size := by omega
  go_enter Tryz.func63, Tryz.ntmps63
  go_wp2
  exact bodyPost_ret (v := .agg #[.int .i64 2, .string ⟨#[]⟩]) (by simp [results, Tryz.results63, go_sem]) rfl ⟨rfl, (Below.refl _ _).alloc (Nat.le_refl _) _⟩
end Go.Proofs.YtgfbahjpaaanoaaGreatDoor
/-
  Fields of results; what lies in memory behind a call.
-/
namespace Go.Proofs.YtgfbahjpaaanoaaGreatDoor
open Go.ChangeShapes Go.WideShapes Go.ChangeAt Go.RowKit Go.Sort
theorem f_field_code (c : Int) (s : ByteArray) (w : World) : (Instr.field 98 (.agg #[.int .i64 c, .string s]) 0).run Tryz.prog w = .ok (.int .i64 c) w := by kernel_rfl
theorem f_field_text (c : Int) (s : ByteArray) (w : World) : (Instr.field 98 (.agg #[.int .i64 c, .string s]) 1).run Tryz.prog w = .ok (.string s) w := by kernel_rfl
theorem f_keep {W W' : World} (hb : Below W.heap.size W W') {p : Addr} {v : Value} (h : W.cell? p = some v) : W'.cell? p = some v := by
  rw [hb.cell (block_lt_of_cell h)]; exact h
theorem f_keepA {W : World} {p : Addr} {v : Value} (o : Obj) (h : W.cell? p = some v) : (W.alloc o).cell? p = some v := f_keep ((Below.refl _ _).alloc (Nat.le_refl _) _) h
end Go.Proofs.YtgfbahjpaaanoaaGreatDoor
/-
  A map of texts to places, in memory: what is asked of it, what is laid into it, what goes from it.
-/
namespace Go.Proofs.YtgfbahjpaaanoaaGreatDoor
open Go.ChangeShapes Go.WideShapes Go.ChangeAt Go.RowKit Go.Maps
open Go.WideMaps (keyOf_string_mk)
theorem isKeyL (x : ByteArray) : WideAt.IsKeyLit (.string x.data.toList) := trivial
theorem hkeyed : Keyed Tryz.prog 9 := string_keyed Tryz.underlying9
theorem hzeroInt (w : World) : (zeroValue 3).run Tryz.prog w = .ok (.int .i64 0) w := by kernel_rfl
def keyL (x : ByteArray) : Lit := .string x.data.toList
theorem keyL_ne {x y : ByteArray} (h : x ≠ y) : keyL x ≠ keyL y := by
  intro e
  unfold keyL at e
  simp only [Lit.string.injEq] at e
  exact h (ByteArray.ext (Array.ext' e))
/-- Block B is a map of at most n entries that has p's places at p's names. -/
def NamesMap (w : World) (B n : Nat) (p : ByteArray → Option Nat) : Prop :=
  ∃ D : DataW Unit, w.ownsMap Tryz.prog 9 (plainElem Tryz.prog 3) B n D ∧ ∀ x : ByteArray, Maps.has D (keyL x) = (p x).isSome ∧ ∀ i, p x = some i → D.atKey (keyL x) (.lit (.int .i64 0)) = .lit (.int .i64 (i : Int))
theorem NamesMap.lt {w : World} {B n : Nat} {p : ByteArray → Option Nat} (h : NamesMap w B n p) : B < w.heap.size := by
  obtain ⟨D, h, _⟩ := h
  exact h.lt
theorem NamesMap.below {w w' : World} {B n : Nat} {p : ByteArray → Option Nat} (h : NamesMap w B n p) (hb : Below w.heap.size w w') : NamesMap w' B n p := by
  have hl := h.lt
  obtain ⟨D, ⟨es, clock, hh, r⟩, h2⟩ := h
  exact ⟨D, ⟨es, clock, by rw [hb.block B hl]; exact hh, r⟩, h2⟩
theorem NamesMap.setCell {w : World} {B n : Nat} {p : ByteArray → Option Nat} (h : NamesMap w B n p) {a : Addr} (ha : B ≠ a.block) (u : Value) : NamesMap (w.setCell a u) B n p := by
  obtain ⟨D, h, h2⟩ := h
  exact ⟨D, h.setCell ha u, h2⟩
theorem NamesMap.made (w : World) : NamesMap (w.alloc (.map #[] 0)) w.heap.size 0 (fun _ => none) :=
  ⟨.map [], World.ownsMap_made w _ _ _, fun x => ⟨rfl, fun i h => by cases h⟩⟩
theorem NamesMap.of {w : World} {B n : Nat} {p q : ByteArray → Option Nat} (h : NamesMap w B n p) (e : ∀ x, p x = q x) : NamesMap w B n q := by
  obtain rfl : p = q := funext e
  exact h
theorem turned_below {w w' : World} {B base : Nat} (h : w.mapTurned w' B) (hb : base ≤ B) : Below base w w' :=
  (Below.refl base w).grown h.grown (by
    obtain ⟨es, clock, es', clock', hh, rfl⟩ := h
    have := (Array.getElem?_eq_some_iff.1 hh).1
    omega) (fun q hq => by cases hq; exact hb)
section
variable {ops : Array Oper} {rest : List Oper} {o : Oper} {a : Act} {Q : Exit → Act → World → Prop}
theorem wpList_look_none (w : World) (hg : o.guard = none) (m x : Operand) (hop : o.op = Op.lookup 91 m x true) (B n : Nat) (p : ByteArray → Option Nat)
    (hm : a.eval m = .map (some B)) (hown : NamesMap w B n p) (key : ByteArray) (hx : a.eval x = .string key) (hk : key.size ≤ 1048576) (hp : p key = none)
    (hK : wpList Tryz.prog ops Q rest (a.put o.dst (.tuple #[.int .i64 0, .bool false])) w) : wpList Tryz.prog ops Q (o :: rest) a w := by
  obtain ⟨D, hD, hat⟩ := hown
  have h1 : Maps.has D (keyL key) = false := by rw [(hat key).1, hp]; rfl
  refine wpList_lookup_own_ok_int w hg m x 91 hop 9 3 .i64 hkeyed Tryz.underlying91 Tryz.underlying3 (hzeroInt w) B n D hm hD _ (keyL key) hx (keyOf_string_mk Tryz.underlying9 (by unfold maxLen; omega)) ?_
  intro c hc _
  rw [atKey_of_not_has h1] at hc
  obtain rfl : c = 0 := by simpa using hc.symm
  rw [h1]
  exact hK
theorem wpList_look_some (w : World) (hg : o.guard = none) (m x : Operand) (hop : o.op = Op.lookup 91 m x true) (B n : Nat) (p : ByteArray → Option Nat)
    (hm : a.eval m = .map (some B)) (hown : NamesMap w B n p) (key : ByteArray) (hx : a.eval x = .string key) (hk : key.size ≤ 1048576) (i : Nat) (hp : p key = some i)
    (hK : wpList Tryz.prog ops Q rest (a.put o.dst (.tuple #[.int .i64 (i : Int), .bool true])) w) : wpList Tryz.prog ops Q (o :: rest) a w := by
  obtain ⟨D, hD, hat⟩ := hown
  have h1 : Maps.has D (keyL key) = true := by rw [(hat key).1, hp]; rfl
  refine wpList_lookup_own_ok_int w hg m x 91 hop 9 3 .i64 hkeyed Tryz.underlying91 Tryz.underlying3 (hzeroInt w) B n D hm hD _ (keyL key) hx (keyOf_string_mk Tryz.underlying9 (by unfold maxLen; omega)) ?_
  intro c hc _
  rw [(hat key).2 i hp] at hc
  obtain rfl : c = (i : Int) := by simpa using hc.symm
  rw [h1]
  exact hK
theorem wpList_put (w : World) (hg : o.guard = none) (m x v : Operand) (hop : o.op = Op.mapUpdate 91 m x v) (B n : Nat) (p : ByteArray → Option Nat)
    (hm : a.eval m = .map (some B)) (hown : NamesMap w B n p) (hn : n ≤ 1048576) (key : ByteArray) (hx : a.eval x = .string key) (hk : key.size ≤ 1048576) (i : Nat) (hi : i ≤ 1048576) (hv : a.eval v = .int .i64 (i : Int)) (base : Nat) (hbase : base ≤ B)
    (hK : ∀ w', NamesMap w' B (n + 1) (fun y => if y = key then some i else p y) → Below base w w' → wpList Tryz.prog ops Q rest (a.put o.dst undef) w') : wpList Tryz.prog ops Q (o :: rest) a w := by
  obtain ⟨D, hD, hat⟩ := hown
  refine wpList_mapUpdate_in w hg m x v 91 hop 9 3 hkeyed Tryz.underlying91 _ B n D hm hD (by unfold maxLen; omega) _ _ (keyL key) hx hv (keyOf_string_mk Tryz.underlying9 (by unfold maxLen; omega)) (.lit (.int .i64 (i : Int))) [] (plainElem_int Tryz.underlying3 (WalkArith.wf_i64 (by omega))) ?_
  intro w' hD' ht
  refine hK w' ⟨_, hD', fun y => ?_⟩ (turned_below ht hbase)
  by_cases e : y = key
  · subst e
    simp only [if_true]
    refine ⟨has_put_same hD.isMap (isKeyL _) _, fun j hj => ?_⟩
    obtain rfl := Option.some.inj hj
    exact atKey_put_same hD.isMap (isKeyL _) _ _
  · simp only [if_neg e]
    rw [has_put_other (keyL_ne e), atKey_put_other (keyL_ne e)]
    exact hat y
theorem wpList_del (w : World) (hg : o.guard = none) (m x : Operand) (hop : o.op = Op.call { callee := Callee.builtin Builtin.delete, args := #[m, x], argTypes := #[91, 9] }) (B n : Nat) (p : ByteArray → Option Nat)
    (hm : a.eval m = .map (some B)) (hown : NamesMap w B n p) (key : ByteArray) (hx : a.eval x = .string key) (hk : key.size ≤ 1048576) (base : Nat) (hbase : base ≤ B)
    (hK : ∀ w', NamesMap w' B n (fun y => if y = key then none else p y) → Below base w w' → wpList Tryz.prog ops Q rest (a.put o.dst (.tuple #[])) w') : wpList Tryz.prog ops Q (o :: rest) a w := by
  obtain ⟨D, hD, hat⟩ := hown
  refine wpList_delete_own w hg m x 91 9 hop 3 hkeyed Tryz.underlying91 _ B n D hm hD _ (keyL key) hx (keyOf_string_mk Tryz.underlying9 (by unfold maxLen; omega)) ?_
  intro w' hD' ht
  refine hK w' ⟨_, hD', fun y => ?_⟩ (turned_below ht hbase)
  by_cases e : y = key
  · subst e
    simp only [if_true]
    exact ⟨has_del_same, fun j hj => by cases hj⟩
  · simp only [if_neg e]
    rw [has_del_other (keyL_ne e), atKey_del_other (keyL_ne e)]
    exact hat y
end
end Go.Proofs.YtgfbahjpaaanoaaGreatDoor
/-
  Names that are alike; what is asked ahead by all that look for a name.
-/
namespace Go.Proofs.YtgfbahjpaaanoaaGreatDoor
open Go.ChangeShapes Go.WideShapes Go.ChangeAt Go.RowKit Go.Sort
theorem lowS_size (s : ByteArray) : (lowS s).size = s.size := by
  show ((s.data.toList.map lowU).toArray).size = s.data.size
  rw [List.size_toArray, List.length_map, Array.length_toList]
set_option maxHeartbeats 1000000 in
theorem smallName_any (s : ByteArray) (w : World) (hs : s.size ≤ 1000) :
    Calls Tryz.prog 49 #[.string s] w fun e w' => e = .returned (.string (lowS s)) ∧ Below w.heap.size w w' := by
  have HC := implLower_any s w hs
  have hf := f_field_text
  generalize lowS s = q at *
  go_enter Tryz.func49, Tryz.ntmps49
  go_wp2_with fail
  refine HC.mono ?_
  rintro e w1 ⟨rfl, hb⟩
  go_wp2_with fail
  go_ret
  exact ⟨rfl, hb⟩
set_option maxHeartbeats 1000000 in
theorem l4Alike_any (s t : ByteArray) (w : World) (hs : s.size ≤ 1048576) (ht : t.size ≤ 1048576) :
    Calls Tryz.prog 87 #[.string s, .string t] w fun e w' => e = .returned (.bool (decide (lowS s = lowS t))) ∧ Below w.heap.size w w' := by
  have H1 : Hid (∀ w, Calls Tryz.prog 118 #[.string s] w fun e w' => e = .returned (.string (lowS s)) ∧ Below w.heap.size w w') := fun w => l1Lower_any s w hs
  have H2 : Hid (∀ w, Calls Tryz.prog 118 #[.string t] w fun e w' => e = .returned (.string (lowS t)) ∧ Below w.heap.size w w') := fun w => l1Lower_any t w ht
  by_cases he : lowS s = lowS t
  · have HE : Hid (decide (lowS s = lowS t) = true) := by show _ = _; simpa using he
    rw [he] at H1
    clear he
    generalize lowS t = q at *
    go_enter Tryz.func87, Tryz.ntmps87
    go_wp2_with fail
    refine (H1.out _).mono ?_
    rintro e w1 ⟨rfl, hb1⟩
    go_wp2_with fail
    refine (H2.out _).mono ?_
    rintro e w2 ⟨rfl, hb2⟩
    have hbb := hb1.trans (hb2.mono hb1.size)
    clear hb1 hb2
    go_wp2_with fail
    go_ret
    exact ⟨ret_bool HE.out.symm, hbb⟩
  · have HE : Hid (decide (lowS s = lowS t) = false) := by show _ = _; simpa using he
    have hq := hstr_ne he
    clear he
    generalize lowS t = q at *
    generalize lowS s = p at *
    go_enter Tryz.func87, Tryz.ntmps87
    go_wp2_with fail
    refine (H1.out _).mono ?_
    rintro e w1 ⟨rfl, hb1⟩
    go_wp2_with fail
    refine (H2.out _).mono ?_
    rintro e w2 ⟨rfl, hb2⟩
    have hbb := hb1.trans (hb2.mono hb1.size)
    clear hb1 hb2
    go_wp2_with fail
    go_ret
    exact ⟨ret_bool HE.out.symm, hbb⟩
set_option maxHeartbeats 1000000 in
theorem namedFault_any (w : World) (a : Option Addr) (cap : Nat) (l : List Hdr) (name : ByteArray) (hl : l.length ≤ 1048576) (hset : SetIs w) (hi : HdsIn w a l) :
    Calls Tryz.prog 78 #[.slice a l.length cap, .string name] w fun e w' => e = .returned (.int .i64 (askC l name)) ∧ Below w.heap.size w w' := by
  have HF := implHFault_any w a cap l hl hset hi
  have HS : Hid (SetIs w) := hset
  clear hi hset
  by_cases h0 : headsC l = 0
  · rw [h0] at HF
    generalize l.length = n at *
    cases hw : wordS name
    · have HE : Hid (askC l name = 5) := askC_text h0 hw
      have HW : Hid (wordS name = false) := hw
      clear h0 hw
      go_enter Tryz.func78, Tryz.ntmps78
      go_wp2_with fail
      refine HF.mono ?_
      rintro e w1 ⟨rfl, hb1⟩
      go_wp2_with fail
      refine (implIsWord_set name _ (HS.out.below hb1)).mono ?_
      rintro e w2 ⟨rfl, hb2⟩
      rw [HW.out]
      have hbb := hb1.trans (hb2.mono hb1.size)
      clear hb1 hb2
      go_wp2_with fail
      go_ret
      exact ⟨ret_int HE.out.symm, hbb⟩
    · have HE : Hid (askC l name = 0) := askC_word h0 hw
      have HW : Hid (wordS name = true) := hw
      clear h0 hw
      go_enter Tryz.func78, Tryz.ntmps78
      go_wp2_with fail
      refine HF.mono ?_
      rintro e w1 ⟨rfl, hb1⟩
      go_wp2_with fail
      refine (implIsWord_set name _ (HS.out.below hb1)).mono ?_
      rintro e w2 ⟨rfl, hb2⟩
      rw [HW.out]
      have hbb := hb1.trans (hb2.mono hb1.size)
      clear hb1 hb2
      go_wp2_with fail
      go_ret
      exact ⟨ret_int HE.out.symm, hbb⟩
  · have HE : Hid (askC l name = headsC l) := askC_bad h0
    generalize headsC l = fc at *
    generalize l.length = n at *
    go_enter Tryz.func78, Tryz.ntmps78
    go_wp2_with fail
    refine HF.mono ?_
    rintro e w1 ⟨rfl, hb1⟩
    go_wp2_with fail
    go_ret
    exact ⟨ret_int HE.out.symm, hb1⟩
set_option maxHeartbeats 1000000 in
theorem hclone_any (s : ByteArray) (w : World) (hs : s.size ≤ 1048576) :
    Calls Tryz.prog 79 #[.string s] w fun e w' => e = .returned (.string s) ∧ Below w.heap.size w w' := by
  go_enter Tryz.func79, Tryz.ntmps79
  go_wp2_with fail
  refine (Any.stringslite_Clone Tryz.laysM316 s _ (by omega)).mono ?_
  rintro e w1 ⟨rfl, hb⟩
  go_wp2
  go_ret
  exact ⟨rfl, hb⟩
theorem hdr_free {w w1 : World} {t : TypeId} (hb : Below (w.heap.size + 1) (w.alloc (.cells #[.string ⟨#[]⟩, .string ⟨#[]⟩] t)) w1) :
    w.heap.size < w1.heap.size ∧ w1.cell? ⟨w.heap.size, 0, none⟩ = some (.string ⟨#[]⟩) ∧ w1.cell? ⟨w.heap.size, 1, none⟩ = some (.string ⟨#[]⟩) ∧ w1.frozen? ⟨w.heap.size, 0, none⟩ = false ∧ w1.frozen? ⟨w.heap.size, 1, none⟩ = false ∧ Below w.heap.size w w1 := by
  have hz := hb.size
  simp only [World.size_alloc] at hz
  exact ⟨hz, by rw [hb.cell (p := ⟨w.heap.size, 0, none⟩) (Nat.lt_succ_self _)]; simp, by rw [hb.cell (p := ⟨w.heap.size, 1, none⟩) (Nat.lt_succ_self _)]; simp, by rw [hb.frozen (p := ⟨w.heap.size, 0, none⟩) (Nat.lt_succ_self _)]; simp, by rw [hb.frozen (p := ⟨w.heap.size, 1, none⟩) (Nat.lt_succ_self _)]; simp, ((Below.refl _ _).alloc (Nat.le_refl _) _).trans (hb.mono (Nat.le_succ _))⟩
end Go.Proofs.YtgfbahjpaaanoaaGreatDoor
/-
  A slice of texts that the call itself grows; joined and copied.
-/
namespace Go.Proofs.YtgfbahjpaaanoaaGreatDoor
open Go.ChangeShapes Go.WideShapes Go.ChangeAt Go.RowKit
theorem infoStr : (Tryz.prog.info? 9).map (fun i => (i.zero, i.size, i.bytes)) = some (some (.string ⟨#[]⟩), 1, 16) := by kernel_rfl
def textsW (l : List ByteArray) : List Value := l.map Value.string
/-- v, nil or not, holds the texts l in a row of the call's own. -/
def OwnS (w : World) (base : Nat) (v : Value) (l : List ByteArray) : Prop := w.ownsRow base 9 1 v l.length (textsW l)
theorem OwnS.nil (w : World) (base : Nat) : OwnS w base (.slice none 0 0) [] := World.ownsRow_nil _ _ _ _
theorem OwnS.below {w w' : World} {base : Nat} {v : Value} {l : List ByteArray} (h : OwnS w base v l) (hb : Below w.heap.size w w') : OwnS w' base v l := by
  obtain ⟨h1, h2⟩ := h
  refine ⟨h1, ?_⟩
  rcases h2 with h2 | ⟨g, c, cur, e, hg, hh, hrest⟩
  · exact .inl h2
  · exact .inr ⟨g, c, cur, e, hg, by rw [hb.block g (Array.getElem?_eq_some_iff.1 hh).1]; exact hh, hrest⟩
theorem OwnS.lower {w : World} {b0 base : Nat} {v : Value} {l : List ByteArray} (h : OwnS w base v l) (hb : b0 ≤ base) : OwnS w b0 v l := by
  obtain ⟨h1, h2⟩ := h
  refine ⟨h1, ?_⟩
  rcases h2 with h2 | ⟨g, c, cur, e, hg, hrest⟩
  · exact .inl h2
  · exact .inr ⟨g, c, cur, e, by omega, hrest⟩
theorem own_geS {w : World} {base : Nat} {e : TypeId} {size : Nat} {v : Value} {n : Nat} {xs : List Value} (h : w.ownsRow base e size v n xs) (q : Nat) (hq : v.ownBlock = some q) : base ≤ q := by
  obtain ⟨_, h | ⟨g, c, cur, rfl, hg, _⟩⟩ := h
  · rw [h.1] at hq; cases hq
  · simp only [Value.ownBlock, Option.some.injEq] at hq; omega
theorem wpList_append_str {ops : Array Oper} {rest : List Oper} {o : Oper} {a : Act} {Q : Exit → Act → World → Prop} (w : World) (hgd : o.guard = none) (s x : Operand)
    (ho : o.op = .call { callee := .builtin .append, args := #[s, x], argTypes := #[88, 88] }) (base : Nat) (v : Value) (l : List ByteArray) (z : ByteArray)
    (hs : a.eval s = v) (hx : a.eval x = .slice (some ⟨w.heap.size, 0, none⟩) 1 1) (hown : OwnS w base v l) (hl : l.length ≤ 1000000) (hbase : base ≤ w.heap.size)
    (h : ∀ v' w', OwnS w' base v' (l ++ [z]) → Below base w w' → w.heap.size ≤ w'.heap.size → wpList Tryz.prog ops Q rest (a.put o.dst v') w') :
    wpList Tryz.prog ops Q (o :: rest) a (w.alloc (.cells #[.string z] 9)) := by
  obtain ⟨i0, hi, hz0, hz1, hz2⟩ := info_parts infoStr
  refine wpList_append_own _ hgd s x 88 ho base 9 i0 (.string ⟨#[]⟩) 1 16 Tryz.underlying88 hi hz0 hz1 hz2 rfl (by decide) v l.length (textsW l) hs (World.ownsRow.alloc hown _) ⟨w.heap.size, 0, none⟩ 1 1 [.string z] hx rfl ?_ ?_ ?_ ?_ ?_ ?_
  · intro j u hj
    match j, hj with
    | 0, hj => simp at hj; subst hj; simp [Addr.add]
  · intro u hu; simp at hu; subst hu; rfl
  · unfold maxLen; omega
  · omega
  · simp; omega
  · intro v' w' h1 h2 h3
    have e : textsW (l ++ [z]) = textsW l ++ [Value.string z] := by simp [textsW]
    refine h v' w' (by unfold OwnS; rw [e, List.length_append]; exact h1) ?_ ?_
    · exact ((Below.refl base w).alloc hbase _).grown h2 (by simp; omega) (fun q hq => own_geS hown q hq)
    · have hb := ((Below.refl 0 w).alloc (Nat.zero_le _) (.cells #[.string z] 9)).grown h2 (Nat.zero_le _) (fun q _ => Nat.zero_le _)
      exact hb.size
theorem joinExtra : Builder.Extra Tryz.prog Tryz.lays156_ren where
  sizeBuilder := by kernel_rfl
  liesBuilder := by kernel_rfl
  t5 := Tryz.underlying5
  a5 := Tryz.isAgg5
  z5 := Tryz.sizeOf5
  v5 := Tryz.zeroValue5
  infoByte := by kernel_rfl
  cellsByte := by kernel_rfl
  sizeByte := by kernel_rfl
  neB5 := by decide
/-- strings.Join over the call's own texts. -/
theorem join_own (w : World) (base : Nat) (v : Value) (xs : List ByteArray) (h : OwnS w base v xs) (hN : xs.length ≤ 1000000) (hlen : (Lib.join (xs.map (·.data.toList)) [44, 32]).length ≤ 1000000) :
    Calls Tryz.prog 80 #[v, .string ⟨#[44, 32]⟩] w fun e w' => e = .returned (.string ⟨(Lib.join (xs.map (·.data.toList)) [44, 32]).toArray⟩) ∧ Below w.heap.size w w' := by
  have h0 := h
  obtain ⟨_, h1 | ⟨g, c, cur, rfl, _, hh, hcap, _⟩⟩ := h
  · have : xs = [] := List.eq_nil_of_length_eq_zero h1.2
    subst this
    rw [h1.1]
    exact (Any.strings_Join_none Tryz.lays156 joinExtra none 0 ⟨#[44, 32]⟩ w).mono fun e w' ⟨he, hw⟩ => ⟨he, hw ▸ Below.refl _ _⟩
  · refine Any.strings_Join Tryz.lays156 joinExtra g 0 c xs ⟨#[44, 32]⟩ w ?_ (Array.getElem?_eq_some_iff.1 hh).1 (by omega) hcap (by simpa using (by omega : (Lib.join (xs.map (·.data.toList)) [44, 32]).length ≤ 140737488355328))
    intro j x hj
    have hj2 := (List.getElem?_eq_some_iff.1 hj).1
    have := World.ownsRow.cellAt h0 j (by omega)
    rw [show 0 + j = j from by omega]
    rw [this]
    simp [textsW, hj]
theorem clone_lib2 (s : ByteArray) (w : World) (hs : s.size ≤ 1048576) :
    Calls Tryz.prog 107 #[.string s] w fun e w' => e = .returned (.string s) ∧ Below w.heap.size w w' :=
  Any.stringslite_Clone Tryz.laysM316 s w (by omega)
set_option maxHeartbeats 400000 in
theorem clone_text (s : ByteArray) (w : World) (hs : s.size ≤ 1048576) :
    Calls Tryz.prog 79 #[.string s] w fun e w' => e = .returned (.string s) ∧ Below w.heap.size w w' := by
  go_enter Tryz.func79, Tryz.ntmps79
  go_wp2_with fail
  refine (clone_lib2 s _ hs).mono ?_
  rintro e w1 ⟨rfl, hb⟩
  go_wp2
  go_ret
  exact ⟨rfl, hb⟩
end Go.Proofs.YtgfbahjpaaanoaaGreatDoor
/-
  Head lines that the call itself grows.
-/
namespace Go.Proofs.YtgfbahjpaaanoaaGreatDoor
open Go.ChangeShapes Go.WideShapes Go.ChangeAt Go.RowKit
def hdrW (r : Hdr) : List Value := [.string r.name, .string r.value]
def hdrsW (l : List Hdr) : List Value := l.flatMap hdrW
theorem hdrsW_len (l : List Hdr) : (hdrsW l).length = l.length * 2 := by
  induction l with
  | nil => rfl
  | cons r l ih => simp only [hdrsW, List.flatMap_cons, List.length_append, List.length_cons] at ih ⊢; rw [ih]; simp [hdrW]; omega
theorem hdrsW_at (l : List Hdr) : ∀ (i : Nat) r, l[i]? = some r → (hdrsW l)[i * 2]? = some (.string r.name) ∧ (hdrsW l)[i * 2 + 1]? = some (.string r.value) := by
  induction l with
  | nil => intro i r hr; simp at hr
  | cons x l ih =>
    intro i r hr
    have e : hdrsW (x :: l) = .string x.name :: .string x.value :: hdrsW l := by simp [hdrsW, hdrW]
    rw [e]
    cases i with
    | zero => simp at hr; subst hr; simp
    | succ i =>
      have := ih i r (by simpa using hr)
      rw [show (i + 1) * 2 = i * 2 + 1 + 1 from by omega]
      simpa using this
/-- v, nil or not, holds the items l in a row of the call's own, from block base on. -/
def OwnH (w : World) (base : Nat) (v : Value) (l : List Hdr) : Prop := w.ownsRow base 49 2 v l.length (hdrsW l)
theorem OwnH.nil (w : World) (base : Nat) : OwnH w base (.slice none 0 0) [] := World.ownsRow_nil _ _ _ _
theorem OwnH.made0 (w : World) (base : Nat) (hb : base ≤ w.heap.size) : OwnH (w.alloc (.cells #[] 49)) base (.slice (some ⟨w.heap.size, 0, none⟩) 0 0) [] := World.ownsRow_made w #[] 0 hb (by unfold maxLen; omega) rfl
theorem OwnH.below {w w' : World} {base : Nat} {v : Value} {l : List Hdr} (h : OwnH w base v l) (hb : Below w.heap.size w w') : OwnH w' base v l := by
  obtain ⟨h1, h2⟩ := h
  refine ⟨h1, ?_⟩
  rcases h2 with h2 | ⟨g, c, cur, e, hg, hh, hrest⟩
  · exact .inl h2
  · exact .inr ⟨g, c, cur, e, hg, by rw [hb.block g (Array.getElem?_eq_some_iff.1 hh).1]; exact hh, hrest⟩
theorem OwnH.lower {w : World} {b0 base : Nat} {v : Value} {l : List Hdr} (h : OwnH w base v l) (hb : b0 ≤ base) : OwnH w b0 v l := by
  obtain ⟨h1, h2⟩ := h
  refine ⟨h1, ?_⟩
  rcases h2 with h2 | ⟨g, c, cur, e, hg, hrest⟩
  · exact .inl h2
  · exact .inr ⟨g, c, cur, e, by omega, hrest⟩
theorem OwnH.at {w : World} {base : Nat} {v : Value} {l : List Hdr} (h : OwnH w base v l) : ∃ a c, v = .slice a l.length c ∧ HdsIn w a l := by
  have h0 := h
  obtain ⟨_, h1 | ⟨g, c, cur, rfl, _⟩⟩ := h
  · have e : l = [] := List.eq_nil_of_length_eq_zero h1.2
    exact ⟨none, 0, by rw [h1.1, e]; rfl, .inl e⟩
  · refine ⟨_, c, rfl, .inr ⟨g, 0, rfl, fun i r hr => ?_⟩⟩
    have hi := (List.getElem?_eq_some_iff.1 hr).1
    obtain ⟨a1, a3⟩ := hdrsW_at l i r hr
    have c1 := World.ownsRow.cellAt h0 (i * 2) (by omega)
    have c3 := World.ownsRow.cellAt h0 (i * 2 + 1) (by omega)
    exact ⟨by rw [Nat.zero_add, c1, a1], by rw [Nat.zero_add, c3, a3]⟩
theorem own_geH {w : World} {base : Nat} {e : TypeId} {size : Nat} {v : Value} {n : Nat} {xs : List Value} (h : w.ownsRow base e size v n xs) (q : Nat) (hq : v.ownBlock = some q) : base ≤ q := by
  obtain ⟨_, h | ⟨g, c, cur, rfl, hg, _⟩⟩ := h
  · rw [h.1] at hq; cases hq
  · simp only [Value.ownBlock, Option.some.injEq] at hq; omega
theorem own_apartH {w : World} {base base' : Nat} {v pv : Value} {l : List Hdr} {L : List ByteArray} (hp : OwnS w base' pv L) (hv : OwnH w base v l) : pv.ownBlock = none ∨ pv.ownBlock ≠ v.ownBlock := by
  obtain ⟨_, hp | ⟨g, c, cur, rfl, _, hh, _⟩⟩ := hp
  · left; rw [hp.1]; rfl
  · right
    obtain ⟨_, hv | ⟨g2, c2, cur2, rfl, _, hh2, _⟩⟩ := hv
    · rw [hv.1]; simp [Value.ownBlock]
    · simp only [Value.ownBlock, ne_eq, Option.some.injEq]
      rintro rfl
      rw [hh] at hh2
      simp at hh2
theorem wpList_append_hdr {ops : Array Oper} {rest : List Oper} {o : Oper} {a : Act} {Q : Exit → Act → World → Prop} (w : World) (hgd : o.guard = none) (s x : Operand)
    (ho : o.op = .call { callee := .builtin .append, args := #[s, x], argTypes := #[24, 24] }) (base : Nat) (v : Value) (l : List Hdr) (n : ByteArray) (z : ByteArray)
    (hs : a.eval s = v) (hx : a.eval x = .slice (some ⟨w.heap.size, 0, none⟩) 1 1) (hown : OwnH w base v l) (hl : l.length ≤ 1000000) (hbase : base ≤ w.heap.size)
    (h : ∀ v' w', OwnH w' base v' (l ++ [⟨n, z⟩]) → Below base w w' → w.heap.size ≤ w'.heap.size → (∀ base' pv L, OwnS w base' pv L → OwnS w' base' pv L) → wpList Tryz.prog ops Q rest (a.put o.dst v') w') :
    wpList Tryz.prog ops Q (o :: rest) a (w.alloc (.cells #[.string n, .string z] 49)) := by
  obtain ⟨i0, hi, hz0, hz1, hz2⟩ := info_parts infoHeader
  refine wpList_append_own _ hgd s x 24 ho base 49 i0 (.agg #[.string ⟨#[]⟩, .string ⟨#[]⟩]) 2 32 Tryz.underlying24 hi hz0 hz1 hz2 rfl (by decide) v l.length (hdrsW l) hs (World.ownsRow.alloc hown _) ⟨w.heap.size, 0, none⟩ 1 1 [.string n, .string z] hx rfl ?_ ?_ ?_ ?_ ?_ ?_
  · intro j u hj
    match j, hj with
    | 0, hj => simp at hj; subst hj; simp [Addr.add]
    | 1, hj => simp at hj; subst hj; simp [Addr.add]
  · intro u hu; simp at hu; rcases hu with rfl | rfl <;> rfl
  · unfold maxLen; omega
  · omega
  · simp; omega
  · intro v' w' h1 h2 h3
    have e : hdrsW (l ++ [⟨n, z⟩]) = hdrsW l ++ [.string n, .string z] := by simp [hdrsW, hdrW]
    refine h v' w' (by unfold OwnH; rw [e, List.length_append]; exact h1) ?_ ?_ ?_
    · exact ((Below.refl base w).alloc hbase _).grown h2 (by simp; omega) (fun q hq => own_geH hown q hq)
    · have hb := ((Below.refl 0 w).alloc (Nat.zero_le _) (.cells #[.string n, .string z] 49)).grown h2 (Nat.zero_le _) (fun q _ => Nat.zero_le _)
      exact hb.size
    · intro base' pv L hp
      exact World.ownsRow.kept (World.ownsRow.alloc hp _) h2 (own_apartH hp hown)
end Go.Proofs.YtgfbahjpaaanoaaGreatDoor
/-
  The room of a TextResult behind a call.
-/
namespace Go.Proofs.YtgfbahjpaaanoaaGreatDoor
open Go.ChangeShapes Go.WideShapes Go.ChangeAt Go.RowKit
theorem text_room {w w1 : World} (hb : Below (w.heap.size + 1) (w.alloc (.cells #[.int .i64 0, .string ⟨#[]⟩] 98)) w1) :
    w.heap.size < w1.heap.size ∧ w1.cell? ⟨w.heap.size, 0, none⟩ = some (.int .i64 0) ∧ w1.cell? ⟨w.heap.size, 1, none⟩ = some (.string ⟨#[]⟩) ∧ w1.frozen? ⟨w.heap.size, 0, none⟩ = false ∧ w1.frozen? ⟨w.heap.size, 1, none⟩ = false ∧ Below w.heap.size w w1 := by
  have hz := hb.size
  simp only [World.size_alloc] at hz
  exact ⟨hz, by rw [hb.cell (p := ⟨w.heap.size, 0, none⟩) (Nat.lt_succ_self _)]; simp, by rw [hb.cell (p := ⟨w.heap.size, 1, none⟩) (Nat.lt_succ_self _)]; simp, by rw [hb.frozen (p := ⟨w.heap.size, 0, none⟩) (Nat.lt_succ_self _)]; simp, by rw [hb.frozen (p := ⟨w.heap.size, 1, none⟩) (Nat.lt_succ_self _)]; simp, ((Below.refl _ _).alloc (Nat.le_refl _) _).trans (hb.mono (Nat.le_succ _))⟩
end Go.Proofs.YtgfbahjpaaanoaaGreatDoor
/-
  What PackHeaders and its model answer.
-/
namespace Go.Proofs.YtgfbahjpaaanoaaGreatDoor
open Go.ChangeShapes Go.WideShapes Go.ChangeAt Go.RowKit Go.Sort
theorem HdsIn.ok {w : World} {a : Option Addr} {l : List Hdr} (h : HdsIn w a l) {k : Nat} {r : Hdr} (hr : l[k]? = some r) : ∃ b off, a = some ⟨b, off, none⟩ ∧ HeadsAt w b off l := by
  rcases h with h | h
  · subst h; simp at hr
  · exact h
theorem line_app (o n v : ByteArray) : (o ++ n ++ ⟨#[58, 32]⟩ ++ v ++ ⟨#[13, 10]⟩ : ByteArray).data.toList = o.data.toList ++ lineL ⟨n, v⟩ := by
  simp only [happ_list, lineL, List.append_assoc]
theorem line_app2 (o n v : ByteArray) : (o ++ (n ++ ⟨#[58, 32]⟩ ++ v ++ ⟨#[13, 10]⟩) : ByteArray).data.toList = o.data.toList ++ lineL ⟨n, v⟩ := by
  simp only [happ_list, lineL, List.append_assoc]
end Go.Proofs.YtgfbahjpaaanoaaGreatDoor
/-
  What firstPlaces and linesNamed answer.
-/
namespace Go.Proofs.YtgfbahjpaaanoaaGreatDoor
open Go.ChangeShapes Go.WideShapes Go.ChangeAt Go.RowKit Go.Sort
theorem firstAt_known {l : List Hdr} {r : Hdr} {j : Nat} (h : firstAt (lowS r.name) l = some j) (x : ByteArray) : firstAt x l = firstAt x (l ++ [r]) := by
  rw [firstAt_snoc]
  cases c : firstAt x l with
  | some i => rfl
  | none =>
    by_cases e : lowS r.name = x
    · subst e; rw [h] at c; cases c
    · simp only [if_neg e]
theorem firstAt_new {l : List Hdr} {r : Hdr} (h : firstAt (lowS r.name) l = none) (x : ByteArray) : (if x = lowS r.name then some l.length else firstAt x l) = firstAt x (l ++ [r]) := by
  rw [firstAt_snoc]
  by_cases e : x = lowS r.name
  · subst e
    rw [if_pos rfl, h]
    simp
  · rw [if_neg e]
    cases c : firstAt x l with
    | some i => rfl
    | none => simp only [if_neg (fun q => e (Eq.symm q))]
set_option maxRecDepth 100000 in
set_option maxHeartbeats 4000000 in
theorem firstPlaces_any (w : World) (a : Option Addr) (cap : Nat) (l : List Hdr) (h20 : l.length ≤ 20) (hz : ∀ (i : Nat) r, l[i]? = some r → r.name.size ≤ 64) (hi : HdsIn w a l) :
    Calls Tryz.prog 48 #[.slice a l.length cap] w fun e w' => e = .returned (.map (some w.heap.size)) ∧ NamesMap w' w.heap.size 20 (fun x => firstAt x l) ∧ Below w.heap.size w w' := by
  have HI : Hid (HdsIn w a l) := hi
  have HZ : Hid (∀ (i : Nat) r, l[i]? = some r → r.name.size ≤ 64) := hz
  clear hi hz
  generalize hn : l.length = n at *
  have HN : Hid (l.length = n) := hn
  clear hn
  have hmm := @run_makeMap Tryz.prog
  go_enter Tryz.func48, Tryz.ntmps48
  go_wp2_with fail
  go_loopw [12] (fun i wr => ∃ (k : Nat), k ≤ n ∧ i = .int .i64 k ∧ NamesMap wr w.heap.size k (fun x => firstAt x (l.take k)) ∧ Below w.heap.size w wr) (fun i _ => n - (intOf i).toNat)
  case atStart => exact ⟨0, Nat.zero_le _, rfl, NamesMap.made w, (Below.refl _ _).alloc (Nat.le_refl _) _⟩
  case round =>
    obtain ⟨k, hk, rfl, hm, hb⟩ := hrel
    have HM : Hid (NamesMap wr w.heap.size k (fun x => firstAt x (l.take k))) := hm
    clear hm
    by_cases hlt : k < n
    · obtain ⟨r, hr⟩ : ∃ r, l[k]? = some r := ⟨l[k]'(by have := HN.out; omega), List.getElem?_eq_getElem _⟩
      obtain ⟨b, off, rfl, hat⟩ := HI.out.ok hr
      obtain ⟨p1, p3⟩ := (hat.keep hb) k r hr
      have z1 := HZ.out k r hr
      have HK : Hid (l.take (k + 1) = l.take k ++ [r]) := take_hdr hr
      have hlk : Hid ((l.take k).length = k) := by show _ = _; rw [List.length_take]; have := HN.out; omega
      have gk : (k : Int) < n := by omega
      clear hr hat HI HZ
      have FS := fun j => @firstAt_known (l.take k) r j
      have FN := @firstAt_new (l.take k) r
      obtain ⟨rn, rv⟩ := r
      simp only at p1 p3 z1 FS FN
      rw [hlk.out] at FN
      have SN := fun w => smallName_any rn w (by omega)
      have sz := lowS_size rn
      generalize lowS rn = q at *
      have HSN : Hid (∀ w, Calls Tryz.prog 49 #[.string rn] w fun e w' => e = .returned (.string q) ∧ Below w.heap.size w w') := SN
      clear SN
      cases hq : firstAt q (l.take k) with
      | some j =>
        have HX : Hid (∀ x, firstAt x (l.take k) = firstAt x (l.take (k + 1))) := fun x => by rw [HK.out]; exact FS j hq x
        have HQ : Hid (firstAt q (l.take k) = some j) := hq
        clear hq FS FN HK
        go_wp2_with fail
        refine (HSN.out _).mono ?_
        rintro e w2 ⟨rfl, hb2⟩
        obtain ⟨_, _, _, kb⟩ := hdr_room hb2
        have HM2 : Hid (NamesMap w2 w.heap.size k (fun x => firstAt x (l.take k))) := HM.out.below kb
        have HB2 : Hid (Below w.heap.size w w2) := hb.trans (kb.mono hb.size)
        clear hb2 kb hb HM p1 p3
        go_wp2_with (at_lookup; refine wpList_look_some _ rfl _ _ rfl w.heap.size k _ rfl HM2.out q rfl (by omega) j HQ.out ?_)
        go_roundw
        case rel => exact ⟨k + 1, by omega, by go_num, NamesMap.of (by obtain ⟨D, h1, h2⟩ := HM2.out; exact ⟨D, h1.mono (Nat.le_succ _), h2⟩) HX.out, HB2.out⟩
        case measure => simp [intOf]; omega
      | none =>
        have HX : Hid (∀ x, (if x = q then some k else firstAt x (l.take k)) = firstAt x (l.take (k + 1))) := fun x => by rw [HK.out]; exact FN hq x
        have HQ : Hid (firstAt q (l.take k) = none) := hq
        clear hq FS FN HK
        go_wp2_with fail
        refine (HSN.out _).mono ?_
        rintro e w2 ⟨rfl, hb2⟩
        obtain ⟨_, _, _, kb⟩ := hdr_room hb2
        have HM2 : Hid (NamesMap w2 w.heap.size k (fun x => firstAt x (l.take k))) := HM.out.below kb
        have HB2 : Hid (Below w.heap.size w w2) := hb.trans (kb.mono hb.size)
        clear hb2 kb hb HM p1 p3
        go_wp2_with (first | (at_lookup; refine wpList_look_none _ rfl _ _ rfl w.heap.size k _ rfl HM2.out q rfl (by omega) HQ.out ?_) | (at_mapUpdate; refine wpList_put _ rfl _ _ _ rfl w.heap.size k _ rfl HM2.out (by omega) q rfl (by omega) k (by omega) rfl w.heap.size (Nat.le_refl _) ?_; intro w3 HM3 hb3))
        go_roundw
        case rel => exact ⟨k + 1, by omega, by go_num, HM3.of HX.out, HB2.out.trans hb3⟩
        case measure => simp [intOf]; omega
    · have HX : Hid (NamesMap wr w.heap.size 20 (fun x => firstAt x l)) := by
        have e : l.take k = l := List.take_of_length_le (by have := HN.out; omega)
        have := HM.out
        rw [e] at this
        obtain ⟨D, h1, h2⟩ := this
        exact ⟨D, h1.mono (by omega), h2⟩
      clear HM
      go_wp2_with fail
      go_ret
      exact ⟨rfl, HX.out, hb⟩
/-- What is left of the lines: those whose names the map has. -/
def keptH (p : ByteArray → Option Nat) (l : List Hdr) : List Hdr := l.filter fun r => (p (lowS r.name)).isSome
theorem keptH_yes {p : ByteArray → Option Nat} {r : Hdr} {i : Nat} (l : List Hdr) (h : p (lowS r.name) = some i) : keptH p (l ++ [r]) = keptH p l ++ [r] := by simp [keptH, h]
theorem keptH_no {p : ByteArray → Option Nat} {r : Hdr} (l : List Hdr) (h : p (lowS r.name) = none) : keptH p (l ++ [r]) = keptH p l := by simp [keptH, h]
theorem keptH_len (p : ByteArray → Option Nat) (l : List Hdr) : (keptH p l).length ≤ l.length := List.length_filter_le _ _
def KeptRes (base : Nat) (L : List Hdr) (e : Ending) (w : World) : Prop := ∃ v, e = .returned v ∧ OwnH w base v L
theorem KeptRes.mk {base : Nat} {L M : List Hdr} {w : World} {v : Value} (h : M = L) (ho : OwnH w base v L) : KeptRes base M (.returned v) w := ⟨v, rfl, h ▸ ho⟩
end Go.Proofs.YtgfbahjpaaanoaaGreatDoor
/-
  What DropHeader and its model answer.
-/
namespace Go.Proofs.YtgfbahjpaaanoaaGreatDoor
open Go.ChangeShapes Go.WideShapes Go.ChangeAt Go.RowKit Go.Sort
/-- A result: a code and head lines in memory of the call's own. -/
def HRes (c : Int) (L : List Hdr) (base : Nat) (e : Ending) (w : World) : Prop := ∃ v, e = .returned (.agg #[.int .i64 c, v]) ∧ OwnH w base v L
theorem HRes.mk {c d : Int} {L M : List Hdr} {base : Nat} {w : World} {v : Value} (h : c = d ∧ L = M) (ho : OwnH w base v M) : HRes c L base (.returned (.agg #[.int .i64 d, v])) w := ⟨v, by rw [h.1], by rw [h.2]; exact ho⟩
theorem ownH_set {w : World} {base b o : Nat} {v u : Value} {l : List Hdr} (h : OwnH w base v l) (hb : b < base) : OwnH (w.setCell ⟨b, o, none⟩ u) base v l := by
  obtain ⟨h1, h2⟩ := h
  refine ⟨h1, ?_⟩
  rcases h2 with h2 | ⟨g, c, cur, e, hg, hh, hrest⟩
  · exact .inl h2
  · exact .inr ⟨g, c, cur, e, hg, by rw [RowKit.Below.heap_setCell _ _ _ _ (by show g ≠ b; omega)]; exact hh, hrest⟩
theorem dropL_bad {l : List Hdr} {name : ByteArray} (h : askC l name ≠ 0) : dropL l name = [] := by unfold dropL; rw [if_neg h]
theorem dropL_ok {l : List Hdr} {name : ByteArray} (h : askC l name = 0) : dropL l name = dropH (lowS name) l := by unfold dropL; rw [if_pos h]
theorem dropL_len (l : List Hdr) (name : ByteArray) : (dropL l name).length ≤ 20 := by
  by_cases h : askC l name = 0
  · rw [dropL_ok h]
    have := (headsC_zero (askC_zero h).1).1
    exact Nat.le_trans (dropH_len _ _) this
  · rw [dropL_bad h]; simp
theorem asked {l : List Hdr} {name : ByteArray} (h : askC l name = 0) : l.length ≤ 20 ∧ (∀ (i : Nat) r, l[i]? = some r → r.name.size ≤ 64 ∧ r.value.size ≤ 200) ∧ name.size ≤ 64 := by
  obtain ⟨h0, hw⟩ := askC_zero h
  obtain ⟨h20, hf⟩ := headsC_zero h0
  exact ⟨h20, fun i r hr => by obtain ⟨x1, x2, _⟩ := faultH_zero (hf i r hr); exact ⟨hword_max x1, x2⟩, hword_max hw⟩
theorem keptH_drop (x : ByteArray) (l : List Hdr) : keptH (fun y => if y = x then none else firstAt y l) l = dropH x l := by
  unfold keptH dropH
  refine List.filter_congr fun r hr => ?_
  by_cases e : lowS r.name = x
  · simp [e]
  · simp only [e, not_false_eq_true, decide_true]
    cases c : firstAt (lowS r.name) l with
    | some i => rfl
    | none => exact absurd rfl (firstAt_none c r hr)
end Go.Proofs.YtgfbahjpaaanoaaGreatDoor
/-
  What JoinHeader and its model answer.
-/
namespace Go.Proofs.YtgfbahjpaaanoaaGreatDoor
open Go.ChangeShapes Go.WideShapes Go.ChangeAt Go.RowKit Go.Sort
def anyV (vs : List ByteArray) : Bool := !vs.isEmpty
theorem anyV_snoc (vs : List ByteArray) (v : ByteArray) : anyV (vs ++ [v]) = true := by simp [anyV]
theorem hret_sb {a b : ByteArray} {c d : Bool} (h1 : a = b) (h2 : c = d) : Ending.returned (.tuple #[.string a, .bool c]) = .returned (.tuple #[.string b, .bool d]) := by rw [h1, h2]
set_option maxRecDepth 100000 in
set_option maxHeartbeats 8000000 in
theorem l4Join_any (w : World) (a : Option Addr) (cap : Nat) (l : List Hdr) (name : ByteArray) (h20 : l.length ≤ 20) (hz : ∀ (i : Nat) r, l[i]? = some r → r.name.size ≤ 64 ∧ r.value.size ≤ 200) (hnm : name.size ≤ 64) (hi : HdsIn w a l) :
    Calls Tryz.prog 90 #[.slice a l.length cap, .string name] w fun e w' => e = .returned (.tuple #[.string ⟨(hjoinL (valsOf (lowS name) l)).toArray⟩, .bool (anyV (valsOf (lowS name) l))]) ∧ Below w.heap.size w w' := by
  have HI : Hid (HdsIn w a l) := hi
  have HZ : Hid (∀ (i : Nat) r, l[i]? = some r → r.name.size ≤ 64 ∧ r.value.size ≤ 200) := hz
  clear hi hz
  generalize hn : l.length = n at *
  have HN : Hid (l.length = n) := hn
  clear hn
  go_enter Tryz.func90, Tryz.ntmps90
  go_wp2_with fail
  go_loopw [6, 7, 8] (fun v f i wr => ∃ (k : Nat) (o : ByteArray) (bf : Bool), k ≤ n ∧ i = .int .i64 k ∧ v = .string o ∧ f = .bool bf ∧ o.data.toList = hjoinL (valsOf (lowS name) (l.take k)) ∧ bf = anyV (valsOf (lowS name) (l.take k)) ∧ o.size ≤ k * 202 ∧ Below w.heap.size w wr) (fun _ _ i _ => n - (intOf i).toNat)
  case atStart => exact ⟨0, ⟨#[]⟩, false, Nat.zero_le _, rfl, rfl, rfl, rfl, rfl, Nat.zero_le _, Below.refl _ _⟩
  case round =>
    obtain ⟨k, o, bf, hk, rfl, rfl, rfl, ho, hbf, hos, hb⟩ := hrel
    have HO : Hid (o.data.toList = hjoinL (valsOf (lowS name) (l.take k))) := ho
    have HBF : Hid (bf = anyV (valsOf (lowS name) (l.take k))) := hbf
    clear ho hbf
    by_cases hlt : k < n
    · obtain ⟨r, hr⟩ : ∃ r, l[k]? = some r := ⟨l[k]'(by have := HN.out; omega), List.getElem?_eq_getElem _⟩
      obtain ⟨b, off, rfl, hat⟩ := HI.out.ok hr
      obtain ⟨p1, p3⟩ := (hat.keep hb) k r hr
      obtain ⟨z1, z2⟩ := HZ.out k r hr
      have HK : Hid (l.take (k + 1) = l.take k ++ [r]) := take_hdr hr
      have gk : (k : Int) < n := by omega
      clear hr hat HI HZ
      have KY := @valsOf_yes (lowS name) r (l.take k)
      have KN := @valsOf_no (lowS name) r (l.take k)
      obtain ⟨rn, rv⟩ := r
      simp only at p1 p3 z1 z2 KY KN
      have SA := fun w => l4Alike_any rn name w (by omega) (by omega)
      by_cases he : lowS rn = lowS name
      · have HX : Hid (valsOf (lowS name) (l.take (k + 1)) = valsOf (lowS name) (l.take k) ++ [rv]) := by show _ = _; rw [HK.out]; exact KY he
        have HSA : Hid (∀ w, Calls Tryz.prog 87 #[.string rn, .string name] w fun e w' => e = .returned (.bool true) ∧ Below w.heap.size w w') := by
          rw [show decide (lowS rn = lowS name) = true from by simpa using he] at SA
          exact SA
        have HY : Hid (anyV (valsOf (lowS name) (l.take (k + 1))) = true) := by show _ = _; rw [HX.out]; exact anyV_snoc _ _
        clear SA KY KN HK he
        cases bf
        · have HV : Hid (valsOf (lowS name) (l.take k) = []) := by
            show _ = _
            have := HBF.out
            simpa [anyV] using this.symm
          have HT : Hid ((o ++ rv : ByteArray).data.toList = hjoinL (valsOf (lowS name) (l.take (k + 1)))) := by
            show _ = _
            rw [HX.out, hjoinL_snoc, happ_list, HO.out, if_pos HV.out, List.append_nil]
          have HU : Hid ((o ++ rv : ByteArray).size ≤ (k + 1) * 202) := by
            show _ ≤ _
            rw [ByteArray.size_append]; omega
          have hoz : o.size ≤ 5000 := by omega
          clear HX HV HO HBF
          go_wp2_with fail
          refine (HSA.out _).mono ?_
          rintro e w2 ⟨rfl, hb2⟩
          have HB2 : Hid (Below w.heap.size w w2) := hb.trans (hb2.mono hb.size)
          have p1 := hkeep hb2 p1
          have p3 := hkeep hb2 p3
          clear hb2 hb
          go_wp2_with fail
          go_roundw
          case rel => exact ⟨k + 1, o ++ rv, true, by omega, by go_num, rfl, rfl, HT.out, HY.out.symm, HU.out, HB2.out⟩
          case measure => simp [intOf]; omega
        · have HV : Hid (¬ valsOf (lowS name) (l.take k) = []) := by
            have := HBF.out
            intro e
            rw [e] at this
            cases this
          have HT : Hid ((o ++ ⟨#[44, 32]⟩ ++ rv : ByteArray).data.toList = hjoinL (valsOf (lowS name) (l.take (k + 1)))) := by
            show _ = _
            rw [HX.out, hjoinL_snoc, happ_list, happ_list, HO.out, if_neg HV.out]
          have HU : Hid ((o ++ ⟨#[44, 32]⟩ ++ rv : ByteArray).size ≤ (k + 1) * 202) := by
            show _ ≤ _
            rw [ByteArray.size_append, ByteArray.size_append, show (⟨#[44, 32]⟩ : ByteArray).size = 2 from rfl]; omega
          have hoz : o.size ≤ 5000 := by omega
          clear HX HV HO HBF
          go_wp2_with fail
          refine (HSA.out _).mono ?_
          rintro e w2 ⟨rfl, hb2⟩
          have HB2 : Hid (Below w.heap.size w w2) := hb.trans (hb2.mono hb.size)
          have p1 := hkeep hb2 p1
          have p3 := hkeep hb2 p3
          clear hb2 hb
          go_wp2_with fail
          go_roundw
          case rel => exact ⟨k + 1, o ++ ⟨#[44, 32]⟩ ++ rv, true, by omega, by go_num, rfl, rfl, HT.out, HY.out.symm, HU.out, HB2.out⟩
          case measure => simp [intOf]; omega
      · have HX : Hid (valsOf (lowS name) (l.take (k + 1)) = valsOf (lowS name) (l.take k)) := by show _ = _; rw [HK.out]; exact KN he
        have HSA : Hid (∀ w, Calls Tryz.prog 87 #[.string rn, .string name] w fun e w' => e = .returned (.bool false) ∧ Below w.heap.size w w') := by
          rw [show decide (lowS rn = lowS name) = false from by simpa using he] at SA
          exact SA
        clear SA KY KN HK he
        go_wp2_with fail
        refine (HSA.out _).mono ?_
        rintro e w2 ⟨rfl, hb2⟩
        have HB2 : Hid (Below w.heap.size w w2) := hb.trans (hb2.mono hb.size)
        clear hb2 hb p1 p3
        go_wp2_with fail
        go_roundw
        case rel => exact ⟨k + 1, o, bf, by omega, by go_num, rfl, rfl, by rw [HX.out]; exact HO.out, by rw [HX.out]; exact HBF.out, by omega, HB2.out⟩
        case measure => simp [intOf]; omega
    · have ek : l.take k = l := List.take_of_length_le (by have := HN.out; omega)
      have HT : Hid ((⟨(hjoinL (valsOf (lowS name) l)).toArray⟩ : ByteArray) = o) := by
        show _ = _
        have := HO.out
        rw [ek] at this
        exact (hof_list this).symm
      have HF : Hid (anyV (valsOf (lowS name) l) = bf) := by
        have := HBF.out
        rw [ek] at this
        exact this.symm
      clear HO HBF ek
      go_wp2_with fail
      go_ret2
      exact ⟨hret_sb HT.out.symm HF.out.symm, hb⟩
end Go.Proofs.YtgfbahjpaaanoaaGreatDoor
/-
  The first line of a name, on both sides; EtagOf.
-/
namespace Go.Proofs.YtgfbahjpaaanoaaGreatDoor
open Go.ChangeShapes Go.WideShapes Go.ChangeAt Go.RowKit Go.Sort
theorem first_sizes {l : List Hdr} (h : headsC l = 0) : l.length ≤ 20 ∧ ∀ (i : Nat) r, l[i]? = some r → r.name.size ≤ 64 ∧ r.value.size ≤ 200 := by
  obtain ⟨h1, h2⟩ := headsC_zero h
  refine ⟨h1, fun i r hr => ?_⟩
  have := asked (l := l) (name := ⟨#[120]⟩) (by rw [askC, if_pos h]; decide +kernel)
  exact this.2.1 i r hr
def firstV (x : ByteArray) (l : List Hdr) : ByteArray := match firstAt x l with | some i => ((l[i]?).map (·.value)).getD ⟨#[]⟩ | none => ⟨#[]⟩
def firstB (x : ByteArray) (l : List Hdr) : Bool := (firstAt x l).isSome
theorem firstV_some {x : ByteArray} {l : List Hdr} {i : Nat} {r : Hdr} (h : firstAt x l = some i) (hr : l[i]? = some r) : firstV x l = r.value ∧ firstB x l = true := by
  unfold firstV firstB
  rw [h]
  simp [hr]
theorem firstV_none {x : ByteArray} {l : List Hdr} (h : firstAt x l = none) : firstV x l = ⟨#[]⟩ ∧ firstB x l = false := by
  unfold firstV firstB
  rw [h]
  simp
theorem firstAt_at {x : ByteArray} : ∀ {l : List Hdr} {k : Nat} {r : Hdr}, firstAt x (l.take k) = none → l[k]? = some r → lowS r.name = x → firstAt x l = some k
  | [], k, r, _, h, _ => by simp at h
  | y :: l, 0, r, _, h, hx => by
    simp at h
    subst h
    rw [firstAt, if_pos hx]
  | y :: l, k + 1, r, h0, h, hx => by
    rw [List.take_succ_cons, firstAt] at h0
    split at h0
    · cases h0
    · rename_i hy
      rw [firstAt, if_neg hy, firstAt_at (Option.map_eq_none_iff.1 h0) (by simpa using h) hx]
      rfl
theorem firstAt_over {x : ByteArray} {l : List Hdr} {k : Nat} {r : Hdr} (h0 : firstAt x (l.take k) = none) (h : l[k]? = some r) (hx : ¬ lowS r.name = x) : firstAt x (l.take (k + 1)) = none := by
  rw [take_hdr h, firstAt_snoc, h0]
  simp [hx]
theorem firstV_size {x : ByteArray} {l : List Hdr} (hz : ∀ (i : Nat) r, l[i]? = some r → r.name.size ≤ 64 ∧ r.value.size ≤ 200) : (firstV x l).size ≤ 200 := by
  cases h : firstAt x l with
  | none => rw [(firstV_none h).1]; decide
  | some i =>
    have hi := firstAt_lt h
    rw [(firstV_some h (List.getElem?_eq_getElem hi)).1]
    exact (hz i _ (List.getElem?_eq_getElem hi)).2
set_option maxRecDepth 100000 in
set_option maxHeartbeats 4000000 in
theorem l6First_any (w : World) (a : Option Addr) (cap : Nat) (l : List Hdr) (name : ByteArray) (h20 : l.length ≤ 20) (hz : ∀ (i : Nat) r, l[i]? = some r → r.name.size ≤ 64 ∧ r.value.size ≤ 200) (hnm : name.size ≤ 64) (hi : HdsIn w a l) :
    Calls Tryz.prog 65 #[.slice a l.length cap, .string name] w fun e w' => e = .returned (.tuple #[.string (firstV (lowS name) l), .bool (firstB (lowS name) l)]) ∧ Below w.heap.size w w' := by
  have HI : Hid (HdsIn w a l) := hi
  have HZ : Hid (∀ (i : Nat) r, l[i]? = some r → r.name.size ≤ 64 ∧ r.value.size ≤ 200) := hz
  clear hi hz
  generalize hn : l.length = n at *
  have HN : Hid (l.length = n) := hn
  clear hn
  go_enter Tryz.func65, Tryz.ntmps65
  go_wp2_with fail
  go_loopw [6] (fun i wr => ∃ k : Nat, k ≤ n ∧ i = .int .i64 k ∧ firstAt (lowS name) (l.take k) = none ∧ Below w.heap.size w wr) (fun i _ => n - (intOf i).toNat)
  case atStart => exact ⟨0, Nat.zero_le _, rfl, rfl, Below.refl _ _⟩
  case round =>
    obtain ⟨k, hk, rfl, hf, hb⟩ := hrel
    have HF : Hid (firstAt (lowS name) (l.take k) = none) := hf
    clear hf
    by_cases hlt : k < n
    · obtain ⟨r, hr⟩ : ∃ r, l[k]? = some r := ⟨l[k]'(by have := HN.out; omega), List.getElem?_eq_getElem _⟩
      obtain ⟨b, off, rfl, hat⟩ := HI.out.ok hr
      obtain ⟨p1, p3⟩ := (hat.keep hb) k r hr
      obtain ⟨z1, z2⟩ := HZ.out k r hr
      have gk : (k : Int) < n := by omega
      have SA := fun w => l4Alike_any r.name name w (by omega) (by omega)
      by_cases he : lowS r.name = lowS name
      · obtain ⟨e1, e2⟩ := firstV_some (firstAt_at HF.out hr he) hr
        have HR : Hid (firstV (lowS name) l = r.value ∧ firstB (lowS name) l = true) := ⟨e1, e2⟩
        have HSA : Hid (∀ w, Calls Tryz.prog 87 #[.string r.name, .string name] w fun e w' => e = .returned (.bool true) ∧ Below w.heap.size w w') := by
          rw [show decide (lowS r.name = lowS name) = true from by simpa using he] at SA
          exact SA
        have HAT : Hid (HeadsAt w b off l) := hat
        have HRR : Hid (l[k]? = some r) := hr
        clear SA he e1 e2 hat hr HI HZ HF
        obtain ⟨rn, rv⟩ := r
        simp only at p1 p3 z1 z2
        go_wp2_with fail
        refine (HSA.out _).mono ?_
        rintro e w2 ⟨rfl, hb2⟩
        have KB : Hid (Below w.heap.size w w2) := hb.trans (hb2.mono hb.size)
        obtain ⟨q1, q3⟩ := (HAT.out.keep KB.out) k _ HRR.out
        clear hb2 hb p1 p3
        simp only at q1 q3
        go_wp2_with fail
        go_ret2
        exact ⟨hret_sb HR.out.1.symm HR.out.2.symm, KB.out⟩
      · have HX : Hid (firstAt (lowS name) (l.take (k + 1)) = none) := firstAt_over HF.out hr he
        have HSA : Hid (∀ w, Calls Tryz.prog 87 #[.string r.name, .string name] w fun e w' => e = .returned (.bool false) ∧ Below w.heap.size w w') := by
          rw [show decide (lowS r.name = lowS name) = false from by simpa using he] at SA
          exact SA
        clear SA he hat hr HZ HF
        obtain ⟨rn, rv⟩ := r
        simp only at p1 p3 z1 z2
        go_wp2_with fail
        refine (HSA.out _).mono ?_
        rintro e w2 ⟨rfl, hb2⟩
        have KB : Hid (Below w.heap.size w w2) := hb.trans (hb2.mono hb.size)
        clear hb2 hb p1 p3
        go_wp2_with fail
        go_roundw
        case rel => exact ⟨k + 1, by omega, by go_num, HX.out, KB.out⟩
        case measure => simp [intOf]; omega
    · have HR : Hid (firstV (lowS name) l = ⟨#[]⟩ ∧ firstB (lowS name) l = false) := by
        have e : l.take k = l := List.take_of_length_le (by have := HN.out; omega)
        have := HF.out
        rw [e] at this
        exact firstV_none this
      go_wp2_with fail
      go_ret2
      exact ⟨hret_sb HR.out.1.symm HR.out.2.symm, hb⟩
set_option maxRecDepth 100000 in
set_option maxHeartbeats 4000000 in
theorem firstValue_any (w : World) (a : Option Addr) (cap : Nat) (l : List Hdr) (name : ByteArray) (h20 : l.length ≤ 20) (hz : ∀ (i : Nat) r, l[i]? = some r → r.name.size ≤ 64 ∧ r.value.size ≤ 200) (hnm : name.size ≤ 64) (hi : HdsIn w a l) :
    Calls Tryz.prog 23 #[.slice a l.length cap, .string name] w fun e w' => e = .returned (.tuple #[.string (firstV (lowS name) l), .bool (firstB (lowS name) l)]) ∧ Below w.heap.size w w' := by
  have HP := firstPlaces_any w a cap l h20 (fun i r hr => (hz i r hr).1) hi
  have HS : Hid (∀ W, Calls Tryz.prog 49 #[.string name] W fun e w' => e = .returned (.string (lowS name)) ∧ Below W.heap.size W w') := fun W => smallName_any name W (by omega)
  have HI : Hid (HdsIn w a l) := hi
  have sz := lowS_size name
  clear hi hz
  cases hf : firstAt (lowS name) l with
  | none =>
    have HR : Hid (firstV (lowS name) l = ⟨#[]⟩ ∧ firstB (lowS name) l = false) := firstV_none hf
    have HF : Hid (firstAt (lowS name) l = none) := hf
    clear hf
    generalize l.length = n at *
    generalize lowS name = q at *
    go_enter Tryz.func23, Tryz.ntmps23
    go_wp2_with fail
    refine HP.mono ?_
    rintro e w1 ⟨rfl, hm1, hb1⟩
    have HM1 : Hid (NamesMap w1 w.heap.size 20 (fun x => firstAt x l)) := hm1
    have HB1 : Hid (Below w.heap.size w w1) := hb1
    clear hm1 hb1 HP
    go_wp2_with fail
    refine (HS.out _).mono ?_
    rintro e w2 ⟨rfl, hb2⟩
    have HM2 : Hid (NamesMap w2 w.heap.size 20 (fun x => firstAt x l)) := HM1.out.below hb2
    have HB2 : Hid (Below w.heap.size w w2) := HB1.out.trans (hb2.mono HB1.out.size)
    clear hb2 HM1 HB1 HS
    go_wp2_with (at_lookup; refine wpList_look_none _ rfl _ _ rfl w.heap.size 20 _ rfl HM2.out q rfl (by omega) HF.out ?_)
    go_ret2
    exact ⟨hret_sb HR.out.1.symm HR.out.2.symm, HB2.out⟩
  | some i =>
    have hil := firstAt_lt hf
    obtain ⟨r, hr⟩ : ∃ r, l[i]? = some r := ⟨l[i], List.getElem?_eq_getElem hil⟩
    have HR : Hid (firstV (lowS name) l = r.value ∧ firstB (lowS name) l = true) := firstV_some hf hr
    have HF : Hid (firstAt (lowS name) l = some i) := hf
    obtain ⟨b, off, rfl, hat⟩ := HI.out.ok hr
    have HAT : Hid (∀ W, Below w.heap.size w W → W.cell? ⟨b, off + i * 2, none⟩ = some (.string r.name) ∧ W.cell? ⟨b, off + i * 2 + 1, none⟩ = some (.string r.value)) := fun W hb => (hat.keep hb) i r hr
    clear hf hr hat HI
    generalize l.length = n at *
    generalize lowS name = q at *
    generalize r.value = rv at *
    generalize r.name = rn at *
    have gi1 : (i : Int) < (n : Int) := by omega
    go_enter Tryz.func23, Tryz.ntmps23
    go_wp2_with fail
    refine HP.mono ?_
    rintro e w1 ⟨rfl, hm1, hb1⟩
    have HM1 : Hid (NamesMap w1 w.heap.size 20 (fun x => firstAt x l)) := hm1
    have HB1 : Hid (Below w.heap.size w w1) := hb1
    clear hm1 hb1 HP
    go_wp2_with fail
    refine (HS.out _).mono ?_
    rintro e w2 ⟨rfl, hb2⟩
    have HM2 : Hid (NamesMap w2 w.heap.size 20 (fun x => firstAt x l)) := HM1.out.below hb2
    have HB2 : Hid (Below w.heap.size w w2) := HB1.out.trans (hb2.mono HB1.out.size)
    obtain ⟨p1, p3⟩ := HAT.out _ HB2.out
    clear hb2 HM1 HB1 HS
    go_wp2_with (at_lookup; refine wpList_look_some _ rfl _ _ rfl w.heap.size 20 _ rfl HM2.out q rfl (by omega) i HF.out ?_)
    go_ret2
    exact ⟨hret_sb HR.out.1.symm HR.out.2.symm, HB2.out⟩
/-! ### EtagOf -/
def etagN : ByteArray := ⟨#[101, 116, 97, 103]⟩
theorem etag_low : lowS ⟨#[101, 116, 97, 103]⟩ = etagN := by decide +kernel
theorem etagI_low : lowS ⟨#[69, 84, 97, 103]⟩ = etagN := by decide +kernel
def etagC (l : List Hdr) : Int := if headsC l = 0 then (if firstV etagN l = ⟨#[]⟩ then 4 else 0) else headsC l
def etagT (l : List Hdr) : ByteArray := if headsC l = 0 then firstV etagN l else ⟨#[]⟩
theorem etag_bad {l : List Hdr} (h : ¬ headsC l = 0) : etagC l = headsC l ∧ etagT l = ⟨#[]⟩ := by rw [etagC, etagT, if_neg h, if_neg h]; exact ⟨rfl, rfl⟩
theorem etag_none {l : List Hdr} (h : headsC l = 0) (h2 : firstV etagN l = ⟨#[]⟩) : etagC l = 4 ∧ etagT l = ⟨#[]⟩ := by rw [etagC, etagT, if_pos h, if_pos h, if_pos h2]; exact ⟨rfl, h2⟩
theorem etag_some {l : List Hdr} (h : headsC l = 0) (h2 : ¬ firstV etagN l = ⟨#[]⟩) : etagC l = 0 ∧ etagT l = firstV etagN l := by rw [etagC, etagT, if_pos h, if_pos h, if_neg h2]; exact ⟨rfl, rfl⟩
theorem etxt_ne {a : ByteArray} (h : ¬ a = ⟨#[]⟩) : a.toList.isEmpty = false := by
  rw [ByteArray.toList_eq]
  cases hd : a.data.toList with
  | nil => exact absurd (ByteArray.ext (Array.ext' (by rw [hd]))) h
  | cons x l => rfl
end Go.Proofs.YtgfbahjpaaanoaaGreatDoor
/-
  What JoinHeader answers.
-/
namespace Go.Proofs.YtgfbahjpaaanoaaGreatDoor
open Go.ChangeShapes Go.WideShapes Go.ChangeAt Go.RowKit Go.Sort
theorem HeadsAt.drop {w : World} {b off : Nat} {l : List Hdr} (h : HeadsAt w b off l) (i : Nat) : HeadsAt w b (off + i * 2) (l.drop i) := by
  intro j r hr
  rw [List.getElem?_drop] at hr
  obtain ⟨a, c⟩ := h (i + j) r hr
  rw [show off + (i + j) * 2 = off + i * 2 + j * 2 from by omega] at a c
  exact ⟨a, c⟩
theorem hjoinL_len (vs : List ByteArray) (h : ∀ v ∈ vs, v.size ≤ 200) : (hjoinL vs).length ≤ vs.length * 202 := by
  unfold hjoinL
  cases vs with
  | nil => simp [Lib.join, List.intercalate]
  | cons x r =>
    rw [List.map_cons, Lib.join_length]
    have hl : ∀ (l : List ByteArray), (∀ v ∈ l, v.size ≤ 200) → Lib.lens (l.map (·.data.toList)) ≤ l.length * 200 := by
      intro l
      induction l with
      | nil => intro _; simp [Lib.lens]
      | cons y l ih =>
        intro hy
        have h1 := ih fun v hv => hy v (by simp [hv])
        have h2 := hy y (by simp)
        have h3 : y.data.toList.length = y.size := by simp
        simp only [List.map_cons, Lib.lens, List.length_cons, List.sum_cons] at h1 ⊢
        omega
    have := hl (x :: r) h
    rw [List.map_cons] at this
    simp only [List.length_cons, List.length_map, List.length_nil] at this ⊢
    omega
theorem valsOf_mem {x : ByteArray} {l : List Hdr} (hz : ∀ (i : Nat) r, l[i]? = some r → r.name.size ≤ 64 ∧ r.value.size ≤ 200) : ∀ v ∈ valsOf x l, v.size ≤ 200 := by
  intro v hv
  obtain ⟨r, hr, rfl⟩ := List.mem_map.1 hv
  obtain ⟨i, hi⟩ := List.getElem?_of_mem (List.mem_filter.1 hr).1
  exact (hz i r hi).2
theorem valsOf_len (x : ByteArray) (l : List Hdr) : (valsOf x l).length ≤ l.length := by
  unfold valsOf
  rw [List.length_map]
  exact List.length_filter_le _ _
set_option maxRecDepth 100000 in
set_option maxHeartbeats 8000000 in
theorem implJoin_found (w : World) (b off cap : Nat) (l : List Hdr) (name : ByteArray) (i : Nat) (h0 : askC l name = 0) (hf : firstAt (lowS name) l = some i) (hcap : l.length ≤ cap) (hset : SetIs w) (hat : HeadsAt w b off l) :
    Calls Tryz.prog 53 #[.slice (some ⟨b, off, none⟩) l.length cap, .string name] w fun e w' => e = .returned (.agg #[.int .i64 0, .string ⟨(hjoinL (valsOf (lowS name) l)).toArray⟩]) ∧ Below w.heap.size w w' := by
  obtain ⟨h20, hz, hnm⟩ := asked h0
  have hi : HdsIn w (some ⟨b, off, none⟩) l := .inr ⟨b, off, rfl, hat⟩
  have HA : Hid (∀ W, Below w.heap.size w W → Calls Tryz.prog 78 #[.slice (some ⟨b, off, none⟩) l.length cap, .string name] W fun e w' => e = .returned (.int .i64 0) ∧ Below W.heap.size W w') := fun W hb => by
    have := namedFault_any W (some ⟨b, off, none⟩) cap l name (by omega) (hset.below hb) (hi.keep hb)
    rw [h0] at this
    exact this
  have HP : Hid (∀ W, Below w.heap.size w W → Calls Tryz.prog 48 #[.slice (some ⟨b, off, none⟩) l.length cap] W fun e w' => e = .returned (.map (some W.heap.size)) ∧ NamesMap w' W.heap.size 20 (fun x => firstAt x l) ∧ Below W.heap.size W w') := fun W hb => firstPlaces_any W _ cap l h20 (fun i r hr => (hz i r hr).1) (hi.keep hb)
  have HS : Hid (∀ W, Calls Tryz.prog 49 #[.string name] W fun e w' => e = .returned (.string (lowS name)) ∧ Below W.heap.size W w') := fun W => smallName_any name W (by omega)
  have hil := firstAt_lt hf
  have HV : Hid (valsOf (lowS name) (l.drop i) = valsOf (lowS name) l) := (valsOf_drop hf).1
  have HD : Hid (HeadsAt w b (off + i * 2) (l.drop i)) := hat.drop i
  have HZ : Hid (∀ (j : Nat) r, (l.drop i)[j]? = some r → r.name.size ≤ 64 ∧ r.value.size ≤ 200) := fun j r hr => by
    rw [List.getElem?_drop] at hr
    exact hz _ r hr
  have HF : Hid (firstAt (lowS name) l = some i) := hf
  have sz := lowS_size name
  have hJL : (hjoinL (valsOf (lowS name) l)).length ≤ 4040 := by
    have h1 := hjoinL_len _ (valsOf_mem (x := lowS name) hz)
    have h2 := valsOf_len (lowS name) l
    have h3 : (valsOf (lowS name) l).length * 202 ≤ 20 * 202 := Nat.mul_le_mul_right _ (by omega)
    omega
  have hVL : (valsOf (lowS name) l).length ≤ 20 := Nat.le_trans (valsOf_len _ _) h20
  generalize hM : l.drop i = M at *
  have hMl : M.length = l.length - i := by rw [← hM, List.length_drop]
  clear hi hz h0 hset hat hf hM
  generalize lowS name = q at *
  have hni : i < l.length := hil
  generalize hn : l.length = n at *
  have HN : Hid (M.length = n - i) := hMl
  clear hMl hil hn
  go_enter Tryz.func53, Tryz.ntmps53
  go_wp2_with fail
  refine (HA.out _ ((Below.refl _ _).alloc (Nat.le_refl _) _)).mono ?_
  rintro e w1 ⟨rfl, hb1⟩
  rw [World.size_alloc] at hb1
  have HB1 : Hid (Below (w.heap.size + 1) (w.alloc (.cells #[.int .i64 0, .string ⟨#[]⟩] 98)) w1) := hb1
  have hz1 : w.heap.size + 1 ≤ w1.heap.size := by have := hb1.size; rwa [World.size_alloc] at this
  clear hb1 HA
  go_wp2_with fail
  refine (HS.out _).mono ?_
  rintro e w2 ⟨rfl, hb2⟩
  have HB2 : Hid (Below (w.heap.size + 1) (w.alloc (.cells #[.int .i64 0, .string ⟨#[]⟩] 98)) w2) := HB1.out.trans (hb2.mono hz1)
  have hz2 : w.heap.size + 1 ≤ w2.heap.size := Nat.le_trans hz1 hb2.size
  clear hb2 HB1 HS hz1
  go_wp2_with fail
  refine (HP.out _ (text_room HB2.out).2.2.2.2.2).mono ?_
  rintro e w3 ⟨rfl, hm3, hb3⟩
  have HB3 : Hid (Below (w.heap.size + 1) (w.alloc (.cells #[.int .i64 0, .string ⟨#[]⟩] 98)) w3) := HB2.out.trans (hb3.mono hz2)
  have hz3 : w.heap.size + 1 ≤ w3.heap.size := Nat.le_trans hz2 hb3.size
  have HM3 : Hid (NamesMap w3 w2.heap.size 20 (fun x => firstAt x l)) := hm3
  clear hb3 HB2 hm3 HP hz2
  generalize w2.heap.size = B at *
  try clear w2
  have gi0 : (0 : Int) ≤ (i : Int) := by omega
  have gi1 : (i : Int) ≤ (n : Int) := by omega
  have gi2 : (n : Int) ≤ (cap : Int) := by omega
  go_wp2_with (at_lookup; refine wpList_look_some _ rfl _ _ rfl B 20 _ rfl HM3.out q rfl (by omega) i HF.out ?_)
  clear HM3
  have hm20 : n - i ≤ 20 := by omega
  generalize n - i = m at *
  go_loopw [9, 35] (fun v j wr => ∃ (k : Nat), k ≤ m ∧ j = .int .i64 k ∧ OwnS wr (w.heap.size + 1) v (valsOf q (M.take k)) ∧ Below (w.heap.size + 1) (w.alloc (.cells #[.int .i64 0, .string ⟨#[]⟩] 98)) wr) (fun _ j _ => m - (intOf j).toNat)
  case atStart => exact ⟨0, Nat.zero_le _, rfl, OwnS.nil _ _, HB3.out⟩
  case round =>
    obtain ⟨k, hk, rfl, ho, hb⟩ := hrel
    have HO : Hid (OwnS wr (w.heap.size + 1) u9 (valsOf q (M.take k))) := ho
    have hz : w.heap.size + 1 ≤ wr.heap.size := by have := hb.size; rwa [World.size_alloc] at this
    have hwr : Below w.heap.size w wr := ((Below.refl _ _).alloc (Nat.le_refl _) _).trans (hb.mono (Nat.le_succ _))
    clear ho HB3
    by_cases hlt : k < m
    · obtain ⟨r, hr⟩ : ∃ r, M[k]? = some r := ⟨M[k]'(by have := HN.out; omega), List.getElem?_eq_getElem _⟩
      obtain ⟨p1, p3⟩ := (HD.out.keep hwr) k r hr
      obtain ⟨z1, z2⟩ := HZ.out k r hr
      have HK : Hid (M.take (k + 1) = M.take k ++ [r]) := take_hdr hr
      have hlk : (valsOf q (M.take k)).length ≤ 20 := Nat.le_trans (valsOf_len _ _) (by rw [List.length_take]; omega)
      have gk : (k : Int) < m := by omega
      clear hr HD HZ hwr
      have KY := @valsOf_yes q r (M.take k)
      have KN := @valsOf_no q r (M.take k)
      obtain ⟨rn, rv⟩ := r
      simp only at p1 p3 z1 z2 KY KN
      have SN := fun w => smallName_any rn w (by omega)
      have HSN : Hid (∀ w, Calls Tryz.prog 49 #[.string rn] w fun e w' => e = .returned (.string (lowS rn)) ∧ Below w.heap.size w w') := SN
      clear SN
      by_cases he : lowS rn = q
      · have HX : Hid (valsOf q (M.take (k + 1)) = valsOf q (M.take k) ++ [rv]) := by show _ = _; rw [HK.out]; exact KY he
        rw [he] at HSN
        clear KY KN HK he
        generalize valsOf q (M.take k) = L at *
        go_wp2_with fail
        refine (HSN.out _).mono ?_
        rintro e w4 ⟨rfl, hb4⟩
        obtain ⟨hz4, c0, c1, kb⟩ := hdr_room hb4
        have HO4 : Hid (OwnS w4 (w.heap.size + 1) u9 L) := HO.out.below kb
        have HB4 : Hid (Below (w.heap.size + 1) (w.alloc (.cells #[.int .i64 0, .string ⟨#[]⟩] 98)) w4) := hb.trans (kb.mono hz)
        have hz5 : w.heap.size + 1 ≤ w4.heap.size := Nat.le_trans hz kb.size
        clear hb4 kb hb HO p1 p3
        go_wp2_with (at_builtin; refine wpList_append_str _ rfl (.tmp 44) (.tmp 47) rfl (w.heap.size + 1) _ L rv rfl rfl HO4.out (by omega) hz5 ?_; intro v6 w6 HO6 hb6 hz6)
        go_roundw
        case rel => exact ⟨k + 1, by omega, by go_num, by rw [HX.out]; exact HO6, HB4.out.trans hb6⟩
        case measure => simp [intOf]; omega
      · have HX : Hid (valsOf q (M.take (k + 1)) = valsOf q (M.take k)) := by show _ = _; rw [HK.out]; exact KN he
        have hq := hstr_ne he
        clear KY KN HK he
        generalize lowS rn = q2 at *
        generalize valsOf q (M.take k) = L at *
        go_wp2_with fail
        refine (HSN.out _).mono ?_
        rintro e w4 ⟨rfl, hb4⟩
        obtain ⟨hz4, c0, c1, kb⟩ := hdr_room hb4
        have HO4 : Hid (OwnS w4 (w.heap.size + 1) u9 L) := HO.out.below kb
        have HB4 : Hid (Below (w.heap.size + 1) (w.alloc (.cells #[.int .i64 0, .string ⟨#[]⟩] 98)) w4) := hb.trans (kb.mono hz)
        clear hb4 kb hb HO p1 p3
        go_wp2_with fail
        go_roundw
        case rel => exact ⟨k + 1, by omega, by go_num, by rw [HX.out]; exact HO4.out, HB4.out⟩
        case measure => simp [intOf]; omega
    · have ek : M.take k = M := List.take_of_length_le (by have := HN.out; omega)
      have HO2 := HO.out
      rw [ek, HV.out] at HO2
      have HJ := join_own wr _ u9 _ HO2 (by omega) (by show (hjoinL (valsOf q l)).length ≤ _; omega)
      have HT : Hid ((⟨(hjoinL (valsOf q l)).toArray⟩ : ByteArray).size ≤ 4040) := by show _ ≤ _; simpa [ByteArray.size] using hJL
      have HJ2 : Hid (Calls Tryz.prog 80 #[u9, .string ⟨#[44, 32]⟩] wr fun e w' => e = .returned (.string ⟨(hjoinL (valsOf q l)).toArray⟩) ∧ Below wr.heap.size wr w') := HJ
      obtain ⟨jt, HJT⟩ : ∃ jt, Hid ((⟨(hjoinL (valsOf q l)).toArray⟩ : ByteArray) = jt) := ⟨_, rfl⟩
      rw [HJT.out] at HT HJ2
      have hjt := HT.out
      have HBr : Hid (Below (w.heap.size + 1) (w.alloc (.cells #[.int .i64 0, .string ⟨#[]⟩] 98)) wr) := hb
      clear HT HJ HO2 HO ek hwr hb HD HZ
      go_wp2_with fail
      refine HJ2.out.mono ?_
      rintro e w4 ⟨rfl, hb4⟩
      go_wp2_with fail
      refine (hclone_any jt _ (by omega)).mono ?_
      rintro e w5 ⟨rfl, hb5⟩
      obtain ⟨hz6, q0, q1, f0, f1, kb⟩ := text_room (HBr.out.trans ((hb4.trans (hb5.mono hb4.size)).mono hz))
      obtain ⟨r0, r1⟩ := two_set (v0 := .int .i64 0) (v1 := .string jt) q0 q1
      clear hb4 hb5 HJ2 HBr
      go_wp2_with fail
      exact bodyPost_ret (v := .agg #[.int .i64 0, .string jt]) (by simp [results, Tryz.results53, go_sem, r0, r1]) rfl ⟨by rw [HJT.out], (kb.setCell (Nat.le_refl _) _).setCell (Nat.le_refl _) _⟩
set_option maxRecDepth 100000 in
set_option maxHeartbeats 4000000 in
theorem implJoin_any (w : World) (a : Option Addr) (cap : Nat) (l : List Hdr) (name : ByteArray) (hl : l.length ≤ 1048576) (hcap : l.length ≤ cap) (hset : SetIs w) (hi : HdsIn w a l) :
    Calls Tryz.prog 53 #[.slice a l.length cap, .string name] w fun e w' => e = .returned (.agg #[.int .i64 (joinC l name), .string (joinT l name)]) ∧ Below w.heap.size w w' := by
  have HA : Hid (∀ W, Below w.heap.size w W → Calls Tryz.prog 78 #[.slice a l.length cap, .string name] W fun e w' => e = .returned (.int .i64 (askC l name)) ∧ Below W.heap.size W w') := fun W hb => namedFault_any W a cap l name hl (hset.below hb) (hi.keep hb)
  by_cases h0 : askC l name = 0
  · cases hf : firstAt (lowS name) l with
    | some i =>
      have hv : ¬ valsOf (lowS name) l = [] := fun e => by rw [valsOf_first.1 e] at hf; cases hf
      rw [(join_some h0 hv).1, (join_some h0 hv).2]
      have hil := firstAt_lt hf
      rcases hi with h | ⟨b, off, rfl, hat⟩
      · subst h; simp at hil
      · exact implJoin_found w b off cap l name i h0 hf hcap hset hat
    | none =>
      have hv : valsOf (lowS name) l = [] := valsOf_first.2 hf
      rw [(join_none h0 hv).1, (join_none h0 hv).2]
      obtain ⟨h20, hz, hnm⟩ := asked h0
      have HP : Hid (∀ W, Below w.heap.size w W → Calls Tryz.prog 48 #[.slice a l.length cap] W fun e w' => e = .returned (.map (some W.heap.size)) ∧ NamesMap w' W.heap.size 20 (fun x => firstAt x l) ∧ Below W.heap.size W w') := fun W hb => firstPlaces_any W a cap l h20 (fun i r hr => (hz i r hr).1) (hi.keep hb)
      have HS : Hid (∀ W, Calls Tryz.prog 49 #[.string name] W fun e w' => e = .returned (.string (lowS name)) ∧ Below W.heap.size W w') := fun W => smallName_any name W (by omega)
      have HF : Hid (firstAt (lowS name) l = none) := hf
      have sz := lowS_size name
      rw [h0] at HA
      clear hi hz h0 h20 hset hf hv
      generalize l.length = n at *
      generalize lowS name = q at *
      go_enter Tryz.func53, Tryz.ntmps53
      go_wp2_with fail
      refine (HA.out _ ((Below.refl _ _).alloc (Nat.le_refl _) _)).mono ?_
      rintro e w1 ⟨rfl, hb1⟩
      rw [World.size_alloc] at hb1
      have HB1 : Hid (Below (w.heap.size + 1) (w.alloc (.cells #[.int .i64 0, .string ⟨#[]⟩] 98)) w1) := hb1
      have hz1 : w.heap.size + 1 ≤ w1.heap.size := by have := hb1.size; rwa [World.size_alloc] at this
      clear hb1 HA
      go_wp2_with fail
      refine (HS.out _).mono ?_
      rintro e w2 ⟨rfl, hb2⟩
      have HB2 : Hid (Below (w.heap.size + 1) (w.alloc (.cells #[.int .i64 0, .string ⟨#[]⟩] 98)) w2) := HB1.out.trans (hb2.mono hz1)
      have hz2 : w.heap.size + 1 ≤ w2.heap.size := Nat.le_trans hz1 hb2.size
      clear hb2 HB1 HS hz1
      go_wp2_with fail
      refine (HP.out _ (text_room HB2.out).2.2.2.2.2).mono ?_
      rintro e w3 ⟨rfl, hm3, hb3⟩
      obtain ⟨hz3, q0, q1, f0, f1, kb⟩ := text_room (HB2.out.trans (hb3.mono hz2))
      obtain ⟨r0, r1⟩ := two_set (v0 := .int .i64 4) (v1 := .string ⟨#[]⟩) q0 q1
      have HM3 : Hid (NamesMap w3 w2.heap.size 20 (fun x => firstAt x l)) := hm3
      clear hb3 HB2 hm3 HP hz2
      generalize w2.heap.size = B at *
      try clear w2
      go_wp2_with (at_lookup; refine wpList_look_none _ rfl _ _ rfl B 20 _ rfl HM3.out q rfl (by omega) HF.out ?_)
      exact bodyPost_ret (v := .agg #[.int .i64 4, .string ⟨#[]⟩]) (by simp [results, Tryz.results53, go_sem, r0, r1]) rfl ⟨rfl, (kb.setCell (Nat.le_refl _) _).setCell (Nat.le_refl _) _⟩
  · rw [(join_bad h0).1, (join_bad h0).2]
    clear hi hset
    generalize askC l name = fc at *
    generalize l.length = n at *
    go_enter Tryz.func53, Tryz.ntmps53
    go_wp2_with fail
    refine (HA.out _ ((Below.refl _ _).alloc (Nat.le_refl _) _)).mono ?_
    rintro e w1 ⟨rfl, hb1⟩
    rw [World.size_alloc] at hb1
    obtain ⟨hz2, q0, q1, f0, f1, kb⟩ := text_room hb1
    obtain ⟨r0, r1⟩ := two_set (v0 := .int .i64 fc) (v1 := .string ⟨#[]⟩) q0 q1
    clear hb1 HA
    go_wp2_with fail
    exact bodyPost_ret (v := .agg #[.int .i64 fc, .string ⟨#[]⟩]) (by simp [results, Tryz.results53, go_sem, r0, r1]) rfl ⟨rfl, (kb.setCell (Nat.le_refl _) _).setCell (Nat.le_refl _) _⟩
end Go.Proofs.YtgfbahjpaaanoaaGreatDoor
/-
  What the model's l2Quote answers.
-/
namespace Go.Proofs.YtgfbahjpaaanoaaGreatDoor
open Go.ChangeShapes Go.WideShapes Go.ChangeAt Go.RowKit
def quoteT (s : ByteArray) : ByteArray := ⟨(quoteL s.data.toList).toArray⟩
end Go.Proofs.YtgfbahjpaaanoaaGreatDoor
/-
  What the model's l2Unquote answers.
-/
namespace Go.Proofs.YtgfbahjpaaanoaaGreatDoor
open Go.ChangeShapes Go.WideShapes Go.ChangeAt Go.RowKit
def unqS (s : ByteArray) : ByteArray := ⟨(unqT s.data.toList).1.toArray⟩
def unqB (s : ByteArray) : Bool := (unqT s.data.toList).2
theorem ret_two {a b : ByteArray} {c d : Bool} (h1 : a = b) (h2 : c = d) : Ending.returned (.tuple #[.string a, .bool c]) = .returned (.tuple #[.string b, .bool d]) := by rw [h1, h2]
theorem unq_of {s : ByteArray} {p : List UInt8 × Bool} (h : unqT s.data.toList = p) : (⟨p.1.toArray⟩ : ByteArray) = unqS s ∧ p.2 = unqB s := by subst h; exact ⟨rfl, rfl⟩
theorem unqT_no {l : List UInt8} (h : ¬ (2 ≤ l.length ∧ l.head? = some 34 ∧ plainL l = true)) : unqT l = ([], false) := by unfold unqT; rw [if_neg h]
theorem unqT_go {l : List UInt8} (h1 : 2 ≤ l.length) (h2 : l.head? = some 34) (h3 : plainL l = true) : unqT l = unq [] (l.drop 1) := by unfold unqT; rw [if_pos ⟨h1, h2, h3⟩, List.drop_one]
theorem drop_at (s : ByteArray) (k : Nat) (h : k < s.size) : s.data.toList.drop k = s[k] :: s.data.toList.drop (k + 1) := by
  rw [List.drop_eq_getElem_cons (by simpa using h)]; rfl
set_option maxHeartbeats 400000 in
theorem l2Unquote_not (s : ByteArray) (w : World) (hs : s.size ≤ 2002) (h : ¬ (2 ≤ s.data.toList.length ∧ s.data.toList.head? = some 34 ∧ plainL s.data.toList = true)) :
    Calls Tryz.prog 161 #[.string s] w fun e w' => e = .returned (.tuple #[.string ⟨#[]⟩, .bool false]) ∧ Below w.heap.size w w' := by
  by_cases h1 : s.size < 2
  · have g1 : (s.size : Int) < 2 := by omega
    clear h
    go_enter Tryz.func161, Tryz.ntmps161
    go_wp2
    go_ret2
    exact ⟨rfl, Below.refl _ _⟩
  · have g1 : ¬ (s.size : Int) < 2 := by omega
    have h0 : 0 < s.size := by omega
    have g0 : (0 : Int) < s.size := by omega
    have eh : s.data.toList.head? = some s[0] := by
      have := drop_at s 0 h0
      rw [List.drop_zero] at this
      rw [this]; rfl
    by_cases h2 : (s[0].toNat : Int) = 34
    · have g2 : ((s[0].toNat : Int) != 34) = false := by simpa using h2
      have h3 : plainL s.data.toList = false := by
        cases hp : plainL s.data.toList
        · rfl
        · refine absurd ⟨by simpa using (by omega : 2 ≤ s.size), ?_, hp⟩ h
          rw [eh]
          exact congrArg some (UInt8.toNat_inj.1 (by simpa using (by omega : s[0].toNat = 34)))
      have HP : Hid (plainL s.data.toList = false) := h3
      clear h3 h eh h2
      go_enter Tryz.func161, Tryz.ntmps161
      go_wp2_with fail
      refine (plainText_any s _ (by omega)).mono ?_
      rintro e w1 ⟨rfl, rfl⟩
      rw [HP.out]
      go_wp2
      go_ret2
      exact ⟨rfl, Below.refl _ _⟩
    · have g2 : ((s[0].toNat : Int) != 34) = true := by simpa using h2
      clear h eh h2
      go_enter Tryz.func161, Tryz.ntmps161
      go_wp2
      go_ret2
      exact ⟨rfl, Below.refl _ _⟩
set_option maxHeartbeats 2000000 in
theorem l2Unquote_yes (s : ByteArray) (w : World) (hs : s.size ≤ 2002) (h1 : 2 ≤ s.data.toList.length) (h2 : s.data.toList.head? = some 34) (h3 : plainL s.data.toList = true) :
    Calls Tryz.prog 161 #[.string s] w fun e w' => e = .returned (.tuple #[.string (unqS s), .bool (unqB s)]) ∧ Below w.heap.size w w' := by
  have hn : 2 ≤ s.size := by simpa using h1
  have g1 : ¬ (s.size : Int) < 2 := by omega
  have h0 : 0 < s.size := by omega
  have g0 : (0 : Int) < s.size := by omega
  have g2 : ((s[0].toNat : Int) != 34) = false := by
    have := drop_at s 0 h0
    rw [List.drop_zero] at this
    rw [this] at h2
    simp only [List.head?_cons, Option.some.injEq] at h2
    rw [h2]; decide
  have HT : Hid (unqT s.data.toList = unq [] (s.data.toList.drop 1)) := unqT_go h1 h2 h3
  have HP : Hid (plainL s.data.toList = true) := h3
  clear h1 h2 h3
  go_enter Tryz.func161, Tryz.ntmps161
  go_wp2_with fail
  refine (plainText_any s _ (by omega)).mono ?_
  rintro e w1 ⟨rfl, rfl⟩
  rw [HP.out]
  clear HP
  go_wp2
  go_loopw [4, 5] (fun v i wr => ∃ (k : Nat) (acc : List UInt8), k ≤ s.size ∧ acc.length ≤ k ∧ i = .int .i64 k ∧ OwnB wr w1.heap.size v acc ∧ unqT s.data.toList = unq acc (s.data.toList.drop k) ∧ Below w1.heap.size w1 wr) (fun _ i _ => s.size - (intOf i).toNat)
  case atStart => exact ⟨1, [], by omega, by simp, rfl, OwnB.made w1 w1.heap.size (Nat.le_refl _) [] (by decide), HT.out, (Below.refl _ _).alloc (Nat.le_refl _) _⟩
  case round =>
    obtain ⟨k, acc, hk, ha, rfl, hown, hq, hb⟩ := hrel
    have HO : Hid (OwnB wr w1.heap.size u4 acc) := hown
    have HQ : Hid (unqT s.data.toList = unq acc (s.data.toList.drop k)) := hq
    have hz := hb.size
    clear hown hq HT
    by_cases hlt : k < s.size
    · have HD : Hid (s.data.toList.drop k = s[k] :: s.data.toList.drop (k + 1)) := drop_at s k hlt
      by_cases c1 : (s[k].toNat : Int) = 34
      · have HE : Hid ((⟨acc.toArray⟩ : ByteArray) = unqS s ∧ decide (s.data.toList.drop (k + 1) = []) = unqB s) := by
          have := HQ.out
          rw [HD.out, unq_end _ _ _ c1] at this
          exact unq_of this
        have e1 : ((s[k].toNat : Int) == 34) = true := by simpa using c1
        have hcv := HO.out.text
        by_cases hl : k + 1 = s.size
        · have e2 : ((k : Int) == (s.size : Int) - 1) = true := by simp; omega
          have HF : Hid (unqB s = true) := by
            show _ = _
            rw [← HE.out.2]; simp; omega
          have HG : Hid ((⟨acc.toArray⟩ : ByteArray) = unqS s) := HE.out.1
          clear HE HQ HD c1
          generalize (⟨acc.toArray⟩ : ByteArray) = r at *
          go_wp2_with fail
          go_ret2
          exact ⟨ret_two HG.out HF.out.symm, hb⟩
        · have e2 : ((k : Int) == (s.size : Int) - 1) = false := by simp; omega
          have HF : Hid (unqB s = false) := by
            show _ = _
            rw [← HE.out.2]; simp; omega
          have HG : Hid ((⟨acc.toArray⟩ : ByteArray) = unqS s) := HE.out.1
          clear HE HQ HD c1
          generalize (⟨acc.toArray⟩ : ByteArray) = r at *
          go_wp2_with fail
          go_ret2
          exact ⟨ret_two HG.out HF.out.symm, hb⟩
      · have e1 : ((s[k].toNat : Int) == 34) = false := by simpa using c1
        by_cases c2 : (s[k].toNat : Int) = 92
        · have e2 : ((s[k].toNat : Int) == 92) = true := by simpa using c2
          by_cases hl : k + 1 = s.size
          · have e3 : ((k : Int) + 1 == (s.size : Int)) = true := by simp; omega
            have HE : Hid ((⟨#[]⟩ : ByteArray) = unqS s ∧ false = unqB s) := by
              have := HQ.out
              rw [HD.out, show s.data.toList.drop (k + 1) = [] from List.drop_of_length_le (by simp; omega), unq_cut _ _ c2] at this
              exact unq_of this
            clear HQ HD c1 c2
            go_wp2_with fail
            go_ret2
            exact ⟨ret_two HE.out.1 HE.out.2, hb⟩
          · have e3 : ((k : Int) + 1 == (s.size : Int)) = false := by simp; omega
            have hlt2 : k + 1 < s.size := by omega
            have HE : Hid (unqT s.data.toList = unq (acc ++ [s[k + 1]]) (s.data.toList.drop (k + 2))) := by
              show _ = _
              rw [HQ.out, HD.out, drop_at s (k + 1) hlt2, unq_esc _ _ _ _ c2]
            clear HQ HD c1 c2
            go_wp2_with (at_builtin; refine wpList_append_byte _ rfl (.tmp 49) (.tmp 53) rfl w1.heap.size _ acc _ s[k + 1] rfl rfl HO.out rfl (by omega) hz ?_; intro v2 w2 HO2 hb2 hz2)
            go_roundw
            case rel => exact ⟨k + 2, acc ++ [s[k + 1]], by omega, by simp; omega, by go_num, HO2, HE.out, hb.trans hb2⟩
            case measure => simp [intOf]; omega
        · have e2 : ((s[k].toNat : Int) == 92) = false := by simpa using c2
          have HE : Hid (unqT s.data.toList = unq (acc ++ [s[k]]) (s.data.toList.drop (k + 1))) := by
            show _ = _
            rw [HQ.out, HD.out, unq_take _ _ _ c1 c2]
          clear HQ HD c1 c2
          go_wp2_with (at_builtin; refine wpList_append_byte _ rfl (.tmp 49) (.tmp 53) rfl w1.heap.size _ acc _ s[k] rfl rfl HO.out rfl (by omega) hz ?_; intro v2 w2 HO2 hb2 hz2)
          go_roundw
          case rel => exact ⟨k + 1, acc ++ [s[k]], by omega, by simp; omega, by go_num, HO2, HE.out, hb.trans hb2⟩
          case measure => simp [intOf]; omega
    · have HE : Hid ((⟨#[]⟩ : ByteArray) = unqS s ∧ false = unqB s) := by
        have := HQ.out
        rw [show s.data.toList.drop k = [] from List.drop_of_length_le (by simp; omega)] at this
        exact unq_of this
      clear HQ
      go_wp2_with fail
      go_ret2
      exact ⟨ret_two HE.out.1 HE.out.2, hb⟩
theorem l2Unquote_any (s : ByteArray) (w : World) (hs : s.size ≤ 2002) :
    Calls Tryz.prog 161 #[.string s] w fun e w' => e = .returned (.tuple #[.string (unqS s), .bool (unqB s)]) ∧ Below w.heap.size w w' := by
  by_cases h : 2 ≤ s.data.toList.length ∧ s.data.toList.head? = some 34 ∧ plainL s.data.toList = true
  · exact l2Unquote_yes s w hs h.1 h.2.1 h.2.2
  · have e := unq_of (unqT_no h)
    have := l2Unquote_not s w hs h
    rw [← e.1, ← e.2]
    exact this
end Go.Proofs.YtgfbahjpaaanoaaGreatDoor
/-
  A slice of bytes that the call itself grows, from nil on; where what a quote begins ends.
-/
namespace Go.Proofs.YtgfbahjpaaanoaaGreatDoor
open Go.ChangeShapes Go.WideShapes Go.ChangeAt Go.RowKit
theorem size_list (s : ByteArray) : s.data.toList.length = s.size := by simp
/-- v, nil or not, holds the bytes l in a row of the call's own. -/
def OwnR (w : World) (base : Nat) (v : Value) (l : List UInt8) : Prop := w.ownsRow base 5 1 v l.length (bytesW l)
theorem OwnR.text {w : World} {base : Nat} {v : Value} {l : List UInt8} (h : OwnR w base v l) :
    (convert 22 9 v).run Tryz.prog w = .ok (.string ⟨l.toArray⟩) w := by
  by_cases hn : v = .slice none 0 0
  · obtain ⟨_, h2 | ⟨g, c, cur, e, _⟩⟩ := h
    · have : l = [] := List.eq_nil_of_length_eq_zero h2.2
      subst this hn
      rw [run_convert_bytes_string w 22 9 5 none 0 0 Tryz.underlying22 Tryz.underlying5 Tryz.underlying9]
      rfl
    · rw [hn] at e; cases e
  · exact OwnB.text ⟨h, hn⟩
theorem OwnR.nil (w : World) (base : Nat) : OwnR w base (.slice none 0 0) [] := World.ownsRow_nil _ _ _ _
theorem wpList_append_byteR {ops : Array Oper} {rest : List Oper} {o : Oper} {a : Act} {Q : Exit → Act → World → Prop} (w : World) (hgd : o.guard = none) (s x : Operand)
    (ho : o.op = .call { callee := .builtin .append, args := #[s, x], argTypes := #[22, 22] }) (base : Nat) (v : Value) (l : List UInt8) (z : Int) (c : UInt8)
    (hs : a.eval s = v) (hx : a.eval x = .slice (some ⟨w.heap.size, 0, none⟩) 1 1) (hown : OwnR w base v l) (hc : (c.toNat : Int) = z) (hl : l.length ≤ 1000000) (hbase : base ≤ w.heap.size)
    (h : ∀ v' w', OwnR w' base v' (l ++ [c]) → Below base w w' → w.heap.size ≤ w'.heap.size → wpList Tryz.prog ops Q rest (a.put o.dst v') w') :
    wpList Tryz.prog ops Q (o :: rest) a (w.alloc (.cells #[.int .u8 z] 5)) := by
  obtain ⟨i0, hi, hz0, hz1, hz2⟩ := info_parts infoByteB
  refine wpList_append_own _ hgd s x 22 ho base 5 i0 (.int .u8 0) 1 1 Tryz.underlying22 hi hz0 hz1 hz2 rfl (by decide) v l.length (bytesW l) hs (World.ownsRow.alloc hown _) ⟨w.heap.size, 0, none⟩ 1 1 [.int .u8 z] hx rfl ?_ ?_ ?_ ?_ ?_ ?_
  · intro j u hj
    match j, hj with
    | 0, hj => simp at hj; subst hj; simp [Addr.add]
  · intro u hu; simp at hu; subst hu; rfl
  · unfold maxLen; omega
  · omega
  · simp; omega
  · intro v' w' h1 h2 h3
    have e : bytesW (l ++ [c]) = bytesW l ++ [Value.int .u8 z] := by simp [bytesW, hc]
    refine h v' w' (by unfold OwnR; rw [e, List.length_append]; exact h1) ?_ ?_
    · exact ((Below.refl base w).alloc hbase _).grown h2 (by simp; omega) (fun q hq => own_geB hown q hq)
    · have hb := ((Below.refl 0 w).alloc (Nat.zero_le _) (.cells #[.int .u8 z] 5)).grown h2 (Nat.zero_le _) (fun q _ => Nat.zero_le _)
      exact hb.size
/-- How many bytes stand ahead of the quote that ends; all of them where none does. -/
def qLen : List UInt8 → Nat
  | [] => 0
  | [c] => if (c.toNat : Int) = 34 then 0 else 1
  | c :: d :: r => if (c.toNat : Int) = 34 then 0 else if (c.toNat : Int) = 92 then 2 + qLen r else 1 + qLen (d :: r)
theorem qLen_end (c : UInt8) (r : List UInt8) (h : (c.toNat : Int) = 34) : qLen (c :: r) = 0 := by
  cases r with
  | nil => simp only [qLen, if_pos h]
  | cons d r => simp only [qLen, if_pos h]
theorem qLen_cut (c : UInt8) (h : (c.toNat : Int) = 92) : qLen [c] = 1 := by simp only [qLen]; rw [if_neg (by omega)]
theorem qLen_esc (c d : UInt8) (r : List UInt8) (h : (c.toNat : Int) = 92) : qLen (c :: d :: r) = 2 + qLen r := by
  simp only [qLen]; rw [if_neg (by omega), if_pos h]
theorem qLen_take (c : UInt8) (r : List UInt8) (h1 : ¬ (c.toNat : Int) = 34) (h2 : ¬ (c.toNat : Int) = 92) : qLen (c :: r) = 1 + qLen r := by
  cases r with
  | nil => simp only [qLen, if_neg h1]
  | cons d r => simp only [qLen, if_neg h1, if_neg h2]
theorem qLen_le : ∀ l : List UInt8, qLen l ≤ l.length
  | [] => by simp [qLen]
  | [c] => by simp only [qLen]; split <;> simp
  | c :: d :: r => by
    have h1 := qLen_le r
    have h2 := qLen_le (d :: r)
    simp only [qLen, List.length_cons] at h2 ⊢
    split
    · omega
    · split <;> omega
theorem unq_ends : ∀ (acc l : List UInt8), (unq acc l).2 = decide (qLen l + 1 = l.length)
  | acc, [] => by simp [unq]
  | acc, [c] => by simp only [unq, qLen]; split <;> simp
  | acc, c :: d :: r => by
    have h1 := unq_ends (acc ++ [d]) r
    have h2 := unq_ends (acc ++ [c]) (d :: r)
    simp only [unq, qLen]
    split
    · simp
    · split
      · rw [h1]; simp only [List.length_cons]; exact decide_eq_decide.2 (by omega)
      · rw [h2]; simp only [List.length_cons]; exact decide_eq_decide.2 (by omega)
/-- Where the quote that stands at b is ended. -/
def qEnd (l : List UInt8) (b : Nat) : Nat := b + 1 + qLen (l.drop (b + 1))
theorem unqB_ends (s : ByteArray) : unqB s = (decide (s.data.toList.head? = some 34) && decide (qEnd s.data.toList 0 + 1 = s.size) && plainL s.data.toList) := by
  have hz : s.size = s.data.toList.length := by simp
  rw [hz]
  unfold unqB unqT qEnd
  generalize s.data.toList = l
  cases l with
  | nil => simp
  | cons c t =>
    by_cases h : 2 ≤ (c :: t).length ∧ (c :: t).head? = some 34 ∧ plainL (c :: t) = true
    · rw [if_pos h, unq_ends, h.2.1, h.2.2]
      simp only [List.tail_cons, Bool.and_true, decide_true, Bool.true_and, Nat.zero_add, List.drop_succ_cons, List.drop_zero, List.length_cons]
      exact decide_eq_decide.2 (by omega)
    · rw [if_neg h]
      by_cases a : (c :: t).head? = some 34 ∧ plainL (c :: t) = true
      · have : ¬ 2 ≤ (c :: t).length := fun x => h ⟨x, a⟩
        have ht : t = [] := List.eq_nil_of_length_eq_zero (by simp only [List.length_cons] at this; omega)
        subst ht
        simp [qLen]
      · symm
        simp only [Bool.and_eq_false_iff, decide_eq_false_iff_not]
        by_cases b1 : (c :: t).head? = some 34
        · right; cases hp : plainL (c :: t)
          · rfl
          · exact absurd ⟨b1, hp⟩ a
        · left; left; exact b1
end Go.Proofs.YtgfbahjpaaanoaaGreatDoor
/-
  A text cut at commas that do not stand between quotes, plainly.
-/
namespace Go.Proofs.YtgfbahjpaaanoaaGreatDoor
/-- The pieces; cur: what stands already in the one that is under way. -/
def pcs (ins : Bool) (cur : List UInt8) : List UInt8 → List (List UInt8)
  | [] => [cur]
  | [c] => if ins = true ∧ (c.toNat : Int) = 92 then [cur ++ [c]] else if (c.toNat : Int) = 34 then [cur ++ [c]] else if (c.toNat : Int) = 44 ∧ ins = false then [cur, []] else [cur ++ [c]]
  | c :: d :: r => if ins = true ∧ (c.toNat : Int) = 92 then pcs ins (cur ++ [c, d]) r else if (c.toNat : Int) = 34 then pcs (!ins) (cur ++ [c]) (d :: r) else if (c.toNat : Int) = 44 ∧ ins = false then cur :: pcs ins [] (d :: r) else pcs ins (cur ++ [c]) (d :: r)
theorem pcs_cut {cur : List UInt8} {c : UInt8} (h : (c.toNat : Int) = 92) : pcs true cur [c] = [cur ++ [c]] := by simp only [pcs]; rw [if_pos ⟨trivial, h⟩]
theorem pcs_esc {cur r : List UInt8} {c d : UInt8} (h : (c.toNat : Int) = 92) : pcs true cur (c :: d :: r) = pcs true (cur ++ [c, d]) r := by simp only [pcs]; rw [if_pos ⟨trivial, h⟩]
theorem pcs_quote {ins : Bool} {cur r : List UInt8} {c : UInt8} (h : (c.toNat : Int) = 34) : pcs ins cur (c :: r) = pcs (!ins) (cur ++ [c]) r := by
  have n : ¬ (ins = true ∧ (c.toNat : Int) = 92) := by omega
  cases r with
  | nil => simp only [pcs]; rw [if_neg n, if_pos h]
  | cons d r => simp only [pcs]; rw [if_neg n, if_pos h]
theorem pcs_comma {cur r : List UInt8} {c : UInt8} (h : (c.toNat : Int) = 44) : pcs false cur (c :: r) = cur :: pcs false [] r := by
  have n : ¬ (false = true ∧ (c.toNat : Int) = 92) := by omega
  have n2 : ¬ (c.toNat : Int) = 34 := by omega
  cases r with
  | nil => simp only [pcs]; rw [if_neg n, if_neg n2, if_pos ⟨h, trivial⟩]
  | cons d r => simp only [pcs]; rw [if_neg n, if_neg n2, if_pos ⟨h, trivial⟩]
theorem pcs_take {ins : Bool} {cur r : List UInt8} {c : UInt8} (h1 : ¬ (ins = true ∧ (c.toNat : Int) = 92)) (h2 : ¬ (c.toNat : Int) = 34) (h3 : ¬ ((c.toNat : Int) = 44 ∧ ins = false)) : pcs ins cur (c :: r) = pcs ins (cur ++ [c]) r := by
  cases r with
  | nil => simp only [pcs]; rw [if_neg h1, if_neg h2, if_neg h3]
  | cons d r => simp only [pcs]; rw [if_neg h1, if_neg h2, if_neg h3]
/-- How many bytes stand in the piece that is under way. -/
def peS (ins : Bool) : List UInt8 → Nat
  | [] => 0
  | [c] => if (c.toNat : Int) = 44 ∧ ins = false then 0 else 1
  | c :: d :: r => if ins = true ∧ (c.toNat : Int) = 92 then 2 + peS ins r else if (c.toNat : Int) = 34 then 1 + peS (!ins) (d :: r) else if (c.toNat : Int) = 44 ∧ ins = false then 0 else 1 + peS ins (d :: r)
theorem peS_cut {c : UInt8} : peS true [c] = 1 := by simp only [peS]; rw [if_neg (by simp)]
theorem peS_esc {r : List UInt8} {c d : UInt8} (h : (c.toNat : Int) = 92) : peS true (c :: d :: r) = 2 + peS true r := by simp only [peS]; rw [if_pos ⟨trivial, h⟩]
theorem peS_quote {ins : Bool} {r : List UInt8} {c : UInt8} (h : (c.toNat : Int) = 34) : peS ins (c :: r) = 1 + peS (!ins) r := by
  have n : ¬ (ins = true ∧ (c.toNat : Int) = 92) := by omega
  cases r with
  | nil => simp only [peS]; rw [if_neg (by omega)]
  | cons d r => simp only [peS]; rw [if_neg n, if_pos h]
theorem peS_comma {r : List UInt8} {c : UInt8} (h : (c.toNat : Int) = 44) : peS false (c :: r) = 0 := by
  have n : ¬ (false = true ∧ (c.toNat : Int) = 92) := by omega
  have n2 : ¬ (c.toNat : Int) = 34 := by omega
  cases r with
  | nil => simp only [peS]; rw [if_pos ⟨h, trivial⟩]
  | cons d r => simp only [peS]; rw [if_neg n, if_neg n2, if_pos ⟨h, trivial⟩]
theorem peS_take {ins : Bool} {r : List UInt8} {c : UInt8} (h1 : ¬ (ins = true ∧ (c.toNat : Int) = 92)) (h2 : ¬ (c.toNat : Int) = 34) (h3 : ¬ ((c.toNat : Int) = 44 ∧ ins = false)) : peS ins (c :: r) = 1 + peS ins r := by
  cases r with
  | nil => simp only [peS]; rw [if_neg h3]
  | cons d r => simp only [peS]; rw [if_neg h1, if_neg h2, if_neg h3]
theorem peS_le (n : Nat) : ∀ (l : List UInt8) (ins : Bool), l.length ≤ n → peS ins l ≤ l.length := by
  induction n with
  | zero => intro l ins h; have : l = [] := List.eq_nil_of_length_eq_zero (by omega); subst this; simp [peS]
  | succ n ih =>
    intro l ins h
    match l with
    | [] => simp [peS]
    | [c] => simp only [peS]; split <;> simp
    | c :: d :: r =>
      have h1 := ih r ins (by simp only [List.length_cons] at h; omega)
      have h2 := ih (d :: r) ins (by simp only [List.length_cons] at h ⊢; omega)
      have h3 := ih (d :: r) (!ins) (by simp only [List.length_cons] at h ⊢; omega)
      simp only [peS, List.length_cons] at h2 h3 ⊢
      repeat' split
      all_goals omega
/-- The first piece, and the others. -/
theorem pcs_first (n : Nat) : ∀ (l : List UInt8) (ins : Bool) (cur : List UInt8), l.length ≤ n →
    pcs ins cur l = if peS ins l < l.length then (cur ++ l.take (peS ins l)) :: pcs false [] (l.drop (peS ins l + 1)) else [cur ++ l] := by
  induction n with
  | zero => intro l ins cur h; have : l = [] := List.eq_nil_of_length_eq_zero (by omega); subst this; simp [peS, pcs]
  | succ n ih =>
    intro l ins cur h
    match l with
    | [] => simp [peS, pcs]
    | c :: r =>
      have hr : r.length ≤ n := by simp only [List.length_cons] at h; omega
      by_cases c0 : ins = true ∧ (c.toNat : Int) = 92
      · obtain ⟨rfl, c0⟩ := c0
        match r with
        | [] => rw [pcs_cut c0, peS_cut]; simp
        | d :: r =>
          rw [pcs_esc c0, peS_esc c0, ih r true _ (by simp only [List.length_cons] at hr; omega)]
          by_cases q : peS true r < r.length
          · rw [if_pos q, if_pos (by simp only [List.length_cons]; omega)]
            rw [show 2 + peS true r = peS true r + 1 + 1 from by omega]
            simp
          · rw [if_neg q, if_neg (by simp only [List.length_cons]; omega)]
            simp
      · by_cases c1 : (c.toNat : Int) = 34
        · rw [pcs_quote c1, peS_quote c1, ih r _ _ hr]
          by_cases q : peS (!ins) r < r.length
          · rw [if_pos q, if_pos (by simp only [List.length_cons]; omega)]
            rw [show 1 + peS (!ins) r = peS (!ins) r + 1 from by omega]
            simp
          · rw [if_neg q, if_neg (by simp only [List.length_cons]; omega)]
            simp
        · by_cases c2 : (c.toNat : Int) = 44 ∧ ins = false
          · obtain ⟨c2, rfl⟩ := c2
            rw [pcs_comma c2, peS_comma c2, if_pos (by simp)]
            simp
          · rw [pcs_take c0 c1 c2, peS_take c0 c1 c2, ih r _ _ hr]
            by_cases q : peS ins r < r.length
            · rw [if_pos q, if_pos (by simp only [List.length_cons]; omega)]
              rw [show 1 + peS ins r = peS ins r + 1 from by omega]
              simp
            · rw [if_neg q, if_neg (by simp only [List.length_cons]; omega)]
              simp
/-- From behind a quote to the end of the piece. -/
theorem peS_in (n : Nat) : ∀ (l : List UInt8), l.length ≤ n → peS true l = if qLen l < l.length then qLen l + 1 + peS false (l.drop (qLen l + 1)) else l.length := by
  induction n with
  | zero => intro l h; have : l = [] := List.eq_nil_of_length_eq_zero (by omega); subst this; simp [peS, qLen]
  | succ n ih =>
    intro l h
    match l with
    | [] => simp [peS, qLen]
    | c :: r =>
      have hr : r.length ≤ n := by simp only [List.length_cons] at h; omega
      by_cases c1 : (c.toNat : Int) = 34
      · rw [peS_quote c1, qLen_end _ _ c1, if_pos (by simp)]
        simp
      · by_cases c0 : (c.toNat : Int) = 92
        · match r with
          | [] => rw [peS_cut, qLen_cut _ c0]; simp
          | d :: r =>
            rw [peS_esc c0, qLen_esc _ _ _ c0, ih r (by simp only [List.length_cons] at hr; omega)]
            by_cases q : qLen r < r.length
            · rw [if_pos q, if_pos (by simp only [List.length_cons]; omega)]
              rw [show 2 + qLen r + 1 = qLen r + 1 + 1 + 1 from by omega]
              simp only [List.drop_succ_cons]
              omega
            · rw [if_neg q, if_neg (by simp only [List.length_cons]; omega)]
              simp only [List.length_cons]; omega
        · rw [peS_take (fun x => c0 x.2) c1 (by simp), qLen_take _ _ c1 c0, ih r hr]
          by_cases q : qLen r < r.length
          · rw [if_pos q, if_pos (by simp only [List.length_cons]; omega)]
            rw [show 1 + qLen r + 1 = qLen r + 1 + 1 from by omega]
            simp only [List.drop_succ_cons]
            omega
          · rw [if_neg q, if_neg (by simp only [List.length_cons]; omega)]
            simp only [List.length_cons]; omega
end Go.Proofs.YtgfbahjpaaanoaaGreatDoor
/-
  What the model's l2Pieces answers.
-/
namespace Go.Proofs.YtgfbahjpaaanoaaGreatDoor
open Go.ChangeShapes Go.WideShapes Go.ChangeAt Go.RowKit
def mkB (p : List UInt8) : ByteArray := ⟨p.toArray⟩
/-- The texts lie in block g from 0 on. -/
def TextsAt (w : World) (g : Nat) (l : List ByteArray) : Prop := ∀ (i : Nat) x, l[i]? = some x → w.cell? ⟨g, i, none⟩ = some (.string x)
theorem TextsAt.keep {w w' : World} {g : Nat} {l : List ByteArray} (h : TextsAt w g l) (hb : Below w.heap.size w w') : TextsAt w' g l := by
  intro i x hx
  have c := h i x hx
  rw [hb.cell (block_lt_of_cell c)]; exact c
theorem OwnS.at {w : World} {base : Nat} {v : Value} {l : List ByteArray} (h : OwnS w base v l) (hl : l ≠ []) : ∃ g c, v = .slice (some ⟨g, 0, none⟩) l.length c ∧ TextsAt w g l := by
  have h0 := h
  obtain ⟨_, h1 | ⟨g, c, cur, rfl, _⟩⟩ := h
  · exact absurd (List.eq_nil_of_length_eq_zero h1.2) hl
  · refine ⟨g, c, rfl, fun i x hx => ?_⟩
    have := World.ownsRow.cellAt h0 i (by have := (List.getElem?_eq_some_iff.1 hx).1; omega)
    rw [this]
    simp [textsW, hx]
theorem OwnS.texts {w : World} {base g n c : Nat} {l : List ByteArray} (h : OwnS w base (.slice (some ⟨g, 0, none⟩) n c) l) : TextsAt w g l := by
  have h0 := h
  obtain ⟨_, h1 | ⟨g', c', cur, e, _⟩⟩ := h
  · exact absurd h1.1 (by simp)
  · intro i x hx
    have hi := (List.getElem?_eq_some_iff.1 hx).1
    simp only [Value.slice.injEq, Option.some.injEq, Addr.mk.injEq, and_true] at e
    obtain ⟨rfl, rfl, rfl⟩ := e
    have := World.ownsRow.cellAt h0 i (by omega)
    rw [this]
    simp [textsW, hx]
theorem ext_list (s : ByteArray) (i j : Nat) : (s.extract i j).data.toList = (s.data.toList.drop i).take (j - i) := by
  rw [ByteArray.data_extract, Array.toList_extract, List.extract_eq_take_drop]
theorem ext_mk (s : ByteArray) (i j : Nat) : s.extract i j = mkB ((s.data.toList.drop i).take (j - i)) := by
  unfold mkB
  rw [← ext_list]
theorem cur_snoc (s : ByteArray) (f k : Nat) (hf : f ≤ k) (hk : k < s.size) : (s.data.toList.drop f).take (k + 1 - f) = (s.data.toList.drop f).take (k - f) ++ [s[k]] := by
  have hz := size_list s
  rw [show k + 1 - f = (k - f) + 1 from by omega, List.take_add_one, List.getElem?_drop, show f + (k - f) = k from by omega, List.getElem?_eq_getElem (by omega)]
  rfl
theorem cur_all (s : ByteArray) (f k : Nat) (hk : s.size ≤ k) : (s.data.toList.drop f).take (k - f) = s.data.toList.drop f := by
  have hz := size_list s
  exact List.take_of_length_le (by rw [List.length_drop]; omega)
theorem pcs_ne (l : List UInt8) (ins : Bool) (cur : List UInt8) : pcs ins cur l ≠ [] := by
  rw [pcs_first l.length l ins cur (Nat.le_refl _)]
  split <;> simp
/-- Where the walk stands: O are the pieces that are cut; the one under way began at f. -/
def PcAt (s : ByteArray) (O : List (List UInt8)) (ins : Bool) (f k : Nat) : Prop :=
  (k ≤ s.size ∧ f ≤ k ∧ pcs false [] s.data.toList = O ++ pcs ins ((s.data.toList.drop f).take (k - f)) (s.data.toList.drop k)) ∨ (k = s.size + 1 ∧ f ≤ s.size ∧ pcs false [] s.data.toList = O ++ [s.data.toList.drop f])
theorem PcAt.lt {s : ByteArray} {O : List (List UInt8)} {ins : Bool} {f k : Nat} (h : PcAt s O ins f k) (hk : k < s.size) : f ≤ k ∧ pcs false [] s.data.toList = O ++ pcs ins ((s.data.toList.drop f).take (k - f)) (s[k] :: s.data.toList.drop (k + 1)) := by
  rcases h with h | h
  · exact ⟨h.2.1, by rw [h.2.2, drop_at s k hk]⟩
  · omega
theorem PcAt.done {s : ByteArray} {O : List (List UInt8)} {ins : Bool} {f k : Nat} (h : PcAt s O ins f k) (hk : ¬ k < s.size) : f ≤ s.size ∧ pcs false [] s.data.toList = O ++ [s.data.toList.drop f] := by
  have hz := size_list s
  rcases h with h | h
  · refine ⟨by omega, ?_⟩
    rw [h.2.2, List.drop_of_length_le (i := k) (by omega), cur_all s f k (by omega)]
    rfl
  · exact h.2
theorem PcAt.esc {s : ByteArray} {O : List (List UInt8)} {f k : Nat} (h : PcAt s O true f k) (hk : k < s.size) (hc : (s[k].toNat : Int) = 92) : PcAt s O true f (k + 2) := by
  obtain ⟨hf, h⟩ := h.lt hk
  by_cases hl : k + 1 = s.size
  · right
    refine ⟨by omega, by omega, ?_⟩
    have hz := size_list s
    rw [h, List.drop_of_length_le (i := k + 1) (by omega), pcs_cut hc, ← cur_snoc s f k hf hk, cur_all s f (k + 1) (by omega)]
  · left
    refine ⟨by omega, by omega, ?_⟩
    rw [h, drop_at s (k + 1) (by omega), pcs_esc hc, cur_snoc s f (k + 1) (by omega) (by omega), cur_snoc s f k hf hk]
    simp
theorem PcAt.quote {s : ByteArray} {O : List (List UInt8)} {ins : Bool} {f k : Nat} (h : PcAt s O ins f k) (hk : k < s.size) (hc : (s[k].toNat : Int) = 34) : PcAt s O (!ins) f (k + 1) := by
  obtain ⟨hf, h⟩ := h.lt hk
  exact .inl ⟨by omega, by omega, by rw [h, pcs_quote hc, cur_snoc s f k hf hk]⟩
theorem PcAt.comma {s : ByteArray} {O : List (List UInt8)} {f k : Nat} (h : PcAt s O false f k) (hk : k < s.size) (hc : (s[k].toNat : Int) = 44) : PcAt s (O ++ [(s.data.toList.drop f).take (k - f)]) false (k + 1) (k + 1) := by
  obtain ⟨hf, h⟩ := h.lt hk
  exact .inl ⟨by omega, by omega, by rw [h, pcs_comma hc]; simp⟩
theorem PcAt.on {s : ByteArray} {O : List (List UInt8)} {ins : Bool} {f k : Nat} (h : PcAt s O ins f k) (hk : k < s.size) (h1 : ¬ (ins = true ∧ (s[k].toNat : Int) = 92)) (h2 : ¬ (s[k].toNat : Int) = 34) (h3 : ¬ ((s[k].toNat : Int) = 44 ∧ ins = false)) : PcAt s O ins f (k + 1) := by
  obtain ⟨hf, h⟩ := h.lt hk
  exact .inl ⟨by omega, by omega, by rw [h, pcs_take h1 h2 h3, cur_snoc s f k hf hk]⟩
theorem OwnS.made0 (w : World) (base : Nat) (hb : base ≤ w.heap.size) : OwnS (w.alloc (.cells #[] 9)) base (.slice (some ⟨w.heap.size, 0, none⟩) 0 0) [] := World.ownsRow_made w #[] 0 hb (by unfold maxLen; omega) rfl
end Go.Proofs.YtgfbahjpaaanoaaGreatDoor
/-
  What the model's l2Pieces answers: the walk.
-/
namespace Go.Proofs.YtgfbahjpaaanoaaGreatDoor
open Go.ChangeShapes Go.WideShapes Go.ChangeAt Go.RowKit
def PcsRes (s : ByteArray) (base : Nat) (e : Ending) (w : World) : Prop := ∃ g c, e = .returned (.slice (some ⟨g, 0, none⟩) (pcs false [] s.data.toList).length c) ∧ OwnS w base (.slice (some ⟨g, 0, none⟩) (pcs false [] s.data.toList).length c) ((pcs false [] s.data.toList).map mkB)
theorem PcsRes.mk {s : ByteArray} {base : Nat} {w : World} {v : Value} {L : List ByteArray} (h : (pcs false [] s.data.toList).map mkB = L) (ho : OwnS w base v L) (hn : L ≠ []) : PcsRes s base (.returned v) w := by
  obtain ⟨g, c, e, _⟩ := ho.at hn
  have hl : L.length = (pcs false [] s.data.toList).length := by rw [← h, List.length_map]
  rw [hl] at e
  exact ⟨g, c, by rw [e], by rw [h, ← e]; exact ho⟩
theorem mk_snoc (O : List (List UInt8)) (p : List UInt8) : (O ++ [p]).map mkB = O.map mkB ++ [mkB p] := by simp
set_option maxRecDepth 100000 in
set_option maxHeartbeats 8000000 in
theorem pieces_any (s : ByteArray) (w : World) (hs : s.size ≤ 1000) :
    Calls Tryz.prog 143 #[.string s] w fun e w' => PcsRes s w.heap.size e w' ∧ Below w.heap.size w w' := by
  go_enter Tryz.func143, Tryz.ntmps143
  go_wp2_with fail
  go_loopw [3, 4, 5, 6] (fun v fv iv kv wr => ∃ (k f : Nat) (ins : Bool) (O : List (List UInt8)), kv = .int .i64 k ∧ fv = .int .i64 f ∧ iv = .bool ins ∧ O.length ≤ k ∧ OwnS wr w.heap.size v (O.map mkB) ∧ PcAt s O ins f k ∧ Below w.heap.size w wr) (fun _ _ _ kv _ => s.size + 1 - (intOf kv).toNat)
  case atStart => exact ⟨0, 0, false, [], rfl, rfl, rfl, Nat.zero_le _, OwnS.made0 w w.heap.size (Nat.le_refl _), .inl ⟨Nat.zero_le _, Nat.zero_le _, rfl⟩, (Below.refl _ _).alloc (Nat.le_refl _) _⟩
  case round =>
    obtain ⟨k, f, ins, O, rfl, rfl, rfl, hO, hown, hpc, hb⟩ := hrel
    have HO : Hid (OwnS wr w.heap.size u3 (O.map mkB)) := hown
    have HP : Hid (PcAt s O ins f k) := hpc
    have hz := hb.size
    clear hown hpc
    by_cases hlt : k < s.size
    · have hfk := (HP.out.lt hlt).1
      have g : (k : Int) < s.size := by omega
      by_cases c0 : ins = true ∧ (s[k].toNat : Int) = 92
      · obtain ⟨rfl, c0⟩ := c0
        have HQ : Hid (PcAt s O true f (k + 2)) := HP.out.esc hlt c0
        have e0 : ((s[k].toNat : Int) == 92) = true := by simpa using c0
        clear HP c0
        go_wp2_with fail
        go_roundw
        case rel => exact ⟨k + 2, f, true, O, by go_num, rfl, rfl, by omega, HO.out, HQ.out, hb⟩
        case measure => simp [intOf]; omega
      · by_cases c1 : (s[k].toNat : Int) = 34
        · have HQ : Hid (PcAt s O (!ins) f (k + 1)) := HP.out.quote hlt c1
          have e1 : ((s[k].toNat : Int) == 34) = true := by simpa using c1
          have e0 : ((s[k].toNat : Int) == 92) = false := by simp; omega
          clear HP c0 c1
          cases ins
          · go_wp2_with fail
            go_roundw
            case rel => exact ⟨k + 1, f, true, O, by go_num, rfl, rfl, by omega, HO.out, HQ.out, hb⟩
            case measure => simp [intOf]; omega
          · go_wp2_with fail
            go_roundw
            case rel => exact ⟨k + 1, f, false, O, by go_num, rfl, rfl, by omega, HO.out, HQ.out, hb⟩
            case measure => simp [intOf]; omega
        · have e1 : ((s[k].toNat : Int) == 34) = false := by simpa using c1
          by_cases c2 : (s[k].toNat : Int) = 44 ∧ ins = false
          · obtain ⟨c2, rfl⟩ := c2
            have HQ : Hid (PcAt s (O ++ [(s.data.toList.drop f).take (k - f)]) false (k + 1) (k + 1)) := HP.out.comma hlt c2
            have HX : Hid (s.extract f k = mkB ((s.data.toList.drop f).take (k - f))) := ext_mk s f k
            have HM := mk_snoc O ((s.data.toList.drop f).take (k - f))
            have e2 : ((s[k].toNat : Int) == 44) = true := by simpa using c2
            have hOl : (O.map mkB).length ≤ 1000 := by rw [List.length_map]; omega
            have gf0 : (0 : Int) ≤ f := by omega
            have gf : (f : Int) ≤ k := by omega
            have gk : (k : Int) ≤ s.size := by omega
            clear HP c0 c1 c2
            generalize (s.data.toList.drop f).take (k - f) = pc at *
            generalize O.map mkB = L at *
            go_wp2_with (at_builtin; refine wpList_append_str _ rfl (.tmp 40) (.tmp 45) rfl w.heap.size _ L (s.extract f k) rfl rfl HO.out (by omega) hz ?_; intro v2 w2 HO2 hb2 hz2)
            go_roundw
            case rel => exact ⟨k + 1, k + 1, false, O ++ [pc], by go_num, by go_num, rfl, by simp; omega, by rw [HM, ← HX.out]; exact HO2, HQ.out, hb.trans hb2⟩
            case measure => simp [intOf]; omega
          · have HQ : Hid (PcAt s O ins f (k + 1)) := HP.out.on hlt c0 c1 c2
            cases ins
            · have e2 : ((s[k].toNat : Int) == 44) = false := by
                have n2 : ¬ (s[k].toNat : Int) = 44 := fun h => c2 ⟨h, rfl⟩
                simpa using n2
              clear HP c0 c1 c2
              go_wp2_with fail
              go_roundw
              case rel => exact ⟨k + 1, f, false, O, by go_num, rfl, rfl, by omega, HO.out, HQ.out, hb⟩
              case measure => simp [intOf]; omega
            · have e0 : ((s[k].toNat : Int) == 92) = false := by
                have n2 : ¬ (s[k].toNat : Int) = 92 := fun h => c0 ⟨rfl, h⟩
                simpa using n2
              clear HP c0 c1 c2
              by_cases c3 : (s[k].toNat : Int) = 44
              · have e2 : ((s[k].toNat : Int) == 44) = true := by simpa using c3
                go_wp2_with fail
                go_roundw
                case rel => exact ⟨k + 1, f, true, O, by go_num, rfl, rfl, by omega, HO.out, HQ.out, hb⟩
                case measure => simp [intOf]; omega
              · have e2 : ((s[k].toNat : Int) == 44) = false := by simpa using c3
                go_wp2_with fail
                go_roundw
                case rel => exact ⟨k + 1, f, true, O, by go_num, rfl, rfl, by omega, HO.out, HQ.out, hb⟩
                case measure => simp [intOf]; omega
    · obtain ⟨hf, hd⟩ := HP.out.done hlt
      have HX : Hid (s.extract f s.size = mkB (s.data.toList.drop f)) := by
        show _ = _
        rw [ext_mk, cur_all s f s.size (Nat.le_refl _)]
      have hkm : k ≤ 1001 := by rcases HP.out with h | h <;> omega
      have HM : Hid ((pcs false [] s.data.toList).map mkB = O.map mkB ++ [mkB (s.data.toList.drop f)]) := by
        show _ = _
        rw [hd, mk_snoc]
      have hOl : (O.map mkB).length ≤ 1001 := by rw [List.length_map]; omega
      have gf0 : (0 : Int) ≤ f := by omega
      have gf : (f : Int) ≤ s.size := by omega
      have g : ¬ (k : Int) < s.size := by omega
      clear HP hd
      generalize s.data.toList.drop f = pc at *
      generalize O.map mkB = L at *
      go_wp2_with (at_builtin; refine wpList_append_str _ rfl (.tmp 49) (.tmp 53) rfl w.heap.size _ L (s.extract f s.size) rfl rfl HO.out (by omega) hz ?_; intro v2 w2 HO2 hb2 hz2)
      go_ret
      rw [HX.out] at HO2
      exact ⟨PcsRes.mk HM.out HO2 (by simp), hb.trans hb2⟩
end Go.Proofs.YtgfbahjpaaanoaaGreatDoor
/-
  Lists of items in memory; the laws' own helpers over them.
-/
namespace Go.Proofs.YtgfbahjpaaanoaaGreatDoor
open Go.ChangeShapes Go.WideShapes Go.ChangeAt Go.RowKit
/-- An item: its name, whether it has a value, the value. -/
structure Rec where
  name : ByteArray
  has : Bool
  value : ByteArray
/-- The items l lie in block b from off on, three cells each. -/
def ItemsAt (w : World) (b off : Nat) (l : List Rec) : Prop :=
  ∀ (i : Nat) r, l[i]? = some r → w.cell? ⟨b, off + i * 3, none⟩ = some (.string r.name) ∧ w.cell? ⟨b, off + i * 3 + 1, none⟩ = some (.bool r.has) ∧ w.cell? ⟨b, off + i * 3 + 2, none⟩ = some (.string r.value)
def recV (r : Rec) : Value := .agg #[.string r.name, .bool r.has, .string r.value]
def szR (left : Int) (r : Rec) : Int := if left - (r.name.size : Int) < 0 then -1 else if left - (r.name.size : Int) - (r.value.size : Int) < 0 then -1 else left - (r.name.size : Int) - (r.value.size : Int)
/-- How much room is left behind the items; -1: none. -/
def szRs (left : Int) : List Rec → Int
  | [] => left
  | r :: l => if szR left r < 0 then -1 else szRs (szR left r) l
def szL (left : Int) (l : List Rec) : Int := if left - (l.length : Int) < 0 then -1 else szRs (left - (l.length : Int)) l
def SmallRecs (l : List Rec) : Prop := ∀ (i : Nat) r, l[i]? = some r → r.name.size ≤ maxLen ∧ r.value.size ≤ maxLen
theorem ItemsAt.keep {w w' : World} {b off : Nat} {l : List Rec} (h : ItemsAt w b off l) (hb : Below w.heap.size w w') : ItemsAt w' b off l := by
  intro i r hr
  obtain ⟨a1, a2, a3⟩ := h i r hr
  exact ⟨by rw [hb.cell (block_lt_of_cell a1)]; exact a1, by rw [hb.cell (block_lt_of_cell a2)]; exact a2, by rw [hb.cell (block_lt_of_cell a3)]; exact a3⟩
theorem szR_le (left : Int) (r : Rec) : szR left r ≤ left ∨ szR left r = -1 := by
  unfold szR
  split
  · exact .inr rfl
  · split
    · exact .inr rfl
    · left; omega
theorem drop_rec (l : List Rec) (k : Nat) (r : Rec) (h : l[k]? = some r) : l.drop k = r :: l.drop (k + 1) := by
  obtain ⟨hk, rfl⟩ := List.getElem?_eq_some_iff.1 h
  exact List.drop_eq_getElem_cons hk
end Go.Proofs.YtgfbahjpaaanoaaGreatDoor
/-
  An item of a trimmed piece, plainly; the items of pieces.
-/
namespace Go.Proofs.YtgfbahjpaaanoaaGreatDoor
/-- How many bytes stand ahead of the first '='; all of them where there is none. -/
def eqAt : List UInt8 → Nat
  | [] => 0
  | c :: r => if (c.toNat : Int) = 61 then 0 else 1 + eqAt r
theorem eqAt_le : ∀ l : List UInt8, eqAt l ≤ l.length
  | [] => by simp [eqAt]
  | c :: r => by
    have := eqAt_le r
    simp only [eqAt, List.length_cons]
    split <;> omega
/-- An item of a trimmed piece; none: it is none. -/
def readR (s : ByteArray) : Option Rec :=
  if wordS (s.extract 0 (eqAt s.data.toList)) = false then none
  else if eqAt s.data.toList = s.size then some ⟨s, false, ⟨#[]⟩⟩
  else if wordS (s.extract (eqAt s.data.toList + 1) s.size) = true then some ⟨s.extract 0 (eqAt s.data.toList), true, s.extract (eqAt s.data.toList + 1) s.size⟩
  else if unqB (s.extract (eqAt s.data.toList + 1) s.size) = true then some ⟨s.extract 0 (eqAt s.data.toList), true, unqS (s.extract (eqAt s.data.toList + 1) s.size)⟩
  else none
theorem read_noname {s : ByteArray} (h : wordS (s.extract 0 (eqAt s.data.toList)) = false) : readR s = none := by unfold readR; rw [if_pos h]
theorem read_bare {s : ByteArray} (h : wordS (s.extract 0 (eqAt s.data.toList)) = true) (h2 : eqAt s.data.toList = s.size) : readR s = some ⟨s, false, ⟨#[]⟩⟩ := by unfold readR; rw [if_neg (by rw [h]; decide), if_pos h2]
theorem read_word {s : ByteArray} (h : wordS (s.extract 0 (eqAt s.data.toList)) = true) (h2 : eqAt s.data.toList ≠ s.size) (h3 : wordS (s.extract (eqAt s.data.toList + 1) s.size) = true) : readR s = some ⟨s.extract 0 (eqAt s.data.toList), true, s.extract (eqAt s.data.toList + 1) s.size⟩ := by
  unfold readR; rw [if_neg (by rw [h]; decide), if_neg h2, if_pos h3]
theorem read_quote {s : ByteArray} (h : wordS (s.extract 0 (eqAt s.data.toList)) = true) (h2 : eqAt s.data.toList ≠ s.size) (h3 : wordS (s.extract (eqAt s.data.toList + 1) s.size) = false) (h4 : unqB (s.extract (eqAt s.data.toList + 1) s.size) = true) : readR s = some ⟨s.extract 0 (eqAt s.data.toList), true, unqS (s.extract (eqAt s.data.toList + 1) s.size)⟩ := by
  unfold readR; rw [if_neg (by rw [h]; decide), if_neg h2, if_neg (by rw [h3]; decide), if_pos h4]
theorem read_bad {s : ByteArray} (h : wordS (s.extract 0 (eqAt s.data.toList)) = true) (h2 : eqAt s.data.toList ≠ s.size) (h3 : wordS (s.extract (eqAt s.data.toList + 1) s.size) = false) (h4 : unqB (s.extract (eqAt s.data.toList + 1) s.size) = false) : readR s = none := by
  unfold readR; rw [if_neg (by rw [h]; decide), if_neg h2, if_neg (by rw [h3]; decide), if_neg (by rw [h4]; decide)]
/-- The items of pieces; none: one of them is none. -/
def readP : List (List UInt8) → Option (List Rec)
  | [] => some []
  | p :: ps => if (trimT (mkB p)).size = 0 then readP ps else
    match readR (trimT (mkB p)) with
    | none => none
    | some r => (readP ps).map (r :: ·)
theorem readP_skip {p : List UInt8} {ps : List (List UInt8)} (h : (trimT (mkB p)).size = 0) : readP (p :: ps) = readP ps := by rw [readP, if_pos h]
theorem readP_bad {p : List UInt8} {ps : List (List UInt8)} (h : (trimT (mkB p)).size ≠ 0) (hr : readR (trimT (mkB p)) = none) : readP (p :: ps) = none := by rw [readP, if_neg h, hr]
theorem readP_take {p : List UInt8} {ps : List (List UInt8)} {r : Rec} (h : (trimT (mkB p)).size ≠ 0) (hr : readR (trimT (mkB p)) = some r) : readP (p :: ps) = (readP ps).map (r :: ·) := by rw [readP, if_neg h, hr]
/-- The items of a text, and its code. -/
def parseC (s : ByteArray) : Int := if 1000 < s.size then 2 else match readP (pcs false [] s.data.toList) with
  | none => 5
  | some L => if 20 < L.length then 2 else 0
def parseL (s : ByteArray) : List Rec := if 1000 < s.size then [] else match readP (pcs false [] s.data.toList) with
  | none => []
  | some L => if 20 < L.length then [] else L
theorem parse_long {s : ByteArray} (h : 1000 < s.size) : parseC s = 2 ∧ parseL s = [] := by unfold parseC parseL; rw [if_pos h, if_pos h]; exact ⟨rfl, rfl⟩
theorem parse_bad {s : ByteArray} (h : ¬ 1000 < s.size) (hr : readP (pcs false [] s.data.toList) = none) : parseC s = 5 ∧ parseL s = [] := by unfold parseC parseL; rw [if_neg h, if_neg h, hr]; exact ⟨rfl, rfl⟩
theorem parse_many {s : ByteArray} {L : List Rec} (h : ¬ 1000 < s.size) (hr : readP (pcs false [] s.data.toList) = some L) (hL : 20 < L.length) : parseC s = 2 ∧ parseL s = [] := by
  unfold parseC parseL; rw [if_neg h, if_neg h, hr]; exact ⟨by simp only [if_pos hL], by simp only [if_pos hL]⟩
theorem parse_ok {s : ByteArray} {L : List Rec} (h : ¬ 1000 < s.size) (hr : readP (pcs false [] s.data.toList) = some L) (hL : ¬ 20 < L.length) : parseC s = 0 ∧ parseL s = L := by
  unfold parseC parseL; rw [if_neg h, if_neg h, hr]; exact ⟨by simp only [if_neg hL], by simp only [if_neg hL]⟩
end Go.Proofs.YtgfbahjpaaanoaaGreatDoor
