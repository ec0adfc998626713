/-
  Texts of one claim, one behind the other.
-/
import Derived.BigQuiet
import Derived.Deep.AppendLies
import Derived.Deep.RegionHeld3
import Derived.Deep.RegionWith
import Derived.Laws.OwnMore
import Derived.Lib.AppendZeros
import Derived.Lib.CutLaws
import Derived.Lib.IndexMore
import Derived.Lib.Join
import Derived.Lib.LaidTab
import Derived.Lib.QuietBelow
import Derived.Lib.SlTrimSet
import Derived.Lib.Strings
import Derived.MakeChecks
import Derived.Maps.OwnSet
import Derived.Shelf.LaysM
import Derived.Shelf.Small.Wraps
import Derived.Shelf.Strconv.Clone
import Derived.Shelf.Strconv.Itoa4
import Derived.Shelf.Strings.Cut
import Derived.Shelf.Strings.FieldsFuncAny
import Derived.Shelf.Strings.OnBuilder
import Derived.Shelf.Strings.Prefix
import Derived.Shelf.Strings.Search2
import Derived.Shelf.Strings.SlTrimAscii
import Derived.Shelf.Strings.Split
import Derived.Test.YtlbagfaiiileoaaDoorProg
import Derived.Test.YtlbagfaiiileoaaDoorRows
import Derived.Test.YtlbagfaiiileoaaDoorMgA
/-
  Lists of entries, copied by the laws.
-/
namespace Go.Proofs.YtlbagfaiiileoaaDoor
open Go.ChangeShapes Go.WideShapes Go.ChangeAt Go.RowKit Go.Sort
def blk : Option Addr → Nat
  | some a => a.block
  | none => 0
def mkR (x : Ent) (B1 B2 B3 : Nat) : EntR := ⟨some ⟨B1, 0, none⟩, x.hs.length, some ⟨B2, 0, none⟩, x.bl.length, some ⟨B3, 0, none⟩, x.ts.length⟩
/-- An entry whose lists are its own. -/
def EntOwn (W : World) (x : Ent) (r : EntR) : Prop := ∃ B1 B2 B3, r = mkR x B1 B2 B3 ∧ QMine W B1 x.hs ∧ BMine W B2 x.bl ∧ TMine W B3 x.ts ∧ B1 < B2 ∧ B2 < B3
theorem EntOwn.keep {W W' : World} {x : Ent} {r : EntR} (h : EntOwn W x r) (hb : Below W.heap.size W W') : EntOwn W' x r := by
  obtain ⟨B1, B2, B3, e, h1, h2, h3, h4⟩ := h
  exact ⟨B1, B2, B3, e, h1.keep hb, h2.keep hb, h3.keep hb, h4⟩
theorem EntOwn.in {W : World} {x : Ent} {r : EntR} (h : EntOwn W x r) : EntIn W x r := by
  obtain ⟨B1, B2, B3, rfl, h1, h2, h3, h4⟩ := h
  exact ⟨.inr ⟨_, _, rfl, h1.at0⟩, h2.in, h3.in, Nat.le_refl _, Nat.le_refl _, Nat.le_refl _⟩
theorem EntOwn.lt {W : World} {x : Ent} {r : EntR} (h : EntOwn W x r) : blk r.ta < W.heap.size := by
  obtain ⟨B1, B2, B3, rfl, h1, h2, h3, h4⟩ := h
  exact h3.lt
theorem EntOwn.off1 {W : World} {x : Ent} {r : EntR} (h : EntOwn W x r) {b i : Nat} (v : Value) (hne : b < blk r.ha) : EntOwn (W.setCell ⟨b, i, none⟩ v) x r := by
  obtain ⟨B1, B2, B3, rfl, h1, h2, h3, h4, h5⟩ := h
  have q : b < B1 := hne
  exact ⟨B1, B2, B3, rfl, h1.off1 v (by omega), h2.off1 v (by omega), h3.off1 v (by omega), h4, h5⟩
/-- A list of entries that is its holder's own. -/
structure EntsMine (W : World) (G : Nat) (l : List (Ent × EntR)) : Prop where
  cell : ∀ (i : Nat) q, l[i]? = some q → ∀ j, j < 13 → W.cell? ⟨G, i * 13 + j, none⟩ = (entW q.1 q.2)[j]?
  free : ∀ o, W.frozen? ⟨G, o, none⟩ = false
  lt : G < W.heap.size
  own : ∀ q ∈ l, EntOwn W q.1 q.2
  up : ∀ q ∈ l, G < blk q.2.ha
  pw : l.Pairwise (fun q q' => blk q.2.ta < blk q'.2.ha)
theorem EntsMine.keep {W W' : World} {G : Nat} {l : List (Ent × EntR)} (h : EntsMine W G l) (hb : Below W.heap.size W W') : EntsMine W' G l :=
  ⟨fun i q hq j hj => by rw [hb.cell (p := ⟨G, i * 13 + j, none⟩) h.lt]; exact h.cell i q hq j hj, fun o => by rw [hb.frozen (p := ⟨G, o, none⟩) h.lt]; exact h.free o, Nat.lt_of_lt_of_le h.lt hb.size, fun q hq => (h.own q hq).keep hb, h.up, h.pw⟩
theorem EntsMine.at0 {W : World} {G : Nat} {l : List (Ent × EntR)} (h : EntsMine W G l) : EntsAt W G 0 l := fun i q hq => ⟨fun j hj => by rw [Nat.zero_add]; exact h.cell i q hq j hj, (h.own q (List.mem_of_getElem? hq)).in⟩
theorem EntsMine.in {W : World} {G : Nat} {l : List (Ent × EntR)} (h : EntsMine W G l) : EntsIn W (some ⟨G, 0, none⟩) l := .inr ⟨G, 0, rfl, h.at0⟩
def put13 (X : World) (G k : Nat) (x0 x1 x2 x3 x4 x5 x6 x7 x8 x9 x10 x11 x12 : Value) : World := (((((((((((((X.setCell ⟨G, k * 13, none⟩ x0).setCell ⟨G, k * 13 + 1, none⟩ x1).setCell ⟨G, k * 13 + 2, none⟩ x2).setCell ⟨G, k * 13 + 3, none⟩ x3).setCell ⟨G, k * 13 + 4, none⟩ x4).setCell ⟨G, k * 13 + 5, none⟩ x5).setCell ⟨G, k * 13 + 6, none⟩ x6).setCell ⟨G, k * 13 + 7, none⟩ x7).setCell ⟨G, k * 13 + 8, none⟩ x8).setCell ⟨G, k * 13 + 9, none⟩ x9).setCell ⟨G, k * 13 + 10, none⟩ x10).setCell ⟨G, k * 13 + 11, none⟩ x11).setCell ⟨G, k * 13 + 12, none⟩ x12)
theorem put13_other (X : World) (G k : Nat) (x0 x1 x2 x3 x4 x5 x6 x7 x8 x9 x10 x11 x12 : Value) (i : Nat) (hi : i < k * 13 ∨ k * 13 + 13 ≤ i) : (put13 X G k x0 x1 x2 x3 x4 x5 x6 x7 x8 x9 x10 x11 x12).cell? ⟨G, i, none⟩ = X.cell? ⟨G, i, none⟩ := by
  unfold put13
  rw [World.cell?_setCell_other _ _ _ _ (hoff_ne (by omega)), World.cell?_setCell_other _ _ _ _ (hoff_ne (by omega)), World.cell?_setCell_other _ _ _ _ (hoff_ne (by omega)), World.cell?_setCell_other _ _ _ _ (hoff_ne (by omega)), World.cell?_setCell_other _ _ _ _ (hoff_ne (by omega)), World.cell?_setCell_other _ _ _ _ (hoff_ne (by omega)), World.cell?_setCell_other _ _ _ _ (hoff_ne (by omega)), World.cell?_setCell_other _ _ _ _ (hoff_ne (by omega)), World.cell?_setCell_other _ _ _ _ (hoff_ne (by omega)), World.cell?_setCell_other _ _ _ _ (hoff_ne (by omega)), World.cell?_setCell_other _ _ _ _ (hoff_ne (by omega)), World.cell?_setCell_other _ _ _ _ (hoff_ne (by omega)), World.cell?_setCell_other _ _ _ _ (hoff_ne (by omega))]
theorem put13_room {X : World} {G n : Nat} (k : Nat) (x0 x1 x2 x3 x4 x5 x6 x7 x8 x9 x10 x11 x12 : Value) (h : HRoom X G n) : HRoom (put13 X G k x0 x1 x2 x3 x4 x5 x6 x7 x8 x9 x10 x11 x12) G n := (((((((((((((h.set _ _).set _ _).set _ _).set _ _).set _ _).set _ _).set _ _).set _ _).set _ _).set _ _).set _ _).set _ _).set _ _)
theorem put13_free (X : World) (G k : Nat) (x0 x1 x2 x3 x4 x5 x6 x7 x8 x9 x10 x11 x12 : Value) (p : Addr) : (put13 X G k x0 x1 x2 x3 x4 x5 x6 x7 x8 x9 x10 x11 x12).frozen? p = X.frozen? p := by
  unfold put13
  rw [World.frozen?_setCell, World.frozen?_setCell, World.frozen?_setCell, World.frozen?_setCell, World.frozen?_setCell, World.frozen?_setCell, World.frozen?_setCell, World.frozen?_setCell, World.frozen?_setCell, World.frozen?_setCell, World.frozen?_setCell, World.frozen?_setCell, World.frozen?_setCell]
theorem put13_size (X : World) (G k : Nat) (x0 x1 x2 x3 x4 x5 x6 x7 x8 x9 x10 x11 x12 : Value) : (put13 X G k x0 x1 x2 x3 x4 x5 x6 x7 x8 x9 x10 x11 x12).heap.size = X.heap.size := by
  unfold put13
  simp
theorem put13_below {w X : World} {n G : Nat} (k : Nat) (x0 x1 x2 x3 x4 x5 x6 x7 x8 x9 x10 x11 x12 : Value) (h : Below n w X) (hn : n ≤ G) : Below n w (put13 X G k x0 x1 x2 x3 x4 x5 x6 x7 x8 x9 x10 x11 x12) := (((((((((((((h.setCell hn _).setCell hn _).setCell hn _).setCell hn _).setCell hn _).setCell hn _).setCell hn _).setCell hn _).setCell hn _).setCell hn _).setCell hn _).setCell hn _).setCell hn _)
theorem put13_cells {X : World} {G n : Nat} (k : Nat) (x0 x1 x2 x3 x4 x5 x6 x7 x8 x9 x10 x11 x12 : Value) (h : HRoom X G n) (hk : k * 13 + 13 ≤ n) : (put13 X G k x0 x1 x2 x3 x4 x5 x6 x7 x8 x9 x10 x11 x12).cell? ⟨G, k * 13, none⟩ = some x0 ∧ (put13 X G k x0 x1 x2 x3 x4 x5 x6 x7 x8 x9 x10 x11 x12).cell? ⟨G, k * 13 + 1, none⟩ = some x1 ∧ (put13 X G k x0 x1 x2 x3 x4 x5 x6 x7 x8 x9 x10 x11 x12).cell? ⟨G, k * 13 + 2, none⟩ = some x2 ∧ (put13 X G k x0 x1 x2 x3 x4 x5 x6 x7 x8 x9 x10 x11 x12).cell? ⟨G, k * 13 + 3, none⟩ = some x3 ∧ (put13 X G k x0 x1 x2 x3 x4 x5 x6 x7 x8 x9 x10 x11 x12).cell? ⟨G, k * 13 + 4, none⟩ = some x4 ∧ (put13 X G k x0 x1 x2 x3 x4 x5 x6 x7 x8 x9 x10 x11 x12).cell? ⟨G, k * 13 + 5, none⟩ = some x5 ∧ (put13 X G k x0 x1 x2 x3 x4 x5 x6 x7 x8 x9 x10 x11 x12).cell? ⟨G, k * 13 + 6, none⟩ = some x6 ∧ (put13 X G k x0 x1 x2 x3 x4 x5 x6 x7 x8 x9 x10 x11 x12).cell? ⟨G, k * 13 + 7, none⟩ = some x7 ∧ (put13 X G k x0 x1 x2 x3 x4 x5 x6 x7 x8 x9 x10 x11 x12).cell? ⟨G, k * 13 + 8, none⟩ = some x8 ∧ (put13 X G k x0 x1 x2 x3 x4 x5 x6 x7 x8 x9 x10 x11 x12).cell? ⟨G, k * 13 + 9, none⟩ = some x9 ∧ (put13 X G k x0 x1 x2 x3 x4 x5 x6 x7 x8 x9 x10 x11 x12).cell? ⟨G, k * 13 + 10, none⟩ = some x10 ∧ (put13 X G k x0 x1 x2 x3 x4 x5 x6 x7 x8 x9 x10 x11 x12).cell? ⟨G, k * 13 + 11, none⟩ = some x11 ∧ (put13 X G k x0 x1 x2 x3 x4 x5 x6 x7 x8 x9 x10 x11 x12).cell? ⟨G, k * 13 + 12, none⟩ = some x12 := by
  refine ⟨?_, ?_, ?_, ?_, ?_, ?_, ?_, ?_, ?_, ?_, ?_, ?_, ?_⟩
  · obtain ⟨⟨u, g⟩, _⟩ := h (k * 13) (by omega)
    unfold put13
    rw [World.cell?_setCell_other _ _ _ _ (hoff_ne (by omega)), World.cell?_setCell_other _ _ _ _ (hoff_ne (by omega)), World.cell?_setCell_other _ _ _ _ (hoff_ne (by omega)), World.cell?_setCell_other _ _ _ _ (hoff_ne (by omega)), World.cell?_setCell_other _ _ _ _ (hoff_ne (by omega)), World.cell?_setCell_other _ _ _ _ (hoff_ne (by omega)), World.cell?_setCell_other _ _ _ _ (hoff_ne (by omega)), World.cell?_setCell_other _ _ _ _ (hoff_ne (by omega)), World.cell?_setCell_other _ _ _ _ (hoff_ne (by omega)), World.cell?_setCell_other _ _ _ _ (hoff_ne (by omega)), World.cell?_setCell_other _ _ _ _ (hoff_ne (by omega)), World.cell?_setCell_other _ _ _ _ (hoff_ne (by omega))]
    exact World.cell?_setCell_same _ _ _ g
  · obtain ⟨⟨u, g⟩, _⟩ := (h.set ⟨G, k * 13, none⟩ x0) (k * 13 + 1) (by omega)
    unfold put13
    rw [World.cell?_setCell_other _ _ _ _ (hoff_ne (by omega)), World.cell?_setCell_other _ _ _ _ (hoff_ne (by omega)), World.cell?_setCell_other _ _ _ _ (hoff_ne (by omega)), World.cell?_setCell_other _ _ _ _ (hoff_ne (by omega)), World.cell?_setCell_other _ _ _ _ (hoff_ne (by omega)), World.cell?_setCell_other _ _ _ _ (hoff_ne (by omega)), World.cell?_setCell_other _ _ _ _ (hoff_ne (by omega)), World.cell?_setCell_other _ _ _ _ (hoff_ne (by omega)), World.cell?_setCell_other _ _ _ _ (hoff_ne (by omega)), World.cell?_setCell_other _ _ _ _ (hoff_ne (by omega)), World.cell?_setCell_other _ _ _ _ (hoff_ne (by omega))]
    exact World.cell?_setCell_same _ _ _ g
  · obtain ⟨⟨u, g⟩, _⟩ := ((h.set ⟨G, k * 13, none⟩ x0).set ⟨G, k * 13 + 1, none⟩ x1) (k * 13 + 2) (by omega)
    unfold put13
    rw [World.cell?_setCell_other _ _ _ _ (hoff_ne (by omega)), World.cell?_setCell_other _ _ _ _ (hoff_ne (by omega)), World.cell?_setCell_other _ _ _ _ (hoff_ne (by omega)), World.cell?_setCell_other _ _ _ _ (hoff_ne (by omega)), World.cell?_setCell_other _ _ _ _ (hoff_ne (by omega)), World.cell?_setCell_other _ _ _ _ (hoff_ne (by omega)), World.cell?_setCell_other _ _ _ _ (hoff_ne (by omega)), World.cell?_setCell_other _ _ _ _ (hoff_ne (by omega)), World.cell?_setCell_other _ _ _ _ (hoff_ne (by omega)), World.cell?_setCell_other _ _ _ _ (hoff_ne (by omega))]
    exact World.cell?_setCell_same _ _ _ g
  · obtain ⟨⟨u, g⟩, _⟩ := (((h.set ⟨G, k * 13, none⟩ x0).set ⟨G, k * 13 + 1, none⟩ x1).set ⟨G, k * 13 + 2, none⟩ x2) (k * 13 + 3) (by omega)
    unfold put13
    rw [World.cell?_setCell_other _ _ _ _ (hoff_ne (by omega)), World.cell?_setCell_other _ _ _ _ (hoff_ne (by omega)), World.cell?_setCell_other _ _ _ _ (hoff_ne (by omega)), World.cell?_setCell_other _ _ _ _ (hoff_ne (by omega)), World.cell?_setCell_other _ _ _ _ (hoff_ne (by omega)), World.cell?_setCell_other _ _ _ _ (hoff_ne (by omega)), World.cell?_setCell_other _ _ _ _ (hoff_ne (by omega)), World.cell?_setCell_other _ _ _ _ (hoff_ne (by omega)), World.cell?_setCell_other _ _ _ _ (hoff_ne (by omega))]
    exact World.cell?_setCell_same _ _ _ g
  · obtain ⟨⟨u, g⟩, _⟩ := ((((h.set ⟨G, k * 13, none⟩ x0).set ⟨G, k * 13 + 1, none⟩ x1).set ⟨G, k * 13 + 2, none⟩ x2).set ⟨G, k * 13 + 3, none⟩ x3) (k * 13 + 4) (by omega)
    unfold put13
    rw [World.cell?_setCell_other _ _ _ _ (hoff_ne (by omega)), World.cell?_setCell_other _ _ _ _ (hoff_ne (by omega)), World.cell?_setCell_other _ _ _ _ (hoff_ne (by omega)), World.cell?_setCell_other _ _ _ _ (hoff_ne (by omega)), World.cell?_setCell_other _ _ _ _ (hoff_ne (by omega)), World.cell?_setCell_other _ _ _ _ (hoff_ne (by omega)), World.cell?_setCell_other _ _ _ _ (hoff_ne (by omega)), World.cell?_setCell_other _ _ _ _ (hoff_ne (by omega))]
    exact World.cell?_setCell_same _ _ _ g
  · obtain ⟨⟨u, g⟩, _⟩ := (((((h.set ⟨G, k * 13, none⟩ x0).set ⟨G, k * 13 + 1, none⟩ x1).set ⟨G, k * 13 + 2, none⟩ x2).set ⟨G, k * 13 + 3, none⟩ x3).set ⟨G, k * 13 + 4, none⟩ x4) (k * 13 + 5) (by omega)
    unfold put13
    rw [World.cell?_setCell_other _ _ _ _ (hoff_ne (by omega)), World.cell?_setCell_other _ _ _ _ (hoff_ne (by omega)), World.cell?_setCell_other _ _ _ _ (hoff_ne (by omega)), World.cell?_setCell_other _ _ _ _ (hoff_ne (by omega)), World.cell?_setCell_other _ _ _ _ (hoff_ne (by omega)), World.cell?_setCell_other _ _ _ _ (hoff_ne (by omega)), World.cell?_setCell_other _ _ _ _ (hoff_ne (by omega))]
    exact World.cell?_setCell_same _ _ _ g
  · obtain ⟨⟨u, g⟩, _⟩ := ((((((h.set ⟨G, k * 13, none⟩ x0).set ⟨G, k * 13 + 1, none⟩ x1).set ⟨G, k * 13 + 2, none⟩ x2).set ⟨G, k * 13 + 3, none⟩ x3).set ⟨G, k * 13 + 4, none⟩ x4).set ⟨G, k * 13 + 5, none⟩ x5) (k * 13 + 6) (by omega)
    unfold put13
    rw [World.cell?_setCell_other _ _ _ _ (hoff_ne (by omega)), World.cell?_setCell_other _ _ _ _ (hoff_ne (by omega)), World.cell?_setCell_other _ _ _ _ (hoff_ne (by omega)), World.cell?_setCell_other _ _ _ _ (hoff_ne (by omega)), World.cell?_setCell_other _ _ _ _ (hoff_ne (by omega)), World.cell?_setCell_other _ _ _ _ (hoff_ne (by omega))]
    exact World.cell?_setCell_same _ _ _ g
  · obtain ⟨⟨u, g⟩, _⟩ := (((((((h.set ⟨G, k * 13, none⟩ x0).set ⟨G, k * 13 + 1, none⟩ x1).set ⟨G, k * 13 + 2, none⟩ x2).set ⟨G, k * 13 + 3, none⟩ x3).set ⟨G, k * 13 + 4, none⟩ x4).set ⟨G, k * 13 + 5, none⟩ x5).set ⟨G, k * 13 + 6, none⟩ x6) (k * 13 + 7) (by omega)
    unfold put13
    rw [World.cell?_setCell_other _ _ _ _ (hoff_ne (by omega)), World.cell?_setCell_other _ _ _ _ (hoff_ne (by omega)), World.cell?_setCell_other _ _ _ _ (hoff_ne (by omega)), World.cell?_setCell_other _ _ _ _ (hoff_ne (by omega)), World.cell?_setCell_other _ _ _ _ (hoff_ne (by omega))]
    exact World.cell?_setCell_same _ _ _ g
  · obtain ⟨⟨u, g⟩, _⟩ := ((((((((h.set ⟨G, k * 13, none⟩ x0).set ⟨G, k * 13 + 1, none⟩ x1).set ⟨G, k * 13 + 2, none⟩ x2).set ⟨G, k * 13 + 3, none⟩ x3).set ⟨G, k * 13 + 4, none⟩ x4).set ⟨G, k * 13 + 5, none⟩ x5).set ⟨G, k * 13 + 6, none⟩ x6).set ⟨G, k * 13 + 7, none⟩ x7) (k * 13 + 8) (by omega)
    unfold put13
    rw [World.cell?_setCell_other _ _ _ _ (hoff_ne (by omega)), World.cell?_setCell_other _ _ _ _ (hoff_ne (by omega)), World.cell?_setCell_other _ _ _ _ (hoff_ne (by omega)), World.cell?_setCell_other _ _ _ _ (hoff_ne (by omega))]
    exact World.cell?_setCell_same _ _ _ g
  · obtain ⟨⟨u, g⟩, _⟩ := (((((((((h.set ⟨G, k * 13, none⟩ x0).set ⟨G, k * 13 + 1, none⟩ x1).set ⟨G, k * 13 + 2, none⟩ x2).set ⟨G, k * 13 + 3, none⟩ x3).set ⟨G, k * 13 + 4, none⟩ x4).set ⟨G, k * 13 + 5, none⟩ x5).set ⟨G, k * 13 + 6, none⟩ x6).set ⟨G, k * 13 + 7, none⟩ x7).set ⟨G, k * 13 + 8, none⟩ x8) (k * 13 + 9) (by omega)
    unfold put13
    rw [World.cell?_setCell_other _ _ _ _ (hoff_ne (by omega)), World.cell?_setCell_other _ _ _ _ (hoff_ne (by omega)), World.cell?_setCell_other _ _ _ _ (hoff_ne (by omega))]
    exact World.cell?_setCell_same _ _ _ g
  · obtain ⟨⟨u, g⟩, _⟩ := ((((((((((h.set ⟨G, k * 13, none⟩ x0).set ⟨G, k * 13 + 1, none⟩ x1).set ⟨G, k * 13 + 2, none⟩ x2).set ⟨G, k * 13 + 3, none⟩ x3).set ⟨G, k * 13 + 4, none⟩ x4).set ⟨G, k * 13 + 5, none⟩ x5).set ⟨G, k * 13 + 6, none⟩ x6).set ⟨G, k * 13 + 7, none⟩ x7).set ⟨G, k * 13 + 8, none⟩ x8).set ⟨G, k * 13 + 9, none⟩ x9) (k * 13 + 10) (by omega)
    unfold put13
    rw [World.cell?_setCell_other _ _ _ _ (hoff_ne (by omega)), World.cell?_setCell_other _ _ _ _ (hoff_ne (by omega))]
    exact World.cell?_setCell_same _ _ _ g
  · obtain ⟨⟨u, g⟩, _⟩ := (((((((((((h.set ⟨G, k * 13, none⟩ x0).set ⟨G, k * 13 + 1, none⟩ x1).set ⟨G, k * 13 + 2, none⟩ x2).set ⟨G, k * 13 + 3, none⟩ x3).set ⟨G, k * 13 + 4, none⟩ x4).set ⟨G, k * 13 + 5, none⟩ x5).set ⟨G, k * 13 + 6, none⟩ x6).set ⟨G, k * 13 + 7, none⟩ x7).set ⟨G, k * 13 + 8, none⟩ x8).set ⟨G, k * 13 + 9, none⟩ x9).set ⟨G, k * 13 + 10, none⟩ x10) (k * 13 + 11) (by omega)
    unfold put13
    rw [World.cell?_setCell_other _ _ _ _ (hoff_ne (by omega))]
    exact World.cell?_setCell_same _ _ _ g
  · obtain ⟨⟨u, g⟩, _⟩ := ((((((((((((h.set ⟨G, k * 13, none⟩ x0).set ⟨G, k * 13 + 1, none⟩ x1).set ⟨G, k * 13 + 2, none⟩ x2).set ⟨G, k * 13 + 3, none⟩ x3).set ⟨G, k * 13 + 4, none⟩ x4).set ⟨G, k * 13 + 5, none⟩ x5).set ⟨G, k * 13 + 6, none⟩ x6).set ⟨G, k * 13 + 7, none⟩ x7).set ⟨G, k * 13 + 8, none⟩ x8).set ⟨G, k * 13 + 9, none⟩ x9).set ⟨G, k * 13 + 10, none⟩ x10).set ⟨G, k * 13 + 11, none⟩ x11) (k * 13 + 12) (by omega)
    unfold put13
    exact World.cell?_setCell_same _ _ _ g
def putE (X : World) (G k : Nat) (x : Ent) (r : EntR) : World := put13 X G k (.string x.key) (.int .i64 x.st) (.slice r.ha x.hs.length r.hc) (.slice r.ba x.bl.length r.bc) (.int .i64 x.t) (.int .i64 x.g) (.int .i64 x.l) (.int .i64 x.s) (.int .i64 x.e) (.bool x.b1) (.bool x.b2) (.slice r.ta x.ts.length r.tc) (.int .i64 x.pins)
theorem putE_own {X : World} {G k : Nat} {y : Ent} {s : EntR} (x : Ent) (r : EntR) (hk : EntOwn X y s) (h : G < blk s.ha) : EntOwn (putE X G k x r) y s := (((((((((((((hk.off1 _ h).off1 _ h).off1 _ h).off1 _ h).off1 _ h).off1 _ h).off1 _ h).off1 _ h).off1 _ h).off1 _ h).off1 _ h).off1 _ h).off1 _ h)
theorem EntsMine.put {W : World} {G n : Nat} {l : List (Ent × EntR)} (h : EntsMine W G l) (x : Ent) (r : EntR) (hm : HRoom W G n) (hn : l.length * 13 + 13 ≤ n) (ho : EntOwn W x r) (hu : G < blk r.ha) (hp : ∀ q ∈ l, blk q.2.ta < blk r.ha) : EntsMine (putE W G l.length x r) G (l ++ [(x, r)]) := by
  refine ⟨?_, fun o => ?_, ?_, ?_, ?_, ?_⟩
  · intro i q hq j hj
    have hi : i < l.length + 1 := by have := (List.getElem?_eq_some_iff.1 hq).1; simpa using this
    by_cases e : i = l.length
    · subst e
      rw [List.getElem?_append_right (Nat.le_refl _), Nat.sub_self] at hq
      obtain rfl := Option.some.inj hq
      have c := put13_cells l.length (.string x.key) (.int .i64 x.st) (.slice r.ha x.hs.length r.hc) (.slice r.ba x.bl.length r.bc) (.int .i64 x.t) (.int .i64 x.g) (.int .i64 x.l) (.int .i64 x.s) (.int .i64 x.e) (.bool x.b1) (.bool x.b2) (.slice r.ta x.ts.length r.tc) (.int .i64 x.pins) hm hn
      match j, hj with
      | 0, _ => exact c.1
      | 1, _ => exact c.2.1
      | 2, _ => exact c.2.2.1
      | 3, _ => exact c.2.2.2.1
      | 4, _ => exact c.2.2.2.2.1
      | 5, _ => exact c.2.2.2.2.2.1
      | 6, _ => exact c.2.2.2.2.2.2.1
      | 7, _ => exact c.2.2.2.2.2.2.2.1
      | 8, _ => exact c.2.2.2.2.2.2.2.2.1
      | 9, _ => exact c.2.2.2.2.2.2.2.2.2.1
      | 10, _ => exact c.2.2.2.2.2.2.2.2.2.2.1
      | 11, _ => exact c.2.2.2.2.2.2.2.2.2.2.2.1
      | 12, _ => exact c.2.2.2.2.2.2.2.2.2.2.2.2
    · rw [List.getElem?_append_left (by omega)] at hq
      have c := h.cell i q hq j hj
      unfold putE
      rw [put13_other _ _ _ _ _ _ _ _ _ _ _ _ _ _ _ _ _ (by omega)]
      exact c
  · unfold putE; rw [put13_free]; exact h.free o
  · unfold putE; rw [put13_size]; exact h.lt
  · intro q hq
    rcases List.mem_append.1 hq with hq | hq
    · exact putE_own _ _ (h.own q hq) (h.up q hq)
    · obtain rfl := List.mem_singleton.1 hq
      exact putE_own _ _ ho hu
  · intro q hq
    rcases List.mem_append.1 hq with hq | hq
    · exact h.up q hq
    · obtain rfl := List.mem_singleton.1 hq
      exact hu
  · refine List.pairwise_append.2 ⟨h.pw, List.pairwise_singleton _ _, fun q hq q' hq' => ?_⟩
    obtain rfl := List.mem_singleton.1 hq'
    exact hp q hq
theorem infoEntry : (Tryd.prog.info? 69).map (fun i => (i.zero, i.size, i.bytes)) = some (some (.agg #[.string ⟨#[]⟩, .int .i64 0, .slice none 0 0, .slice none 0 0, .int .i64 0, .int .i64 0, .int .i64 0, .int .i64 0, .int .i64 0, .bool false, .bool false, .slice none 0 0, .int .i64 0]), 13, 152) := by kernel_rfl
/-- What fits. -/
structure EntFit (x : Ent) : Prop where
  h : x.hs.length ≤ 1048576
  b : x.bl.length ≤ 1048576
  t : x.ts.length ≤ 1048576
end Go.Proofs.YtlbagfaiiileoaaDoor
/-
  Entries that are pointed at: rows of pointers that are one's own.
-/
namespace Go.Proofs.YtlbagfaiiileoaaDoor
open Go.ChangeShapes Go.WideShapes Go.ChangeAt Go.RowKit Go.Sort
/-- An entry and where it lies. -/
structure Hdl where
  b : Nat
  o : Nat
  x : Ent
  r : EntR
def hP (h : Hdl) : Value := .pointer (some ⟨h.b, h.o, none⟩)
/-- It lies there. -/
def HThere (w : World) (h : Hdl) : Prop := (∀ j, j < 13 → w.cell? ⟨h.b, h.o + j, none⟩ = (entW h.x h.r)[j]?) ∧ EntIn w h.x h.r
theorem HThere.lt {w : World} {h : Hdl} (k : HThere w h) : h.b < w.heap.size := block_lt_of_cell (k.1 0 (by omega))
theorem HThere.keep {w w' : World} {h : Hdl} (k : HThere w h) (hb : Below w.heap.size w w') : HThere w' h :=
  ⟨fun j hj => by rw [hb.cell (p := ⟨h.b, h.o + j, none⟩) k.lt]; exact k.1 j hj, k.2.keep hb⟩
theorem HThere.cells {w : World} {h : Hdl} (k : HThere w h) : w.cell? ⟨h.b, h.o, none⟩ = some (.string h.x.key) ∧ w.cell? ⟨h.b, h.o + 1, none⟩ = some (.int .i64 h.x.st) ∧ w.cell? ⟨h.b, h.o + 2, none⟩ = some (.slice h.r.ha h.x.hs.length h.r.hc) ∧ w.cell? ⟨h.b, h.o + 3, none⟩ = some (.slice h.r.ba h.x.bl.length h.r.bc) ∧ w.cell? ⟨h.b, h.o + 4, none⟩ = some (.int .i64 h.x.t) ∧ w.cell? ⟨h.b, h.o + 5, none⟩ = some (.int .i64 h.x.g) ∧ w.cell? ⟨h.b, h.o + 6, none⟩ = some (.int .i64 h.x.l) ∧ w.cell? ⟨h.b, h.o + 7, none⟩ = some (.int .i64 h.x.s) ∧ w.cell? ⟨h.b, h.o + 8, none⟩ = some (.int .i64 h.x.e) ∧ w.cell? ⟨h.b, h.o + 9, none⟩ = some (.bool h.x.b1) ∧ w.cell? ⟨h.b, h.o + 10, none⟩ = some (.bool h.x.b2) ∧ w.cell? ⟨h.b, h.o + 11, none⟩ = some (.slice h.r.ta h.x.ts.length h.r.tc) ∧ w.cell? ⟨h.b, h.o + 12, none⟩ = some (.int .i64 h.x.pins) :=
  ⟨k.1 0 (by omega), k.1 1 (by omega), k.1 2 (by omega), k.1 3 (by omega), k.1 4 (by omega), k.1 5 (by omega), k.1 6 (by omega), k.1 7 (by omega), k.1 8 (by omega), k.1 9 (by omega), k.1 10 (by omega), k.1 11 (by omega), k.1 12 (by omega)⟩
/-- The entries of a list, each where it lies. -/
def hdls (b off : Nat) (l : List (Ent × EntR)) : List Hdl := l.mapIdx (fun i q => ⟨b, off + i * 13, q.1, q.2⟩)
theorem hdls_at {b off : Nat} {l : List (Ent × EntR)} {i : Nat} {q : Ent × EntR} (h : l[i]? = some q) : (hdls b off l)[i]? = some ⟨b, off + i * 13, q.1, q.2⟩ := by
  unfold hdls
  rw [List.getElem?_mapIdx, h]
  rfl
theorem hdls_len (b off : Nat) (l : List (Ent × EntR)) : (hdls b off l).length = l.length := by simp [hdls]
theorem hdls_x (b off : Nat) (l : List (Ent × EntR)) : (hdls b off l).map Hdl.x = l.map Prod.fst := by
  refine List.ext_getElem? fun i => ?_
  rw [List.getElem?_map, List.getElem?_map]
  unfold hdls
  rw [List.getElem?_mapIdx]
  cases l[i]? <;> rfl
theorem hdls_there {w : World} {b off : Nat} {l : List (Ent × EntR)} (h : EntsAt w b off l) : ∀ k ∈ hdls b off l, HThere w k := by
  intro k hk
  obtain ⟨i, hi⟩ := List.mem_iff_getElem?.1 hk
  unfold hdls at hi
  rw [List.getElem?_mapIdx] at hi
  obtain ⟨q, hq, rfl⟩ := Option.map_eq_some_iff.1 hi
  exact h i q hq
/-- v holds pointers to the entries hs, in a row of the call's own. -/
def OwnP (w : World) (base : Nat) (v : Value) (hs : List Hdl) : Prop := w.ownsRow base 79 1 v hs.length (hs.map hP)
theorem OwnP.nil (w : World) (base : Nat) : OwnP w base (.slice none 0 0) [] := World.ownsRow_nil _ _ _ _
theorem OwnP.below {w w' : World} {base : Nat} {v : Value} {l : List Hdl} (h : OwnP w base v l) (hb : Below w.heap.size w w') : OwnP w' base v l := by
  obtain ⟨h1, h2⟩ := h
  refine ⟨h1, ?_⟩
  rcases h2 with h2 | ⟨g, c, cur, e, hg, hh, hrest⟩
  · exact .inl h2
  · exact .inr ⟨g, c, cur, e, hg, by rw [hb.block g (Array.getElem?_eq_some_iff.1 hh).1]; exact hh, hrest⟩
theorem OwnP.lower {w : World} {b0 base : Nat} {v : Value} {l : List Hdl} (h : OwnP w base v l) (hb : b0 ≤ base) : OwnP w b0 v l := by
  obtain ⟨h1, h2⟩ := h
  refine ⟨h1, ?_⟩
  rcases h2 with h2 | ⟨g, c, cur, e, hg, hrest⟩
  · exact .inl h2
  · exact .inr ⟨g, c, cur, e, by omega, hrest⟩
theorem OwnP.form {w : World} {base : Nat} {v : Value} {l : List Hdl} (h : OwnP w base v l) : ∃ va vc, v = .slice va l.length vc ∧ l.length ≤ vc ∧ (l = [] ∨ ∃ g, va = some ⟨g, 0, none⟩ ∧ base ≤ g ∧ g < w.heap.size ∧ ∀ (i : Nat) k, l[i]? = some k → w.cell? ⟨g, i, none⟩ = some (hP k)) := by
  have h0 := h
  obtain ⟨_, h1 | ⟨g, c2, cur, rfl, hb, hh, hc2, _⟩⟩ := h
  · have e : l = [] := List.eq_nil_of_length_eq_zero h1.2
    subst e
    exact ⟨none, 0, h1.1, Nat.le_refl _, .inl rfl⟩
  · refine ⟨_, c2, rfl, hc2, .inr ⟨g, rfl, hb, (Array.getElem?_eq_some_iff.1 hh).1, fun i k hk => ?_⟩⟩
    have hi := (List.getElem?_eq_some_iff.1 hk).1
    have c1 := World.ownsRow.cellAt h0 i (by omega)
    rw [c1, List.getElem?_map, hk]
    rfl
theorem own_geP {w : World} {base : Nat} {v : Value} {l : List Hdl} (h : OwnP w base v l) (q : Nat) (hq : v.ownBlock = some q) : base ≤ q := by
  obtain ⟨_, h | ⟨g, c, cur, rfl, hg, _⟩⟩ := h
  · rw [h.1] at hq; cases hq
  · simp only [Value.ownBlock, Option.some.injEq] at hq; omega
theorem row_off {w : World} {base : Nat} {e : TypeId} {size : Nat} {v : Value} {n : Nat} {xs : List Value} (h : w.ownsRow base e size v n xs) {b i : Nat} (u : Value) (hb : b < base) : (w.setCell ⟨b, i, none⟩ u).ownsRow base e size v n xs := by
  obtain ⟨h1, h2⟩ := h
  refine ⟨h1, ?_⟩
  rcases h2 with h2 | ⟨g, c, cur, e', hg, hh, hrest⟩
  · exact .inl h2
  · exact .inr ⟨g, c, cur, e', hg, by rw [heap_setCell_other w ⟨b, i, none⟩ g u (by simp only; omega)]; exact hh, hrest⟩
theorem made_one (z : Value) (hz : z.cells = #[z]) (n : Nat) : (madeCells z.cells (n * 1)).toList = List.replicate n z := by
  rw [hz, Nat.mul_one]
  refine List.ext_getElem? fun i => ?_
  by_cases hi : i < n
  · rw [List.getElem?_replicate_of_lt hi]
    simp [madeCells, hi, Nat.mod_one]
  · rw [List.getElem?_eq_none (by simp [madeCells]; omega), List.getElem?_eq_none (by simp; omega)]
theorem infoPtr : (Tryd.prog.info? 79).map (fun i => (i.zero, i.size, i.bytes)) = some (some (.pointer none), 1, 8) := by kernel_rfl
theorem ptr_one (hs : List Hdl) : ∀ u ∈ hs.map hP, u.oneCell' = true := by
  intro u hu
  obtain ⟨h, _, rfl⟩ := List.mem_map.1 hu
  rfl
theorem set_fill {z : Value} : ∀ (ps : List Value) (k : Nat) (p : Value), ps[k]? = some p → (ps.take k ++ List.replicate (ps.length - k) z).set k p = ps.take (k + 1) ++ List.replicate (ps.length - (k + 1)) z := by
  intro ps k p h
  obtain ⟨hk, rfl⟩ := List.getElem?_eq_some_iff.1 h
  have hlen : (ps.take k).length = k := by simp; omega
  rw [List.set_append_right _ _ (by rw [hlen]; exact Nat.le_refl _), hlen, Nat.sub_self, List.take_succ_eq_append_getElem hk]
  obtain ⟨m, hm⟩ : ∃ m, ps.length - k = m + 1 := ⟨ps.length - k - 1, by omega⟩
  rw [hm, List.replicate_succ, List.set_cons_zero, show ps.length - (k + 1) = m from by omega, List.append_assoc]
  rfl
end Go.Proofs.YtlbagfaiiileoaaDoor
/-
  The program's shelves: pointers to what a store's lists hold.
-/
namespace Go.Proofs.YtlbagfaiiileoaaDoor
open Go.ChangeShapes Go.WideShapes Go.ChangeAt Go.RowKit Go.Sort
/-- Handles of a list that came in at an address. -/
def hdlsA (a : Option Addr) (l : List (Ent × EntR)) : List Hdl :=
  match a with
  | some a => hdls a.block a.off l
  | none => hdls 0 0 l
theorem hdlsA_len (a : Option Addr) (l : List (Ent × EntR)) : (hdlsA a l).length = l.length := by
  unfold hdlsA; split <;> exact hdls_len _ _ _
theorem hdlsA_x (a : Option Addr) (l : List (Ent × EntR)) : (hdlsA a l).map Hdl.x = l.map Prod.fst := by
  unfold hdlsA; split <;> exact hdls_x _ _ _
theorem hdlsA_there {w : World} {a : Option Addr} {l : List (Ent × EntR)} (h : EntsIn w a l) : ∀ k ∈ hdlsA a l, HThere w k := by
  rcases h with rfl | ⟨b, off, rfl, h⟩
  · intro k hk
    have := List.length_pos_of_mem hk
    rw [hdlsA_len] at this
    simp at this
  · exact hdls_there h
set_option maxRecDepth 100000 in
set_option maxHeartbeats 8000000 in
theorem shelfOf_any (w : World) (a : Option Addr) (cap : Nat) (l : List (Ent × EntR)) (hl : l.length ≤ 1048576) (hi : EntsIn w a l) :
    Calls Tryd.prog 51 #[.slice a l.length cap] w fun e w' => (∃ v, e = .returned (.agg #[v]) ∧ OwnP w' w.heap.size v (hdlsA a l)) ∧ Below w.heap.size w w' := by
  obtain ⟨i0, hi0, hz0, hz1, hz2⟩ := info_parts infoPtr
  have hlen := hdlsA_len a l
  have HPS : Hid (∀ (k : Nat), k < l.length → ∃ b off, a = some ⟨b, off, none⟩ ∧ ((hdlsA a l).map hP)[k]? = some (.pointer (some ⟨b, off + k * 13, none⟩))) := by
    intro k hk
    rcases hi with rfl | ⟨b, off, rfl, h⟩
    · simp at hk
    · refine ⟨b, off, rfl, ?_⟩
      rw [List.getElem?_map]
      show Option.map hP ((hdls b off l)[k]?) = _
      rw [hdls_at (List.getElem?_eq_getElem hk)]
      rfl
  clear hi
  obtain ⟨ps, hps⟩ : ∃ ps, Hid ((hdlsA a l).map hP = ps) := ⟨_, rfl⟩
  have hpl : ps.length = l.length := by rw [← hps.out, List.length_map, hlen]
  rw [hps.out] at HPS
  have HO : Hid (∀ w' v, w'.ownsRow w.heap.size 79 1 v l.length ps → OwnP w' w.heap.size v (hdlsA a l)) := fun w' v h => by
    unfold OwnP
    rw [hlen, hps.out]
    exact h
  clear hps hlen
  generalize hn : l.length = n at *
  clear hn
  have HPL : Hid (ps.length = n) := hpl
  clear hpl
  have BA : Hid (Below w.heap.size w (w.alloc (.cells #[.slice none 0 0] 74))) := (Below.refl _ _).alloc (Nat.le_refl _) _
  obtain ⟨V, hV⟩ : ∃ V, V = w.alloc (.cells #[.slice none 0 0] 74) := ⟨_, rfl⟩
  have HV : Hid (V = w.alloc (.cells #[.slice none 0 0] 74)) := hV
  have hVs : V.heap.size = w.heap.size + 1 := by rw [hV]; simp
  have hVc : V.cell? ⟨w.heap.size, 0, none⟩ = some (.slice none 0 0) := by rw [hV]; simp
  have hVf : V.frozen? ⟨w.heap.size, 0, none⟩ = false := by rw [hV]; simp
  rw [← HV.out] at BA
  clear hV
  go_enter Tryd.func51, Tryd.ntmps51
  go_wp2_with (at_make; rw [← HV.out]; refine wpList_make_full V rfl _ _ 72 rfl (w.heap.size + 1) 79 i0 _ 1 Tryd.underlying72 hi0 hz0 hz1 _ _ _ _ n rfl rfl rfl rfl (by rw [hz2]; omega) (by unfold maxLen; omega) (by rw [hVs]; exact Nat.le_refl _) ?_; intro w1 hown hgrow)
  try rw [hVs] at hown
  rw [made_one (.pointer none) rfl] at hown
  have HR1 : Hid (w1.ownsRow (w.heap.size + 1) 79 1 (.slice (some ⟨w.heap.size + 1, 0, none⟩) n n) n (List.replicate n (.pointer none)) ∧ w1.cell? ⟨w.heap.size, 0, none⟩ = some (.slice none 0 0) ∧ w1.frozen? ⟨w.heap.size, 0, none⟩ = false ∧ Below w.heap.size w w1) := by
    have bV : Below V.heap.size V w1 := (Below.refl _ _).grown hgrow (Nat.le_refl _) (fun q hq => by cases hq)
    exact ⟨hown, by rw [bV.cell (p := ⟨w.heap.size, 0, none⟩) (by rw [hVs]; exact Nat.lt_succ_self _)]; exact hVc, by rw [bV.frozen (p := ⟨w.heap.size, 0, none⟩) (by rw [hVs]; exact Nat.lt_succ_self _)]; exact hVf, BA.out.trans (bV.mono BA.out.size)⟩
  clear hown hgrow hVs hVc hVf HV BA
  go_loopw [10] (fun i wr => ∃ k : Nat, k ≤ n ∧ i = .int .i64 k ∧ wr.ownsRow (w.heap.size + 1) 79 1 (.slice (some ⟨w.heap.size + 1, 0, none⟩) n n) n (ps.take k ++ List.replicate (n - k) (.pointer none)) ∧ wr.cell? ⟨w.heap.size, 0, none⟩ = some (.slice none 0 0) ∧ wr.frozen? ⟨w.heap.size, 0, none⟩ = false ∧ Below w.heap.size w wr) (fun i _ => n - (intOf i).toNat)
  case atStart => exact ⟨0, Nat.zero_le _, rfl, by simpa using HR1.out.1, HR1.out.2.1, HR1.out.2.2.1, HR1.out.2.2.2⟩
  case round =>
    obtain ⟨k, hk, rfl, hrow, hc, hf, hb⟩ := hrel
    clear HR1
    by_cases hlt : k < n
    · obtain ⟨b, off, rfl, hp⟩ := HPS.out k hlt
      have cg := hrow.cellAt k (by omega)
      have hfg := hrow.frozenAt k
      obtain ⟨u, hu⟩ : ∃ u, (ps.take k ++ List.replicate (n - k) (Value.pointer none))[k]? = some u := ⟨_, List.getElem?_eq_getElem (by have := HPL.out; simp; omega)⟩
      rw [hu] at cg
      have HN : Hid ((wr.setCell ⟨w.heap.size + 1, k, none⟩ (.pointer (some ⟨b, off + k * 13, none⟩))).ownsRow (w.heap.size + 1) 79 1 (.slice (some ⟨w.heap.size + 1, 0, none⟩) n n) n (ps.take (k + 1) ++ List.replicate (n - (k + 1)) (.pointer none))) := by
        have := (hrow.stored k (.pointer (some ⟨b, off + k * 13, none⟩))).1
        have e := set_fill (z := .pointer none) ps k _ hp
        rw [HPL.out] at e
        rw [e] at this
        exact this
      have HC : Hid ((wr.setCell ⟨w.heap.size + 1, k, none⟩ (.pointer (some ⟨b, off + k * 13, none⟩))).cell? ⟨w.heap.size, 0, none⟩ = some (.slice none 0 0) ∧ (wr.setCell ⟨w.heap.size + 1, k, none⟩ (.pointer (some ⟨b, off + k * 13, none⟩))).frozen? ⟨w.heap.size, 0, none⟩ = false ∧ Below w.heap.size w (wr.setCell ⟨w.heap.size + 1, k, none⟩ (.pointer (some ⟨b, off + k * 13, none⟩)))) := by
        refine ⟨?_, by rw [World.frozen?_setCell]; exact hf, hb.setCell (by simp) _⟩
        rw [World.cell?_setCell_other _ _ _ _ (by intro q; have := congrArg Addr.block q; simp only at this; omega)]
        exact hc
      have g : (k : Int) < n := by omega
      have g0 : (0 : Int) ≤ k := by omega
      clear hrow hu hp hc hf hb HPS
      go_wp2_with fail
      go_roundw
      case rel => exact ⟨k + 1, by omega, by go_num, HN.out, HC.out.1, HC.out.2.1, HC.out.2.2⟩
      case measure => simp [intOf]; omega
    · have hkn : k = n := by omega
      subst hkn
      have HF : Hid (∀ u, (wr.setCell ⟨w.heap.size, 0, none⟩ u).ownsRow w.heap.size 79 1 (.slice (some ⟨w.heap.size + 1, 0, none⟩) k k) k ps ∧ Below w.heap.size w (wr.setCell ⟨w.heap.size, 0, none⟩ u)) := by
        intro u
        rw [Nat.sub_self, List.replicate_zero, List.append_nil, List.take_of_length_le (by rw [HPL.out]; exact Nat.le_refl _)] at hrow
        have z := row_off hrow (b := w.heap.size) (i := 0) u (by omega)
        obtain ⟨z1, z2⟩ := z
        refine ⟨⟨z1, ?_⟩, hb.setCell (Nat.le_refl _) _⟩
        rcases z2 with z2 | ⟨g, c, cur, e', hg, hrest⟩
        · exact .inl z2
        · exact .inr ⟨g, c, cur, e', by omega, hrest⟩
      clear hrow hb
      go_wp2_with fail
      exact bodyPost_ret (v := .agg #[.slice (some ⟨w.heap.size + 1, 0, none⟩) k k]) (by simp [results, Tryd.results51, go_sem, hc]) rfl ⟨⟨_, rfl, HO.out _ _ (HF.out _).1⟩, (HF.out _).2⟩
end Go.Proofs.YtlbagfaiiileoaaDoor
/-
  The program's two shelves of a store.
-/
namespace Go.Proofs.YtlbagfaiiileoaaDoor
open Go.ChangeShapes Go.WideShapes Go.ChangeAt Go.RowKit Go.Sort
theorem OwnP.off1 {w : World} {base : Nat} {v : Value} {l : List Hdl} (h : OwnP w base v l) {b i : Nat} (u : Value) (hb : b < base) : OwnP (w.setCell ⟨b, i, none⟩ u) base v l := row_off h u hb
theorem OwnP.lt {w : World} {base : Nat} {v : Value} {l : List Hdl} (h : OwnP w base v l) (q : Nat) (hq : v.ownBlock = some q) : q < w.heap.size := (World.ownsRow.lt h q hq).2
/-- TwoP rows of pointers, one's own and apart. -/
structure TwoP (w : World) (base : Nat) (v1 v2 : Value) (l1 l2 : List Hdl) : Prop where
  a : OwnP w base v1 l1
  b : OwnP w base v2 l2
  ne : v1.ownBlock = none ∨ v1.ownBlock ≠ v2.ownBlock
theorem TwoP.below {w w' : World} {base : Nat} {v1 v2 : Value} {l1 l2 : List Hdl} (h : TwoP w base v1 v2 l1 l2) (hb : Below w.heap.size w w') : TwoP w' base v1 v2 l1 l2 := ⟨h.a.below hb, h.b.below hb, h.ne⟩
theorem TwoP.off1 {w : World} {base : Nat} {v1 v2 : Value} {l1 l2 : List Hdl} (h : TwoP w base v1 v2 l1 l2) {b i : Nat} (u : Value) (hb : b < base) : TwoP (w.setCell ⟨b, i, none⟩ u) base v1 v2 l1 l2 := ⟨h.a.off1 u hb, h.b.off1 u hb, h.ne⟩
theorem TwoP.lower {w : World} {b0 base : Nat} {v1 v2 : Value} {l1 l2 : List Hdl} (h : TwoP w base v1 v2 l1 l2) (hb : b0 ≤ base) : TwoP w b0 v1 v2 l1 l2 := ⟨h.a.lower hb, h.b.lower hb, h.ne⟩
set_option maxRecDepth 100000 in
set_option maxHeartbeats 8000000 in
theorem shelvesOf_any (w : World) (bu gu : Int) (ta ka : Option Addr) (tc kc : Nat) (tl kl : List (Ent × EntR)) (hl : tl.length ≤ 1048576) (hk : kl.length ≤ 1048576) (ht : EntsIn w ta tl) (hq : EntsIn w ka kl) :
    Calls Tryd.prog 37 #[.agg #[.int .i64 bu, .int .i64 gu, .slice ta tl.length tc, .slice ka kl.length kc]] w fun e w' => (∃ v1 v2, e = .returned (.agg #[v1, v2]) ∧ TwoP w' w.heap.size v1 v2 (hdlsA ta tl) (hdlsA ka kl)) ∧ Below w.heap.size w w' := by
  have HC1 : Hid (∀ X, Below w.heap.size w X → Calls Tryd.prog 51 #[.slice ta tl.length tc] X fun e w' => (∃ v, e = .returned (.agg #[v]) ∧ OwnP w' X.heap.size v (hdlsA ta tl)) ∧ Below X.heap.size X w') := fun X hX => shelfOf_any X ta tc tl hl (ht.keep hX)
  have HC2 : Hid (∀ X, Below w.heap.size w X → Calls Tryd.prog 51 #[.slice ka kl.length kc] X fun e w' => (∃ v, e = .returned (.agg #[v]) ∧ OwnP w' X.heap.size v (hdlsA ka kl)) ∧ Below X.heap.size X w') := fun X hX => shelfOf_any X ka kc kl hk (hq.keep hX)
  obtain ⟨W, hW⟩ : ∃ W, W = (w.alloc (.cells #[.int .i64 bu, .int .i64 gu, .slice ta tl.length tc, .slice ka kl.length kc] 41)).alloc (.cells #[.slice none 0 0, .slice none 0 0] 76) := ⟨_, rfl⟩
  have HW : Hid (W = (w.alloc (.cells #[.int .i64 bu, .int .i64 gu, .slice ta tl.length tc, .slice ka kl.length kc] 41)).alloc (.cells #[.slice none 0 0, .slice none 0 0] 76)) := hW
  have K0 : Hid (Below w.heap.size w W ∧ S4 W w.heap.size (.int .i64 bu) (.int .i64 gu) (.slice ta tl.length tc) (.slice ka kl.length kc) ∧ (W.cell? ⟨w.heap.size + 1, 0, none⟩ = some (.slice none 0 0) ∧ W.cell? ⟨w.heap.size + 1, 1, none⟩ = some (.slice none 0 0) ∧ (∀ o, W.frozen? ⟨w.heap.size + 1, o, none⟩ = false)) ∧ W.heap.size = w.heap.size + 2) := by
    rw [hW]
    refine ⟨((Below.refl _ _).alloc (Nat.le_refl _) _).alloc (by simp) _, (S4.new w _ _ _ _ _).keep ((Below.refl _ _).alloc (Nat.le_refl _) _), ⟨by simp, by simp, fun o => by simp⟩, by simp⟩
  clear hW ht hq hl hk
  generalize tl.length = tn at *
  generalize kl.length = kn at *
  have HK : Hid (∀ X, Below W.heap.size W X → Below w.heap.size w X ∧ S4 X w.heap.size (.int .i64 bu) (.int .i64 gu) (.slice ta tn tc) (.slice ka kn kc) ∧ (X.cell? ⟨w.heap.size + 1, 0, none⟩ = some (.slice none 0 0) ∧ X.cell? ⟨w.heap.size + 1, 1, none⟩ = some (.slice none 0 0) ∧ (∀ o, X.frozen? ⟨w.heap.size + 1, o, none⟩ = false)) ∧ w.heap.size + 2 ≤ X.heap.size) := fun X hX => by
    have hs := K0.out.2.2.2
    have hz := hX.size
    refine ⟨K0.out.1.trans (hX.mono K0.out.1.size), K0.out.2.1.keep hX, ⟨?_, ?_, fun o => ?_⟩, by omega⟩
    · rw [hX.cell (p := ⟨w.heap.size + 1, 0, none⟩) (by simp only; omega)]; exact K0.out.2.2.1.1
    · rw [hX.cell (p := ⟨w.heap.size + 1, 1, none⟩) (by simp only; omega)]; exact K0.out.2.2.1.2.1
    · rw [hX.frozen (p := ⟨w.heap.size + 1, o, none⟩) (by simp only; omega)]; exact K0.out.2.2.1.2.2 o
  clear K0
  have HKS : Hid (∀ X, Below W.heap.size W X → (X.cell? ⟨w.heap.size, 2, none⟩ = some (.slice ta tn tc) ∧ X.cell? ⟨w.heap.size, 3, none⟩ = some (.slice ka kn kc))) := fun X hX => ⟨(HK.out X hX).2.1.c2, (HK.out X hX).2.1.c3⟩
  have HKT : Hid (∀ X u v, Below W.heap.size W X → (((X.setCell ⟨w.heap.size + 1, 0, none⟩ u).setCell ⟨w.heap.size + 1, 1, none⟩ v).cell? ⟨w.heap.size, 2, none⟩ = some (.slice ta tn tc) ∧ ((X.setCell ⟨w.heap.size + 1, 0, none⟩ u).setCell ⟨w.heap.size + 1, 1, none⟩ v).cell? ⟨w.heap.size, 3, none⟩ = some (.slice ka kn kc))) := fun X u v hX => ⟨(((HK.out X hX).2.1.off (by omega)).off (by omega)).c2, (((HK.out X hX).2.1.off (by omega)).off (by omega)).c3⟩
  have B0 : Hid (Below W.heap.size W W.drew) := (Below.refl _ _).drew
  go_enter Tryd.func37, Tryd.ntmps37
  go_wp2_with fail
  rw [← HW.out]
  clear HW
  go_region_held3 (fun X => X.cell? ⟨w.heap.size, 2, none⟩ = some (.slice ta tn tc) ∧ X.cell? ⟨w.heap.size, 3, none⟩ = some (.slice ka kn kc))
    (first | ((with_reducible refine HKS.out _ ?_); (with_reducible exact BB.out)) | ((with_reducible refine HKS.out _ ?_); (with_reducible exact BA.out)) | ((with_reducible refine HKS.out _ ?_); (with_reducible exact B0.out)) | ((with_reducible refine HKT.out _ _ _ ?_); (with_reducible exact BB.out)))
    (first
    | (go_at_call 51; have hBA := BA; refine (HC2.out _ (HK.out _ BA.out).1).mono ?_; rintro r0 wb ⟨⟨v2, rfl, ho2⟩, hbb⟩; obtain ⟨a2, k2, rfl, _⟩ := ho2.form; have BB : Hid (Below W.heap.size W wb) := BA.out.trans (hbb.mono BA.out.size); have TT : Hid (TwoP wb (w.heap.size + 2) _ (.slice a2 (hdlsA ka kl).length k2) (hdlsA ta tl) (hdlsA ka kl)) := ⟨OA.out.below hbb, ho2.lower (HK.out _ BA.out).2.2.2, (by
          cases e : Value.ownBlock _ with
          | none => exact .inl rfl
          | some q =>
            refine .inr fun e2 => ?_
            have h1 := OA.out.lt q e
            have h2 := own_geP ho2 q e2.symm
            omega)⟩; obtain ⟨c0, c1, cf⟩ := (HK.out _ BB.out).2.2.1; have cf0 := cf 0; have cf1 := cf 1; clear cf; clear hbb ho2 hBA)
    | (go_at_call 51; refine (HC1.out _ (HK.out _ B0.out).1).mono ?_; rintro r0 wa ⟨⟨v1, rfl, ho1⟩, hba⟩; obtain ⟨a1, k1, rfl, _⟩ := ho1.form; have BA : Hid (Below W.heap.size W wa) := B0.out.trans (hba.mono B0.out.size); have OA : Hid (OwnP wa (w.heap.size + 2) (.slice a1 (hdlsA ta tl).length k1) (hdlsA ta tl)) := ho1.lower (HK.out _ B0.out).2.2.2; clear hba ho1))
  all_goals
    have KZ : Hid (∀ u v, TwoP ((wb.setCell ⟨w.heap.size + 1, 0, none⟩ u).setCell ⟨w.heap.size + 1, 1, none⟩ v) w.heap.size (.slice a1 (hdlsA ta tl).length k1) (.slice a2 (hdlsA ka kl).length k2) (hdlsA ta tl) (hdlsA ka kl) ∧ Below w.heap.size w ((wb.setCell ⟨w.heap.size + 1, 0, none⟩ u).setCell ⟨w.heap.size + 1, 1, none⟩ v)) := fun u v => ⟨((TT.out.off1 u (by omega)).off1 v (by omega)).lower (by omega), ((HK.out _ BB.out).1.setCell (by simp) _).setCell (by simp) _⟩
    go_wp2_with fail
    exact bodyPost_ret (v := .agg #[.slice a1 (hdlsA ta tl).length k1, .slice a2 (hdlsA ka kl).length k2]) (by simp [results, Tryd.results37, go_sem, c0, c1]) rfl ⟨⟨_, _, rfl, (KZ.out _ _).1⟩, (KZ.out _ _).2⟩
end Go.Proofs.YtlbagfaiiileoaaDoor
/-
  Rows of pointers: slices.Grow of nothing, slices.Concat of two, and all of a store's shelves.
-/
namespace Go.Proofs.YtlbagfaiiileoaaDoor
open Go.ChangeShapes Go.WideShapes Go.ChangeAt Go.RowKit Go.Sort
theorem appendP_zero {P : Program} (w : World) (t ty e : TypeId) (i : TypeInfo) (ht : P.underlying t = some (.slice e)) (hi : P.info? e = some i) (base : Option Addr) (n k : Nat) (hle : n ≤ k) (pb : Option Addr) (c : Nat) :
    (Builtin.append_ #[t, t] ty #[.slice base n k, .slice pb 0 c]).run P w = .ok (.slice base n k) w := by
  cases base <;> cases pb <;> simp [Builtin.append_, run_underlying ht, sizeOf, typeInfo, hi, Builtin.lenOf, Builtin.firstCells, hle, storeCells, loadCells, loadCellsFrom]
theorem wpList_append_ptrs {ops : Array Oper} {rest : List Oper} {o : Oper} {a : Act} {Q : Exit → Act → World → Prop} (w : World) (hgd : o.guard = none) (s x : Operand)
    (ho : o.op = .call { callee := .builtin .append, args := #[s, x], argTypes := #[72, 72] })
    (base : Nat) (v : Value) (l0 : List Hdl) (b0 : Nat) (u : Value) (l : List Hdl)
    (hs : a.eval s = v) (hown : OwnP w base v l0) (hx : a.eval x = u) (hat : OwnP w b0 u l) (hl : l0.length + l.length ≤ 1000000) (hbase : base ≤ w.heap.size)
    (h : ∀ v' w', OwnP w' base v' (l0 ++ l) → Below base w w' → wpList Tryd.prog ops Q rest (a.put o.dst v') w') :
    wpList Tryd.prog ops Q (o :: rest) a w := by
  obtain ⟨i0, hi, hz0, hz1, hz2⟩ := info_parts infoPtr
  obtain ⟨va, vc, rfl, hle, _⟩ := hown.form
  obtain ⟨ua, uc, rfl, hle2, hf⟩ := hat.form
  rcases hf with e | ⟨g, rfl, _, _, hc⟩
  · subst e
    refine wpList_plain hgd fun K hK => ?_
    unfold Oper.wp execOp
    simp only [ho, resolve, invoke, builtin, Sem.run_bind, Sem.run_pure, Result.andThen_ok, List.map_toArray, List.map_cons, List.map_nil, hs, hx, List.length_nil]
    rw [appendP_zero w 72 _ 79 i0 Tryd.underlying72 hi va l0.length vc hle ua uc]
    exact hK _ _ (h _ w (by simpa using hown) (Below.refl _ _))
  · by_cases h0 : 0 < l.length
    · refine wpList_append_lies w hgd s x 72 ho base 79 i0 _ 1 8 Tryd.underlying72 hi hz0 hz1 hz2 rfl (by omega) _ l0.length (l0.map hP) hs hown ⟨g, 0, none⟩ l.length uc (l.map hP) hx (by simp) ?_ (ptr_one l) h0 (by unfold maxLen; omega) (by omega) hbase _ rfl ?_
      · intro j y hj
        rw [List.getElem?_map] at hj
        obtain ⟨k, hk, rfl⟩ := Option.map_eq_some_iff.1 hj
        have hadd : (⟨g, 0, none⟩ : Addr).add j = ⟨g, j, none⟩ := by unfold Addr.add; split <;> simp_all
        rw [hadd]
        exact hc j k hk
      · intro g' c w' h1 h2 h3 h4
        refine h _ w' ?_ ((Below.refl base w).grown h2 hbase (fun q hq => own_geP hown q hq))
        unfold OwnP
        rw [List.length_append, List.map_append]
        exact h1
    · have e : l = [] := List.eq_nil_of_length_eq_zero (by omega)
      subst e
      refine wpList_plain hgd fun K hK => ?_
      unfold Oper.wp execOp
      simp only [ho, resolve, invoke, builtin, Sem.run_bind, Sem.run_pure, Result.andThen_ok, List.map_toArray, List.map_cons, List.map_nil, hs, hx, List.length_nil]
      rw [appendP_zero w 72 _ 79 i0 Tryd.underlying72 hi va l0.length vc hle _ uc]
      exact hK _ _ (h _ w (by simpa using hown) (Below.refl _ _))
set_option maxHeartbeats 4000000 in
theorem growP_nil (w : World) (n : Nat) (hn : n ≤ 1048576) :
    Calls Tryd.prog 60 #[.slice none 0 0, .int .i64 (n : Int)] w fun e w' => (∃ v, e = .returned v ∧ OwnP w' w.heap.size v []) ∧ Below w.heap.size w w' := by
  by_cases h0 : n = 0
  · subst h0
    go_enter Tryd.func60, Tryd.ntmps60
    go_wp2_with fail
    go_ret
    exact ⟨⟨_, rfl, OwnP.nil _ _⟩, Below.refl _ _⟩
  · obtain ⟨i0, hi, hz0, hz1, hz2⟩ := info_parts infoPtr
    have g : (0 : Int) < (n : Int) := by omega
    have g2 : ¬ (n : Int) < 0 := by omega
    obtain ⟨c, hc⟩ : ∃ c, grownCap w n 0 79 = c := ⟨_, rfl⟩
    obtain ⟨ROW, hROW⟩ : ∃ R : Array Value, Builtin.zeroCells (Value.pointer none).cells n ++ Builtin.zeroCells (Value.pointer none).cells (c - n) = R := ⟨_, rfl⟩
    have hrz : ∀ ty, (Builtin.append_ #[72, 3] ty #[.slice none 0 0, .int .i64 (n : Int)]).run Tryd.prog w = .ok (.slice (some ⟨w.heap.size, 0, none⟩) n c) (w.drew.alloc (.cells ROW 79)) := fun ty => by
      have h := Lib.run_append_nil_zeros w 72 3 ty 79 i0 _ .i64 .i64 Tryd.underlying72 Tryd.underlying3 hi hz0 n (by omega) (by rw [hz1]; omega) (by omega) (by rw [hz2]; omega)
      rw [hc, hROW] at h
      exact h
    have hcn : n ≤ c := by rw [← hc]; exact grownCap_ge w _ _ _
    have hcm : c ≤ maxLen := by rw [← hc]; exact grownCap_le_maxLen w _ _ _ (by unfold maxLen; omega)
    have hsz : ROW.size = c * 1 := by
      rw [← hROW, Array.size_append, size_zeroCells, size_zeroCells]
      have : (Value.pointer none).cells.size = 1 := rfl
      rw [this]
      omega
    have HO : Hid (OwnP (w.drew.alloc (.cells ROW 79)) w.heap.size (.slice (some ⟨w.heap.size, 0, none⟩) 0 c) []) := World.ownsRow_made w.drew ROW c (Nat.le_refl _) hcm hsz
    have HB : Hid (Below w.heap.size w (w.drew.alloc (.cells ROW 79))) := ((Below.refl _ _).drew).alloc (Nat.le_refl _) _
    have gc : (0 : Int) ≤ (c : Int) := by omega
    clear hROW hc hsz hcn hcm hz0 hz1 hz2 hi
    go_enter Tryd.func60, Tryd.ntmps60
    go_wp2_with (at_builtin; refine Lib.wpList_append_run _ rfl (.tmp 20) (.tmp 21) _ _ rfl _ _ rfl rfl _ _ (hrz _) ?_)
    go_ret
    exact ⟨⟨_, rfl, HO.out⟩, HB.out⟩
end Go.Proofs.YtlbagfaiiileoaaDoor
/-
  slices.Concat of two rows of pointers, and all of a store's shelves.
-/
namespace Go.Proofs.YtlbagfaiiileoaaDoor
open Go.ChangeShapes Go.WideShapes Go.ChangeAt Go.RowKit Go.Sort
set_option maxRecDepth 100000 in
set_option maxHeartbeats 8000000 in
theorem concatP_any (w : World) (L : Nat) (v1 v2 : Value) (b1 b2 : Nat) (l1 l2 : List Hdl) (c0 : w.cell? ⟨L, 0, none⟩ = some v1) (c1 : w.cell? ⟨L, 1, none⟩ = some v2) (h1 : OwnP w b1 v1 l1) (h2 : OwnP w b2 v2 l2) (hl : l1.length + l2.length ≤ 1000000) :
    Calls Tryd.prog 52 #[.slice (some ⟨L, 0, none⟩) 2 2] w fun e w' => (∃ v, e = .returned v ∧ OwnP w' w.heap.size v (l1 ++ l2)) ∧ Below w.heap.size w w' := by
  have H1 : Hid (∀ X, Below w.heap.size w X → OwnP X b1 v1 l1 ∧ OwnP X b2 v2 l2 ∧ X.cell? ⟨L, 0, none⟩ = some v1 ∧ X.cell? ⟨L, 1, none⟩ = some v2) := fun X hX => by
    have hlt : L < w.heap.size := block_lt_of_cell c0
    exact ⟨h1.below hX, h2.below hX, by rw [hX.cell (p := ⟨L, 0, none⟩) hlt]; exact c0, by rw [hX.cell (p := ⟨L, 1, none⟩) hlt]; exact c1⟩
  have HG : Hid (∀ X (n : Nat), n ≤ 1048576 → Calls Tryd.prog 60 #[.slice none 0 0, .int .i64 (n : Int)] X fun e w' => (∃ v, e = .returned v ∧ OwnP w' X.heap.size v []) ∧ Below X.heap.size X w') := fun X n hn => growP_nil X n hn
  obtain ⟨a1, k1, e1, _⟩ := h1.form
  obtain ⟨a2, k2, e2, _⟩ := h2.form
  obtain ⟨n1, hn1⟩ : ∃ n, Hid (l1.length = n) := ⟨_, rfl⟩
  obtain ⟨n2, hn2⟩ : ∃ n, Hid (l2.length = n) := ⟨_, rfl⟩
  rw [hn1.out] at e1
  rw [hn2.out] at e2
  rw [hn1.out, hn2.out] at hl
  subst e1
  subst e2
  clear c0 c1 h1 h2
  go_enter Tryd.func52, Tryd.ntmps52
  go_wp2_with fail
  go_loopw [3, 11] (fun x i wr => wr = w ∧ ((i = .int .i64 0 ∧ x = .int .i64 0) ∨ (i = .int .i64 1 ∧ x = .int .i64 (n1 : Int)) ∨ (i = .int .i64 2 ∧ x = .int .i64 ((n1 : Int) + (n2 : Int))))) (fun _ i _ => 2 - (intOf i).toNat)
  case atStart => exact ⟨rfl, .inl ⟨rfl, rfl⟩⟩
  case round =>
    obtain ⟨rfl, hrel⟩ := hrel
    obtain ⟨_, _, p0, p1⟩ := H1.out _ (Below.refl _ _)
    rcases hrel with ⟨rfl, rfl⟩ | ⟨rfl, rfl⟩ | ⟨rfl, rfl⟩
    · have e1 : IntKind.i64.wrap (0 + (n1 : Int)) = (n1 : Int) := by unfold IntKind.wrap; simp [IntKind.signed, IntKind.bits]; omega
      have g : ¬ (n1 : Int) < 0 := by omega
      go_wp2_with fail
      go_roundw
      case rel => exact ⟨by trivial, .inr (.inl ⟨rfl, rfl⟩)⟩
      case measure => simp [intOf]
    · have e1 : IntKind.i64.wrap ((n1 : Int) + (n2 : Int)) = (n1 : Int) + (n2 : Int) := by unfold IntKind.wrap; simp [IntKind.signed, IntKind.bits]; omega
      have g : ¬ (n1 : Int) + (n2 : Int) < 0 := by omega
      go_wp2_with fail
      go_roundw
      case rel => exact ⟨by trivial, .inr (.inr ⟨rfl, rfl⟩)⟩
      case measure => simp [intOf]
    · have C := HG.out wr (n1 + n2) (by omega)
      rw [Int.natCast_add] at C
      go_wp2_with fail
      refine C.mono ?_
      rintro r w1 ⟨⟨v, rfl, ho⟩, hb1⟩
      obtain ⟨va, vc, rfl, _⟩ := ho.form
      simp only [List.length_nil] at ho ⊢
      have HB1 : Hid (Below wr.heap.size wr w1) := hb1
      have HO1 : Hid (OwnP w1 wr.heap.size (.slice va 0 vc) []) := ho
      clear C hb1 ho p0 p1
      go_wp2_with fail
      obtain ⟨wo, rfl⟩ : ∃ wo : World, wo = wr := ⟨_, rfl⟩
      go_loopw [6, 27] (fun x i wr => Below wo.heap.size wo wr ∧ ((i = .int .i64 0 ∧ OwnP wr wo.heap.size x []) ∨ (i = .int .i64 1 ∧ OwnP wr wo.heap.size x l1) ∨ (i = .int .i64 2 ∧ OwnP wr wo.heap.size x (l1 ++ l2)))) (fun _ i _ => 2 - (intOf i).toNat)
      case atStart => exact ⟨HB1.out, .inl ⟨rfl, HO1.out⟩⟩
      case round =>
        obtain ⟨hb, hrel⟩ := hrel
        obtain ⟨o1, o2, p0, p1⟩ := H1.out _ hb
        have HB : Hid (Below wo.heap.size wo wr) := hb
        clear HB1 HO1
        rcases hrel with ⟨rfl, ho⟩ | ⟨rfl, ho⟩ | ⟨rfl, ho⟩
        · go_wp2_with (at_builtin; refine wpList_append_ptrs _ rfl (.tmp 31) (.tmp 32) rfl wo.heap.size _ [] b1 _ l1 rfl ho rfl o1 (by rw [hn1.out]; simp; omega) HB.out.size ?_; intro v' w' ho' hb')
          go_roundw
          case rel => exact ⟨HB.out.trans hb', .inr (.inl ⟨rfl, ho'⟩)⟩
          case measure => simp [intOf]
        · go_wp2_with (at_builtin; refine wpList_append_ptrs _ rfl (.tmp 31) (.tmp 32) rfl wo.heap.size _ l1 b2 _ l2 rfl ho rfl o2 (by rw [hn1.out, hn2.out]; omega) HB.out.size ?_; intro v' w' ho' hb')
          go_roundw
          case rel => exact ⟨HB.out.trans hb', .inr (.inr ⟨rfl, ho'⟩)⟩
          case measure => simp [intOf]
        · go_wp2_with fail
          go_ret
          exact ⟨⟨_, rfl, ho⟩, HB.out⟩
set_option maxRecDepth 100000 in
set_option maxHeartbeats 8000000 in
theorem shAll_any (w : World) (v1 v2 : Value) (b : Nat) (l1 l2 : List Hdl) (h : TwoP w b v1 v2 l1 l2) (hl : l1.length + l2.length ≤ 1000000) :
    Calls Tryd.prog 38 #[.agg #[v1, v2]] w fun e w' => (∃ v, e = .returned v ∧ OwnP w' w.heap.size v (l1 ++ l2)) ∧ Below w.heap.size w w' := by
  obtain ⟨a1, k1, rfl, _⟩ := h.a.form
  obtain ⟨a2, k2, rfl, _⟩ := h.b.form
  have h1 := h.a
  have h2 := h.b
  clear h
  obtain ⟨n1, hn1⟩ : ∃ n, l1.length = n := ⟨_, rfl⟩
  obtain ⟨n2, hn2⟩ : ∃ n, l2.length = n := ⟨_, rfl⟩
  rw [hn1] at h1
  rw [hn2] at h2
  rw [hn1, hn2]
  obtain ⟨W, hW⟩ : ∃ W, W = (w.alloc (.cells #[.slice a1 n1 k1, .slice a2 n2 k2] 76)).alloc (.cells #[.slice a1 n1 k1, .slice a2 n2 k2] 72) := ⟨_, rfl⟩
  have HW : Hid (W = (w.alloc (.cells #[.slice a1 n1 k1, .slice a2 n2 k2] 76)).alloc (.cells #[.slice a1 n1 k1, .slice a2 n2 k2] 72)) := hW
  have bW : Below w.heap.size w W := by rw [hW]; exact ((Below.refl _ _).alloc (Nat.le_refl _) _).alloc (by simp) _
  have hs : W.heap.size = w.heap.size + 2 := by rw [hW]; simp
  have C : Hid (Calls Tryd.prog 52 #[.slice (some ⟨w.heap.size + 1, 0, none⟩) 2 2] W fun e w' => (∃ v, e = .returned v ∧ OwnP w' W.heap.size v (l1 ++ l2)) ∧ Below W.heap.size W w') := concatP_any W (w.heap.size + 1) (.slice a1 n1 k1) (.slice a2 n2 k2) b b l1 l2 (by rw [hW]; simp) (by rw [hW]; simp) (h1.below bW) (h2.below bW) hl
  have B0 : Hid (Below w.heap.size w W) := bW
  clear hW h1 h2 bW
  go_enter Tryd.func38, Tryd.ntmps38
  go_wp2_with fail
  rw [← HW.out]
  refine C.out.mono ?_
  rintro r w1 ⟨⟨v, rfl, ho⟩, hb1⟩
  have HB : Hid (Below w.heap.size w w1) := B0.out.trans (hb1.mono B0.out.size)
  have HO : Hid (OwnP w1 w.heap.size v (l1 ++ l2)) := ho.lower (by omega)
  clear hb1 ho C B0 HW
  go_wp2_with fail
  go_ret
  exact ⟨⟨_, rfl, HO.out⟩, HB.out⟩
end Go.Proofs.YtlbagfaiiileoaaDoor
/-
  Word bytes: the table, plainly. No Go in sight.
-/
namespace Go.Proofs.YtlbagfaiiileoaaDoor
def wordTab : List Bool := [false, false, false, false, false, false, false, false, false, false, false, false, false, false, false, false, false, false, false, false, false, false, false, false, false, false, false, false, false, false, false, false, false, true, false, true, true, true, true, true, false, false, true, true, false, true, true, false, true, true, true, true, true, true, true, true, true, true, false, false, false, false, false, false, false, true, true, true, true, true, true, true, true, true, true, true, true, true, true, true, true, true, true, true, true, true, true, true, true, true, true, false, false, false, true, true, false, true, true, true, true, true, true, true, true, true, true, true, true, true, true, true, true, true, true, true, true, true, true, true, true, true, true, false, true, false, true, false]
def wordI (c : Int) : Bool := wordTab.getD c.toNat false
theorem wordTab_len : wordTab.length = 128 := by decide +kernel
/-- One of the signs that are no letter and no digit. -/
def signI (c : Nat) : Bool := [33, 35, 36, 37, 38, 39, 42, 43, 45, 46, 94, 95, 124, 126].contains c
theorem table_all : ∀ c : Fin 256, wordTab.getD c.val false = (signI c.val || (decide (97 ≤ c.val) && decide (c.val ≤ 122)) || (decide (65 ≤ c.val) && decide (c.val ≤ 90)) || (decide (48 ≤ c.val) && decide (c.val ≤ 57))) := by decide +kernel
theorem wordI_eq (c : Int) (h0 : 0 ≤ c) (h1 : c < 256) : wordI c = (signI c.toNat || (decide (97 ≤ c) && decide (c ≤ 122)) || (decide (65 ≤ c) && decide (c ≤ 90)) || (decide (48 ≤ c) && decide (c ≤ 57))) := by
  obtain ⟨n, rfl⟩ := Int.eq_ofNat_of_zero_le h0
  have h2 : n < 256 := by omega
  have := table_all ⟨n, h2⟩
  simp only at this
  rw [wordI, Int.toNat_natCast, this]
  have e : ∀ a : Nat, decide (a ≤ n) = decide ((a : Int) ≤ (n : Int)) := fun a => by simp
  have e' : ∀ a : Nat, decide (n ≤ a) = decide ((n : Int) ≤ (a : Int)) := fun a => by simp
  simp only [e, e']
  rfl
theorem wordI_big (c : Int) (h : 128 ≤ c) : wordI c = false := by
  have hl := wordTab_len
  unfold wordI
  rw [List.getD_eq_getElem?_getD, List.getElem?_eq_none (by omega)]
  rfl
def allW (l : List UInt8) : Bool := l.all fun c => wordI (c.toNat : Int)
theorem allW_snoc (l : List UInt8) (c : UInt8) : allW (l ++ [c]) = (allW l && wordI (c.toNat : Int)) := by simp [allW]
theorem allW_of_take (l : List UInt8) (k : Nat) (h : allW (l.take k) = false) : allW l = false := by
  have e := List.take_append_drop k l
  rw [← e]
  simp only [allW] at h ⊢
  rw [List.all_append, h, Bool.false_and]
theorem allW_not (s : ByteArray) (k : Nat) (h : k < s.size) (hd : wordI (s[k].toNat : Int) = false) : allW s.data.toList = false := by
  refine allW_of_take _ (k + 1) ?_
  rw [take_snoc s k h, allW_snoc, hd, Bool.and_false]
def wordS (s : ByteArray) : Bool := decide (1 ≤ s.size) && decide (s.size ≤ 64) && allW s.data.toList
theorem wordS_short (s : ByteArray) (h : s.size < 1) : wordS s = false := by simp [wordS]; omega
theorem wordS_long (s : ByteArray) (h : 64 < s.size) : wordS s = false := by simp [wordS]; omega
theorem wordS_mid (s : ByteArray) (h1 : 1 ≤ s.size) (h2 : s.size ≤ 64) : wordS s = allW s.data.toList := by simp [wordS, h1, h2]
end Go.Proofs.YtlbagfaiiileoaaDoor
/-
  Quotes, plainly. No Go in sight.
-/
namespace Go.Proofs.YtlbagfaiiileoaaDoor
def plainI (c : Int) : Bool := c == 9 || (decide (32 ≤ c) && decide (c ≤ 126))
def plainL (l : List UInt8) : Bool := l.all fun c => plainI (c.toNat : Int)
theorem plainL_snoc (l : List UInt8) (c : UInt8) : plainL (l ++ [c]) = (plainL l && plainI (c.toNat : Int)) := by simp [plainL]
theorem plainL_of_take (l : List UInt8) (k : Nat) (h : plainL (l.take k) = false) : plainL l = false := by
  have e := List.take_append_drop k l
  rw [← e]
  simp only [plainL] at h ⊢
  rw [List.all_append, h, Bool.false_and]
theorem plainL_not (s : ByteArray) (k : Nat) (h : k < s.size) (hd : plainI (s[k].toNat : Int) = false) : plainL s.data.toList = false := by
  refine plainL_of_take _ (k + 1) ?_
  rw [take_snoc s k h, plainL_snoc, hd, Bool.and_false]
/-- One byte between quotes. -/
def quoteC (c : UInt8) : List UInt8 := if (c.toNat : Int) = 34 ∨ (c.toNat : Int) = 92 then [92, c] else [c]
def quoteB (l : List UInt8) : List UInt8 := l.flatMap quoteC
def quoteL (l : List UInt8) : List UInt8 := [34] ++ quoteB l ++ [34]
theorem quoteB_snoc (l : List UInt8) (c : UInt8) : quoteB (l ++ [c]) = quoteB l ++ quoteC c := by simp [quoteB]
theorem quoteC_yes {c : UInt8} (h : (c.toNat : Int) = 34 ∨ (c.toNat : Int) = 92) : quoteC c = [92, c] := by simp only [quoteC, if_pos h]
theorem quoteC_no {c : UInt8} (h : ¬ ((c.toNat : Int) = 34 ∨ (c.toNat : Int) = 92)) : quoteC c = [c] := by simp only [quoteC, if_neg h]
theorem quoteC_len (c : UInt8) : (quoteC c).length ≤ 2 := by unfold quoteC; split <;> simp
theorem quoteB_len (l : List UInt8) : (quoteB l).length ≤ 2 * l.length := by
  induction l with
  | nil => simp [quoteB]
  | cons c r ih =>
    have := quoteC_len c
    simp only [quoteB, List.flatMap_cons, List.length_append, List.length_cons] at ih ⊢
    omega
theorem quoteB_ge (l : List UInt8) : l.length ≤ (quoteB l).length := by
  induction l with
  | nil => simp
  | cons c r ih =>
    have : 1 ≤ (quoteC c).length := by unfold quoteC; split <;> simp
    simp only [quoteB, List.flatMap_cons, List.length_append, List.length_cons] at ih ⊢
    omega
/-- What stands between quotes, read from behind the first one; acc: what was taken. -/
def unq (acc : List UInt8) : List UInt8 → List UInt8 × Bool
  | [] => ([], false)
  | [c] => if (c.toNat : Int) = 34 then (acc, true) else ([], false)
  | c :: d :: r => if (c.toNat : Int) = 34 then (acc, false) else if (c.toNat : Int) = 92 then unq (acc ++ [d]) r else unq (acc ++ [c]) (d :: r)
/-- A text between quotes: what it tells, and whether it does. -/
def unqT (l : List UInt8) : List UInt8 × Bool := if 2 ≤ l.length ∧ l.head? = some 34 ∧ plainL l = true then unq [] l.tail else ([], false)
theorem unq_end (acc r : List UInt8) (c : UInt8) (h : (c.toNat : Int) = 34) : unq acc (c :: r) = (acc, decide (r = [])) := by
  cases r with
  | nil => rw [unq, if_pos h]; rfl
  | cons d r => rw [unq, if_pos h]; simp
theorem unq_cut (acc : List UInt8) (c : UInt8) (h : (c.toNat : Int) = 92) : unq acc [c] = ([], false) := by
  rw [unq, if_neg (by omega)]
theorem unq_esc (acc r : List UInt8) (c d : UInt8) (h : (c.toNat : Int) = 92) : unq acc (c :: d :: r) = unq (acc ++ [d]) r := by
  rw [unq, if_neg (by omega), if_pos h]
theorem unq_take (acc r : List UInt8) (c : UInt8) (h1 : ¬ (c.toNat : Int) = 34) (h2 : ¬ (c.toNat : Int) = 92) : unq acc (c :: r) = unq (acc ++ [c]) r := by
  cases r with
  | nil => simp only [unq, if_neg h1]
  | cons d r => rw [unq, if_neg h1, if_neg h2]
/-- What was quoted is read as it was. -/
theorem unq_quote (l : List UInt8) : ∀ acc, unq acc (quoteB l ++ [34]) = (acc ++ l, true) := by
  induction l with
  | nil => intro acc; rw [show quoteB [] ++ [34] = [34] from rfl, unq_end _ _ _ (by decide)]; simp
  | cons c r ih =>
    intro acc
    have e : quoteB (c :: r) ++ [34] = quoteC c ++ (quoteB r ++ [34]) := by simp [quoteB]
    rw [e]
    by_cases h : (c.toNat : Int) = 34 ∨ (c.toNat : Int) = 92
    · rw [quoteC_yes h]
      show unq acc (92 :: c :: (quoteB r ++ [34])) = _
      rw [unq_esc _ _ _ _ (by decide), ih]; simp
    · rw [quoteC_no h]
      show unq acc (c :: (quoteB r ++ [34])) = _
      rw [unq_take _ _ _ (by omega) (by omega), ih]; simp
theorem plain_quoteB (l : List UInt8) (h : plainL l = true) : plainL (quoteB l) = true := by
  induction l with
  | nil => rfl
  | cons c r ih =>
    simp only [plainL, List.all_cons, Bool.and_eq_true] at h
    have e : quoteB (c :: r) = quoteC c ++ quoteB r := by simp [quoteB]
    rw [e]
    simp only [plainL, List.all_append, Bool.and_eq_true]
    refine ⟨?_, ih h.2⟩
    unfold quoteC
    split
    · simp [h.1]; decide
    · simp [h.1]
theorem unqT_quote (l : List UInt8) (h : plainL l = true) : unqT (quoteL l) = (l, true) := by
  have hp : plainL (quoteL l) = true := by
    simp only [quoteL, plainL, List.all_append, Bool.and_eq_true]
    exact ⟨⟨by decide, plain_quoteB l h⟩, by decide⟩
  unfold unqT
  rw [if_pos ⟨by simp [quoteL], rfl, hp⟩]
  show unq [] (quoteB l ++ [34]) = _
  rw [unq_quote]; simp
end Go.Proofs.YtlbagfaiiileoaaDoor
/-
  Blanks at both ends: plainly. No Go in sight.
-/
namespace Go.Proofs.YtlbagfaiiileoaaDoor
def blankI (c : Int) : Bool := c == 32 || c == 9
def trimT (s : ByteArray) : ByteArray := ⟨(Lib.trimS s.data.toList [32, 9]).toArray⟩
theorem contains_blank (b : UInt8) : [(32 : UInt8), 9].contains b = blankI (b.toNat : Int) := by
  rw [Bool.eq_iff_iff]
  simp [blankI, List.contains_eq_mem]
  constructor
  · rintro (rfl | rfl) <;> simp
  · rintro (h | h)
    · exact .inl (UInt8.toNat_inj.1 (by simpa using (by omega : b.toNat = 32)))
    · exact .inr (UInt8.toNat_inj.1 (by simpa using (by omega : b.toNat = 9)))
theorem trim_between (l : List UInt8) (k m : Nat) (hkm : k ≤ m) (hm : m ≤ l.length)
    (h1 : ∀ (j : Nat) b, j < k → l[j]? = some b → blankI (b.toNat : Int) = true) (h2 : ∀ b, k < l.length → l[k]? = some b → blankI (b.toNat : Int) = false)
    (h3 : ∀ (j : Nat) b, m ≤ j → l[j]? = some b → blankI (b.toNat : Int) = true) (h4 : ∀ b, k < m → l[m - 1]? = some b → blankI (b.toNat : Int) = false) :
    Lib.trimS l [32, 9] = (l.take m).drop k := by
  by_cases e : k < m
  · have er : Lib.trimRightS l [32, 9] = l.take m := by
      refine Lib.trimRightS_take l _ m hm (fun j b hj hb => ?_) (fun b _ hb => ?_)
      · rw [contains_blank]; exact h3 j b hj hb
      · rw [contains_blank]; exact h4 b e hb
    unfold Lib.trimS
    rw [er]
    refine Lib.trimLeftS_drop _ _ k (by simp; omega) (fun j b hj hb => ?_) (fun b hb => ?_)
    · rw [List.getElem?_take_of_lt (by omega)] at hb
      rw [contains_blank]; exact h1 j b hj hb
    · rw [List.getElem?_take_of_lt (by omega)] at hb
      rw [contains_blank]; exact h2 b (by omega) hb
  · obtain rfl : k = m := by omega
    have ek : k = l.length := by
      by_cases c : k < l.length
      · have a := h2 _ c (List.getElem?_eq_getElem c)
        have b := h3 k _ (Nat.le_refl _) (List.getElem?_eq_getElem c)
        rw [a] at b; cases b
      · omega
    have er : Lib.trimRightS l [32, 9] = l.take 0 := by
      refine Lib.trimRightS_take l _ 0 (Nat.zero_le _) (fun j b _ hb => ?_) (fun b h0 _ => absurd h0 (by omega))
      have hj : j < l.length := (List.getElem?_eq_some_iff.1 hb).1
      rw [contains_blank]; exact h1 j b (by omega) hb
    unfold Lib.trimS
    rw [er]
    simp [Lib.trimLeftS, ek]
theorem trim_extract (s : ByteArray) (k m : Nat) (h : Lib.trimS s.data.toList [32, 9] = (s.data.toList.take m).drop k) : s.extract k m = trimT s := by
  apply ByteArray.ext
  unfold trimT
  rw [h]
  apply Array.ext'
  simp [List.drop_take]
end Go.Proofs.YtlbagfaiiileoaaDoor
/-
  What the model's l1Lower answers.
-/
namespace Go.Proofs.YtlbagfaiiileoaaDoor
open Go.ChangeShapes Go.WideShapes Go.ChangeAt Go.RowKit
def lowS (s : ByteArray) : ByteArray := ⟨(s.data.toList.map lowU).toArray⟩
end Go.Proofs.YtlbagfaiiileoaaDoor
/-
  Head lines, plainly: their faults, their text, how they are found, set and dropped. No Go in sight.
-/
namespace Go.Proofs.YtlbagfaiiileoaaDoor
def faultH (r : Hdr) : Int := if wordS r.name = false then 5 else if 200 < r.value.size then 2 else if plainL r.value.data.toList = false then 5 else if trimT r.value = r.value then 0 else 5
def faultHL : List Hdr → Int
  | [] => 0
  | r :: l => if faultH r = 0 then faultHL l else faultH r
theorem faultHL_ok {r : Hdr} {l : List Hdr} (h : faultH r = 0) : faultHL (r :: l) = faultHL l := by rw [faultHL, if_pos h]
theorem faultHL_bad {r : Hdr} {l : List Hdr} (h : faultH r ≠ 0) : faultHL (r :: l) = faultH r := by rw [faultHL, if_neg h]
def headsC (l : List Hdr) : Int := if 20 < l.length then 2 else faultHL l
theorem headsC_many {l : List Hdr} (h : 20 < l.length) : headsC l = 2 := by unfold headsC; rw [if_pos h]
theorem headsC_few {l : List Hdr} (h : ¬ 20 < l.length) : headsC l = faultHL l := by unfold headsC; rw [if_neg h]
theorem faultH_zero {r : Hdr} (h : faultH r = 0) : wordS r.name = true ∧ r.value.size ≤ 200 ∧ plainL r.value.data.toList = true ∧ trimT r.value = r.value := by
  unfold faultH at h
  by_cases c1 : wordS r.name = false
  · rw [if_pos c1] at h; omega
  rw [if_neg c1] at h
  by_cases c2 : 200 < r.value.size
  · rw [if_pos c2] at h; omega
  rw [if_neg c2] at h
  by_cases c3 : plainL r.value.data.toList = false
  · rw [if_pos c3] at h; omega
  rw [if_neg c3] at h
  by_cases c4 : trimT r.value = r.value
  · exact ⟨by simpa using c1, by omega, by simpa using c3, c4⟩
  · rw [if_neg c4] at h; omega
theorem faultHL_zero (l : List Hdr) (h : faultHL l = 0) : ∀ (i : Nat) r, l[i]? = some r → faultH r = 0 := by
  induction l with
  | nil => intro i r hr; simp at hr
  | cons x l ih =>
    intro i r hr
    by_cases c : faultH x = 0
    · rw [faultHL_ok c] at h
      cases i with
      | zero => simp at hr; subst hr; exact c
      | succ i => exact ih h i r (by simpa using hr)
    · rw [faultHL_bad c] at h; exact absurd h c
theorem faultHL_of (l : List Hdr) (h : ∀ r ∈ l, faultH r = 0) : faultHL l = 0 := by
  induction l with
  | nil => rfl
  | cons x l ih => rw [faultHL_ok (h x (by simp))]; exact ih fun r hr => h r (by simp [hr])
theorem headsC_zero {l : List Hdr} (h : headsC l = 0) : l.length ≤ 20 ∧ ∀ (i : Nat) r, l[i]? = some r → faultH r = 0 := by
  by_cases c : 20 < l.length
  · rw [headsC_many c] at h; omega
  · rw [headsC_few c] at h; exact ⟨by omega, faultHL_zero l h⟩
theorem hword_max {s : ByteArray} (h : wordS s = true) : s.size ≤ 64 := by
  by_cases c : 64 < s.size
  · rw [wordS_long s c] at h; cases h
  · omega
theorem take_hdr {l : List Hdr} {k : Nat} {r : Hdr} (h : l[k]? = some r) : l.take (k + 1) = l.take k ++ [r] := by rw [List.take_add_one, h]; rfl
theorem happ_list (a b : ByteArray) : (a ++ b).data.toList = a.data.toList ++ b.data.toList := by simp
theorem hof_list {a : ByteArray} {l : List UInt8} (h : a.data.toList = l) : a = ⟨l.toArray⟩ := by subst h; cases a; simp
theorem hret_ct {a b : Int} {s t : ByteArray} (h : a = b ∧ s = t) : Ending.returned (.agg #[.int .i64 b, .string t]) = .returned (.agg #[.int .i64 a, .string s]) := by rw [h.1, h.2]
/-! ### their text -/
def lineL (r : Hdr) : List UInt8 := r.name.data.toList ++ [58, 32] ++ r.value.data.toList ++ [13, 10]
def packL (l : List Hdr) : List UInt8 := l.flatMap lineL
theorem packL_take {l : List Hdr} {k : Nat} {r : Hdr} (h : l[k]? = some r) : packL (l.take (k + 1)) = packL (l.take k) ++ lineL r := by rw [take_hdr h]; simp [packL]
theorem lineL_len {r : Hdr} (h : faultH r = 0) : (lineL r).length ≤ 268 := by
  obtain ⟨h1, h2, _⟩ := faultH_zero h
  have := hword_max h1
  have e1 : r.name.data.toList.length = r.name.size := by simp
  have e2 : r.value.data.toList.length = r.value.size := by simp
  simp only [lineL, List.length_append, List.length_cons, List.length_nil]
  omega
def packT (l : List Hdr) : ByteArray := if headsC l = 0 then ⟨(packL l).toArray⟩ else ⟨#[]⟩
theorem packT_ok {l : List Hdr} (h : headsC l = 0) : packT l = ⟨(packL l).toArray⟩ := by unfold packT; rw [if_pos h]
theorem packT_bad {l : List Hdr} (h : headsC l ≠ 0) : packT l = ⟨#[]⟩ := by unfold packT; rw [if_neg h]
/-! ### names that are alike -/
def askC (l : List Hdr) (name : ByteArray) : Int := if headsC l = 0 then (if wordS name = true then 0 else 5) else headsC l
theorem askC_bad {l : List Hdr} {name : ByteArray} (h : headsC l ≠ 0) : askC l name = headsC l := by unfold askC; rw [if_neg h]
theorem askC_word {l : List Hdr} {name : ByteArray} (h : headsC l = 0) (hw : wordS name = true) : askC l name = 0 := by unfold askC; rw [if_pos h, if_pos hw]
theorem askC_text {l : List Hdr} {name : ByteArray} (h : headsC l = 0) (hw : wordS name = false) : askC l name = 5 := by unfold askC; rw [if_pos h, if_neg (by rw [hw]; decide)]
theorem askC_zero {l : List Hdr} {name : ByteArray} (h : askC l name = 0) : headsC l = 0 ∧ wordS name = true := by
  by_cases c : headsC l = 0
  · cases hw : wordS name
    · rw [askC_text c hw] at h; omega
    · exact ⟨c, rfl⟩
  · rw [askC_bad c] at h; exact absurd h c
/-- The values of all lines whose name, in small letters, is x. -/
def valsOf (x : ByteArray) (l : List Hdr) : List ByteArray := (l.filter fun r => decide (lowS r.name = x)).map (·.value)
theorem valsOf_yes {x : ByteArray} {r : Hdr} (l : List Hdr) (h : lowS r.name = x) : valsOf x (l ++ [r]) = valsOf x l ++ [r.value] := by simp [valsOf, h]
theorem valsOf_no {x : ByteArray} {r : Hdr} (l : List Hdr) (h : ¬ lowS r.name = x) : valsOf x (l ++ [r]) = valsOf x l := by simp [valsOf, h]
def hjoinL (vs : List ByteArray) : List UInt8 := Lib.join (vs.map (·.data.toList)) [44, 32]
theorem hjoinL_snoc (vs : List ByteArray) (v : ByteArray) : hjoinL (vs ++ [v]) = hjoinL vs ++ (if vs = [] then [] else [44, 32]) ++ v.data.toList := by
  unfold hjoinL
  cases vs with
  | nil => simp [Lib.join, List.intercalate]
  | cons a r =>
    rw [List.map_append, List.map_cons, List.cons_append, Lib.join_cons, Lib.join_cons]
    simp [Lib.joinTail]
def joinC (l : List Hdr) (name : ByteArray) : Int := if askC l name = 0 then (if valsOf (lowS name) l = [] then 4 else 0) else askC l name
def joinT (l : List Hdr) (name : ByteArray) : ByteArray := if joinC l name = 0 then ⟨(hjoinL (valsOf (lowS name) l)).toArray⟩ else ⟨#[]⟩
theorem join_bad {l : List Hdr} {name : ByteArray} (h : askC l name ≠ 0) : joinC l name = askC l name ∧ joinT l name = ⟨#[]⟩ := by
  have e : joinC l name = askC l name := by unfold joinC; rw [if_neg h]
  exact ⟨e, by unfold joinT; rw [if_neg (by rw [e]; exact h)]⟩
theorem join_none {l : List Hdr} {name : ByteArray} (h : askC l name = 0) (hv : valsOf (lowS name) l = []) : joinC l name = 4 ∧ joinT l name = ⟨#[]⟩ := by
  have e : joinC l name = 4 := by unfold joinC; rw [if_pos h, if_pos hv]
  exact ⟨e, by unfold joinT; rw [if_neg (by rw [e]; decide)]⟩
theorem join_some {l : List Hdr} {name : ByteArray} (h : askC l name = 0) (hv : valsOf (lowS name) l ≠ []) : joinC l name = 0 ∧ joinT l name = ⟨(hjoinL (valsOf (lowS name) l)).toArray⟩ := by
  have e : joinC l name = 0 := by unfold joinC; rw [if_pos h, if_neg hv]
  exact ⟨e, by unfold joinT; rw [if_pos e]⟩
/-- What is left without the lines whose name, in small letters, is x. -/
def dropH (x : ByteArray) (l : List Hdr) : List Hdr := l.filter fun r => decide (¬ lowS r.name = x)
theorem dropH_yes {x : ByteArray} {r : Hdr} (l : List Hdr) (h : lowS r.name = x) : dropH x (l ++ [r]) = dropH x l := by simp [dropH, h]
theorem dropH_no {x : ByteArray} {r : Hdr} (l : List Hdr) (h : ¬ lowS r.name = x) : dropH x (l ++ [r]) = dropH x l ++ [r] := by simp [dropH, h]
theorem dropH_len (x : ByteArray) (l : List Hdr) : (dropH x l).length ≤ l.length := List.length_filter_le _ _
def dropL (l : List Hdr) (name : ByteArray) : List Hdr := if askC l name = 0 then dropH (lowS name) l else []
/-- Where the first line of that name stands. -/
def firstAt (x : ByteArray) : List Hdr → Option Nat
  | [] => none
  | r :: l => if lowS r.name = x then some 0 else (firstAt x l).map (· + 1)
theorem firstAt_none {x : ByteArray} : ∀ {l : List Hdr}, firstAt x l = none → ∀ r ∈ l, ¬ lowS r.name = x
  | [], _, r, hr => by simp at hr
  | y :: l, h, r, hr => by
    by_cases c : lowS y.name = x
    · rw [firstAt, if_pos c] at h; cases h
    · rw [firstAt, if_neg c] at h
      rcases List.mem_cons.1 hr with rfl | hr
      · exact c
      · exact firstAt_none (Option.map_eq_none_iff.1 h) r hr
theorem firstAt_lt {x : ByteArray} : ∀ {l : List Hdr} {i : Nat}, firstAt x l = some i → i < l.length
  | [], i, h => by simp [firstAt] at h
  | y :: l, i, h => by
    by_cases c : lowS y.name = x
    · rw [firstAt, if_pos c] at h; obtain rfl := Option.some.inj h; simp
    · rw [firstAt, if_neg c] at h
      obtain ⟨j, hj, rfl⟩ := Option.map_eq_some_iff.1 h
      have := firstAt_lt hj
      simp only [List.length_cons]; omega
theorem firstAt_snoc {x : ByteArray} (r : Hdr) : ∀ (l : List Hdr), firstAt x (l ++ [r]) = match firstAt x l with | some i => some i | none => if lowS r.name = x then some l.length else none
  | [] => by simp [firstAt]
  | y :: l => by
    by_cases c : lowS y.name = x
    · simp [firstAt, c]
    · simp only [List.cons_append, firstAt, if_neg c]
      rw [firstAt_snoc r l]
      cases firstAt x l with
      | some i => rfl
      | none => simp only [Option.map_none]; split <;> simp
theorem valsOf_first {x : ByteArray} : ∀ {l : List Hdr}, valsOf x l = [] ↔ firstAt x l = none
  | [] => by simp [valsOf, firstAt]
  | y :: l => by
    by_cases c : lowS y.name = x
    · simp [valsOf, firstAt, c]
    · have := @valsOf_first x l
      simp only [valsOf] at this
      simp only [valsOf, firstAt, List.filter_cons, c, decide_false, Bool.false_eq_true, if_false, this, Option.map_eq_none_iff]
theorem valsOf_drop {x : ByteArray} : ∀ {l : List Hdr} {i : Nat}, firstAt x l = some i → valsOf x (l.drop i) = valsOf x l ∧ valsOf x (l.take i) = []
  | [], i, h => by simp [firstAt] at h
  | y :: l, i, h => by
    by_cases c : lowS y.name = x
    · rw [firstAt, if_pos c] at h; obtain rfl := Option.some.inj h; simp [valsOf]
    · rw [firstAt, if_neg c] at h
      obtain ⟨j, hj, rfl⟩ := Option.map_eq_some_iff.1 h
      have := valsOf_drop hj
      simp only [valsOf] at this
      simp only [valsOf, List.drop_succ_cons, List.take_succ_cons, List.filter_cons, c, decide_false, Bool.false_eq_true, if_false]
      exact this
/-- A line set. -/
def setGo (h : Hdr) : Bool → List Hdr → List Hdr
  | done, [] => if done = true then [] else [h]
  | done, r :: l => if lowS r.name = lowS h.name then (if done = true then setGo h true l else h :: setGo h true l) else r :: setGo h done l
theorem setGo_done (h : Hdr) : ∀ l : List Hdr, setGo h true l = dropH (lowS h.name) l
  | [] => by simp [setGo, dropH]
  | r :: l => by
    have ih := setGo_done h l
    by_cases c : lowS r.name = lowS h.name
    · simp only [setGo, if_true, ih, dropH, List.filter_cons, c, not_true_eq_false, decide_false, Bool.false_eq_true, if_false]
    · simp [setGo, ih, dropH, c]
theorem setGo_first (h : Hdr) : ∀ (l : List Hdr), setGo h false l = match firstAt (lowS h.name) l with
    | some i => (dropH (lowS h.name) l).take i ++ [h] ++ (dropH (lowS h.name) l).drop i
    | none => dropH (lowS h.name) l ++ [h]
  | [] => by simp [setGo, firstAt, dropH]
  | r :: l => by
    have ih := setGo_first h l
    by_cases c : lowS r.name = lowS h.name
    · simp only [setGo, firstAt, setGo_done, dropH, List.filter_cons, c, not_true_eq_false, decide_false, Bool.false_eq_true, if_false]
      simp
    · simp only [setGo, if_neg c, firstAt]
      rw [ih]
      have e : dropH (lowS h.name) (r :: l) = r :: dropH (lowS h.name) l := by simp [dropH, c]
      rw [e]
      cases firstAt (lowS h.name) l with
      | none => simp
      | some i => simp
theorem dropH_all {x : ByteArray} {l : List Hdr} (h : firstAt x l = none) : dropH x l = l := by
  unfold dropH
  rw [List.filter_eq_self]
  intro r hr
  simpa using firstAt_none h r hr
theorem setGo_len (h : Hdr) (l : List Hdr) : (setGo h false l).length = match firstAt (lowS h.name) l with | some _ => (dropH (lowS h.name) l).length + 1 | none => l.length + 1 := by
  rw [setGo_first]
  cases c : firstAt (lowS h.name) l with
  | none => simp [dropH_all c]
  | some i =>
    simp only [List.length_append, List.length_cons, List.length_nil, List.length_take, List.length_drop]
    omega
theorem dropH_lt {x : ByteArray} {i : Nat} : ∀ {l : List Hdr}, firstAt x l = some i → (dropH x l).length < l.length
  | [], h => by simp [firstAt] at h
  | r :: l, h => by
    by_cases c : lowS r.name = x
    · have := dropH_len x l
      simp only [dropH] at this
      simp only [dropH, List.filter_cons, c, not_true_eq_false, decide_false, Bool.false_eq_true, if_false, List.length_cons]
      omega
    · rw [firstAt, if_neg c] at h
      obtain ⟨j, hj, rfl⟩ := Option.map_eq_some_iff.1 h
      have := dropH_lt hj
      simp only [dropH] at this
      simp only [dropH, List.filter_cons, c, not_false_eq_true, decide_true, if_true, List.length_cons]
      omega
def setC (l : List Hdr) (h : Hdr) : Int := if askC l h.name = 0 then (if faultH h = 0 then (if 20 < (setGo h false l).length then 2 else 0) else faultH h) else askC l h.name
def setL (l : List Hdr) (h : Hdr) : List Hdr := if setC l h = 0 then setGo h false l else []
end Go.Proofs.YtlbagfaiiileoaaDoor
/-
  What the model's l1WordByte answers at any byte.
-/
namespace Go.Proofs.YtlbagfaiiileoaaDoor
open Go.ChangeShapes Go.WideShapes Go.ChangeAt Go.RowKit
set_option maxHeartbeats 400000 in
theorem wordByte_33 (w : World) :
    Calls Tryd.prog 36 #[.int .u8 33] w fun e w' => e = .returned (.bool (wordI 33)) ∧ w' = w := by
  have W : wordI 33 = true := by decide +kernel
  rw [W]
  clear W
  go_enter Tryd.func36, Tryd.ntmps36
  go_wp2
  go_ret
  exact ⟨rfl, rfl⟩
set_option maxHeartbeats 400000 in
theorem wordByte_35 (w : World) :
    Calls Tryd.prog 36 #[.int .u8 35] w fun e w' => e = .returned (.bool (wordI 35)) ∧ w' = w := by
  have W : wordI 35 = true := by decide +kernel
  rw [W]
  clear W
  go_enter Tryd.func36, Tryd.ntmps36
  go_wp2
  go_ret
  exact ⟨rfl, rfl⟩
set_option maxHeartbeats 400000 in
theorem wordByte_36 (w : World) :
    Calls Tryd.prog 36 #[.int .u8 36] w fun e w' => e = .returned (.bool (wordI 36)) ∧ w' = w := by
  have W : wordI 36 = true := by decide +kernel
  rw [W]
  clear W
  go_enter Tryd.func36, Tryd.ntmps36
  go_wp2
  go_ret
  exact ⟨rfl, rfl⟩
set_option maxHeartbeats 400000 in
theorem wordByte_37 (w : World) :
    Calls Tryd.prog 36 #[.int .u8 37] w fun e w' => e = .returned (.bool (wordI 37)) ∧ w' = w := by
  have W : wordI 37 = true := by decide +kernel
  rw [W]
  clear W
  go_enter Tryd.func36, Tryd.ntmps36
  go_wp2
  go_ret
  exact ⟨rfl, rfl⟩
set_option maxHeartbeats 400000 in
theorem wordByte_38 (w : World) :
    Calls Tryd.prog 36 #[.int .u8 38] w fun e w' => e = .returned (.bool (wordI 38)) ∧ w' = w := by
  have W : wordI 38 = true := by decide +kernel
  rw [W]
  clear W
  go_enter Tryd.func36, Tryd.ntmps36
  go_wp2
  go_ret
  exact ⟨rfl, rfl⟩
set_option maxHeartbeats 400000 in
theorem wordByte_39 (w : World) :
    Calls Tryd.prog 36 #[.int .u8 39] w fun e w' => e = .returned (.bool (wordI 39)) ∧ w' = w := by
  have W : wordI 39 = true := by decide +kernel
  rw [W]
  clear W
  go_enter Tryd.func36, Tryd.ntmps36
  go_wp2
  go_ret
  exact ⟨rfl, rfl⟩
set_option maxHeartbeats 400000 in
theorem wordByte_42 (w : World) :
    Calls Tryd.prog 36 #[.int .u8 42] w fun e w' => e = .returned (.bool (wordI 42)) ∧ w' = w := by
  have W : wordI 42 = true := by decide +kernel
  rw [W]
  clear W
  go_enter Tryd.func36, Tryd.ntmps36
  go_wp2
  go_ret
  exact ⟨rfl, rfl⟩
set_option maxHeartbeats 400000 in
theorem wordByte_43 (w : World) :
    Calls Tryd.prog 36 #[.int .u8 43] w fun e w' => e = .returned (.bool (wordI 43)) ∧ w' = w := by
  have W : wordI 43 = true := by decide +kernel
  rw [W]
  clear W
  go_enter Tryd.func36, Tryd.ntmps36
  go_wp2
  go_ret
  exact ⟨rfl, rfl⟩
set_option maxHeartbeats 400000 in
theorem wordByte_45 (w : World) :
    Calls Tryd.prog 36 #[.int .u8 45] w fun e w' => e = .returned (.bool (wordI 45)) ∧ w' = w := by
  have W : wordI 45 = true := by decide +kernel
  rw [W]
  clear W
  go_enter Tryd.func36, Tryd.ntmps36
  go_wp2
  go_ret
  exact ⟨rfl, rfl⟩
set_option maxHeartbeats 400000 in
theorem wordByte_46 (w : World) :
    Calls Tryd.prog 36 #[.int .u8 46] w fun e w' => e = .returned (.bool (wordI 46)) ∧ w' = w := by
  have W : wordI 46 = true := by decide +kernel
  rw [W]
  clear W
  go_enter Tryd.func36, Tryd.ntmps36
  go_wp2
  go_ret
  exact ⟨rfl, rfl⟩
set_option maxHeartbeats 400000 in
theorem wordByte_94 (w : World) :
    Calls Tryd.prog 36 #[.int .u8 94] w fun e w' => e = .returned (.bool (wordI 94)) ∧ w' = w := by
  have W : wordI 94 = true := by decide +kernel
  rw [W]
  clear W
  go_enter Tryd.func36, Tryd.ntmps36
  go_wp2
  go_ret
  exact ⟨rfl, rfl⟩
set_option maxHeartbeats 400000 in
theorem wordByte_95 (w : World) :
    Calls Tryd.prog 36 #[.int .u8 95] w fun e w' => e = .returned (.bool (wordI 95)) ∧ w' = w := by
  have W : wordI 95 = true := by decide +kernel
  rw [W]
  clear W
  go_enter Tryd.func36, Tryd.ntmps36
  go_wp2
  go_ret
  exact ⟨rfl, rfl⟩
set_option maxHeartbeats 400000 in
theorem wordByte_124 (w : World) :
    Calls Tryd.prog 36 #[.int .u8 124] w fun e w' => e = .returned (.bool (wordI 124)) ∧ w' = w := by
  have W : wordI 124 = true := by decide +kernel
  rw [W]
  clear W
  go_enter Tryd.func36, Tryd.ntmps36
  go_wp2
  go_ret
  exact ⟨rfl, rfl⟩
set_option maxHeartbeats 400000 in
theorem wordByte_126 (w : World) :
    Calls Tryd.prog 36 #[.int .u8 126] w fun e w' => e = .returned (.bool (wordI 126)) ∧ w' = w := by
  have W : wordI 126 = true := by decide +kernel
  rw [W]
  clear W
  go_enter Tryd.func36, Tryd.ntmps36
  go_wp2
  go_ret
  exact ⟨rfl, rfl⟩
set_option maxHeartbeats 1000000 in
theorem wordByte_else (c : Int) (w : World) (h0 : 0 ≤ c) (h1 : c < 256) (hs : signI c.toNat = false) :
    Calls Tryd.prog 36 #[.int .u8 c] w fun e w' => e = .returned (.bool (wordI c)) ∧ w' = w := by
  have HE : Hid (wordI c = ((decide (97 ≤ c) && decide (c ≤ 122)) || (decide (65 ≤ c) && decide (c ≤ 90)) || (decide (48 ≤ c) && decide (c ≤ 57)))) := by
    show _ = _
    rw [wordI_eq c h0 h1, hs, Bool.false_or]
  obtain ⟨n, rfl⟩ := Int.eq_ofNat_of_zero_le h0
  simp only [Int.toNat_natCast, signI, List.contains_eq_mem, List.mem_cons, List.not_mem_nil, or_false, decide_eq_false_iff_not, not_or] at hs
  obtain ⟨s0, s1, s2, s3, s4, s5, s6, s7, s8, s9, s10, s11, s12, s13⟩ := hs
  have t0 : ((n : Int) == 33) = false := by simp; omega
  have t1 : ((n : Int) == 35) = false := by simp; omega
  have t2 : ((n : Int) == 36) = false := by simp; omega
  have t3 : ((n : Int) == 37) = false := by simp; omega
  have t4 : ((n : Int) == 38) = false := by simp; omega
  have t5 : ((n : Int) == 39) = false := by simp; omega
  have t6 : ((n : Int) == 42) = false := by simp; omega
  have t7 : ((n : Int) == 43) = false := by simp; omega
  have t8 : ((n : Int) == 45) = false := by simp; omega
  have t9 : ((n : Int) == 46) = false := by simp; omega
  have t10 : ((n : Int) == 94) = false := by simp; omega
  have t11 : ((n : Int) == 95) = false := by simp; omega
  have t12 : ((n : Int) == 124) = false := by simp; omega
  have t13 : ((n : Int) == 126) = false := by simp; omega
  clear s0 s1 s2 s3 s4 s5 s6 s7 s8 s9 s10 s11 s12 s13
  generalize (n : Int) = c at *
  clear n
  have key : ∀ b : Bool, wordI c = b → Ending.returned (.bool b) = .returned (.bool (wordI c)) := fun b h => by rw [h]
  have KEY : Hid (∀ b : Bool, wordI c = b → Ending.returned (.bool b) = .returned (.bool (wordI c))) := key
  clear key
  by_cases c1 : c < 48
  · have W : Hid (wordI c = false) := by
      show _ = _
      rw [HE.out]; simp; omega
    go_enter Tryd.func36, Tryd.ntmps36
    go_wp2
    go_ret
    exact ⟨KEY.out _ W.out, rfl⟩
  by_cases c2 : c ≤ 57
  · have W : Hid (wordI c = true) := by
      show _ = _
      rw [HE.out]; simp; omega
    have d1 : decide (c ≤ 57) = true := by simpa using c2
    go_enter Tryd.func36, Tryd.ntmps36
    go_wp2
    go_ret
    exact ⟨KEY.out _ W.out, rfl⟩
  have d2 : decide (c ≤ 57) = false := by simpa using c2
  by_cases c3 : c < 65
  · have W : Hid (wordI c = false) := by
      show _ = _
      rw [HE.out]; simp; omega
    go_enter Tryd.func36, Tryd.ntmps36
    go_wp2
    go_ret
    exact ⟨KEY.out _ W.out, rfl⟩
  by_cases c4 : c ≤ 90
  · have W : Hid (wordI c = true) := by
      show _ = _
      rw [HE.out]; simp; omega
    have d1 : decide (c ≤ 90) = true := by simpa using c4
    go_enter Tryd.func36, Tryd.ntmps36
    go_wp2
    go_ret
    exact ⟨KEY.out _ W.out, rfl⟩
  have d4 : decide (c ≤ 90) = false := by simpa using c4
  by_cases c5 : c < 97
  · have W : Hid (wordI c = false) := by
      show _ = _
      rw [HE.out]; simp; omega
    go_enter Tryd.func36, Tryd.ntmps36
    go_wp2
    go_ret
    exact ⟨KEY.out _ W.out, rfl⟩
  by_cases c6 : c ≤ 122
  · have W : Hid (wordI c = true) := by
      show _ = _
      rw [HE.out]; simp; omega
    have d1 : decide (c ≤ 122) = true := by simpa using c6
    go_enter Tryd.func36, Tryd.ntmps36
    go_wp2
    go_ret
    exact ⟨KEY.out _ W.out, rfl⟩
  have d6 : decide (c ≤ 122) = false := by simpa using c6
  have W : Hid (wordI c = false) := by
    show _ = _
    rw [HE.out]; simp; omega
  go_enter Tryd.func36, Tryd.ntmps36
  go_wp2
  go_ret
  exact ⟨KEY.out _ W.out, rfl⟩
theorem wordByte_any (c : Int) (w : World) (h0 : 0 ≤ c) (h1 : c < 256) :
    Calls Tryd.prog 36 #[.int .u8 c] w fun e w' => e = .returned (.bool (wordI c)) ∧ w' = w := by
  cases h : signI c.toNat
  · exact wordByte_else c w h0 h1 h
  · obtain ⟨n, rfl⟩ := Int.eq_ofNat_of_zero_le h0
    simp only [Int.toNat_natCast, signI, List.contains_eq_mem, List.mem_cons, List.not_mem_nil, or_false, decide_eq_true_eq] at h
    rcases h with rfl | rfl | rfl | rfl | rfl | rfl | rfl | rfl | rfl | rfl | rfl | rfl | rfl | rfl
    · exact wordByte_33 w
    · exact wordByte_35 w
    · exact wordByte_36 w
    · exact wordByte_37 w
    · exact wordByte_38 w
    · exact wordByte_39 w
    · exact wordByte_42 w
    · exact wordByte_43 w
    · exact wordByte_45 w
    · exact wordByte_46 w
    · exact wordByte_94 w
    · exact wordByte_95 w
    · exact wordByte_124 w
    · exact wordByte_126 w
end Go.Proofs.YtlbagfaiiileoaaDoor
/-
  What the model's IsWord answers, and hasOnly over the table.
-/
namespace Go.Proofs.YtlbagfaiiileoaaDoor
open Go.ChangeShapes Go.WideShapes Go.ChangeAt Go.RowKit
set_option maxHeartbeats 400000 in
theorem specIsWord_size (s : ByteArray) (w : World) (h : s.size < 1 ∨ 64 < s.size) :
    Calls Tryd.prog 28 #[.string s] w fun e w' => e = .returned (.bool false) ∧ w' = w := by
  rcases h with h | h
  · have hh : (s.size : Int) < 1 := by omega
    go_enter Tryd.func28, Tryd.ntmps28
    go_wp2
    go_ret
    exact ⟨rfl, rfl⟩
  · have hh : (64 : Int) < s.size := by omega
    have h1 : ¬ (s.size : Int) < 1 := by omega
    go_enter Tryd.func28, Tryd.ntmps28
    go_wp2
    go_ret
    exact ⟨rfl, rfl⟩
set_option maxHeartbeats 1000000 in
theorem specIsWord_mid (s : ByteArray) (w : World) (h1 : 1 ≤ s.size) (h2 : s.size ≤ 64) :
    Calls Tryd.prog 28 #[.string s] w fun e w' => e = .returned (.bool (allW s.data.toList)) ∧ w' = w := by
  have g1 : ¬ (s.size : Int) < 1 := by omega
  have g2 : ¬ (64 : Int) < s.size := by omega
  go_enter Tryd.func28, Tryd.ntmps28
  go_wp2
  go_loop [3] (fun i => ∃ k : Nat, k ≤ s.size ∧ i = .int .i64 k ∧ allW (s.data.toList.take k) = true) (fun i => s.size - (intOf i).toNat)
  case atStart => exact ⟨0, Nat.zero_le _, rfl, rfl⟩
  case round =>
    obtain ⟨k, hk, rfl, hall⟩ := hrel
    by_cases hlt : k < s.size
    · have hb : ((s[k].toNat : Nat) : Int) < 256 := by have := s[k].toNat_lt; omega
      cases hw : wordI (s[k].toNat : Int)
      · have HN : Hid (allW s.data.toList = false) := allW_not s k hlt hw
        have HW : Hid (wordI (s[k].toNat : Int) = false) := hw
        clear hall hw
        go_wp2_with fail
        refine (wordByte_any _ _ (by omega) hb).mono ?_
        rintro e w' ⟨rfl, rfl⟩
        rw [HW.out]
        go_wp2
        go_ret
        exact ⟨ret_bool HN.out.symm, rfl⟩
      · have HA : Hid (allW (s.data.toList.take (k + 1)) = true) := by
          show _ = _
          rw [take_snoc s k hlt, allW_snoc, hall, hw]; rfl
        have HW : Hid (wordI (s[k].toNat : Int) = true) := hw
        clear hall hw
        go_wp2_with fail
        refine (wordByte_any _ _ (by omega) hb).mono ?_
        rintro e w' ⟨rfl, rfl⟩
        rw [HW.out]
        go_wp2
        go_round
        case rel => exact ⟨k + 1, by omega, by go_num, HA.out⟩
        case measure => simp [intOf]; omega
    · have ek : s.data.toList.take k = s.data.toList := List.take_of_length_le (by simp; omega)
      rw [ek] at hall
      have HN : Hid (allW s.data.toList = true) := hall
      clear ek hall
      go_wp2
      go_ret
      exact ⟨ret_bool HN.out.symm, rfl⟩
theorem specIsWord_any (s : ByteArray) (w : World) :
    Calls Tryd.prog 28 #[.string s] w fun e w' => e = .returned (.bool (wordS s)) ∧ w' = w := by
  by_cases c : s.size < 1 ∨ 64 < s.size
  · have h : wordS s = false := by
      rcases c with c | c
      · exact wordS_short s c
      · exact wordS_long s c
    rw [h]; exact specIsWord_size s w c
  · rw [wordS_mid s (by omega) (by omega)]
    exact specIsWord_mid s w (by omega) (by omega)
set_option maxHeartbeats 1000000 in
theorem hasOnly_any (s : ByteArray) (cs : Array Value) (w : World) (hs : s.size ≤ 64) (hcs : ∀ i, i < 128 → cs[i]? = some (.bool (wordI (i : Int)))) :
    Calls Tryd.prog 45 #[.string s, .agg cs] w fun e w' => e = .returned (.bool (allW s.data.toList)) ∧ Below w.heap.size w w' := by
  have hcell : ∀ i, i < 128 → (w.alloc (.cells cs 87)).cell? ⟨w.heap.size, i, none⟩ = some (.bool (wordI (i : Int))) := fun i hi => by
    rw [World.cell?_alloc_mark]; exact hcs i hi
  have HC : Hid (∀ i, i < 128 → (w.alloc (.cells cs 87)).cell? ⟨w.heap.size, i, none⟩ = some (.bool (wordI (i : Int)))) := hcell
  clear hcell hcs
  go_enter Tryd.func45, Tryd.ntmps45
  go_wp2
  go_loop [9] (fun i => ∃ k : Nat, k ≤ s.size ∧ i = .int .i64 k ∧ allW (s.data.toList.take k) = true) (fun i => s.size - (intOf i).toNat)
  case atStart => exact ⟨0, Nat.zero_le _, rfl, rfl⟩
  case round =>
    obtain ⟨k, hk, rfl, hall⟩ := hrel
    by_cases hlt : k < s.size
    · have hb : ((s[k].toNat : Nat) : Int) < 256 := by have := s[k].toNat_lt; omega
      by_cases hbig : 128 ≤ (s[k].toNat : Int)
      · have HN : Hid (allW s.data.toList = false) := allW_not s k hlt (wordI_big _ hbig)
        clear hall
        go_wp2
        go_ret
        exact ⟨ret_bool HN.out.symm, (Below.refl _ _).alloc (Nat.le_refl _) _⟩
      · have hc := HC.out s[k].toNat (by omega)
        cases hw : wordI (s[k].toNat : Int)
        · have HN : Hid (allW s.data.toList = false) := allW_not s k hlt hw
          rw [hw] at hc
          clear hall hw
          go_wp2
          go_ret
          exact ⟨ret_bool HN.out.symm, (Below.refl _ _).alloc (Nat.le_refl _) _⟩
        · have HA : Hid (allW (s.data.toList.take (k + 1)) = true) := by
            show _ = _
            rw [take_snoc s k hlt, allW_snoc, hall, hw]; rfl
          rw [hw] at hc
          clear hall hw
          go_wp2
          go_round
          case rel => exact ⟨k + 1, by omega, by go_num, HA.out⟩
          case measure => simp [intOf]; omega
    · have ek : s.data.toList.take k = s.data.toList := List.take_of_length_le (by simp; omega)
      rw [ek] at hall
      have HN : Hid (allW s.data.toList = true) := hall
      clear ek hall
      go_wp2
      go_ret
      exact ⟨ret_bool HN.out.symm, (Below.refl _ _).alloc (Nat.le_refl _) _⟩
end Go.Proofs.YtlbagfaiiileoaaDoor
/-
  A slice of bytes that the call itself grows: one byte more.
-/
namespace Go.Proofs.YtlbagfaiiileoaaDoor
open Go.ChangeShapes Go.WideShapes Go.ChangeAt Go.RowKit
theorem infoByteB : (Tryd.prog.info? 5).map (fun i => (i.zero, i.size, i.bytes)) = some (some (.int .u8 0), 1, 1) := by kernel_rfl
def bytesW (l : List UInt8) : List Value := l.map fun c => Value.int .u8 (c.toNat : Int)
/-- v, a slice that is not nil, holds the bytes l in a row of the call's own, from block base on. -/
structure OwnB (w : World) (base : Nat) (v : Value) (l : List UInt8) : Prop where
  own : w.ownsRow base 5 1 v l.length (bytesW l)
  nn : v ≠ .slice none 0 0
theorem own_geB {w : World} {base : Nat} {e : TypeId} {size : Nat} {v : Value} {n : Nat} {xs : List Value} (h : w.ownsRow base e size v n xs) (q : Nat) (hq : v.ownBlock = some q) : base ≤ q := by
  obtain ⟨_, h | ⟨g, c, cur, rfl, hg, _⟩⟩ := h
  · rw [h.1] at hq; cases hq
  · simp only [Value.ownBlock, Option.some.injEq] at hq; omega
theorem OwnB.text {w : World} {base : Nat} {v : Value} {l : List UInt8} (h : OwnB w base v l) :
    (convert 65 9 v).run Tryd.prog w = .ok (.string ⟨l.toArray⟩) w := by
  have h0 := h.own
  obtain ⟨_, hn | ⟨g, c, cur, rfl, hg, _⟩⟩ := h.own
  · exact absurd hn.1 h.nn
  · refine run_convert_bytes_back w 65 9 5 ⟨g, 0, none⟩ c l Tryd.underlying65 Tryd.underlying5 Tryd.underlying9 ?_
    intro j hj
    have := h0.cellAt j (by omega)
    have e : (⟨g, 0, none⟩ : Addr).add j = ⟨g, j, none⟩ := by unfold Addr.add; split <;> simp_all
    rw [e, this]
    simp [bytesW, hj]
/-- A slice literal of bytes, just laid. -/
theorem OwnB.made (w : World) (base : Nat) (hb : base ≤ w.heap.size) (l : List UInt8) (hl : l.length ≤ 1000000) : OwnB (w.alloc (.cells (bytesW l).toArray 5)) base (.slice (some ⟨w.heap.size, 0, none⟩) l.length l.length) l where
  own := ⟨by simp [bytesW], .inr ⟨w.heap.size, l.length, (bytesW l).toArray, rfl, hb, heap_alloc_new _ _, Nat.le_refl _, by unfold maxLen; omega, by simp [bytesW], by simp [bytesW, List.take_of_length_le]⟩⟩
  nn := by simp
theorem OwnB.below {w w' : World} {base : Nat} {v : Value} {l : List UInt8} (h : OwnB w base v l) (hb : Below w.heap.size w w') : OwnB w' base v l := by
  refine ⟨?_, h.nn⟩
  obtain ⟨h1, h2⟩ := h.own
  refine ⟨h1, ?_⟩
  rcases h2 with h2 | ⟨g, c, cur, e, hg, hh, hrest⟩
  · exact .inl h2
  · exact .inr ⟨g, c, cur, e, hg, by rw [hb.block g (Array.getElem?_eq_some_iff.1 hh).1]; exact hh, hrest⟩
/-- 'out = append(out, c)', the byte laid in a block of its own right ahead. -/
theorem wpList_append_byte {ops : Array Oper} {rest : List Oper} {o : Oper} {a : Act} {Q : Exit → Act → World → Prop} (w : World) (hgd : o.guard = none) (s x : Operand)
    (ho : o.op = .call { callee := .builtin .append, args := #[s, x], argTypes := #[65, 65] }) (base : Nat) (v : Value) (l : List UInt8) (z : Int) (c : UInt8)
    (hs : a.eval s = v) (hx : a.eval x = .slice (some ⟨w.heap.size, 0, none⟩) 1 1) (hown : OwnB w base v l) (hc : (c.toNat : Int) = z) (hl : l.length ≤ 1000000) (hbase : base ≤ w.heap.size)
    (h : ∀ v' w', OwnB w' base v' (l ++ [c]) → Below base w w' → w.heap.size ≤ w'.heap.size → wpList Tryd.prog ops Q rest (a.put o.dst v') w') :
    wpList Tryd.prog ops Q (o :: rest) a (w.alloc (.cells #[.int .u8 z] 5)) := by
  obtain ⟨i0, hi, hz0, hz1, hz2⟩ := info_parts infoByteB
  refine wpList_append_own _ hgd s x 65 ho base 5 i0 (.int .u8 0) 1 1 Tryd.underlying65 hi hz0 hz1 hz2 rfl (by decide) v l.length (bytesW l) hs (hown.own.alloc _) ⟨w.heap.size, 0, none⟩ 1 1 [.int .u8 z] hx rfl ?_ ?_ ?_ ?_ ?_ ?_
  · intro j u hj
    match j, hj with
    | 0, hj => simp at hj; subst hj; simp [Addr.add]
  · intro u hu; simp at hu; subst hu; rfl
  · unfold maxLen; omega
  · omega
  · simp; omega
  · intro v' w' h1 h2 h3
    have e : bytesW (l ++ [c]) = bytesW l ++ [Value.int .u8 z] := by simp [bytesW, hc]
    refine h v' w' ⟨by rw [e, List.length_append]; exact h1, fun hv => hown.nn (h3.1 hv).1⟩ ?_ ?_
    · exact ((Below.refl base w).alloc hbase _).grown h2 (by simp; omega) (fun q hq => own_geB hown.own q hq)
    · have hb := ((Below.refl 0 w).alloc (Nat.zero_le _) (.cells #[.int .u8 z] 5)).grown h2 (Nat.zero_le _) (fun q _ => Nat.zero_le _)
      exact hb.size
end Go.Proofs.YtlbagfaiiileoaaDoor
/-
  What the model's l2Plain and l2PlainText answer.
-/
namespace Go.Proofs.YtlbagfaiiileoaaDoor
open Go.ChangeShapes Go.WideShapes Go.ChangeAt Go.RowKit
set_option maxHeartbeats 400000 in
theorem plain_any (c : Int) (w : World) (h0 : 0 ≤ c) (h1 : c < 256) :
    Calls Tryd.prog 66 #[.int .u8 c] w fun e w' => e = .returned (.bool (plainI c)) ∧ w' = w := by
  by_cases e9 : c = 9
  · subst e9
    go_enter Tryd.func66, Tryd.ntmps66
    go_wp2
    go_ret
    exact ⟨rfl, rfl⟩
  · have d9 : (c == 9) = false := by simpa using e9
    by_cases a1 : 32 ≤ c
    · by_cases a2 : c ≤ 126
      · have d2 : decide (c ≤ 126) = true := by simpa using a2
        have HP : Hid (plainI c = true) := by show _ = _; simp [plainI, a1, a2]
        go_enter Tryd.func66, Tryd.ntmps66
        go_wp2
        go_ret
        exact ⟨ret_bool HP.out.symm, rfl⟩
      · have d2 : decide (c ≤ 126) = false := by simpa using a2
        have HP : Hid (plainI c = false) := by show _ = _; simp [plainI, e9]; omega
        go_enter Tryd.func66, Tryd.ntmps66
        go_wp2
        go_ret
        exact ⟨ret_bool HP.out.symm, rfl⟩
    · have HP : Hid (plainI c = false) := by show _ = _; simp [plainI, e9]; omega
      go_enter Tryd.func66, Tryd.ntmps66
      go_wp2
      go_ret
      exact ⟨ret_bool HP.out.symm, rfl⟩
set_option maxHeartbeats 1000000 in
theorem plainText_any (s : ByteArray) (w : World) (hs : s.size ≤ 1048576) :
    Calls Tryd.prog 62 #[.string s] w fun e w' => e = .returned (.bool (plainL s.data.toList)) ∧ w' = w := by
  go_enter Tryd.func62, Tryd.ntmps62
  go_wp2
  go_loop [3] (fun i => ∃ k : Nat, k ≤ s.size ∧ i = .int .i64 k ∧ plainL (s.data.toList.take k) = true) (fun i => s.size - (intOf i).toNat)
  case atStart => exact ⟨0, Nat.zero_le _, rfl, rfl⟩
  case round =>
    obtain ⟨k, hk, rfl, hall⟩ := hrel
    by_cases hlt : k < s.size
    · have hb : ((s[k].toNat : Nat) : Int) < 256 := by have := s[k].toNat_lt; omega
      cases hw : plainI (s[k].toNat : Int)
      · have HN : Hid (plainL s.data.toList = false) := plainL_not s k hlt hw
        have HW : Hid (plainI (s[k].toNat : Int) = false) := hw
        clear hall hw
        go_wp2_with fail
        refine (plain_any _ _ (by omega) hb).mono ?_
        rintro e w' ⟨rfl, rfl⟩
        rw [HW.out]
        go_wp2
        go_ret
        exact ⟨ret_bool HN.out.symm, rfl⟩
      · have HA : Hid (plainL (s.data.toList.take (k + 1)) = true) := by
          show _ = _
          rw [take_snoc s k hlt, plainL_snoc, hall, hw]; rfl
        have HW : Hid (plainI (s[k].toNat : Int) = true) := hw
        clear hall hw
        go_wp2_with fail
        refine (plain_any _ _ (by omega) hb).mono ?_
        rintro e w' ⟨rfl, rfl⟩
        rw [HW.out]
        go_wp2
        go_round
        case rel => exact ⟨k + 1, by omega, by go_num, HA.out⟩
        case measure => simp [intOf]; omega
    · have ek : s.data.toList.take k = s.data.toList := List.take_of_length_le (by simp; omega)
      rw [ek] at hall
      have HN : Hid (plainL s.data.toList = true) := hall
      clear ek hall
      go_wp2
      go_ret
      exact ⟨ret_bool HN.out.symm, rfl⟩
end Go.Proofs.YtlbagfaiiileoaaDoor
/-
  What the model's l1Trim answers.
-/
namespace Go.Proofs.YtlbagfaiiileoaaDoor
open Go.ChangeShapes Go.WideShapes Go.ChangeAt Go.RowKit
set_option maxHeartbeats 400000 in
theorem blank_any (c : Int) (w : World) :
    Calls Tryd.prog 67 #[.int .u8 c] w fun e w' => e = .returned (.bool (blankI c)) ∧ w' = w := by
  by_cases h1 : c = 32
  · subst h1
    go_enter Tryd.func67, Tryd.ntmps67
    go_wp2
    go_ret
    exact ⟨rfl, rfl⟩
  · by_cases h2 : c = 9
    · subst h2
      go_enter Tryd.func67, Tryd.ntmps67
      go_wp2
      go_ret
      exact ⟨rfl, rfl⟩
    · have d1 : (c == 32) = false := by simpa using h1
      have d2 : (c == 9) = false := by simpa using h2
      have HB : Hid (blankI c = false) := by
        show _ = _
        unfold blankI
        rw [d1, d2]; rfl
      clear h1 h2
      go_enter Tryd.func67, Tryd.ntmps67
      go_wp2
      go_ret
      exact ⟨ret_bool HB.out.symm, rfl⟩
set_option maxHeartbeats 1000000 in
theorem l1Trim_big (s : ByteArray) (w : World) (hs : s.size ≤ 1048576) :
    Calls Tryd.prog 63 #[.string s] w fun e w' => e = .returned (.string (trimT s)) ∧ w' = w := by
  go_enter Tryd.func63, Tryd.ntmps63
  go_wp2
  go_loop [3] (fun i => ∃ k : Nat, k ≤ s.size ∧ i = .int .i64 k ∧ ∀ (j : Nat) b, j < k → s.data.toList[j]? = some b → blankI (b.toNat : Int) = true) (fun i => s.size - (intOf i).toNat)
  case atStart => exact ⟨0, Nat.zero_le _, rfl, fun j b h => absurd h (Nat.not_lt_zero _)⟩
  case round =>
    obtain ⟨k, hk, rfl, hall⟩ := hrel
    have H1 : Hid (∀ (j : Nat) b, j < k → s.data.toList[j]? = some b → blankI (b.toNat : Int) = true) := hall
    clear hall
    by_cases hgo : ∃ h : k < s.size, blankI (s[k].toNat : Int) = true
    · obtain ⟨hlt, hb⟩ := hgo
      have HB : Hid (blankI (s[k].toNat : Int) = true) := hb
      clear hb
      go_wp2_with fail
      refine (blank_any _ _).mono ?_
      rintro e w' ⟨rfl, rfl⟩
      rw [HB.out]
      go_wp2
      go_round
      case rel =>
        refine ⟨k + 1, by omega, by go_num, fun j b hj hbj => ?_⟩
        by_cases e : j = k
        · subst e
          have : s.data.toList[j]? = some s[j] := by rw [List.getElem?_eq_getElem (by simpa using hlt)]; rfl
          rw [this] at hbj
          obtain rfl := Option.some.inj hbj
          exact HB.out
        · exact H1.out j b (by omega) hbj
      case measure => simp [intOf]; omega
    · have H2 : Hid (∀ b, k < s.data.toList.length → s.data.toList[k]? = some b → blankI (b.toNat : Int) = false) := by
        intro b hlt hb
        have hlt' : k < s.size := by simpa using hlt
        have : s.data.toList[k]? = some s[k] := by rw [List.getElem?_eq_getElem hlt]; rfl
        rw [this] at hb
        obtain rfl := Option.some.inj hb
        cases hx : blankI (s[k].toNat : Int)
        · rfl
        · exact absurd ⟨hlt', hx⟩ hgo
      by_cases hlt : k < s.size
      · have HB : Hid (blankI (s[k].toNat : Int) = false) := by
          show _ = _
          cases hx : blankI (s[k].toNat : Int)
          · rfl
          · exact absurd ⟨hlt, hx⟩ hgo
        clear hgo
        go_wp2_with fail
        refine (blank_any _ _).mono ?_
        rintro e w' ⟨rfl, rfl⟩
        rw [HB.out]
        clear HB
        go_wp2
        go_loop [4] (fun i => ∃ m : Nat, k ≤ m ∧ m ≤ s.size ∧ i = .int .i64 m ∧ ∀ (j : Nat) b, m ≤ j → s.data.toList[j]? = some b → blankI (b.toNat : Int) = true) (fun i => (intOf i).toNat)
        case atStart => exact ⟨s.size, hk, Nat.le_refl _, rfl, fun j b hj hb => absurd (List.getElem?_eq_some_iff.1 hb).1 (by simp; omega)⟩
        case round =>
          obtain ⟨m, hkm, hm, rfl, hall⟩ := hrel
          have H3 : Hid (∀ (j : Nat) b, m ≤ j → s.data.toList[j]? = some b → blankI (b.toNat : Int) = true) := hall
          clear hall
          by_cases hkm2 : k < m
          · obtain ⟨n, rfl⟩ : ∃ n, m = n + 1 := ⟨m - 1, by omega⟩
            have hn : n < s.size := by omega
            cases hb : blankI (s[n].toNat : Int)
            · have HB : Hid (blankI (s[n].toNat : Int) = false) := hb
              have HT : Hid (s.extract k (n + 1) = trimT s) := by
                refine trim_extract s k (n + 1) (trim_between _ k (n + 1) hkm (by simpa using hm) H1.out H2.out H3.out ?_)
                intro b _ hbn
                have : s.data.toList[n]? = some s[n] := by rw [List.getElem?_eq_getElem (by simpa using hn)]; rfl
                rw [Nat.add_sub_cancel, this] at hbn
                obtain rfl := Option.some.inj hbn
                exact HB.out
              clear hb
              go_wp2_with fail
              refine (blank_any _ _).mono ?_
              rintro e w' ⟨rfl, rfl⟩
              rw [HB.out]
              go_wp2
              go_ret
              exact ⟨ret_str HT.out, rfl⟩
            · have HB : Hid (blankI (s[n].toNat : Int) = true) := hb
              clear hb
              go_wp2_with fail
              refine (blank_any _ _).mono ?_
              rintro e w' ⟨rfl, rfl⟩
              rw [HB.out]
              go_wp2
              go_round
              case rel =>
                refine ⟨n, by omega, by omega, by go_num, fun j b hj hbj => ?_⟩
                by_cases e : j = n
                · subst e
                  have : s.data.toList[j]? = some s[j] := by rw [List.getElem?_eq_getElem (by simpa using hn)]; rfl
                  rw [this] at hbj
                  obtain rfl := Option.some.inj hbj
                  exact HB.out
                · exact H3.out j b (by omega) hbj
              case measure => simp [intOf]
          · obtain rfl : k = m := by omega
            have HT : Hid (ByteArray.empty = trimT s) := by
              have e := trim_extract s k k (trim_between _ k k (Nat.le_refl _) (by simpa using hm) H1.out H2.out H3.out (fun b h => absurd h (Nat.lt_irrefl _)))
              have e0 : s.extract k k = ByteArray.empty := by simp
              exact e0.symm.trans e
            go_wp2
            go_ret
            exact ⟨ret_str HT.out, rfl⟩
      · clear hgo
        go_wp2
        go_loop [4] (fun i => ∃ m : Nat, k ≤ m ∧ m ≤ s.size ∧ i = .int .i64 m ∧ ∀ (j : Nat) b, m ≤ j → s.data.toList[j]? = some b → blankI (b.toNat : Int) = true) (fun i => (intOf i).toNat)
        case atStart => exact ⟨s.size, hk, Nat.le_refl _, rfl, fun j b hj hb => absurd (List.getElem?_eq_some_iff.1 hb).1 (by simp; omega)⟩
        case round =>
          obtain ⟨m, hkm, hm, rfl, hall⟩ := hrel
          have H3 : Hid (∀ (j : Nat) b, m ≤ j → s.data.toList[j]? = some b → blankI (b.toNat : Int) = true) := hall
          clear hall
          obtain rfl : k = m := by omega
          have HT : Hid (ByteArray.empty = trimT s) := by
            have e := trim_extract s k k (trim_between _ k k (Nat.le_refl _) (by simpa using hm) H1.out H2.out H3.out (fun b h => absurd h (Nat.lt_irrefl _)))
            have e0 : s.extract k k = ByteArray.empty := by simp
            exact e0.symm.trans e
          go_wp2
          go_ret
          exact ⟨ret_str HT.out, rfl⟩
theorem l1Trim_any (s : ByteArray) (w : World) (hs : s.size ≤ 1000) :
    Calls Tryd.prog 63 #[.string s] w fun e w' => e = .returned (.string (trimT s)) ∧ w' = w := l1Trim_big s w (by omega)
end Go.Proofs.YtlbagfaiiileoaaDoor
/-
  What the model's l4Line and HeadersFault answer.
-/
namespace Go.Proofs.YtlbagfaiiileoaaDoor
open Go.ChangeShapes Go.WideShapes Go.ChangeAt Go.RowKit
theorem hstr_ne {a b : ByteArray} (h : a ≠ b) : (a.toList == b.toList) = false := by
  rw [beq_eq_false_iff_ne]
  intro e
  rw [ByteArray.toList_eq, ByteArray.toList_eq] at e
  exact h (ByteArray.ext (Array.ext' e))
set_option maxHeartbeats 2000000 in
theorem l4Line_any (r : Hdr) (w : World) :
    Calls Tryd.prog 58 #[.agg #[.string r.name, .string r.value]] w fun e w' => e = .returned (.int .i64 (faultH r)) ∧ Below w.heap.size w w' := by
  obtain ⟨n, v⟩ := r
  simp only
  have kb : Below w.heap.size w (w.alloc (.cells #[.string n, .string v] 98)) := (Below.refl _ _).alloc (Nat.le_refl _) _
  have KB : Hid (Below w.heap.size w (w.alloc (.cells #[.string n, .string v] 98))) := kb
  clear kb
  have HW : Hid (∀ w, Calls Tryd.prog 28 #[.string n] w fun e w' => e = .returned (.bool (wordS n)) ∧ w' = w) := specIsWord_any n
  cases hw : wordS n
  · have HE : Hid (faultH ⟨n, v⟩ = 5) := by show _ = _; simp [faultH, hw]
    rw [hw] at HW
    clear hw
    go_enter Tryd.func58, Tryd.ntmps58
    go_wp2_with fail
    refine (HW.out _).mono ?_
    rintro e w1 ⟨rfl, rfl⟩
    go_wp2_with fail
    go_ret
    exact ⟨ret_int HE.out.symm, KB.out⟩
  rw [hw] at HW
  by_cases hbig : 200 < v.size
  · have HE : Hid (faultH ⟨n, v⟩ = 2) := by show _ = _; simp only [faultH, hw]; rw [if_neg (by simp), if_pos hbig]
    have g : (200 : Int) < v.size := by omega
    clear hw
    go_enter Tryd.func58, Tryd.ntmps58
    go_wp2_with fail
    refine (HW.out _).mono ?_
    rintro e w1 ⟨rfl, rfl⟩
    go_wp2_with fail
    go_ret
    exact ⟨ret_int HE.out.symm, KB.out⟩
  have g : ¬ (200 : Int) < v.size := by omega
  have HP : Hid (∀ w, Calls Tryd.prog 62 #[.string v] w fun e w' => e = .returned (.bool (plainL v.data.toList)) ∧ w' = w) := fun w => plainText_any v w (by omega)
  have HT : Hid (∀ w, Calls Tryd.prog 63 #[.string v] w fun e w' => e = .returned (.string (trimT v)) ∧ w' = w) := fun w => l1Trim_any v w (by omega)
  cases hp : plainL v.data.toList
  · have HE : Hid (faultH ⟨n, v⟩ = 5) := by show _ = _; simp only [faultH, hw]; rw [if_neg (by simp), if_neg hbig, if_pos hp]
    rw [hp] at HP
    clear hw hp hbig
    go_enter Tryd.func58, Tryd.ntmps58
    go_wp2_with fail
    refine (HW.out _).mono ?_
    rintro e w1 ⟨rfl, rfl⟩
    go_wp2_with fail
    refine (HP.out _).mono ?_
    rintro e w1 ⟨rfl, rfl⟩
    go_wp2_with fail
    go_ret
    exact ⟨ret_int HE.out.symm, KB.out⟩
  rw [hp] at HP
  by_cases ht : trimT v = v
  · have HE : Hid (faultH ⟨n, v⟩ = 0) := by show _ = _; simp only [faultH, hw]; rw [if_neg (by simp), if_neg hbig, if_neg (by simp [hp]), if_pos ht]
    rw [ht] at HT
    clear hw hp hbig ht
    go_enter Tryd.func58, Tryd.ntmps58
    go_wp2_with fail
    refine (HW.out _).mono ?_
    rintro e w1 ⟨rfl, rfl⟩
    go_wp2_with fail
    refine (HP.out _).mono ?_
    rintro e w1 ⟨rfl, rfl⟩
    go_wp2_with fail
    refine (HT.out _).mono ?_
    rintro e w1 ⟨rfl, rfl⟩
    go_wp2_with fail
    go_ret
    exact ⟨ret_int HE.out.symm, KB.out⟩
  · have HE : Hid (faultH ⟨n, v⟩ = 5) := by show _ = _; simp only [faultH, hw]; rw [if_neg (by simp), if_neg hbig, if_neg (by simp [hp]), if_neg ht]
    have hq := hstr_ne ht
    generalize trimT v = t at *
    clear hw hp hbig ht
    go_enter Tryd.func58, Tryd.ntmps58
    go_wp2_with fail
    refine (HW.out _).mono ?_
    rintro e w1 ⟨rfl, rfl⟩
    go_wp2_with fail
    refine (HP.out _).mono ?_
    rintro e w1 ⟨rfl, rfl⟩
    go_wp2_with fail
    refine (HT.out _).mono ?_
    rintro e w1 ⟨rfl, rfl⟩
    go_wp2_with fail
    go_ret
    exact ⟨ret_int HE.out.symm, KB.out⟩
set_option maxRecDepth 100000 in
set_option maxHeartbeats 4000000 in
theorem specHFault_any (w : World) (a : Option Addr) (cap : Nat) (l : List Hdr) (hl : l.length ≤ 1048576) (hi : HdsIn w a l) :
    Calls Tryd.prog 46 #[.slice a l.length cap] w fun e w' => e = .returned (.int .i64 (headsC l)) ∧ Below w.heap.size w w' := by
  by_cases h20 : 20 < l.length
  · have HE : Hid (headsC l = 2) := headsC_many h20
    have g : (20 : Int) < (l.length : Int) := by omega
    clear hi
    generalize l.length = n at *
    go_enter Tryd.func46, Tryd.ntmps46
    go_wp2_with fail
    go_ret
    exact ⟨ret_int HE.out.symm, Below.refl _ _⟩
  have HC : Hid (headsC l = faultHL l) := headsC_few h20
  have HI : Hid (HdsIn w a l) := hi
  clear hi
  generalize hn : l.length = n at *
  have HN : Hid (l.length = n) := hn
  clear hn
  have g : ¬ (20 : Int) < (n : Int) := by omega
  go_enter Tryd.func46, Tryd.ntmps46
  go_wp2_with fail
  go_loopw [3] (fun i wr => ∃ k : Nat, k ≤ n ∧ i = .int .i64 k ∧ faultHL l = faultHL (l.drop k) ∧ Below w.heap.size w wr) (fun i _ => n - (intOf i).toNat)
  case atStart => exact ⟨0, Nat.zero_le _, rfl, rfl, Below.refl _ _⟩
  case round =>
    obtain ⟨k, hk, rfl, hf, hb⟩ := hrel
    have HF : Hid (faultHL l = faultHL (l.drop k)) := hf
    clear hf
    by_cases hlt : k < n
    · obtain ⟨r, hr⟩ : ∃ r, l[k]? = some r := ⟨l[k]'(by have := HN.out; omega), List.getElem?_eq_getElem _⟩
      rcases HI.out with h | ⟨b, off, rfl, hat⟩
      · subst h; simp at hr
      obtain ⟨p1, p3⟩ := (hat.keep hb) k r hr
      have HD : Hid (l.drop k = r :: l.drop (k + 1)) := drop_hdr l k r hr
      have gk : (k : Int) < n := by omega
      have SF : Hid (∀ w, Calls Tryd.prog 58 #[.agg #[.string r.name, .string r.value]] w fun e w' => e = .returned (.int .i64 (faultH r)) ∧ Below w.heap.size w w') := l4Line_any r
      clear hr hat HI
      by_cases hfr : faultH r = 0
      · have HX : Hid (faultHL l = faultHL (l.drop (k + 1))) := by show _ = _; rw [HF.out, HD.out, faultHL_ok hfr]
        rw [hfr] at SF
        clear hfr HD HF
        obtain ⟨rn, rv⟩ := r
        simp only at p1 p3 SF
        go_wp2_with fail
        refine (SF.out _).mono ?_
        rintro e w2 ⟨rfl, hb2⟩
        have hbb := hb.trans (hb2.mono hb.size)
        clear hb2 hb
        go_wp2_with fail
        go_roundw
        case rel => exact ⟨k + 1, by omega, by go_num, HX.out, hbb⟩
        case measure => simp [intOf]; omega
      · have HX : Hid (headsC l = faultH r) := by show _ = _; rw [HC.out, HF.out, HD.out, faultHL_bad hfr]
        clear HD HF HC
        obtain ⟨rn, rv⟩ := r
        simp only at p1 p3 SF
        generalize faultH ⟨rn, rv⟩ = fr at *
        go_wp2_with fail
        refine (SF.out _).mono ?_
        rintro e w2 ⟨rfl, hb2⟩
        have hbb := hb.trans (hb2.mono hb.size)
        clear hb2 hb
        go_wp2_with fail
        go_ret
        exact ⟨ret_int HX.out.symm, hbb⟩
    · have HX : Hid (headsC l = 0) := by
        show _ = _
        rw [HC.out, HF.out, List.drop_of_length_le (by have := HN.out; omega)]
        rfl
      clear HF HC
      go_wp2_with fail
      go_ret
      exact ⟨ret_int HX.out.symm, hb⟩
end Go.Proofs.YtlbagfaiiileoaaDoor
/-
  Is it an entry? The specification's answer.
-/
namespace Go.Proofs.YtlbagfaiiileoaaDoor
open Go.ChangeShapes Go.WideShapes Go.ChangeAt Go.RowKit Go.Sort
def stB (st : Int) : Bool := decide (st = 200) || decide (st = 404) || decide (st = 410)
def pinB (p : Int) : Bool := decide (0 ≤ p) && decide (p ≤ 20)
def entryC (key : ByteArray) (st pins : Int) (hs : List Hdr) (bn tn : Nat) (t g l s e : Int) : Int :=
  if key.size < 1 ∨ 500 < key.size then 2 else
  if (stB st && pinB pins) = false then 3 else
  if headsC hs ≠ 0 then headsC hs else
  if 2000 < bn ∨ 10 < tn then 2 else metaC t g l s e
set_option maxHeartbeats 8000000 in
theorem specEntry_any (w : World) (key : ByteArray) (st : Int) (ha : Option Addr) (hc : Nat) (ba : Option Addr) (bc : Nat) (t g l s e : Int) (b1 b2 : Bool) (ta : Option Addr) (tc : Nat) (pins : Int) (hs : List Hdr) (bn tn : Nat) (hk : key.size ≤ maxLen) (hhl : hs.length ≤ 1048576) (hbn : bn ≤ maxLen) (htn : tn ≤ maxLen) (hH : HdsIn w ha hs) :
    Calls Tryd.prog 34 #[.agg #[.string key, .int .i64 st, .slice ha hs.length hc, .slice ba bn bc, .int .i64 t, .int .i64 g, .int .i64 l, .int .i64 s, .int .i64 e, .bool b1, .bool b2, .slice ta tn tc, .int .i64 pins]] w fun r w' => r = .returned (.int .i64 (entryC key st pins hs bn tn t g l s e)) ∧ Below w.heap.size w w' := by
  have HK : Hid (Below w.heap.size w (w.alloc (.cells #[.string key, .int .i64 st, .slice ha hs.length hc, .slice ba bn bc, .int .i64 t, .int .i64 g, .int .i64 l, .int .i64 s, .int .i64 e, .bool b1, .bool b2, .slice ta tn tc, .int .i64 pins] 69)) ∧ E13 (w.alloc (.cells #[.string key, .int .i64 st, .slice ha hs.length hc, .slice ba bn bc, .int .i64 t, .int .i64 g, .int .i64 l, .int .i64 s, .int .i64 e, .bool b1, .bool b2, .slice ta tn tc, .int .i64 pins] 69)) w.heap.size (.string key) (.int .i64 st) (.slice ha hs.length hc) (.slice ba bn bc) (.int .i64 t) (.int .i64 g) (.int .i64 l) (.int .i64 s) (.int .i64 e) (.bool b1) (.bool b2) (.slice ta tn tc) (.int .i64 pins)) := ⟨(Below.refl _ _).alloc (Nat.le_refl _) _, E13.new w _ _ _ _ _ _ _ _ _ _ _ _ _ _⟩
  have HI : Hid (∀ w, Calls Tryd.prog 11 #[.int .i64 pins, .int .i64 0, .int .i64 20] w fun r w' => r = .returned (.bool (pinB pins)) ∧ w' = w) := l1In_all pins 0 20
  have HH : Hid (∀ X, Below w.heap.size w X → Calls Tryd.prog 46 #[.slice ha hs.length hc] X fun e w' => e = .returned (.int .i64 (headsC hs)) ∧ Below X.heap.size X w') := fun X hb => specHFault_any X ha hc hs hhl (hH.keep hb)
  have HM : Hid (∀ X, Calls Tryd.prog 47 #[.agg #[.int .i64 t, .int .i64 g, .int .i64 l, .int .i64 s, .int .i64 e, .bool b1, .bool b2]] X fun r w' => r = .returned (.int .i64 (metaC t g l s e)) ∧ Below X.heap.size X w') := fun X => specMeta_any t g l s e b1 b2 X
  obtain ⟨Z, hZ⟩ : ∃ Z, entryC key st pins hs bn tn t g l s e = Z := ⟨_, rfl⟩
  rw [hZ]
  unfold entryC at hZ
  obtain ⟨hcd, hhc⟩ : ∃ x, headsC hs = x := ⟨_, rfl⟩
  obtain ⟨mcd, hmc⟩ : ∃ x, metaC t g l s e = x := ⟨_, rfl⟩
  obtain ⟨pb, hpb⟩ : ∃ x, pinB pins = x := ⟨_, rfl⟩
  rw [hhc] at HH hZ
  rw [hmc] at HM hZ
  rw [hpb] at HI hZ
  clear hhc hmc hpb hH hhl
  generalize hs.length = hl at *
  unfold maxLen at hk hbn htn
  have HZ : Hid (_ = Z) := hZ
  clear hZ
  by_cases c1 : key.size < 1
  · have HR := HZ.out
    rw [if_pos (.inl c1)] at HR
    rw [← HR]
    clear HR HZ
    go_enter Tryd.func34, Tryd.ntmps34
    go_wp2_with fail
    go_ret
    exact ⟨rfl, HK.out.1⟩
  by_cases c2 : 500 < key.size
  · have HR := HZ.out
    rw [if_pos (.inr c2)] at HR
    rw [← HR]
    clear HR HZ
    go_enter Tryd.func34, Tryd.ntmps34
    go_wp2_with fail
    go_ret
    exact ⟨rfl, HK.out.1⟩
  rw [if_neg (by omega)] at HZ
  by_cases hst : stB st = false
  · have HR := HZ.out
    rw [if_pos (by rw [hst]; rfl)] at HR
    rw [← HR]
    clear HR HZ
    unfold stB at hst
    have n1 : st ≠ 200 := fun q => by subst q; simp at hst
    have n2 : st ≠ 404 := fun q => by subst q; simp at hst
    have n3 : st ≠ 410 := fun q => by subst q; simp at hst
    clear hst
    go_enter Tryd.func34, Tryd.ntmps34
    go_wp2_with fail
    go_ret
    exact ⟨rfl, HK.out.1⟩
  have hst1 : stB st = true := by cases q : stB st <;> simp_all
  clear hst
  rw [hst1, Bool.true_and] at HZ
  have three : st = 200 ∨ st = 404 ∨ st = 410 := by unfold stB at hst1; simp at hst1; omega
  clear hst1
  rcases three with h | h | h
  · subst h
    cases pb
    · have HR := HZ.out
      rw [if_pos rfl] at HR
      rw [← HR]
      clear HR HZ
      go_enter Tryd.func34, Tryd.ntmps34
      go_wp2_with fail
      refine (HI.out _).mono ?_
      rintro r w1 ⟨rfl, rfl⟩
      go_wp2_with fail
      go_ret
      exact ⟨rfl, HK.out.1⟩
    rw [if_neg (by decide)] at HZ
    have HE : Hid (∀ X, Below w.heap.size w X → Calls Tryd.prog 46 #[.slice ha hl hc] X fun e w' => e = .returned (.int .i64 hcd) ∧ Below X.heap.size X w') := HH
    by_cases c3 : hcd ≠ 0
    · have HR := HZ.out
      rw [if_pos c3] at HR
      rw [← HR]
      clear HR HZ
      go_enter Tryd.func34, Tryd.ntmps34
      go_wp2_with fail
      refine (HI.out _).mono ?_
      rintro r w1 ⟨rfl, rfl⟩
      have q2 := HK.out.2.c2
      go_wp2_with fail
      refine (HH.out _ HK.out.1).mono ?_
      rintro r w2 ⟨rfl, hb2⟩
      have HB2 : Hid (Below w.heap.size w w2) := HK.out.1.trans (hb2.mono HK.out.1.size)
      clear hb2
      go_wp2_with fail
      go_ret
      exact ⟨rfl, HB2.out⟩
    rw [if_neg c3] at HZ
    have c3' : hcd = 0 := by omega
    subst c3'
    clear c3 HE
    by_cases c4 : 2000 < bn
    · have HR := HZ.out
      rw [if_pos (.inl c4)] at HR
      rw [← HR]
      clear HR HZ
      go_enter Tryd.func34, Tryd.ntmps34
      go_wp2_with fail
      refine (HI.out _).mono ?_
      rintro r w1 ⟨rfl, rfl⟩
      have q2 := HK.out.2.c2
      go_wp2_with fail
      refine (HH.out _ HK.out.1).mono ?_
      rintro r w2 ⟨rfl, hb2⟩
      have HK2 : Hid (Below w.heap.size w w2 ∧ E13 w2 w.heap.size (.string key) (.int .i64 200) (.slice ha hl hc) (.slice ba bn bc) (.int .i64 t) (.int .i64 g) (.int .i64 l) (.int .i64 s) (.int .i64 e) (.bool b1) (.bool b2) (.slice ta tn tc) (.int .i64 pins)) := ⟨HK.out.1.trans (hb2.mono HK.out.1.size), HK.out.2.keep hb2⟩
      clear hb2
      have k3 := HK2.out.2.c3
      have k4 := HK2.out.2.c4
      have k5 := HK2.out.2.c5
      have k6 := HK2.out.2.c6
      have k7 := HK2.out.2.c7
      have k8 := HK2.out.2.c8
      have k9 := HK2.out.2.c9
      have k10 := HK2.out.2.c10
      have k11 := HK2.out.2.c11
      go_wp2_with fail
      go_ret
      exact ⟨rfl, HK2.out.1⟩
    by_cases c5 : 10 < tn
    · have HR := HZ.out
      rw [if_pos (.inr c5)] at HR
      rw [← HR]
      clear HR HZ
      go_enter Tryd.func34, Tryd.ntmps34
      go_wp2_with fail
      refine (HI.out _).mono ?_
      rintro r w1 ⟨rfl, rfl⟩
      have q2 := HK.out.2.c2
      go_wp2_with fail
      refine (HH.out _ HK.out.1).mono ?_
      rintro r w2 ⟨rfl, hb2⟩
      have HK2 : Hid (Below w.heap.size w w2 ∧ E13 w2 w.heap.size (.string key) (.int .i64 200) (.slice ha hl hc) (.slice ba bn bc) (.int .i64 t) (.int .i64 g) (.int .i64 l) (.int .i64 s) (.int .i64 e) (.bool b1) (.bool b2) (.slice ta tn tc) (.int .i64 pins)) := ⟨HK.out.1.trans (hb2.mono HK.out.1.size), HK.out.2.keep hb2⟩
      clear hb2
      have k3 := HK2.out.2.c3
      have k4 := HK2.out.2.c4
      have k5 := HK2.out.2.c5
      have k6 := HK2.out.2.c6
      have k7 := HK2.out.2.c7
      have k8 := HK2.out.2.c8
      have k9 := HK2.out.2.c9
      have k10 := HK2.out.2.c10
      have k11 := HK2.out.2.c11
      go_wp2_with fail
      go_ret
      exact ⟨rfl, HK2.out.1⟩
    rw [if_neg (by omega)] at HZ
    · rw [← HZ.out]
      clear HZ
      go_enter Tryd.func34, Tryd.ntmps34
      go_wp2_with fail
      refine (HI.out _).mono ?_
      rintro r w1 ⟨rfl, rfl⟩
      have q2 := HK.out.2.c2
      go_wp2_with fail
      refine (HH.out _ HK.out.1).mono ?_
      rintro r w2 ⟨rfl, hb2⟩
      have HK2 : Hid (Below w.heap.size w w2 ∧ E13 w2 w.heap.size (.string key) (.int .i64 200) (.slice ha hl hc) (.slice ba bn bc) (.int .i64 t) (.int .i64 g) (.int .i64 l) (.int .i64 s) (.int .i64 e) (.bool b1) (.bool b2) (.slice ta tn tc) (.int .i64 pins)) := ⟨HK.out.1.trans (hb2.mono HK.out.1.size), HK.out.2.keep hb2⟩
      clear hb2
      have k3 := HK2.out.2.c3
      have k4 := HK2.out.2.c4
      have k5 := HK2.out.2.c5
      have k6 := HK2.out.2.c6
      have k7 := HK2.out.2.c7
      have k8 := HK2.out.2.c8
      have k9 := HK2.out.2.c9
      have k10 := HK2.out.2.c10
      have k11 := HK2.out.2.c11
      go_wp2_with fail
      refine (HM.out _).mono ?_
      rintro r w3 ⟨rfl, hb3⟩
      have HB3 : Hid (Below w.heap.size w w3) := HK2.out.1.trans (hb3.mono HK2.out.1.size)
      clear hb3
      go_wp2_with fail
      go_ret
      exact ⟨rfl, HB3.out⟩
  · subst h
    cases pb
    · have HR := HZ.out
      rw [if_pos rfl] at HR
      rw [← HR]
      clear HR HZ
      go_enter Tryd.func34, Tryd.ntmps34
      go_wp2_with fail
      refine (HI.out _).mono ?_
      rintro r w1 ⟨rfl, rfl⟩
      go_wp2_with fail
      go_ret
      exact ⟨rfl, HK.out.1⟩
    rw [if_neg (by decide)] at HZ
    have HE : Hid (∀ X, Below w.heap.size w X → Calls Tryd.prog 46 #[.slice ha hl hc] X fun e w' => e = .returned (.int .i64 hcd) ∧ Below X.heap.size X w') := HH
    by_cases c3 : hcd ≠ 0
    · have HR := HZ.out
      rw [if_pos c3] at HR
      rw [← HR]
      clear HR HZ
      go_enter Tryd.func34, Tryd.ntmps34
      go_wp2_with fail
      refine (HI.out _).mono ?_
      rintro r w1 ⟨rfl, rfl⟩
      have q2 := HK.out.2.c2
      go_wp2_with fail
      refine (HH.out _ HK.out.1).mono ?_
      rintro r w2 ⟨rfl, hb2⟩
      have HB2 : Hid (Below w.heap.size w w2) := HK.out.1.trans (hb2.mono HK.out.1.size)
      clear hb2
      go_wp2_with fail
      go_ret
      exact ⟨rfl, HB2.out⟩
    rw [if_neg c3] at HZ
    have c3' : hcd = 0 := by omega
    subst c3'
    clear c3 HE
    by_cases c4 : 2000 < bn
    · have HR := HZ.out
      rw [if_pos (.inl c4)] at HR
      rw [← HR]
      clear HR HZ
      go_enter Tryd.func34, Tryd.ntmps34
      go_wp2_with fail
      refine (HI.out _).mono ?_
      rintro r w1 ⟨rfl, rfl⟩
      have q2 := HK.out.2.c2
      go_wp2_with fail
      refine (HH.out _ HK.out.1).mono ?_
      rintro r w2 ⟨rfl, hb2⟩
      have HK2 : Hid (Below w.heap.size w w2 ∧ E13 w2 w.heap.size (.string key) (.int .i64 404) (.slice ha hl hc) (.slice ba bn bc) (.int .i64 t) (.int .i64 g) (.int .i64 l) (.int .i64 s) (.int .i64 e) (.bool b1) (.bool b2) (.slice ta tn tc) (.int .i64 pins)) := ⟨HK.out.1.trans (hb2.mono HK.out.1.size), HK.out.2.keep hb2⟩
      clear hb2
      have k3 := HK2.out.2.c3
      have k4 := HK2.out.2.c4
      have k5 := HK2.out.2.c5
      have k6 := HK2.out.2.c6
      have k7 := HK2.out.2.c7
      have k8 := HK2.out.2.c8
      have k9 := HK2.out.2.c9
      have k10 := HK2.out.2.c10
      have k11 := HK2.out.2.c11
      go_wp2_with fail
      go_ret
      exact ⟨rfl, HK2.out.1⟩
    by_cases c5 : 10 < tn
    · have HR := HZ.out
      rw [if_pos (.inr c5)] at HR
      rw [← HR]
      clear HR HZ
      go_enter Tryd.func34, Tryd.ntmps34
      go_wp2_with fail
      refine (HI.out _).mono ?_
      rintro r w1 ⟨rfl, rfl⟩
      have q2 := HK.out.2.c2
      go_wp2_with fail
      refine (HH.out _ HK.out.1).mono ?_
      rintro r w2 ⟨rfl, hb2⟩
      have HK2 : Hid (Below w.heap.size w w2 ∧ E13 w2 w.heap.size (.string key) (.int .i64 404) (.slice ha hl hc) (.slice ba bn bc) (.int .i64 t) (.int .i64 g) (.int .i64 l) (.int .i64 s) (.int .i64 e) (.bool b1) (.bool b2) (.slice ta tn tc) (.int .i64 pins)) := ⟨HK.out.1.trans (hb2.mono HK.out.1.size), HK.out.2.keep hb2⟩
      clear hb2
      have k3 := HK2.out.2.c3
      have k4 := HK2.out.2.c4
      have k5 := HK2.out.2.c5
      have k6 := HK2.out.2.c6
      have k7 := HK2.out.2.c7
      have k8 := HK2.out.2.c8
      have k9 := HK2.out.2.c9
      have k10 := HK2.out.2.c10
      have k11 := HK2.out.2.c11
      go_wp2_with fail
      go_ret
      exact ⟨rfl, HK2.out.1⟩
    rw [if_neg (by omega)] at HZ
    · rw [← HZ.out]
      clear HZ
      go_enter Tryd.func34, Tryd.ntmps34
      go_wp2_with fail
      refine (HI.out _).mono ?_
      rintro r w1 ⟨rfl, rfl⟩
      have q2 := HK.out.2.c2
      go_wp2_with fail
      refine (HH.out _ HK.out.1).mono ?_
      rintro r w2 ⟨rfl, hb2⟩
      have HK2 : Hid (Below w.heap.size w w2 ∧ E13 w2 w.heap.size (.string key) (.int .i64 404) (.slice ha hl hc) (.slice ba bn bc) (.int .i64 t) (.int .i64 g) (.int .i64 l) (.int .i64 s) (.int .i64 e) (.bool b1) (.bool b2) (.slice ta tn tc) (.int .i64 pins)) := ⟨HK.out.1.trans (hb2.mono HK.out.1.size), HK.out.2.keep hb2⟩
      clear hb2
      have k3 := HK2.out.2.c3
      have k4 := HK2.out.2.c4
      have k5 := HK2.out.2.c5
      have k6 := HK2.out.2.c6
      have k7 := HK2.out.2.c7
      have k8 := HK2.out.2.c8
      have k9 := HK2.out.2.c9
      have k10 := HK2.out.2.c10
      have k11 := HK2.out.2.c11
      go_wp2_with fail
      refine (HM.out _).mono ?_
      rintro r w3 ⟨rfl, hb3⟩
      have HB3 : Hid (Below w.heap.size w w3) := HK2.out.1.trans (hb3.mono HK2.out.1.size)
      clear hb3
      go_wp2_with fail
      go_ret
      exact ⟨rfl, HB3.out⟩
  · subst h
    cases pb
    · have HR := HZ.out
      rw [if_pos rfl] at HR
      rw [← HR]
      clear HR HZ
      go_enter Tryd.func34, Tryd.ntmps34
      go_wp2_with fail
      refine (HI.out _).mono ?_
      rintro r w1 ⟨rfl, rfl⟩
      go_wp2_with fail
      go_ret
      exact ⟨rfl, HK.out.1⟩
    rw [if_neg (by decide)] at HZ
    have HE : Hid (∀ X, Below w.heap.size w X → Calls Tryd.prog 46 #[.slice ha hl hc] X fun e w' => e = .returned (.int .i64 hcd) ∧ Below X.heap.size X w') := HH
    by_cases c3 : hcd ≠ 0
    · have HR := HZ.out
      rw [if_pos c3] at HR
      rw [← HR]
      clear HR HZ
      go_enter Tryd.func34, Tryd.ntmps34
      go_wp2_with fail
      refine (HI.out _).mono ?_
      rintro r w1 ⟨rfl, rfl⟩
      have q2 := HK.out.2.c2
      go_wp2_with fail
      refine (HH.out _ HK.out.1).mono ?_
      rintro r w2 ⟨rfl, hb2⟩
      have HB2 : Hid (Below w.heap.size w w2) := HK.out.1.trans (hb2.mono HK.out.1.size)
      clear hb2
      go_wp2_with fail
      go_ret
      exact ⟨rfl, HB2.out⟩
    rw [if_neg c3] at HZ
    have c3' : hcd = 0 := by omega
    subst c3'
    clear c3 HE
    by_cases c4 : 2000 < bn
    · have HR := HZ.out
      rw [if_pos (.inl c4)] at HR
      rw [← HR]
      clear HR HZ
      go_enter Tryd.func34, Tryd.ntmps34
      go_wp2_with fail
      refine (HI.out _).mono ?_
      rintro r w1 ⟨rfl, rfl⟩
      have q2 := HK.out.2.c2
      go_wp2_with fail
      refine (HH.out _ HK.out.1).mono ?_
      rintro r w2 ⟨rfl, hb2⟩
      have HK2 : Hid (Below w.heap.size w w2 ∧ E13 w2 w.heap.size (.string key) (.int .i64 410) (.slice ha hl hc) (.slice ba bn bc) (.int .i64 t) (.int .i64 g) (.int .i64 l) (.int .i64 s) (.int .i64 e) (.bool b1) (.bool b2) (.slice ta tn tc) (.int .i64 pins)) := ⟨HK.out.1.trans (hb2.mono HK.out.1.size), HK.out.2.keep hb2⟩
      clear hb2
      have k3 := HK2.out.2.c3
      have k4 := HK2.out.2.c4
      have k5 := HK2.out.2.c5
      have k6 := HK2.out.2.c6
      have k7 := HK2.out.2.c7
      have k8 := HK2.out.2.c8
      have k9 := HK2.out.2.c9
      have k10 := HK2.out.2.c10
      have k11 := HK2.out.2.c11
      go_wp2_with fail
      go_ret
      exact ⟨rfl, HK2.out.1⟩
    by_cases c5 : 10 < tn
    · have HR := HZ.out
      rw [if_pos (.inr c5)] at HR
      rw [← HR]
      clear HR HZ
      go_enter Tryd.func34, Tryd.ntmps34
      go_wp2_with fail
      refine (HI.out _).mono ?_
      rintro r w1 ⟨rfl, rfl⟩
      have q2 := HK.out.2.c2
      go_wp2_with fail
      refine (HH.out _ HK.out.1).mono ?_
      rintro r w2 ⟨rfl, hb2⟩
      have HK2 : Hid (Below w.heap.size w w2 ∧ E13 w2 w.heap.size (.string key) (.int .i64 410) (.slice ha hl hc) (.slice ba bn bc) (.int .i64 t) (.int .i64 g) (.int .i64 l) (.int .i64 s) (.int .i64 e) (.bool b1) (.bool b2) (.slice ta tn tc) (.int .i64 pins)) := ⟨HK.out.1.trans (hb2.mono HK.out.1.size), HK.out.2.keep hb2⟩
      clear hb2
      have k3 := HK2.out.2.c3
      have k4 := HK2.out.2.c4
      have k5 := HK2.out.2.c5
      have k6 := HK2.out.2.c6
      have k7 := HK2.out.2.c7
      have k8 := HK2.out.2.c8
      have k9 := HK2.out.2.c9
      have k10 := HK2.out.2.c10
      have k11 := HK2.out.2.c11
      go_wp2_with fail
      go_ret
      exact ⟨rfl, HK2.out.1⟩
    rw [if_neg (by omega)] at HZ
    · rw [← HZ.out]
      clear HZ
      go_enter Tryd.func34, Tryd.ntmps34
      go_wp2_with fail
      refine (HI.out _).mono ?_
      rintro r w1 ⟨rfl, rfl⟩
      have q2 := HK.out.2.c2
      go_wp2_with fail
      refine (HH.out _ HK.out.1).mono ?_
      rintro r w2 ⟨rfl, hb2⟩
      have HK2 : Hid (Below w.heap.size w w2 ∧ E13 w2 w.heap.size (.string key) (.int .i64 410) (.slice ha hl hc) (.slice ba bn bc) (.int .i64 t) (.int .i64 g) (.int .i64 l) (.int .i64 s) (.int .i64 e) (.bool b1) (.bool b2) (.slice ta tn tc) (.int .i64 pins)) := ⟨HK.out.1.trans (hb2.mono HK.out.1.size), HK.out.2.keep hb2⟩
      clear hb2
      have k3 := HK2.out.2.c3
      have k4 := HK2.out.2.c4
      have k5 := HK2.out.2.c5
      have k6 := HK2.out.2.c6
      have k7 := HK2.out.2.c7
      have k8 := HK2.out.2.c8
      have k9 := HK2.out.2.c9
      have k10 := HK2.out.2.c10
      have k11 := HK2.out.2.c11
      go_wp2_with fail
      refine (HM.out _).mono ?_
      rintro r w3 ⟨rfl, hb3⟩
      have HB3 : Hid (Below w.heap.size w w3) := HK2.out.1.trans (hb3.mono HK2.out.1.size)
      clear hb3
      go_wp2_with fail
      go_ret
      exact ⟨rfl, HB3.out⟩
end Go.Proofs.YtlbagfaiiileoaaDoor
/-
  The room of a TextResult behind a call.
-/
namespace Go.Proofs.YtlbagfaiiileoaaDoor
open Go.ChangeShapes Go.WideShapes Go.ChangeAt Go.RowKit
theorem text_room {w w1 : World} (hb : Below (w.heap.size + 1) (w.alloc (.cells #[.int .i64 0, .string ⟨#[]⟩] 94)) w1) :
    w.heap.size < w1.heap.size ∧ w1.cell? ⟨w.heap.size, 0, none⟩ = some (.int .i64 0) ∧ w1.cell? ⟨w.heap.size, 1, none⟩ = some (.string ⟨#[]⟩) ∧ w1.frozen? ⟨w.heap.size, 0, none⟩ = false ∧ w1.frozen? ⟨w.heap.size, 1, none⟩ = false ∧ Below w.heap.size w w1 := by
  have hz := hb.size
  simp only [World.size_alloc] at hz
  exact ⟨hz, by rw [hb.cell (p := ⟨w.heap.size, 0, none⟩) (Nat.lt_succ_self _)]; simp, by rw [hb.cell (p := ⟨w.heap.size, 1, none⟩) (Nat.lt_succ_self _)]; simp, by rw [hb.frozen (p := ⟨w.heap.size, 0, none⟩) (Nat.lt_succ_self _)]; simp, by rw [hb.frozen (p := ⟨w.heap.size, 1, none⟩) (Nat.lt_succ_self _)]; simp, ((Below.refl _ _).alloc (Nat.le_refl _) _).trans (hb.mono (Nat.le_succ _))⟩
end Go.Proofs.YtlbagfaiiileoaaDoor
/-
  What the model of PackHeaders tells.
-/
namespace Go.Proofs.YtlbagfaiiileoaaDoor
open Go.ChangeShapes Go.WideShapes Go.ChangeAt Go.RowKit Go.Sort
theorem HdsIn.ok {w : World} {a : Option Addr} {l : List Hdr} (h : HdsIn w a l) {k : Nat} {r : Hdr} (hr : l[k]? = some r) : ∃ b off, a = some ⟨b, off, none⟩ ∧ HeadsAt w b off l := by
  rcases h with h | h
  · subst h; simp at hr
  · exact h
theorem line_app (o n v : ByteArray) : (o ++ n ++ ⟨#[58, 32]⟩ ++ v ++ ⟨#[13, 10]⟩ : ByteArray).data.toList = o.data.toList ++ lineL ⟨n, v⟩ := by
  simp only [happ_list, lineL, List.append_assoc]
theorem line_app2 (o n v : ByteArray) : (o ++ (n ++ ⟨#[58, 32]⟩ ++ v ++ ⟨#[13, 10]⟩) : ByteArray).data.toList = o.data.toList ++ lineL ⟨n, v⟩ := by
  simp only [happ_list, lineL, List.append_assoc]
set_option maxRecDepth 100000 in
set_option maxHeartbeats 4000000 in
/-- Lines that have no fault, told. -/
theorem l4Pack_any (w : World) (a : Option Addr) (cap : Nat) (l : List Hdr) (h20 : l.length ≤ 100) (hf : ∀ (i : Nat) r, l[i]? = some r → r.name.size ≤ 1100 ∧ r.value.size ≤ 1100) (hi : HdsIn w a l) :
    Calls Tryd.prog 59 #[.slice a l.length cap] w fun e w' => e = .returned (.string ⟨(packL l).toArray⟩) ∧ Below w.heap.size w w' := by
  have HI : Hid (HdsIn w a l) := hi
  have HF : Hid (∀ (i : Nat) r, l[i]? = some r → r.name.size ≤ 1100 ∧ r.value.size ≤ 1100) := hf
  clear hi hf
  generalize hn : l.length = n at *
  have HN : Hid (l.length = n) := hn
  clear hn
  go_enter Tryd.func59, Tryd.ntmps59
  go_wp2_with fail
  go_loopw [3, 4] (fun v i wr => ∃ (k : Nat) (o : ByteArray), k ≤ n ∧ i = .int .i64 k ∧ v = .string o ∧ o.data.toList = packL (l.take k) ∧ o.size ≤ k * 2300 ∧ Below w.heap.size w wr) (fun _ i _ => n - (intOf i).toNat)
  case atStart => exact ⟨0, ⟨#[]⟩, Nat.zero_le _, rfl, rfl, rfl, Nat.zero_le _, Below.refl _ _⟩
  case round =>
    obtain ⟨k, o, hk, rfl, rfl, ho, hos, hb⟩ := hrel
    have HO : Hid (o.data.toList = packL (l.take k)) := ho
    clear ho
    by_cases hlt : k < n
    · obtain ⟨r, hr⟩ : ∃ r, l[k]? = some r := ⟨l[k]'(by have := HN.out; omega), List.getElem?_eq_getElem _⟩
      obtain ⟨b, off, rfl, hat⟩ := HI.out.ok hr
      obtain ⟨p1, p3⟩ := (hat.keep hb) k r hr
      obtain ⟨z1, z2⟩ := HF.out k r hr
      have HJ : Hid (packL (l.take (k + 1)) = packL (l.take k) ++ lineL r) := packL_take hr
      have x1 := cell_regrown p1
      have x3 := cell_regrown p3
      have g0 : (0 : Int) ≤ k := by omega
      have gk : (k : Int) < n := by omega
      clear hr hat HI p1 p3 HF
      obtain ⟨rn, rv⟩ := r
      simp only at x1 x3 z1 z2
      have hoz : o.size ≤ 230000 := by omega
      have HT : Hid ((o ++ rn ++ ⟨#[58, 32]⟩ ++ rv ++ ⟨#[13, 10]⟩ : ByteArray).data.toList = packL (l.take (k + 1))) := by
        show _ = _
        rw [HJ.out, line_app, HO.out]
      have zz : (⟨#[58, 32]⟩ : ByteArray).size = 2 := rfl
      have zy : (⟨#[13, 10]⟩ : ByteArray).size = 2 := rfl
      have a1 := fun w => run_string_add_sum (P := Tryd.prog) (w := w) o rn (by omega)
      have s1 : (o ++ rn).size = o.size + rn.size := ByteArray.size_append
      have a2 := fun w => run_string_add_sum (P := Tryd.prog) (w := w) (o ++ rn) ⟨#[58, 32]⟩ (by omega)
      have s2 : (o ++ rn ++ ⟨#[58, 32]⟩ : ByteArray).size = o.size + rn.size + 2 := by rw [ByteArray.size_append, s1, zz]
      have a3 := fun w => run_string_add_sum (P := Tryd.prog) (w := w) (o ++ rn ++ ⟨#[58, 32]⟩) rv (by omega)
      have s3 : (o ++ rn ++ ⟨#[58, 32]⟩ ++ rv : ByteArray).size = o.size + rn.size + 2 + rv.size := by rw [ByteArray.size_append, s2]
      have a4 := fun w => run_string_add_sum (P := Tryd.prog) (w := w) (o ++ rn ++ ⟨#[58, 32]⟩ ++ rv) ⟨#[13, 10]⟩ (by omega)
      have s4 : (o ++ rn ++ ⟨#[58, 32]⟩ ++ rv ++ ⟨#[13, 10]⟩ : ByteArray).size = o.size + rn.size + 2 + rv.size + 2 := by rw [ByteArray.size_append, s3, zy]
      have HU : Hid ((o ++ rn ++ ⟨#[58, 32]⟩ ++ rv ++ ⟨#[13, 10]⟩ : ByteArray).size ≤ (k + 1) * 2300) := by
        show _ ≤ _
        rw [s4]; omega
      clear s1 s2 s3 s4 zz zy
      clear HJ HO
      generalize (o ++ rn ++ ⟨#[58, 32]⟩ ++ rv ++ ⟨#[13, 10]⟩ : ByteArray) = q4 at *
      generalize (o ++ rn ++ ⟨#[58, 32]⟩ ++ rv : ByteArray) = q3 at *
      generalize (o ++ rn ++ ⟨#[58, 32]⟩ : ByteArray) = q2 at *
      generalize (o ++ rn : ByteArray) = q1 at *
      go_wp2_with fail
      refine wp_region_quiet_below (by kernel_rfl) (by kernel_rfl) ?_
      repeat (go_big_quiet_step (fail))
      refine wpQuiet_nil ?_
      intro w2 hw2
      have hbb : Below w.heap.size w w2 := by
        obtain ⟨⟨d, os⟩, rfl⟩ := hw2
        exact hb.trans ((below_regrown wr d os).mono hb.size)
      clear x1 x3 hw2 hb a1 a2 a3 a4
      go_wp2_with fail
      go_roundw
      case rel => exact ⟨k + 1, q4, by omega, by go_num, rfl, HT.out, HU.out, hbb⟩
      case measure => simp [intOf]; omega
    · have HT : Hid ((⟨(packL l).toArray⟩ : ByteArray) = o) := by
        show _ = _
        rw [← List.take_of_length_le (l := l) (i := k) (by have := HN.out; omega), ← HO.out]
      clear HO
      go_wp2_with fail
      go_ret
      exact ⟨ret_str HT.out.symm, hb⟩
end Go.Proofs.YtlbagfaiiileoaaDoor
/-
  Head lines read from a text, plainly. No Go in sight.
-/
namespace Go.Proofs.YtlbagfaiiileoaaDoor
/-- Where the first bytes 13 and 10 stand; the length where there are none. -/
def crAt : List UInt8 → Nat
  | [] => 0
  | [_] => 1
  | c :: d :: r => if c = 13 ∧ d = 10 then 0 else 1 + crAt (d :: r)
theorem crAt_le : ∀ l : List UInt8, crAt l ≤ l.length
  | [] => Nat.le_refl _
  | [_] => Nat.le_refl _
  | c :: d :: r => by
    have := crAt_le (d :: r)
    rw [crAt]
    split
    · exact Nat.zero_le _
    · simp only [List.length_cons] at this ⊢; omega
theorem crAt_room : ∀ l : List UInt8, crAt l < l.length → crAt l + 2 ≤ l.length
  | [], h => by simp [crAt] at h
  | [_], h => by simp [crAt] at h
  | c :: d :: r, h => by
    rw [crAt] at h ⊢
    by_cases e : c = 13 ∧ d = 10
    · rw [if_pos e]; simp only [List.length_cons]; omega
    · rw [if_neg e] at h ⊢
      have := crAt_room (d :: r) (by simp only [List.length_cons] at h ⊢; omega)
      simp only [List.length_cons] at this ⊢; omega
theorem crAt_on : ∀ (l : List UInt8) (k : Nat), k ≤ crAt l → (h : k + 1 < l.length) → (l[k] = 13 ∧ l[k + 1] = 10 → crAt l = k) ∧ (¬ (l[k] = 13 ∧ l[k + 1] = 10) → k + 1 ≤ crAt l)
  | [], k, _, h => by simp at h
  | [_], k, _, h => by simp at h
  | c :: d :: r, 0, _, h => by
    refine ⟨fun e => ?_, fun e => ?_⟩
    · rw [crAt, if_pos (by simpa using e)]
    · rw [crAt, if_neg (by simpa using e)]; omega
  | c :: d :: r, k + 1, hk, h => by
    rw [crAt] at hk ⊢
    by_cases e : c = 13 ∧ d = 10
    · rw [if_pos e] at hk; omega
    · rw [if_neg e] at hk ⊢
      have ih := crAt_on (d :: r) k (by omega) (by simp only [List.length_cons] at h ⊢; omega)
      refine ⟨fun x => ?_, fun x => ?_⟩
      · have := ih.1 (by simpa using x); omega
      · have := ih.2 (by simpa using x); omega
theorem crAt_end (l : List UInt8) (k : Nat) (hk : k ≤ crAt l) (h : ¬ k + 1 < l.length) : crAt l = l.length := by
  have h1 := crAt_le l
  by_cases c : crAt l < l.length
  · have := crAt_room l c; omega
  · omega
theorem crAt_is : ∀ l : List UInt8, crAt l < l.length → ([13, 10] : List UInt8).isPrefixOf (l.drop (crAt l)) = true
  | [], h => by simp [crAt] at h
  | [_], h => by simp [crAt] at h
  | c :: d :: r, h => by
    rw [crAt] at h ⊢
    by_cases e : c = 13 ∧ d = 10
    · rw [if_pos e]; simp [e.1, e.2, List.isPrefixOf]
    · rw [if_neg e] at h ⊢
      have := crAt_is (d :: r) (by simp only [List.length_cons] at h ⊢; omega)
      rw [show 1 + crAt (d :: r) = crAt (d :: r) + 1 from by omega, List.drop_succ_cons]
      exact this
theorem crAt_not : ∀ (l : List UInt8) (j : Nat), j < crAt l → ([13, 10] : List UInt8).isPrefixOf (l.drop j) = false
  | [], j, h => by simp [crAt] at h
  | [x], j, h => by
    have : j = 0 := by simp [crAt] at h; omega
    subst this
    simp [List.isPrefixOf]
  | c :: d :: r, j, h => by
    rw [crAt] at h
    by_cases e : c = 13 ∧ d = 10
    · rw [if_pos e] at h; omega
    · rw [if_neg e] at h
      cases j with
      | zero =>
        simp only [List.drop_zero, List.isPrefixOf, Bool.and_true]
        by_cases e1 : c = 13
        · have e2 : ¬ d = 10 := fun x => e ⟨e1, x⟩
          have : ((10 : UInt8) == d) = false := by rw [beq_eq_false_iff_ne]; exact fun x => e2 x.symm
          rw [this, Bool.and_false]
        · have : ((13 : UInt8) == c) = false := by rw [beq_eq_false_iff_ne]; exact fun x => e1 x.symm
          rw [this, Bool.false_and]
      | succ j => rw [List.drop_succ_cons]; exact crAt_not (d :: r) j (by omega)
theorem index_cr (l : List UInt8) : Lib.index l [13, 10] = if crAt l < l.length then (crAt l : Int) else -1 := by
  by_cases h : crAt l < l.length
  · rw [if_pos h]
    exact Lib.index_first (Nat.le_of_lt h) (crAt_is l h) (fun j hj => crAt_not l j hj)
  · rw [if_neg h]
    have e : crAt l = l.length := by have := crAt_le l; omega
    refine Lib.index_none fun j hj => ?_
    by_cases c : j < crAt l
    · exact crAt_not l j c
    · have : j = l.length := by omega
      subst this
      simp [Lib.occAt]
theorem cut_cr {l : List UInt8} (h : crAt l < l.length) : Lib.cut l [13, 10] = (l.take (crAt l), l.drop (crAt l + 2), true) := by
  unfold Lib.cut
  rw [index_cr, if_pos h, if_pos (by omega)]
  rfl
/-- Where the first colon stands; the length where there is none. -/
def clAt : List UInt8 → Nat
  | [] => 0
  | c :: r => if c = 58 then 0 else 1 + clAt r
theorem clAt_le : ∀ l : List UInt8, clAt l ≤ l.length
  | [] => Nat.le_refl _
  | c :: r => by
    have := clAt_le r
    rw [clAt]
    split
    · exact Nat.zero_le _
    · simp only [List.length_cons]; omega
theorem clAt_on : ∀ (l : List UInt8) (k : Nat), k ≤ clAt l → (h : k < l.length) → (l[k] = 58 → clAt l = k) ∧ (¬ l[k] = 58 → k + 1 ≤ clAt l)
  | [], k, _, h => by simp at h
  | c :: r, 0, _, h => by
    refine ⟨fun e => ?_, fun e => ?_⟩
    · rw [clAt, if_pos (by simpa using e)]
    · rw [clAt, if_neg (by simpa using e)]; omega
  | c :: r, k + 1, hk, h => by
    rw [clAt] at hk ⊢
    by_cases e : c = 58
    · rw [if_pos e] at hk; omega
    · rw [if_neg e] at hk ⊢
      have ih := clAt_on r k (by omega) (by simp only [List.length_cons] at h; omega)
      refine ⟨fun x => ?_, fun x => ?_⟩
      · have := ih.1 (by simpa using x); omega
      · have := ih.2 (by simpa using x); omega
theorem index_cl : ∀ l : List UInt8, Lib.index l [58] = if clAt l < l.length then (clAt l : Int) else -1
  | [] => by simp [Lib.index, clAt]
  | c :: r => by
    have ih := index_cl r
    rw [Lib.index, clAt]
    by_cases h : c = 58
    · rw [if_pos (by simp [List.isPrefixOf, h]), if_pos h]; simp
    · have h2 : ([58] : List UInt8).isPrefixOf (c :: r) = false := by
        simp only [List.isPrefixOf, Bool.and_true, beq_eq_false_iff_ne]
        exact fun x => h x.symm
      rw [h2, if_neg h, ih]
      by_cases q : clAt r < r.length
      · have q2 : 1 + clAt r < (c :: r).length := by simp only [List.length_cons]; omega
        have e1 : ((clAt r : Int) == -1) = false := by rw [beq_eq_false_iff_ne]; omega
        simp only [Bool.false_eq_true, if_false, if_pos q, if_pos q2, e1]
        omega
      · have q2 : ¬ 1 + clAt r < (c :: r).length := by simp only [List.length_cons]; omega
        simp only [Bool.false_eq_true, if_false, if_neg q, if_neg q2]
        rfl
theorem cut_cl {l : List UInt8} (h : clAt l < l.length) : Lib.cut l [58] = (l.take (clAt l), l.drop (clAt l + 1), true) := by
  unfold Lib.cut
  rw [index_cl, if_pos h, if_pos (by omega)]
  rfl
theorem cut_cl_no {l : List UInt8} (h : ¬ clAt l < l.length) : Lib.cut l [58] = (l, [], false) := by
  unfold Lib.cut
  rw [index_cl, if_neg h, if_neg (by omega)]
def hmk (p : List UInt8) : ByteArray := ⟨p.toArray⟩
theorem hmk_size (p : List UInt8) : (hmk p).size = p.length := by simp [hmk, ByteArray.size]
theorem hmk_list (p : List UInt8) : (hmk p).data.toList = p := by simp [hmk]
def lineOf (p : List UInt8) : Hdr := ⟨hmk (p.take (clAt p)), trimT (hmk (p.drop (clAt p + 1)))⟩
def lineR (p : List UInt8) : Option Hdr := if clAt p < p.length then some (lineOf p) else none
theorem lineR_yes {p : List UInt8} (h : clAt p < p.length) : lineR p = some (lineOf p) := by unfold lineR; rw [if_pos h]
theorem lineR_no {p : List UInt8} (h : ¬ clAt p < p.length) : lineR p = none := by unfold lineR; rw [if_neg h]
/-- The lines that the bytes 13 and 10 end; none: the last one is not ended. -/
def linesO (l : List UInt8) : Option (List (List UInt8)) :=
  if _h : l = [] then some [] else if crAt l < l.length then (linesO (l.drop (crAt l + 2))).map (l.take (crAt l) :: ·) else none
termination_by l.length
decreasing_by
  have := List.length_pos_iff.2 _h
  simp only [List.length_drop]; omega
theorem linesO_nil : linesO [] = some [] := by rw [linesO]; simp
theorem linesO_cut {l : List UInt8} (h : crAt l < l.length) : linesO l = (linesO (l.drop (crAt l + 2))).map (l.take (crAt l) :: ·) := by
  have h0 : ¬ l = [] := fun e => by subst e; simp [crAt] at h
  rw [linesO, dif_neg h0, if_pos h]
theorem linesO_bad {l : List UInt8} (h0 : ¬ l = []) (h : ¬ crAt l < l.length) : linesO l = none := by
  rw [linesO, dif_neg h0, if_neg h]
theorem linesO_len : ∀ (n : Nat) (l : List UInt8) (P : List (List UInt8)), l.length ≤ n → linesO l = some P → P.length ≤ l.length ∧ ∀ p ∈ P, p.length ≤ l.length := by
  intro n
  induction n with
  | zero =>
    intro l P hn h
    have : l = [] := List.eq_nil_of_length_eq_zero (by omega)
    subst this
    rw [linesO_nil] at h
    obtain rfl := Option.some.inj h
    simp
  | succ n ih =>
    intro l P hn h
    by_cases h0 : l = []
    · subst h0
      rw [linesO_nil] at h
      obtain rfl := Option.some.inj h
      simp
    · by_cases hc : crAt l < l.length
      · rw [linesO_cut hc] at h
        obtain ⟨Q, hQ, rfl⟩ := Option.map_eq_some_iff.1 h
        have hl := List.length_pos_iff.2 h0
        have := ih _ Q (by simp only [List.length_drop]; omega) hQ
        simp only [List.length_drop] at this
        refine ⟨by simp only [List.length_cons]; omega, fun p hp => ?_⟩
        rcases List.mem_cons.1 hp with rfl | hp
        · simp only [List.length_take]; omega
        · have := this.2 p hp; omega
      · rw [linesO_bad h0 hc] at h; cases h
theorem suffix_far {a b : UInt8} {p r : List UInt8} (h : 2 ≤ r.length) : ([a, b].isSuffixOf (p ++ r)) = ([a, b].isSuffixOf r) := by
  rw [Bool.eq_iff_iff, List.isSuffixOf_iff_suffix, List.isSuffixOf_iff_suffix]
  constructor
  · intro hs
    exact List.suffix_of_suffix_length_le hs (List.suffix_append _ _) (by simpa using h)
  · intro hs
    exact hs.trans (List.suffix_append _ _)
theorem linesO_suffix : ∀ (n : Nat) (l : List UInt8), l.length ≤ n → ¬ l = [] → (linesO l).isSome = ([13, 10] : List UInt8).isSuffixOf l := by
  intro n
  induction n with
  | zero => intro l hn h0; exact absurd (List.eq_nil_of_length_eq_zero (by omega)) h0
  | succ n ih =>
    intro l hn h0
    by_cases hc : crAt l < l.length
    · have hr := crAt_room l hc
      have hi := crAt_is l hc
      rw [linesO_cut hc, Option.isSome_map]
      have e : l = l.take (crAt l) ++ ([13, 10] ++ l.drop (crAt l + 2)) := by
        have h1 := (List.take_append_drop (crAt l) l).symm
        obtain ⟨t, ht⟩ := List.isPrefixOf_iff_prefix.1 hi
        have h2 : t = l.drop (crAt l + 2) := by
          have := congrArg (List.drop 2) ht
          simp only [List.drop_drop] at this
          simpa using this
        rw [← h2, ht]
        exact h1
      by_cases h3 : l.drop (crAt l + 2) = []
      · rw [h3, linesO_nil]
        rw [h3] at e
        symm
        rw [Option.isSome_some, List.isSuffixOf_iff_suffix, e]
        exact List.suffix_append _ _
      · rw [ih _ (by simp only [List.length_drop]; have := List.length_pos_iff.2 h0; omega) h3]
        generalize l.drop (crAt l + 2) = r at *
        generalize l.take (crAt l) = p at *
        subst e
        by_cases h4 : 2 ≤ r.length
        · rw [← List.append_assoc, suffix_far h4]
        · match r, h3, h4 with
          | [x], _, _ =>
            rw [Bool.eq_iff_iff, List.isSuffixOf_iff_suffix, List.isSuffixOf_iff_suffix]
            constructor
            · intro hs; have := hs.length_le; simp at this
            · rintro ⟨q, hq⟩
              have hq2 : (q ++ [13]) ++ [10] = (p ++ [13]) ++ ([10] ++ [x]) := by simpa using hq
              have h5 := congrArg List.reverse hq2
              simp at h5
          | _ :: _ :: _, _, h4 => exact absurd (by simp) h4
    · rw [linesO_bad h0 hc]
      symm
      rw [Option.isSome_none]
      cases hs : ([13, 10] : List UInt8).isSuffixOf l
      · rfl
      · obtain ⟨q, hq⟩ := List.isSuffixOf_iff_suffix.1 hs
        have hl : l.length = q.length + 2 := by rw [← hq]; simp
        have := crAt_le l
        have hn2 := crAt_not l q.length (by omega)
        rw [← hq] at hn2
        simp [List.isPrefixOf] at hn2
/-- All lines read. -/
def readLs : List (List UInt8) → Option (List Hdr)
  | [] => some []
  | p :: ps => match lineR p with
    | none => none
    | some r => (readLs ps).map (r :: ·)
theorem readLs_bad {p : List UInt8} {ps : List (List UInt8)} (h : ¬ clAt p < p.length) : readLs (p :: ps) = none := by rw [readLs, lineR_no h]
theorem readLs_take {p : List UInt8} {ps : List (List UInt8)} (h : clAt p < p.length) : readLs (p :: ps) = (readLs ps).map (lineOf p :: ·) := by rw [readLs, lineR_yes h]
def readT (l : List UInt8) : Option (List Hdr) := (linesO l).bind readLs
theorem readT_nil : readT [] = some [] := by unfold readT; rw [linesO_nil]; rfl
theorem readT_bad {l : List UInt8} (h : crAt l < l.length) (h2 : ¬ clAt (l.take (crAt l)) < (l.take (crAt l)).length) : readT l = none := by
  unfold readT
  rw [linesO_cut h]
  cases linesO (l.drop (crAt l + 2)) with
  | none => rfl
  | some P => simp only [Option.map_some, Option.bind_some]; rw [readLs_bad h2]
theorem readT_take {l : List UInt8} (h : crAt l < l.length) (h2 : clAt (l.take (crAt l)) < (l.take (crAt l)).length) : readT l = (readT (l.drop (crAt l + 2))).map (lineOf (l.take (crAt l)) :: ·) := by
  unfold readT
  rw [linesO_cut h]
  cases linesO (l.drop (crAt l + 2)) with
  | none => rfl
  | some P => simp only [Option.map_some, Option.bind_some]; rw [readLs_take h2]
def readHC (s : ByteArray) : Int := if 6000 < s.size then 2 else match readT s.data.toList with
  | none => 5
  | some L => headsC L
def readHL (s : ByteArray) : List Hdr := if 6000 < s.size then [] else match readT s.data.toList with
  | none => []
  | some L => if headsC L = 0 then L else []
theorem readH_long {s : ByteArray} (h : 6000 < s.size) : readHC s = 2 ∧ readHL s = [] := by unfold readHC readHL; rw [if_pos h, if_pos h]; exact ⟨rfl, rfl⟩
theorem readH_bad {s : ByteArray} (h : ¬ 6000 < s.size) (hr : readT s.data.toList = none) : readHC s = 5 ∧ readHL s = [] := by unfold readHC readHL; rw [if_neg h, if_neg h, hr]; exact ⟨rfl, rfl⟩
theorem readH_fault {s : ByteArray} {L : List Hdr} (h : ¬ 6000 < s.size) (hr : readT s.data.toList = some L) (hL : headsC L ≠ 0) : readHC s = headsC L ∧ readHL s = [] := by
  unfold readHC readHL; rw [if_neg h, if_neg h, hr]; exact ⟨rfl, if_neg hL⟩
theorem readH_ok {s : ByteArray} {L : List Hdr} (h : ¬ 6000 < s.size) (hr : readT s.data.toList = some L) (hL : headsC L = 0) : readHC s = 0 ∧ readHL s = L := by
  unfold readHC readHL; rw [if_neg h, if_neg h, hr]; exact ⟨hL, if_pos hL⟩
theorem readHL_len (s : ByteArray) : (readHL s).length ≤ 20 := by
  unfold readHL
  by_cases h : 6000 < s.size
  · rw [if_pos h]; exact Nat.zero_le _
  · rw [if_neg h]
    split
    · exact Nat.zero_le _
    · split
      · rename_i hc; exact (headsC_zero hc).1
      · exact Nat.zero_le _
end Go.Proofs.YtlbagfaiiileoaaDoor
/-
  Head lines that were packed are read back, plainly. No Go in sight.
-/
namespace Go.Proofs.YtlbagfaiiileoaaDoor
theorem trim_space {v : List UInt8} (h : Lib.trimS v [32, 9] = v) : Lib.trimS (32 :: v) [32, 9] = v := by
  unfold Lib.trimS Lib.trimLeftS Lib.trimRightS at *
  have p32 : ([32, 9] : List UInt8).contains 32 = true := by decide
  generalize hp : (fun x => ([32, 9] : List UInt8).contains x) = p at *
  have q32 : p 32 = true := by rw [← hp]; exact p32
  have l1 : ((v.reverse.dropWhile p).reverse.dropWhile p).length ≤ (v.reverse.dropWhile p).reverse.length := (List.dropWhile_sublist p).length_le
  have l2 : (v.reverse.dropWhile p).length ≤ v.reverse.length := (List.dropWhile_sublist p).length_le
  rw [h] at l1
  rw [List.length_reverse] at l1
  have e1 : v.reverse.dropWhile p = v.reverse := (List.dropWhile_sublist p).eq_of_length (by rw [List.length_reverse] at l2 ⊢; omega)
  rw [e1, List.reverse_reverse] at h
  cases hv : v.reverse with
  | nil =>
    have : v = [] := by simpa using hv
    subst this
    simp [q32]
  | cons x t =>
    rw [hv] at e1
    have hx : p x = false := by
      cases hpx : p x with
      | false => rfl
      | true =>
        rw [List.dropWhile_cons_of_pos hpx] at e1
        have := (List.dropWhile_sublist p (l := t)).length_le
        rw [e1, List.length_cons] at this
        omega
    have e2 : (32 :: v).reverse.dropWhile p = (32 :: v).reverse := by
      rw [List.reverse_cons, hv, List.cons_append, List.dropWhile_cons_of_neg (by rw [hx]; decide)]
    rw [e2, List.reverse_reverse, List.dropWhile_cons_of_pos q32]
    exact h
theorem crAt_line : ∀ (b r : List UInt8), (∀ c ∈ b, c ≠ 13) → crAt (b ++ 13 :: 10 :: r) = b.length
  | [], r, _ => by simp [crAt]
  | c :: b, r, h => by
    have ih := crAt_line b r (fun c hc => h c (by simp [hc]))
    obtain ⟨d, t, e⟩ : ∃ d t, b ++ 13 :: 10 :: r = d :: t := by cases b <;> simp
    rw [List.cons_append, e, crAt, if_neg (fun x => h c (by simp) x.1), ← e, ih]
    simp only [List.length_cons]; omega
theorem clAt_line : ∀ (n t : List UInt8), (∀ c ∈ n, c ≠ 58) → clAt (n ++ 58 :: t) = n.length
  | [], t, _ => by simp [clAt]
  | c :: n, t, h => by
    have ih := clAt_line n t (fun c hc => h c (by simp [hc]))
    rw [List.cons_append, clAt, if_neg (h c (by simp)), ih]
    simp only [List.length_cons]; omega
theorem word_mem {s : ByteArray} (h : wordS s = true) : ∀ c ∈ s.data.toList, c ≠ 58 ∧ c ≠ 13 := by
  have h2 : allW s.data.toList = true := by
    simp only [wordS, Bool.and_eq_true] at h
    exact h.2
  intro c hc
  have := List.all_eq_true.1 h2 c hc
  refine ⟨fun e => ?_, fun e => ?_⟩ <;> subst e <;> revert this <;> decide +kernel
theorem plain_mem {l : List UInt8} (h : plainL l = true) : ∀ c ∈ l, c ≠ 13 := by
  intro c hc e
  have := List.all_eq_true.1 h c hc
  subst e
  revert this
  decide
theorem lineOf_back {r : Hdr} (h : faultH r = 0) : lineOf (r.name.data.toList ++ 58 :: 32 :: r.value.data.toList) = r := by
  obtain ⟨hw, _, _, ht⟩ := faultH_zero h
  have hc := clAt_line r.name.data.toList (32 :: r.value.data.toList) (fun c hc => (word_mem hw c hc).1)
  unfold lineOf
  rw [hc, List.take_left]
  have e2 : (r.name.data.toList ++ 58 :: 32 :: r.value.data.toList).drop (r.name.data.toList.length + 1) = 32 :: r.value.data.toList := by
    rw [← List.drop_drop, List.drop_left]; rfl
  rw [e2]
  obtain ⟨n, v⟩ := r
  simp only at *
  have hn : hmk n.data.toList = n := (hof_list rfl).symm
  have hvv : trimT (hmk (32 :: v.data.toList)) = v := by
    have hv : Lib.trimS v.data.toList [32, 9] = v.data.toList := by
      have := congrArg (fun b : ByteArray => b.data.toList) ht
      simpa [trimT] using this
    unfold trimT
    rw [hmk_list, trim_space hv]
  rw [hn, hvv]
theorem read_pack : ∀ l : List Hdr, (∀ r ∈ l, faultH r = 0) → readT (packL l) = some l
  | [], _ => readT_nil
  | r :: l, h => by
    have ih := read_pack l (fun q hq => h q (by simp [hq]))
    have h0 := h r (by simp)
    obtain ⟨hw, hz, hp, ht⟩ := faultH_zero h0
    have hb := lineOf_back h0
    have hcl := clAt_line r.name.data.toList (32 :: r.value.data.toList) (fun c hc => (word_mem hw c hc).1)
    have e : packL (r :: l) = (r.name.data.toList ++ 58 :: 32 :: r.value.data.toList) ++ 13 :: 10 :: packL l := by simp [packL, lineL]
    have h13 : ∀ c ∈ r.name.data.toList ++ 58 :: 32 :: r.value.data.toList, c ≠ 13 := by
      intro c hc
      simp only [List.mem_append, List.mem_cons] at hc
      rcases hc with hc | rfl | rfl | hc
      · exact (word_mem hw c hc).2
      · decide
      · decide
      · exact plain_mem hp c hc
    have hlt : clAt (r.name.data.toList ++ 58 :: 32 :: r.value.data.toList) < (r.name.data.toList ++ 58 :: 32 :: r.value.data.toList).length := by rw [hcl]; simp only [List.length_append, List.length_cons]; omega
    rw [e]
    generalize r.name.data.toList ++ 58 :: 32 :: r.value.data.toList = b at *
    have hc := crAt_line b (packL l) h13
    have t1 : (b ++ 13 :: 10 :: packL l).take b.length = b := List.take_left
    have t2 : (b ++ 13 :: 10 :: packL l).drop (b.length + 2) = packL l := by rw [← List.drop_drop, List.drop_left]; rfl
    rw [readT_take (by rw [hc]; simp only [List.length_append, List.length_cons]; omega) (by rw [hc, t1]; exact hlt), hc, t1, t2, ih, hb]
    rfl
theorem packL_len4 : ∀ l : List Hdr, (∀ r ∈ l, faultH r = 0) → (packL l).length ≤ l.length * 268
  | [], _ => by simp [packL]
  | r :: l, h => by
    have ih := packL_len4 l (fun q hq => h q (by simp [hq]))
    have := lineL_len (h r (by simp))
    have e : packL (r :: l) = lineL r ++ packL l := by simp [packL]
    rw [e, List.length_append, List.length_cons]
    omega
theorem heads_mem {l : List Hdr} (h : headsC l = 0) : l.length ≤ 20 ∧ ∀ r ∈ l, faultH r = 0 := by
  obtain ⟨h1, h2⟩ := headsC_zero h
  refine ⟨h1, fun r hr => ?_⟩
  obtain ⟨i, hi⟩ := List.mem_iff_getElem?.1 hr
  exact h2 i r hi
theorem heads_of {l : List Hdr} (h1 : l.length ≤ 20) (h2 : ∀ r ∈ l, faultH r = 0) : headsC l = 0 := by rw [headsC_few (by omega)]; exact faultHL_of l h2
theorem pack_read {l : List Hdr} (h : headsC l = 0) : readHC (packT l) = 0 ∧ readHL (packT l) = l := by
  obtain ⟨h1, h2⟩ := heads_mem h
  have hl := packL_len4 l h2
  have hr := read_pack l h2
  rw [packT_ok h]
  exact readH_ok (by show ¬ 6000 < (packL l).toArray.size; rw [List.size_toArray]; omega) hr h
theorem read_heads {s : ByteArray} (h : readHC s = 0) : headsC (readHL s) = 0 := by
  by_cases c : 6000 < s.size
  · rw [(readH_long c).1] at h; omega
  · cases hr : readT s.data.toList with
    | none => rw [(readH_bad c hr).1] at h; omega
    | some L =>
      by_cases hL : headsC L = 0
      · rw [(readH_ok c hr hL).2]; exact hL
      · rw [(readH_fault c hr hL).1] at h; exact absurd h hL
end Go.Proofs.YtlbagfaiiileoaaDoor
/-
  What an entry costs, by the specification.
-/
namespace Go.Proofs.YtlbagfaiiileoaaDoor
open Go.ChangeShapes Go.WideShapes Go.ChangeAt Go.RowKit Go.Sort
/-- What an entry costs that has no fault. -/
def costN (key : ByteArray) (hs : List Hdr) (bn : Nat) : Int := 50 + ((key.size : Int) + ((packL hs).length : Int) + (bn : Int))
set_option maxHeartbeats 2000000 in
theorem l8Cost_at (w : World) (b off : Nat) (key : ByteArray) (ha : Option Addr) (hc : Nat) (hs : List Hdr) (ba : Option Addr) (bn bc : Nat)
    (h0 : w.cell? ⟨b, off, none⟩ = some (.string key)) (h2 : w.cell? ⟨b, off + 2, none⟩ = some (.slice ha hs.length hc)) (h3 : w.cell? ⟨b, off + 3, none⟩ = some (.slice ba bn bc))
    (hk : key.size ≤ 500) (hb : bn ≤ 2000) (hh : headsC hs = 0) (hH : HdsIn w ha hs) :
    Calls Tryd.prog 48 #[.pointer (some ⟨b, off, none⟩)] w fun r w' => r = .returned (.int .i64 (costN key hs bn)) ∧ Below w.heap.size w w' := by
  obtain ⟨h20, hfl⟩ := headsC_zero hh
  have hlen := packL_len4 hs (fun r hr => by obtain ⟨i, hi⟩ := List.mem_iff_getElem?.1 hr; exact hfl i r hi)
  have HC : Hid (∀ X, Below w.heap.size w X → Calls Tryd.prog 59 #[.slice ha hs.length hc] X fun e w' => e = .returned (.string ⟨(packL hs).toArray⟩) ∧ Below X.heap.size X w') := fun X hX => l4Pack_any X ha hc hs (by omega) (fun i r hr => by obtain ⟨x1, x2, _⟩ := faultH_zero (hfl i r hr); exact ⟨Nat.le_trans (hword_max x1) (by omega), by omega⟩) (hH.keep hX)
  have hsz : ((⟨(packL hs).toArray⟩ : ByteArray).size : Int) = ((packL hs).length : Int) := by simp [ByteArray.size]
  unfold costN
  have hlt : b < w.heap.size := block_lt_of_cell h0
  have HKS : Hid (∀ X, Below w.heap.size w X → X.cell? ⟨b, off, none⟩ = some (.string key) ∧ X.cell? ⟨b, off + 2, none⟩ = some (.slice ha hs.length hc) ∧ X.cell? ⟨b, off + 3, none⟩ = some (.slice ba bn bc)) := fun X hX => ⟨by rw [hX.cell (p := ⟨b, off, none⟩) hlt]; exact h0, by rw [hX.cell (p := ⟨b, off + 2, none⟩) hlt]; exact h2, by rw [hX.cell (p := ⟨b, off + 3, none⟩) hlt]; exact h3⟩
  generalize hP : (⟨(packL hs).toArray⟩ : ByteArray) = pk at *
  rw [← hsz]
  have hpk : pk.size ≤ 5360 := by omega
  clear hH hfl hlen hsz hh hP h20 h2 h3
  generalize hs.length = hl at *
  have B0 : Hid (Below w.heap.size w w.drew) := (Below.refl _ _).drew
  go_enter Tryd.func48, Tryd.ntmps48
  go_wp2_with fail
  go_region_held3 (fun X => X.cell? ⟨b, off, none⟩ = some (.string key) ∧ X.cell? ⟨b, off + 2, none⟩ = some (.slice ha hl hc) ∧ X.cell? ⟨b, off + 3, none⟩ = some (.slice ba bn bc))
    (first | exact HKS.out _ BA.out | exact HKS.out _ B0.out)
    (first | (go_at_call 59; refine (HC.out _ B0.out).mono ?_; rintro e0 wa ⟨rfl, hba⟩; have BA : Hid (Below w.heap.size w wa) := B0.out.trans (hba.mono B0.out.size); clear hba))
  all_goals
    have e1 : IntKind.i64.wrap ((key.size : Int) + (pk.size : Int)) = (key.size : Int) + (pk.size : Int) := by
      unfold IntKind.wrap; simp [IntKind.signed, IntKind.bits]; omega
    have e2 : IntKind.i64.wrap ((key.size : Int) + (pk.size : Int) + (bn : Int)) = (key.size : Int) + (pk.size : Int) + (bn : Int) := by
      unfold IntKind.wrap; simp [IntKind.signed, IntKind.bits]; omega
    have e3 : IntKind.i64.wrap (50 + ((key.size : Int) + (pk.size : Int) + (bn : Int))) = 50 + ((key.size : Int) + (pk.size : Int) + (bn : Int)) := by
      unfold IntKind.wrap; simp [IntKind.signed, IntKind.bits]; omega
    go_wp2_with fail
    rw [e1, e2, e3]
    go_ret
    exact ⟨rfl, BA.out⟩
end Go.Proofs.YtlbagfaiiileoaaDoor
/-
  What is kept with an answer: ages and phases, on both sides.
-/
namespace Go.Proofs.YtlbagfaiiileoaaDoor
open Go.ChangeShapes Go.WideShapes Go.ChangeAt Go.RowKit Go.Sort
def firstP (b1 b2 : Bool) : Int := if b2 = true then 3 else if b1 = true then 2 else 1
end Go.Proofs.YtlbagfaiiileoaaDoor
/-
  CostOf, by the specification.
-/
namespace Go.Proofs.YtlbagfaiiileoaaDoor
open Go.ChangeShapes Go.WideShapes Go.ChangeAt Go.RowKit Go.Sort
theorem entryC_zero {key : ByteArray} {st pins : Int} {hs : List Hdr} {bn tn : Nat} {t g l s e : Int} (h : entryC key st pins hs bn tn t g l s e = 0) : (1 ≤ key.size ∧ key.size ≤ 500) ∧ stB st = true ∧ pinB pins = true ∧ headsC hs = 0 ∧ bn ≤ 2000 ∧ tn ≤ 10 ∧ metaC t g l s e = 0 := by
  unfold entryC at h
  split at h
  · omega
  split at h
  · omega
  split at h
  · contradiction
  split at h
  · omega
  rename_i c1 c2 c3 c4
  have hb : stB st = true ∧ pinB pins = true := by cases x : stB st <;> cases y : pinB pins <;> simp_all
  exact ⟨by omega, hb.1, hb.2, by omega, by omega, by omega, h⟩
end Go.Proofs.YtlbagfaiiileoaaDoor
/-
  What a store's fault is, plainly; what entries cost, by the model.
-/
namespace Go.Proofs.YtlbagfaiiileoaaDoor
open Go.ChangeShapes Go.WideShapes Go.ChangeAt Go.RowKit Go.Sort
def entC (x : Ent) : Int := entryC x.key x.st x.pins x.hs x.bl.length x.ts.length x.t x.g x.l x.s x.e
def entN (x : Ent) : Int := costN x.key x.hs x.bl.length
def faultE : List Ent → Int
  | [] => 0
  | x :: l => if entC x ≠ 0 then entC x else faultE l
def costsE : List Ent → Int
  | [] => 0
  | x :: l => entN x + costsE l
def keysE (l : List Ent) : List (List UInt8) := l.map (fun x => x.key.toList)
def dupE (l : List Ent) : Bool := !decide (keysE l).Nodup
def storeC (bu gu : Int) (tl kl : List Ent) : Int :=
  if bu < 0 ∨ 1000000 < bu ∨ gu < 0 ∨ bu < gu then 3 else
  if 40 < tl.length + kl.length then 2 else
  if faultE (tl ++ kl) ≠ 0 then faultE (tl ++ kl) else
  if dupE (tl ++ kl) = true then 6 else
  if bu < costsE (tl ++ kl) ∨ gu < costsE kl then 7 else 0
theorem faultE_zero : ∀ {l : List Ent}, faultE l = 0 → ∀ x ∈ l, entC x = 0
  | [], _, x, hx => by simp at hx
  | y :: l, h, x, hx => by
    unfold faultE at h
    by_cases c : entC y = 0
    · rw [if_neg (by simpa using c)] at h
      rcases List.mem_cons.1 hx with rfl | hx
      · exact c
      · exact faultE_zero h x hx
    · rw [if_pos c] at h; exact absurd h c
theorem faultE_app (l m : List Ent) (h : faultE (l ++ m) = 0) : faultE l = 0 ∧ faultE m = 0 := by
  induction l with
  | nil => exact ⟨rfl, h⟩
  | cons x l ih =>
    simp only [List.cons_append, faultE] at h ⊢
    by_cases c : entC x = 0
    · rw [if_neg (by simpa using c)] at h ⊢; exact ih h
    · rw [if_pos c] at h; exact absurd h c
theorem entN_le {x : Ent} (h : entC x = 0) : 0 ≤ entN x ∧ entN x ≤ 8000 := by
  obtain ⟨z1, _, _, z4, z5, _, _⟩ := entryC_zero h
  obtain ⟨h20, hfl⟩ := headsC_zero z4
  have hlen := packL_len4 x.hs (fun r hr => by obtain ⟨i, hi⟩ := List.mem_iff_getElem?.1 hr; exact hfl i r hi)
  unfold entN costN
  omega
theorem costsE_le : ∀ (l : List Ent), (∀ x ∈ l, entC x = 0) → 0 ≤ costsE l ∧ costsE l ≤ 8000 * l.length
  | [], _ => ⟨by simp [costsE], by simp [costsE]⟩
  | x :: l, h => by
    have a := entN_le (h x (by simp))
    have b := costsE_le l (fun y hy => h y (by simp [hy]))
    simp only [costsE, List.length_cons]
    omega
theorem costsE_app (l m : List Ent) : costsE (l ++ m) = costsE l + costsE m := by
  induction l with
  | nil => simp [costsE]
  | cons x l ih => simp only [List.cons_append, costsE, ih]; omega
set_option maxRecDepth 100000 in
set_option maxHeartbeats 4000000 in
theorem l8Costs_any (w : World) (a : Option Addr) (cap : Nat) (l : List (Ent × EntR)) (hl : l.length ≤ 40) (hi : EntsIn w a l) (hz : ∀ q ∈ l, entC q.1 = 0) :
    Calls Tryd.prog 35 #[.slice a l.length cap] w fun e w' => e = .returned (.int .i64 (costsE (l.map Prod.fst))) ∧ Below w.heap.size w w' := by
  have HI : Hid (EntsIn w a l) := hi
  have HZ : Hid (∀ q ∈ l, entC q.1 = 0) := hz
  clear hi hz
  obtain ⟨S, hS⟩ : ∃ S, Hid (costsE (l.map Prod.fst) = S) := ⟨_, rfl⟩
  rw [hS.out]
  generalize hn : l.length = n at *
  have HN : Hid (l.length = n) := hn
  clear hn
  go_enter Tryd.func35, Tryd.ntmps35
  go_wp2_with fail
  go_loopw [3, 4] (fun x i wr => ∃ (k : Nat) (c : Int), k ≤ n ∧ i = .int .i64 k ∧ x = .int .i64 c ∧ 0 ≤ c ∧ c ≤ 8000 * k ∧ S = c + costsE ((l.map Prod.fst).drop k) ∧ Below w.heap.size w wr) (fun _ i _ => n - (intOf i).toNat)
  case atStart => exact ⟨0, 0, Nat.zero_le _, rfl, rfl, by omega, by omega, by rw [← hS.out]; simp, Below.refl _ _⟩
  case round =>
    obtain ⟨k, c, hk, rfl, rfl, c2, c3, hs, hb⟩ := hrel
    have HS : Hid (S = c + costsE ((l.map Prod.fst).drop k)) := hs
    clear hs hS
    by_cases hlt : k < n
    · obtain ⟨q, hr⟩ : ∃ r, l[k]? = some r := ⟨l[k]'(by have := HN.out; omega), List.getElem?_eq_getElem _⟩
      rcases HI.out with h | ⟨b, off, rfl, hat⟩
      · subst h; simp at hr
      have PC := (hat.keep hb).cells hr
      have hin := (hat.keep hb).in hr
      have h0 := HZ.out q (List.mem_of_getElem? hr)
      have hle := entN_le h0
      have HS2 : Hid (S = c + entN q.1 + costsE ((l.map Prod.fst).drop (k + 1))) := by
        show _ = _
        obtain ⟨hk2, hr2⟩ := List.getElem?_eq_some_iff.1 hr
        rw [HS.out, List.drop_eq_getElem_cons (i := k) (by simpa using hk2), costsE]
        simp [hr2]
        omega
      have C : Hid (Calls Tryd.prog 48 #[.pointer (some ⟨b, off + k * 13, none⟩)] wr fun r w' => r = .returned (.int .i64 (entN q.1)) ∧ Below wr.heap.size wr w') := by
        obtain ⟨z1, _, _, z4, z5, _, _⟩ := entryC_zero h0
        exact l8Cost_at wr b (off + k * 13) q.1.key q.2.ha q.2.hc q.1.hs q.2.ba q.1.bl.length q.2.bc PC.1 PC.2.2.1 PC.2.2.2.1 z1.2 z5 z4 hin.h
      have g : (k : Int) < n := by omega
      have g0 : (0 : Int) ≤ k := by omega
      clear HS hr hat HI HZ PC hin h0
      generalize entN q.1 = en at *
      have e1 : IntKind.i64.wrap (c + en) = c + en := by
        unfold IntKind.wrap; simp [IntKind.signed, IntKind.bits]; omega
      go_wp2_with fail
      refine C.out.mono ?_
      rintro r w2 ⟨rfl, hb2⟩
      have HB2 : Hid (Below w.heap.size w w2) := hb.trans (hb2.mono hb.size)
      clear hb2 C hb
      go_wp2_with fail
      go_roundw
      case rel => exact ⟨k + 1, c + en, by omega, by go_num, by first | rfl | rw [e1], by omega, by omega, HS2.out, HB2.out⟩
      case measure => simp [intOf]; omega
    · have HF : Hid (S = c) := by
        show _ = _
        rw [HS.out, List.drop_of_length_le (by have := HN.out; simp; omega), costsE]
        omega
      clear HS
      go_wp2_with fail
      go_ret
      exact ⟨ret_int HF.out.symm, hb⟩
end Go.Proofs.YtlbagfaiiileoaaDoor
/-
  What isPlain and allPlain answer.
-/
namespace Go.Proofs.YtlbagfaiiileoaaDoor
open Go.ChangeShapes Go.WideShapes Go.ChangeAt Go.RowKit
set_option maxHeartbeats 400000 in
theorem iplain_any (c : Int) (w : World) (h0 : 0 ≤ c) (h1 : c < 256) :
    Calls Tryd.prog 68 #[.int .u8 c] w fun e w' => e = .returned (.bool (plainI c)) ∧ w' = w := by
  by_cases e9 : c = 9
  · subst e9
    go_enter Tryd.func68, Tryd.ntmps68
    go_wp2
    go_ret
    exact ⟨rfl, rfl⟩
  · have d9 : (c == 9) = false := by simpa using e9
    by_cases a1 : 32 ≤ c
    · by_cases a2 : c ≤ 126
      · have d2 : decide (c ≤ 126) = true := by simpa using a2
        have HP : Hid (plainI c = true) := by show _ = _; simp [plainI, a1, a2]
        go_enter Tryd.func68, Tryd.ntmps68
        go_wp2
        go_ret
        exact ⟨ret_bool HP.out.symm, rfl⟩
      · have d2 : decide (c ≤ 126) = false := by simpa using a2
        have HP : Hid (plainI c = false) := by show _ = _; simp [plainI, e9]; omega
        go_enter Tryd.func68, Tryd.ntmps68
        go_wp2
        go_ret
        exact ⟨ret_bool HP.out.symm, rfl⟩
    · have HP : Hid (plainI c = false) := by show _ = _; simp [plainI, e9]; omega
      go_enter Tryd.func68, Tryd.ntmps68
      go_wp2
      go_ret
      exact ⟨ret_bool HP.out.symm, rfl⟩
set_option maxHeartbeats 1000000 in
theorem allPlain_any (s : ByteArray) (w : World) (hs : s.size ≤ 1048576) :
    Calls Tryd.prog 64 #[.string s] w fun e w' => e = .returned (.bool (plainL s.data.toList)) ∧ w' = w := by
  go_enter Tryd.func64, Tryd.ntmps64
  go_wp2
  go_loop [6] (fun i => ∃ k : Nat, k ≤ s.size ∧ i = .int .i64 k ∧ plainL (s.data.toList.take k) = true) (fun i => s.size - (intOf i).toNat)
  case atStart => exact ⟨0, Nat.zero_le _, rfl, rfl⟩
  case round =>
    obtain ⟨k, hk, rfl, hall⟩ := hrel
    by_cases hlt : k < s.size
    · have hb : ((s[k].toNat : Nat) : Int) < 256 := by have := s[k].toNat_lt; omega
      cases hw : plainI (s[k].toNat : Int)
      · have HN : Hid (plainL s.data.toList = false) := plainL_not s k hlt hw
        have HW : Hid (plainI (s[k].toNat : Int) = false) := hw
        clear hall hw
        go_wp2_with fail
        refine (iplain_any _ _ (by omega) hb).mono ?_
        rintro e w' ⟨rfl, rfl⟩
        rw [HW.out]
        go_wp2
        go_ret
        exact ⟨ret_bool HN.out.symm, rfl⟩
      · have HA : Hid (plainL (s.data.toList.take (k + 1)) = true) := by
          show _ = _
          rw [take_snoc s k hlt, plainL_snoc, hall, hw]; rfl
        have HW : Hid (plainI (s[k].toNat : Int) = true) := hw
        clear hall hw
        go_wp2_with fail
        refine (iplain_any _ _ (by omega) hb).mono ?_
        rintro e w' ⟨rfl, rfl⟩
        rw [HW.out]
        go_wp2
        go_round
        case rel => exact ⟨k + 1, by omega, by go_num, HA.out⟩
        case measure => simp [intOf]; omega
    · have ek : s.data.toList.take k = s.data.toList := List.take_of_length_le (by simp; omega)
      rw [ek] at hall
      have HN : Hid (plainL s.data.toList = true) := hall
      clear ek hall
      go_wp2
      go_ret
      exact ⟨ret_bool HN.out.symm, rfl⟩
end Go.Proofs.YtlbagfaiiileoaaDoor
/-
  What IsWord answers where the table lies in memory as the program lays it.
-/
namespace Go.Proofs.YtlbagfaiiileoaaDoor
open Go.ChangeShapes Go.WideShapes Go.ChangeAt Go.RowKit
set_option maxHeartbeats 400000 in
theorem implIsWord_size (s : ByteArray) (w : World) (h : s.size < 1 ∨ 64 < s.size) :
    Calls Tryd.prog 32 #[.string s] w fun e w' => e = .returned (.bool false) ∧ Below w.heap.size w w' := by
  rcases h with h | h
  · have hh : (s.size : Int) < 1 := by omega
    go_enter Tryd.func32, Tryd.ntmps32
    go_wp2
    go_ret
    exact ⟨rfl, Below.refl _ _⟩
  · have hh : (64 : Int) < s.size := by omega
    have h1 : (1 : Int) ≤ s.size := by omega
    have d : decide ((s.size : Int) ≤ 64) = false := by simp; omega
    go_enter Tryd.func32, Tryd.ntmps32
    go_wp2
    go_ret
    exact ⟨rfl, Below.refl _ _⟩
/-- A whole array loaded behind a guard that lets it. -/
theorem wpList_load_row_g {P : Program} {ops : Array Oper} {rest : List Oper} {o : Oper} {a : Act} {w : World} {Q : Exit → Act → World → Prop} (hw : Region.wanted o (yielded ops a.tmps) = true) (ty : TypeId) (x : Operand) (ho : o.op = .load ty x)
    (g : Nat) (hx : a.eval x = .pointer (some ⟨g, 0, none⟩)) (t : TypeId) (cs : Array Value) (fr : Nat × Nat) (d : TypeDesc) (hg : w.heap[g]? = some (.cells cs t fr))
    (hu : P.underlying ty = some d) (hd : (match d with | .struct _ | .array _ _ => true | _ => false) = true) (hi : (P.info? ty).map (·.size) = some cs.size)
    (h : wpList P ops Q rest (a.put o.dst (.agg cs)) w) : wpList P ops Q (o :: rest) a w :=
  wpList_step fun _ hK => by rw [if_pos hw]; exact wp_load_row ty x ho g hx t cs fr d hg hu hd hi (hK _ _ h)
theorem infoSet : (Tryd.prog.info? 87).map (·.size) = some 128 := by kernel_rfl
set_option maxHeartbeats 400000 in
theorem implIsWord_mid (s : ByteArray) (w : World) (cs : Array Value) (tt : TypeId) (fr : Nat × Nat) (h1 : 1 ≤ s.size) (h2 : s.size ≤ 64) (hg : w.heap[0]? = some (.cells cs tt fr)) (hsz : cs.size = 128) (hcs : ∀ i, i < 128 → cs[i]? = some (.bool (wordI (i : Int)))) :
    Calls Tryd.prog 32 #[.string s] w fun e w' => e = .returned (.bool (allW s.data.toList)) ∧ Below w.heap.size w w' := by
  have g1 : (1 : Int) ≤ s.size := by omega
  have d : decide ((s.size : Int) ≤ 64) = true := by simp; omega
  have HG : Hid (w.heap[0]? = some (.cells cs tt fr)) := hg
  have HI : Hid ((Tryd.prog.info? 87).map (·.size) = some cs.size) := by
    show _ = _
    rw [infoSet, hsz]
  have HC : Hid (∀ i, i < 128 → cs[i]? = some (.bool (wordI (i : Int)))) := hcs
  clear hcs hg hsz
  go_enter Tryd.func32, Tryd.ntmps32
  go_wp2_with (refine wpList_load_row_g (by rfl) 87 (.global 0) rfl 0 rfl tt cs fr _ HG.out Tryd.underlying87 rfl HI.out ?_)
  refine (hasOnly_any s cs _ h2 HC.out).mono ?_
  rintro e w1 ⟨rfl, hb⟩
  go_wp2
  go_ret
  exact ⟨rfl, hb⟩
theorem implIsWord_any (s : ByteArray) (w : World) (cs : Array Value) (tt : TypeId) (fr : Nat × Nat) (hg : w.heap[0]? = some (.cells cs tt fr)) (hsz : cs.size = 128) (hcs : ∀ i, i < 128 → cs[i]? = some (.bool (wordI (i : Int)))) :
    Calls Tryd.prog 32 #[.string s] w fun e w' => e = .returned (.bool (wordS s)) ∧ Below w.heap.size w w' := by
  by_cases c : s.size < 1 ∨ 64 < s.size
  · have h : wordS s = false := by
      rcases c with c | c
      · exact wordS_short s c
      · exact wordS_long s c
    rw [h]; exact implIsWord_size s w c
  · rw [wordS_mid s (by omega) (by omega)]
    exact implIsWord_mid s w cs tt fr (by omega) (by omega) hg hsz hcs
end Go.Proofs.YtlbagfaiiileoaaDoor
/-
  The law of IsWord out of contracts; what the row's list gives.
-/
namespace Go.Proofs.YtlbagfaiiileoaaDoor
open Go.ChangeShapes Go.WideShapes Go.ChangeAt Go.RowKit
/-- An array of bools that reads as a table holds the table, cell for cell. -/
theorem cells_of_bools {H : Type} {enc : TypeId × Value → H} {P : Program} {w : World} {base : Nat} {sp : Nat → Bool} {held : Bool} {fuel : Nat} {t e : TypeId} {n : Nat} {cs : List Value} {zs : List Bool} {p : List MemPlace}
    (ht : P.underlying t = some (.array n e)) (he : P.underlying e = some .bool) (hce : P.cellsOf e = 1) (hct : P.cellsOf t = n)
    (h : DataW.trod enc P w base sp held fuel t cs = some (.agg (zs.map fun z => .lit (.bool z)), p)) : cs = zs.map fun z => Value.bool z := by
  cases fuel with
  | zero => simp [DataW.trod] at h
  | succ fuel =>
    simp only [DataW.trod, ht, hce, hct, Nat.mul_one] at h
    split at h
    · rename_i hl
      obtain ⟨xs, hm, hx⟩ := Option.map_eq_some_iff.1 h
      have hxs : xs.map (·.1) = zs.map fun z => (DataW.lit (.bool z) : DataW H) := by
        have := congrArg Prod.fst hx
        simpa using this
      have hxl : xs.length = n := by simpa using Lib.mapM_length hm
      have hzl : zs.length = n := by
        have := congrArg List.length hxs
        simp at this
        omega
      apply List.ext_getElem?
      intro i
      by_cases hi : i < n
      · obtain ⟨b, hb, hf⟩ := Lib.mapM_at hm i i (by simp [hi])
        obtain ⟨z, hc, rfl⟩ := DataW.trod_bool he hf
        have h1 : cs[i]? = some (.bool z) := by
          have := congrArg (·[0]?) hc
          simpa [List.getElem?_take, List.getElem?_drop] using this
        have h2 : (xs.map (·.1))[i]? = some (DataW.lit (.bool z) : DataW H) := by simp [hb]
        rw [hxs] at h2
        simp only [List.getElem?_map, Option.map_eq_some_iff, DataW.lit.injEq, Lit.bool.injEq] at h2
        obtain ⟨z', hz', rfl⟩ := h2
        simp [h1, hz']
      · rw [List.getElem?_eq_none (by omega), List.getElem?_eq_none (by simp; omega)]
    · cases h
theorem setCells : Tryd.prog.cellsOf 87 = 128 := by kernel_rfl
theorem boolCells : Tryd.prog.cellsOf 4 = 1 := by kernel_rfl
theorem setNamed : Tryd.prog.globalNamed "loop.example/g00665/impl.wordBytes" = some 0 := by kernel_rfl
theorem setType : (Tryd.prog.globals[0]?).map (·.type) = some 87 := by kernel_rfl
theorem laidTab {H : Type} : (Rows.laid_loop_example_g00665_impl_wordBytes : DataW H) = .agg (wordTab.map fun z => .lit (.bool z)) := by kernel_rfl
/-- The table lies in memory. -/
def SetIs (w : World) : Prop := ∃ cs tt fr, w.heap[0]? = some (.cells cs tt fr) ∧ cs.size = 128 ∧ ∀ i, i < 128 → cs[i]? = some (.bool (wordI (i : Int)))
theorem setIs_of {w : World} {rest : List (String × DataW Unit)} (h : laidMet Tryd.prog (("loop.example/g00665/impl.wordBytes", Rows.laid_loop_example_g00665_impl_wordBytes) :: rest) w) : SetIs w := by
  obtain ⟨ps, ⟨g', t', cs, fuel, p, q, hg', ht', hvar, hd, _, _⟩, _⟩ := h
  obtain rfl := Option.some.inj (setNamed.symm.trans hg')
  obtain rfl := Option.some.inj (setType.symm.trans ht')
  rw [laidTab] at hd
  have hcs := cells_of_bools Tryd.underlying87 Tryd.underlying4 boolCells setCells hd
  unfold World.var? at hvar
  rw [setNamed] at hvar
  simp only [Option.bind_some] at hvar
  cases hb : w.heap[0]? with
  | none => rw [hb] at hvar; cases hvar
  | some o =>
    rw [hb] at hvar
    cases o with
    | cells c tt fr =>
      simp only [Option.some.injEq] at hvar
      subst hvar
      have hl : c.toList.length = 128 := by rw [hcs, List.length_map]; exact wordTab_len
      refine ⟨c, tt, fr, hb, by simpa using hl, fun i hi => ?_⟩
      rw [← Array.getElem?_toList, hcs, List.getElem?_map]
      have hi2 : i < wordTab.length := by rw [wordTab_len]; exact hi
      rw [List.getElem?_eq_getElem hi2]
      simp [wordI, hi2]
    | map _ _ => cases hvar
    | _ => cases hvar
theorem SetIs.below {w w' : World} (h : SetIs w) (hb : Below w.heap.size w w') : SetIs w' := by
  obtain ⟨cs, tt, fr, hg, h1, h2⟩ := h
  refine ⟨cs, tt, fr, ?_, h1, h2⟩
  rw [hb.block 0 (Array.getElem?_eq_some_iff.1 hg).1, hg]
theorem implIsWord_set (s : ByteArray) (w : World) (h : SetIs w) :
    Calls Tryd.prog 32 #[.string s] w fun e w' => e = .returned (.bool (wordS s)) ∧ Below w.heap.size w w' := by
  obtain ⟨cs, tt, fr, hg, h1, h2⟩ := h
  exact implIsWord_any s w cs tt fr hg h1 h2
end Go.Proofs.YtlbagfaiiileoaaDoor
/-
  Contracts of Go library functions at this program: the tables by which the library of proofs knows its functions here (made by the kit tool lay-plain).
-/
namespace Go.Proofs
open Go.Shelf
def Tryd.lays160_ren : Go.Shelf.Ren := ⟨fun | 160 => 65 | 232 => 70 | 231 => 69 | 227 => 71 | 234 => 73 | 233 => 72 | 236 => 75 | 235 => 74 | 228 => 76 | 271 => 79 | 151 => 78 | 197 => 77 | 120 => 82 | 152 => 81 | 260 => 80 | 137 => 83 | 119 => 84 | 224 => 85 | 225 => 86 | 217 => 87 | 266 => 88 | n => n, fun | 9 => 9 | 4 => 4 | 3 => 3 | 5 => 5 | 117 => 108 | 116 => 107 | 0 => 0 | 124 => 111 | 21 => 21 | 105 => 112 | 46 => 117 | 119 => 116 | 139 => 120 | 138 => 119 | n => n, fun | 3 => 1 | 4 => 2 | n => n⟩
theorem Tryd.lays160 : Go.Proofs.Lays.n160 Tryd.prog Tryd.lays160_ren := {
  mixed := by kernel_rfl
  f119 := Tryd.func84.trans (congrArg some (by kernel_rfl))
  f120 := Tryd.func82.trans (congrArg some (by kernel_rfl))
  f137 := Tryd.func83.trans (congrArg some (by kernel_rfl))
  f151 := Tryd.func78.trans (congrArg some (by kernel_rfl))
  f152 := Tryd.func81.trans (congrArg some (by kernel_rfl))
  f160 := Tryd.func65.trans (congrArg some (by kernel_rfl))
  f197 := Tryd.func77.trans (congrArg some (by kernel_rfl))
  f217 := Tryd.func87.trans (congrArg some (by kernel_rfl))
  f224 := Tryd.func85.trans (congrArg some (by kernel_rfl))
  f225 := Tryd.func86.trans (congrArg some (by kernel_rfl))
  f227 := Tryd.func71.trans (congrArg some (by kernel_rfl))
  f228 := Tryd.func76.trans (congrArg some (by kernel_rfl))
  f231 := Tryd.func69.trans (congrArg some (by kernel_rfl))
  f232 := Tryd.func70.trans (congrArg some (by kernel_rfl))
  f233 := Tryd.func72.trans (congrArg some (by kernel_rfl))
  f234 := Tryd.func73.trans (congrArg some (by kernel_rfl))
  f235 := Tryd.func74.trans (congrArg some (by kernel_rfl))
  f236 := Tryd.func75.trans (congrArg some (by kernel_rfl))
  f260 := Tryd.func80.trans (congrArg some (by kernel_rfl))
  f266 := Tryd.func88.trans (congrArg some (by kernel_rfl))
  f271 := Tryd.func79.trans (congrArg some (by kernel_rfl))
  t0 := Tryd.underlying0
  a0 := Tryd.isAgg0
  z0 := Tryd.sizeOf0
  v0 := Tryd.zeroValue0
  t3 := Tryd.underlying3
  a3 := Tryd.isAgg3
  z3 := Tryd.sizeOf3
  v3 := Tryd.zeroValue3
  t4 := Tryd.underlying4
  a4 := Tryd.isAgg4
  z4 := Tryd.sizeOf4
  v4 := Tryd.zeroValue4
  t5 := Tryd.underlying5
  a5 := Tryd.isAgg5
  z5 := Tryd.sizeOf5
  v5 := Tryd.zeroValue5
  t9 := Tryd.underlying9
  a9 := Tryd.isAgg9
  z9 := Tryd.sizeOf9
  v9 := Tryd.zeroValue9
  t21 := Tryd.underlying21
  a21 := Tryd.isAgg21
  z21 := Tryd.sizeOf21
  v21 := Tryd.zeroValue21
  t46 := Tryd.underlying117
  a46 := Tryd.isAgg117
  z46 := Tryd.sizeOf117
  v46 := Tryd.zeroValue117
  t105 := Tryd.underlying112
  a105 := Tryd.isAgg112
  z105 := Tryd.sizeOf112
  v105 := Tryd.zeroValue112
  t116 := Tryd.underlying107
  a116 := Tryd.isAgg107
  z116 := Tryd.sizeOf107
  t117 := Tryd.underlying108
  a117 := Tryd.isAgg108
  z117 := Tryd.sizeOf108
  v117 := Tryd.zeroValue108
  t119 := Tryd.underlying116
  a119 := Tryd.isAgg116
  z119 := Tryd.sizeOf116
  t124 := Tryd.underlying111
  a124 := Tryd.isAgg111
  z124 := Tryd.sizeOf111
  v124 := Tryd.zeroValue111
  t138 := Tryd.underlying119
  a138 := Tryd.isAgg119
  z138 := Tryd.sizeOf119
  v138 := Tryd.zeroValue119
  t139 := Tryd.underlying120
  a139 := Tryd.isAgg120
  z139 := Tryd.sizeOf120
  v139 := Tryd.zeroValue120
  g3 := by kernel_rfl
  g4 := by kernel_rfl }
end Go.Proofs
/-
  What TrimText and its model answer; the law of TrimText out of them.
-/
namespace Go.Proofs.YtlbagfaiiileoaaDoor
open Go.ChangeShapes Go.WideShapes Go.ChangeAt Go.RowKit
theorem trimT_size (s : ByteArray) : (trimT s).size ≤ s.size := by
  have h : (Lib.trimS s.data.toList [32, 9]).length ≤ s.data.toList.length := by
    unfold Lib.trimS Lib.trimLeftS Lib.trimRightS
    refine Nat.le_trans (List.dropWhile_sublist _).length_le ?_
    rw [List.length_reverse]
    refine Nat.le_trans (List.dropWhile_sublist _).length_le ?_
    rw [List.length_reverse]
    exact Nat.le_refl _
  have e : (trimT s).size = (Lib.trimS s.data.toList [32, 9]).length := by simp [trimT, ByteArray.size]
  rw [e]
  simpa using h
theorem trim_lib (s : ByteArray) (w : World) (hs : s.size ≤ 1000) :
    Calls Tryd.prog 65 #[.string s, .string ⟨#[32, 9]⟩] w fun e w' => e = .returned (.string (trimT s)) ∧ Below w.heap.size w w' :=
  Any.strings_Trim_laid Tryd.lays160 (by kernel_rfl) s ⟨#[32, 9]⟩ w (by omega) (by decide) (ascii_of_all (by decide))
theorem trim_big (s : ByteArray) (w : World) (hs : s.size ≤ 1048576) :
    Calls Tryd.prog 65 #[.string s, .string ⟨#[32, 9]⟩] w fun e w' => e = .returned (.string (trimT s)) ∧ Below w.heap.size w w' :=
  Any.strings_Trim_laid Tryd.lays160 (by kernel_rfl) s ⟨#[32, 9]⟩ w (by omega) (by decide) (ascii_of_all (by decide))
end Go.Proofs.YtlbagfaiiileoaaDoor
/-
  What lineFault and HeadersFault answer.
-/
namespace Go.Proofs.YtlbagfaiiileoaaDoor
open Go.ChangeShapes Go.WideShapes Go.ChangeAt Go.RowKit Go.Sort
theorem hdr_room {w w1 : World} {n v : ByteArray} {t : TypeId} (hb : Below (w.alloc (.cells #[.string n, .string v] t)).heap.size (w.alloc (.cells #[.string n, .string v] t)) w1) :
    w.heap.size < w1.heap.size ∧ w1.cell? ⟨w.heap.size, 0, none⟩ = some (.string n) ∧ w1.cell? ⟨w.heap.size, 1, none⟩ = some (.string v) ∧ Below w.heap.size w w1 := by
  rw [World.size_alloc] at hb
  have hz := hb.size
  simp only [World.size_alloc] at hz
  exact ⟨hz, by rw [hb.cell (p := ⟨w.heap.size, 0, none⟩) (Nat.lt_succ_self _)]; simp, by rw [hb.cell (p := ⟨w.heap.size, 1, none⟩) (Nat.lt_succ_self _)]; simp, ((Below.refl _ _).alloc (Nat.le_refl _) _).trans (hb.mono (Nat.le_succ _))⟩
theorem hkeep {W W' : World} (hb : Below W.heap.size W W') {p : Addr} {v : Value} (h : W.cell? p = some v) : W'.cell? p = some v := by
  rw [hb.cell (block_lt_of_cell h)]; exact h
set_option maxHeartbeats 2000000 in
theorem implLine_any (r : Hdr) (w : World) (hset : SetIs w) :
    Calls Tryd.prog 61 #[.agg #[.string r.name, .string r.value]] w fun e w' => e = .returned (.int .i64 (faultH r)) ∧ Below w.heap.size w w' := by
  obtain ⟨n, v⟩ := r
  simp only
  have HW : Hid (Calls Tryd.prog 32 #[.string n] (w.alloc (.cells #[.string n, .string v] 98)) fun e w' => e = .returned (.bool (wordS n)) ∧ Below (w.alloc (.cells #[.string n, .string v] 98)).heap.size (w.alloc (.cells #[.string n, .string v] 98)) w') := implIsWord_set n _ (hset.below ((Below.refl _ _).alloc (Nat.le_refl _) _))
  clear hset
  cases hw : wordS n
  · have HE : Hid (faultH ⟨n, v⟩ = 5) := by show _ = _; simp [faultH, hw]
    rw [hw] at HW
    clear hw
    go_enter Tryd.func61, Tryd.ntmps61
    go_wp2_with fail
    refine HW.out.mono ?_
    rintro e w1 ⟨rfl, hb1⟩
    obtain ⟨hz1, p0, p1, kb⟩ := hdr_room hb1
    have KB : Hid (Below w.heap.size w w1) := kb
    clear hb1 kb
    go_wp2_with fail
    go_ret
    exact ⟨ret_int HE.out.symm, KB.out⟩
  rw [hw] at HW
  by_cases hbig : 200 < v.size
  · have HE : Hid (faultH ⟨n, v⟩ = 2) := by show _ = _; simp only [faultH, hw]; rw [if_neg (by simp), if_pos hbig]
    have g : (200 : Int) < v.size := by omega
    clear hw
    go_enter Tryd.func61, Tryd.ntmps61
    go_wp2_with fail
    refine HW.out.mono ?_
    rintro e w1 ⟨rfl, hb1⟩
    obtain ⟨hz1, p0, p1, kb⟩ := hdr_room hb1
    have KB : Hid (Below w.heap.size w w1) := kb
    clear hb1 kb
    go_wp2_with fail
    go_ret
    exact ⟨ret_int HE.out.symm, KB.out⟩
  have g : ¬ (200 : Int) < v.size := by omega
  have HP : Hid (∀ w, Calls Tryd.prog 64 #[.string v] w fun e w' => e = .returned (.bool (plainL v.data.toList)) ∧ Below w.heap.size w w') := fun w => (allPlain_any v w (by omega)).mono fun _ _ ⟨h1, h2⟩ => ⟨h1, h2 ▸ Below.refl _ _⟩
  have HT : Hid (∀ w, Calls Tryd.prog 65 #[.string v, .string ⟨#[32, 9]⟩] w fun e w' => e = .returned (.string (trimT v)) ∧ Below w.heap.size w w') := fun w => trim_big v w (by omega)
  cases hp : plainL v.data.toList
  · have HE : Hid (faultH ⟨n, v⟩ = 5) := by show _ = _; simp only [faultH, hw]; rw [if_neg (by simp), if_neg hbig, if_pos hp]
    rw [hp] at HP
    clear hw hp hbig
    go_enter Tryd.func61, Tryd.ntmps61
    go_wp2_with fail
    refine HW.out.mono ?_
    rintro e w1 ⟨rfl, hb1⟩
    obtain ⟨hz1, p0, p1, kb⟩ := hdr_room hb1
    have KB : Hid (Below w.heap.size w w1) := kb
    clear hb1 kb
    go_wp2_with fail
    have q1 := cell_regrown p1
    have cP : ∀ d' os, Calls Tryd.prog 64 #[.string v] (grow (redrawn w1 d') os) fun e w'' => e = .returned (.bool false) ∧ ∃ p : Regrown, w'' = grow (redrawn w1 p.d) p.os := fun d' os => Calls.regrown_of (HP.out _)
    refine wp_region_quiet_below (by kernel_rfl) (by kernel_rfl) ?_
    repeat (go_big_quiet_step (first | (go_at_call 64; exact cP _ _)))
    refine wpQuiet_nil ?_
    intro W2 hW2
    have hbW2 : Below w1.heap.size w1 W2 := by
      obtain ⟨⟨d, os⟩, rfl⟩ := hW2
      exact below_regrown w1 d os
    have KB2 : Hid (Below w.heap.size w W2) := KB.out.trans (hbW2.mono KB.out.size)
    clear hW2 hbW2 cP q1 p0 p1 KB
    go_wp2_with fail
    go_ret
    exact ⟨ret_int HE.out.symm, KB2.out⟩
  rw [hp] at HP
  by_cases ht : trimT v = v
  · have HE : Hid (faultH ⟨n, v⟩ = 0) := by show _ = _; simp only [faultH, hw]; rw [if_neg (by simp), if_neg hbig, if_neg (by simp [hp]), if_pos ht]
    rw [ht] at HT
    clear hw hp hbig ht
    go_enter Tryd.func61, Tryd.ntmps61
    go_wp2_with fail
    refine HW.out.mono ?_
    rintro e w1 ⟨rfl, hb1⟩
    obtain ⟨hz1, p0, p1, kb⟩ := hdr_room hb1
    have KB : Hid (Below w.heap.size w w1) := kb
    clear hb1 kb
    go_wp2_with fail
    have q1 := cell_regrown p1
    have cP : ∀ d' os, Calls Tryd.prog 64 #[.string v] (grow (redrawn w1 d') os) fun e w'' => e = .returned (.bool true) ∧ ∃ p : Regrown, w'' = grow (redrawn w1 p.d) p.os := fun d' os => Calls.regrown_of (HP.out _)
    have cT : ∀ d' os, Calls Tryd.prog 65 #[.string v, .string ⟨#[32, 9]⟩] (grow (redrawn w1 d') os) fun e w'' => e = .returned (.string v) ∧ ∃ p : Regrown, w'' = grow (redrawn w1 p.d) p.os := fun d' os => Calls.regrown_of (HT.out _)
    refine wp_region_quiet_below (by kernel_rfl) (by kernel_rfl) ?_
    repeat (go_big_quiet_step (first | (go_at_call 64; exact cP _ _) | (go_at_call 65; exact cT _ _)))
    refine wpQuiet_nil ?_
    intro W2 hW2
    have hbW2 : Below w1.heap.size w1 W2 := by
      obtain ⟨⟨d, os⟩, rfl⟩ := hW2
      exact below_regrown w1 d os
    have KB2 : Hid (Below w.heap.size w W2) := KB.out.trans (hbW2.mono KB.out.size)
    clear hW2 hbW2 cP cT q1 p0 p1 KB
    go_wp2_with fail
    go_ret
    exact ⟨ret_int HE.out.symm, KB2.out⟩
  · have HE : Hid (faultH ⟨n, v⟩ = 5) := by show _ = _; simp only [faultH, hw]; rw [if_neg (by simp), if_neg hbig, if_neg (by simp [hp]), if_neg ht]
    have hq := hstr_ne ht
    generalize trimT v = t at *
    clear hw hp hbig ht
    go_enter Tryd.func61, Tryd.ntmps61
    go_wp2_with fail
    refine HW.out.mono ?_
    rintro e w1 ⟨rfl, hb1⟩
    obtain ⟨hz1, p0, p1, kb⟩ := hdr_room hb1
    have KB : Hid (Below w.heap.size w w1) := kb
    clear hb1 kb
    go_wp2_with fail
    have q1 := cell_regrown p1
    have cP : ∀ d' os, Calls Tryd.prog 64 #[.string v] (grow (redrawn w1 d') os) fun e w'' => e = .returned (.bool true) ∧ ∃ p : Regrown, w'' = grow (redrawn w1 p.d) p.os := fun d' os => Calls.regrown_of (HP.out _)
    have cT : ∀ d' os, Calls Tryd.prog 65 #[.string v, .string ⟨#[32, 9]⟩] (grow (redrawn w1 d') os) fun e w'' => e = .returned (.string t) ∧ ∃ p : Regrown, w'' = grow (redrawn w1 p.d) p.os := fun d' os => Calls.regrown_of (HT.out _)
    refine wp_region_quiet_below (by kernel_rfl) (by kernel_rfl) ?_
    repeat (go_big_quiet_step (first | (go_at_call 64; exact cP _ _) | (go_at_call 65; exact cT _ _)))
    refine wpQuiet_nil ?_
    intro W2 hW2
    have hbW2 : Below w1.heap.size w1 W2 := by
      obtain ⟨⟨d, os⟩, rfl⟩ := hW2
      exact below_regrown w1 d os
    have KB2 : Hid (Below w.heap.size w W2) := KB.out.trans (hbW2.mono KB.out.size)
    clear hW2 hbW2 cP cT q1 p0 p1 KB
    go_wp2_with fail
    go_ret
    exact ⟨ret_int HE.out.symm, KB2.out⟩
set_option maxRecDepth 100000 in
set_option maxHeartbeats 4000000 in
theorem implHFault_any (w : World) (a : Option Addr) (cap : Nat) (l : List Hdr) (hl : l.length ≤ 1048576) (hset : SetIs w) (hi : HdsIn w a l) :
    Calls Tryd.prog 55 #[.slice a l.length cap] w fun e w' => e = .returned (.int .i64 (headsC l)) ∧ Below w.heap.size w w' := by
  by_cases h20 : 20 < l.length
  · have HE : Hid (headsC l = 2) := headsC_many h20
    have g : (20 : Int) < (l.length : Int) := by omega
    clear hi hset
    generalize l.length = n at *
    go_enter Tryd.func55, Tryd.ntmps55
    go_wp2_with fail
    go_ret
    exact ⟨ret_int HE.out.symm, Below.refl _ _⟩
  have HC : Hid (headsC l = faultHL l) := headsC_few h20
  have HI : Hid (HdsIn w a l) := hi
  have HS : Hid (SetIs w) := hset
  clear hi hset
  generalize hn : l.length = n at *
  have HN : Hid (l.length = n) := hn
  clear hn
  have g : ¬ (20 : Int) < (n : Int) := by omega
  go_enter Tryd.func55, Tryd.ntmps55
  go_wp2_with fail
  go_loopw [11] (fun i wr => ∃ k : Nat, k ≤ n ∧ i = .int .i64 k ∧ faultHL l = faultHL (l.drop k) ∧ Below w.heap.size w wr) (fun i _ => n - (intOf i).toNat)
  case atStart => exact ⟨0, Nat.zero_le _, rfl, rfl, Below.refl _ _⟩
  case round =>
    obtain ⟨k, hk, rfl, hf, hb⟩ := hrel
    have HF : Hid (faultHL l = faultHL (l.drop k)) := hf
    clear hf
    by_cases hlt : k < n
    · obtain ⟨r, hr⟩ : ∃ r, l[k]? = some r := ⟨l[k]'(by have := HN.out; omega), List.getElem?_eq_getElem _⟩
      rcases HI.out with h | ⟨b, off, rfl, hat⟩
      · subst h; simp at hr
      obtain ⟨p1, p3⟩ := (hat.keep hb) k r hr
      have HD : Hid (l.drop k = r :: l.drop (k + 1)) := drop_hdr l k r hr
      have gk : (k : Int) < n := by omega
      have SF : Hid (∀ W, Below wr.heap.size wr W → Calls Tryd.prog 61 #[.agg #[.string r.name, .string r.value]] W fun e w' => e = .returned (.int .i64 (faultH r)) ∧ Below W.heap.size W w') := fun W h => implLine_any r W ((HS.out.below hb).below h)
      clear hr hat HI
      by_cases hfr : faultH r = 0
      · have HX : Hid (faultHL l = faultHL (l.drop (k + 1))) := by show _ = _; rw [HF.out, HD.out, faultHL_ok hfr]
        rw [hfr] at SF
        clear hfr HD HF
        obtain ⟨rn, rv⟩ := r
        simp only at p1 p3 SF
        go_wp2_with fail
        refine (SF.out _ ((Below.refl _ _).alloc (Nat.le_refl _) _)).mono ?_
        rintro e w2 ⟨rfl, hb2⟩
        obtain ⟨_, _, _, kb⟩ := hdr_room hb2
        have hbb := hb.trans (kb.mono hb.size)
        clear hb2 hb kb
        go_wp2_with fail
        go_roundw
        case rel => exact ⟨k + 1, by omega, by go_num, HX.out, hbb⟩
        case measure => simp [intOf]; omega
      · have HX : Hid (headsC l = faultH r) := by show _ = _; rw [HC.out, HF.out, HD.out, faultHL_bad hfr]
        clear HD HF HC
        obtain ⟨rn, rv⟩ := r
        simp only at p1 p3 SF
        generalize faultH ⟨rn, rv⟩ = fr at *
        go_wp2_with fail
        refine (SF.out _ ((Below.refl _ _).alloc (Nat.le_refl _) _)).mono ?_
        rintro e w2 ⟨rfl, hb2⟩
        obtain ⟨_, _, _, kb⟩ := hdr_room hb2
        have hbb := hb.trans (kb.mono hb.size)
        clear hb2 hb kb
        go_wp2_with fail
        go_ret
        exact ⟨ret_int HX.out.symm, hbb⟩
    · have HX : Hid (headsC l = 0) := by
        show _ = _
        rw [HC.out, HF.out, List.drop_of_length_le (by have := HN.out; omega)]
        rfl
      clear HF HC
      go_wp2_with fail
      go_ret
      exact ⟨ret_int HX.out.symm, hb⟩
end Go.Proofs.YtlbagfaiiileoaaDoor
/-
  Is it a key? The program's answer.
-/
namespace Go.Proofs.YtlbagfaiiileoaaDoor
open Go.ChangeShapes Go.WideShapes Go.ChangeAt Go.RowKit Go.Sort
set_option maxHeartbeats 2000000 in
theorem isKey_one (key : ByteArray) (b : Bool) (hb : decide (1 ≤ key.size ∧ key.size ≤ 500) = b) (w : World) : Calls Tryd.prog 53 #[.string key] w fun r w' => r = .returned (.bool b) ∧ w' = w := by
  by_cases c1 : key.size < 1
  · have e : b = false := by rw [← hb]; simp; omega
    subst e
    clear hb
    go_enter Tryd.func53, Tryd.ntmps53
    go_wp2_with fail
    go_ret
    exact ⟨rfl, rfl⟩
  · by_cases c2 : 500 < key.size
    · have e : b = false := by rw [← hb]; simp; omega
      subst e
      clear hb
      go_enter Tryd.func53, Tryd.ntmps53
      go_wp2_with fail
      go_ret
      have d : decide ((key.size : Int) ≤ 500) = false := by simp; omega
      exact ⟨by simp [d], rfl⟩
    · have e : b = true := by rw [← hb]; simp; omega
      subst e
      clear hb
      go_enter Tryd.func53, Tryd.ntmps53
      go_wp2_with fail
      go_ret
      have d : decide ((key.size : Int) ≤ 500) = true := by simp; omega
      exact ⟨by simp [d], rfl⟩
end Go.Proofs.YtlbagfaiiileoaaDoor
/-
  Is it an entry? The program's answer.
-/
namespace Go.Proofs.YtlbagfaiiileoaaDoor
open Go.ChangeShapes Go.WideShapes Go.ChangeAt Go.RowKit Go.Sort
set_option maxHeartbeats 8000000 in
theorem implEntry_any (w : World) (key : ByteArray) (st : Int) (ha : Option Addr) (hc : Nat) (ba : Option Addr) (bc : Nat) (t g l s e : Int) (b1 b2 : Bool) (ta : Option Addr) (tc : Nat) (pins : Int) (hs : List Hdr) (bn tn : Nat) (hk : key.size ≤ maxLen) (hhl : hs.length ≤ 1048576) (hbn : bn ≤ maxLen) (htn : tn ≤ maxLen) (hset : SetIs w) (hH : HdsIn w ha hs) :
    Calls Tryd.prog 39 #[.agg #[.string key, .int .i64 st, .slice ha hs.length hc, .slice ba bn bc, .int .i64 t, .int .i64 g, .int .i64 l, .int .i64 s, .int .i64 e, .bool b1, .bool b2, .slice ta tn tc, .int .i64 pins]] w fun r w' => r = .returned (.int .i64 (entryC key st pins hs bn tn t g l s e)) ∧ Below w.heap.size w w' := by
  have HK : Hid (Below w.heap.size w (w.alloc (.cells #[.string key, .int .i64 st, .slice ha hs.length hc, .slice ba bn bc, .int .i64 t, .int .i64 g, .int .i64 l, .int .i64 s, .int .i64 e, .bool b1, .bool b2, .slice ta tn tc, .int .i64 pins] 69)) ∧ E13 (w.alloc (.cells #[.string key, .int .i64 st, .slice ha hs.length hc, .slice ba bn bc, .int .i64 t, .int .i64 g, .int .i64 l, .int .i64 s, .int .i64 e, .bool b1, .bool b2, .slice ta tn tc, .int .i64 pins] 69)) w.heap.size (.string key) (.int .i64 st) (.slice ha hs.length hc) (.slice ba bn bc) (.int .i64 t) (.int .i64 g) (.int .i64 l) (.int .i64 s) (.int .i64 e) (.bool b1) (.bool b2) (.slice ta tn tc) (.int .i64 pins)) := ⟨(Below.refl _ _).alloc (Nat.le_refl _) _, E13.new w _ _ _ _ _ _ _ _ _ _ _ _ _ _⟩
  have HI : Hid (∀ w, Calls Tryd.prog 54 #[.int .i64 st] w fun r w' => r = .returned (.bool (stB st)) ∧ w' = w) := mayKeep_any st
  have HH : Hid (∀ X, Below w.heap.size w X → Calls Tryd.prog 55 #[.slice ha hs.length hc] X fun e w' => e = .returned (.int .i64 (headsC hs)) ∧ Below X.heap.size X w') := fun X hb => implHFault_any X ha hc hs hhl (hset.below hb) (hH.keep hb)
  have HM : Hid (∀ X, Calls Tryd.prog 56 #[.agg #[.int .i64 t, .int .i64 g, .int .i64 l, .int .i64 s, .int .i64 e, .bool b1, .bool b2]] X fun r w' => r = .returned (.int .i64 (metaC t g l s e)) ∧ Below X.heap.size X w') := fun X => implMeta_any t g l s e b1 b2 X
  obtain ⟨Z, hZ⟩ : ∃ Z, entryC key st pins hs bn tn t g l s e = Z := ⟨_, rfl⟩
  rw [hZ]
  unfold entryC at hZ
  obtain ⟨hcd, hhc⟩ : ∃ x, headsC hs = x := ⟨_, rfl⟩
  obtain ⟨mcd, hmc⟩ : ∃ x, metaC t g l s e = x := ⟨_, rfl⟩
  obtain ⟨sb, hsb⟩ : ∃ x, stB st = x := ⟨_, rfl⟩
  rw [hhc] at HH hZ
  rw [hmc] at HM hZ
  rw [hsb] at HI hZ
  clear hhc hmc hsb hH hhl hset
  generalize hs.length = hl at *
  unfold maxLen at hk hbn htn
  have HZ : Hid (_ = Z) := hZ
  clear hZ
  by_cases c1 : key.size < 1
  · have HIK : Hid (∀ w, Calls Tryd.prog 53 #[.string key] w fun r w' => r = .returned (.bool false) ∧ w' = w) := fun w => isKey_one key false (by simp; omega) w
    have HR := HZ.out
    rw [if_pos (.inl c1)] at HR
    rw [← HR]
    clear HR HZ
    go_enter Tryd.func39, Tryd.ntmps39
    go_wp2_with fail
    refine (HIK.out _).mono ?_
    rintro r wk ⟨rfl, rfl⟩
    go_wp2_with fail
    go_ret
    exact ⟨rfl, HK.out.1⟩
  by_cases c2 : 500 < key.size
  · have HIK : Hid (∀ w, Calls Tryd.prog 53 #[.string key] w fun r w' => r = .returned (.bool false) ∧ w' = w) := fun w => isKey_one key false (by simp; omega) w
    have HR := HZ.out
    rw [if_pos (.inr c2)] at HR
    rw [← HR]
    clear HR HZ
    go_enter Tryd.func39, Tryd.ntmps39
    go_wp2_with fail
    refine (HIK.out _).mono ?_
    rintro r wk ⟨rfl, rfl⟩
    go_wp2_with fail
    go_ret
    exact ⟨rfl, HK.out.1⟩
  have HIK : Hid (∀ w, Calls Tryd.prog 53 #[.string key] w fun r w' => r = .returned (.bool true) ∧ w' = w) := fun w => isKey_one key true (by simp; omega) w
  rw [if_neg (by omega)] at HZ
  cases sb
  · have HR := HZ.out
    rw [if_pos (Bool.false_and _)] at HR
    rw [← HR]
    clear HR HZ
    go_enter Tryd.func39, Tryd.ntmps39
    go_wp2_with fail
    refine (HIK.out _).mono ?_
    rintro r wk ⟨rfl, rfl⟩
    go_wp2_with fail
    refine (HI.out _).mono ?_
    rintro r w1 ⟨rfl, rfl⟩
    go_wp2_with fail
    go_ret
    exact ⟨rfl, HK.out.1⟩
  rw [Bool.true_and] at HZ
  by_cases p1 : pins < 0
  · have HR := HZ.out
    rw [if_pos (by unfold pinB; simp; omega)] at HR
    rw [← HR]
    clear HR HZ
    go_enter Tryd.func39, Tryd.ntmps39
    go_wp2_with fail
    refine (HIK.out _).mono ?_
    rintro r wk ⟨rfl, rfl⟩
    go_wp2_with fail
    refine (HI.out _).mono ?_
    rintro r w1 ⟨rfl, rfl⟩
    have q12 := HK.out.2.c12
    go_wp2_with fail
    go_ret
    exact ⟨rfl, HK.out.1⟩
  by_cases p2 : 20 < pins
  · have HR := HZ.out
    rw [if_pos (by unfold pinB; simp; omega)] at HR
    rw [← HR]
    clear HR HZ
    go_enter Tryd.func39, Tryd.ntmps39
    go_wp2_with fail
    refine (HIK.out _).mono ?_
    rintro r wk ⟨rfl, rfl⟩
    go_wp2_with fail
    refine (HI.out _).mono ?_
    rintro r w1 ⟨rfl, rfl⟩
    have q12 := HK.out.2.c12
    go_wp2_with fail
    go_ret
    exact ⟨rfl, HK.out.1⟩
  rw [if_neg (by unfold pinB; simp; omega)] at HZ
  by_cases c3 : hcd ≠ 0
  · have HR := HZ.out
    rw [if_pos c3] at HR
    rw [← HR]
    clear HR HZ
    go_enter Tryd.func39, Tryd.ntmps39
    go_wp2_with fail
    refine (HIK.out _).mono ?_
    rintro r wk ⟨rfl, rfl⟩
    go_wp2_with fail
    refine (HI.out _).mono ?_
    rintro r w1 ⟨rfl, rfl⟩
    have q12 := HK.out.2.c12
    have q2 := HK.out.2.c2
    go_wp2_with fail
    refine (HH.out _ HK.out.1).mono ?_
    rintro r w2 ⟨rfl, hb2⟩
    have HB2 : Hid (Below w.heap.size w w2) := HK.out.1.trans (hb2.mono HK.out.1.size)
    clear hb2
    go_wp2_with fail
    go_ret
    exact ⟨rfl, HB2.out⟩
  rw [if_neg c3] at HZ
  have c3' : hcd = 0 := by omega
  subst c3'
  clear c3
  by_cases c4 : 2000 < bn
  · have HR := HZ.out
    rw [if_pos (.inl c4)] at HR
    rw [← HR]
    clear HR HZ
    go_enter Tryd.func39, Tryd.ntmps39
    go_wp2_with fail
    refine (HIK.out _).mono ?_
    rintro r wk ⟨rfl, rfl⟩
    go_wp2_with fail
    refine (HI.out _).mono ?_
    rintro r w1 ⟨rfl, rfl⟩
    have q12 := HK.out.2.c12
    have q2 := HK.out.2.c2
    go_wp2_with fail
    refine (HH.out _ HK.out.1).mono ?_
    rintro r w2 ⟨rfl, hb2⟩
    have HK2 : Hid (Below w.heap.size w w2 ∧ E13 w2 w.heap.size (.string key) (.int .i64 st) (.slice ha hl hc) (.slice ba bn bc) (.int .i64 t) (.int .i64 g) (.int .i64 l) (.int .i64 s) (.int .i64 e) (.bool b1) (.bool b2) (.slice ta tn tc) (.int .i64 pins)) := ⟨HK.out.1.trans (hb2.mono HK.out.1.size), HK.out.2.keep hb2⟩
    clear hb2
    have k3 := HK2.out.2.c3
    have k4 := HK2.out.2.c4
    have k5 := HK2.out.2.c5
    have k6 := HK2.out.2.c6
    have k7 := HK2.out.2.c7
    have k8 := HK2.out.2.c8
    have k9 := HK2.out.2.c9
    have k10 := HK2.out.2.c10
    have k11 := HK2.out.2.c11
    go_wp2_with fail
    go_ret
    exact ⟨rfl, HK2.out.1⟩
  by_cases c5 : 10 < tn
  · have HR := HZ.out
    rw [if_pos (.inr c5)] at HR
    rw [← HR]
    clear HR HZ
    go_enter Tryd.func39, Tryd.ntmps39
    go_wp2_with fail
    refine (HIK.out _).mono ?_
    rintro r wk ⟨rfl, rfl⟩
    go_wp2_with fail
    refine (HI.out _).mono ?_
    rintro r w1 ⟨rfl, rfl⟩
    have q12 := HK.out.2.c12
    have q2 := HK.out.2.c2
    go_wp2_with fail
    refine (HH.out _ HK.out.1).mono ?_
    rintro r w2 ⟨rfl, hb2⟩
    have HK2 : Hid (Below w.heap.size w w2 ∧ E13 w2 w.heap.size (.string key) (.int .i64 st) (.slice ha hl hc) (.slice ba bn bc) (.int .i64 t) (.int .i64 g) (.int .i64 l) (.int .i64 s) (.int .i64 e) (.bool b1) (.bool b2) (.slice ta tn tc) (.int .i64 pins)) := ⟨HK.out.1.trans (hb2.mono HK.out.1.size), HK.out.2.keep hb2⟩
    clear hb2
    have k3 := HK2.out.2.c3
    have k4 := HK2.out.2.c4
    have k5 := HK2.out.2.c5
    have k6 := HK2.out.2.c6
    have k7 := HK2.out.2.c7
    have k8 := HK2.out.2.c8
    have k9 := HK2.out.2.c9
    have k10 := HK2.out.2.c10
    have k11 := HK2.out.2.c11
    go_wp2_with fail
    go_ret
    exact ⟨rfl, HK2.out.1⟩
  rw [if_neg (by omega)] at HZ
  · rw [← HZ.out]
    clear HZ
    go_enter Tryd.func39, Tryd.ntmps39
    go_wp2_with fail
    refine (HIK.out _).mono ?_
    rintro r wk ⟨rfl, rfl⟩
    go_wp2_with fail
    refine (HI.out _).mono ?_
    rintro r w1 ⟨rfl, rfl⟩
    have q12 := HK.out.2.c12
    have q2 := HK.out.2.c2
    go_wp2_with fail
    refine (HH.out _ HK.out.1).mono ?_
    rintro r w2 ⟨rfl, hb2⟩
    have HK2 : Hid (Below w.heap.size w w2 ∧ E13 w2 w.heap.size (.string key) (.int .i64 st) (.slice ha hl hc) (.slice ba bn bc) (.int .i64 t) (.int .i64 g) (.int .i64 l) (.int .i64 s) (.int .i64 e) (.bool b1) (.bool b2) (.slice ta tn tc) (.int .i64 pins)) := ⟨HK.out.1.trans (hb2.mono HK.out.1.size), HK.out.2.keep hb2⟩
    clear hb2
    have k3 := HK2.out.2.c3
    have k4 := HK2.out.2.c4
    have k5 := HK2.out.2.c5
    have k6 := HK2.out.2.c6
    have k7 := HK2.out.2.c7
    have k8 := HK2.out.2.c8
    have k9 := HK2.out.2.c9
    have k10 := HK2.out.2.c10
    have k11 := HK2.out.2.c11
    go_wp2_with fail
    refine (HM.out _).mono ?_
    rintro r w3 ⟨rfl, hb3⟩
    have HB3 : Hid (Below w.heap.size w w3) := HK2.out.1.trans (hb3.mono HK2.out.1.size)
    clear hb3
    go_wp2_with fail
    go_ret
    exact ⟨rfl, HB3.out⟩
end Go.Proofs.YtlbagfaiiileoaaDoor
/-
  What PackHeaders and its model answer.
-/
namespace Go.Proofs.YtlbagfaiiileoaaDoor
open Go.ChangeShapes Go.WideShapes Go.ChangeAt Go.RowKit Go.Sort
set_option maxRecDepth 100000 in
set_option maxHeartbeats 4000000 in
theorem implPack_ok (w : World) (a : Option Addr) (cap : Nat) (l : List Hdr) (h0 : headsC l = 0) (hset : SetIs w) (hi : HdsIn w a l) :
    Calls Tryd.prog 57 #[.slice a l.length cap] w fun e w' => e = .returned (.agg #[.int .i64 0, .string ⟨(packL l).toArray⟩]) ∧ Below w.heap.size w w' := by
  obtain ⟨h20, hfl⟩ := headsC_zero h0
  have HF : Hid (∀ W, Below w.heap.size w W → Calls Tryd.prog 55 #[.slice a l.length cap] W fun e w' => e = .returned (.int .i64 0) ∧ Below W.heap.size W w') := fun W hb => by
    have := implHFault_any W a cap l (by omega) (hset.below hb) (hi.keep hb)
    rw [h0] at this
    exact this
  have HI : Hid (HdsIn w a l) := hi
  have HZ : Hid (∀ (i : Nat) r, l[i]? = some r → r.name.size ≤ 64 ∧ r.value.size ≤ 200) := fun i r hr => by obtain ⟨x1, x2, _⟩ := faultH_zero (hfl i r hr); exact ⟨hword_max x1, x2⟩
  clear hi hset hfl h0
  generalize hn : l.length = n at *
  have HN : Hid (l.length = n) := hn
  clear hn
  go_enter Tryd.func57, Tryd.ntmps57
  go_wp2_with fail
  refine (HF.out _ ((Below.refl _ _).alloc (Nat.le_refl _) _)).mono ?_
  rintro e w1 ⟨rfl, hb1⟩
  rw [World.size_alloc] at hb1
  have HB1 : Hid (Below (w.heap.size + 1) (w.alloc (.cells #[.int .i64 0, .string ⟨#[]⟩] 94)) w1) := hb1
  clear hb1 HF
  go_wp2_with fail
  go_loopw [4, 15] (fun v i wr => ∃ (k : Nat) (o : ByteArray), k ≤ n ∧ i = .int .i64 k ∧ v = .string o ∧ o.data.toList = packL (l.take k) ∧ o.size ≤ k * 268 ∧ Below (w.heap.size + 1) (w.alloc (.cells #[.int .i64 0, .string ⟨#[]⟩] 94)) wr) (fun _ i _ => n - (intOf i).toNat)
  case atStart => exact ⟨0, ⟨#[]⟩, Nat.zero_le _, rfl, rfl, rfl, Nat.zero_le _, HB1.out⟩
  case round =>
    obtain ⟨k, o, hk, rfl, rfl, ho, hos, hb⟩ := hrel
    have HO : Hid (o.data.toList = packL (l.take k)) := ho
    have hz : w.heap.size + 1 ≤ wr.heap.size := by have := hb.size; rwa [World.size_alloc] at this
    clear ho HB1
    by_cases hlt : k < n
    · obtain ⟨r, hr⟩ : ∃ r, l[k]? = some r := ⟨l[k]'(by have := HN.out; omega), List.getElem?_eq_getElem _⟩
      obtain ⟨b, off, rfl, hat⟩ := HI.out.ok hr
      have hwr : Below w.heap.size w wr := ((Below.refl _ _).alloc (Nat.le_refl _) _).trans (hb.mono (Nat.le_succ _))
      obtain ⟨p1, p3⟩ := (hat.keep hwr) k r hr
      obtain ⟨z1, z2⟩ := HZ.out k r hr
      have HJ : Hid (packL (l.take (k + 1)) = packL (l.take k) ++ lineL r) := packL_take hr
      have gk : (k : Int) < n := by omega
      clear hr hat HI hwr HZ
      obtain ⟨rn, rv⟩ := r
      simp only at p1 p3 z1 z2
      have hoz : o.size ≤ 6000 := by omega
      have HT : Hid ((o ++ (rn ++ ⟨#[58, 32]⟩ ++ rv ++ ⟨#[13, 10]⟩) : ByteArray).data.toList = packL (l.take (k + 1))) := by
        show _ = _
        rw [HJ.out, line_app2, HO.out]
      have HU : Hid ((o ++ (rn ++ ⟨#[58, 32]⟩ ++ rv ++ ⟨#[13, 10]⟩) : ByteArray).size ≤ (k + 1) * 268) := by
        show _ ≤ _
        simp only [ByteArray.size_append, show (⟨#[58, 32]⟩ : ByteArray).size = 2 from rfl, show (⟨#[13, 10]⟩ : ByteArray).size = 2 from rfl]
        omega
      clear HJ HO
      go_wp2_with fail
      go_roundw
      case rel => exact ⟨k + 1, o ++ (rn ++ ⟨#[58, 32]⟩ ++ rv ++ ⟨#[13, 10]⟩), by omega, by go_num, rfl, HT.out, HU.out, hb.alloc hz _⟩
      case measure => simp [intOf]; omega
    · have HT : Hid ((⟨(packL l).toArray⟩ : ByteArray) = o) := by
        show _ = _
        rw [← List.take_of_length_le (l := l) (i := k) (by have := HN.out; omega), ← HO.out]
      obtain ⟨hz2, q0, q1, f0, f1, kb⟩ := text_room hb
      obtain ⟨r0, r1⟩ := two_set (v0 := .int .i64 0) (v1 := .string o) q0 q1
      clear HO hb
      go_wp2_with fail
      exact bodyPost_ret (v := .agg #[.int .i64 0, .string o]) (by simp [results, Tryd.results57, go_sem, r0, r1]) rfl ⟨by rw [HT.out], (kb.setCell (Nat.le_refl _) _).setCell (Nat.le_refl _) _⟩
set_option maxHeartbeats 1000000 in
theorem implPack_any (w : World) (a : Option Addr) (cap : Nat) (l : List Hdr) (hl : l.length ≤ 1048576) (hset : SetIs w) (hi : HdsIn w a l) :
    Calls Tryd.prog 57 #[.slice a l.length cap] w fun e w' => e = .returned (.agg #[.int .i64 (headsC l), .string (packT l)]) ∧ Below w.heap.size w w' := by
  by_cases h0 : headsC l = 0
  · rw [packT_ok h0, h0]
    exact implPack_ok w a cap l h0 hset hi
  · have HF : Hid (∀ W, Below w.heap.size w W → Calls Tryd.prog 55 #[.slice a l.length cap] W fun e w' => e = .returned (.int .i64 (headsC l)) ∧ Below W.heap.size W w') := fun W hb => implHFault_any W a cap l hl (hset.below hb) (hi.keep hb)
    rw [packT_bad h0]
    clear hi hset
    generalize headsC l = fc at *
    generalize l.length = n at *
    go_enter Tryd.func57, Tryd.ntmps57
    go_wp2_with fail
    refine (HF.out _ ((Below.refl _ _).alloc (Nat.le_refl _) _)).mono ?_
    rintro e w1 ⟨rfl, hb1⟩
    rw [World.size_alloc] at hb1
    obtain ⟨hz2, q0, q1, f0, f1, kb⟩ := text_room hb1
    obtain ⟨r0, r1⟩ := two_set (v0 := .int .i64 fc) (v1 := .string ⟨#[]⟩) q0 q1
    clear hb1 HF
    go_wp2_with fail
    exact bodyPost_ret (v := .agg #[.int .i64 fc, .string ⟨#[]⟩]) (by simp [results, Tryd.results57, go_sem, r0, r1]) rfl ⟨rfl, (kb.setCell (Nat.le_refl _) _).setCell (Nat.le_refl _) _⟩
end Go.Proofs.YtlbagfaiiileoaaDoor
/-
  What an entry costs, by the program.
-/
namespace Go.Proofs.YtlbagfaiiileoaaDoor
open Go.ChangeShapes Go.WideShapes Go.ChangeAt Go.RowKit Go.Sort
theorem cfield_text (c : Int) (t : ByteArray) (w : World) : (Instr.field 94 (.agg #[.int .i64 c, .string t]) 1).run Tryd.prog w = .ok (.string t) w := by kernel_rfl
set_option maxRecDepth 100000 in
set_option maxHeartbeats 4000000 in
theorem costOne_at (w : World) (b off : Nat) (key : ByteArray) (ha : Option Addr) (hc : Nat) (hs : List Hdr) (ba : Option Addr) (bn bc : Nat) (hset : SetIs w)
    (h0 : w.cell? ⟨b, off, none⟩ = some (.string key)) (h2 : w.cell? ⟨b, off + 2, none⟩ = some (.slice ha hs.length hc)) (h3 : w.cell? ⟨b, off + 3, none⟩ = some (.slice ba bn bc))
    (hk : key.size ≤ 500) (hb : bn ≤ 2000) (hh : headsC hs = 0) (hH : HdsIn w ha hs) :
    Calls Tryd.prog 44 #[.pointer (some ⟨b, off, none⟩)] w fun r w' => r = .returned (.int .i64 (costN key hs bn)) ∧ Below w.heap.size w w' := by
  obtain ⟨h20, hfl⟩ := headsC_zero hh
  have hlen := packL_len4 hs (fun r hr => by obtain ⟨i, hi⟩ := List.mem_iff_getElem?.1 hr; exact hfl i r hi)
  have HC : Hid (∀ X, Below w.heap.size w X → Calls Tryd.prog 57 #[.slice ha hs.length hc] X fun e w' => e = .returned (.agg #[.int .i64 0, .string ⟨(packL hs).toArray⟩]) ∧ Below X.heap.size X w') := fun X hX => by
    have := implPack_any X ha hc hs (by omega) (hset.below hX) (hH.keep hX)
    rw [hh, show packT hs = ⟨(packL hs).toArray⟩ from by unfold packT; rw [if_pos hh]] at this
    exact this
  have hsz : ((⟨(packL hs).toArray⟩ : ByteArray).size : Int) = ((packL hs).length : Int) := by simp [ByteArray.size]
  unfold costN
  have hlt : b < w.heap.size := block_lt_of_cell h0
  have HKS : Hid (∀ X, Below w.heap.size w X → X.cell? ⟨b, off, none⟩ = some (.string key) ∧ X.cell? ⟨b, off + 2, none⟩ = some (.slice ha hs.length hc) ∧ X.cell? ⟨b, off + 3, none⟩ = some (.slice ba bn bc)) := fun X hX => ⟨by rw [hX.cell (p := ⟨b, off, none⟩) hlt]; exact h0, by rw [hX.cell (p := ⟨b, off + 2, none⟩) hlt]; exact h2, by rw [hX.cell (p := ⟨b, off + 3, none⟩) hlt]; exact h3⟩
  generalize hP : (⟨(packL hs).toArray⟩ : ByteArray) = pk at *
  rw [← hsz]
  have hpk : pk.size ≤ 5360 := by omega
  clear hH hfl hlen hsz hh hP h20 h2 h3 hset
  generalize hs.length = hl at *
  have hfd := cfield_text
  have e1 : IntKind.i64.wrap (50 + (key.size : Int)) = 50 + (key.size : Int) := by
    unfold IntKind.wrap; simp [IntKind.signed, IntKind.bits]; omega
  have e2 : IntKind.i64.wrap (50 + (key.size : Int) + (pk.size : Int)) = 50 + (key.size : Int) + (pk.size : Int) := by
    unfold IntKind.wrap; simp [IntKind.signed, IntKind.bits]; omega
  have e3 : IntKind.i64.wrap (50 + (key.size : Int) + (pk.size : Int) + (bn : Int)) = 50 + (key.size : Int) + (pk.size : Int) + (bn : Int) := by
    unfold IntKind.wrap; simp [IntKind.signed, IntKind.bits]; omega
  have B0 : Hid (Below w.heap.size w w.drew) := (Below.refl _ _).drew
  go_enter Tryd.func44, Tryd.ntmps44
  go_wp2_with fail
  go_region_held3 (fun X => X.cell? ⟨b, off, none⟩ = some (.string key) ∧ X.cell? ⟨b, off + 2, none⟩ = some (.slice ha hl hc) ∧ X.cell? ⟨b, off + 3, none⟩ = some (.slice ba bn bc))
    (first | exact HKS.out _ BA.out | exact HKS.out _ B0.out)
    (first | (go_at_call 57; refine (HC.out _ B0.out).mono ?_; rintro e0 wa ⟨rfl, hba⟩; have BA : Hid (Below w.heap.size w wa) := B0.out.trans (hba.mono B0.out.size); clear hba))
  all_goals
    go_wp2_with fail
    go_ret
    exact ⟨ret_int (by omega), BA.out⟩
end Go.Proofs.YtlbagfaiiileoaaDoor
/-
  What the entries of a shelf cost together, by the program.
-/
namespace Go.Proofs.YtlbagfaiiileoaaDoor
open Go.ChangeShapes Go.WideShapes Go.ChangeAt Go.RowKit Go.Sort
theorem costOne_h (w : World) (h : Hdl) (hset : SetIs w) (ht : HThere w h) (h0 : entC h.x = 0) :
    Calls Tryd.prog 44 #[.pointer (some ⟨h.b, h.o, none⟩)] w fun r w' => r = .returned (.int .i64 (entN h.x)) ∧ Below w.heap.size w w' := by
  obtain ⟨z1, _, _, z4, z5, _, _⟩ := entryC_zero h0
  have c := ht.cells
  exact costOne_at w h.b h.o h.x.key h.r.ha h.r.hc h.x.hs h.r.ba h.x.bl.length h.r.bc hset c.1 c.2.2.1 c.2.2.2.1 z1.2 z5 z4 ht.2.h
set_option maxRecDepth 100000 in
set_option maxHeartbeats 8000000 in
theorem shSum_any (w : World) (v : Value) (base : Nat) (l : List Hdl) (ho : OwnP w base v l) (hset : SetIs w) (hl : l.length ≤ 41) (hth : ∀ h ∈ l, HThere w h) (hz : ∀ h ∈ l, entC h.x = 0) :
    Calls Tryd.prog 43 #[.agg #[v], .func (.func 44) #[] #[]] w fun e w' => e = .returned (.int .i64 (costsE (l.map Hdl.x))) ∧ Below w.heap.size w w' := by
  obtain ⟨va, vc, rfl, _, hf⟩ := ho.form
  have HC : Hid (∀ (k : Nat) h, l[k]? = some h → ∃ g, va = some ⟨g, 0, none⟩ ∧ g < w.heap.size ∧ w.cell? ⟨g, k, none⟩ = some (.pointer (some ⟨h.b, h.o, none⟩))) := fun k h hk => by
    rcases hf with rfl | ⟨g, e, _, hg, hc⟩
    · simp at hk
    · exact ⟨g, e, hg, hc k h hk⟩
  have HT : Hid (∀ X, Below w.heap.size w X → ∀ h ∈ l, Calls Tryd.prog 44 #[.pointer (some ⟨h.b, h.o, none⟩)] X fun r w' => r = .returned (.int .i64 (entN h.x)) ∧ Below X.heap.size X w') := fun X hX h hh => costOne_h X h (hset.below hX) ((hth h hh).keep hX) (hz h hh)
  have HZ : Hid (∀ h ∈ l, entC h.x = 0) := hz
  clear hf ho hth hz hset
  obtain ⟨S, hS⟩ : ∃ S, Hid (costsE (l.map Hdl.x) = S) := ⟨_, rfl⟩
  rw [hS.out]
  generalize hn : l.length = n at *
  have HN : Hid (l.length = n) := hn
  clear hn
  have B0 : Hid (Below w.heap.size w (w.alloc (.cells #[.slice va n vc] 74))) := (Below.refl _ _).alloc (Nat.le_refl _) _
  go_enter Tryd.func43, Tryd.ntmps43
  go_wp2_with fail
  go_loopw [5, 11] (fun x i wr => ∃ (k : Nat) (c : Int), k ≤ n ∧ i = .int .i64 k ∧ x = .int .i64 c ∧ 0 ≤ c ∧ c ≤ 8000 * k ∧ S = c + costsE ((l.map Hdl.x).drop k) ∧ Below w.heap.size w wr) (fun _ i _ => n - (intOf i).toNat)
  case atStart => exact ⟨0, 0, Nat.zero_le _, rfl, rfl, by omega, by omega, by rw [← hS.out]; simp, B0.out⟩
  case round =>
    obtain ⟨k, c, hk, rfl, rfl, c2, c3, hs, hb⟩ := hrel
    have HS : Hid (S = c + costsE ((l.map Hdl.x).drop k)) := hs
    clear hs hS B0
    by_cases hlt : k < n
    · obtain ⟨q, hr⟩ : ∃ r, l[k]? = some r := ⟨l[k]'(by have := HN.out; omega), List.getElem?_eq_getElem _⟩
      obtain ⟨g', rfl, hg, hc⟩ := HC.out k q hr
      have p1 : wr.cell? ⟨g', k, none⟩ = some (.pointer (some ⟨q.b, q.o, none⟩)) := by rw [hb.cell (p := ⟨g', k, none⟩) hg]; exact hc
      have hle := entN_le (HZ.out q (List.mem_of_getElem? hr))
      have HS2 : Hid (S = c + entN q.x + costsE ((l.map Hdl.x).drop (k + 1))) := by
        show _ = _
        obtain ⟨hk2, hr2⟩ := List.getElem?_eq_some_iff.1 hr
        rw [HS.out, List.drop_eq_getElem_cons (i := k) (by simpa using hk2), costsE]
        simp [hr2]
        omega
      have C : Hid (Calls Tryd.prog 44 #[.pointer (some ⟨q.b, q.o, none⟩)] wr fun r w' => r = .returned (.int .i64 (entN q.x)) ∧ Below wr.heap.size wr w') := HT.out wr hb q (List.mem_of_getElem? hr)
      have g : (k : Int) < n := by omega
      have g0 : (0 : Int) ≤ k := by omega
      have HB : Hid (Below w.heap.size w wr) := hb
      clear HS hr hc hb HC HT HZ hg
      generalize entN q.x = en at *
      have e1 : IntKind.i64.wrap (c + en) = c + en := by
        unfold IntKind.wrap; simp [IntKind.signed, IntKind.bits]; omega
      go_wp2_with fail
      refine C.out.mono ?_
      rintro r w2 ⟨rfl, hb2⟩
      have HB2 : Hid (Below w.heap.size w w2) := HB.out.trans (hb2.mono HB.out.size)
      clear hb2 C HB p1
      go_wp2_with fail
      go_roundw
      case rel => exact ⟨k + 1, c + en, by omega, by go_num, by first | rfl | rw [e1], by omega, by omega, HS2.out, HB2.out⟩
      case measure => simp [intOf]; omega
    · have HF : Hid (S = c) := by
        show _ = _
        rw [HS.out, List.drop_of_length_le (by have := HN.out; simp; omega), costsE]
        omega
      clear HS
      go_wp2_with fail
      go_ret
      exact ⟨ret_int HF.out.symm, hb⟩
set_option maxRecDepth 100000 in
set_option maxHeartbeats 8000000 in
theorem shCost_any (w : World) (v1 v2 : Value) (base : Nat) (l1 l2 : List Hdl) (h : TwoP w base v1 v2 l1 l2) (hset : SetIs w) (hl : l1.length + l2.length ≤ 41) (hth : ∀ h ∈ l1 ++ l2, HThere w h) (hz : ∀ h ∈ l1 ++ l2, entC h.x = 0) :
    Calls Tryd.prog 42 #[.agg #[v1, v2]] w fun e w' => e = .returned (.int .i64 (costsE ((l1 ++ l2).map Hdl.x))) ∧ Below w.heap.size w w' := by
  obtain ⟨a1, k1, e1, _⟩ := h.a.form
  obtain ⟨a2, k2, e2, _⟩ := h.b.form
  obtain ⟨W, hW⟩ : ∃ W, W = w.alloc (.cells #[v1, v2] 76) := ⟨_, rfl⟩
  have HW : Hid (W = w.alloc (.cells #[v1, v2] 76)) := hW
  have bW : Below w.heap.size w W := by rw [hW]; exact (Below.refl _ _).alloc (Nat.le_refl _) _
  have q0 := cell_regrown (show W.cell? ⟨w.heap.size, 0, none⟩ = some v1 by rw [hW]; simp)
  have q1 := cell_regrown (show W.cell? ⟨w.heap.size, 1, none⟩ = some v2 by rw [hW]; simp)
  have cA : ∀ d os, Calls Tryd.prog 43 #[.agg #[v1], .func (.func 44) #[] #[]] (grow (redrawn W d) os) fun e w'' => e = .returned (.int .i64 (costsE (l1.map Hdl.x))) ∧ ∃ p : Regrown, w'' = grow (redrawn W p.d) p.os := fun d os => by
    have b := bW.trans ((below_regrown W d os).mono bW.size)
    exact Calls.regrown_of (shSum_any _ v1 base l1 (h.a.below b) (hset.below b) (by omega) (fun x hx => (hth x (List.mem_append_left _ hx)).keep b) (fun x hx => hz x (List.mem_append_left _ hx)))
  have cB : ∀ d os, Calls Tryd.prog 43 #[.agg #[v2], .func (.func 44) #[] #[]] (grow (redrawn W d) os) fun e w'' => e = .returned (.int .i64 (costsE (l2.map Hdl.x))) ∧ ∃ p : Regrown, w'' = grow (redrawn W p.d) p.os := fun d os => by
    have b := bW.trans ((below_regrown W d os).mono bW.size)
    exact Calls.regrown_of (shSum_any _ v2 base l2 (h.b.below b) (hset.below b) (by omega) (fun x hx => (hth x (List.mem_append_right _ hx)).keep b) (fun x hx => hz x (List.mem_append_right _ hx)))
  have n1 := costsE_le (l1.map Hdl.x) (fun x hx => by obtain ⟨y, hy, rfl⟩ := List.mem_map.1 hx; exact hz y (List.mem_append_left _ hy))
  have n2 := costsE_le (l2.map Hdl.x) (fun x hx => by obtain ⟨y, hy, rfl⟩ := List.mem_map.1 hx; exact hz y (List.mem_append_right _ hy))
  rw [List.length_map] at n1 n2
  rw [List.map_append, costsE_app]
  have HB : Hid (Below w.heap.size w W) := bW
  clear hW bW h hth hz hset
  generalize costsE (l1.map Hdl.x) = s1 at *
  generalize costsE (l2.map Hdl.x) = s2 at *
  have ew : IntKind.i64.wrap (s1 + s2) = s1 + s2 := by
    unfold IntKind.wrap; simp [IntKind.signed, IntKind.bits]; omega
  subst e1
  subst e2
  go_enter Tryd.func42, Tryd.ntmps42
  go_wp2_with fail
  rw [← HW.out]
  refine wp_region_quiet_below (by kernel_rfl) (by kernel_rfl) ?_
  repeat (go_big_quiet_step (first | (go_at_call 43; with_reducible exact cA _ _) | (go_at_call 43; with_reducible exact cB _ _)))
  refine wpQuiet_nil ?_
  intro w2 hw2
  have hbb : Below w.heap.size w w2 := by
    obtain ⟨⟨d, os⟩, rfl⟩ := hw2
    exact HB.out.trans ((below_regrown W d os).mono HB.out.size)
  clear hw2 cA cB q0 q1 HW
  go_wp2_with fail
  go_ret
  exact ⟨rfl, hbb⟩
end Go.Proofs.YtlbagfaiiileoaaDoor
/-
  A map of texts to places, in memory: what is asked of it, what is laid into it, what goes from it.
-/
namespace Go.Proofs.YtlbagfaiiileoaaDoor
open Go.ChangeShapes Go.WideShapes Go.ChangeAt Go.RowKit Go.Maps
open Go.WideMaps (keyOf_string_mk)
theorem isKeyL (x : ByteArray) : WideAt.IsKeyLit (.string x.data.toList) := trivial
theorem hkeyed : Keyed Tryd.prog 9 := string_keyed Tryd.underlying9
theorem hzeroInt (w : World) : (zeroValue 3).run Tryd.prog w = .ok (.int .i64 0) w := by kernel_rfl
def keyL (x : ByteArray) : Lit := .string x.data.toList
theorem keyL_ne {x y : ByteArray} (h : x ≠ y) : keyL x ≠ keyL y := by
  intro e
  unfold keyL at e
  simp only [Lit.string.injEq] at e
  exact h (ByteArray.ext (Array.ext' e))
/-- Block B is a map of at most n entries that has p's places at p's names. -/
def NamesMap (w : World) (B n : Nat) (p : ByteArray → Option Nat) : Prop :=
  ∃ D : DataW Unit, w.ownsMap Tryd.prog 9 (plainElem Tryd.prog 3) B n D ∧ ∀ x : ByteArray, Maps.has D (keyL x) = (p x).isSome ∧ ∀ i, p x = some i → D.atKey (keyL x) (.lit (.int .i64 0)) = .lit (.int .i64 (i : Int))
theorem NamesMap.lt {w : World} {B n : Nat} {p : ByteArray → Option Nat} (h : NamesMap w B n p) : B < w.heap.size := by
  obtain ⟨D, h, _⟩ := h
  exact h.lt
theorem NamesMap.below {w w' : World} {B n : Nat} {p : ByteArray → Option Nat} (h : NamesMap w B n p) (hb : Below w.heap.size w w') : NamesMap w' B n p := by
  have hl := h.lt
  obtain ⟨D, ⟨es, clock, hh, r⟩, h2⟩ := h
  exact ⟨D, ⟨es, clock, by rw [hb.block B hl]; exact hh, r⟩, h2⟩
theorem NamesMap.setCell {w : World} {B n : Nat} {p : ByteArray → Option Nat} (h : NamesMap w B n p) {a : Addr} (ha : B ≠ a.block) (u : Value) : NamesMap (w.setCell a u) B n p := by
  obtain ⟨D, h, h2⟩ := h
  exact ⟨D, h.setCell ha u, h2⟩
theorem NamesMap.made (w : World) : NamesMap (w.alloc (.map #[] 0)) w.heap.size 0 (fun _ => none) :=
  ⟨.map [], World.ownsMap_made w _ _ _, fun x => ⟨rfl, fun i h => by cases h⟩⟩
theorem NamesMap.of {w : World} {B n : Nat} {p q : ByteArray → Option Nat} (h : NamesMap w B n p) (e : ∀ x, p x = q x) : NamesMap w B n q := by
  obtain rfl : p = q := funext e
  exact h
theorem turned_below {w w' : World} {B base : Nat} (h : w.mapTurned w' B) (hb : base ≤ B) : Below base w w' :=
  (Below.refl base w).grown h.grown (by
    obtain ⟨es, clock, es', clock', hh, rfl⟩ := h
    have := (Array.getElem?_eq_some_iff.1 hh).1
    omega) (fun q hq => by cases hq; exact hb)
section
variable {ops : Array Oper} {rest : List Oper} {o : Oper} {a : Act} {Q : Exit → Act → World → Prop}
theorem wpList_look_none (w : World) (hg : o.guard = none) (m x : Operand) (hop : o.op = Op.lookup 92 m x true) (B n : Nat) (p : ByteArray → Option Nat)
    (hm : a.eval m = .map (some B)) (hown : NamesMap w B n p) (key : ByteArray) (hx : a.eval x = .string key) (hk : key.size ≤ 1048576) (hp : p key = none)
    (hK : wpList Tryd.prog ops Q rest (a.put o.dst (.tuple #[.int .i64 0, .bool false])) w) : wpList Tryd.prog ops Q (o :: rest) a w := by
  obtain ⟨D, hD, hat⟩ := hown
  have h1 : Maps.has D (keyL key) = false := by rw [(hat key).1, hp]; rfl
  refine wpList_lookup_own_ok_int w hg m x 92 hop 9 3 .i64 hkeyed Tryd.underlying92 Tryd.underlying3 (hzeroInt w) B n D hm hD _ (keyL key) hx (keyOf_string_mk Tryd.underlying9 (by unfold maxLen; omega)) ?_
  intro c hc _
  rw [atKey_of_not_has h1] at hc
  obtain rfl : c = 0 := by simpa using hc.symm
  rw [h1]
  exact hK
theorem wpList_look_some (w : World) (hg : o.guard = none) (m x : Operand) (hop : o.op = Op.lookup 92 m x true) (B n : Nat) (p : ByteArray → Option Nat)
    (hm : a.eval m = .map (some B)) (hown : NamesMap w B n p) (key : ByteArray) (hx : a.eval x = .string key) (hk : key.size ≤ 1048576) (i : Nat) (hp : p key = some i)
    (hK : wpList Tryd.prog ops Q rest (a.put o.dst (.tuple #[.int .i64 (i : Int), .bool true])) w) : wpList Tryd.prog ops Q (o :: rest) a w := by
  obtain ⟨D, hD, hat⟩ := hown
  have h1 : Maps.has D (keyL key) = true := by rw [(hat key).1, hp]; rfl
  refine wpList_lookup_own_ok_int w hg m x 92 hop 9 3 .i64 hkeyed Tryd.underlying92 Tryd.underlying3 (hzeroInt w) B n D hm hD _ (keyL key) hx (keyOf_string_mk Tryd.underlying9 (by unfold maxLen; omega)) ?_
  intro c hc _
  rw [(hat key).2 i hp] at hc
  obtain rfl : c = (i : Int) := by simpa using hc.symm
  rw [h1]
  exact hK
theorem wpList_put (w : World) (hg : o.guard = none) (m x v : Operand) (hop : o.op = Op.mapUpdate 92 m x v) (B n : Nat) (p : ByteArray → Option Nat)
    (hm : a.eval m = .map (some B)) (hown : NamesMap w B n p) (hn : n ≤ 1048576) (key : ByteArray) (hx : a.eval x = .string key) (hk : key.size ≤ 1048576) (i : Nat) (hi : i ≤ 1048576) (hv : a.eval v = .int .i64 (i : Int)) (base : Nat) (hbase : base ≤ B)
    (hK : ∀ w', NamesMap w' B (n + 1) (fun y => if y = key then some i else p y) → Below base w w' → wpList Tryd.prog ops Q rest (a.put o.dst undef) w') : wpList Tryd.prog ops Q (o :: rest) a w := by
  obtain ⟨D, hD, hat⟩ := hown
  refine wpList_mapUpdate_in w hg m x v 92 hop 9 3 hkeyed Tryd.underlying92 _ B n D hm hD (by unfold maxLen; omega) _ _ (keyL key) hx hv (keyOf_string_mk Tryd.underlying9 (by unfold maxLen; omega)) (.lit (.int .i64 (i : Int))) [] (plainElem_int Tryd.underlying3 (WalkArith.wf_i64 (by omega))) ?_
  intro w' hD' ht
  refine hK w' ⟨_, hD', fun y => ?_⟩ (turned_below ht hbase)
  by_cases e : y = key
  · subst e
    simp only [if_true]
    refine ⟨has_put_same hD.isMap (isKeyL _) _, fun j hj => ?_⟩
    obtain rfl := Option.some.inj hj
    exact atKey_put_same hD.isMap (isKeyL _) _ _
  · simp only [if_neg e]
    rw [has_put_other (keyL_ne e), atKey_put_other (keyL_ne e)]
    exact hat y
theorem wpList_del (w : World) (hg : o.guard = none) (m x : Operand) (hop : o.op = Op.call { callee := Callee.builtin Builtin.delete, args := #[m, x], argTypes := #[92, 9] }) (B n : Nat) (p : ByteArray → Option Nat)
    (hm : a.eval m = .map (some B)) (hown : NamesMap w B n p) (key : ByteArray) (hx : a.eval x = .string key) (hk : key.size ≤ 1048576) (base : Nat) (hbase : base ≤ B)
    (hK : ∀ w', NamesMap w' B n (fun y => if y = key then none else p y) → Below base w w' → wpList Tryd.prog ops Q rest (a.put o.dst (.tuple #[])) w') : wpList Tryd.prog ops Q (o :: rest) a w := by
  obtain ⟨D, hD, hat⟩ := hown
  refine wpList_delete_own w hg m x 92 9 hop 3 hkeyed Tryd.underlying92 _ B n D hm hD _ (keyL key) hx (keyOf_string_mk Tryd.underlying9 (by unfold maxLen; omega)) ?_
  intro w' hD' ht
  refine hK w' ⟨_, hD', fun y => ?_⟩ (turned_below ht hbase)
  by_cases e : y = key
  · subst e
    simp only [if_true]
    exact ⟨has_del_same, fun j hj => by cases hj⟩
  · simp only [if_neg e]
    rw [has_del_other (keyL_ne e), atKey_del_other (keyL_ne e)]
    exact hat y
end
end Go.Proofs.YtlbagfaiiileoaaDoor
/-
  Has a key come twice? By the program, with a map.
-/
namespace Go.Proofs.YtlbagfaiiileoaaDoor
open Go.ChangeShapes Go.WideShapes Go.ChangeAt Go.RowKit Go.Maps
open Go.WideMaps (keyOf_string_mk)
/-- Block B is a map that has just the keys K. -/
def KeyMap (w : World) (B : Nat) (K : List ByteArray) : Prop :=
  ∃ D : DataW Unit, w.ownsMap Tryd.prog 9 (plainElem Tryd.prog 3) B K.length D ∧ (∀ x : ByteArray, Maps.has D (keyL x) = true ↔ x ∈ K) ∧ (K.Nodup → Maps.size D = K.length) ∧ (¬ K.Nodup → Maps.size D < K.length)
theorem KeyMap.lt {w : World} {B : Nat} {K : List ByteArray} (h : KeyMap w B K) : B < w.heap.size := by
  obtain ⟨D, h, _⟩ := h
  exact h.lt
theorem KeyMap.below {w w' : World} {B : Nat} {K : List ByteArray} (h : KeyMap w B K) (hb : Below w.heap.size w w') : KeyMap w' B K := by
  have hl := h.lt
  obtain ⟨D, ⟨es, clock, hh, r⟩, h2⟩ := h
  exact ⟨D, ⟨es, clock, by rw [hb.block B hl]; exact hh, r⟩, h2⟩
theorem KeyMap.made (w : World) : KeyMap (w.alloc (.map #[] 0)) w.heap.size [] :=
  ⟨.map [], World.ownsMap_made w _ _ _, fun x => by simp [Maps.has], fun _ => rfl, fun h => absurd List.nodup_nil h⟩
section
variable {ops : Array Oper} {rest : List Oper} {o : Oper} {a : Act} {Q : Exit → Act → World → Prop}
theorem wpList_putK (w : World) (hg : o.guard = none) (m x v : Operand) (hop : o.op = Op.mapUpdate 92 m x v) (B : Nat) (K : List ByteArray)
    (hm : a.eval m = .map (some B)) (hown : KeyMap w B K) (hn : K.length ≤ 1048576) (key : ByteArray) (hx : a.eval x = .string key) (hk : key.size ≤ maxLen) (i : Nat) (hi : i ≤ 1048576) (hv : a.eval v = .int .i64 (i : Int)) (base : Nat) (hbase : base ≤ B)
    (hK : ∀ w', KeyMap w' B (K ++ [key]) → Below base w w' → wpList Tryd.prog ops Q rest (a.put o.dst undef) w') : wpList Tryd.prog ops Q (o :: rest) a w := by
  obtain ⟨D, hD, hat, hs1, hs2⟩ := hown
  refine wpList_mapUpdate_in w hg m x v 92 hop 9 3 hkeyed Tryd.underlying92 _ B K.length D hm hD (by unfold maxLen; omega) _ _ (keyL key) hx hv (keyOf_string_mk Tryd.underlying9 hk) (.lit (.int .i64 (i : Int))) [] (plainElem_int Tryd.underlying3 (WalkArith.wf_i64 (by omega))) ?_
  intro w' hD' ht
  have hsz := size_put (k := keyL key) (hD.tidy hkeyed) (.lit (.int .i64 (i : Int)))
  have hle := hD.size_le
  have hlen : (K ++ [key]).length = K.length + 1 := by simp
  refine hK w' ⟨_, by rw [hlen]; exact hD', fun y => ?_, fun hnd => ?_, fun hnd => ?_⟩ (turned_below ht hbase)
  · rcases Classical.em (y = key) with e | e
    · subst e
      rw [has_put_same (k := keyL y) hD.isMap (isKeyL y) _]
      simp
    · rw [has_put_other (keyL_ne e), hat y]
      simp [e]
  · have h2 := List.nodup_append.1 hnd
    have hnot : ¬ key ∈ K := fun hmem => h2.2.2 key hmem key (by simp) rfl
    have hf : Maps.has D (keyL key) = false := by
      cases c : Maps.has D (keyL key)
      · rfl
      · exact absurd ((hat key).1 c) hnot
    rw [hsz, hf, hs1 h2.1, hlen]
    rfl
  · rw [hsz, hlen]
    rcases Classical.em (key ∈ K) with hmem | hmem
    · rw [(hat key).2 hmem]
      simp only [if_true]
      omega
    · have hf : Maps.has D (keyL key) = false := by
        cases c : Maps.has D (keyL key)
        · rfl
        · exact absurd ((hat key).1 c) hmem
      rw [hf]
      have hn2 : ¬ K.Nodup := fun hnk => hnd (List.nodup_append.2 ⟨hnk, by simp, fun a ha b hb => by simp only [List.mem_singleton] at hb; subst hb; exact fun e => hmem (e ▸ ha)⟩)
      have := hs2 hn2
      simp only [Bool.false_eq_true, if_false]
      omega
end
theorem keys_nodup (l : List Ent) : (l.map Ent.key).Nodup ↔ (keysE l).Nodup := by
  have e : keysE l = (l.map Ent.key).map ByteArray.toList := by simp [keysE]
  rw [e]
  have inj : ∀ a b : ByteArray, a.toList = b.toList → a = b := fun a b h => by
    rw [ByteArray.toList_eq, ByteArray.toList_eq] at h
    exact ByteArray.ext (Array.ext' h)
  constructor
  · intro h
    exact List.Pairwise.map _ (fun a b hab hc => hab (inj a b hc)) h
  · intro h
    exact List.Pairwise.of_map _ (fun a b hab hc => hab (by rw [hc])) h
set_option maxHeartbeats 1000000 in
theorem keyOf_one (w : World) (b o : Nat) (k : ByteArray) (h : w.cell? ⟨b, o, none⟩ = some (.string k)) :
    Calls Tryd.prog 41 #[.pointer (some ⟨b, o, none⟩)] w fun e w' => e = .returned (.string k) ∧ Below w.heap.size w w' := by
  go_enter Tryd.func41, Tryd.ntmps41
  go_wp2_with fail
  go_ret
  exact ⟨rfl, Below.refl _ _⟩
set_option maxRecDepth 100000 in
set_option maxHeartbeats 8000000 in
theorem keyTwice_any (w : World) (v : Value) (base : Nat) (l : List Hdl) (ho : OwnP w base v l) (hl : l.length ≤ 1000000) (hth : ∀ h ∈ l, HThere w h) (hz : ∀ h ∈ l, h.x.key.size ≤ maxLen) :
    Calls Tryd.prog 40 #[v, .func (.func 41) #[] #[]] w fun e w' => e = .returned (.bool (dupE (l.map Hdl.x))) ∧ Below w.heap.size w w' := by
  obtain ⟨va, vc, rfl, _, hf⟩ := ho.form
  have HC : Hid (∀ X, Below w.heap.size w X → ∀ (k : Nat) h, l[k]? = some h → ∃ g, va = some ⟨g, 0, none⟩ ∧ X.cell? ⟨g, k, none⟩ = some (.pointer (some ⟨h.b, h.o, none⟩)) ∧ X.cell? ⟨h.b, h.o, none⟩ = some (.string h.x.key) ∧ h.x.key.size ≤ maxLen) := fun X hX k h hk => by
    rcases hf with rfl | ⟨g, e, _, hg, hc⟩
    · simp at hk
    · have t := ((hth h (List.mem_of_getElem? hk)).keep hX).cells.1
      exact ⟨g, e, by rw [hX.cell (p := ⟨g, k, none⟩) hg]; exact hc k h hk, t, hz h (List.mem_of_getElem? hk)⟩
  clear hf ho hth hz
  obtain ⟨S, hS⟩ : ∃ S, Hid (dupE (l.map Hdl.x) = S) := ⟨_, rfl⟩
  rw [hS.out]
  generalize hn : l.length = n at *
  have HN : Hid (l.length = n) := hn
  clear hn
  have B0 : Hid (Below w.heap.size w (w.alloc (.map #[] 0))) := (Below.refl _ _).alloc (Nat.le_refl _) _
  have M0 : Hid (KeyMap (w.alloc (.map #[] 0)) w.heap.size []) := KeyMap.made w
  have hmm := @run_makeMap Tryd.prog
  go_enter Tryd.func40, Tryd.ntmps40
  go_wp2_with fail
  go_loopw [11] (fun i wr => ∃ k : Nat, k ≤ n ∧ i = .int .i64 k ∧ KeyMap wr w.heap.size ((l.map (fun h => h.x.key)).take k) ∧ Below w.heap.size w wr) (fun i _ => n - (intOf i).toNat)
  case atStart => exact ⟨0, Nat.zero_le _, rfl, M0.out, B0.out⟩
  case round =>
    obtain ⟨k, hk, rfl, hm, hb⟩ := hrel
    have HM : Hid (KeyMap wr w.heap.size ((l.map (fun h => h.x.key)).take k)) := hm
    clear hm M0 B0
    have HB : Hid (Below w.heap.size w wr) := hb
    by_cases hlt : k < n
    · obtain ⟨q, hr⟩ : ∃ r, l[k]? = some r := ⟨l[k]'(by have := HN.out; omega), List.getElem?_eq_getElem _⟩
      obtain ⟨g', rfl, hc, hc2, hks⟩ := HC.out _ hb k q hr
      have HK2 : Hid ((l.map (fun h => h.x.key)).take k ++ [q.x.key] = (l.map (fun h => h.x.key)).take (k + 1)) := by
        show _ = _
        obtain ⟨hk2, hr2⟩ := List.getElem?_eq_some_iff.1 hr
        rw [List.take_succ_eq_append_getElem (by simpa using hk2)]
        simp [hr2]
      have HLN : Hid (((l.map (fun h => h.x.key)).take k).length ≤ 1048576) := by
        show _ ≤ _
        rw [List.length_take, List.length_map, HN.out]
        omega
      have g : (k : Int) < n := by omega
      have g0 : (0 : Int) ≤ k := by omega
      clear hr hb HC
      generalize q.x.key = qk at *
      have C := keyOf_one wr q.b q.o qk hc2
      go_wp2_with fail
      refine C.mono ?_
      rintro e w2 ⟨rfl, hb2⟩
      have HM2 : Hid (KeyMap w2 w.heap.size ((l.map (fun h => h.x.key)).take k)) := HM.out.below hb2
      have HB2 : Hid (Below w.heap.size w w2) := HB.out.trans (hb2.mono HB.out.size)
      clear C hb2 HM HB hc hc2
      go_wp2_with (at_mapUpdate; refine wpList_putK _ rfl (.tmp 16) (.tmp 19) (.tmp 20) rfl w.heap.size _ rfl HM2.out HLN.out qk rfl hks k (by omega) rfl w.heap.size (Nat.le_refl _) ?_; intro w' hm' hb')
      rw [HK2.out] at hm'
      go_wp2_with fail
      go_roundw
      case rel => exact ⟨k + 1, by omega, by go_num, hm', HB2.out.trans hb'⟩
      case measure => simp [intOf]; omega
    · have hkn : k = n := by omega
      subst hkn
      obtain ⟨D, hD, _, hs1, hs2⟩ := HM.out
      have e : (l.map (fun h => h.x.key)).take k = (l.map Hdl.x).map Ent.key := by
        rw [List.take_of_length_le (by have := HN.out; simp; omega)]
        simp
      rw [e] at hs1 hs2
      have hlen : ((l.map Hdl.x).map Ent.key).length = k := by have := HN.out; simp; exact this
      have HE : Hid (decide (Maps.size D < k) = S) := by
        show _ = _
        rw [← hS.out]
        unfold dupE
        by_cases hd : (keysE (l.map Hdl.x)).Nodup
        · have := hs1 ((keys_nodup _).2 hd)
          rw [decide_eq_true hd]
          simp
          omega
        · have := hs2 (fun h => hd ((keys_nodup _).1 h))
          rw [decide_eq_false hd]
          simp
          omega
      have HD : Hid (wr.ownsMap Tryd.prog 9 (plainElem Tryd.prog 3) w.heap.size ((l.map (fun h => h.x.key)).take k).length D) := hD
      clear hD hs1 hs2 e HM hb
      go_wp2_with (at_len; refine wpList_len_own _ rfl (.tmp 22) 92 rfl 9 3 Tryd.underlying92 _ w.heap.size _ D rfl HD.out ?_)
      go_ret
      exact ⟨ret_bool HE.out, HB.out⟩
end Go.Proofs.YtlbagfaiiileoaaDoor
