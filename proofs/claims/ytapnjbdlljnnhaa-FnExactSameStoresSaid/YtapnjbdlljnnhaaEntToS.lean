/-
  Lists of entries, copied by the laws.
-/
import Derived.Test.YtapnjbdlljnnhaaEntSz
namespace Go.Proofs.Ytapnjbdlljnnhaa
open Go.ChangeShapes Go.WideShapes Go.ChangeAt Go.RowKit Go.Sort
def blk : Option Addr → Nat
  | some a => a.block
  | none => 0
def mkR (x : Ent) (B1 B2 B3 : Nat) : EntR := ⟨some ⟨B1, 0, none⟩, x.hs.length, some ⟨B2, 0, none⟩, x.bl.length, some ⟨B3, 0, none⟩, x.ts.length⟩
/-- An entry whose lists are its own. -/
def EntOwn (W : World) (x : Ent) (r : EntR) : Prop := ∃ B1 B2 B3, r = mkR x B1 B2 B3 ∧ QMine W B1 x.hs ∧ BMine W B2 x.bl ∧ TMine W B3 x.ts ∧ B1 < B2 ∧ B2 < B3
theorem EntOwn.keep {W W' : World} {x : Ent} {r : EntR} (h : EntOwn W x r) (hb : Below W.heap.size W W') : EntOwn W' x r := by
  obtain ⟨B1, B2, B3, e, h1, h2, h3, h4⟩ := h
  exact ⟨B1, B2, B3, e, h1.keep hb, h2.keep hb, h3.keep hb, h4⟩
theorem EntOwn.in {W : World} {x : Ent} {r : EntR} (h : EntOwn W x r) : EntIn W x r := by
  obtain ⟨B1, B2, B3, rfl, h1, h2, h3, h4⟩ := h
  exact ⟨.inr ⟨_, _, rfl, h1.at0⟩, h2.in, h3.in, Nat.le_refl _, Nat.le_refl _, Nat.le_refl _⟩
theorem EntOwn.lt {W : World} {x : Ent} {r : EntR} (h : EntOwn W x r) : blk r.ta < W.heap.size := by
  obtain ⟨B1, B2, B3, rfl, h1, h2, h3, h4⟩ := h
  exact h3.lt
theorem EntOwn.off1 {W : World} {x : Ent} {r : EntR} (h : EntOwn W x r) {b i : Nat} (v : Value) (hne : b < blk r.ha) : EntOwn (W.setCell ⟨b, i, none⟩ v) x r := by
  obtain ⟨B1, B2, B3, rfl, h1, h2, h3, h4, h5⟩ := h
  have q : b < B1 := hne
  exact ⟨B1, B2, B3, rfl, h1.off1 v (by omega), h2.off1 v (by omega), h3.off1 v (by omega), h4, h5⟩
/-- A list of entries that is its holder's own. -/
structure EntsMine (W : World) (G : Nat) (l : List (Ent × EntR)) : Prop where
  cell : ∀ (i : Nat) q, l[i]? = some q → ∀ j, j < 13 → W.cell? ⟨G, i * 13 + j, none⟩ = (entW q.1 q.2)[j]?
  free : ∀ o, W.frozen? ⟨G, o, none⟩ = false
  lt : G < W.heap.size
  own : ∀ q ∈ l, EntOwn W q.1 q.2
  up : ∀ q ∈ l, G < blk q.2.ha
  pw : l.Pairwise (fun q q' => blk q.2.ta < blk q'.2.ha)
theorem EntsMine.keep {W W' : World} {G : Nat} {l : List (Ent × EntR)} (h : EntsMine W G l) (hb : Below W.heap.size W W') : EntsMine W' G l :=
  ⟨fun i q hq j hj => by rw [hb.cell (p := ⟨G, i * 13 + j, none⟩) h.lt]; exact h.cell i q hq j hj, fun o => by rw [hb.frozen (p := ⟨G, o, none⟩) h.lt]; exact h.free o, Nat.lt_of_lt_of_le h.lt hb.size, fun q hq => (h.own q hq).keep hb, h.up, h.pw⟩
theorem EntsMine.at0 {W : World} {G : Nat} {l : List (Ent × EntR)} (h : EntsMine W G l) : EntsAt W G 0 l := fun i q hq => ⟨fun j hj => by rw [Nat.zero_add]; exact h.cell i q hq j hj, (h.own q (List.mem_of_getElem? hq)).in⟩
theorem EntsMine.in {W : World} {G : Nat} {l : List (Ent × EntR)} (h : EntsMine W G l) : EntsIn W (some ⟨G, 0, none⟩) l := .inr ⟨G, 0, rfl, h.at0⟩
def put13 (X : World) (G k : Nat) (x0 x1 x2 x3 x4 x5 x6 x7 x8 x9 x10 x11 x12 : Value) : World := (((((((((((((X.setCell ⟨G, k * 13, none⟩ x0).setCell ⟨G, k * 13 + 1, none⟩ x1).setCell ⟨G, k * 13 + 2, none⟩ x2).setCell ⟨G, k * 13 + 3, none⟩ x3).setCell ⟨G, k * 13 + 4, none⟩ x4).setCell ⟨G, k * 13 + 5, none⟩ x5).setCell ⟨G, k * 13 + 6, none⟩ x6).setCell ⟨G, k * 13 + 7, none⟩ x7).setCell ⟨G, k * 13 + 8, none⟩ x8).setCell ⟨G, k * 13 + 9, none⟩ x9).setCell ⟨G, k * 13 + 10, none⟩ x10).setCell ⟨G, k * 13 + 11, none⟩ x11).setCell ⟨G, k * 13 + 12, none⟩ x12)
theorem put13_other (X : World) (G k : Nat) (x0 x1 x2 x3 x4 x5 x6 x7 x8 x9 x10 x11 x12 : Value) (i : Nat) (hi : i < k * 13 ∨ k * 13 + 13 ≤ i) : (put13 X G k x0 x1 x2 x3 x4 x5 x6 x7 x8 x9 x10 x11 x12).cell? ⟨G, i, none⟩ = X.cell? ⟨G, i, none⟩ := by
  unfold put13
  rw [World.cell?_setCell_other _ _ _ _ (hoff_ne (by omega)), World.cell?_setCell_other _ _ _ _ (hoff_ne (by omega)), World.cell?_setCell_other _ _ _ _ (hoff_ne (by omega)), World.cell?_setCell_other _ _ _ _ (hoff_ne (by omega)), World.cell?_setCell_other _ _ _ _ (hoff_ne (by omega)), World.cell?_setCell_other _ _ _ _ (hoff_ne (by omega)), World.cell?_setCell_other _ _ _ _ (hoff_ne (by omega)), World.cell?_setCell_other _ _ _ _ (hoff_ne (by omega)), World.cell?_setCell_other _ _ _ _ (hoff_ne (by omega)), World.cell?_setCell_other _ _ _ _ (hoff_ne (by omega)), World.cell?_setCell_other _ _ _ _ (hoff_ne (by omega)), World.cell?_setCell_other _ _ _ _ (hoff_ne (by omega)), World.cell?_setCell_other _ _ _ _ (hoff_ne (by omega))]
theorem put13_room {X : World} {G n : Nat} (k : Nat) (x0 x1 x2 x3 x4 x5 x6 x7 x8 x9 x10 x11 x12 : Value) (h : HRoom X G n) : HRoom (put13 X G k x0 x1 x2 x3 x4 x5 x6 x7 x8 x9 x10 x11 x12) G n := (((((((((((((h.set _ _).set _ _).set _ _).set _ _).set _ _).set _ _).set _ _).set _ _).set _ _).set _ _).set _ _).set _ _).set _ _)
theorem put13_free (X : World) (G k : Nat) (x0 x1 x2 x3 x4 x5 x6 x7 x8 x9 x10 x11 x12 : Value) (p : Addr) : (put13 X G k x0 x1 x2 x3 x4 x5 x6 x7 x8 x9 x10 x11 x12).frozen? p = X.frozen? p := by
  unfold put13
  rw [World.frozen?_setCell, World.frozen?_setCell, World.frozen?_setCell, World.frozen?_setCell, World.frozen?_setCell, World.frozen?_setCell, World.frozen?_setCell, World.frozen?_setCell, World.frozen?_setCell, World.frozen?_setCell, World.frozen?_setCell, World.frozen?_setCell, World.frozen?_setCell]
theorem put13_size (X : World) (G k : Nat) (x0 x1 x2 x3 x4 x5 x6 x7 x8 x9 x10 x11 x12 : Value) : (put13 X G k x0 x1 x2 x3 x4 x5 x6 x7 x8 x9 x10 x11 x12).heap.size = X.heap.size := by
  unfold put13
  simp
theorem put13_below {w X : World} {n G : Nat} (k : Nat) (x0 x1 x2 x3 x4 x5 x6 x7 x8 x9 x10 x11 x12 : Value) (h : Below n w X) (hn : n ≤ G) : Below n w (put13 X G k x0 x1 x2 x3 x4 x5 x6 x7 x8 x9 x10 x11 x12) := (((((((((((((h.setCell hn _).setCell hn _).setCell hn _).setCell hn _).setCell hn _).setCell hn _).setCell hn _).setCell hn _).setCell hn _).setCell hn _).setCell hn _).setCell hn _).setCell hn _)
theorem put13_cells {X : World} {G n : Nat} (k : Nat) (x0 x1 x2 x3 x4 x5 x6 x7 x8 x9 x10 x11 x12 : Value) (h : HRoom X G n) (hk : k * 13 + 13 ≤ n) : (put13 X G k x0 x1 x2 x3 x4 x5 x6 x7 x8 x9 x10 x11 x12).cell? ⟨G, k * 13, none⟩ = some x0 ∧ (put13 X G k x0 x1 x2 x3 x4 x5 x6 x7 x8 x9 x10 x11 x12).cell? ⟨G, k * 13 + 1, none⟩ = some x1 ∧ (put13 X G k x0 x1 x2 x3 x4 x5 x6 x7 x8 x9 x10 x11 x12).cell? ⟨G, k * 13 + 2, none⟩ = some x2 ∧ (put13 X G k x0 x1 x2 x3 x4 x5 x6 x7 x8 x9 x10 x11 x12).cell? ⟨G, k * 13 + 3, none⟩ = some x3 ∧ (put13 X G k x0 x1 x2 x3 x4 x5 x6 x7 x8 x9 x10 x11 x12).cell? ⟨G, k * 13 + 4, none⟩ = some x4 ∧ (put13 X G k x0 x1 x2 x3 x4 x5 x6 x7 x8 x9 x10 x11 x12).cell? ⟨G, k * 13 + 5, none⟩ = some x5 ∧ (put13 X G k x0 x1 x2 x3 x4 x5 x6 x7 x8 x9 x10 x11 x12).cell? ⟨G, k * 13 + 6, none⟩ = some x6 ∧ (put13 X G k x0 x1 x2 x3 x4 x5 x6 x7 x8 x9 x10 x11 x12).cell? ⟨G, k * 13 + 7, none⟩ = some x7 ∧ (put13 X G k x0 x1 x2 x3 x4 x5 x6 x7 x8 x9 x10 x11 x12).cell? ⟨G, k * 13 + 8, none⟩ = some x8 ∧ (put13 X G k x0 x1 x2 x3 x4 x5 x6 x7 x8 x9 x10 x11 x12).cell? ⟨G, k * 13 + 9, none⟩ = some x9 ∧ (put13 X G k x0 x1 x2 x3 x4 x5 x6 x7 x8 x9 x10 x11 x12).cell? ⟨G, k * 13 + 10, none⟩ = some x10 ∧ (put13 X G k x0 x1 x2 x3 x4 x5 x6 x7 x8 x9 x10 x11 x12).cell? ⟨G, k * 13 + 11, none⟩ = some x11 ∧ (put13 X G k x0 x1 x2 x3 x4 x5 x6 x7 x8 x9 x10 x11 x12).cell? ⟨G, k * 13 + 12, none⟩ = some x12 := by
  refine ⟨?_, ?_, ?_, ?_, ?_, ?_, ?_, ?_, ?_, ?_, ?_, ?_, ?_⟩
  · obtain ⟨⟨u, g⟩, _⟩ := h (k * 13) (by omega)
    unfold put13
    rw [World.cell?_setCell_other _ _ _ _ (hoff_ne (by omega)), World.cell?_setCell_other _ _ _ _ (hoff_ne (by omega)), World.cell?_setCell_other _ _ _ _ (hoff_ne (by omega)), World.cell?_setCell_other _ _ _ _ (hoff_ne (by omega)), World.cell?_setCell_other _ _ _ _ (hoff_ne (by omega)), World.cell?_setCell_other _ _ _ _ (hoff_ne (by omega)), World.cell?_setCell_other _ _ _ _ (hoff_ne (by omega)), World.cell?_setCell_other _ _ _ _ (hoff_ne (by omega)), World.cell?_setCell_other _ _ _ _ (hoff_ne (by omega)), World.cell?_setCell_other _ _ _ _ (hoff_ne (by omega)), World.cell?_setCell_other _ _ _ _ (hoff_ne (by omega)), World.cell?_setCell_other _ _ _ _ (hoff_ne (by omega))]
    exact World.cell?_setCell_same _ _ _ g
  · obtain ⟨⟨u, g⟩, _⟩ := (h.set ⟨G, k * 13, none⟩ x0) (k * 13 + 1) (by omega)
    unfold put13
    rw [World.cell?_setCell_other _ _ _ _ (hoff_ne (by omega)), World.cell?_setCell_other _ _ _ _ (hoff_ne (by omega)), World.cell?_setCell_other _ _ _ _ (hoff_ne (by omega)), World.cell?_setCell_other _ _ _ _ (hoff_ne (by omega)), World.cell?_setCell_other _ _ _ _ (hoff_ne (by omega)), World.cell?_setCell_other _ _ _ _ (hoff_ne (by omega)), World.cell?_setCell_other _ _ _ _ (hoff_ne (by omega)), World.cell?_setCell_other _ _ _ _ (hoff_ne (by omega)), World.cell?_setCell_other _ _ _ _ (hoff_ne (by omega)), World.cell?_setCell_other _ _ _ _ (hoff_ne (by omega)), World.cell?_setCell_other _ _ _ _ (hoff_ne (by omega))]
    exact World.cell?_setCell_same _ _ _ g
  · obtain ⟨⟨u, g⟩, _⟩ := ((h.set ⟨G, k * 13, none⟩ x0).set ⟨G, k * 13 + 1, none⟩ x1) (k * 13 + 2) (by omega)
    unfold put13
    rw [World.cell?_setCell_other _ _ _ _ (hoff_ne (by omega)), World.cell?_setCell_other _ _ _ _ (hoff_ne (by omega)), World.cell?_setCell_other _ _ _ _ (hoff_ne (by omega)), World.cell?_setCell_other _ _ _ _ (hoff_ne (by omega)), World.cell?_setCell_other _ _ _ _ (hoff_ne (by omega)), World.cell?_setCell_other _ _ _ _ (hoff_ne (by omega)), World.cell?_setCell_other _ _ _ _ (hoff_ne (by omega)), World.cell?_setCell_other _ _ _ _ (hoff_ne (by omega)), World.cell?_setCell_other _ _ _ _ (hoff_ne (by omega)), World.cell?_setCell_other _ _ _ _ (hoff_ne (by omega))]
    exact World.cell?_setCell_same _ _ _ g
  · obtain ⟨⟨u, g⟩, _⟩ := (((h.set ⟨G, k * 13, none⟩ x0).set ⟨G, k * 13 + 1, none⟩ x1).set ⟨G, k * 13 + 2, none⟩ x2) (k * 13 + 3) (by omega)
    unfold put13
    rw [World.cell?_setCell_other _ _ _ _ (hoff_ne (by omega)), World.cell?_setCell_other _ _ _ _ (hoff_ne (by omega)), World.cell?_setCell_other _ _ _ _ (hoff_ne (by omega)), World.cell?_setCell_other _ _ _ _ (hoff_ne (by omega)), World.cell?_setCell_other _ _ _ _ (hoff_ne (by omega)), World.cell?_setCell_other _ _ _ _ (hoff_ne (by omega)), World.cell?_setCell_other _ _ _ _ (hoff_ne (by omega)), World.cell?_setCell_other _ _ _ _ (hoff_ne (by omega)), World.cell?_setCell_other _ _ _ _ (hoff_ne (by omega))]
    exact World.cell?_setCell_same _ _ _ g
  · obtain ⟨⟨u, g⟩, _⟩ := ((((h.set ⟨G, k * 13, none⟩ x0).set ⟨G, k * 13 + 1, none⟩ x1).set ⟨G, k * 13 + 2, none⟩ x2).set ⟨G, k * 13 + 3, none⟩ x3) (k * 13 + 4) (by omega)
    unfold put13
    rw [World.cell?_setCell_other _ _ _ _ (hoff_ne (by omega)), World.cell?_setCell_other _ _ _ _ (hoff_ne (by omega)), World.cell?_setCell_other _ _ _ _ (hoff_ne (by omega)), World.cell?_setCell_other _ _ _ _ (hoff_ne (by omega)), World.cell?_setCell_other _ _ _ _ (hoff_ne (by omega)), World.cell?_setCell_other _ _ _ _ (hoff_ne (by omega)), World.cell?_setCell_other _ _ _ _ (hoff_ne (by omega)), World.cell?_setCell_other _ _ _ _ (hoff_ne (by omega))]
    exact World.cell?_setCell_same _ _ _ g
  · obtain ⟨⟨u, g⟩, _⟩ := (((((h.set ⟨G, k * 13, none⟩ x0).set ⟨G, k * 13 + 1, none⟩ x1).set ⟨G, k * 13 + 2, none⟩ x2).set ⟨G, k * 13 + 3, none⟩ x3).set ⟨G, k * 13 + 4, none⟩ x4) (k * 13 + 5) (by omega)
    unfold put13
    rw [World.cell?_setCell_other _ _ _ _ (hoff_ne (by omega)), World.cell?_setCell_other _ _ _ _ (hoff_ne (by omega)), World.cell?_setCell_other _ _ _ _ (hoff_ne (by omega)), World.cell?_setCell_other _ _ _ _ (hoff_ne (by omega)), World.cell?_setCell_other _ _ _ _ (hoff_ne (by omega)), World.cell?_setCell_other _ _ _ _ (hoff_ne (by omega)), World.cell?_setCell_other _ _ _ _ (hoff_ne (by omega))]
    exact World.cell?_setCell_same _ _ _ g
  · obtain ⟨⟨u, g⟩, _⟩ := ((((((h.set ⟨G, k * 13, none⟩ x0).set ⟨G, k * 13 + 1, none⟩ x1).set ⟨G, k * 13 + 2, none⟩ x2).set ⟨G, k * 13 + 3, none⟩ x3).set ⟨G, k * 13 + 4, none⟩ x4).set ⟨G, k * 13 + 5, none⟩ x5) (k * 13 + 6) (by omega)
    unfold put13
    rw [World.cell?_setCell_other _ _ _ _ (hoff_ne (by omega)), World.cell?_setCell_other _ _ _ _ (hoff_ne (by omega)), World.cell?_setCell_other _ _ _ _ (hoff_ne (by omega)), World.cell?_setCell_other _ _ _ _ (hoff_ne (by omega)), World.cell?_setCell_other _ _ _ _ (hoff_ne (by omega)), World.cell?_setCell_other _ _ _ _ (hoff_ne (by omega))]
    exact World.cell?_setCell_same _ _ _ g
  · obtain ⟨⟨u, g⟩, _⟩ := (((((((h.set ⟨G, k * 13, none⟩ x0).set ⟨G, k * 13 + 1, none⟩ x1).set ⟨G, k * 13 + 2, none⟩ x2).set ⟨G, k * 13 + 3, none⟩ x3).set ⟨G, k * 13 + 4, none⟩ x4).set ⟨G, k * 13 + 5, none⟩ x5).set ⟨G, k * 13 + 6, none⟩ x6) (k * 13 + 7) (by omega)
    unfold put13
    rw [World.cell?_setCell_other _ _ _ _ (hoff_ne (by omega)), World.cell?_setCell_other _ _ _ _ (hoff_ne (by omega)), World.cell?_setCell_other _ _ _ _ (hoff_ne (by omega)), World.cell?_setCell_other _ _ _ _ (hoff_ne (by omega)), World.cell?_setCell_other _ _ _ _ (hoff_ne (by omega))]
    exact World.cell?_setCell_same _ _ _ g
  · obtain ⟨⟨u, g⟩, _⟩ := ((((((((h.set ⟨G, k * 13, none⟩ x0).set ⟨G, k * 13 + 1, none⟩ x1).set ⟨G, k * 13 + 2, none⟩ x2).set ⟨G, k * 13 + 3, none⟩ x3).set ⟨G, k * 13 + 4, none⟩ x4).set ⟨G, k * 13 + 5, none⟩ x5).set ⟨G, k * 13 + 6, none⟩ x6).set ⟨G, k * 13 + 7, none⟩ x7) (k * 13 + 8) (by omega)
    unfold put13
    rw [World.cell?_setCell_other _ _ _ _ (hoff_ne (by omega)), World.cell?_setCell_other _ _ _ _ (hoff_ne (by omega)), World.cell?_setCell_other _ _ _ _ (hoff_ne (by omega)), World.cell?_setCell_other _ _ _ _ (hoff_ne (by omega))]
    exact World.cell?_setCell_same _ _ _ g
  · obtain ⟨⟨u, g⟩, _⟩ := (((((((((h.set ⟨G, k * 13, none⟩ x0).set ⟨G, k * 13 + 1, none⟩ x1).set ⟨G, k * 13 + 2, none⟩ x2).set ⟨G, k * 13 + 3, none⟩ x3).set ⟨G, k * 13 + 4, none⟩ x4).set ⟨G, k * 13 + 5, none⟩ x5).set ⟨G, k * 13 + 6, none⟩ x6).set ⟨G, k * 13 + 7, none⟩ x7).set ⟨G, k * 13 + 8, none⟩ x8) (k * 13 + 9) (by omega)
    unfold put13
    rw [World.cell?_setCell_other _ _ _ _ (hoff_ne (by omega)), World.cell?_setCell_other _ _ _ _ (hoff_ne (by omega)), World.cell?_setCell_other _ _ _ _ (hoff_ne (by omega))]
    exact World.cell?_setCell_same _ _ _ g
  · obtain ⟨⟨u, g⟩, _⟩ := ((((((((((h.set ⟨G, k * 13, none⟩ x0).set ⟨G, k * 13 + 1, none⟩ x1).set ⟨G, k * 13 + 2, none⟩ x2).set ⟨G, k * 13 + 3, none⟩ x3).set ⟨G, k * 13 + 4, none⟩ x4).set ⟨G, k * 13 + 5, none⟩ x5).set ⟨G, k * 13 + 6, none⟩ x6).set ⟨G, k * 13 + 7, none⟩ x7).set ⟨G, k * 13 + 8, none⟩ x8).set ⟨G, k * 13 + 9, none⟩ x9) (k * 13 + 10) (by omega)
    unfold put13
    rw [World.cell?_setCell_other _ _ _ _ (hoff_ne (by omega)), World.cell?_setCell_other _ _ _ _ (hoff_ne (by omega))]
    exact World.cell?_setCell_same _ _ _ g
  · obtain ⟨⟨u, g⟩, _⟩ := (((((((((((h.set ⟨G, k * 13, none⟩ x0).set ⟨G, k * 13 + 1, none⟩ x1).set ⟨G, k * 13 + 2, none⟩ x2).set ⟨G, k * 13 + 3, none⟩ x3).set ⟨G, k * 13 + 4, none⟩ x4).set ⟨G, k * 13 + 5, none⟩ x5).set ⟨G, k * 13 + 6, none⟩ x6).set ⟨G, k * 13 + 7, none⟩ x7).set ⟨G, k * 13 + 8, none⟩ x8).set ⟨G, k * 13 + 9, none⟩ x9).set ⟨G, k * 13 + 10, none⟩ x10) (k * 13 + 11) (by omega)
    unfold put13
    rw [World.cell?_setCell_other _ _ _ _ (hoff_ne (by omega))]
    exact World.cell?_setCell_same _ _ _ g
  · obtain ⟨⟨u, g⟩, _⟩ := ((((((((((((h.set ⟨G, k * 13, none⟩ x0).set ⟨G, k * 13 + 1, none⟩ x1).set ⟨G, k * 13 + 2, none⟩ x2).set ⟨G, k * 13 + 3, none⟩ x3).set ⟨G, k * 13 + 4, none⟩ x4).set ⟨G, k * 13 + 5, none⟩ x5).set ⟨G, k * 13 + 6, none⟩ x6).set ⟨G, k * 13 + 7, none⟩ x7).set ⟨G, k * 13 + 8, none⟩ x8).set ⟨G, k * 13 + 9, none⟩ x9).set ⟨G, k * 13 + 10, none⟩ x10).set ⟨G, k * 13 + 11, none⟩ x11) (k * 13 + 12) (by omega)
    unfold put13
    exact World.cell?_setCell_same _ _ _ g
def putE (X : World) (G k : Nat) (x : Ent) (r : EntR) : World := put13 X G k (.string x.key) (.int .i64 x.st) (.slice r.ha x.hs.length r.hc) (.slice r.ba x.bl.length r.bc) (.int .i64 x.t) (.int .i64 x.g) (.int .i64 x.l) (.int .i64 x.s) (.int .i64 x.e) (.bool x.b1) (.bool x.b2) (.slice r.ta x.ts.length r.tc) (.int .i64 x.pins)
theorem putE_own {X : World} {G k : Nat} {y : Ent} {s : EntR} (x : Ent) (r : EntR) (hk : EntOwn X y s) (h : G < blk s.ha) : EntOwn (putE X G k x r) y s := (((((((((((((hk.off1 _ h).off1 _ h).off1 _ h).off1 _ h).off1 _ h).off1 _ h).off1 _ h).off1 _ h).off1 _ h).off1 _ h).off1 _ h).off1 _ h).off1 _ h)
theorem EntsMine.put {W : World} {G n : Nat} {l : List (Ent × EntR)} (h : EntsMine W G l) (x : Ent) (r : EntR) (hm : HRoom W G n) (hn : l.length * 13 + 13 ≤ n) (ho : EntOwn W x r) (hu : G < blk r.ha) (hp : ∀ q ∈ l, blk q.2.ta < blk r.ha) : EntsMine (putE W G l.length x r) G (l ++ [(x, r)]) := by
  refine ⟨?_, fun o => ?_, ?_, ?_, ?_, ?_⟩
  · intro i q hq j hj
    have hi : i < l.length + 1 := by have := (List.getElem?_eq_some_iff.1 hq).1; simpa using this
    by_cases e : i = l.length
    · subst e
      rw [List.getElem?_append_right (Nat.le_refl _), Nat.sub_self] at hq
      obtain rfl := Option.some.inj hq
      have c := put13_cells l.length (.string x.key) (.int .i64 x.st) (.slice r.ha x.hs.length r.hc) (.slice r.ba x.bl.length r.bc) (.int .i64 x.t) (.int .i64 x.g) (.int .i64 x.l) (.int .i64 x.s) (.int .i64 x.e) (.bool x.b1) (.bool x.b2) (.slice r.ta x.ts.length r.tc) (.int .i64 x.pins) hm hn
      match j, hj with
      | 0, _ => exact c.1
      | 1, _ => exact c.2.1
      | 2, _ => exact c.2.2.1
      | 3, _ => exact c.2.2.2.1
      | 4, _ => exact c.2.2.2.2.1
      | 5, _ => exact c.2.2.2.2.2.1
      | 6, _ => exact c.2.2.2.2.2.2.1
      | 7, _ => exact c.2.2.2.2.2.2.2.1
      | 8, _ => exact c.2.2.2.2.2.2.2.2.1
      | 9, _ => exact c.2.2.2.2.2.2.2.2.2.1
      | 10, _ => exact c.2.2.2.2.2.2.2.2.2.2.1
      | 11, _ => exact c.2.2.2.2.2.2.2.2.2.2.2.1
      | 12, _ => exact c.2.2.2.2.2.2.2.2.2.2.2.2
    · rw [List.getElem?_append_left (by omega)] at hq
      have c := h.cell i q hq j hj
      unfold putE
      rw [put13_other _ _ _ _ _ _ _ _ _ _ _ _ _ _ _ _ _ (by omega)]
      exact c
  · unfold putE; rw [put13_free]; exact h.free o
  · unfold putE; rw [put13_size]; exact h.lt
  · intro q hq
    rcases List.mem_append.1 hq with hq | hq
    · exact putE_own _ _ (h.own q hq) (h.up q hq)
    · obtain rfl := List.mem_singleton.1 hq
      exact putE_own _ _ ho hu
  · intro q hq
    rcases List.mem_append.1 hq with hq | hq
    · exact h.up q hq
    · obtain rfl := List.mem_singleton.1 hq
      exact hu
  · refine List.pairwise_append.2 ⟨h.pw, List.pairwise_singleton _ _, fun q hq q' hq' => ?_⟩
    obtain rfl := List.mem_singleton.1 hq'
    exact hp q hq
theorem toEntry_q (w : World) (q : Ent × EntR) (h1 : q.1.hs.length ≤ 1048576) (h2 : q.1.bl.length ≤ 1048576) (h3 : q.1.ts.length ≤ 1048576) (hi : EntIn w q.1 q.2) :
    Calls Try.prog 17 #[.agg #[.string q.1.key, .int .i64 q.1.st, .slice q.2.ha q.1.hs.length q.2.hc, .slice q.2.ba q.1.bl.length q.2.bc, .int .i64 q.1.t, .int .i64 q.1.g, .int .i64 q.1.l, .int .i64 q.1.s, .int .i64 q.1.e, .bool q.1.b1, .bool q.1.b2, .slice q.2.ta q.1.ts.length q.2.tc, .int .i64 q.1.pins]] w fun ee w' => (∃ r, ee = .returned (entV q.1 r) ∧ EntOwn w' q.1 r ∧ w.heap.size < blk r.ha) ∧ Below w.heap.size w w' := by
  refine (toEntry_any w _ _ _ _ _ _ _ _ _ _ _ _ _ _ _ _ _ _ _ h1 h2 h3 hi.h hi.b hi.k).mono ?_
  rintro ee w' ⟨⟨B2, B3, rfl, a, b, c, d, e⟩, hb⟩
  exact ⟨⟨mkR q.1 (w.heap.size + 3) B2 B3, rfl, ⟨_, B2, B3, rfl, a, b, c, d, e⟩, by show w.heap.size < w.heap.size + 3; omega⟩, hb⟩
theorem infoEntry : (Try.prog.info? 42).map (fun i => (i.zero, i.size, i.bytes)) = some (some (.agg #[.string ⟨#[]⟩, .int .i64 0, .slice none 0 0, .slice none 0 0, .int .i64 0, .int .i64 0, .int .i64 0, .int .i64 0, .int .i64 0, .bool false, .bool false, .slice none 0 0, .int .i64 0]), 13, 152) := by kernel_rfl
/-- What fits. -/
structure EntFit (x : Ent) : Prop where
  h : x.hs.length ≤ 1048576
  b : x.bl.length ≤ 1048576
  t : x.ts.length ≤ 1048576
set_option maxHeartbeats 8000000 in
theorem toEntryS_any (w : World) (a : Option Addr) (cap : Nat) (l : List (Ent × EntR)) (hl : l.length ≤ 1048576) (hi : EntsIn w a l) (hf : ∀ q ∈ l, EntFit q.1) :
    Calls Try.prog 11 #[.slice a l.length cap] w fun e w' => e = .returned (.slice (some ⟨w.heap.size, 0, none⟩) l.length l.length) ∧ (∃ l', l'.map Prod.fst = l.map Prod.fst ∧ EntsMine w' w.heap.size l') ∧ Below w.heap.size w w' := by
  have HI : Hid (EntsIn w a l) := hi
  have HFT : Hid (∀ q ∈ l, EntFit q.1) := hf
  obtain ⟨i0, hi0, hz0, hz1, hz2⟩ := info_parts infoEntry
  clear hi hf
  generalize hn : l.length = n at *
  have HN : Hid (l.length = n) := hn
  clear hn
  go_enter Try.func11, Try.ntmps11
  go_wp2_with (at_make; refine wpList_make_full w rfl _ _ 27 rfl w.heap.size 42 i0 _ 13 Try.underlying27 hi0 hz0 hz1 _ _ _ _ n rfl rfl rfl rfl (by rw [hz2]; omega) (by unfold maxLen; omega) (Nat.le_refl _) ?_; intro w1 hown hgrow)
  have HR1 : Hid (HRoom w1 w.heap.size (n * 13) ∧ EntsMine w1 w.heap.size [] ∧ Below w.heap.size w w1) := by
    refine ⟨fun j hj => ⟨?_, hown.frozenAt j⟩, ⟨fun i q hq => by simp at hq, fun o => hown.frozenAt o, ?lt, fun q hq => by simp at hq, fun q hq => by simp at hq, List.Pairwise.nil⟩, (Below.refl _ _).grown hgrow (Nat.le_refl _) (fun q hq => by cases hq)⟩
    case lt =>
      obtain ⟨_, h | ⟨g, c, cur, e, _, hh, _⟩⟩ := hown
      · cases h.1
      · simp only [Value.slice.injEq, Option.some.injEq] at e
        have e1 := congrArg Addr.block e.1
        simp only at e1
        rw [e1]
        exact (Array.getElem?_eq_some_iff.1 hh).1
    have h1 := hown.cellAt j hj
    have h2 : j < (madeCells (Value.agg #[.string ⟨#[]⟩, .int .i64 0, .slice none 0 0, .slice none 0 0, .int .i64 0, .int .i64 0, .int .i64 0, .int .i64 0, .int .i64 0, .bool false, .bool false, .slice none 0 0, .int .i64 0]).cells (n * 13)).toList.length := by have := hown.1; omega
    exact ⟨_, h1.trans (List.getElem?_eq_getElem h2)⟩
  clear hown hgrow
  go_loopw [4] (fun i wr => ∃ (k : Nat) (l' : List (Ent × EntR)), k ≤ n ∧ i = .int .i64 k ∧ l'.length = k ∧ l'.map Prod.fst = (l.map Prod.fst).take k ∧ EntsMine wr w.heap.size l' ∧ HRoom wr w.heap.size (n * 13) ∧ Below w.heap.size w wr) (fun i _ => n - (intOf i).toNat)
  case atStart => exact ⟨0, [], Nat.zero_le _, rfl, rfl, by simp, HR1.out.2.1, HR1.out.1, HR1.out.2.2⟩
  case round =>
    obtain ⟨k, l', hk, rfl, hlen, hmap, hmine, hroom, hb⟩ := hrel
    have HL : Hid (l'.length = k) := hlen
    have HMP : Hid (l'.map Prod.fst = (l.map Prod.fst).take k) := hmap
    clear HR1 hlen hmap
    by_cases hlt : k < n
    · obtain ⟨q, hr⟩ : ∃ r, l[k]? = some r := ⟨l[k]'(by have := HN.out; omega), List.getElem?_eq_getElem _⟩
      rcases HI.out with h | ⟨b, off, rfl, hat⟩
      · subst h; simp at hr
      have PC := (hat.keep hb).cells hr
      have ft := HFT.out q (List.mem_of_getElem? hr)
      have C : Hid (Calls Try.prog 17 #[.agg #[.string q.1.key, .int .i64 q.1.st, .slice q.2.ha q.1.hs.length q.2.hc, .slice q.2.ba q.1.bl.length q.2.bc, .int .i64 q.1.t, .int .i64 q.1.g, .int .i64 q.1.l, .int .i64 q.1.s, .int .i64 q.1.e, .bool q.1.b1, .bool q.1.b2, .slice q.2.ta q.1.ts.length q.2.tc, .int .i64 q.1.pins]] wr fun ee w' => (∃ r, ee = .returned (entV q.1 r) ∧ EntOwn w' q.1 r ∧ wr.heap.size < blk r.ha) ∧ Below wr.heap.size wr w') := toEntry_q wr q ft.h ft.b ft.t ((hat.keep hb).in hr)
      have HMP2 : Hid (∀ r, (l' ++ [(q.1, r)]).map Prod.fst = (l.map Prod.fst).take (k + 1)) := by
        intro r
        obtain ⟨hk2, hr2⟩ := List.getElem?_eq_some_iff.1 hr
        rw [List.map_append, HMP.out, List.take_succ_eq_append_getElem (by simpa using hk2)]
        simp [hr2]
      have HA : Hid (EntsMine wr w.heap.size l') := hmine
      have HM : Hid (HRoom wr w.heap.size (n * 13)) := hroom
      have HB : Hid (Below w.heap.size w wr) := hb
      have g : (k : Int) < n := by omega
      clear hmine hroom hr hat HI hb ft HFT HMP
      have p0 := PC.1
      have p1 := PC.2.1
      have p2 := PC.2.2.1
      have p3 := PC.2.2.2.1
      have p4 := PC.2.2.2.2.1
      have p5 := PC.2.2.2.2.2.1
      have p6 := PC.2.2.2.2.2.2.1
      have p7 := PC.2.2.2.2.2.2.2.1
      have p8 := PC.2.2.2.2.2.2.2.2.1
      have p9 := PC.2.2.2.2.2.2.2.2.2.1
      have p10 := PC.2.2.2.2.2.2.2.2.2.2.1
      have p11 := PC.2.2.2.2.2.2.2.2.2.2.2.1
      have p12 := PC.2.2.2.2.2.2.2.2.2.2.2.2
      clear PC
      obtain ⟨x, r0⟩ := q
      simp only at p0 p1 p2 p3 p4 p5 p6 p7 p8 p9 p10 p11 p12 C HMP2
      go_wp2_with fail
      refine C.out.mono ?_
      rintro e w2 ⟨⟨r, rfl, ho, hu⟩, hb2⟩
      have hm2 := HM.out.keep hb2
      have hsz : w.heap.size < wr.heap.size := HA.out.lt
      have HP : Hid (EntsMine (putE w2 w.heap.size k x r) w.heap.size (l' ++ [(x, r)]) ∧ HRoom (putE w2 w.heap.size k x r) w.heap.size (n * 13) ∧ Below w.heap.size w (putE w2 w.heap.size k x r)) := by
        have hbb := HB.out.trans (hb2.mono HB.out.size)
        refine ⟨?_, put13_room _ _ _ _ _ _ _ _ _ _ _ _ _ _ hm2, put13_below _ _ _ _ _ _ _ _ _ _ _ _ _ _ hbb (Nat.le_refl _)⟩
        have hL := HL.out
        have z := (HA.out.keep hb2).put x r hm2 (by rw [hL]; omega) ho (by omega) (fun q hq => Nat.lt_trans ((HA.out.own q hq).lt) hu)
        rw [hL] at z
        exact z
      obtain ⟨⟨u0, g0⟩, f0⟩ := hm2 (k * 13) (by omega)
      obtain ⟨⟨u1, g1⟩, f1⟩ := hm2 (k * 13 + 1) (by omega)
      obtain ⟨⟨u2, g2⟩, f2⟩ := hm2 (k * 13 + 2) (by omega)
      obtain ⟨⟨u3, g3⟩, f3⟩ := hm2 (k * 13 + 3) (by omega)
      obtain ⟨⟨u4, g4⟩, f4⟩ := hm2 (k * 13 + 4) (by omega)
      obtain ⟨⟨u5, g5⟩, f5⟩ := hm2 (k * 13 + 5) (by omega)
      obtain ⟨⟨u6, g6⟩, f6⟩ := hm2 (k * 13 + 6) (by omega)
      obtain ⟨⟨u7, g7⟩, f7⟩ := hm2 (k * 13 + 7) (by omega)
      obtain ⟨⟨u8, g8⟩, f8⟩ := hm2 (k * 13 + 8) (by omega)
      obtain ⟨⟨u9, g9⟩, f9⟩ := hm2 (k * 13 + 9) (by omega)
      obtain ⟨⟨u10, g10⟩, f10⟩ := hm2 (k * 13 + 10) (by omega)
      obtain ⟨⟨u11, g11⟩, f11⟩ := hm2 (k * 13 + 11) (by omega)
      obtain ⟨⟨u12, g12⟩, f12⟩ := hm2 (k * 13 + 12) (by omega)
      have HL2 : Hid ((l' ++ [(x, r)]).length = k + 1) := by show _ = _; rw [List.length_append, HL.out]; rfl
      clear HA HM hb2 HB p0 p1 p2 p3 p4 p5 p6 p7 p8 p9 p10 p11 p12 C hm2 HL ho hu
      unfold entV entW
      go_wp2_with fail
      go_roundw
      case rel => exact ⟨k + 1, l' ++ [(x, r)], by omega, by go_num, HL2.out, HMP2.out r, HP.out.1, HP.out.2.1, HP.out.2.2⟩
      case measure => simp [intOf]; omega
    · have HF : Hid (l'.map Prod.fst = l.map Prod.fst ∧ EntsMine wr w.heap.size l') := by
        have e : (l.map Prod.fst).take k = l.map Prod.fst := List.take_of_length_le (by have := HN.out; simp; omega)
        exact ⟨by rw [HMP.out, e], hmine⟩
      clear hmine hroom
      go_wp2_with fail
      go_ret
      exact ⟨rfl, ⟨l', HF.out.1, HF.out.2⟩, hb⟩
end Go.Proofs.Ytapnjbdlljnnhaa
