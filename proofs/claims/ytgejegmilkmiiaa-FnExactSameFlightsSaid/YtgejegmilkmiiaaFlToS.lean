/-
  Lists of flights, copied by the laws.
-/
import Derived.Test.YtgejegmilkmiiaaFlTo
namespace Go.Proofs.Ytgejegmilkmiiaa
open Go.ChangeShapes Go.WideShapes Go.ChangeAt Go.RowKit Go.Sort
def blkF : Option Addr → Nat
  | some a => a.block
  | none => 0
def mkFR (x : Fl) (B1 B2 : Nat) : FlR := ⟨some ⟨B1, 0, none⟩, x.hs.length, some ⟨B2, 0, none⟩, x.ws.length⟩
/-- A flight whose lists are its own. -/
def FlOwn (W : World) (x : Fl) (r : FlR) : Prop := ∃ B1 B2, r = mkFR x B1 B2 ∧ QMine W B1 x.hs ∧ WrMine W B2 x.ws ∧ B1 < B2
theorem FlOwn.keep {W W' : World} {x : Fl} {r : FlR} (h : FlOwn W x r) (hb : Below W.heap.size W W') : FlOwn W' x r := by
  obtain ⟨B1, B2, e, h1, h2, h4⟩ := h
  exact ⟨B1, B2, e, h1.keep hb, h2.keep hb, h4⟩
theorem FlOwn.in {W : World} {x : Fl} {r : FlR} (h : FlOwn W x r) : FlIn W x r := by
  obtain ⟨B1, B2, rfl, h1, h2, h4⟩ := h
  exact ⟨.inr ⟨_, _, rfl, h1.at0⟩, h2.in, Nat.le_refl _, Nat.le_refl _⟩
theorem FlOwn.lt {W : World} {x : Fl} {r : FlR} (h : FlOwn W x r) : blkF r.wa < W.heap.size := by
  obtain ⟨B1, B2, rfl, h1, h2, h4⟩ := h
  exact h2.lt
theorem FlOwn.off1 {W : World} {x : Fl} {r : FlR} (h : FlOwn W x r) {b i : Nat} (v : Value) (hne : b < blkF r.ha) : FlOwn (W.setCell ⟨b, i, none⟩ v) x r := by
  obtain ⟨B1, B2, rfl, h1, h2, h4⟩ := h
  have q : b < B1 := hne
  exact ⟨B1, B2, rfl, h1.off1 v (by omega), h2.off1 v (by omega), h4⟩
/-- A list of flights that is its holder's own. -/
structure FlsMine (W : World) (G : Nat) (l : List (Fl × FlR)) : Prop where
  cell : ∀ (i : Nat) q, l[i]? = some q → ∀ j, j < 11 → W.cell? ⟨G, i * 11 + j, none⟩ = (flW q.1 q.2)[j]?
  free : ∀ o, W.frozen? ⟨G, o, none⟩ = false
  lt : G < W.heap.size
  own : ∀ q ∈ l, FlOwn W q.1 q.2
  up : ∀ q ∈ l, G < blkF q.2.ha
  pw : l.Pairwise (fun q q' => blkF q.2.wa < blkF q'.2.ha)
theorem FlsMine.keep {W W' : World} {G : Nat} {l : List (Fl × FlR)} (h : FlsMine W G l) (hb : Below W.heap.size W W') : FlsMine W' G l :=
  ⟨fun i q hq j hj => by rw [hb.cell (p := ⟨G, i * 11 + j, none⟩) h.lt]; exact h.cell i q hq j hj, fun o => by rw [hb.frozen (p := ⟨G, o, none⟩) h.lt]; exact h.free o, Nat.lt_of_lt_of_le h.lt hb.size, fun q hq => (h.own q hq).keep hb, h.up, h.pw⟩
theorem FlsMine.at0 {W : World} {G : Nat} {l : List (Fl × FlR)} (h : FlsMine W G l) : FlsAt W G 0 l := fun i q hq => ⟨fun j hj => by rw [Nat.zero_add]; exact h.cell i q hq j hj, (h.own q (List.mem_of_getElem? hq)).in⟩
theorem FlsMine.in {W : World} {G : Nat} {l : List (Fl × FlR)} (h : FlsMine W G l) : FlsIn W (some ⟨G, 0, none⟩) l := .inr ⟨G, 0, rfl, h.at0⟩
def put11 (X : World) (G k : Nat) (x0 x1 x2 x3 x4 x5 x6 x7 x8 x9 x10 : Value) : World := (((((((((((X.setCell ⟨G, k * 11, none⟩ x0).setCell ⟨G, k * 11 + 1, none⟩ x1).setCell ⟨G, k * 11 + 2, none⟩ x2).setCell ⟨G, k * 11 + 3, none⟩ x3).setCell ⟨G, k * 11 + 4, none⟩ x4).setCell ⟨G, k * 11 + 5, none⟩ x5).setCell ⟨G, k * 11 + 6, none⟩ x6).setCell ⟨G, k * 11 + 7, none⟩ x7).setCell ⟨G, k * 11 + 8, none⟩ x8).setCell ⟨G, k * 11 + 9, none⟩ x9).setCell ⟨G, k * 11 + 10, none⟩ x10)
theorem put11_other (X : World) (G k : Nat) (x0 x1 x2 x3 x4 x5 x6 x7 x8 x9 x10 : Value) (i : Nat) (hi : i < k * 11 ∨ k * 11 + 11 ≤ i) : (put11 X G k x0 x1 x2 x3 x4 x5 x6 x7 x8 x9 x10).cell? ⟨G, i, none⟩ = X.cell? ⟨G, i, none⟩ := by
  unfold put11
  rw [World.cell?_setCell_other _ _ _ _ (hoff_ne (by omega)), World.cell?_setCell_other _ _ _ _ (hoff_ne (by omega)), World.cell?_setCell_other _ _ _ _ (hoff_ne (by omega)), World.cell?_setCell_other _ _ _ _ (hoff_ne (by omega)), World.cell?_setCell_other _ _ _ _ (hoff_ne (by omega)), World.cell?_setCell_other _ _ _ _ (hoff_ne (by omega)), World.cell?_setCell_other _ _ _ _ (hoff_ne (by omega)), World.cell?_setCell_other _ _ _ _ (hoff_ne (by omega)), World.cell?_setCell_other _ _ _ _ (hoff_ne (by omega)), World.cell?_setCell_other _ _ _ _ (hoff_ne (by omega)), World.cell?_setCell_other _ _ _ _ (hoff_ne (by omega))]
theorem put11_room {X : World} {G n : Nat} (k : Nat) (x0 x1 x2 x3 x4 x5 x6 x7 x8 x9 x10 : Value) (h : HRoom X G n) : HRoom (put11 X G k x0 x1 x2 x3 x4 x5 x6 x7 x8 x9 x10) G n := (((((((((((h.set _ _).set _ _).set _ _).set _ _).set _ _).set _ _).set _ _).set _ _).set _ _).set _ _).set _ _)
theorem put11_free (X : World) (G k : Nat) (x0 x1 x2 x3 x4 x5 x6 x7 x8 x9 x10 : Value) (p : Addr) : (put11 X G k x0 x1 x2 x3 x4 x5 x6 x7 x8 x9 x10).frozen? p = X.frozen? p := by
  unfold put11
  rw [World.frozen?_setCell, World.frozen?_setCell, World.frozen?_setCell, World.frozen?_setCell, World.frozen?_setCell, World.frozen?_setCell, World.frozen?_setCell, World.frozen?_setCell, World.frozen?_setCell, World.frozen?_setCell, World.frozen?_setCell]
theorem put11_size (X : World) (G k : Nat) (x0 x1 x2 x3 x4 x5 x6 x7 x8 x9 x10 : Value) : (put11 X G k x0 x1 x2 x3 x4 x5 x6 x7 x8 x9 x10).heap.size = X.heap.size := by
  unfold put11
  simp
theorem put11_below {w X : World} {n G : Nat} (k : Nat) (x0 x1 x2 x3 x4 x5 x6 x7 x8 x9 x10 : Value) (h : Below n w X) (hn : n ≤ G) : Below n w (put11 X G k x0 x1 x2 x3 x4 x5 x6 x7 x8 x9 x10) := (((((((((((h.setCell hn _).setCell hn _).setCell hn _).setCell hn _).setCell hn _).setCell hn _).setCell hn _).setCell hn _).setCell hn _).setCell hn _).setCell hn _)
theorem put11_cells {X : World} {G n : Nat} (k : Nat) (x0 x1 x2 x3 x4 x5 x6 x7 x8 x9 x10 : Value) (h : HRoom X G n) (hk : k * 11 + 11 ≤ n) : (put11 X G k x0 x1 x2 x3 x4 x5 x6 x7 x8 x9 x10).cell? ⟨G, k * 11, none⟩ = some x0 ∧ (put11 X G k x0 x1 x2 x3 x4 x5 x6 x7 x8 x9 x10).cell? ⟨G, k * 11 + 1, none⟩ = some x1 ∧ (put11 X G k x0 x1 x2 x3 x4 x5 x6 x7 x8 x9 x10).cell? ⟨G, k * 11 + 2, none⟩ = some x2 ∧ (put11 X G k x0 x1 x2 x3 x4 x5 x6 x7 x8 x9 x10).cell? ⟨G, k * 11 + 3, none⟩ = some x3 ∧ (put11 X G k x0 x1 x2 x3 x4 x5 x6 x7 x8 x9 x10).cell? ⟨G, k * 11 + 4, none⟩ = some x4 ∧ (put11 X G k x0 x1 x2 x3 x4 x5 x6 x7 x8 x9 x10).cell? ⟨G, k * 11 + 5, none⟩ = some x5 ∧ (put11 X G k x0 x1 x2 x3 x4 x5 x6 x7 x8 x9 x10).cell? ⟨G, k * 11 + 6, none⟩ = some x6 ∧ (put11 X G k x0 x1 x2 x3 x4 x5 x6 x7 x8 x9 x10).cell? ⟨G, k * 11 + 7, none⟩ = some x7 ∧ (put11 X G k x0 x1 x2 x3 x4 x5 x6 x7 x8 x9 x10).cell? ⟨G, k * 11 + 8, none⟩ = some x8 ∧ (put11 X G k x0 x1 x2 x3 x4 x5 x6 x7 x8 x9 x10).cell? ⟨G, k * 11 + 9, none⟩ = some x9 ∧ (put11 X G k x0 x1 x2 x3 x4 x5 x6 x7 x8 x9 x10).cell? ⟨G, k * 11 + 10, none⟩ = some x10 := by
  refine ⟨?_, ?_, ?_, ?_, ?_, ?_, ?_, ?_, ?_, ?_, ?_⟩
  · obtain ⟨⟨u, g⟩, _⟩ := h (k * 11) (by omega)
    unfold put11
    rw [World.cell?_setCell_other _ _ _ _ (hoff_ne (by omega)), World.cell?_setCell_other _ _ _ _ (hoff_ne (by omega)), World.cell?_setCell_other _ _ _ _ (hoff_ne (by omega)), World.cell?_setCell_other _ _ _ _ (hoff_ne (by omega)), World.cell?_setCell_other _ _ _ _ (hoff_ne (by omega)), World.cell?_setCell_other _ _ _ _ (hoff_ne (by omega)), World.cell?_setCell_other _ _ _ _ (hoff_ne (by omega)), World.cell?_setCell_other _ _ _ _ (hoff_ne (by omega)), World.cell?_setCell_other _ _ _ _ (hoff_ne (by omega)), World.cell?_setCell_other _ _ _ _ (hoff_ne (by omega))]
    exact World.cell?_setCell_same _ _ _ g
  · obtain ⟨⟨u, g⟩, _⟩ := (h.set ⟨G, k * 11, none⟩ x0) (k * 11 + 1) (by omega)
    unfold put11
    rw [World.cell?_setCell_other _ _ _ _ (hoff_ne (by omega)), World.cell?_setCell_other _ _ _ _ (hoff_ne (by omega)), World.cell?_setCell_other _ _ _ _ (hoff_ne (by omega)), World.cell?_setCell_other _ _ _ _ (hoff_ne (by omega)), World.cell?_setCell_other _ _ _ _ (hoff_ne (by omega)), World.cell?_setCell_other _ _ _ _ (hoff_ne (by omega)), World.cell?_setCell_other _ _ _ _ (hoff_ne (by omega)), World.cell?_setCell_other _ _ _ _ (hoff_ne (by omega)), World.cell?_setCell_other _ _ _ _ (hoff_ne (by omega))]
    exact World.cell?_setCell_same _ _ _ g
  · obtain ⟨⟨u, g⟩, _⟩ := ((h.set ⟨G, k * 11, none⟩ x0).set ⟨G, k * 11 + 1, none⟩ x1) (k * 11 + 2) (by omega)
    unfold put11
    rw [World.cell?_setCell_other _ _ _ _ (hoff_ne (by omega)), World.cell?_setCell_other _ _ _ _ (hoff_ne (by omega)), World.cell?_setCell_other _ _ _ _ (hoff_ne (by omega)), World.cell?_setCell_other _ _ _ _ (hoff_ne (by omega)), World.cell?_setCell_other _ _ _ _ (hoff_ne (by omega)), World.cell?_setCell_other _ _ _ _ (hoff_ne (by omega)), World.cell?_setCell_other _ _ _ _ (hoff_ne (by omega)), World.cell?_setCell_other _ _ _ _ (hoff_ne (by omega))]
    exact World.cell?_setCell_same _ _ _ g
  · obtain ⟨⟨u, g⟩, _⟩ := (((h.set ⟨G, k * 11, none⟩ x0).set ⟨G, k * 11 + 1, none⟩ x1).set ⟨G, k * 11 + 2, none⟩ x2) (k * 11 + 3) (by omega)
    unfold put11
    rw [World.cell?_setCell_other _ _ _ _ (hoff_ne (by omega)), World.cell?_setCell_other _ _ _ _ (hoff_ne (by omega)), World.cell?_setCell_other _ _ _ _ (hoff_ne (by omega)), World.cell?_setCell_other _ _ _ _ (hoff_ne (by omega)), World.cell?_setCell_other _ _ _ _ (hoff_ne (by omega)), World.cell?_setCell_other _ _ _ _ (hoff_ne (by omega)), World.cell?_setCell_other _ _ _ _ (hoff_ne (by omega))]
    exact World.cell?_setCell_same _ _ _ g
  · obtain ⟨⟨u, g⟩, _⟩ := ((((h.set ⟨G, k * 11, none⟩ x0).set ⟨G, k * 11 + 1, none⟩ x1).set ⟨G, k * 11 + 2, none⟩ x2).set ⟨G, k * 11 + 3, none⟩ x3) (k * 11 + 4) (by omega)
    unfold put11
    rw [World.cell?_setCell_other _ _ _ _ (hoff_ne (by omega)), World.cell?_setCell_other _ _ _ _ (hoff_ne (by omega)), World.cell?_setCell_other _ _ _ _ (hoff_ne (by omega)), World.cell?_setCell_other _ _ _ _ (hoff_ne (by omega)), World.cell?_setCell_other _ _ _ _ (hoff_ne (by omega)), World.cell?_setCell_other _ _ _ _ (hoff_ne (by omega))]
    exact World.cell?_setCell_same _ _ _ g
  · obtain ⟨⟨u, g⟩, _⟩ := (((((h.set ⟨G, k * 11, none⟩ x0).set ⟨G, k * 11 + 1, none⟩ x1).set ⟨G, k * 11 + 2, none⟩ x2).set ⟨G, k * 11 + 3, none⟩ x3).set ⟨G, k * 11 + 4, none⟩ x4) (k * 11 + 5) (by omega)
    unfold put11
    rw [World.cell?_setCell_other _ _ _ _ (hoff_ne (by omega)), World.cell?_setCell_other _ _ _ _ (hoff_ne (by omega)), World.cell?_setCell_other _ _ _ _ (hoff_ne (by omega)), World.cell?_setCell_other _ _ _ _ (hoff_ne (by omega)), World.cell?_setCell_other _ _ _ _ (hoff_ne (by omega))]
    exact World.cell?_setCell_same _ _ _ g
  · obtain ⟨⟨u, g⟩, _⟩ := ((((((h.set ⟨G, k * 11, none⟩ x0).set ⟨G, k * 11 + 1, none⟩ x1).set ⟨G, k * 11 + 2, none⟩ x2).set ⟨G, k * 11 + 3, none⟩ x3).set ⟨G, k * 11 + 4, none⟩ x4).set ⟨G, k * 11 + 5, none⟩ x5) (k * 11 + 6) (by omega)
    unfold put11
    rw [World.cell?_setCell_other _ _ _ _ (hoff_ne (by omega)), World.cell?_setCell_other _ _ _ _ (hoff_ne (by omega)), World.cell?_setCell_other _ _ _ _ (hoff_ne (by omega)), World.cell?_setCell_other _ _ _ _ (hoff_ne (by omega))]
    exact World.cell?_setCell_same _ _ _ g
  · obtain ⟨⟨u, g⟩, _⟩ := (((((((h.set ⟨G, k * 11, none⟩ x0).set ⟨G, k * 11 + 1, none⟩ x1).set ⟨G, k * 11 + 2, none⟩ x2).set ⟨G, k * 11 + 3, none⟩ x3).set ⟨G, k * 11 + 4, none⟩ x4).set ⟨G, k * 11 + 5, none⟩ x5).set ⟨G, k * 11 + 6, none⟩ x6) (k * 11 + 7) (by omega)
    unfold put11
    rw [World.cell?_setCell_other _ _ _ _ (hoff_ne (by omega)), World.cell?_setCell_other _ _ _ _ (hoff_ne (by omega)), World.cell?_setCell_other _ _ _ _ (hoff_ne (by omega))]
    exact World.cell?_setCell_same _ _ _ g
  · obtain ⟨⟨u, g⟩, _⟩ := ((((((((h.set ⟨G, k * 11, none⟩ x0).set ⟨G, k * 11 + 1, none⟩ x1).set ⟨G, k * 11 + 2, none⟩ x2).set ⟨G, k * 11 + 3, none⟩ x3).set ⟨G, k * 11 + 4, none⟩ x4).set ⟨G, k * 11 + 5, none⟩ x5).set ⟨G, k * 11 + 6, none⟩ x6).set ⟨G, k * 11 + 7, none⟩ x7) (k * 11 + 8) (by omega)
    unfold put11
    rw [World.cell?_setCell_other _ _ _ _ (hoff_ne (by omega)), World.cell?_setCell_other _ _ _ _ (hoff_ne (by omega))]
    exact World.cell?_setCell_same _ _ _ g
  · obtain ⟨⟨u, g⟩, _⟩ := (((((((((h.set ⟨G, k * 11, none⟩ x0).set ⟨G, k * 11 + 1, none⟩ x1).set ⟨G, k * 11 + 2, none⟩ x2).set ⟨G, k * 11 + 3, none⟩ x3).set ⟨G, k * 11 + 4, none⟩ x4).set ⟨G, k * 11 + 5, none⟩ x5).set ⟨G, k * 11 + 6, none⟩ x6).set ⟨G, k * 11 + 7, none⟩ x7).set ⟨G, k * 11 + 8, none⟩ x8) (k * 11 + 9) (by omega)
    unfold put11
    rw [World.cell?_setCell_other _ _ _ _ (hoff_ne (by omega))]
    exact World.cell?_setCell_same _ _ _ g
  · obtain ⟨⟨u, g⟩, _⟩ := ((((((((((h.set ⟨G, k * 11, none⟩ x0).set ⟨G, k * 11 + 1, none⟩ x1).set ⟨G, k * 11 + 2, none⟩ x2).set ⟨G, k * 11 + 3, none⟩ x3).set ⟨G, k * 11 + 4, none⟩ x4).set ⟨G, k * 11 + 5, none⟩ x5).set ⟨G, k * 11 + 6, none⟩ x6).set ⟨G, k * 11 + 7, none⟩ x7).set ⟨G, k * 11 + 8, none⟩ x8).set ⟨G, k * 11 + 9, none⟩ x9) (k * 11 + 10) (by omega)
    unfold put11
    exact World.cell?_setCell_same _ _ _ g
def putF (X : World) (G k : Nat) (x : Fl) (r : FlR) : World := put11 X G k (.int .i64 x.id) (.string x.key) (.bool x.bk) (.bool x.ot) (.int .i64 x.du) (.bool x.dm) (.string x.m) (.string x.h) (.string x.p) (.slice r.ha x.hs.length r.hc) (.slice r.wa x.ws.length r.wc)
theorem putF_own {X : World} {G k : Nat} {y : Fl} {s : FlR} (x : Fl) (r : FlR) (hk : FlOwn X y s) (h : G < blkF s.ha) : FlOwn (putF X G k x r) y s := (((((((((((hk.off1 _ h).off1 _ h).off1 _ h).off1 _ h).off1 _ h).off1 _ h).off1 _ h).off1 _ h).off1 _ h).off1 _ h).off1 _ h)
theorem FlsMine.put {W : World} {G n : Nat} {l : List (Fl × FlR)} (h : FlsMine W G l) (x : Fl) (r : FlR) (hm : HRoom W G n) (hn : l.length * 11 + 11 ≤ n) (ho : FlOwn W x r) (hu : G < blkF r.ha) (hp : ∀ q ∈ l, blkF q.2.wa < blkF r.ha) : FlsMine (putF W G l.length x r) G (l ++ [(x, r)]) := by
  refine ⟨?_, fun o => ?_, ?_, ?_, ?_, ?_⟩
  · intro i q hq j hj
    have hi : i < l.length + 1 := by have := (List.getElem?_eq_some_iff.1 hq).1; simpa using this
    by_cases e : i = l.length
    · subst e
      rw [List.getElem?_append_right (Nat.le_refl _), Nat.sub_self] at hq
      obtain rfl := Option.some.inj hq
      have c := put11_cells l.length (.int .i64 x.id) (.string x.key) (.bool x.bk) (.bool x.ot) (.int .i64 x.du) (.bool x.dm) (.string x.m) (.string x.h) (.string x.p) (.slice r.ha x.hs.length r.hc) (.slice r.wa x.ws.length r.wc) hm hn
      match j, hj with
      | 0, _ => exact c.1
      | 1, _ => exact c.2.1
      | 2, _ => exact c.2.2.1
      | 3, _ => exact c.2.2.2.1
      | 4, _ => exact c.2.2.2.2.1
      | 5, _ => exact c.2.2.2.2.2.1
      | 6, _ => exact c.2.2.2.2.2.2.1
      | 7, _ => exact c.2.2.2.2.2.2.2.1
      | 8, _ => exact c.2.2.2.2.2.2.2.2.1
      | 9, _ => exact c.2.2.2.2.2.2.2.2.2.1
      | 10, _ => exact c.2.2.2.2.2.2.2.2.2.2
    · rw [List.getElem?_append_left (by omega)] at hq
      have c := h.cell i q hq j hj
      unfold putF
      rw [put11_other _ _ _ _ _ _ _ _ _ _ _ _ _ _ _ (by omega)]
      exact c
  · unfold putF; rw [put11_free]; exact h.free o
  · unfold putF; rw [put11_size]; exact h.lt
  · intro q hq
    rcases List.mem_append.1 hq with hq | hq
    · exact putF_own _ _ (h.own q hq) (h.up q hq)
    · obtain rfl := List.mem_singleton.1 hq
      exact putF_own _ _ ho hu
  · intro q hq
    rcases List.mem_append.1 hq with hq | hq
    · exact h.up q hq
    · obtain rfl := List.mem_singleton.1 hq
      exact hu
  · refine List.pairwise_append.2 ⟨h.pw, List.pairwise_singleton _ _, fun q hq q' hq' => ?_⟩
    obtain rfl := List.mem_singleton.1 hq'
    exact hp q hq
theorem toFlight_q (w : World) (q : Fl × FlR) (h1 : q.1.hs.length ≤ 1048576) (h2 : q.1.ws.length ≤ 1048576) (hi : FlIn w q.1 q.2) :
    Calls Try.prog 12 #[.agg #[.int .i64 q.1.id, .string q.1.key, .bool q.1.bk, .bool q.1.ot, .int .i64 q.1.du, .bool q.1.dm, .string q.1.m, .string q.1.h, .string q.1.p, .slice q.2.ha q.1.hs.length q.2.hc, .slice q.2.wa q.1.ws.length q.2.wc]] w fun e w' => (∃ r, e = .returned (flV q.1 r) ∧ FlOwn w' q.1 r ∧ w.heap.size < blkF r.ha) ∧ Below w.heap.size w w' := by
  refine (toFlight_any w _ _ _ _ _ _ _ _ _ _ _ _ _ _ _ h1 h2 hi.h hi.k).mono ?_
  rintro ee w' ⟨⟨B2, rfl, a, b, d⟩, hb⟩
  exact ⟨⟨mkFR q.1 (w.heap.size + 6) B2, rfl, ⟨_, B2, rfl, a, b, d⟩, by show w.heap.size < w.heap.size + 6; omega⟩, hb⟩
theorem infoFlight : (Try.prog.info? 40).map (fun i => (i.zero, i.size, i.bytes)) = some (some (.agg #[.int .i64 0, .string ⟨#[]⟩, .bool false, .bool false, .int .i64 0, .bool false, .string ⟨#[]⟩, .string ⟨#[]⟩, .string ⟨#[]⟩, .slice none 0 0, .slice none 0 0]), 11, 144) := by kernel_rfl
set_option maxHeartbeats 8000000 in
theorem toFlightS_any (w : World) (a : Option Addr) (cap : Nat) (l : List (Fl × FlR)) (hl : l.length ≤ 1048576) (hi : FlsIn w a l) (hf : ∀ q ∈ l, FlFit q.1) :
    Calls Try.prog 6 #[.slice a l.length cap] w fun e w' => e = .returned (.slice (some ⟨w.heap.size, 0, none⟩) l.length l.length) ∧ (∃ l', l'.map Prod.fst = l.map Prod.fst ∧ FlsMine w' w.heap.size l') ∧ Below w.heap.size w w' := by
  have HI : Hid (FlsIn w a l) := hi
  have HFT : Hid (∀ q ∈ l, FlFit q.1) := hf
  obtain ⟨i0, hi0, hz0, hz1, hz2⟩ := info_parts infoFlight
  clear hi hf
  generalize hn : l.length = n at *
  have HN : Hid (l.length = n) := hn
  clear hn
  go_enter Try.func6, Try.ntmps6
  go_wp2_with (at_make; refine wpList_make_full w rfl _ _ 25 rfl w.heap.size 40 i0 _ 11 Try.underlying25 hi0 hz0 hz1 _ _ _ _ n rfl rfl rfl rfl (by rw [hz2]; omega) (by unfold maxLen; omega) (Nat.le_refl _) ?_; intro w1 hown hgrow)
  have HR1 : Hid (HRoom w1 w.heap.size (n * 11) ∧ FlsMine w1 w.heap.size [] ∧ Below w.heap.size w w1) := by
    refine ⟨fun j hj => ⟨?_, hown.frozenAt j⟩, ⟨fun i q hq => by simp at hq, fun o => hown.frozenAt o, ?lt, fun q hq => by simp at hq, fun q hq => by simp at hq, List.Pairwise.nil⟩, (Below.refl _ _).grown hgrow (Nat.le_refl _) (fun q hq => by cases hq)⟩
    case lt =>
      obtain ⟨_, h | ⟨g, c, cur, e, _, hh, _⟩⟩ := hown
      · cases h.1
      · simp only [Value.slice.injEq, Option.some.injEq] at e
        have e1 := congrArg Addr.block e.1
        simp only at e1
        rw [e1]
        exact (Array.getElem?_eq_some_iff.1 hh).1
    have h1 := hown.cellAt j hj
    have h2 : j < (madeCells (Value.agg #[.int .i64 0, .string ⟨#[]⟩, .bool false, .bool false, .int .i64 0, .bool false, .string ⟨#[]⟩, .string ⟨#[]⟩, .string ⟨#[]⟩, .slice none 0 0, .slice none 0 0]).cells (n * 11)).toList.length := by have := hown.1; omega
    exact ⟨_, h1.trans (List.getElem?_eq_getElem h2)⟩
  clear hown hgrow
  go_loopw [4] (fun i wr => ∃ (k : Nat) (l' : List (Fl × FlR)), k ≤ n ∧ i = .int .i64 k ∧ l'.length = k ∧ l'.map Prod.fst = (l.map Prod.fst).take k ∧ FlsMine wr w.heap.size l' ∧ HRoom wr w.heap.size (n * 11) ∧ Below w.heap.size w wr) (fun i _ => n - (intOf i).toNat)
  case atStart => exact ⟨0, [], Nat.zero_le _, rfl, rfl, by simp, HR1.out.2.1, HR1.out.1, HR1.out.2.2⟩
  case round =>
    obtain ⟨k, l', hk, rfl, hlen, hmap, hmine, hroom, hb⟩ := hrel
    have HL : Hid (l'.length = k) := hlen
    have HMP : Hid (l'.map Prod.fst = (l.map Prod.fst).take k) := hmap
    clear HR1 hlen hmap
    by_cases hlt : k < n
    · obtain ⟨q, hr⟩ : ∃ r, l[k]? = some r := ⟨l[k]'(by have := HN.out; omega), List.getElem?_eq_getElem _⟩
      rcases HI.out with h | ⟨b, off, rfl, hat⟩
      · subst h; simp at hr
      have PC := (hat.keep hb).cells hr
      have ft := HFT.out q (List.mem_of_getElem? hr)
      have C : Hid (Calls Try.prog 12 #[.agg #[.int .i64 q.1.id, .string q.1.key, .bool q.1.bk, .bool q.1.ot, .int .i64 q.1.du, .bool q.1.dm, .string q.1.m, .string q.1.h, .string q.1.p, .slice q.2.ha q.1.hs.length q.2.hc, .slice q.2.wa q.1.ws.length q.2.wc]] wr fun ee w' => (∃ r, ee = .returned (flV q.1 r) ∧ FlOwn w' q.1 r ∧ wr.heap.size < blkF r.ha) ∧ Below wr.heap.size wr w') := toFlight_q wr q ft.h ft.w ((hat.keep hb).in hr)
      have HMP2 : Hid (∀ r, (l' ++ [(q.1, r)]).map Prod.fst = (l.map Prod.fst).take (k + 1)) := by
        intro r
        obtain ⟨hk2, hr2⟩ := List.getElem?_eq_some_iff.1 hr
        rw [List.map_append, HMP.out, List.take_succ_eq_append_getElem (by simpa using hk2)]
        simp [hr2]
      have HA : Hid (FlsMine wr w.heap.size l') := hmine
      have HM : Hid (HRoom wr w.heap.size (n * 11)) := hroom
      have HB : Hid (Below w.heap.size w wr) := hb
      have g : (k : Int) < n := by omega
      clear hmine hroom hr hat HI hb ft HFT HMP
      have p0 := PC.1
      have p1 := PC.2.1
      have p2 := PC.2.2.1
      have p3 := PC.2.2.2.1
      have p4 := PC.2.2.2.2.1
      have p5 := PC.2.2.2.2.2.1
      have p6 := PC.2.2.2.2.2.2.1
      have p7 := PC.2.2.2.2.2.2.2.1
      have p8 := PC.2.2.2.2.2.2.2.2.1
      have p9 := PC.2.2.2.2.2.2.2.2.2.1
      have p10 := PC.2.2.2.2.2.2.2.2.2.2
      clear PC
      obtain ⟨x, r0⟩ := q
      simp only at p0 p1 p2 p3 p4 p5 p6 p7 p8 p9 p10 C HMP2
      go_wp2_with fail
      refine C.out.mono ?_
      rintro e w2 ⟨⟨r, rfl, ho, hu⟩, hb2⟩
      have hm2 := HM.out.keep hb2
      have hsz : w.heap.size < wr.heap.size := HA.out.lt
      have HP : Hid (FlsMine (putF w2 w.heap.size k x r) w.heap.size (l' ++ [(x, r)]) ∧ HRoom (putF w2 w.heap.size k x r) w.heap.size (n * 11) ∧ Below w.heap.size w (putF w2 w.heap.size k x r)) := by
        have hbb := HB.out.trans (hb2.mono HB.out.size)
        refine ⟨?_, put11_room _ _ _ _ _ _ _ _ _ _ _ _ hm2, put11_below _ _ _ _ _ _ _ _ _ _ _ _ hbb (Nat.le_refl _)⟩
        have hL := HL.out
        have z := (HA.out.keep hb2).put x r hm2 (by rw [hL]; omega) ho (by omega) (fun q hq => Nat.lt_trans ((HA.out.own q hq).lt) hu)
        rw [hL] at z
        exact z
      obtain ⟨⟨u0, g0⟩, f0⟩ := hm2 (k * 11) (by omega)
      obtain ⟨⟨u1, g1⟩, f1⟩ := hm2 (k * 11 + 1) (by omega)
      obtain ⟨⟨u2, g2⟩, f2⟩ := hm2 (k * 11 + 2) (by omega)
      obtain ⟨⟨u3, g3⟩, f3⟩ := hm2 (k * 11 + 3) (by omega)
      obtain ⟨⟨u4, g4⟩, f4⟩ := hm2 (k * 11 + 4) (by omega)
      obtain ⟨⟨u5, g5⟩, f5⟩ := hm2 (k * 11 + 5) (by omega)
      obtain ⟨⟨u6, g6⟩, f6⟩ := hm2 (k * 11 + 6) (by omega)
      obtain ⟨⟨u7, g7⟩, f7⟩ := hm2 (k * 11 + 7) (by omega)
      obtain ⟨⟨u8, g8⟩, f8⟩ := hm2 (k * 11 + 8) (by omega)
      obtain ⟨⟨u9, g9⟩, f9⟩ := hm2 (k * 11 + 9) (by omega)
      obtain ⟨⟨u10, g10⟩, f10⟩ := hm2 (k * 11 + 10) (by omega)
      have HL2 : Hid ((l' ++ [(x, r)]).length = k + 1) := by show _ = _; rw [List.length_append, HL.out]; rfl
      clear HA HM hb2 HB p0 p1 p2 p3 p4 p5 p6 p7 p8 p9 p10 C hm2 HL ho hu
      unfold flV flW
      go_wp2_with fail
      go_roundw
      case rel => exact ⟨k + 1, l' ++ [(x, r)], by omega, by go_num, HL2.out, HMP2.out r, HP.out.1, HP.out.2.1, HP.out.2.2⟩
      case measure => simp [intOf]; omega
    · have HF : Hid (l'.map Prod.fst = l.map Prod.fst ∧ FlsMine wr w.heap.size l') := by
        have e : (l.map Prod.fst).take k = l.map Prod.fst := List.take_of_length_le (by have := HN.out; simp; omega)
        exact ⟨by rw [HMP.out, e], hmine⟩
      clear hmine hroom
      go_wp2_with fail
      go_ret
      exact ⟨rfl, ⟨l', HF.out.1, HF.out.2⟩, hb⟩
end Go.Proofs.Ytgejegmilkmiiaa
