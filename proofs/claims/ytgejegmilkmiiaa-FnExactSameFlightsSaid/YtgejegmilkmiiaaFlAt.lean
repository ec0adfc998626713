/-
  Flights, as they lie in memory.
-/
import Derived.Test.YtgejegmilkmiiaaHeadsLaws
import Derived.Test.YtgejegmilkmiiaaMsgLaws
import Derived.Test.YtgejegmilkmiiaaWrTo
namespace Go.Proofs.Ytgejegmilkmiiaa
open Go.ChangeShapes Go.WideShapes Go.ChangeAt Go.RowKit Go.Sort
/-- A flight, plainly. -/
structure Fl where
  id : Int
  key : ByteArray
  bk : Bool
  ot : Bool
  du : Int
  dm : Bool
  m : ByteArray
  h : ByteArray
  p : ByteArray
  hs : List Hdr
  ws : List Wr
/-- Where its lists lie. -/
structure FlR where
  ha : Option Addr
  hc : Nat
  wa : Option Addr
  wc : Nat
def flW (x : Fl) (r : FlR) : List Value := [.int .i64 x.id, .string x.key, .bool x.bk, .bool x.ot, .int .i64 x.du, .bool x.dm, .string x.m, .string x.h, .string x.p, .slice r.ha x.hs.length r.hc, .slice r.wa x.ws.length r.wc]
def flV (x : Fl) (r : FlR) : Value := .agg (flW x r).toArray
/-- Its lists, in a world. -/
structure FlIn (w : World) (x : Fl) (r : FlR) : Prop where
  h : HdsIn w r.ha x.hs
  k : WrIn w r.wa x.ws
  hc : x.hs.length ≤ r.hc
  wc : x.ws.length ≤ r.wc
theorem FlIn.keep {w w' : World} {x : Fl} {r : FlR} (k : FlIn w x r) (hb : Below w.heap.size w w') : FlIn w' x r := ⟨k.h.keep hb, k.k.keep hb, k.hc, k.wc⟩
/-- Flights one behind the other: eleven cells each. -/
def FlsAt (w : World) (b off : Nat) (l : List (Fl × FlR)) : Prop := ∀ (i : Nat) q, l[i]? = some q → (∀ j, j < 11 → w.cell? ⟨b, off + i * 11 + j, none⟩ = (flW q.1 q.2)[j]?) ∧ FlIn w q.1 q.2
theorem FlsAt.keep {w w' : World} {b off : Nat} {l : List (Fl × FlR)} (h : FlsAt w b off l) (hb : Below w.heap.size w w') : FlsAt w' b off l := by
  intro i q hq
  obtain ⟨h1, h2⟩ := h i q hq
  refine ⟨fun j hj => ?_, h2.keep hb⟩
  have c := h1 j hj
  have hlt : b < w.heap.size := by
    have c0 := h1 0 (by omega)
    exact block_lt_of_cell (c0.trans rfl)
  rw [hb.cell (p := ⟨b, off + i * 11 + j, none⟩) hlt]
  exact c
def FlsIn (w : World) (a : Option Addr) (l : List (Fl × FlR)) : Prop := l = [] ∨ ∃ b off, a = some ⟨b, off, none⟩ ∧ FlsAt w b off l
theorem FlsIn.keep {w w' : World} {a : Option Addr} {l : List (Fl × FlR)} (h : FlsIn w a l) (hb : Below w.heap.size w w') : FlsIn w' a l := by
  rcases h with h | ⟨b, off, e, h⟩
  · exact .inl h
  · exact .inr ⟨b, off, e, h.keep hb⟩
/-- Sizes that came in. -/
structure FlSm (x : Fl) : Prop where
  key : x.key.size ≤ maxLen
  m : x.m.size ≤ maxLen
  h : x.h.size ≤ maxLen
  p : x.p.size ≤ maxLen
  hl : x.hs.length ≤ maxLen
  hs : SmallHdrs x.hs
  wl : x.ws.length ≤ maxLen
/-- What fits. -/
structure FlFit (x : Fl) : Prop where
  key : x.key.size ≤ 1048576
  m : x.m.size ≤ 1048576
  hh : x.h.size ≤ 1048576
  p : x.p.size ≤ 1048576
  h : x.hs.length ≤ 1048576
  w : x.ws.length ≤ 1048576
theorem FlsAt.cells {w : World} {b off : Nat} {l : List (Fl × FlR)} (h : FlsAt w b off l) {i : Nat} {q : Fl × FlR} (hq : l[i]? = some q) : w.cell? ⟨b, off + i * 11, none⟩ = some (.int .i64 q.1.id) ∧ w.cell? ⟨b, off + i * 11 + 1, none⟩ = some (.string q.1.key) ∧ w.cell? ⟨b, off + i * 11 + 2, none⟩ = some (.bool q.1.bk) ∧ w.cell? ⟨b, off + i * 11 + 3, none⟩ = some (.bool q.1.ot) ∧ w.cell? ⟨b, off + i * 11 + 4, none⟩ = some (.int .i64 q.1.du) ∧ w.cell? ⟨b, off + i * 11 + 5, none⟩ = some (.bool q.1.dm) ∧ w.cell? ⟨b, off + i * 11 + 6, none⟩ = some (.string q.1.m) ∧ w.cell? ⟨b, off + i * 11 + 7, none⟩ = some (.string q.1.h) ∧ w.cell? ⟨b, off + i * 11 + 8, none⟩ = some (.string q.1.p) ∧ w.cell? ⟨b, off + i * 11 + 9, none⟩ = some (.slice q.2.ha q.1.hs.length q.2.hc) ∧ w.cell? ⟨b, off + i * 11 + 10, none⟩ = some (.slice q.2.wa q.1.ws.length q.2.wc) := by
  have c := (h i q hq).1
  exact ⟨c 0 (by omega), c 1 (by omega), c 2 (by omega), c 3 (by omega), c 4 (by omega), c 5 (by omega), c 6 (by omega), c 7 (by omega), c 8 (by omega), c 9 (by omega), c 10 (by omega)⟩
theorem FlsAt.in {w : World} {b off : Nat} {l : List (Fl × FlR)} (h : FlsAt w b off l) {i : Nat} {q : Fl × FlR} (hq : l[i]? = some q) : FlIn w q.1 q.2 := (h i q hq).2
/-- A flight that lies at a place. -/
def FlHere (w : World) (B O : Nat) (x : Fl) (r : FlR) : Prop := w.cell? ⟨B, O, none⟩ = some (.int .i64 x.id) ∧ w.cell? ⟨B, O + 1, none⟩ = some (.string x.key) ∧ w.cell? ⟨B, O + 2, none⟩ = some (.bool x.bk) ∧ w.cell? ⟨B, O + 3, none⟩ = some (.bool x.ot) ∧ w.cell? ⟨B, O + 4, none⟩ = some (.int .i64 x.du) ∧ w.cell? ⟨B, O + 5, none⟩ = some (.bool x.dm) ∧ w.cell? ⟨B, O + 6, none⟩ = some (.string x.m) ∧ w.cell? ⟨B, O + 7, none⟩ = some (.string x.h) ∧ w.cell? ⟨B, O + 8, none⟩ = some (.string x.p) ∧ w.cell? ⟨B, O + 9, none⟩ = some (.slice r.ha x.hs.length r.hc) ∧ w.cell? ⟨B, O + 10, none⟩ = some (.slice r.wa x.ws.length r.wc)
theorem FlHere.keep {w w' : World} {B O : Nat} {x : Fl} {r : FlR} (h : FlHere w B O x r) (hb : Below w.heap.size w w') : FlHere w' B O x r := by
  have hlt : B < w.heap.size := block_lt_of_cell h.1
  have hc : ∀ o, w'.cell? ⟨B, o, none⟩ = w.cell? ⟨B, o, none⟩ := fun o => hb.cell (p := ⟨B, o, none⟩) hlt
  unfold FlHere
  rw [hc, hc, hc, hc, hc, hc, hc, hc, hc, hc, hc]
  exact h
theorem FlsAt.here {w : World} {b off : Nat} {l : List (Fl × FlR)} (h : FlsAt w b off l) {i : Nat} {q : Fl × FlR} (hq : l[i]? = some q) : FlHere w b (off + i * 11) q.1 q.2 := h.cells hq
end Go.Proofs.Ytgejegmilkmiiaa
