/-
  Entries of a store, as they lie in memory.
-/
import Derived.Test.YtelbddgdaibolaaDoorHeadsLaws
import Derived.Test.YtelbddgdaibolaaDoorByteRows
import Derived.Test.YtelbddgdaibolaaDoorTextRows
namespace Go.Proofs.YtelbddgdaibolaaDoor
open Go.ChangeShapes Go.WideShapes Go.ChangeAt Go.RowKit Go.Sort
/-- An entry, plainly. -/
structure Ent where
  key : ByteArray
  st : Int
  hs : List Hdr
  bl : List UInt8
  t : Int
  g : Int
  l : Int
  s : Int
  e : Int
  b1 : Bool
  b2 : Bool
  ts : List ByteArray
  pins : Int
/-- Where its lists lie. -/
structure EntR where
  ha : Option Addr
  hc : Nat
  ba : Option Addr
  bc : Nat
  ta : Option Addr
  tc : Nat
def entW (x : Ent) (r : EntR) : List Value := [.string x.key, .int .i64 x.st, .slice r.ha x.hs.length r.hc, .slice r.ba x.bl.length r.bc, .int .i64 x.t, .int .i64 x.g, .int .i64 x.l, .int .i64 x.s, .int .i64 x.e, .bool x.b1, .bool x.b2, .slice r.ta x.ts.length r.tc, .int .i64 x.pins]
def entV (x : Ent) (r : EntR) : Value := .agg (entW x r).toArray
/-- Its lists, in a world. -/
structure EntIn (w : World) (x : Ent) (r : EntR) : Prop where
  h : HdsIn w r.ha x.hs
  b : BIn w r.ba x.bl
  k : TIn w r.ta x.ts
  hc : x.hs.length ≤ r.hc
  bc : x.bl.length ≤ r.bc
  tc : x.ts.length ≤ r.tc
theorem EntIn.keep {w w' : World} {x : Ent} {r : EntR} (k : EntIn w x r) (hb : Below w.heap.size w w') : EntIn w' x r := ⟨k.h.keep hb, k.b.keep hb, k.k.keep hb, k.hc, k.bc, k.tc⟩
/-- Entries one behind the other: thirteen cells each. -/
def EntsAt (w : World) (b off : Nat) (l : List (Ent × EntR)) : Prop := ∀ (i : Nat) q, l[i]? = some q → (∀ j, j < 13 → w.cell? ⟨b, off + i * 13 + j, none⟩ = (entW q.1 q.2)[j]?) ∧ EntIn w q.1 q.2
theorem EntsAt.keep {w w' : World} {b off : Nat} {l : List (Ent × EntR)} (h : EntsAt w b off l) (hb : Below w.heap.size w w') : EntsAt w' b off l := by
  intro i q hq
  obtain ⟨h1, h2⟩ := h i q hq
  refine ⟨fun j hj => ?_, h2.keep hb⟩
  have c := h1 j hj
  have hlt : b < w.heap.size := by
    have c0 := h1 0 (by omega)
    exact block_lt_of_cell (c0.trans rfl)
  rw [hb.cell (p := ⟨b, off + i * 13 + j, none⟩) hlt]
  exact c
def EntsIn (w : World) (a : Option Addr) (l : List (Ent × EntR)) : Prop := l = [] ∨ ∃ b off, a = some ⟨b, off, none⟩ ∧ EntsAt w b off l
theorem EntsIn.keep {w w' : World} {a : Option Addr} {l : List (Ent × EntR)} (h : EntsIn w a l) (hb : Below w.heap.size w w') : EntsIn w' a l := by
  rcases h with h | ⟨b, off, e, h⟩
  · exact .inl h
  · exact .inr ⟨b, off, e, h.keep hb⟩
/-- Sizes that came in. -/
structure EntSm (x : Ent) : Prop where
  key : x.key.size ≤ maxLen
  hl : x.hs.length ≤ maxLen
  hs : SmallHdrs x.hs
  bl : x.bl.length ≤ maxLen
  tl : x.ts.length ≤ maxLen
  ts : ∀ t ∈ x.ts, t.size ≤ maxLen
end Go.Proofs.YtelbddgdaibolaaDoor
