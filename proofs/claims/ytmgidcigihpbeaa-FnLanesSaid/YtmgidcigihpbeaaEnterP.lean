/-
  Who enters, in plain words.
-/
import Derived.Test.YtmgidcigihpbeaaBlkCopy
namespace Go.Proofs.Ytmgidcigihpbeaa
open Go.ChangeShapes Go.WideShapes Go.ChangeAt Go.RowKit Go.Sort
structure EnQ where
  c : Int
  y : Int
  l : List Wt
  u : Bool
def EnRes (w : World) (base : Nat) (q : EnQ) (e : Ending) : Prop := ∃ a cp, e = .returned (.agg #[.int .i64 q.c, .int .i64 q.y, .slice a q.l.length cp, .bool q.u]) ∧ WtNew w base (.slice a q.l.length cp) q.l ∧ q.l.length ≤ cp
theorem EnRes.mk {w : World} {base : Nat} {q : EnQ} {c0 y : Int} {a : Option Addr} {n cp : Nat} {l : List Wt} {u : Bool} (h : q = ⟨c0, y, l, u⟩) (hn : l.length = n) (hm : WtNew w base (.slice a n cp) l) (hc : n ≤ cp) : EnRes w base q (.returned (.agg #[.int .i64 c0, .int .i64 y, .slice a n cp, .bool u])) := by
  subst h; subst hn
  exact ⟨a, cp, rfl, hm, hc⟩
/-- What is so of a bulkhead and lanes that have no fault. -/
structure GoodB (y : Int) (l : List Wt) (s c t : Int) : Prop where
  hs : 1 ≤ s ∧ s ≤ 8
  hc : 0 ≤ c ∧ c ≤ 8
  ht : 0 ≤ t ∧ t ≤ 1000000
  hy : 0 ≤ y ∧ y ≤ s
  hl : (l.length : Int) ≤ c
  hw : waitsB l = true
  hn : nodupW l = true
theorem goodB_of {y s c t : Int} {l : List Wt} (h : blkC y l s c t = 0) : GoodB y l s c t := by
  obtain ⟨h1, h2, h3, h4, h5⟩ := blkC_of h
  obtain ⟨a1, a2, a3⟩ := lanesB_of h1
  exact ⟨a1, a2, a3, inW_of h2, h3, h4, h5⟩
def enterR (y : Int) (l : List Wt) (s c t x now : Int) : EnQ :=
  if blkC y l s c t = 0 then (if (timeB x && timeB now) = true then (if hasW l x = true then ⟨6, 0, [], false⟩ else if y < s then ⟨0, y + 1, l, true⟩ else if c ≤ (l.length : Int) then ⟨7, 0, [], false⟩ else ⟨0, y, l ++ [⟨x, addT now t⟩], false⟩) else ⟨3, 0, [], false⟩) else ⟨blkC y l s c t, 0, [], false⟩
section
variable {y s c t x now : Int} {l : List Wt}
theorem enter_bad (h : ¬ blkC y l s c t = 0) : enterR y l s c t x now = ⟨blkC y l s c t, 0, [], false⟩ := by rw [enterR, if_neg h]
theorem enter_range (h : blkC y l s c t = 0) (h1 : (timeB x && timeB now) = false) : enterR y l s c t x now = ⟨3, 0, [], false⟩ := by rw [enterR, if_pos h, if_neg (by rw [h1]; decide)]
theorem enter_taken (h : blkC y l s c t = 0) (h1 : (timeB x && timeB now) = true) (h2 : hasW l x = true) : enterR y l s c t x now = ⟨6, 0, [], false⟩ := by rw [enterR, if_pos h, if_pos h1, if_pos h2]
theorem enter_start (h : blkC y l s c t = 0) (h1 : (timeB x && timeB now) = true) (h2 : hasW l x = false) (h3 : y < s) : enterR y l s c t x now = ⟨0, y + 1, l, true⟩ := by rw [enterR, if_pos h, if_pos h1, if_neg (by rw [h2]; decide), if_pos h3]
theorem enter_full (h : blkC y l s c t = 0) (h1 : (timeB x && timeB now) = true) (h2 : hasW l x = false) (h3 : ¬ y < s) (h4 : c ≤ (l.length : Int)) : enterR y l s c t x now = ⟨7, 0, [], false⟩ := by rw [enterR, if_pos h, if_pos h1, if_neg (by rw [h2]; decide), if_neg h3, if_pos h4]
theorem enter_wait (h : blkC y l s c t = 0) (h1 : (timeB x && timeB now) = true) (h2 : hasW l x = false) (h3 : ¬ y < s) (h4 : ¬ c ≤ (l.length : Int)) : enterR y l s c t x now = ⟨0, y, l ++ [⟨x, addT now t⟩], false⟩ := by rw [enterR, if_pos h, if_pos h1, if_neg (by rw [h2]; decide), if_neg h3, if_neg h4]
theorem enterR_len (h : l.length ≤ 1048576) : (enterR y l s c t x now).l.length ≤ 1048576 := by
  unfold enterR
  split
  · rename_i h0
    have hg := (goodB_of h0).hl
    have hc := (goodB_of h0).hc
    split
    · split
      · simp
      · split
        · exact h
        · split
          · simp
          · simp only [List.length_append, List.length_cons, List.length_nil]; omega
    · simp
  · simp
end
theorem OwnWt.gwA {g : Nat} {w w' : World} {base : Nat} {v : Value} {l : List Wt} (h : OwnWt w base v l) (k : w.grownBy w' (some g)) (hne : w.heap.size ≤ g ∨ g < base) : OwnWt w' base v l := World.ownsRow.kept h k (by
  cases e : v.ownBlock with
  | none => exact .inl rfl
  | some q => right; intro e2; rw [Option.some.inj e2] at e; have := World.ownsRow.lt h g e; omega)
theorem OwnWt.cap {w : World} {base : Nat} {a : Option Addr} {n c : Nat} {l : List Wt} (h : OwnWt w base (.slice a n c) l) : n ≤ c := by
  obtain ⟨a2, c2, e, hc, _⟩ := h.in
  simp only [Value.slice.injEq] at e
  obtain ⟨_, rfl, rfl⟩ := e
  exact hc
theorem D2.go {w w' : World} {b : Nat} {v0 v1 : Value} (k : D2 w b v0 v1) {q : Option Nat} (h : w.grownBy w' q) (hb : q ≠ some b) : D2 w' b v0 v1 :=
  ⟨by rw [World.cell?_of_block (w := w) (h.block b k.lt (fun e => hb e.symm))]; exact k.c0, by rw [World.cell?_of_block (w := w) (h.block b k.lt (fun e => hb e.symm))]; exact k.c1, fun o => by rw [World.frozen?_of_block (w := w) (h.block b k.lt (fun e => hb e.symm))]; exact k.fr o, Nat.lt_of_lt_of_le k.lt h.size⟩
theorem D3.go {w w' : World} {b : Nat} {v0 v1 v2 : Value} (k : D3 w b v0 v1 v2) {q : Option Nat} (h : w.grownBy w' q) (hb : q ≠ some b) : D3 w' b v0 v1 v2 :=
  ⟨by rw [World.cell?_of_block (w := w) (h.block b k.lt (fun e => hb e.symm))]; exact k.c0, by rw [World.cell?_of_block (w := w) (h.block b k.lt (fun e => hb e.symm))]; exact k.c1, by rw [World.cell?_of_block (w := w) (h.block b k.lt (fun e => hb e.symm))]; exact k.c2, fun o => by rw [World.frozen?_of_block (w := w) (h.block b k.lt (fun e => hb e.symm))]; exact k.fr o, Nat.lt_of_lt_of_le k.lt h.size⟩
theorem D4.go {w w' : World} {b : Nat} {v0 v1 v2 v3 : Value} (k : D4 w b v0 v1 v2 v3) {q : Option Nat} (h : w.grownBy w' q) (hb : q ≠ some b) : D4 w' b v0 v1 v2 v3 :=
  ⟨by rw [World.cell?_of_block (w := w) (h.block b k.lt (fun e => hb e.symm))]; exact k.c0, by rw [World.cell?_of_block (w := w) (h.block b k.lt (fun e => hb e.symm))]; exact k.c1, by rw [World.cell?_of_block (w := w) (h.block b k.lt (fun e => hb e.symm))]; exact k.c2, by rw [World.cell?_of_block (w := w) (h.block b k.lt (fun e => hb e.symm))]; exact k.c3, fun o => by rw [World.frozen?_of_block (w := w) (h.block b k.lt (fun e => hb e.symm))]; exact k.fr o, Nat.lt_of_lt_of_le k.lt h.size⟩
end Go.Proofs.Ytmgidcigihpbeaa
