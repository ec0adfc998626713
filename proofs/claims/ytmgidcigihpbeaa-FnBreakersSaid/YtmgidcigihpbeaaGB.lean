/-
  A world in which one block alone has changed, and new ones have come.
-/
import Derived.Test.YtmgidcigihpbeaaMkMark
import Derived.Test.YtmgidcigihpbeaaBrkTurn
namespace Go.Proofs.Ytmgidcigihpbeaa
open Go.ChangeShapes Go.WideShapes Go.ChangeAt Go.RowKit Go.Sort
theorem gbRefl (g : Option Nat) (w : World) : w.grownBy w g := ⟨rfl, rfl, rfl, Nat.le_refl _, fun _ _ _ => rfl⟩
theorem gbTrans {w w1 w2 : World} {g : Option Nat} (h : w.grownBy w1 g) (k : w1.grownBy w2 g) : w.grownBy w2 g :=
  ⟨k.os.trans h.os, k.tape.trans h.tape, k.output.trans h.output, Nat.le_trans h.size k.size, fun i hi hn => (k.block i (Nat.lt_of_lt_of_le hi h.size) hn).trans (h.block i hi hn)⟩
theorem gbBelow {w w' : World} (g : Option Nat) (h : Below w.heap.size w w') : w.grownBy w' g := ⟨h.os, h.tape, h.output, h.size, fun k hk _ => h.block k hk⟩
theorem gbSet (w : World) (g o : Nat) (u : Value) : w.grownBy (w.setCell ⟨g, o, none⟩ u) (some g) := ⟨rfl, rfl, rfl, by simp [World.setCell], fun k _ hn => Below.heap_setCell _ _ _ _ (fun e => hn (by rw [e]))⟩
theorem gbOne {g : Nat} {w w' : World} (h : OneB g w w') : w.grownBy w' (some g) := ⟨h.os, h.tape, h.output, Nat.le_of_eq h.size.symm, fun k _ hn => h.block k (fun e => hn (by rw [e]))⟩
theorem gbTo {w w' : World} {g B : Nat} (h : w.grownBy w' (some g)) (hB : B ≤ g) (hs : B ≤ w.heap.size) : Below B w w' := ⟨h.os, h.tape, h.output, h.size, fun k hk => h.block k (by omega) (by simp; omega)⟩
theorem gbCell {w w' : World} {g : Nat} (h : w.grownBy w' (some g)) {b : Nat} (o : Nat) (hb : b < w.heap.size) (hn : b ≠ g) : w'.cell? ⟨b, o, none⟩ = w.cell? ⟨b, o, none⟩ := World.cell?_of_block (w := w) (h.block b hb (by simp; exact hn))
theorem gbFrozen {w w' : World} {g : Nat} (h : w.grownBy w' (some g)) {b : Nat} (o : Nat) (hb : b < w.heap.size) (hn : b ≠ g) : w'.frozen? ⟨b, o, none⟩ = w.frozen? ⟨b, o, none⟩ := World.frozen?_of_block (w := w) (h.block b hb (by simp; exact hn))
theorem S4.gb {g : Nat} {w w' : World} {b : Nat} {v0 v1 v2 v3 : Value} (k : S4 w b v0 v1 v2 v3) (h : w.grownBy w' (some g)) (hb : b ≠ g) : S4 w' b v0 v1 v2 v3 :=
  ⟨by rw [gbCell h _ k.lt hb]; exact k.c0, by rw [gbCell h _ k.lt hb]; exact k.c1, by rw [gbCell h _ k.lt hb]; exact k.c2, by rw [gbCell h _ k.lt hb]; exact k.c3, fun o => by rw [gbFrozen h _ k.lt hb]; exact k.fr o, Nat.lt_of_lt_of_le k.lt h.size⟩
theorem S5.gb {g : Nat} {w w' : World} {b : Nat} {v0 v1 v2 v3 v4 : Value} (k : S5 w b v0 v1 v2 v3 v4) (h : w.grownBy w' (some g)) (hb : b ≠ g) : S5 w' b v0 v1 v2 v3 v4 :=
  ⟨by rw [gbCell h _ k.lt hb]; exact k.c0, by rw [gbCell h _ k.lt hb]; exact k.c1, by rw [gbCell h _ k.lt hb]; exact k.c2, by rw [gbCell h _ k.lt hb]; exact k.c3, by rw [gbCell h _ k.lt hb]; exact k.c4, fun o => by rw [gbFrozen h _ k.lt hb]; exact k.fr o, Nat.lt_of_lt_of_le k.lt h.size⟩
theorem MkNew.gb {g : Nat} {w w' : World} {base : Nat} {v : Value} {l : List Mk} (h : MkNew w base v l) (k : w.grownBy w' (some g)) (hne : ∀ G, v.ownBlock = some G → G ≠ g) : MkNew w' base v l := by
  rcases h with h | ⟨G, off, cap, rfl, h1, h2, h3, h4⟩
  · exact .inl h
  · have hn := hne G rfl
    refine .inr ⟨G, off, cap, rfl, h1, Nat.lt_of_lt_of_le h2 k.size, fun i r hr => ?_, fun o => by rw [gbFrozen k _ h2 hn]; exact h4 o⟩
    obtain ⟨p0, p1⟩ := h3 i r hr
    exact ⟨by rw [gbCell k _ h2 hn]; exact p0, by rw [gbCell k _ h2 hn]; exact p1⟩
theorem MkNew.gb2 {g : Nat} {w w' : World} {base : Nat} {v : Value} {l : List Mk} (h : MkNew w base v l) (k : w.grownBy w' (some g)) (hne : g < base) : MkNew w' base v l := by
  rcases h with h | ⟨G, off, cap, rfl, h1, h2, h3, h4⟩
  · exact .inl h
  · exact MkNew.gb (.inr ⟨G, off, cap, rfl, h1, h2, h3, h4⟩) k (fun G' hG => by simp only [Value.ownBlock, Option.some.injEq] at hG; omega)
theorem hid12 {p : Prop} (h : p) : Hid p := h
theorem MkIn.gb {g : Nat} {w w' : World} {a : Option Addr} {l : List Mk} (h : MkIn w a l) (k : w.grownBy w' (some g)) (hne : ∀ A, a = some A → A.block ≠ g) : MkIn w' a l := by
  rcases h with h | ⟨b, off, rfl, h3⟩
  · exact .inl h
  · have hn := hne _ rfl
    refine .inr ⟨b, off, rfl, fun i r hr => ?_⟩
    obtain ⟨p0, p1⟩ := h3 i r hr
    have h2 := block_lt_of_cell p0
    exact ⟨by rw [gbCell k _ h2 hn]; exact p0, by rw [gbCell k _ h2 hn]; exact p1⟩
end Go.Proofs.Ytmgidcigihpbeaa
