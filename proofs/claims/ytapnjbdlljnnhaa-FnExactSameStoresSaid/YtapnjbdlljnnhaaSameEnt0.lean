/-
  Two entries, held against each other: by the model and by the program.
-/
import Derived.Test.YtapnjbdlljnnhaaSameMeta
namespace Go.Proofs.Ytapnjbdlljnnhaa
open Go.ChangeShapes Go.WideShapes Go.ChangeAt Go.RowKit Go.Sort
/-- An entry that lies at a place. -/
def EntHere (w : World) (B O : Nat) (x : Ent) (r : EntR) : Prop := w.cell? ⟨B, O, none⟩ = some (.string x.key) ∧ w.cell? ⟨B, O + 1, none⟩ = some (.int .i64 x.st) ∧ w.cell? ⟨B, O + 2, none⟩ = some (.slice r.ha x.hs.length r.hc) ∧ w.cell? ⟨B, O + 3, none⟩ = some (.slice r.ba x.bl.length r.bc) ∧ w.cell? ⟨B, O + 4, none⟩ = some (.int .i64 x.t) ∧ w.cell? ⟨B, O + 5, none⟩ = some (.int .i64 x.g) ∧ w.cell? ⟨B, O + 6, none⟩ = some (.int .i64 x.l) ∧ w.cell? ⟨B, O + 7, none⟩ = some (.int .i64 x.s) ∧ w.cell? ⟨B, O + 8, none⟩ = some (.int .i64 x.e) ∧ w.cell? ⟨B, O + 9, none⟩ = some (.bool x.b1) ∧ w.cell? ⟨B, O + 10, none⟩ = some (.bool x.b2) ∧ w.cell? ⟨B, O + 11, none⟩ = some (.slice r.ta x.ts.length r.tc) ∧ w.cell? ⟨B, O + 12, none⟩ = some (.int .i64 x.pins)
theorem EntHere.keep {w w' : World} {B O : Nat} {x : Ent} {r : EntR} (h : EntHere w B O x r) (hb : Below w.heap.size w w') : EntHere w' B O x r := by
  have hlt : B < w.heap.size := block_lt_of_cell h.1
  have hc : ∀ o, w'.cell? ⟨B, o, none⟩ = w.cell? ⟨B, o, none⟩ := fun o => hb.cell (p := ⟨B, o, none⟩) hlt
  unfold EntHere
  rw [hc, hc, hc, hc, hc, hc, hc, hc, hc, hc, hc, hc, hc]
  exact h
theorem EntsAt.here {w : World} {b off : Nat} {l : List (Ent × EntR)} (h : EntsAt w b off l) {i : Nat} {q : Ent × EntR} (hq : l[i]? = some q) : EntHere w b (off + i * 13) q.1 q.2 := h.cells hq
def sameE (x y : Ent) : Bool := (x.key.toList == y.key.toList) && decide (x.st = y.st) && sameHs x.hs y.hs && ((⟨x.bl.toArray⟩ : ByteArray).toList == (⟨y.bl.toArray⟩ : ByteArray).toList) && sameM x.t x.g x.l x.s x.e x.b1 x.b2 y.t y.g y.l y.s y.e y.b1 y.b2 && sameTs x.ts y.ts && decide (x.pins = y.pins)
end Go.Proofs.Ytapnjbdlljnnhaa
