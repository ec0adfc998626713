/-
  Lists of items in memory; the laws' own helpers over them.
-/
import Derived.Test.YtibomkcbopkpkaaDoorBase
import Derived.Deep.Slices
import Derived.Deep.Strs
namespace Go.Proofs.YtibomkcbopkpkaaDoor
open Go.ChangeShapes Go.WideShapes Go.ChangeAt Go.RowKit
/-- An item: its name, whether it has a value, the value. -/
structure Rec where
  name : ByteArray
  has : Bool
  value : ByteArray
/-- The items l lie in block b from off on, three cells each. -/
def ItemsAt (w : World) (b off : Nat) (l : List Rec) : Prop :=
  ∀ (i : Nat) r, l[i]? = some r → w.cell? ⟨b, off + i * 3, none⟩ = some (.string r.name) ∧ w.cell? ⟨b, off + i * 3 + 1, none⟩ = some (.bool r.has) ∧ w.cell? ⟨b, off + i * 3 + 2, none⟩ = some (.string r.value)
def recV (r : Rec) : Value := .agg #[.string r.name, .bool r.has, .string r.value]
def szR (left : Int) (r : Rec) : Int := if left - (r.name.size : Int) < 0 then -1 else if left - (r.name.size : Int) - (r.value.size : Int) < 0 then -1 else left - (r.name.size : Int) - (r.value.size : Int)
/-- How much room is left behind the items; -1: none. -/
def szRs (left : Int) : List Rec → Int
  | [] => left
  | r :: l => if szR left r < 0 then -1 else szRs (szR left r) l
def szL (left : Int) (l : List Rec) : Int := if left - (l.length : Int) < 0 then -1 else szRs (left - (l.length : Int)) l
def SmallRecs (l : List Rec) : Prop := ∀ (i : Nat) r, l[i]? = some r → r.name.size ≤ maxLen ∧ r.value.size ≤ maxLen
theorem ItemsAt.keep {w w' : World} {b off : Nat} {l : List Rec} (h : ItemsAt w b off l) (hb : Below w.heap.size w w') : ItemsAt w' b off l := by
  intro i r hr
  obtain ⟨a1, a2, a3⟩ := h i r hr
  exact ⟨by rw [hb.cell (block_lt_of_cell a1)]; exact a1, by rw [hb.cell (block_lt_of_cell a2)]; exact a2, by rw [hb.cell (block_lt_of_cell a3)]; exact a3⟩
theorem szR_le (left : Int) (r : Rec) : szR left r ≤ left ∨ szR left r = -1 := by
  unfold szR
  split
  · exact .inr rfl
  · split
    · exact .inr rfl
    · left; omega
theorem drop_rec (l : List Rec) (k : Nat) (r : Rec) (h : l[k]? = some r) : l.drop k = r :: l.drop (k + 1) := by
  obtain ⟨hk, rfl⟩ := List.getElem?_eq_some_iff.1 h
  exact List.drop_eq_getElem_cons hk
end Go.Proofs.YtibomkcbopkpkaaDoor
