/-
  Those who wait in memory.
-/
import Derived.Test.YtmgidcigihpbeaaBase
import Derived.Deep.Slices
import Derived.Deep.Strs
namespace Go.Proofs.Ytmgidcigihpbeaa
open Go.ChangeShapes Go.WideShapes Go.ChangeAt Go.RowKit
structure Wt where
  wi : Int
  du : Int
def WtAt (w : World) (b off : Nat) (l : List Wt) : Prop :=
  ∀ (i : Nat) r, l[i]? = some r → w.cell? ⟨b, off + i * 2, none⟩ = some (.int .i64 r.wi) ∧ w.cell? ⟨b, off + i * 2 + 1, none⟩ = some (.int .i64 r.du)
theorem WtAt.keep {w w' : World} {b off : Nat} {l : List Wt} (h : WtAt w b off l) (hb : Below w.heap.size w w') : WtAt w' b off l := by
  intro i r hr
  obtain ⟨p0, p1⟩ := h i r hr
  exact ⟨by rw [hb.cell (block_lt_of_cell p0)]; exact p0, by rw [hb.cell (block_lt_of_cell p1)]; exact p1⟩
/-- The slice at a holds l. -/
def WtIn (w : World) (a : Option Addr) (l : List Wt) : Prop := l = [] ∨ ∃ b off, a = some ⟨b, off, none⟩ ∧ WtAt w b off l
theorem WtIn.keep {w w' : World} {a : Option Addr} {l : List Wt} (h : WtIn w a l) (hb : Below w.heap.size w w') : WtIn w' a l := by
  rcases h with h | ⟨b, off, e, hat⟩
  · exact .inl h
  · exact .inr ⟨b, off, e, hat.keep hb⟩
theorem dropWt (l : List Wt) (k : Nat) (r : Wt) (h : l[k]? = some r) : l.drop k = r :: l.drop (k + 1) := by
  obtain ⟨hk, rfl⟩ := List.getElem?_eq_some_iff.1 h
  exact List.drop_eq_getElem_cons hk
def szWt (left : Int) (n : Nat) : Int := if left - (n : Int) < 0 then -1 else left - (n : Int)
theorem szWt_room {left : Int} {n : Nat} (h1 : left ≤ 1048576) (h : ¬ szWt left n < 0) : (n : Int) ≤ 1048576 ∧ szWt left n ≤ left ∧ 0 ≤ szWt left n := by
  unfold szWt at h ⊢
  by_cases c0 : left - (n : Int) < 0
  · rw [if_pos c0] at h; omega
  · rw [if_neg c0] at h ⊢; omega
end Go.Proofs.Ytmgidcigihpbeaa
