/-
  Traces in memory.
-/
import Derived.Test.YtmgidcigihpbeaaBase
import Derived.Deep.Slices
import Derived.Deep.Strs
namespace Go.Proofs.Ytmgidcigihpbeaa
open Go.ChangeShapes Go.WideShapes Go.ChangeAt Go.RowKit
structure Tr where
  tm : Int
  ak : Bool
  gd : Bool
def TrAt (w : World) (b off : Nat) (l : List Tr) : Prop :=
  ∀ (i : Nat) r, l[i]? = some r → w.cell? ⟨b, off + i * 3, none⟩ = some (.int .i64 r.tm) ∧ w.cell? ⟨b, off + i * 3 + 1, none⟩ = some (.bool r.ak) ∧ w.cell? ⟨b, off + i * 3 + 2, none⟩ = some (.bool r.gd)
theorem TrAt.keep {w w' : World} {b off : Nat} {l : List Tr} (h : TrAt w b off l) (hb : Below w.heap.size w w') : TrAt w' b off l := by
  intro i r hr
  obtain ⟨p0, p1, p2⟩ := h i r hr
  exact ⟨by rw [hb.cell (block_lt_of_cell p0)]; exact p0, by rw [hb.cell (block_lt_of_cell p1)]; exact p1, by rw [hb.cell (block_lt_of_cell p2)]; exact p2⟩
/-- The slice at a holds l. -/
def TrIn (w : World) (a : Option Addr) (l : List Tr) : Prop := l = [] ∨ ∃ b off, a = some ⟨b, off, none⟩ ∧ TrAt w b off l
theorem TrIn.keep {w w' : World} {a : Option Addr} {l : List Tr} (h : TrIn w a l) (hb : Below w.heap.size w w') : TrIn w' a l := by
  rcases h with h | ⟨b, off, e, hat⟩
  · exact .inl h
  · exact .inr ⟨b, off, e, hat.keep hb⟩
theorem dropTr (l : List Tr) (k : Nat) (r : Tr) (h : l[k]? = some r) : l.drop k = r :: l.drop (k + 1) := by
  obtain ⟨hk, rfl⟩ := List.getElem?_eq_some_iff.1 h
  exact List.drop_eq_getElem_cons hk
def szTr (left : Int) (n : Nat) : Int := if left - (n : Int) < 0 then -1 else left - (n : Int)
theorem szTr_room {left : Int} {n : Nat} (h1 : left ≤ 1048576) (h : ¬ szTr left n < 0) : (n : Int) ≤ 1048576 ∧ szTr left n ≤ left ∧ 0 ≤ szTr left n := by
  unfold szTr at h ⊢
  by_cases c0 : left - (n : Int) < 0
  · rw [if_pos c0] at h; omega
  · rw [if_neg c0] at h ⊢; omega
end Go.Proofs.Ytmgidcigihpbeaa
