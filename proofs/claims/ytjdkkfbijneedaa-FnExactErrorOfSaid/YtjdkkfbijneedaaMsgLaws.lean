/-
  Requests that came in: measured, taken over, compared.
-/
import Derived.Test.YtjdkkfbijneedaaHeadsLaws
import Derived.Test.YtjdkkfbijneedaaHeadsSame
import Derived.Test.YtjdkkfbijneedaaHeadsFree
namespace Go.Proofs.Ytjdkkfbijneedaa
open Go.ChangeShapes Go.WideShapes Go.ChangeAt Go.RowKit
/-- Lines of the law's own, that may be written. -/
structure QMine (W : World) (B : Nat) (l : List Hdr) : Prop where
  at0 : HeadsAt W B 0 l
  free : ∀ o, W.frozen? ⟨B, o, none⟩ = false
  lt : B < W.heap.size
theorem QMine.keep {W W' : World} {B : Nat} {l : List Hdr} (h : QMine W B l) (hb : Below W.heap.size W W') : QMine W' B l :=
  ⟨h.at0.keep hb, fun o => by rw [hb.frozen (p := ⟨B, o, none⟩) h.lt]; exact h.free o, Nat.lt_of_lt_of_le h.lt hb.size⟩
def szRq (left : Int) (m h p : ByteArray) (l : List Hdr) : Int :=
  if left - (m.size : Int) < 0 then -1 else if left - (m.size : Int) - (h.size : Int) < 0 then -1 else if left - (m.size : Int) - (h.size : Int) - (p.size : Int) < 0 then -1 else
    if szHL (left - (m.size : Int) - (h.size : Int) - (p.size : Int)) l < 0 then -1 else szHL (left - (m.size : Int) - (h.size : Int) - (p.size : Int)) l
theorem szRq_room {left : Int} {m h p : ByteArray} {l : List Hdr} (hl : left ≤ 1048576) (hz : ¬ szRq left m h p l < 0) : m.size ≤ 1048576 ∧ h.size ≤ 1048576 ∧ p.size ≤ 1048576 ∧ l.length ≤ 1048576 ∧ szRq left m h p l ≤ left := by
  unfold szRq at hz ⊢
  by_cases c1 : left - (m.size : Int) < 0
  · rw [if_pos c1] at hz; omega
  rw [if_neg c1] at hz ⊢
  by_cases c2 : left - (m.size : Int) - (h.size : Int) < 0
  · rw [if_pos c2] at hz; omega
  rw [if_neg c2] at hz ⊢
  by_cases c3 : left - (m.size : Int) - (h.size : Int) - (p.size : Int) < 0
  · rw [if_pos c3] at hz; omega
  rw [if_neg c3] at hz ⊢
  by_cases c4 : szHL (left - (m.size : Int) - (h.size : Int) - (p.size : Int)) l < 0
  · rw [if_pos c4] at hz; omega
  rw [if_neg c4] at hz ⊢
  have a := (szHL_room (by omega) c4).1
  have b := szHL_le c4
  exact ⟨by omega, by omega, by omega, by omega, by omega⟩
/-- Four cells of a block, laid out. -/
structure Four (W : World) (B : Nat) (v0 v1 v2 v3 : Value) : Prop where
  c0 : W.cell? ⟨B, 0, none⟩ = some v0
  c1 : W.cell? ⟨B, 1, none⟩ = some v1
  c2 : W.cell? ⟨B, 2, none⟩ = some v2
  c3 : W.cell? ⟨B, 3, none⟩ = some v3
  fr : ∀ o, W.frozen? ⟨B, o, none⟩ = false
  lt : B < W.heap.size
theorem Four.keep {W W' : World} {B : Nat} {v0 v1 v2 v3 : Value} (h : Four W B v0 v1 v2 v3) (hb : Below W.heap.size W W') : Four W' B v0 v1 v2 v3 :=
  ⟨by rw [hb.cell (p := ⟨B, 0, none⟩) h.lt]; exact h.c0, by rw [hb.cell (p := ⟨B, 1, none⟩) h.lt]; exact h.c1, by rw [hb.cell (p := ⟨B, 2, none⟩) h.lt]; exact h.c2, by rw [hb.cell (p := ⟨B, 3, none⟩) h.lt]; exact h.c3,
    fun o => by rw [hb.frozen (p := ⟨B, o, none⟩) h.lt]; exact h.fr o, Nat.lt_of_lt_of_le h.lt hb.size⟩
theorem Four.new (W : World) (v0 v1 v2 v3 : Value) (t : TypeId) : Four (W.alloc (.cells #[v0, v1, v2, v3] t)) W.heap.size v0 v1 v2 v3 :=
  ⟨by rw [World.cell?_alloc_mark]; rfl, by rw [World.cell?_alloc_mark]; rfl, by rw [World.cell?_alloc_mark]; rfl, by rw [World.cell?_alloc_mark]; rfl, fun o => by have e := heap_alloc_new W (.cells #[v0, v1, v2, v3] t); unfold World.frozen?; rw [e]; simp, by simp⟩
end Go.Proofs.Ytjdkkfbijneedaa
