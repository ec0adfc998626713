/-
  Those who wait for a flight, in memory.
-/
import Derived.Test.YtgejegmilkmiiaaBase
import Derived.Deep.Slices
import Derived.Deep.Strs
namespace Go.Proofs.Ytgejegmilkmiiaa
open Go.ChangeShapes Go.WideShapes Go.ChangeAt Go.RowKit
structure Wr where
  rq : Int
  hd : Bool
  du : Int
  lt : Bool
def WrAt (w : World) (b off : Nat) (l : List Wr) : Prop :=
  ∀ (i : Nat) r, l[i]? = some r → w.cell? ⟨b, off + i * 4, none⟩ = some (.int .i64 r.rq) ∧ w.cell? ⟨b, off + i * 4 + 1, none⟩ = some (.bool r.hd) ∧ w.cell? ⟨b, off + i * 4 + 2, none⟩ = some (.int .i64 r.du) ∧ w.cell? ⟨b, off + i * 4 + 3, none⟩ = some (.bool r.lt)
theorem WrAt.keep {w w' : World} {b off : Nat} {l : List Wr} (h : WrAt w b off l) (hb : Below w.heap.size w w') : WrAt w' b off l := by
  intro i r hr
  obtain ⟨p0, p1, p2, p3⟩ := h i r hr
  exact ⟨by rw [hb.cell (block_lt_of_cell p0)]; exact p0, by rw [hb.cell (block_lt_of_cell p1)]; exact p1, by rw [hb.cell (block_lt_of_cell p2)]; exact p2, by rw [hb.cell (block_lt_of_cell p3)]; exact p3⟩
/-- The slice at a holds l. -/
def WrIn (w : World) (a : Option Addr) (l : List Wr) : Prop := l = [] ∨ ∃ b off, a = some ⟨b, off, none⟩ ∧ WrAt w b off l
theorem WrIn.keep {w w' : World} {a : Option Addr} {l : List Wr} (h : WrIn w a l) (hb : Below w.heap.size w w') : WrIn w' a l := by
  rcases h with h | ⟨b, off, e, hat⟩
  · exact .inl h
  · exact .inr ⟨b, off, e, hat.keep hb⟩
theorem dropWr (l : List Wr) (k : Nat) (r : Wr) (h : l[k]? = some r) : l.drop k = r :: l.drop (k + 1) := by
  obtain ⟨hk, rfl⟩ := List.getElem?_eq_some_iff.1 h
  exact List.drop_eq_getElem_cons hk
set_option maxHeartbeats 400000 in
theorem toWr_any (r : Wr) (w : World) :
    Calls Try.prog 28 #[.agg #[.int .i64 r.rq, .bool r.hd, .int .i64 r.du, .bool r.lt]] w fun e w' => e = .returned (.agg #[.int .i64 r.rq, .bool r.hd, .int .i64 r.du, .bool r.lt]) ∧ Below w.heap.size w w' := by
  obtain ⟨rq, hd, du, lt⟩ := r
  simp only
  go_enter Try.func28, Try.ntmps28
  go_wp2
  exact bodyPost_ret (v := .agg #[.int .i64 rq, .bool hd, .int .i64 du, .bool lt]) (by simp [results, Try.results28, go_sem]) rfl ⟨rfl, (((Below.refl _ _).alloc (Nat.le_refl _) _).alloc (by simp) _).alloc (by simp; omega) _⟩
set_option maxHeartbeats 400000 in
theorem eqWr_same (r : Wr) (w : World) :
    Calls Try.prog 31 #[.agg #[.int .i64 r.rq, .bool r.hd, .int .i64 r.du, .bool r.lt], .agg #[.int .i64 r.rq, .bool r.hd, .int .i64 r.du, .bool r.lt]] w fun e w' => e = .returned (.bool true) ∧ Below w.heap.size w w' := by
  obtain ⟨rq, hd, du, lt⟩ := r
  simp only
  go_enter Try.func31, Try.ntmps31
  go_wp2
  go_ret
  exact ⟨rfl, ((Below.refl _ _).alloc (Nat.le_refl _) _).alloc (by simp) _⟩
def szWr (left : Int) (n : Nat) : Int := if left - (n : Int) < 0 then -1 else left - (n : Int)
set_option maxHeartbeats 400000 in
theorem szWr_any (w : World) (a : Option Addr) (cap n : Nat) (hl : n ≤ maxLen) (left : Int) (h0 : 0 ≤ left) (h1 : left ≤ 1048576) :
    Calls Try.prog 17 #[.slice a n cap, .int .i64 left] w fun e w' => e = .returned (.int .i64 (szWr left n)) ∧ w' = w := by
  unfold maxLen at hl
  by_cases c0 : left - (n : Int) < 0
  · have HE : Hid (szWr left n = -1) := by show _ = _; unfold szWr; rw [if_pos c0]
    go_enter Try.func17, Try.ntmps17
    go_wp2
    go_ret
    exact ⟨ret_int HE.out.symm, rfl⟩
  · have HE : Hid (szWr left n = left - (n : Int)) := by show _ = _; unfold szWr; rw [if_neg c0]
    have c0' : 0 ≤ left - (n : Int) := by omega
    go_enter Try.func17, Try.ntmps17
    go_wp2
    go_ret
    exact ⟨ret_int HE.out.symm, rfl⟩
theorem szWr_room {left : Int} {n : Nat} (h1 : left ≤ 1048576) (h : ¬ szWr left n < 0) : (n : Int) ≤ 1048576 ∧ szWr left n ≤ left ∧ 0 ≤ szWr left n := by
  unfold szWr at h ⊢
  by_cases c0 : left - (n : Int) < 0
  · rw [if_pos c0] at h; omega
  · rw [if_neg c0] at h ⊢; omega
end Go.Proofs.Ytgejegmilkmiiaa
