/-
  Outcomes in memory.
-/
import Derived.Test.YtnepafpaimoadaaBase
import Derived.Deep.Slices
import Derived.Deep.Strs
namespace Go.Proofs.Ytnepafpaimoadaa
open Go.ChangeShapes Go.WideShapes Go.ChangeAt Go.RowKit
structure Mk where
  tm : Int
  gd : Bool
def MkAt (w : World) (b off : Nat) (l : List Mk) : Prop :=
  ∀ (i : Nat) r, l[i]? = some r → w.cell? ⟨b, off + i * 2, none⟩ = some (.int .i64 r.tm) ∧ w.cell? ⟨b, off + i * 2 + 1, none⟩ = some (.bool r.gd)
theorem MkAt.keep {w w' : World} {b off : Nat} {l : List Mk} (h : MkAt w b off l) (hb : Below w.heap.size w w') : MkAt w' b off l := by
  intro i r hr
  obtain ⟨p0, p1⟩ := h i r hr
  exact ⟨by rw [hb.cell (block_lt_of_cell p0)]; exact p0, by rw [hb.cell (block_lt_of_cell p1)]; exact p1⟩
/-- The slice at a holds l. -/
def MkIn (w : World) (a : Option Addr) (l : List Mk) : Prop := l = [] ∨ ∃ b off, a = some ⟨b, off, none⟩ ∧ MkAt w b off l
theorem MkIn.keep {w w' : World} {a : Option Addr} {l : List Mk} (h : MkIn w a l) (hb : Below w.heap.size w w') : MkIn w' a l := by
  rcases h with h | ⟨b, off, e, hat⟩
  · exact .inl h
  · exact .inr ⟨b, off, e, hat.keep hb⟩
theorem dropMk (l : List Mk) (k : Nat) (r : Mk) (h : l[k]? = some r) : l.drop k = r :: l.drop (k + 1) := by
  obtain ⟨hk, rfl⟩ := List.getElem?_eq_some_iff.1 h
  exact List.drop_eq_getElem_cons hk
set_option maxHeartbeats 400000 in
theorem toMk_any (r : Mk) (w : World) :
    Calls Try.prog 100 #[.agg #[.int .i64 r.tm, .bool r.gd]] w fun e w' => e = .returned (.agg #[.int .i64 r.tm, .bool r.gd]) ∧ Below w.heap.size w w' := by
  obtain ⟨tm, gd⟩ := r
  simp only
  go_enter Try.func100, Try.ntmps100
  go_wp2
  exact bodyPost_ret (v := .agg #[.int .i64 tm, .bool gd]) (by simp [results, Try.results100, go_sem]) rfl ⟨rfl, (((Below.refl _ _).alloc (Nat.le_refl _) _).alloc (by simp) _).alloc (by simp; omega) _⟩
set_option maxHeartbeats 400000 in
theorem eqMk_same (r : Mk) (w : World) :
    Calls Try.prog 101 #[.agg #[.int .i64 r.tm, .bool r.gd], .agg #[.int .i64 r.tm, .bool r.gd]] w fun e w' => e = .returned (.bool true) ∧ Below w.heap.size w w' := by
  obtain ⟨tm, gd⟩ := r
  simp only
  go_enter Try.func101, Try.ntmps101
  go_wp2
  go_ret
  exact ⟨rfl, ((Below.refl _ _).alloc (Nat.le_refl _) _).alloc (by simp) _⟩
def szMk (left : Int) (n : Nat) : Int := if left - (n : Int) < 0 then -1 else left - (n : Int)
set_option maxHeartbeats 400000 in
theorem szMk_any (w : World) (a : Option Addr) (cap n : Nat) (hl : n ≤ maxLen) (left : Int) (h0 : 0 ≤ left) (h1 : left ≤ 1048576) :
    Calls Try.prog 77 #[.slice a n cap, .int .i64 left] w fun e w' => e = .returned (.int .i64 (szMk left n)) ∧ w' = w := by
  unfold maxLen at hl
  by_cases c0 : left - (n : Int) < 0
  · have HE : Hid (szMk left n = -1) := by show _ = _; unfold szMk; rw [if_pos c0]
    go_enter Try.func77, Try.ntmps77
    go_wp2
    go_ret
    exact ⟨ret_int HE.out.symm, rfl⟩
  · have HE : Hid (szMk left n = left - (n : Int)) := by show _ = _; unfold szMk; rw [if_neg c0]
    have c0' : 0 ≤ left - (n : Int) := by omega
    go_enter Try.func77, Try.ntmps77
    go_wp2
    go_ret
    exact ⟨ret_int HE.out.symm, rfl⟩
theorem szMk_room {left : Int} {n : Nat} (h1 : left ≤ 1048576) (h : ¬ szMk left n < 0) : (n : Int) ≤ 1048576 ∧ szMk left n ≤ left ∧ 0 ≤ szMk left n := by
  unfold szMk at h ⊢
  by_cases c0 : left - (n : Int) < 0
  · rw [if_pos c0] at h; omega
  · rw [if_neg c0] at h ⊢; omega
end Go.Proofs.Ytnepafpaimoadaa
