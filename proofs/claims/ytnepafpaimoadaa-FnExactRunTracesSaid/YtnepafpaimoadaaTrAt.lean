/-
  Traces in memory.
-/
import Derived.Test.YtnepafpaimoadaaBase
import Derived.Deep.Slices
import Derived.Deep.Strs
namespace Go.Proofs.Ytnepafpaimoadaa
open Go.ChangeShapes Go.WideShapes Go.ChangeAt Go.RowKit
structure Tr where
  tm : Int
  ak : Bool
  gd : Bool
def TrAt (w : World) (b off : Nat) (l : List Tr) : Prop :=
  ∀ (i : Nat) r, l[i]? = some r → w.cell? ⟨b, off + i * 3, none⟩ = some (.int .i64 r.tm) ∧ w.cell? ⟨b, off + i * 3 + 1, none⟩ = some (.bool r.ak) ∧ w.cell? ⟨b, off + i * 3 + 2, none⟩ = some (.bool r.gd)
theorem TrAt.keep {w w' : World} {b off : Nat} {l : List Tr} (h : TrAt w b off l) (hb : Below w.heap.size w w') : TrAt w' b off l := by
  intro i r hr
  obtain ⟨p0, p1, p2⟩ := h i r hr
  exact ⟨by rw [hb.cell (block_lt_of_cell p0)]; exact p0, by rw [hb.cell (block_lt_of_cell p1)]; exact p1, by rw [hb.cell (block_lt_of_cell p2)]; exact p2⟩
/-- The slice at a holds l. -/
def TrIn (w : World) (a : Option Addr) (l : List Tr) : Prop := l = [] ∨ ∃ b off, a = some ⟨b, off, none⟩ ∧ TrAt w b off l
theorem TrIn.keep {w w' : World} {a : Option Addr} {l : List Tr} (h : TrIn w a l) (hb : Below w.heap.size w w') : TrIn w' a l := by
  rcases h with h | ⟨b, off, e, hat⟩
  · exact .inl h
  · exact .inr ⟨b, off, e, hat.keep hb⟩
theorem dropTr (l : List Tr) (k : Nat) (r : Tr) (h : l[k]? = some r) : l.drop k = r :: l.drop (k + 1) := by
  obtain ⟨hk, rfl⟩ := List.getElem?_eq_some_iff.1 h
  exact List.drop_eq_getElem_cons hk
set_option maxHeartbeats 400000 in
theorem toTr_any (r : Tr) (w : World) :
    Calls Try.prog 82 #[.agg #[.int .i64 r.tm, .bool r.ak, .bool r.gd]] w fun e w' => e = .returned (.agg #[.int .i64 r.tm, .bool r.ak, .bool r.gd]) ∧ Below w.heap.size w w' := by
  obtain ⟨tm, ak, gd⟩ := r
  simp only
  go_enter Try.func82, Try.ntmps82
  go_wp2
  exact bodyPost_ret (v := .agg #[.int .i64 tm, .bool ak, .bool gd]) (by simp [results, Try.results82, go_sem]) rfl ⟨rfl, (((Below.refl _ _).alloc (Nat.le_refl _) _).alloc (by simp) _).alloc (by simp; omega) _⟩
set_option maxHeartbeats 400000 in
theorem eqTr_same (r : Tr) (w : World) :
    Calls Try.prog 85 #[.agg #[.int .i64 r.tm, .bool r.ak, .bool r.gd], .agg #[.int .i64 r.tm, .bool r.ak, .bool r.gd]] w fun e w' => e = .returned (.bool true) ∧ Below w.heap.size w w' := by
  obtain ⟨tm, ak, gd⟩ := r
  simp only
  go_enter Try.func85, Try.ntmps85
  go_wp2
  go_ret
  exact ⟨rfl, ((Below.refl _ _).alloc (Nat.le_refl _) _).alloc (by simp) _⟩
def szTr (left : Int) (n : Nat) : Int := if left - (n : Int) < 0 then -1 else left - (n : Int)
set_option maxHeartbeats 400000 in
theorem szTr_any (w : World) (a : Option Addr) (cap n : Nat) (hl : n ≤ maxLen) (left : Int) (h0 : 0 ≤ left) (h1 : left ≤ 1048576) :
    Calls Try.prog 43 #[.slice a n cap, .int .i64 left] w fun e w' => e = .returned (.int .i64 (szTr left n)) ∧ w' = w := by
  unfold maxLen at hl
  by_cases c0 : left - (n : Int) < 0
  · have HE : Hid (szTr left n = -1) := by show _ = _; unfold szTr; rw [if_pos c0]
    go_enter Try.func43, Try.ntmps43
    go_wp2
    go_ret
    exact ⟨ret_int HE.out.symm, rfl⟩
  · have HE : Hid (szTr left n = left - (n : Int)) := by show _ = _; unfold szTr; rw [if_neg c0]
    have c0' : 0 ≤ left - (n : Int) := by omega
    go_enter Try.func43, Try.ntmps43
    go_wp2
    go_ret
    exact ⟨ret_int HE.out.symm, rfl⟩
theorem szTr_room {left : Int} {n : Nat} (h1 : left ≤ 1048576) (h : ¬ szTr left n < 0) : (n : Int) ≤ 1048576 ∧ szTr left n ≤ left ∧ 0 ≤ szTr left n := by
  unfold szTr at h ⊢
  by_cases c0 : left - (n : Int) < 0
  · rw [if_pos c0] at h; omega
  · rw [if_neg c0] at h ⊢; omega
end Go.Proofs.Ytnepafpaimoadaa
