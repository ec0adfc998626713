/-
  The source made; texts drawn.
-/
import Derived.Test.YtmgidcigihpbeaaDrawPick
namespace Go.Proofs.Ytmgidcigihpbeaa
open Go.ChangeShapes Go.WideShapes Go.ChangeAt Go.RowKit
theorem Src.stepped {w w' : World} {B : Nat} {a : Option Addr} {len cap k : Nat} (hs : Src w B a len cap k) (h : ∃ m, w' = (w.setCell ⟨B, 1, none⟩ (.int .i64 ((k : Int) + 1))).drewN m) : Src w' B a len cap (k + 1) ∧ Below B w w' := by
  obtain ⟨m, rfl⟩ := h
  exact ⟨hs.next m, below_drewN ((Below.refl B w).setCell (Nat.le_refl _) _) m⟩
theorem Src.lt {w : World} {B : Nat} {a : Option Addr} {len cap k : Nat} (hs : Src w B a len cap k) : B < w.heap.size := block_lt_of_cell hs.c0
theorem Src.alloc {w : World} {B : Nat} {a : Option Addr} {len cap k : Nat} (hs : Src w B a len cap k) (o : Obj) : Src (w.alloc o) B a len cap k :=
  hs.below ((Below.refl _ _).alloc hs.lt _)
theorem Src.drew {w : World} {B : Nat} {a : Option Addr} {len cap k : Nat} (hs : Src w B a len cap k) : Src w.drew B a len cap k := ⟨hs.c0, hs.c1, hs.f1, hs.row⟩
theorem l1Next_s (w : World) (B : Nat) (a : Option Addr) (len cap k : Nat) (n : Int) (hs : Src w B a len cap k)
    (hk : k ≤ 1000000) (hn : 1 ≤ n) (hn2 : n ≤ 1000000) (hl2 : len ≤ 1048577) :
    Calls Try.prog 57 #[.pointer (some ⟨B, 0, none⟩), .int .i64 n] w fun e w' => (∃ v : Int, 0 ≤ v ∧ v < n ∧ e = .returned (.int .i64 v)) ∧ Src w' B a len cap (k + 1) ∧ Below B w w' :=
  (l1Next_any w B a len cap k n hs hk hn hn2 hl2).mono fun _ _ ⟨h1, h2⟩ => ⟨h1, hs.stepped h2⟩
theorem l1Chance_s (w : World) (B : Nat) (a : Option Addr) (len cap k : Nat) (n : Int) (hs : Src w B a len cap k)
    (hk : k ≤ 1000000) (hn : 1 ≤ n) (hn2 : n ≤ 1000000) (hl2 : len ≤ 1048577) :
    Calls Try.prog 56 #[.pointer (some ⟨B, 0, none⟩), .int .i64 n] w fun e w' => (∃ b : Bool, e = .returned (.bool b)) ∧ Src w' B a len cap (k + 1) ∧ Below B w w' :=
  (l1Chance_any w B a len cap k n hs hk hn hn2 hl2).mono fun _ _ ⟨h1, h2⟩ => ⟨h1, hs.stepped h2⟩
/-- A pick out of a list that was just laid behind the world w0. -/
theorem l1Pick_s (w0 : World) (B : Nat) (a : Option Addr) (len cap k : Nat) (hs : Src w0 B a len cap k) (xs : List Int) (n : Nat) (hn : xs.length = n) (hpos : 0 < n) (hlen : n ≤ 1000)
    (hk : k ≤ 1000000) (hl2 : len ≤ 1048577) :
    Calls Try.prog 39 #[.pointer (some ⟨B, 0, none⟩), .slice (some ⟨w0.heap.size, 0, none⟩) n n] (w0.alloc (.cells (xs.map (Value.int .i64)).toArray 2)) fun e w' => (∃ v : Int, v ∈ xs ∧ e = .returned (.int .i64 v)) ∧ Src w' B a len cap (k + 1) ∧ Below B w0 w' := by
  have hlt := hs.lt
  refine (l1Pick_any _ B a len cap k (hs.alloc _) w0.heap.size xs (by omega) n hn ?_ hpos hlen hk hl2).mono fun _ w' ⟨h1, h2⟩ => ⟨h1, ?_⟩
  · intro i x hx
    rw [World.cell?_alloc_mark]
    simp [hx]
  · obtain ⟨s, b⟩ := (hs.alloc _).stepped h2
    exact ⟨s, ((Below.refl B w0).alloc (Nat.le_of_lt hlt) _).trans b⟩
set_option maxHeartbeats 400000 in
theorem l1Source_any (w : World) (a : Option Addr) (len cap : Nat) (hc : CodeRow w w.heap.size a len) :
    Calls Try.prog 78 #[.slice a len cap] w fun e w' => e = .returned (.pointer (some ⟨w.heap.size, 0, none⟩)) ∧ Src w' w.heap.size a len cap 0 ∧ Below w.heap.size w w' := by
  have HC : Hid (CodeRow w w.heap.size a len) := hc
  clear hc
  go_enter Try.func78, Try.ntmps78
  go_wp2
  go_ret
  have hb : Below w.heap.size w (w.alloc (.cells #[.slice a len cap, .int .i64 0] 128)) := (Below.refl _ _).alloc (Nat.le_refl _) _
  refine ⟨rfl, ⟨by simp, by simp, by simp, HC.out.below hb⟩, hb⟩
end Go.Proofs.Ytmgidcigihpbeaa
