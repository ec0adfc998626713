/-
  The source made; texts drawn.
-/
import Derived.Test.YthlenlijdlfdeaaDoorDrawPick
namespace Go.Proofs.YthlenlijdlfdeaaDoor
open Go.ChangeShapes Go.WideShapes Go.ChangeAt Go.RowKit
theorem Src.stepped {w w' : World} {B : Nat} {a : Option Addr} {len cap k : Nat} (hs : Src w B a len cap k) (h : ∃ m, w' = (w.setCell ⟨B, 1, none⟩ (.int .i64 ((k : Int) + 1))).drewN m) : Src w' B a len cap (k + 1) ∧ Below B w w' := by
  obtain ⟨m, rfl⟩ := h
  exact ⟨hs.next m, below_drewN ((Below.refl B w).setCell (Nat.le_refl _) _) m⟩
theorem Src.lt {w : World} {B : Nat} {a : Option Addr} {len cap k : Nat} (hs : Src w B a len cap k) : B < w.heap.size := block_lt_of_cell hs.c0
theorem Src.alloc {w : World} {B : Nat} {a : Option Addr} {len cap k : Nat} (hs : Src w B a len cap k) (o : Obj) : Src (w.alloc o) B a len cap k :=
  hs.below ((Below.refl _ _).alloc hs.lt _)
theorem Src.drew {w : World} {B : Nat} {a : Option Addr} {len cap k : Nat} (hs : Src w B a len cap k) : Src w.drew B a len cap k := ⟨hs.c0, hs.c1, hs.f1, hs.row⟩
theorem l1Next_s (w : World) (B : Nat) (a : Option Addr) (len cap k : Nat) (n : Int) (hs : Src w B a len cap k)
    (hk : k ≤ 1000000) (hn : 1 ≤ n) (hn2 : n ≤ 1000000) (hl2 : len ≤ 1048576) :
    Calls Tryd.prog 47 #[.pointer (some ⟨B, 0, none⟩), .int .i64 n] w fun e w' => (∃ v : Int, 0 ≤ v ∧ v < n ∧ e = .returned (.int .i64 v)) ∧ Src w' B a len cap (k + 1) ∧ Below B w w' :=
  (l1Next_any w B a len cap k n hs hk hn hn2 hl2).mono fun _ _ ⟨h1, h2⟩ => ⟨h1, hs.stepped h2⟩
theorem l1Chance_s (w : World) (B : Nat) (a : Option Addr) (len cap k : Nat) (n : Int) (hs : Src w B a len cap k)
    (hk : k ≤ 1000000) (hn : 1 ≤ n) (hn2 : n ≤ 1000000) (hl2 : len ≤ 1048576) :
    Calls Tryd.prog 48 #[.pointer (some ⟨B, 0, none⟩), .int .i64 n] w fun e w' => (∃ b : Bool, e = .returned (.bool b)) ∧ Src w' B a len cap (k + 1) ∧ Below B w w' :=
  (l1Chance_any w B a len cap k n hs hk hn hn2 hl2).mono fun _ _ ⟨h1, h2⟩ => ⟨h1, hs.stepped h2⟩
/-- A pick out of a list that was just laid behind the world w0. -/
theorem l1Pick_s (w0 : World) (B : Nat) (a : Option Addr) (len cap k : Nat) (hs : Src w0 B a len cap k) (xs : List Int) (n : Nat) (hn : xs.length = n) (hpos : 0 < n) (hlen : n ≤ 1000)
    (hk : k ≤ 1000000) (hl2 : len ≤ 1048576) :
    Calls Tryd.prog 49 #[.pointer (some ⟨B, 0, none⟩), .slice (some ⟨w0.heap.size, 0, none⟩) n n] (w0.alloc (.cells (xs.map (Value.int .i64)).toArray 2)) fun e w' => (∃ v : Int, v ∈ xs ∧ e = .returned (.int .i64 v)) ∧ Src w' B a len cap (k + 1) ∧ Below B w0 w' := by
  have hlt := hs.lt
  refine (l1Pick_any _ B a len cap k (hs.alloc _) w0.heap.size xs (by omega) n hn ?_ hpos hlen hk hl2).mono fun _ w' ⟨h1, h2⟩ => ⟨h1, ?_⟩
  · intro i x hx
    rw [World.cell?_alloc_mark]
    simp [hx]
  · obtain ⟨s, b⟩ := (hs.alloc _).stepped h2
    exact ⟨s, ((Below.refl B w0).alloc (Nat.le_of_lt hlt) _).trans b⟩
theorem l1Word_s (w0 : World) (B : Nat) (a : Option Addr) (len cap k : Nat) (hs : Src w0 B a len cap k) (xs : List ByteArray) (n : Nat) (hn : xs.length = n) (hpos : 0 < n) (hlen : n ≤ 1000)
    (hk : k ≤ 1000000) (hl2 : len ≤ 1048576) :
    Calls Tryd.prog 38 #[.pointer (some ⟨B, 0, none⟩), .slice (some ⟨w0.heap.size, 0, none⟩) n n] (w0.alloc (.cells (xs.map Value.string).toArray 9)) fun e w' => (∃ v : ByteArray, v ∈ xs ∧ e = .returned (.string v)) ∧ Src w' B a len cap (k + 1) ∧ Below B w0 w' := by
  have hlt := hs.lt
  refine (l1Word_any _ B a len cap k (hs.alloc _) w0.heap.size xs (by omega) n hn ?_ hpos hlen hk hl2).mono fun _ w' ⟨h1, h2⟩ => ⟨h1, ?_⟩
  · intro i x hx
    rw [World.cell?_alloc_mark]
    simp [hx]
  · obtain ⟨s, b⟩ := (hs.alloc _).stepped h2
    exact ⟨s, ((Below.refl B w0).alloc (Nat.le_of_lt hlt) _).trans b⟩
set_option maxHeartbeats 400000 in
theorem l1Source_any (w : World) (a : Option Addr) (len cap : Nat) (hc : CodeRow w w.heap.size a len) :
    Calls Tryd.prog 35 #[.slice a len cap] w fun e w' => e = .returned (.pointer (some ⟨w.heap.size, 0, none⟩)) ∧ Src w' w.heap.size a len cap 0 ∧ Below w.heap.size w w' := by
  have HC : Hid (CodeRow w w.heap.size a len) := hc
  clear hc
  go_enter Tryd.func35, Tryd.ntmps35
  go_wp2
  go_ret
  have hb : Below w.heap.size w (w.alloc (.cells #[.slice a len cap, .int .i64 0] 88)) := (Below.refl _ _).alloc (Nat.le_refl _) _
  refine ⟨rfl, ⟨by simp, by simp, by simp, HC.out.below hb⟩, hb⟩
set_option maxHeartbeats 1000000 in
theorem l1Long_any (w : World) (B : Nat) (a : Option Addr) (len cap k : Nat) (hs : Src w B a len cap k) (t : ByteArray) (ht : t.size ≤ 1001)
    (hk : k ≤ 100000) (hl2 : len ≤ 1048576) :
    Calls Tryd.prog 68 #[.pointer (some ⟨B, 0, none⟩), .string t] w fun e w' => (∃ r : ByteArray, r.size ≤ 1001 ∧ e = .returned (.string r)) ∧ (∃ k', k' ≤ k + 1002 ∧ Src w' B a len cap k') ∧ Below B w w' := by
  have HS : Hid (Src w B a len cap k) := hs
  clear hs
  go_enter Tryd.func68, Tryd.ntmps68
  go_wp2_with fail
  go_loopw [1] (fun x wr => ∃ (r : ByteArray) (j : Nat), x = .string r ∧ r.size = t.size + j ∧ r.size ≤ 1001 ∧ Src wr B a len cap (k + j) ∧ Below B w wr) (fun x _ => 1001 - (match x with | .string r => r.size | _ => 0))
  case atStart => exact ⟨t, 0, rfl, rfl, ht, HS.out, Below.refl _ _⟩
  case round =>
    obtain ⟨r, j, rfl, hr1, hr2, hsr, hb⟩ := hrel
    have HR : Hid (Src wr B a len cap (k + j)) := hsr
    have HJ : Hid (r.size = t.size + j) := hr1
    have hj : j ≤ 1001 := by omega
    clear hsr HS hr1
    go_wp2_with fail
    refine (l1Pick_s _ B a len cap (k + j) HR.out [1000, 1001] 2 rfl (by omega) (by omega) (by omega) hl2).mono ?_
    rintro e w2 ⟨⟨v, hv, rfl⟩, hs2, hb2⟩
    have HS2 : Hid (Src w2 B a len cap (k + j + 1)) := hs2
    have hv1 : 1000 ≤ v ∧ v ≤ 1001 := by simp at hv; omega
    obtain ⟨v0, v1⟩ := hv1
    clear hs2 HR hv
    by_cases hlt : (r.size : Int) < v
    · have hadd := fun w => run_string_add_sum (P := Tryd.prog) (w := w) r ⟨#[32]⟩ (by have : (⟨#[32]⟩ : ByteArray).size = 1 := rfl; omega)
      have HZ : Hid ((r ++ (⟨#[32]⟩ : ByteArray)).size = r.size + 1) := by show _ = _; simp [ByteArray.size_append]; rfl
      generalize r ++ (⟨#[32]⟩ : ByteArray) = r' at *
      go_wp2_with fail
      go_roundw
      case rel => exact ⟨r', j + 1, rfl, by have := HZ.out; have := HJ.out; omega, by have := HZ.out; omega, HS2.out, hb.trans hb2⟩
      case measure => have := HZ.out; simp; omega
    · go_wp2_with fail
      go_ret
      exact ⟨⟨r, hr2, rfl⟩, ⟨k + j + 1, by omega, HS2.out⟩, hb.trans hb2⟩
end Go.Proofs.YthlenlijdlfdeaaDoor
