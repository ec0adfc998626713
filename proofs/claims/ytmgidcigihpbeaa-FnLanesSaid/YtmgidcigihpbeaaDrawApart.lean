/-
  Draws, and what lies apart from the source of draws.
-/
import Derived.Test.YtmgidcigihpbeaaDrawText
import Derived.Test.YtmgidcigihpbeaaApart
namespace Go.Proofs.Ytmgidcigihpbeaa
open Go.ChangeShapes Go.WideShapes Go.ChangeAt Go.RowKit
theorem Apart.stepped {B : Nat} {w w' : World} {v : Value} (h : ∃ m, w' = (w.setCell ⟨B, 1, none⟩ v).drewN m) : Apart B w w' := by
  obtain ⟨m, rfl⟩ := h
  refine ⟨by simp, fun b o _ hn => ?_, fun b o _ hn => ?_⟩
  · rw [World.cell?_drewN, World.cell?_setCell_other _ _ _ _ (by intro h; have := congrArg Addr.block h; simp at this; omega)]
  · rw [World.frozen?_drewN, World.frozen?_setCell]
theorem l1Next_a (w : World) (B : Nat) (a : Option Addr) (len cap k : Nat) (n : Int) (hs : Src w B a len cap k)
    (hk : k ≤ 1000000) (hn : 1 ≤ n) (hn2 : n ≤ 1000000) (hl2 : len ≤ 1048577) :
    Calls Try.prog 57 #[.pointer (some ⟨B, 0, none⟩), .int .i64 n] w fun e w' => (∃ v : Int, 0 ≤ v ∧ v < n ∧ e = .returned (.int .i64 v)) ∧ Src w' B a len cap (k + 1) ∧ Below B w w' ∧ Apart B w w' :=
  (l1Next_any w B a len cap k n hs hk hn hn2 hl2).mono fun _ _ ⟨h1, h2⟩ => ⟨h1, (hs.stepped h2).1, (hs.stepped h2).2, .stepped h2⟩
theorem l1Chance_a (w : World) (B : Nat) (a : Option Addr) (len cap k : Nat) (n : Int) (hs : Src w B a len cap k)
    (hk : k ≤ 1000000) (hn : 1 ≤ n) (hn2 : n ≤ 1000000) (hl2 : len ≤ 1048577) :
    Calls Try.prog 56 #[.pointer (some ⟨B, 0, none⟩), .int .i64 n] w fun e w' => (∃ b : Bool, e = .returned (.bool b)) ∧ Src w' B a len cap (k + 1) ∧ Below B w w' ∧ Apart B w w' :=
  (l1Chance_any w B a len cap k n hs hk hn hn2 hl2).mono fun _ _ ⟨h1, h2⟩ => ⟨h1, (hs.stepped h2).1, (hs.stepped h2).2, .stepped h2⟩
theorem l1Pick_a (w0 : World) (B : Nat) (a : Option Addr) (len cap k : Nat) (hs : Src w0 B a len cap k) (xs : List Int) (n : Nat) (hn : xs.length = n) (hpos : 0 < n) (hlen : n ≤ 1000)
    (hk : k ≤ 1000000) (hl2 : len ≤ 1048577) :
    Calls Try.prog 39 #[.pointer (some ⟨B, 0, none⟩), .slice (some ⟨w0.heap.size, 0, none⟩) n n] (w0.alloc (.cells (xs.map (Value.int .i64)).toArray 2)) fun e w' => (∃ v : Int, v ∈ xs ∧ e = .returned (.int .i64 v)) ∧ Src w' B a len cap (k + 1) ∧ Below B w0 w' ∧ Apart B w0 w' := by
  have hlt := hs.lt
  refine (l1Pick_any _ B a len cap k (hs.alloc _) w0.heap.size xs (by omega) n hn ?_ hpos hlen hk hl2).mono fun _ w' ⟨h1, h2⟩ => ⟨h1, ?_⟩
  · intro i x hx
    rw [World.cell?_alloc_mark]
    simp [hx]
  · obtain ⟨s, b⟩ := (hs.alloc _).stepped h2
    exact ⟨s, ((Below.refl B w0).alloc (Nat.le_of_lt hlt) _).trans b, (Apart.alloc B w0 _).trans (.stepped h2)⟩
end Go.Proofs.Ytmgidcigihpbeaa
