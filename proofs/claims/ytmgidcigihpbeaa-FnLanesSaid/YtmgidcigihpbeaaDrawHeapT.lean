/-
  Draws, and the blocks apart from the source of draws.
-/
import Derived.Test.YtmgidcigihpbeaaDrawApart
import Derived.Test.YtmgidcigihpbeaaTrOwn
namespace Go.Proofs.Ytmgidcigihpbeaa
open Go.ChangeShapes Go.WideShapes Go.ChangeAt Go.RowKit
structure ApartH (B : Nat) (w w' : World) : Prop where
  size : w.heap.size ≤ w'.heap.size
  block : ∀ b, b < w.heap.size → b ≠ B → w'.heap[b]? = w.heap[b]?
theorem ApartH.refl (B : Nat) (w : World) : ApartH B w w := ⟨Nat.le_refl _, fun _ _ _ => rfl⟩
theorem ApartH.trans {B : Nat} {w w1 w2 : World} (h : ApartH B w w1) (k : ApartH B w1 w2) : ApartH B w w2 :=
  ⟨Nat.le_trans h.size k.size, fun b hb hn => by rw [k.block b (Nat.lt_of_lt_of_le hb h.size) hn, h.block b hb hn]⟩
theorem ApartH.below {B : Nat} {w w' : World} (h : Below w.heap.size w w') : ApartH B w w' := ⟨h.size, fun b hb _ => h.block b hb⟩
theorem ApartH.alloc (B : Nat) (w : World) (o : Obj) : ApartH B w (w.alloc o) := .below ((Below.refl _ _).alloc (Nat.le_refl _) _)
theorem setCell_block {w : World} {a : Addr} {v : Value} {b : Nat} (h : b ≠ a.block) : (w.setCell a v).heap[b]? = w.heap[b]? := by
  unfold World.setCell
  simp only [Array.getElem?_modify]
  rw [if_neg (fun k => h k.symm)]
theorem ApartH.stepped {B : Nat} {w w' : World} {v : Value} (h : ∃ m, w' = (w.setCell ⟨B, 1, none⟩ v).drewN m) : ApartH B w w' := by
  obtain ⟨m, rfl⟩ := h
  refine ⟨by simp, fun b _ hn => ?_⟩
  have e : ((w.setCell ⟨B, 1, none⟩ v).drewN m).heap = (w.setCell ⟨B, 1, none⟩ v).heap := by simp
  rw [e, setCell_block hn]
theorem ApartH.cells {B : Nat} {w w' : World} (h : ApartH B w w') : Apart B w w' := by
  refine ⟨h.size, fun b o hb hn => ?_, fun b o hb hn => ?_⟩
  · have := h.block b hb hn
    simp only [World.cell?, this]
  · have := h.block b hb hn
    simp only [World.frozen?, this]
theorem l1Next_h (w : World) (B : Nat) (a : Option Addr) (len cap k : Nat) (n : Int) (hs : Src w B a len cap k)
    (hk : k ≤ 1000000) (hn : 1 ≤ n) (hn2 : n ≤ 1000000) (hl2 : len ≤ 1048577) :
    Calls Try.prog 57 #[.pointer (some ⟨B, 0, none⟩), .int .i64 n] w fun e w' => (∃ v : Int, 0 ≤ v ∧ v < n ∧ e = .returned (.int .i64 v)) ∧ Src w' B a len cap (k + 1) ∧ Below B w w' ∧ ApartH B w w' :=
  (l1Next_any w B a len cap k n hs hk hn hn2 hl2).mono fun _ _ ⟨h1, h2⟩ => ⟨h1, (hs.stepped h2).1, (hs.stepped h2).2, .stepped h2⟩
theorem l1Chance_h (w : World) (B : Nat) (a : Option Addr) (len cap k : Nat) (n : Int) (hs : Src w B a len cap k)
    (hk : k ≤ 1000000) (hn : 1 ≤ n) (hn2 : n ≤ 1000000) (hl2 : len ≤ 1048577) :
    Calls Try.prog 56 #[.pointer (some ⟨B, 0, none⟩), .int .i64 n] w fun e w' => (∃ b : Bool, e = .returned (.bool b)) ∧ Src w' B a len cap (k + 1) ∧ Below B w w' ∧ ApartH B w w' :=
  (l1Chance_any w B a len cap k n hs hk hn hn2 hl2).mono fun _ _ ⟨h1, h2⟩ => ⟨h1, (hs.stepped h2).1, (hs.stepped h2).2, .stepped h2⟩
theorem l1Pick_h (w0 : World) (B : Nat) (a : Option Addr) (len cap k : Nat) (hs : Src w0 B a len cap k) (xs : List Int) (n : Nat) (hn : xs.length = n) (hpos : 0 < n) (hlen : n ≤ 1000)
    (hk : k ≤ 1000000) (hl2 : len ≤ 1048577) :
    Calls Try.prog 39 #[.pointer (some ⟨B, 0, none⟩), .slice (some ⟨w0.heap.size, 0, none⟩) n n] (w0.alloc (.cells (xs.map (Value.int .i64)).toArray 2)) fun e w' => (∃ v : Int, v ∈ xs ∧ e = .returned (.int .i64 v)) ∧ Src w' B a len cap (k + 1) ∧ Below B w0 w' ∧ ApartH B w0 w' := by
  have hlt := hs.lt
  refine (l1Pick_any _ B a len cap k (hs.alloc _) w0.heap.size xs (by omega) n hn ?_ hpos hlen hk hl2).mono fun _ w' ⟨h1, h2⟩ => ⟨h1, ?_⟩
  · intro i x hx
    rw [World.cell?_alloc_mark]
    simp [hx]
  · obtain ⟨s, b⟩ := (hs.alloc _).stepped h2
    exact ⟨s, ((Below.refl B w0).alloc (Nat.le_of_lt hlt) _).trans b, (ApartH.alloc B w0 _).trans (.stepped h2)⟩
end Go.Proofs.Ytmgidcigihpbeaa
