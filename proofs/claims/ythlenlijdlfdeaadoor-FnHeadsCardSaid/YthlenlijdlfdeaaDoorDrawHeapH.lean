/-
  Draws, and the blocks apart from the source of draws.
-/
import Derived.Test.YthlenlijdlfdeaaDoorDrawApart
import Derived.Test.YthlenlijdlfdeaaDoorOwnHeads
namespace Go.Proofs.YthlenlijdlfdeaaDoor
open Go.ChangeShapes Go.WideShapes Go.ChangeAt Go.RowKit
structure ApartH (B : Nat) (w w' : World) : Prop where
  size : w.heap.size ≤ w'.heap.size
  block : ∀ b, b < w.heap.size → b ≠ B → w'.heap[b]? = w.heap[b]?
theorem ApartH.refl (B : Nat) (w : World) : ApartH B w w := ⟨Nat.le_refl _, fun _ _ _ => rfl⟩
theorem ApartH.trans {B : Nat} {w w1 w2 : World} (h : ApartH B w w1) (k : ApartH B w1 w2) : ApartH B w w2 :=
  ⟨Nat.le_trans h.size k.size, fun b hb hn => by rw [k.block b (Nat.lt_of_lt_of_le hb h.size) hn, h.block b hb hn]⟩
theorem ApartH.below {B : Nat} {w w' : World} (h : Below w.heap.size w w') : ApartH B w w' := ⟨h.size, fun b hb _ => h.block b hb⟩
theorem ApartH.alloc (B : Nat) (w : World) (o : Obj) : ApartH B w (w.alloc o) := .below ((Below.refl _ _).alloc (Nat.le_refl _) _)
theorem setCell_block {w : World} {a : Addr} {v : Value} {b : Nat} (h : b ≠ a.block) : (w.setCell a v).heap[b]? = w.heap[b]? := by
  unfold World.setCell
  simp only [Array.getElem?_modify]
  rw [if_neg (fun k => h k.symm)]
theorem ApartH.stepped {B : Nat} {w w' : World} {v : Value} (h : ∃ m, w' = (w.setCell ⟨B, 1, none⟩ v).drewN m) : ApartH B w w' := by
  obtain ⟨m, rfl⟩ := h
  refine ⟨by simp, fun b _ hn => ?_⟩
  have e : ((w.setCell ⟨B, 1, none⟩ v).drewN m).heap = (w.setCell ⟨B, 1, none⟩ v).heap := by simp
  rw [e, setCell_block hn]
theorem ApartH.cells {B : Nat} {w w' : World} (h : ApartH B w w') : Apart B w w' := by
  refine ⟨h.size, fun b o hb hn => ?_, fun b o hb hn => ?_⟩
  · have := h.block b hb hn
    simp only [World.cell?, this]
  · have := h.block b hb hn
    simp only [World.frozen?, this]
theorem OwnH.apart {B : Nat} {w w' : World} {base : Nat} {v : Value} {l : List Hdr} (h : OwnH w base v l) (ha : ApartH B w w') (hB : B < base) : OwnH w' base v l := by
  obtain ⟨h1, h2⟩ := h
  refine ⟨h1, ?_⟩
  rcases h2 with h2 | ⟨g, c, cur, e, hg, hh, hrest⟩
  · exact .inl h2
  · exact .inr ⟨g, c, cur, e, hg, by rw [ha.block g (Array.getElem?_eq_some_iff.1 hh).1 (by omega)]; exact hh, hrest⟩
theorem l1Next_h (w : World) (B : Nat) (a : Option Addr) (len cap k : Nat) (n : Int) (hs : Src w B a len cap k)
    (hk : k ≤ 1000000) (hn : 1 ≤ n) (hn2 : n ≤ 1000000) (hl2 : len ≤ 1048576) :
    Calls Tryd.prog 47 #[.pointer (some ⟨B, 0, none⟩), .int .i64 n] w fun e w' => (∃ v : Int, 0 ≤ v ∧ v < n ∧ e = .returned (.int .i64 v)) ∧ Src w' B a len cap (k + 1) ∧ Below B w w' ∧ ApartH B w w' :=
  (l1Next_any w B a len cap k n hs hk hn hn2 hl2).mono fun _ _ ⟨h1, h2⟩ => ⟨h1, (hs.stepped h2).1, (hs.stepped h2).2, .stepped h2⟩
theorem l1Chance_h (w : World) (B : Nat) (a : Option Addr) (len cap k : Nat) (n : Int) (hs : Src w B a len cap k)
    (hk : k ≤ 1000000) (hn : 1 ≤ n) (hn2 : n ≤ 1000000) (hl2 : len ≤ 1048576) :
    Calls Tryd.prog 48 #[.pointer (some ⟨B, 0, none⟩), .int .i64 n] w fun e w' => (∃ b : Bool, e = .returned (.bool b)) ∧ Src w' B a len cap (k + 1) ∧ Below B w w' ∧ ApartH B w w' :=
  (l1Chance_any w B a len cap k n hs hk hn hn2 hl2).mono fun _ _ ⟨h1, h2⟩ => ⟨h1, (hs.stepped h2).1, (hs.stepped h2).2, .stepped h2⟩
theorem l1Pick_h (w0 : World) (B : Nat) (a : Option Addr) (len cap k : Nat) (hs : Src w0 B a len cap k) (xs : List Int) (n : Nat) (hn : xs.length = n) (hpos : 0 < n) (hlen : n ≤ 1000)
    (hk : k ≤ 1000000) (hl2 : len ≤ 1048576) :
    Calls Tryd.prog 49 #[.pointer (some ⟨B, 0, none⟩), .slice (some ⟨w0.heap.size, 0, none⟩) n n] (w0.alloc (.cells (xs.map (Value.int .i64)).toArray 2)) fun e w' => (∃ v : Int, v ∈ xs ∧ e = .returned (.int .i64 v)) ∧ Src w' B a len cap (k + 1) ∧ Below B w0 w' ∧ ApartH B w0 w' := by
  have hlt := hs.lt
  refine (l1Pick_any _ B a len cap k (hs.alloc _) w0.heap.size xs (by omega) n hn ?_ hpos hlen hk hl2).mono fun _ w' ⟨h1, h2⟩ => ⟨h1, ?_⟩
  · intro i x hx
    rw [World.cell?_alloc_mark]
    simp [hx]
  · obtain ⟨s, b⟩ := (hs.alloc _).stepped h2
    exact ⟨s, ((Below.refl B w0).alloc (Nat.le_of_lt hlt) _).trans b, (ApartH.alloc B w0 _).trans (.stepped h2)⟩
theorem l1Word_h (w0 : World) (B : Nat) (a : Option Addr) (len cap k : Nat) (hs : Src w0 B a len cap k) (xs : List ByteArray) (n : Nat) (hn : xs.length = n) (hpos : 0 < n) (hlen : n ≤ 1000)
    (hk : k ≤ 1000000) (hl2 : len ≤ 1048576) :
    Calls Tryd.prog 38 #[.pointer (some ⟨B, 0, none⟩), .slice (some ⟨w0.heap.size, 0, none⟩) n n] (w0.alloc (.cells (xs.map Value.string).toArray 9)) fun e w' => (∃ v : ByteArray, v ∈ xs ∧ e = .returned (.string v)) ∧ Src w' B a len cap (k + 1) ∧ Below B w0 w' ∧ ApartH B w0 w' := by
  have hlt := hs.lt
  refine (l1Word_any _ B a len cap k (hs.alloc _) w0.heap.size xs (by omega) n hn ?_ hpos hlen hk hl2).mono fun _ w' ⟨h1, h2⟩ => ⟨h1, ?_⟩
  · intro i x hx
    rw [World.cell?_alloc_mark]
    simp [hx]
  · obtain ⟨s, b⟩ := (hs.alloc _).stepped h2
    exact ⟨s, ((Below.refl B w0).alloc (Nat.le_of_lt hlt) _).trans b, (ApartH.alloc B w0 _).trans (.stepped h2)⟩
set_option maxHeartbeats 1000000 in
theorem l1Long_h (w : World) (B : Nat) (a : Option Addr) (len cap k : Nat) (hs : Src w B a len cap k) (t : ByteArray) (ht : t.size ≤ 1001)
    (hk : k ≤ 100000) (hl2 : len ≤ 1048576) :
    Calls Tryd.prog 68 #[.pointer (some ⟨B, 0, none⟩), .string t] w fun e w' => (∃ r : ByteArray, 1000 ≤ r.size ∧ r.size ≤ 1001 ∧ e = .returned (.string r)) ∧ (∃ k', k' ≤ k + 1002 ∧ Src w' B a len cap k') ∧ Below B w w' ∧ ApartH B w w' := by
  have HS : Hid (Src w B a len cap k) := hs
  clear hs
  go_enter Tryd.func68, Tryd.ntmps68
  go_wp2_with fail
  go_loopw [1] (fun x wr => ∃ (r : ByteArray) (j : Nat), x = .string r ∧ r.size = t.size + j ∧ r.size ≤ 1001 ∧ Src wr B a len cap (k + j) ∧ Below B w wr ∧ ApartH B w wr) (fun x _ => 1001 - (match x with | .string r => r.size | _ => 0))
  case atStart => exact ⟨t, 0, rfl, rfl, ht, HS.out, Below.refl _ _, .refl _ _⟩
  case round =>
    obtain ⟨r, j, rfl, hr1, hr2, hsr, hb, ha⟩ := hrel
    have HR : Hid (Src wr B a len cap (k + j)) := hsr
    have HJ : Hid (r.size = t.size + j) := hr1
    have HA : Hid (ApartH B w wr) := ha
    have hj : j ≤ 1001 := by omega
    clear hsr HS hr1 ha
    go_wp2_with fail
    refine (l1Pick_h _ B a len cap (k + j) HR.out [1000, 1001] 2 rfl (by omega) (by omega) (by omega) hl2).mono ?_
    rintro e w2 ⟨⟨v, hv, rfl⟩, hs2, hb2, ha2⟩
    have HS2 : Hid (Src w2 B a len cap (k + j + 1)) := hs2
    have HA2 : Hid (ApartH B w w2) := HA.out.trans ha2
    have hv1 : 1000 ≤ v ∧ v ≤ 1001 := by simp at hv; omega
    obtain ⟨v0, v1⟩ := hv1
    clear hs2 HR hv HA ha2
    by_cases hlt : (r.size : Int) < v
    · have hadd := fun w => run_string_add_sum (P := Tryd.prog) (w := w) r ⟨#[32]⟩ (by have : (⟨#[32]⟩ : ByteArray).size = 1 := rfl; omega)
      have HZ : Hid ((r ++ (⟨#[32]⟩ : ByteArray)).size = r.size + 1) := by show _ = _; simp [ByteArray.size_append]; rfl
      generalize r ++ (⟨#[32]⟩ : ByteArray) = r' at *
      go_wp2_with fail
      go_roundw
      case rel => exact ⟨r', j + 1, rfl, by have := HZ.out; have := HJ.out; omega, by have := HZ.out; omega, HS2.out, hb.trans hb2, HA2.out⟩
      case measure => have := HZ.out; simp; omega
    · go_wp2_with fail
      go_ret
      exact ⟨⟨r, by omega, hr2, rfl⟩, ⟨k + j + 1, by omega, HS2.out⟩, hb.trans hb2, HA2.out⟩
end Go.Proofs.YthlenlijdlfdeaaDoor
