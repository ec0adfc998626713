/-
  What the model's l2Pieces answers.
-/
import Derived.Test.YtibomkcbopkpkaaDoorPiecesPlain
import Derived.Test.YtibomkcbopkpkaaDoorStrRow
namespace Go.Proofs.YtibomkcbopkpkaaDoor
open Go.ChangeShapes Go.WideShapes Go.ChangeAt Go.RowKit
def mkB (p : List UInt8) : ByteArray := ⟨p.toArray⟩
/-- The texts lie in block g from 0 on. -/
def TextsAt (w : World) (g : Nat) (l : List ByteArray) : Prop := ∀ (i : Nat) x, l[i]? = some x → w.cell? ⟨g, i, none⟩ = some (.string x)
theorem TextsAt.keep {w w' : World} {g : Nat} {l : List ByteArray} (h : TextsAt w g l) (hb : Below w.heap.size w w') : TextsAt w' g l := by
  intro i x hx
  have c := h i x hx
  rw [hb.cell (block_lt_of_cell c)]; exact c
theorem OwnS.at {w : World} {base : Nat} {v : Value} {l : List ByteArray} (h : OwnS w base v l) (hl : l ≠ []) : ∃ g c, v = .slice (some ⟨g, 0, none⟩) l.length c ∧ TextsAt w g l := by
  have h0 := h
  obtain ⟨_, h1 | ⟨g, c, cur, rfl, _⟩⟩ := h
  · exact absurd (List.eq_nil_of_length_eq_zero h1.2) hl
  · refine ⟨g, c, rfl, fun i x hx => ?_⟩
    have := World.ownsRow.cellAt h0 i (by have := (List.getElem?_eq_some_iff.1 hx).1; omega)
    rw [this]
    simp [textsW, hx]
theorem OwnS.texts {w : World} {base g n c : Nat} {l : List ByteArray} (h : OwnS w base (.slice (some ⟨g, 0, none⟩) n c) l) : TextsAt w g l := by
  have h0 := h
  obtain ⟨_, h1 | ⟨g', c', cur, e, _⟩⟩ := h
  · exact absurd h1.1 (by simp)
  · intro i x hx
    have hi := (List.getElem?_eq_some_iff.1 hx).1
    simp only [Value.slice.injEq, Option.some.injEq, Addr.mk.injEq, and_true] at e
    obtain ⟨rfl, rfl, rfl⟩ := e
    have := World.ownsRow.cellAt h0 i (by omega)
    rw [this]
    simp [textsW, hx]
theorem ext_list (s : ByteArray) (i j : Nat) : (s.extract i j).data.toList = (s.data.toList.drop i).take (j - i) := by
  rw [ByteArray.data_extract, Array.toList_extract, List.extract_eq_take_drop]
theorem ext_mk (s : ByteArray) (i j : Nat) : s.extract i j = mkB ((s.data.toList.drop i).take (j - i)) := by
  unfold mkB
  rw [← ext_list]
theorem cur_snoc (s : ByteArray) (f k : Nat) (hf : f ≤ k) (hk : k < s.size) : (s.data.toList.drop f).take (k + 1 - f) = (s.data.toList.drop f).take (k - f) ++ [s[k]] := by
  have hz := size_list s
  rw [show k + 1 - f = (k - f) + 1 from by omega, List.take_add_one, List.getElem?_drop, show f + (k - f) = k from by omega, List.getElem?_eq_getElem (by omega)]
  rfl
theorem cur_all (s : ByteArray) (f k : Nat) (hk : s.size ≤ k) : (s.data.toList.drop f).take (k - f) = s.data.toList.drop f := by
  have hz := size_list s
  exact List.take_of_length_le (by rw [List.length_drop]; omega)
theorem pcs_ne (l : List UInt8) (ins : Bool) (cur : List UInt8) : pcs ins cur l ≠ [] := by
  rw [pcs_first l.length l ins cur (Nat.le_refl _)]
  split <;> simp
/-- Where the walk stands: O are the pieces that are cut; the one under way began at f. -/
def PcAt (s : ByteArray) (O : List (List UInt8)) (ins : Bool) (f k : Nat) : Prop :=
  (k ≤ s.size ∧ f ≤ k ∧ pcs false [] s.data.toList = O ++ pcs ins ((s.data.toList.drop f).take (k - f)) (s.data.toList.drop k)) ∨ (k = s.size + 1 ∧ f ≤ s.size ∧ pcs false [] s.data.toList = O ++ [s.data.toList.drop f])
theorem PcAt.lt {s : ByteArray} {O : List (List UInt8)} {ins : Bool} {f k : Nat} (h : PcAt s O ins f k) (hk : k < s.size) : f ≤ k ∧ pcs false [] s.data.toList = O ++ pcs ins ((s.data.toList.drop f).take (k - f)) (s[k] :: s.data.toList.drop (k + 1)) := by
  rcases h with h | h
  · exact ⟨h.2.1, by rw [h.2.2, drop_at s k hk]⟩
  · omega
theorem PcAt.done {s : ByteArray} {O : List (List UInt8)} {ins : Bool} {f k : Nat} (h : PcAt s O ins f k) (hk : ¬ k < s.size) : f ≤ s.size ∧ pcs false [] s.data.toList = O ++ [s.data.toList.drop f] := by
  have hz := size_list s
  rcases h with h | h
  · refine ⟨by omega, ?_⟩
    rw [h.2.2, List.drop_of_length_le (i := k) (by omega), cur_all s f k (by omega)]
    rfl
  · exact h.2
theorem PcAt.esc {s : ByteArray} {O : List (List UInt8)} {f k : Nat} (h : PcAt s O true f k) (hk : k < s.size) (hc : (s[k].toNat : Int) = 92) : PcAt s O true f (k + 2) := by
  obtain ⟨hf, h⟩ := h.lt hk
  by_cases hl : k + 1 = s.size
  · right
    refine ⟨by omega, by omega, ?_⟩
    have hz := size_list s
    rw [h, List.drop_of_length_le (i := k + 1) (by omega), pcs_cut hc, ← cur_snoc s f k hf hk, cur_all s f (k + 1) (by omega)]
  · left
    refine ⟨by omega, by omega, ?_⟩
    rw [h, drop_at s (k + 1) (by omega), pcs_esc hc, cur_snoc s f (k + 1) (by omega) (by omega), cur_snoc s f k hf hk]
    simp
theorem PcAt.quote {s : ByteArray} {O : List (List UInt8)} {ins : Bool} {f k : Nat} (h : PcAt s O ins f k) (hk : k < s.size) (hc : (s[k].toNat : Int) = 34) : PcAt s O (!ins) f (k + 1) := by
  obtain ⟨hf, h⟩ := h.lt hk
  exact .inl ⟨by omega, by omega, by rw [h, pcs_quote hc, cur_snoc s f k hf hk]⟩
theorem PcAt.comma {s : ByteArray} {O : List (List UInt8)} {f k : Nat} (h : PcAt s O false f k) (hk : k < s.size) (hc : (s[k].toNat : Int) = 44) : PcAt s (O ++ [(s.data.toList.drop f).take (k - f)]) false (k + 1) (k + 1) := by
  obtain ⟨hf, h⟩ := h.lt hk
  exact .inl ⟨by omega, by omega, by rw [h, pcs_comma hc]; simp⟩
theorem PcAt.on {s : ByteArray} {O : List (List UInt8)} {ins : Bool} {f k : Nat} (h : PcAt s O ins f k) (hk : k < s.size) (h1 : ¬ (ins = true ∧ (s[k].toNat : Int) = 92)) (h2 : ¬ (s[k].toNat : Int) = 34) (h3 : ¬ ((s[k].toNat : Int) = 44 ∧ ins = false)) : PcAt s O ins f (k + 1) := by
  obtain ⟨hf, h⟩ := h.lt hk
  exact .inl ⟨by omega, by omega, by rw [h, pcs_take h1 h2 h3, cur_snoc s f k hf hk]⟩
theorem OwnS.made0 (w : World) (base : Nat) (hb : base ≤ w.heap.size) : OwnS (w.alloc (.cells #[] 9)) base (.slice (some ⟨w.heap.size, 0, none⟩) 0 0) [] := World.ownsRow_made w #[] 0 hb (by unfold maxLen; omega) rfl
end Go.Proofs.YtibomkcbopkpkaaDoor
