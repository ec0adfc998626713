/-
  A slice of bytes that the call itself grows, from nil on; where what a quote begins ends.
-/
import Derived.Test.YtibomkcbopkpkaaDoorOwnBytes
import Derived.Test.YtibomkcbopkpkaaDoorUnqBase
namespace Go.Proofs.YtibomkcbopkpkaaDoor
open Go.ChangeShapes Go.WideShapes Go.ChangeAt Go.RowKit
theorem size_list (s : ByteArray) : s.data.toList.length = s.size := by simp
/-- v, nil or not, holds the bytes l in a row of the call's own. -/
def OwnR (w : World) (base : Nat) (v : Value) (l : List UInt8) : Prop := w.ownsRow base 5 1 v l.length (bytesW l)
theorem OwnR.text {w : World} {base : Nat} {v : Value} {l : List UInt8} (h : OwnR w base v l) :
    (convert 22 9 v).run Tryd.prog w = .ok (.string ⟨l.toArray⟩) w := by
  by_cases hn : v = .slice none 0 0
  · obtain ⟨_, h2 | ⟨g, c, cur, e, _⟩⟩ := h
    · have : l = [] := List.eq_nil_of_length_eq_zero h2.2
      subst this hn
      rw [run_convert_bytes_string w 22 9 5 none 0 0 Tryd.underlying22 Tryd.underlying5 Tryd.underlying9]
      rfl
    · rw [hn] at e; cases e
  · exact OwnB.text ⟨h, hn⟩
theorem OwnR.nil (w : World) (base : Nat) : OwnR w base (.slice none 0 0) [] := World.ownsRow_nil _ _ _ _
theorem wpList_append_byteR {ops : Array Oper} {rest : List Oper} {o : Oper} {a : Act} {Q : Exit → Act → World → Prop} (w : World) (hgd : o.guard = none) (s x : Operand)
    (ho : o.op = .call { callee := .builtin .append, args := #[s, x], argTypes := #[22, 22] }) (base : Nat) (v : Value) (l : List UInt8) (z : Int) (c : UInt8)
    (hs : a.eval s = v) (hx : a.eval x = .slice (some ⟨w.heap.size, 0, none⟩) 1 1) (hown : OwnR w base v l) (hc : (c.toNat : Int) = z) (hl : l.length ≤ 1000000) (hbase : base ≤ w.heap.size)
    (h : ∀ v' w', OwnR w' base v' (l ++ [c]) → Below base w w' → w.heap.size ≤ w'.heap.size → wpList Tryd.prog ops Q rest (a.put o.dst v') w') :
    wpList Tryd.prog ops Q (o :: rest) a (w.alloc (.cells #[.int .u8 z] 5)) := by
  obtain ⟨i0, hi, hz0, hz1, hz2⟩ := info_parts infoByteB
  refine wpList_append_own _ hgd s x 22 ho base 5 i0 (.int .u8 0) 1 1 Tryd.underlying22 hi hz0 hz1 hz2 rfl (by decide) v l.length (bytesW l) hs (World.ownsRow.alloc hown _) ⟨w.heap.size, 0, none⟩ 1 1 [.int .u8 z] hx rfl ?_ ?_ ?_ ?_ ?_ ?_
  · intro j u hj
    match j, hj with
    | 0, hj => simp at hj; subst hj; simp [Addr.add]
  · intro u hu; simp at hu; subst hu; rfl
  · unfold maxLen; omega
  · omega
  · simp; omega
  · intro v' w' h1 h2 h3
    have e : bytesW (l ++ [c]) = bytesW l ++ [Value.int .u8 z] := by simp [bytesW, hc]
    refine h v' w' (by unfold OwnR; rw [e, List.length_append]; exact h1) ?_ ?_
    · exact ((Below.refl base w).alloc hbase _).grown h2 (by simp; omega) (fun q hq => own_geB hown q hq)
    · have hb := ((Below.refl 0 w).alloc (Nat.zero_le _) (.cells #[.int .u8 z] 5)).grown h2 (Nat.zero_le _) (fun q _ => Nat.zero_le _)
      exact hb.size
/-- How many bytes stand ahead of the quote that ends; all of them where none does. -/
def qLen : List UInt8 → Nat
  | [] => 0
  | [c] => if (c.toNat : Int) = 34 then 0 else 1
  | c :: d :: r => if (c.toNat : Int) = 34 then 0 else if (c.toNat : Int) = 92 then 2 + qLen r else 1 + qLen (d :: r)
theorem qLen_end (c : UInt8) (r : List UInt8) (h : (c.toNat : Int) = 34) : qLen (c :: r) = 0 := by
  cases r with
  | nil => simp only [qLen, if_pos h]
  | cons d r => simp only [qLen, if_pos h]
theorem qLen_cut (c : UInt8) (h : (c.toNat : Int) = 92) : qLen [c] = 1 := by simp only [qLen]; rw [if_neg (by omega)]
theorem qLen_esc (c d : UInt8) (r : List UInt8) (h : (c.toNat : Int) = 92) : qLen (c :: d :: r) = 2 + qLen r := by
  simp only [qLen]; rw [if_neg (by omega), if_pos h]
theorem qLen_take (c : UInt8) (r : List UInt8) (h1 : ¬ (c.toNat : Int) = 34) (h2 : ¬ (c.toNat : Int) = 92) : qLen (c :: r) = 1 + qLen r := by
  cases r with
  | nil => simp only [qLen, if_neg h1]
  | cons d r => simp only [qLen, if_neg h1, if_neg h2]
theorem qLen_le : ∀ l : List UInt8, qLen l ≤ l.length
  | [] => by simp [qLen]
  | [c] => by simp only [qLen]; split <;> simp
  | c :: d :: r => by
    have h1 := qLen_le r
    have h2 := qLen_le (d :: r)
    simp only [qLen, List.length_cons] at h2 ⊢
    split
    · omega
    · split <;> omega
theorem unq_ends : ∀ (acc l : List UInt8), (unq acc l).2 = decide (qLen l + 1 = l.length)
  | acc, [] => by simp [unq]
  | acc, [c] => by simp only [unq, qLen]; split <;> simp
  | acc, c :: d :: r => by
    have h1 := unq_ends (acc ++ [d]) r
    have h2 := unq_ends (acc ++ [c]) (d :: r)
    simp only [unq, qLen]
    split
    · simp
    · split
      · rw [h1]; simp only [List.length_cons]; exact decide_eq_decide.2 (by omega)
      · rw [h2]; simp only [List.length_cons]; exact decide_eq_decide.2 (by omega)
/-- Where the quote that stands at b is ended. -/
def qEnd (l : List UInt8) (b : Nat) : Nat := b + 1 + qLen (l.drop (b + 1))
theorem unqB_ends (s : ByteArray) : unqB s = (decide (s.data.toList.head? = some 34) && decide (qEnd s.data.toList 0 + 1 = s.size) && plainL s.data.toList) := by
  have hz : s.size = s.data.toList.length := by simp
  rw [hz]
  unfold unqB unqT qEnd
  generalize s.data.toList = l
  cases l with
  | nil => simp
  | cons c t =>
    by_cases h : 2 ≤ (c :: t).length ∧ (c :: t).head? = some 34 ∧ plainL (c :: t) = true
    · rw [if_pos h, unq_ends, h.2.1, h.2.2]
      simp only [List.tail_cons, Bool.and_true, decide_true, Bool.true_and, Nat.zero_add, List.drop_succ_cons, List.drop_zero, List.length_cons]
      exact decide_eq_decide.2 (by omega)
    · rw [if_neg h]
      by_cases a : (c :: t).head? = some 34 ∧ plainL (c :: t) = true
      · have : ¬ 2 ≤ (c :: t).length := fun x => h ⟨x, a⟩
        have ht : t = [] := List.eq_nil_of_length_eq_zero (by simp only [List.length_cons] at this; omega)
        subst ht
        simp [qLen]
      · symm
        simp only [Bool.and_eq_false_iff, decide_eq_false_iff_not]
        by_cases b1 : (c :: t).head? = some 34
        · right; cases hp : plainL (c :: t)
          · rfl
          · exact absurd ⟨b1, hp⟩ a
        · left; left; exact b1
end Go.Proofs.YtibomkcbopkpkaaDoor
