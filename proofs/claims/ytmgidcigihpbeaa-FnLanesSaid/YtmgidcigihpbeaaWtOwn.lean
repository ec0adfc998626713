/-
  A list in a row of one's own: what is appended; new lists.
-/
import Derived.Test.YtmgidcigihpbeaaWtTo
import Derived.Test.YtmgidcigihpbeaaRowApp
import Derived.Test.YtmgidcigihpbeaaOneB
namespace Go.Proofs.Ytmgidcigihpbeaa
open Go.ChangeShapes Go.WideShapes Go.ChangeAt Go.RowKit Go.Sort
def cellWt (r : Wt) : List Value := [.int .i64 r.wi, .int .i64 r.du]
def wWt (l : List Wt) : List Value := l.flatMap cellWt
theorem wWt_len (l : List Wt) : (wWt l).length = l.length * 2 := by
  induction l with
  | nil => rfl
  | cons r l ih => simp only [wWt, List.flatMap_cons, List.length_append, List.length_cons] at ih ⊢; rw [ih]; simp [cellWt]; omega
theorem wWt_at (l : List Wt) : ∀ (i : Nat) r, l[i]? = some r → (wWt l)[i * 2]? = some (.int .i64 r.wi) ∧ (wWt l)[i * 2 + 1]? = some (.int .i64 r.du) := by
  induction l with
  | nil => intro i r hr; simp at hr
  | cons x l ih =>
    intro i r hr
    have e : wWt (x :: l) = .int .i64 x.wi :: .int .i64 x.du :: wWt l := by simp [wWt, cellWt]
    rw [e]
    cases i with
    | zero => simp at hr; subst hr; simp
    | succ i =>
      have := ih i r (by simpa using hr)
      rw [show (i + 1) * 2 = i * 2 + 2 from by omega]
      simpa using this
theorem wWt_one (l : List Wt) : ∀ u ∈ wWt l, u.oneCell' = true := by
  intro u hu
  simp only [wWt, List.mem_flatMap] at hu
  obtain ⟨r, _, hr⟩ := hu
  simp only [cellWt, List.mem_cons, List.not_mem_nil, or_false] at hr
  rcases hr with rfl | rfl <;> rfl
theorem addWt (b off j : Nat) : (⟨b, off, none⟩ : Addr).add j = ⟨b, off + j, none⟩ := by unfold Addr.add; split <;> simp_all
theorem wWt_in {w : World} {a : Option Addr} {l : List Wt} (h : WtIn w a l) : l.length = 0 ∨ ∃ ad, a = some ad ∧ ∀ j u, (wWt l)[j]? = some u → w.cell? (ad.add j) = some u := by
  rcases h with rfl | ⟨b, off, rfl, h⟩
  · exact .inl rfl
  · refine .inr ⟨_, rfl, fun j u hj => ?_⟩
    rw [addWt]
    have hlt : j < (wWt l).length := (List.getElem?_eq_some_iff.1 hj).1
    rw [wWt_len] at hlt
    obtain ⟨r, hr⟩ : ∃ r, l[j / 2]? = some r := ⟨l[j / 2]'(by omega), List.getElem?_eq_getElem _⟩
    obtain ⟨e0, e1⟩ := wWt_at l (j / 2) r hr
    obtain ⟨c0, c1⟩ := h (j / 2) r hr
    obtain hm | hm : j % 2 = 0 ∨ j % 2 = 1 := by omega
    · have ej : j / 2 * 2 = j := by omega
      rw [ej] at e0 c0
      rw [e0] at hj
      rw [← hj]; exact c0
    · have ej : j / 2 * 2 + 1 = j := by omega
      rw [ej] at e1
      rw [Nat.add_assoc, ej] at c1
      rw [e1] at hj
      rw [← hj]; exact c1
/-- v, nil or not, holds l in a row of the call's own, from block base on. -/
def OwnWt (w : World) (base : Nat) (v : Value) (l : List Wt) : Prop := w.ownsRow base 40 2 v l.length (wWt l)
theorem OwnWt.none0 (w : World) (base : Nat) : OwnWt w base (.slice none 0 0) [] := World.ownsRow_nil _ _ _ _
theorem OwnWt.made0 (w : World) (base : Nat) (hb : base ≤ w.heap.size) : OwnWt (w.alloc (.cells #[] 40)) base (.slice (some ⟨w.heap.size, 0, none⟩) 0 0) [] := World.ownsRow_made w #[] 0 hb (by unfold maxLen; omega) rfl
theorem OwnWt.below {w w' : World} {base : Nat} {v : Value} {l : List Wt} (h : OwnWt w base v l) (hb : Below w.heap.size w w') : OwnWt w' base v l := row_below h hb
theorem OwnWt.lower {w : World} {b0 base : Nat} {v : Value} {l : List Wt} (h : OwnWt w base v l) (hb : b0 ≤ base) : OwnWt w b0 v l := row_lower h hb
theorem OwnWt.in {w : World} {base : Nat} {v : Value} {l : List Wt} (h : OwnWt w base v l) : ∃ a c, v = .slice a l.length c ∧ l.length ≤ c ∧ WtIn w a l := by
  have h0 := h
  obtain ⟨_, h1 | ⟨g, c, cur, rfl, _, _, hc, _⟩⟩ := h
  · have e : l = [] := List.eq_nil_of_length_eq_zero h1.2
    subst e
    exact ⟨none, 0, h1.1, Nat.le_refl _, .inl rfl⟩
  · refine ⟨_, c, rfl, hc, .inr ⟨g, 0, rfl, fun i r hr => ?_⟩⟩
    have hi := (List.getElem?_eq_some_iff.1 hr).1
    obtain ⟨a0, a1⟩ := wWt_at l i r hr
    have c0 := World.ownsRow.cellAt h0 (i * 2) (by omega)
    have c1 := World.ownsRow.cellAt h0 (i * 2 + 1) (by omega)
    exact ⟨by rw [Nat.zero_add, c0, a0], by rw [Nat.zero_add, c1, a1]⟩
/-- v holds l in a block of its own, from base on. -/
def WtNew (w : World) (base : Nat) (v : Value) (l : List Wt) : Prop := (l = [] ∧ ∃ a c, v = .slice a 0 c) ∨ ∃ g off cap, v = .slice (some ⟨g, off, none⟩) l.length cap ∧ base ≤ g ∧ g < w.heap.size ∧ WtAt w g off l ∧ ∀ o, w.frozen? ⟨g, o, none⟩ = false
theorem WtNew.in {w : World} {base : Nat} {v : Value} {l : List Wt} (h : WtNew w base v l) : ∃ a c, v = .slice a l.length c ∧ WtIn w a l := by
  rcases h with ⟨rfl, a, c, rfl⟩ | ⟨g, off, cap, rfl, _, _, h, _⟩
  · exact ⟨a, c, rfl, .inl rfl⟩
  · exact ⟨_, _, rfl, .inr ⟨g, off, rfl, h⟩⟩
theorem WtNew.keep {w w' : World} {base : Nat} {v : Value} {l : List Wt} (h : WtNew w base v l) (hb : Below w.heap.size w w') : WtNew w' base v l := by
  rcases h with h | ⟨g, off, cap, e, h1, h2, h3, h4⟩
  · exact .inl h
  · exact .inr ⟨g, off, cap, e, h1, Nat.lt_of_lt_of_le h2 hb.size, h3.keep hb, fun o => by rw [hb.frozen (p := ⟨g, o, none⟩) h2]; exact h4 o⟩
theorem WtNew.lower {w : World} {b0 base : Nat} {v : Value} {l : List Wt} (h : WtNew w base v l) (hb : b0 ≤ base) : WtNew w b0 v l := by
  rcases h with h | ⟨g, off, cap, e, h1, h2⟩
  · exact .inl h
  · exact .inr ⟨g, off, cap, e, by omega, h2⟩
theorem WtNew.nil (w : World) (base : Nat) (a : Option Addr) (c : Nat) : WtNew w base (.slice a 0 c) [] := .inl ⟨rfl, a, c, rfl⟩
theorem WtAt.one {g G off : Nat} {w w' : World} {l : List Wt} (h : WtAt w G off l) (k : OneB g w w') (hne : G ≠ g) : WtAt w' G off l := by
  intro i r hr
  obtain ⟨p0, p1⟩ := h i r hr
  exact ⟨by rw [k.cell _ hne]; exact p0, by rw [k.cell _ hne]; exact p1⟩
theorem WtNew.one {g : Nat} {w w' : World} {base : Nat} {v : Value} {l : List Wt} (h : WtNew w base v l) (k : OneB g w w') (hne : ∀ G, v.ownBlock = some G → G ≠ g) : WtNew w' base v l := by
  rcases h with h | ⟨G, off, cap, rfl, h1, h2, h3, h4⟩
  · exact .inl h
  · have hn := hne G rfl
    exact .inr ⟨G, off, cap, rfl, h1, by rw [k.size]; exact h2, h3.one k hn, fun o => by rw [k.frozen _ hn]; exact h4 o⟩
theorem OwnWt.new {w : World} {base : Nat} {v : Value} {l : List Wt} (h : OwnWt w base v l) : WtNew w base v l := by
  obtain ⟨a, c, e, _, hi⟩ := h.in
  obtain ⟨_, h1 | ⟨g, c', cur, rfl, hg, hh, _⟩⟩ := h
  · have e0 : l = [] := List.eq_nil_of_length_eq_zero h1.2
    exact .inl ⟨e0, none, 0, h1.1⟩
  · simp only [Value.slice.injEq, true_and] at e
    obtain ⟨rfl, rfl⟩ := e
    rcases hi with hi | ⟨b, off, e2, hat⟩
    · exact .inl ⟨hi, some ⟨g, 0, none⟩, c', by rw [hi]; rfl⟩
    · simp only [Option.some.injEq, Addr.mk.injEq, and_true] at e2
      obtain ⟨rfl, rfl⟩ := e2
      exact .inr ⟨g, 0, c', rfl, hg, (Array.getElem?_eq_some_iff.1 hh).1, hat, fun o => by simp [World.frozen?, hh]⟩
theorem WtNew.spot {w : World} {base : Nat} {a : Option Addr} {n c : Nat} {l : List Wt} (h : WtNew w base (.slice a n c) l) : ∃ g off, base ≤ g ∧ (l = [] ∨ (a = some ⟨g, off, none⟩ ∧ WtAt w g off l ∧ ∀ o, o < off + l.length * 2 → w.frozen? ⟨g, o, none⟩ = false)) ∧ (l = [] ∨ g < w.heap.size) := by
  rcases h with ⟨e, _⟩ | ⟨g, off, cap, e, h1, h2, h3, h4⟩
  · exact ⟨base, 0, Nat.le_refl _, .inl e, .inl e⟩
  · simp only [Value.slice.injEq] at e
    obtain ⟨rfl, rfl, rfl⟩ := e
    exact ⟨g, off, h1, .inr ⟨rfl, h3, fun o _ => h4 o⟩, .inr h2⟩
theorem wpList_append1Wt {ops : Array Oper} {rest : List Oper} {o : Oper} {a : Act} {Q : Exit → Act → World → Prop} (w : World) (hgd : o.guard = none) (s x : Operand)
    (ho : o.op = .call { callee := .builtin .append, args := #[s, x], argTypes := #[24, 24] }) (base : Nat) (v : Value) (l : List Wt) (r : Wt)
    (hs : a.eval s = v) (hx : a.eval x = .slice (some ⟨w.heap.size, 0, none⟩) 1 1) (hown : OwnWt w base v l) (hl : l.length ≤ 2000000) (hbase : base ≤ w.heap.size)
    (h : ∀ v' w', OwnWt w' base v' (l ++ [r]) → Below base w w' → w.grownBy w' v.ownBlock → wpList Try.prog ops Q rest (a.put o.dst v') w') :
    wpList Try.prog ops Q (o :: rest) a (w.alloc (.cells #[.int .i64 r.wi, .int .i64 r.du] 40)) := by
  obtain ⟨i0, hi, hz0, hz1, hz2⟩ := info_parts infoWt
  refine wpList_append_own _ hgd s x 24 ho base 40 i0 (.agg #[.int .i64 0, .int .i64 0]) 2 16 Try.underlying24 hi hz0 hz1 hz2 rfl (by decide) v l.length (wWt l) hs (World.ownsRow.alloc hown _) ⟨w.heap.size, 0, none⟩ 1 1 (cellWt r) hx rfl ?_ ?_ ?_ ?_ ?_ ?_
  · intro j u hj
    match j, hj with
    | 0, hj => simp [cellWt] at hj; subst hj; simp [Addr.add]
    | 1, hj => simp [cellWt] at hj; subst hj; simp [Addr.add]
  · intro u hu; simp [cellWt] at hu; rcases hu with rfl | rfl <;> rfl
  · unfold maxLen; omega
  · omega
  · simp; omega
  · intro v' w' h1 h2 h3
    have e : wWt (l ++ [r]) = wWt l ++ cellWt r := by simp [wWt]
    refine h v' w' (by unfold OwnWt; rw [e, List.length_append]; exact h1) ?_ ?_
    · exact ((Below.refl base w).alloc hbase _).grown h2 (by simp; omega) (fun q hq => row_ge hown q hq)
    · have hb := (Below.refl w.heap.size w).alloc (Nat.le_refl _) (.cells #[.int .i64 r.wi, .int .i64 r.du] 40)
      exact ⟨h2.os.trans hb.os, h2.tape.trans hb.tape, h2.output.trans hb.output, Nat.le_trans hb.size h2.size, fun q hq hn => (h2.block q (Nat.lt_of_lt_of_le hq hb.size) hn).trans (hb.block q hq)⟩
theorem wpList_appendInWt {ops : Array Oper} {rest : List Oper} {o : Oper} {a : Act} {Q : Exit → Act → World → Prop} (w : World) (hgd : o.guard = none) (s x : Operand)
    (ho : o.op = .call { callee := .builtin .append, args := #[s, x], argTypes := #[24, 24] }) (base : Nat) (v : Value) (l m : List Wt) (pa : Option Addr) (cap : Nat)
    (hs : a.eval s = v) (hx : a.eval x = .slice pa m.length cap) (hown : OwnWt w base v l) (hin : WtIn w pa m) (hl : l.length + m.length ≤ 2000000) (hbase : base ≤ w.heap.size)
    (h : ∀ v' w', OwnWt w' base v' (l ++ m) → Below base w w' → wpList Try.prog ops Q rest (a.put o.dst v') w') :
    wpList Try.prog ops Q (o :: rest) a w := by
  obtain ⟨i0, hi, hz0, hz1, hz2⟩ := info_parts infoWt
  refine wpList_plain hgd fun K hK => wp_append_in w s x 24 40 ho i0 (.agg #[.int .i64 0, .int .i64 0]) 2 16 Try.underlying24 hi hz0 hz1 hz2 rfl (by decide) base v l.length (wWt l) hs hown pa cap m.length (wWt m) hx (wWt_len m) (wWt_in hin) (wWt_one m) (by unfold maxLen; omega) (by omega) hbase fun v' w' h1 h2 _ => hK _ _ (h v' w' ?_ h2)
  unfold OwnWt
  rw [List.length_append, show wWt (l ++ m) = wWt l ++ wWt m by simp [wWt]]
  exact h1
end Go.Proofs.Ytmgidcigihpbeaa
