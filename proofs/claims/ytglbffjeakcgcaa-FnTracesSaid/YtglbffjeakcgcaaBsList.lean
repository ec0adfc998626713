/-
  A list of bools: in memory, of one's own, appended to, compared, marked, held.
-/
import Derived.Test.YtglbffjeakcgcaaGB
import Derived.Deep.AppendLies
import Derived.Lib.QuietBelow
import Derived.BigQuiet
namespace Go.Proofs.Ytglbffjeakcgcaa
open Go.ChangeShapes Go.WideShapes Go.ChangeAt Go.RowKit Go.Sort
def BsAt (w : World) (b off : Nat) (l : List Bool) : Prop := ∀ (i : Nat) x, l[i]? = some x → w.cell? ⟨b, off + i, none⟩ = some (.bool x)
theorem BsAt.keep {w w' : World} {b off : Nat} {l : List Bool} (h : BsAt w b off l) (hb : Below w.heap.size w w') : BsAt w' b off l := fun i x hx => by
  have p := h i x hx
  rw [hb.cell (block_lt_of_cell p)]; exact p
def BsIn (w : World) (a : Option Addr) (l : List Bool) : Prop := l = [] ∨ ∃ b off, a = some ⟨b, off, none⟩ ∧ BsAt w b off l
theorem BsIn.keep {w w' : World} {a : Option Addr} {l : List Bool} (h : BsIn w a l) (hb : Below w.heap.size w w') : BsIn w' a l := by
  rcases h with h | ⟨b, off, e, hat⟩
  · exact .inl h
  · exact .inr ⟨b, off, e, hat.keep hb⟩
def wBs (l : List Bool) : List Value := l.map fun x => .bool x
def OwnBs (w : World) (base : Nat) (v : Value) (l : List Bool) : Prop := w.ownsRow base 4 1 v l.length (wBs l)
theorem OwnBs.none0 (w : World) (base : Nat) : OwnBs w base (.slice none 0 0) [] := World.ownsRow_nil _ _ _ _
theorem OwnBs.below {w w' : World} {base : Nat} {v : Value} {l : List Bool} (h : OwnBs w base v l) (hb : Below w.heap.size w w') : OwnBs w' base v l := row_below h hb
theorem OwnBs.lower {w : World} {b0 base : Nat} {v : Value} {l : List Bool} (h : OwnBs w base v l) (hb : b0 ≤ base) : OwnBs w b0 v l := row_lower h hb
theorem OwnBs.kept {w w' : World} {base : Nat} {v : Value} {l : List Bool} {row : Option Nat} (h : OwnBs w base v l) (hg : w.grownBy w' row) (hne : v.ownBlock = none ∨ v.ownBlock ≠ row) : OwnBs w' base v l := World.ownsRow.kept h hg hne
theorem OwnBs.in {w : World} {base : Nat} {v : Value} {l : List Bool} (h : OwnBs w base v l) : ∃ a c, v = .slice a l.length c ∧ l.length ≤ c ∧ BsIn w a l := by
  have h0 := h
  obtain ⟨_, h1 | ⟨g, c, cur, rfl, _, _, hc, _⟩⟩ := h
  · have e : l = [] := List.eq_nil_of_length_eq_zero h1.2
    subst e
    exact ⟨none, 0, h1.1, Nat.le_refl _, .inl rfl⟩
  · refine ⟨_, c, rfl, hc, .inr ⟨g, 0, rfl, fun i x hx => ?_⟩⟩
    have hi := (List.getElem?_eq_some_iff.1 hx).1
    have c1 := World.ownsRow.cellAt h0 i (by omega)
    rw [Nat.zero_add, c1]
    unfold wBs
    rw [List.getElem?_map, hx]
    rfl
def BsNew (w : World) (base : Nat) (v : Value) (l : List Bool) : Prop := (l = [] ∧ ∃ a c, v = .slice a 0 c) ∨ ∃ g off cap, v = .slice (some ⟨g, off, none⟩) l.length cap ∧ base ≤ g ∧ g < w.heap.size ∧ BsAt w g off l ∧ ∀ o, w.frozen? ⟨g, o, none⟩ = false
theorem BsNew.in {w : World} {base : Nat} {v : Value} {l : List Bool} (h : BsNew w base v l) : ∃ a c, v = .slice a l.length c ∧ BsIn w a l := by
  rcases h with ⟨rfl, a, c, rfl⟩ | ⟨g, off, cap, rfl, _, _, h, _⟩
  · exact ⟨a, c, rfl, .inl rfl⟩
  · exact ⟨_, _, rfl, .inr ⟨g, off, rfl, h⟩⟩
theorem BsNew.keep {w w' : World} {base : Nat} {v : Value} {l : List Bool} (h : BsNew w base v l) (hb : Below w.heap.size w w') : BsNew w' base v l := by
  rcases h with h | ⟨g, off, cap, e, h1, h2, h3, h4⟩
  · exact .inl h
  · exact .inr ⟨g, off, cap, e, h1, Nat.lt_of_lt_of_le h2 hb.size, h3.keep hb, fun o => by rw [hb.frozen (p := ⟨g, o, none⟩) h2]; exact h4 o⟩
theorem BsNew.lower {w : World} {b0 base : Nat} {v : Value} {l : List Bool} (h : BsNew w base v l) (hb : b0 ≤ base) : BsNew w b0 v l := by
  rcases h with h | ⟨g, off, cap, e, h1, h2⟩
  · exact .inl h
  · exact .inr ⟨g, off, cap, e, by omega, h2⟩
theorem BsNew.nil (w : World) (base : Nat) (a : Option Addr) (c : Nat) : BsNew w base (.slice a 0 c) [] := .inl ⟨rfl, a, c, rfl⟩
theorem BsNew.gb {g : Nat} {w w' : World} {base : Nat} {v : Value} {l : List Bool} (h : BsNew w base v l) (k : w.grownBy w' (some g)) (hne : ∀ G, v.ownBlock = some G → l = [] ∨ G ≠ g) : BsNew w' base v l := by
  rcases h with h | ⟨G, off, cap, rfl, h1, h2, h3, h4⟩
  · exact .inl h
  · rcases hne G rfl with e | hn
    · subst e; exact .inl ⟨rfl, _, _, rfl⟩
    · exact .inr ⟨G, off, cap, rfl, h1, Nat.lt_of_lt_of_le h2 k.size, fun i x hx => by rw [gbCell k _ h2 hn]; exact h3 i x hx, fun o => by rw [gbFrozen k _ h2 hn]; exact h4 o⟩
theorem BsNew.gb2 {g : Nat} {w w' : World} {base : Nat} {v : Value} {l : List Bool} (h : BsNew w base v l) (k : w.grownBy w' (some g)) (hne : g < base) : BsNew w' base v l := by
  rcases h with h | ⟨G, off, cap, rfl, h1, h2, h3, h4⟩
  · exact .inl h
  · exact BsNew.gb (.inr ⟨G, off, cap, rfl, h1, h2, h3, h4⟩) k (fun G' hG => by simp only [Value.ownBlock, Option.some.injEq] at hG; right; omega)
theorem BsNew.apart {w : World} {base : Nat} {v : Value} {l : List Bool} (h : BsNew w base v l) {X : Nat} (hX : X < base ∨ w.heap.size ≤ X) : ∀ Q, v.ownBlock = some Q → l = [] ∨ Q ≠ X := by
  intro Q hQ
  rcases h with ⟨e, _⟩ | ⟨g, off, cap, rfl, h1, h2, _⟩
  · exact .inl e
  · simp only [Value.ownBlock, Option.some.injEq] at hQ
    right; omega
theorem OwnBs.new {w : World} {base : Nat} {v : Value} {l : List Bool} (h : OwnBs w base v l) : BsNew w base v l := by
  obtain ⟨a, c, e, _, hi⟩ := h.in
  obtain ⟨_, h1 | ⟨g, c', cur, rfl, hg, hh, _⟩⟩ := h
  · have e0 : l = [] := List.eq_nil_of_length_eq_zero h1.2
    exact .inl ⟨e0, none, 0, h1.1⟩
  · simp only [Value.slice.injEq, true_and] at e
    obtain ⟨rfl, rfl⟩ := e
    rcases hi with hi | ⟨b, off, e2, hat⟩
    · exact .inl ⟨hi, some ⟨g, 0, none⟩, c', by rw [hi]; rfl⟩
    · simp only [Option.some.injEq, Addr.mk.injEq, and_true] at e2
      obtain ⟨rfl, rfl⟩ := e2
      exact .inr ⟨g, 0, c', rfl, hg, (Array.getElem?_eq_some_iff.1 hh).1, hat, fun o => by simp [World.frozen?, hh]⟩
theorem infoBs : (Try.prog.info? 4).map (fun i => (i.zero, i.size, i.bytes)) = some (some (.bool false), 1, 1) := by kernel_rfl
theorem wpList_append1Bs {ops : Array Oper} {rest : List Oper} {o : Oper} {a : Act} {Q : Exit → Act → World → Prop} (w : World) (hgd : o.guard = none) (s x : Operand)
    (ho : o.op = .call { callee := .builtin .append, args := #[s, x], argTypes := #[54, 54] }) (base : Nat) (v : Value) (l : List Bool) (r : Bool)
    (hs : a.eval s = v) (hx : a.eval x = .slice (some ⟨w.heap.size, 0, none⟩) 1 1) (hown : OwnBs w base v l) (hl : l.length ≤ 2000000) (hbase : base ≤ w.heap.size)
    (h : ∀ g cap w', OwnBs w' base (.slice (some ⟨g, 0, none⟩) (l.length + 1) cap) (l ++ [r]) → w.grownBy w' v.ownBlock → (v.ownBlock = some g ∨ w.heap.size ≤ g) → wpList Try.prog ops Q rest (a.put o.dst (.slice (some ⟨g, 0, none⟩) (l.length + 1) cap)) w') :
    wpList Try.prog ops Q (o :: rest) a (w.alloc (.cells #[.bool r] 4)) := by
  obtain ⟨i0, hi, hz0, hz1, hz2⟩ := info_parts infoBs
  refine wpList_append_lies _ hgd s x 54 ho base 4 i0 (.bool false) 1 1 Try.underlying54 hi hz0 hz1 hz2 rfl (by decide) v l.length (wBs l) hs (World.ownsRow.alloc hown _) ⟨w.heap.size, 0, none⟩ 1 1 [.bool r] hx rfl ?_ ?_ (by decide) ?_ ?_ ?_ _ rfl ?_
  · intro j u hj
    match j, hj with
    | 0, hj => simp at hj; subst hj; simp [Addr.add]
  · intro u hu; simp at hu; subst hu; rfl
  · unfold maxLen; omega
  · omega
  · simp; omega
  · intro g cap w' h1 h2 h3 _
    refine h g cap w' ?_ ?_ ?_
    · unfold OwnBs
      rw [List.length_append, show wBs (l ++ [r]) = wBs l ++ [.bool r] by simp [wBs]]
      exact h1
    · have hb := (Below.refl w.heap.size w).alloc (Nat.le_refl _) (.cells #[.bool r] 4)
      exact ⟨h2.os.trans hb.os, h2.tape.trans hb.tape, h2.output.trans hb.output, Nat.le_trans hb.size h2.size, fun q hq hn => (h2.block q (Nat.lt_of_lt_of_le hq hb.size) hn).trans (hb.block q hq)⟩
    · rcases h3 with h3 | h3
      · exact .inl h3
      · right; rw [h3]; simp
def mkdBs : Nat → List Bool → List Bool
  | _, [] => []
  | k, _ :: l => ((k : Int) % 3 == 0) :: mkdBs (k + 1) l
theorem mkdBs_len : ∀ (l : List Bool) (k : Nat), (mkdBs k l).length = l.length
  | [], _ => rfl
  | _ :: l, k => by rw [mkdBs, List.length_cons, mkdBs_len l, List.length_cons]
theorem mkdBs_at : ∀ (l : List Bool) (k i : Nat), i < l.length → (mkdBs k l)[i]? = some (((k + i : Nat) : Int) % 3 == 0)
  | [], _, _, h => by simp at h
  | x :: l, k, 0, _ => by simp [mkdBs]
  | x :: l, k, i + 1, h => by
    rw [mkdBs, List.getElem?_cons_succ, mkdBs_at l (k + 1) i (by simpa using h), show k + 1 + i = k + (i + 1) by omega]
theorem mkdBs_append : ∀ (A B : List Bool) (k : Nat), mkdBs k (A ++ B) = mkdBs k A ++ mkdBs (k + A.length) B
  | [], B, k => by simp [mkdBs]
  | x :: A, B, k => by rw [List.cons_append, mkdBs, mkdBs, List.cons_append, mkdBs_append A B (k + 1), List.length_cons, show k + 1 + A.length = k + (A.length + 1) by omega]
theorem BsAt.mark1 {w : World} {g off k i : Nat} {l : List Bool} (h : BsAt w g off (mkdBs k (l.take i) ++ l.drop i)) (hi : i < l.length) :
    BsAt (w.setCell ⟨g, off + i, none⟩ (.bool (((k + i : Nat) : Int) % 3 == 0))) g off (mkdBs k (l.take (i + 1)) ++ l.drop (i + 1)) := by
  have len : (mkdBs k (l.take i) ++ l.drop i).length = l.length := by rw [List.length_append, mkdBs_len, ← List.length_append, List.take_append_drop]
  have lti : (l.take i).length = i := by rw [List.length_take]; omega
  have ne : ∀ q : Nat, q ≠ i → (⟨g, off + i, none⟩ : Addr) ≠ ⟨g, off + q, none⟩ := fun q hq e => by have := congrArg Addr.off e; simp at this; omega
  intro q r hr
  have e1 : l.take (i + 1) = l.take i ++ [l[i]] := List.take_succ_eq_append_getElem hi
  rw [e1, mkdBs_append, lti, List.append_assoc] at hr
  by_cases h1 : q < i
  · rw [List.getElem?_append_left (by rw [mkdBs_len, lti]; exact h1)] at hr
    rw [World.cell?_setCell_other _ _ _ _ (ne q (by omega))]
    exact h q r (by rw [List.getElem?_append_left (by rw [mkdBs_len, lti]; exact h1)]; exact hr)
  · rw [List.getElem?_append_right (by rw [mkdBs_len, lti]; omega), mkdBs_len, lti] at hr
    by_cases h2 : q = i
    · subst h2
      rw [Nat.sub_self] at hr
      simp only [mkdBs, List.singleton_append, List.getElem?_cons_zero, Option.some.injEq] at hr
      subst hr
      obtain ⟨u, hu⟩ : ∃ u, (mkdBs k (l.take q) ++ l.drop q)[q]? = some u := ⟨_, List.getElem?_eq_getElem (by rw [len]; exact hi)⟩
      exact World.cell?_setCell_same _ _ _ (h q u hu)
    · rw [World.cell?_setCell_other _ _ _ _ (ne q h2)]
      refine h q r ?_
      rw [List.getElem?_append_right (by rw [mkdBs_len, lti]; omega), mkdBs_len, lti, List.drop_eq_getElem_cons hi]
      obtain ⟨d, hd⟩ : ∃ d, q - i = d + 1 := ⟨q - i - 1, by omega⟩
      rw [hd] at hr ⊢
      simp [mkdBs] at hr ⊢
      rw [show i + (d + 1) = i + 1 + d by omega]
      exact hr
def SpotBs (w : World) (a : Option Addr) (g off : Nat) (l : List Bool) : Prop := l = [] ∨ (a = some ⟨g, off, none⟩ ∧ g < w.heap.size ∧ BsAt w g off l ∧ ∀ o, o < off + l.length → w.frozen? ⟨g, o, none⟩ = false)
theorem SpotBs.keep {w w' : World} {a : Option Addr} {g off : Nat} {l : List Bool} (h : SpotBs w a g off l) (hb : Below w.heap.size w w') : SpotBs w' a g off l := by
  rcases h with h | ⟨e, h1, h2, h3⟩
  · exact .inl h
  · exact .inr ⟨e, Nat.lt_of_lt_of_le h1 hb.size, h2.keep hb, fun o ho => by rw [hb.frozen (p := ⟨g, o, none⟩) h1]; exact h3 o ho⟩
theorem BsNew.spot {w : World} {base : Nat} {a : Option Addr} {n c : Nat} {l : List Bool} (h : BsNew w base (.slice a n c) l) (hb : base ≤ w.heap.size) {X : Nat} (hX : X < w.heap.size) (hap : ∀ Q, (Value.slice a n c).ownBlock = some Q → l = [] ∨ Q ≠ X) : ∃ g off, base ≤ g ∧ SpotBs w a g off l ∧ X ≠ g := by
  rcases h with ⟨e, _⟩ | ⟨g, off, cap, e, h1, h2, h3, h4⟩
  · exact ⟨w.heap.size, 0, hb, .inl e, by omega⟩
  · simp only [Value.slice.injEq] at e
    obtain ⟨rfl, rfl, rfl⟩ := e
    rcases hap g rfl with e | hne
    · exact ⟨w.heap.size, 0, hb, .inl e, by omega⟩
    · exact ⟨g, off, h1, .inr ⟨rfl, h2, h3, fun o _ => h4 o⟩, fun e => hne e.symm⟩
end Go.Proofs.Ytglbffjeakcgcaa
