/-
  Texts of one claim, one behind the other.
-/
import Derived.BigQuiet
import Derived.Deep.AppendLies
import Derived.Deep.CutBlock
import Derived.Deep.CutRange
import Derived.Deep.LoopGhost
import Derived.Deep.RegionHeld3
import Derived.Deep.RegionWith
import Derived.Laws.StructEq
import Derived.Lib.QuietBelow
import Derived.Shelf.Abstract
import Derived.Shelf.SlicesE.Kit
import Derived.WalkMore
import Derived.WalkSmall
import Derived.Test.YtmgidcigihpbeaaMgD
/-
  A list of numbers: in memory, of one's own, appended to, compared, marked, held.
-/
namespace Go.Proofs.Ytmgidcigihpbeaa
open Go.ChangeShapes Go.WideShapes Go.ChangeAt Go.RowKit Go.Sort
def NsAt (w : World) (b off : Nat) (l : List Int) : Prop := ∀ (i : Nat) x, l[i]? = some x → w.cell? ⟨b, off + i, none⟩ = some (.int .i64 x)
theorem NsAt.keep {w w' : World} {b off : Nat} {l : List Int} (h : NsAt w b off l) (hb : Below w.heap.size w w') : NsAt w' b off l := fun i x hx => by
  have p := h i x hx
  rw [hb.cell (block_lt_of_cell p)]; exact p
def NsIn (w : World) (a : Option Addr) (l : List Int) : Prop := l = [] ∨ ∃ b off, a = some ⟨b, off, none⟩ ∧ NsAt w b off l
theorem NsIn.keep {w w' : World} {a : Option Addr} {l : List Int} (h : NsIn w a l) (hb : Below w.heap.size w w') : NsIn w' a l := by
  rcases h with h | ⟨b, off, e, hat⟩
  · exact .inl h
  · exact .inr ⟨b, off, e, hat.keep hb⟩
def wNs (l : List Int) : List Value := l.map fun x => .int .i64 x
def OwnNs (w : World) (base : Nat) (v : Value) (l : List Int) : Prop := w.ownsRow base 2 1 v l.length (wNs l)
theorem OwnNs.none0 (w : World) (base : Nat) : OwnNs w base (.slice none 0 0) [] := World.ownsRow_nil _ _ _ _
theorem OwnNs.below {w w' : World} {base : Nat} {v : Value} {l : List Int} (h : OwnNs w base v l) (hb : Below w.heap.size w w') : OwnNs w' base v l := row_below h hb
theorem OwnNs.lower {w : World} {b0 base : Nat} {v : Value} {l : List Int} (h : OwnNs w base v l) (hb : b0 ≤ base) : OwnNs w b0 v l := row_lower h hb
theorem OwnNs.kept {w w' : World} {base : Nat} {v : Value} {l : List Int} {row : Option Nat} (h : OwnNs w base v l) (hg : w.grownBy w' row) (hne : v.ownBlock = none ∨ v.ownBlock ≠ row) : OwnNs w' base v l := World.ownsRow.kept h hg hne
theorem OwnNs.in {w : World} {base : Nat} {v : Value} {l : List Int} (h : OwnNs w base v l) : ∃ a c, v = .slice a l.length c ∧ l.length ≤ c ∧ NsIn w a l := by
  have h0 := h
  obtain ⟨_, h1 | ⟨g, c, cur, rfl, _, _, hc, _⟩⟩ := h
  · have e : l = [] := List.eq_nil_of_length_eq_zero h1.2
    subst e
    exact ⟨none, 0, h1.1, Nat.le_refl _, .inl rfl⟩
  · refine ⟨_, c, rfl, hc, .inr ⟨g, 0, rfl, fun i x hx => ?_⟩⟩
    have hi := (List.getElem?_eq_some_iff.1 hx).1
    have c1 := World.ownsRow.cellAt h0 i (by omega)
    rw [Nat.zero_add, c1]
    unfold wNs
    rw [List.getElem?_map, hx]
    rfl
def NsNew (w : World) (base : Nat) (v : Value) (l : List Int) : Prop := (l = [] ∧ ∃ a c, v = .slice a 0 c) ∨ ∃ g off cap, v = .slice (some ⟨g, off, none⟩) l.length cap ∧ base ≤ g ∧ g < w.heap.size ∧ NsAt w g off l ∧ ∀ o, w.frozen? ⟨g, o, none⟩ = false
theorem NsNew.in {w : World} {base : Nat} {v : Value} {l : List Int} (h : NsNew w base v l) : ∃ a c, v = .slice a l.length c ∧ NsIn w a l := by
  rcases h with ⟨rfl, a, c, rfl⟩ | ⟨g, off, cap, rfl, _, _, h, _⟩
  · exact ⟨a, c, rfl, .inl rfl⟩
  · exact ⟨_, _, rfl, .inr ⟨g, off, rfl, h⟩⟩
theorem NsNew.keep {w w' : World} {base : Nat} {v : Value} {l : List Int} (h : NsNew w base v l) (hb : Below w.heap.size w w') : NsNew w' base v l := by
  rcases h with h | ⟨g, off, cap, e, h1, h2, h3, h4⟩
  · exact .inl h
  · exact .inr ⟨g, off, cap, e, h1, Nat.lt_of_lt_of_le h2 hb.size, h3.keep hb, fun o => by rw [hb.frozen (p := ⟨g, o, none⟩) h2]; exact h4 o⟩
theorem NsNew.lower {w : World} {b0 base : Nat} {v : Value} {l : List Int} (h : NsNew w base v l) (hb : b0 ≤ base) : NsNew w b0 v l := by
  rcases h with h | ⟨g, off, cap, e, h1, h2⟩
  · exact .inl h
  · exact .inr ⟨g, off, cap, e, by omega, h2⟩
theorem NsNew.nil (w : World) (base : Nat) (a : Option Addr) (c : Nat) : NsNew w base (.slice a 0 c) [] := .inl ⟨rfl, a, c, rfl⟩
theorem NsNew.gb {g : Nat} {w w' : World} {base : Nat} {v : Value} {l : List Int} (h : NsNew w base v l) (k : w.grownBy w' (some g)) (hne : ∀ G, v.ownBlock = some G → l = [] ∨ G ≠ g) : NsNew w' base v l := by
  rcases h with h | ⟨G, off, cap, rfl, h1, h2, h3, h4⟩
  · exact .inl h
  · rcases hne G rfl with e | hn
    · subst e; exact .inl ⟨rfl, _, _, rfl⟩
    · exact .inr ⟨G, off, cap, rfl, h1, Nat.lt_of_lt_of_le h2 k.size, fun i x hx => by rw [gwCell k _ h2 hn]; exact h3 i x hx, fun o => by rw [gwFrozen k _ h2 hn]; exact h4 o⟩
theorem NsNew.gb2 {g : Nat} {w w' : World} {base : Nat} {v : Value} {l : List Int} (h : NsNew w base v l) (k : w.grownBy w' (some g)) (hne : g < base) : NsNew w' base v l := by
  rcases h with h | ⟨G, off, cap, rfl, h1, h2, h3, h4⟩
  · exact .inl h
  · exact NsNew.gb (.inr ⟨G, off, cap, rfl, h1, h2, h3, h4⟩) k (fun G' hG => by simp only [Value.ownBlock, Option.some.injEq] at hG; right; omega)
theorem NsNew.apart {w : World} {base : Nat} {v : Value} {l : List Int} (h : NsNew w base v l) {X : Nat} (hX : X < base ∨ w.heap.size ≤ X) : ∀ Q, v.ownBlock = some Q → l = [] ∨ Q ≠ X := by
  intro Q hQ
  rcases h with ⟨e, _⟩ | ⟨g, off, cap, rfl, h1, h2, _⟩
  · exact .inl e
  · simp only [Value.ownBlock, Option.some.injEq] at hQ
    right; omega
theorem OwnNs.new {w : World} {base : Nat} {v : Value} {l : List Int} (h : OwnNs w base v l) : NsNew w base v l := by
  obtain ⟨a, c, e, _, hi⟩ := h.in
  obtain ⟨_, h1 | ⟨g, c', cur, rfl, hg, hh, _⟩⟩ := h
  · have e0 : l = [] := List.eq_nil_of_length_eq_zero h1.2
    exact .inl ⟨e0, none, 0, h1.1⟩
  · simp only [Value.slice.injEq, true_and] at e
    obtain ⟨rfl, rfl⟩ := e
    rcases hi with hi | ⟨b, off, e2, hat⟩
    · exact .inl ⟨hi, some ⟨g, 0, none⟩, c', by rw [hi]; rfl⟩
    · simp only [Option.some.injEq, Addr.mk.injEq, and_true] at e2
      obtain ⟨rfl, rfl⟩ := e2
      exact .inr ⟨g, 0, c', rfl, hg, (Array.getElem?_eq_some_iff.1 hh).1, hat, fun o => by simp [World.frozen?, hh]⟩
theorem infoNs : (Try.prog.info? 2).map (fun i => (i.zero, i.size, i.bytes)) = some (some (.int .i64 0), 1, 8) := by kernel_rfl
theorem wpList_append1Ns {ops : Array Oper} {rest : List Oper} {o : Oper} {a : Act} {Q : Exit → Act → World → Prop} (w : World) (hgd : o.guard = none) (s x : Operand)
    (ho : o.op = .call { callee := .builtin .append, args := #[s, x], argTypes := #[43, 43] }) (base : Nat) (v : Value) (l : List Int) (r : Int)
    (hs : a.eval s = v) (hx : a.eval x = .slice (some ⟨w.heap.size, 0, none⟩) 1 1) (hown : OwnNs w base v l) (hl : l.length ≤ 2000000) (hbase : base ≤ w.heap.size)
    (h : ∀ g cap w', OwnNs w' base (.slice (some ⟨g, 0, none⟩) (l.length + 1) cap) (l ++ [r]) → w.grownBy w' v.ownBlock → (v.ownBlock = some g ∨ w.heap.size ≤ g) → wpList Try.prog ops Q rest (a.put o.dst (.slice (some ⟨g, 0, none⟩) (l.length + 1) cap)) w') :
    wpList Try.prog ops Q (o :: rest) a (w.alloc (.cells #[.int .i64 r] 2)) := by
  obtain ⟨i0, hi, hz0, hz1, hz2⟩ := info_parts infoNs
  refine wpList_append_lies _ hgd s x 43 ho base 2 i0 (.int .i64 0) 1 8 Try.underlying43 hi hz0 hz1 hz2 rfl (by decide) v l.length (wNs l) hs (World.ownsRow.alloc hown _) ⟨w.heap.size, 0, none⟩ 1 1 [.int .i64 r] hx rfl ?_ ?_ (by decide) ?_ ?_ ?_ _ rfl ?_
  · intro j u hj
    match j, hj with
    | 0, hj => simp at hj; subst hj; simp [Addr.add]
  · intro u hu; simp at hu; subst hu; rfl
  · unfold maxLen; omega
  · omega
  · simp; omega
  · intro g cap w' h1 h2 h3 _
    refine h g cap w' ?_ ?_ ?_
    · unfold OwnNs
      rw [List.length_append, show wNs (l ++ [r]) = wNs l ++ [.int .i64 r] by simp [wNs]]
      exact h1
    · have hb := (Below.refl w.heap.size w).alloc (Nat.le_refl _) (.cells #[.int .i64 r] 2)
      exact ⟨h2.os.trans hb.os, h2.tape.trans hb.tape, h2.output.trans hb.output, Nat.le_trans hb.size h2.size, fun q hq hn => (h2.block q (Nat.lt_of_lt_of_le hq hb.size) hn).trans (hb.block q hq)⟩
    · rcases h3 with h3 | h3
      · exact .inl h3
      · right; rw [h3]; simp
def mkdNs : Nat → List Int → List Int
  | _, [] => []
  | k, _ :: l => (k : Int) :: mkdNs (k + 1) l
theorem mkdNs_len : ∀ (l : List Int) (k : Nat), (mkdNs k l).length = l.length
  | [], _ => rfl
  | _ :: l, k => by rw [mkdNs, List.length_cons, mkdNs_len l, List.length_cons]
theorem mkdNs_at : ∀ (l : List Int) (k i : Nat), i < l.length → (mkdNs k l)[i]? = some ((k + i : Nat) : Int)
  | [], _, _, h => by simp at h
  | x :: l, k, 0, _ => by simp [mkdNs]
  | x :: l, k, i + 1, h => by
    rw [mkdNs, List.getElem?_cons_succ, mkdNs_at l (k + 1) i (by simpa using h), show k + 1 + i = k + (i + 1) by omega]
theorem mkdNs_append : ∀ (A B : List Int) (k : Nat), mkdNs k (A ++ B) = mkdNs k A ++ mkdNs (k + A.length) B
  | [], B, k => by simp [mkdNs]
  | x :: A, B, k => by rw [List.cons_append, mkdNs, mkdNs, List.cons_append, mkdNs_append A B (k + 1), List.length_cons, show k + 1 + A.length = k + (A.length + 1) by omega]
theorem NsAt.mark1 {w : World} {g off k i : Nat} {l : List Int} (h : NsAt w g off (mkdNs k (l.take i) ++ l.drop i)) (hi : i < l.length) :
    NsAt (w.setCell ⟨g, off + i, none⟩ (.int .i64 ((k + i : Nat) : Int))) g off (mkdNs k (l.take (i + 1)) ++ l.drop (i + 1)) := by
  have len : (mkdNs k (l.take i) ++ l.drop i).length = l.length := by rw [List.length_append, mkdNs_len, ← List.length_append, List.take_append_drop]
  have lti : (l.take i).length = i := by rw [List.length_take]; omega
  have ne : ∀ q : Nat, q ≠ i → (⟨g, off + i, none⟩ : Addr) ≠ ⟨g, off + q, none⟩ := fun q hq e => by have := congrArg Addr.off e; simp at this; omega
  intro q r hr
  have e1 : l.take (i + 1) = l.take i ++ [l[i]] := List.take_succ_eq_append_getElem hi
  rw [e1, mkdNs_append, lti, List.append_assoc] at hr
  by_cases h1 : q < i
  · rw [List.getElem?_append_left (by rw [mkdNs_len, lti]; exact h1)] at hr
    rw [World.cell?_setCell_other _ _ _ _ (ne q (by omega))]
    exact h q r (by rw [List.getElem?_append_left (by rw [mkdNs_len, lti]; exact h1)]; exact hr)
  · rw [List.getElem?_append_right (by rw [mkdNs_len, lti]; omega), mkdNs_len, lti] at hr
    by_cases h2 : q = i
    · subst h2
      rw [Nat.sub_self] at hr
      simp only [mkdNs, List.singleton_append, List.getElem?_cons_zero, Option.some.injEq] at hr
      subst hr
      obtain ⟨u, hu⟩ : ∃ u, (mkdNs k (l.take q) ++ l.drop q)[q]? = some u := ⟨_, List.getElem?_eq_getElem (by rw [len]; exact hi)⟩
      exact World.cell?_setCell_same _ _ _ (h q u hu)
    · rw [World.cell?_setCell_other _ _ _ _ (ne q h2)]
      refine h q r ?_
      rw [List.getElem?_append_right (by rw [mkdNs_len, lti]; omega), mkdNs_len, lti, List.drop_eq_getElem_cons hi]
      obtain ⟨d, hd⟩ : ∃ d, q - i = d + 1 := ⟨q - i - 1, by omega⟩
      rw [hd] at hr ⊢
      simp [mkdNs] at hr ⊢
      rw [show i + (d + 1) = i + 1 + d by omega]
      exact hr
def SpotNs (w : World) (a : Option Addr) (g off : Nat) (l : List Int) : Prop := l = [] ∨ (a = some ⟨g, off, none⟩ ∧ g < w.heap.size ∧ NsAt w g off l ∧ ∀ o, o < off + l.length → w.frozen? ⟨g, o, none⟩ = false)
theorem SpotNs.keep {w w' : World} {a : Option Addr} {g off : Nat} {l : List Int} (h : SpotNs w a g off l) (hb : Below w.heap.size w w') : SpotNs w' a g off l := by
  rcases h with h | ⟨e, h1, h2, h3⟩
  · exact .inl h
  · exact .inr ⟨e, Nat.lt_of_lt_of_le h1 hb.size, h2.keep hb, fun o ho => by rw [hb.frozen (p := ⟨g, o, none⟩) h1]; exact h3 o ho⟩
theorem NsNew.spot {w : World} {base : Nat} {a : Option Addr} {n c : Nat} {l : List Int} (h : NsNew w base (.slice a n c) l) (hb : base ≤ w.heap.size) {X : Nat} (hX : X < w.heap.size) (hap : ∀ Q, (Value.slice a n c).ownBlock = some Q → l = [] ∨ Q ≠ X) : ∃ g off, base ≤ g ∧ SpotNs w a g off l ∧ X ≠ g := by
  rcases h with ⟨e, _⟩ | ⟨g, off, cap, e, h1, h2, h3, h4⟩
  · exact ⟨w.heap.size, 0, hb, .inl e, by omega⟩
  · simp only [Value.slice.injEq] at e
    obtain ⟨rfl, rfl, rfl⟩ := e
    rcases hap g rfl with e | hne
    · exact ⟨w.heap.size, 0, hb, .inl e, by omega⟩
    · exact ⟨g, off, h1, .inr ⟨rfl, h2, h3, fun o _ => h4 o⟩, fun e => hne e.symm⟩
end Go.Proofs.Ytmgidcigihpbeaa
/-
  Who goes, in plain words; two rows that grow.
-/
namespace Go.Proofs.Ytmgidcigihpbeaa
open Go.ChangeShapes Go.WideShapes Go.ChangeAt Go.RowKit Go.Sort
structure ExQ where
  c : Int
  y : Int
  l : List Wt
  i : List Int
/-- Where the two lists of an answer lie. -/
structure R4 where
  a : Option Addr
  c : Nat
  i : Option Addr
  k : Nat
/-- Two lists of one's own, in blocks of their own. -/
def XN (w : World) (base : Nat) (r : R4) (m : Nat) (ql : List Wt) (mi : Nat) (qi : List Int) : Prop := WtNew w base (.slice r.a m r.c) ql ∧ NsNew w base (.slice r.i mi r.k) qi ∧ ∀ g h, (Value.slice r.a m r.c).ownBlock = some g → (Value.slice r.i mi r.k).ownBlock = some h → ql = [] ∨ qi = [] ∨ g ≠ h
def ExRes (w : World) (base : Nat) (q : ExQ) (e : Ending) : Prop := ∃ r : R4, e = .returned (.agg #[.int .i64 q.c, .int .i64 q.y, .slice r.a q.l.length r.c, .slice r.i q.i.length r.k]) ∧ XN w base r q.l.length q.l q.i.length q.i ∧ q.l.length ≤ r.c
theorem ExRes.mk {w : World} {base : Nat} {q : ExQ} {c0 y : Int} {a i : Option Addr} {n cp m k : Nat} {l : List Wt} {ii : List Int} (h : q = ⟨c0, y, l, ii⟩) (hn : l.length = n) (hm : ii.length = m) (hx : XN w base ⟨a, cp, i, k⟩ n l m ii) (hc : n ≤ cp) : ExRes w base q (.returned (.agg #[.int .i64 c0, .int .i64 y, .slice a n cp, .slice i m k])) := by
  subst h; subst hn; subst hm
  exact ⟨⟨a, cp, i, k⟩, rfl, hx, hc⟩
theorem XN.nil (w : World) (base : Nat) : XN w base ⟨none, 0, none, 0⟩ 0 [] 0 [] := ⟨WtNew.nil _ _ _ _, NsNew.nil _ _ _ _, fun _ _ _ _ => .inl rfl⟩
theorem XN.keep {w w' : World} {base : Nat} {r : R4} {m mi : Nat} {ql : List Wt} {qi : List Int} (h : XN w base r m ql mi qi) (hb : Below w.heap.size w w') : XN w' base r m ql mi qi := ⟨h.1.keep hb, h.2.1.keep hb, h.2.2⟩
theorem XN.lower {w : World} {b0 base : Nat} {r : R4} {m mi : Nat} {ql : List Wt} {qi : List Int} (h : XN w base r m ql mi qi) (hb : b0 ≤ base) : XN w b0 r m ql mi qi := ⟨h.1.lower hb, h.2.1.lower hb, h.2.2⟩
theorem XN.gw2 {g : Nat} {w w' : World} {base : Nat} {r : R4} {m mi : Nat} {ql : List Wt} {qi : List Int} (h : XN w base r m ql mi qi) (k : w.grownBy w' (some g)) (hg : g < base) : XN w' base r m ql mi qi := ⟨h.1.gw2 k hg, h.2.1.gb2 k hg, h.2.2⟩
def goneW (now : Int) (l : List Wt) : List Int := (l.filter fun r => decide (r.du ≤ now)).map Wt.wi
def leftW (now : Int) (l : List Wt) : List Wt := l.filter fun r => !decide (r.du ≤ now)
def withoutW (l : List Wt) (ids : List Int) : List Wt := l.filter fun r => !(ids.any fun x => decide (r.wi = x))
theorem goneW_take {now : Int} {l : List Wt} {k : Nat} {r : Wt} (hr : l[k]? = some r) : goneW now (l.take (k + 1)) = goneW now (l.take k) ++ (if r.du ≤ now then [r.wi] else []) := by
  obtain ⟨hk, rfl⟩ := List.getElem?_eq_some_iff.1 hr
  rw [List.take_succ_eq_append_getElem hk, goneW, goneW, List.filter_append, List.map_append]
  by_cases h : l[k].du ≤ now <;> simp [List.filter, h]
theorem leftW_take {now : Int} {l : List Wt} {k : Nat} {r : Wt} (hr : l[k]? = some r) : leftW now (l.take (k + 1)) = leftW now (l.take k) ++ (if r.du ≤ now then [] else [r]) := by
  obtain ⟨hk, rfl⟩ := List.getElem?_eq_some_iff.1 hr
  rw [List.take_succ_eq_append_getElem hk, leftW, leftW, List.filter_append]
  by_cases h : l[k].du ≤ now <;> simp [List.filter, h]
theorem withoutW_take {l : List Wt} {ids : List Int} {k : Nat} {r : Wt} (hr : l[k]? = some r) : withoutW (l.take (k + 1)) ids = withoutW (l.take k) ids ++ (if (ids.any fun x => decide (r.wi = x)) = true then [] else [r]) := by
  obtain ⟨hk, rfl⟩ := List.getElem?_eq_some_iff.1 hr
  rw [List.take_succ_eq_append_getElem hk, withoutW, withoutW, List.filter_append]
  cases h : (ids.any fun x => decide (l[k].wi = x)) <;> simp [List.filter, h]
theorem goneW_len (now : Int) (l : List Wt) : (goneW now l).length ≤ l.length := by rw [goneW, List.length_map]; exact List.length_filter_le _ _
theorem leftW_len (now : Int) (l : List Wt) : (leftW now l).length ≤ l.length := List.length_filter_le _ _
theorem withoutW_len (l : List Wt) (ids : List Int) : (withoutW l ids).length ≤ l.length := List.length_filter_le _ _
theorem nodupW_same {l : List Wt} (h : nodupW l = true) {r q : Wt} (hr : r ∈ l) (hq : q ∈ l) (e : r.wi = q.wi) : r = q := by
  obtain ⟨i, hi⟩ := List.getElem?_of_mem hr
  obtain ⟨j, hj⟩ := List.getElem?_of_mem hq
  rcases Nat.lt_trichotomy i j with h1 | h1 | h1
  · exact absurd e.symm ((nodupW_iff l).1 h j i q r h1 hj hi)
  · subst h1; rw [hi] at hj; exact Option.some.inj hj
  · exact absurd e ((nodupW_iff l).1 h i j r q h1 hi hj)
/-- Nobody has the number of somebody who goes and stays. -/
theorem without_gone {l : List Wt} (h : nodupW l = true) (now : Int) : withoutW l (goneW now l) = leftW now l := by
  unfold withoutW leftW
  apply List.filter_congr
  intro r hr
  congr 1
  by_cases hd : r.du ≤ now
  · rw [show decide (r.du ≤ now) = true by simpa using hd, List.any_eq_true]
    exact ⟨r.wi, List.mem_map.2 ⟨r, List.mem_filter.2 ⟨hr, by simpa using hd⟩, rfl⟩, by simp⟩
  · rw [show decide (r.du ≤ now) = false by simpa using hd, List.any_eq_false]
    intro x hx
    obtain ⟨q, hq, rfl⟩ := List.mem_map.1 hx
    obtain ⟨hq1, hq2⟩ := List.mem_filter.1 hq
    simp only [decide_eq_true_eq] at hq2 ⊢
    intro e
    rw [nodupW_same h hr hq1 e] at hd
    exact hd hq2
def expireR (y : Int) (l : List Wt) (s c t now : Int) : ExQ :=
  if blkC y l s c t = 0 then (if timeB now = true then ⟨0, y, leftW now l, goneW now l⟩ else ⟨3, 0, [], []⟩) else ⟨blkC y l s c t, 0, [], []⟩
def cancelR (y : Int) (l : List Wt) (s c t x : Int) : ExQ :=
  if blkC y l s c t = 0 then (if hasW l x = true then ⟨0, y, withoutW l [x], [x]⟩ else ⟨4, 0, [], []⟩) else ⟨blkC y l s c t, 0, [], []⟩
section
variable {y s c t now x : Int} {l : List Wt}
theorem expire_bad (h : ¬ blkC y l s c t = 0) : expireR y l s c t now = ⟨blkC y l s c t, 0, [], []⟩ := by rw [expireR, if_neg h]
theorem expire_range (h : blkC y l s c t = 0) (h1 : timeB now = false) : expireR y l s c t now = ⟨3, 0, [], []⟩ := by rw [expireR, if_pos h, if_neg (by rw [h1]; decide)]
theorem expire_ok (h : blkC y l s c t = 0) (h1 : timeB now = true) : expireR y l s c t now = ⟨0, y, leftW now l, goneW now l⟩ := by rw [expireR, if_pos h, if_pos h1]
theorem cancel_bad (h : ¬ blkC y l s c t = 0) : cancelR y l s c t x = ⟨blkC y l s c t, 0, [], []⟩ := by rw [cancelR, if_neg h]
theorem cancel_none (h : blkC y l s c t = 0) (h1 : hasW l x = false) : cancelR y l s c t x = ⟨4, 0, [], []⟩ := by rw [cancelR, if_pos h, if_neg (by rw [h1]; decide)]
theorem cancel_ok (h : blkC y l s c t = 0) (h1 : hasW l x = true) : cancelR y l s c t x = ⟨0, y, withoutW l [x], [x]⟩ := by rw [cancelR, if_pos h, if_pos h1]
theorem expireR_len (h : l.length ≤ 1048576) : (expireR y l s c t now).l.length ≤ 1048576 ∧ (expireR y l s c t now).i.length ≤ 1048576 := by
  have h1 := leftW_len now l
  have h2 := goneW_len now l
  unfold expireR
  split
  · split
    · exact ⟨by simp only; omega, by simp only; omega⟩
    · simp
  · simp
theorem cancelR_len (h : l.length ≤ 1048576) : (cancelR y l s c t x).l.length ≤ 1048576 ∧ (cancelR y l s c t x).i.length ≤ 1048576 := by
  have h1 := withoutW_len l [x]
  unfold cancelR
  split
  · split
    · exact ⟨by simp only; omega, by simp⟩
    · simp
  · simp
end
theorem wpList_appendGWt {ops : Array Oper} {rest : List Oper} {o : Oper} {a : Act} {Q : Exit → Act → World → Prop} (w : World) (hgd : o.guard = none) (s x : Operand)
    (ho : o.op = .call { callee := .builtin .append, args := #[s, x], argTypes := #[24, 24] }) (base : Nat) (v : Value) (l : List Wt) (r : Wt)
    (hs : a.eval s = v) (hx : a.eval x = .slice (some ⟨w.heap.size, 0, none⟩) 1 1) (hown : OwnWt w base v l) (hl : l.length ≤ 2000000) (hbase : base ≤ w.heap.size)
    (h : ∀ g cap w', OwnWt w' base (.slice (some ⟨g, 0, none⟩) (l.length + 1) cap) (l ++ [r]) → w.grownBy w' v.ownBlock → (v.ownBlock = some g ∨ w.heap.size ≤ g) → wpList Try.prog ops Q rest (a.put o.dst (.slice (some ⟨g, 0, none⟩) (l.length + 1) cap)) w') :
    wpList Try.prog ops Q (o :: rest) a (w.alloc (.cells #[.int .i64 r.wi, .int .i64 r.du] 40)) := by
  obtain ⟨i0, hi, hz0, hz1, hz2⟩ := info_parts infoWt
  refine wpList_append_lies _ hgd s x 24 ho base 40 i0 (.agg #[.int .i64 0, .int .i64 0]) 2 16 Try.underlying24 hi hz0 hz1 hz2 rfl (by decide) v l.length (wWt l) hs (World.ownsRow.alloc hown _) ⟨w.heap.size, 0, none⟩ 1 1 (cellWt r) hx rfl ?_ ?_ (by decide) ?_ ?_ ?_ _ rfl ?_
  · intro j u hj
    match j, hj with
    | 0, hj => simp [cellWt] at hj; subst hj; simp [Addr.add]
    | 1, hj => simp [cellWt] at hj; subst hj; simp [Addr.add]
  · intro u hu; simp [cellWt] at hu; rcases hu with rfl | rfl <;> rfl
  · unfold maxLen; omega
  · omega
  · simp; omega
  · intro g cap w' h1 h2 h3 _
    refine h g cap w' ?_ ?_ ?_
    · unfold OwnWt
      rw [List.length_append, show wWt (l ++ [r]) = wWt l ++ cellWt r by simp [wWt]]
      exact h1
    · have hb := (Below.refl w.heap.size w).alloc (Nat.le_refl _) (.cells #[.int .i64 r.wi, .int .i64 r.du] 40)
      exact ⟨h2.os.trans hb.os, h2.tape.trans hb.tape, h2.output.trans hb.output, Nat.le_trans hb.size h2.size, fun q hq hn => (h2.block q (Nat.lt_of_lt_of_le hq hb.size) hn).trans (hb.block q hq)⟩
    · rcases h3 with h3 | h3
      · exact .inl h3
      · right; rw [h3]; simp
/-- Two rows of one's own that grow, and boxes ahead of them. -/
structure XJ (w0 w : World) (base : Nat) (vl vi : Value) (L : List Wt) (I : List Int) : Prop where
  ol : OwnWt w base vl L
  oi : OwnNs w base vi I
  ap : ∀ q, vl.ownBlock = some q → vi.ownBlock ≠ some q
  lo : Below base w0 w
theorem XJ.tellL {w0 w w' : World} {base g cap n : Nat} {vl vi : Value} {L : List Wt} {I : List Int} {r : Wt} (h : XJ w0 w base vl vi L I) (hb : base ≤ w.heap.size) (h1 : OwnWt w' base (.slice (some ⟨g, 0, none⟩) n cap) (L ++ [r])) (h2 : w.grownBy w' vl.ownBlock) (h3 : vl.ownBlock = some g ∨ w.heap.size ≤ g) : XJ w0 w' base (.slice (some ⟨g, 0, none⟩) n cap) vi (L ++ [r]) I := by
  refine ⟨h1, ?_, ?_, h.lo.trans ⟨h2.os, h2.tape, h2.output, h2.size, fun k hk => h2.block k (by omega) (fun e => by have := row_ge h.ol k e.symm; omega)⟩⟩
  · refine OwnNs.kept h.oi h2 ?_
    cases e : vi.ownBlock with
    | none => exact .inl rfl
    | some q => right; intro e2; exact h.ap q e2.symm e
  · intro q hq e
    simp only [Value.ownBlock, Option.some.injEq] at hq
    subst hq
    rcases h3 with h3 | h3
    · exact h.ap _ h3 e
    · have := World.ownsRow.lt h.oi _ e; omega
theorem XJ.tellI {w0 w w' : World} {base g cap n : Nat} {vl vi : Value} {L : List Wt} {I : List Int} {x : Int} (h : XJ w0 w base vl vi L I) (hb : base ≤ w.heap.size) (h1 : OwnNs w' base (.slice (some ⟨g, 0, none⟩) n cap) (I ++ [x])) (h2 : w.grownBy w' vi.ownBlock) (h3 : vi.ownBlock = some g ∨ w.heap.size ≤ g) : XJ w0 w' base vl (.slice (some ⟨g, 0, none⟩) n cap) L (I ++ [x]) := by
  refine ⟨?_, h1, ?_, h.lo.trans ⟨h2.os, h2.tape, h2.output, h2.size, fun k hk => h2.block k (by omega) (fun e => by have := row_ge h.oi k e.symm; omega)⟩⟩
  · refine World.ownsRow.kept h.ol h2 ?_
    cases e : vl.ownBlock with
    | none => exact .inl rfl
    | some q => right; intro e2; exact h.ap q e e2.symm
  · intro q hq e
    simp only [Value.ownBlock, Option.some.injEq] at e
    subst e
    rcases h3 with h3 | h3
    · exact h.ap _ hq h3
    · have := World.ownsRow.lt h.ol _ hq; omega
end Go.Proofs.Ytmgidcigihpbeaa
/-
  What the model's slices.Equal over those who wait answers.
-/
namespace Go.Proofs.Ytmgidcigihpbeaa
open Go.ChangeShapes Go.WideShapes Go.ChangeAt Go.RowKit Go.Sort
def sameW (x y : Wt) : Bool := (x.wi == y.wi) && (x.du == y.du)
def sameWs : List Wt → List Wt → Bool
  | [], [] => true
  | x :: l, y :: m => sameW x y && sameWs l m
  | _, _ => false
theorem guardWait (op : BinOp) (a b : Operand) (x y : Array Value) (w : World) : (eqGuard op 40 a b (.agg x) (.agg y)).run Try.prog w = .ok () w := run_eqGuard_agg w op 40 a b x y (by kernel_rfl)
theorem neqWait (x y : Wt) (w : World) : (binOp .neq 40 (.agg #[.int .i64 x.wi, .int .i64 x.du]) (.agg #[.int .i64 y.wi, .int .i64 y.du])).run Try.prog w = .ok (.bool (!sameW x y)) w := by
  have u9 := Try.underlying2
  have a9 := Try.isAgg2
  have z9 := Try.sizeOf2
  have u8 := Try.underlying4
  have a8 := Try.isAgg4
  have z8 := Try.sizeOf4
  have hS : Try.prog.underlying 40 = some (.struct (Try.prog.fieldsOf 40)) := by kernel_rfl
  have hp : Try.prog.stoodInHeld 40 = false := by kernel_rfl
  obtain ⟨n1, v1⟩ := x
  obtain ⟨n2, v2⟩ := y
  simp only [sameW]
  rw [run_neq_struct, show (10000 : Nat) = 9999 + 1 from rfl, run_equalIn_agg w 9999 40 _ _ hS hp]
  simp only [Program.fieldsOf, Try.underlying40]
  go_simp
  by_cases e1 : n1 = n2 <;> by_cases e3 : v1 = v2 <;> simp [e1, e3]
theorem sameWs_lens : ∀ (l m : List Wt), l.length ≠ m.length → sameWs l m = false
  | [], [], h => absurd rfl h
  | [], _ :: _, _ => rfl
  | _ :: _, [], _ => rfl
  | x :: l, y :: m, h => by
    rw [sameWs, sameWs_lens l m (by simpa using h), Bool.and_false]
theorem sameWs_drop {l m : List Wt} {k : Nat} {x y : Wt} (hx : l[k]? = some x) (hy : m[k]? = some y) : sameWs (l.drop k) (m.drop k) = (sameW x y && sameWs (l.drop (k + 1)) (m.drop (k + 1))) := by
  rw [dropWt l k x hx, dropWt m k y hy, sameWs]
set_option maxRecDepth 100000 in
set_option maxHeartbeats 4000000 in
theorem equalWaits_any (w : World) (a b : Option Addr) (ca cb : Nat) (l m : List Wt) (hl : l.length ≤ 1048576) (h1 : WtIn w a l) (h2 : WtIn w b m) :
    Calls Try.prog 60 #[.slice a l.length ca, .slice b m.length cb] w fun e w' => e = .returned (.bool (sameWs l m)) ∧ Below w.heap.size w w' := by
  have H1 : Hid (WtIn w a l) := h1
  have H2 : Hid (WtIn w b m) := h2
  clear h1 h2
  by_cases hlen : l.length = m.length
  · have HM : Hid (m.length = l.length) := hlen.symm
    rw [← hlen]
    clear hlen
    generalize hn : l.length = n at *
    have HN : Hid (l.length = n) := hn
    clear hn
    go_enter Try.func60, Try.ntmps60
    go_wp2_with fail
    go_loopw [13] (fun i wr => ∃ k : Nat, k ≤ n ∧ i = .int .i64 k ∧ sameWs l m = sameWs (l.drop k) (m.drop k) ∧ Below w.heap.size w wr) (fun i _ => n - (intOf i).toNat)
    case atStart => exact ⟨0, Nat.zero_le _, rfl, rfl, Below.refl _ _⟩
    case round =>
      obtain ⟨k, hk, rfl, hs, hb⟩ := hrel
      have HS : Hid (sameWs l m = sameWs (l.drop k) (m.drop k)) := hs
      clear hs
      by_cases hlt : k < n
      · obtain ⟨x, hx⟩ : ∃ r, l[k]? = some r := ⟨l[k]'(by have := HN.out; omega), List.getElem?_eq_getElem _⟩
        obtain ⟨y, hy⟩ : ∃ r, m[k]? = some r := ⟨m[k]'(by have := HM.out; have := HN.out; omega), List.getElem?_eq_getElem _⟩
        rcases H1.out with h | ⟨b1, o1, rfl, at1⟩
        · subst h; simp at hx
        rcases H2.out with h | ⟨b2, o2, rfl, at2⟩
        · subst h; simp at hy
        obtain ⟨p1, p3⟩ := (at1.keep hb) k x hx
        obtain ⟨q1, q3⟩ := (at2.keep hb) k y hy
        have x1 := cell_regrown p1
        have x3 := cell_regrown p3
        have y1 := cell_regrown q1
        have y3 := cell_regrown q3
        have hne := neqWait x y
        have hgd := guardWait
        have HD : Hid (sameWs l m = (sameW x y && sameWs (l.drop (k + 1)) (m.drop (k + 1)))) := by show _ = _; rw [HS.out, sameWs_drop hx hy]
        have g0 : (0 : Int) ≤ k := by omega
        have g : (k : Int) < n := by omega
        clear hx hy p1 p3 q1 q3 at1 at2 HS
        generalize x.wi = xn at *
        generalize x.du = xv at *
        generalize y.wi = yn at *
        generalize y.du = yv at *
        cases hsame : sameW x y
        · rw [hsame] at hne
          have HE : Hid (sameWs l m = false) := by show _ = _; rw [HD.out, hsame, Bool.false_and]
          clear HD hsame
          simp only [Bool.not_false] at hne
          go_wp2_with fail
          refine wp_region_quiet_below (by kernel_rfl) (by kernel_rfl) ?_
          repeat (go_big_quiet_step (fail))
          refine wpQuiet_nil ?_
          intro w2 hw2
          have hbb : Below w.heap.size w w2 := by
            obtain ⟨⟨d, os⟩, rfl⟩ := hw2
            exact hb.trans ((below_regrown wr d os).mono hb.size)
          clear x1 x3 y1 y3 hne hgd hw2 hb
          go_wp2_with fail
          go_ret
          exact ⟨ret_bool HE.out.symm, hbb⟩
        · rw [hsame] at hne
          have HE : Hid (sameWs l m = sameWs (l.drop (k + 1)) (m.drop (k + 1))) := by show _ = _; rw [HD.out, hsame, Bool.true_and]
          clear HD hsame
          simp only [Bool.not_true] at hne
          go_wp2_with fail
          refine wp_region_quiet_below (by kernel_rfl) (by kernel_rfl) ?_
          repeat (go_big_quiet_step (fail))
          refine wpQuiet_nil ?_
          intro w2 hw2
          have hbb : Below w.heap.size w w2 := by
            obtain ⟨⟨d, os⟩, rfl⟩ := hw2
            exact hb.trans ((below_regrown wr d os).mono hb.size)
          clear x1 x3 y1 y3 hne hgd hw2 hb
          go_wp2_with fail
          go_roundw
          case rel => exact ⟨k + 1, by omega, by go_num, HE.out, hbb⟩
          case measure => simp [intOf]; omega
      · have HE : Hid (sameWs l m = true) := by
          show _ = _
          rw [HS.out, List.drop_of_length_le (by have := HN.out; omega), List.drop_of_length_le (by have := HM.out; have := HN.out; omega)]
          rfl
        clear HS
        go_wp2_with fail
        go_ret
        exact ⟨ret_bool HE.out.symm, hb⟩
  · have HE : Hid (sameWs l m = false) := sameWs_lens l m hlen
    have g : ¬ (l.length : Int) = (m.length : Int) := by omega
    have g2 : ((l.length : Int) != (m.length : Int)) = true := by simpa using g
    clear H1 H2
    generalize l.length = n at *
    generalize m.length = n2 at *
    go_enter Try.func60, Try.ntmps60
    go_wp2_with fail
    go_ret
    exact ⟨ret_bool HE.out.symm, Below.refl _ _⟩
end Go.Proofs.Ytmgidcigihpbeaa
/-
  SameBulks, on both sides.
-/
namespace Go.Proofs.Ytmgidcigihpbeaa
open Go.ChangeShapes Go.WideShapes Go.ChangeAt Go.RowKit Go.Sort
def sameB (y1 : Int) (l1 : List Wt) (y2 : Int) (l2 : List Wt) : Bool := decide (y1 = y2) && sameWs l1 l2
set_option maxHeartbeats 4000000 in
theorem implSameB_any (w : World) (y1 : Int) (a1 : Option Addr) (c1 : Nat) (l1 : List Wt) (y2 : Int) (a2 : Option Addr) (c2 : Nat) (l2 : List Wt) (hl : l1.length ≤ 1048576) (h1 : WtIn w a1 l1) (h2 : WtIn w a2 l2) :
    Calls Try.prog 24 #[.agg #[.int .i64 y1, .slice a1 l1.length c1], .agg #[.int .i64 y2, .slice a2 l2.length c2]] w fun e w' => e = .returned (.bool (sameB y1 l1 y2 l2)) ∧ Below w.heap.size w w' := by
  have HQ : Hid (∀ X, Below w.heap.size w X → Calls Try.prog 60 #[.slice a1 l1.length c1, .slice a2 l2.length c2] X fun e w' => e = .returned (.bool (sameWs l1 l2)) ∧ Below X.heap.size X w') := fun X hb => equalWaits_any X a1 a2 c1 c2 l1 l2 hl (h1.keep hb) (h2.keep hb)
  clear h1 h2 hl
  by_cases hs : y1 = y2
  rotate_left
  · have HE : Hid (sameB y1 l1 y2 l2 = false) := by show _ = _; simp [sameB, hs]
    have g : (y1 == y2) = false := by simpa using hs
    clear HQ
    generalize sameB y1 l1 y2 l2 = b at *
    generalize l1.length = n1 at *
    generalize l2.length = n2 at *
    go_enter Try.func24, Try.ntmps24
    go_wp2_with fail
    go_ret
    exact ⟨ret_bool HE.out.symm, ((Below.refl _ _).alloc (Nat.le_refl _) _).alloc (by simp) _⟩
  subst hs
  have HE : Hid (sameB y1 l1 y1 l2 = sameWs l1 l2) := by show _ = _; simp [sameB]
  generalize sameB y1 l1 y1 l2 = b at *
  generalize sameWs l1 l2 = m at *
  generalize l1.length = n1 at *
  generalize l2.length = n2 at *
  go_enter Try.func24, Try.ntmps24
  go_wp2_with fail
  refine (HQ.out _ (((Below.refl _ _).alloc (Nat.le_refl _) _).alloc (by simp) _)).mono ?_
  rintro e w1 ⟨rfl, hb⟩
  have HB : Hid (Below w.heap.size w w1) := (((Below.refl _ _).alloc (Nat.le_refl _) _).alloc (by simp) _).trans (hb.mono (by simp; omega))
  clear hb HQ
  go_wp2_with fail
  go_ret
  exact ⟨ret_bool HE.out.symm, HB.out⟩
end Go.Proofs.Ytmgidcigihpbeaa
/-
  A bulkhead whose time goes by, and one of which somebody is called off.
-/
namespace Go.Proofs.Ytmgidcigihpbeaa
theorem sub_blk {y s c t : Int} {l m : List Wt} (h : blkC y l s c t = 0) (hs : m.Sublist l) : blkC y m s c t = 0 := by
  obtain ⟨b1, b2, b3, b4, b5⟩ := blkC_of h
  have hl := hs.length_le
  refine blkC_ok b1 b2 (by omega) ?_ ?_
  · unfold waitsB at b4 ⊢
    rw [List.all_eq_true] at b4 ⊢
    exact fun x hx => b4 x (hs.subset hx)
  · simp only [nodupW, decide_eq_true_eq] at b5 ⊢
    exact (hs.map _).nodup b5
theorem part_len (now : Int) : ∀ l : List Wt, (goneW now l).length + (leftW now l).length = l.length
  | [] => rfl
  | r :: l => by
    have h := part_len now l
    unfold goneW leftW at h ⊢
    by_cases hd : r.du ≤ now
    · simp [List.filter, hd] at h ⊢; omega
    · simp [List.filter, hd] at h ⊢; omega
theorem wo_all (x : Int) : ∀ l : List Wt, x ∉ l.map Wt.wi → withoutW l [x] = l := by
  intro l h
  unfold withoutW
  rw [List.filter_eq_self]
  intro r hr
  have : r.wi ≠ x := fun e => h (List.mem_map.2 ⟨r, hr, e⟩)
  simp [this]
theorem wo_len (x : Int) : ∀ l : List Wt, (l.map Wt.wi).Nodup → hasW l x = true → (withoutW l [x]).length + 1 = l.length
  | [], _, h => by simp [hasW] at h
  | r :: l, hn, h => by
    simp only [List.map_cons, List.nodup_cons] at hn
    by_cases e : r.wi = x
    · have h2 := wo_all x l (by rw [← e]; exact hn.1)
      unfold withoutW at h2 ⊢
      have e2 : (!([x].any fun z => decide (r.wi = z))) = false := by simp [e]
      rw [List.filter_cons_of_neg (by rw [e2]; decide), h2]
      rfl
    · have h2 : hasW l x = true := by simpa [hasW, e] using h
      have h3 := wo_len x l hn.2 h2
      unfold withoutW at h3 ⊢
      have e2 : (!([x].any fun z => decide (r.wi = z))) = true := by simp [e]
      rw [List.filter_cons]
      simp only [e2, if_true, List.length_cons]
      omega
structure ExOk (y : Int) (l : List Wt) (s c t now : Int) (E : ExQ) : Prop where
  blk : blkC E.y E.l s c t = 0
  len : E.i.length + E.l.length = l.length
  due : ∀ (k : Nat) r, E.l[k]? = some r → now < r.du
  l8 : E.l.length ≤ 8
  again : (expireR E.y E.l s c t now).i = []
theorem expire_fine {y s c t now : Int} {l : List Wt} (h : (expireR y l s c t now).c = 0) : ExOk y l s c t now (expireR y l s c t now) := by
  by_cases h0 : blkC y l s c t = 0
  · cases h1 : timeB now with
    | false => rw [expire_range h0 h1] at h; cases h
    | true =>
      rw [expire_ok h0 h1]
      have g := goodB_of h0
      have hsub : (leftW now l).Sublist l := List.filter_sublist
      have hb := sub_blk h0 hsub
      have h8 := leftW_len now l
      have hd : ∀ (k : Nat) r, (leftW now l)[k]? = some r → now < r.du := fun k r hr => by
        have := (List.mem_filter.1 (List.mem_of_getElem? hr)).2
        simpa using this
      refine ⟨hb, part_len now l, hd, by have := g.hl; have := g.hc; show (leftW now l).length ≤ 8; omega, ?_⟩
      show (expireR y (leftW now l) s c t now).i = []
      rw [expire_ok hb h1]
      show goneW now (leftW now l) = []
      unfold goneW
      rw [List.map_eq_nil_iff, List.filter_eq_nil_iff]
      intro r hr
      obtain ⟨j, hj⟩ := List.getElem?_of_mem hr
      have := hd j r hj
      simp; omega
  · rw [expire_bad h0] at h
    exact absurd h h0
structure CaOk (y : Int) (l : List Wt) (s c t x : Int) (C : ExQ) : Prop where
  len : C.l.length + 1 = l.length
  l8 : C.l.length ≤ 8
  again : (cancelR C.y C.l s c t x).c = 4
  same : sameB C.y C.l y l = false
theorem cancel_fine {y s c t x : Int} {l : List Wt} (h : (cancelR y l s c t x).c = 0) : CaOk y l s c t x (cancelR y l s c t x) := by
  by_cases h0 : blkC y l s c t = 0
  · cases h1 : hasW l x with
    | false => rw [cancel_none h0 h1] at h; cases h
    | true =>
      rw [cancel_ok h0 h1]
      have g := goodB_of h0
      have hn := g.hn
      simp only [nodupW, decide_eq_true_eq] at hn
      have hlen := wo_len x l hn h1
      have hsub : (withoutW l [x]).Sublist l := List.filter_sublist
      have hb := sub_blk h0 hsub
      have hno : hasW (withoutW l [x]) x = false := hasW_no fun j r hr => by
        have := (List.mem_filter.1 (List.mem_of_getElem? hr)).2
        simpa using this
      refine ⟨hlen, by have := g.hl; have := g.hc; show (withoutW l [x]).length ≤ 8; omega, ?_, ?_⟩
      · show (cancelR y (withoutW l [x]) s c t x).c = 4
        rw [cancel_none hb hno]
      · show sameB y (withoutW l [x]) y l = false
        rw [sameB, sameWs_lens _ _ (by omega)]
        simp
  · rw [cancel_bad h0] at h
    exact absurd h h0
end Go.Proofs.Ytmgidcigihpbeaa
/-
  The program's small functions over those who wait.
-/
namespace Go.Proofs.Ytmgidcigihpbeaa
open Go.ChangeShapes Go.WideShapes Go.ChangeAt Go.RowKit Go.Sort
/-- A function value tells of those who wait whether they are meant, whatever world follows w. -/
structure PredW (w : World) (g : Nat) (lb : Array Value) (p : Wt → Bool) : Prop where
  eg : ∀ args X, (callFunc g args).run Try.prog X = .ok (.enter g args) X
  call : ∀ X, Below w.heap.size w X → ∀ r : Wt, Calls Try.prog g (#[.agg #[.int .i64 r.wi, .int .i64 r.du]] ++ lb) X fun e X' => e = .returned (.bool (p r)) ∧ Below X.heap.size X X'
theorem PredW.later {w w' : World} {g : Nat} {lb : Array Value} {p : Wt → Bool} (h : PredW w g lb p) (hb : Below w.heap.size w w') : PredW w' g lb p := ⟨h.eg, fun X hX => h.call X (hb.trans (hX.mono hb.size))⟩
def IdxW (p : Wt → Bool) (l : List Wt) (e : Ending) : Prop := (∃ k : Nat, e = .returned (.int .i64 (k : Int)) ∧ k ≤ 1048576 ∧ l.any p = true) ∨ (e = .returned (.int .i64 (-1)) ∧ l.any p = false)
theorem anyW_of {p : Wt → Bool} {l : List Wt} {k : Nat} {r : Wt} (hr : l[k]? = some r) (h : p r = true) : l.any p = true := List.any_eq_true.2 ⟨r, List.mem_of_getElem? hr, h⟩
theorem anyW_no {p : Wt → Bool} {l : List Wt} (h : ∀ (j : Nat) x, l[j]? = some x → p x = false) : l.any p = false := by
  rw [List.any_eq_false]
  intro x hx
  obtain ⟨i, hi⟩ := List.getElem?_of_mem hx
  rw [h i x hi]; decide
set_option maxRecDepth 100000 in
set_option maxHeartbeats 4000000 in
theorem indexWt_any (w : World) (g : Nat) (lb : Array Value) (p : Wt → Bool) (a : Option Addr) (cap : Nat) (l : List Wt) (hl : l.length ≤ 1048576) (hi : WtIn w a l) (PH : PredW w g lb p) :
    Calls Try.prog 93 #[.slice a l.length cap, .func (.func g) #[] lb] w fun e w' => IdxW p l e ∧ Below w.heap.size w w' := by
  have HI : Hid (WtIn w a l) := hi
  have HP : Hid (∀ X, Below w.heap.size w X → ∀ r : Wt, Calls Try.prog g (#[.agg #[.int .i64 r.wi, .int .i64 r.du]] ++ lb) X fun e X' => e = .returned (.bool (p r)) ∧ Below X.heap.size X X') := PH.call
  have eg := PH.eg
  clear hi PH
  obtain ⟨n, hn⟩ : ∃ n, l.length = n := ⟨_, rfl⟩
  rw [hn] at hl ⊢
  have HN : Hid (l.length = n) := hn
  clear hn
  go_enter Try.func93, Try.ntmps93
  go_wp2_with fail
  go_loopw [8] (fun i wr => ∃ k : Nat, k ≤ n ∧ i = .int .i64 k ∧ (∀ (j : Nat) x, j < k → l[j]? = some x → p x = false) ∧ Below w.heap.size w wr) (fun i _ => n - (intOf i).toNat)
  case atStart => exact ⟨0, Nat.zero_le _, rfl, fun j x h => by omega, Below.refl _ _⟩
  case round =>
    obtain ⟨k, hk, rfl, hA, hb⟩ := hrel
    have HA : Hid (∀ (j : Nat) x, j < k → l[j]? = some x → p x = false) := hA
    clear hA
    by_cases hlt : k < n
    · obtain ⟨r, hr⟩ : ∃ r, l[k]? = some r := ⟨l[k]'(by have := HN.out; omega), List.getElem?_eq_getElem _⟩
      rcases (HI.out.keep hb) with h | ⟨b, off, rfl, hat⟩
      · subst h; simp at hr
      obtain ⟨p0, p1⟩ := hat k r hr
      have CP := HP.out wr hb r
      have gk : (k : Int) < n := by omega
      have gk0 : (0 : Int) ≤ k := by omega
      have HB : Hid (Below w.heap.size w wr) := hb
      cases he : p r
      · rw [he] at CP
        have HF : Hid (∀ (j : Nat) x, j < k + 1 → l[j]? = some x → p x = false) := by
          intro j x hj hjx
          by_cases e : j = k
          · subst e; rw [hr] at hjx; obtain rfl := Option.some.inj hjx; exact he
          · exact HA.out j x (by omega) hjx
        clear hr hat hb HA HI he HP
        generalize r.wi = rt at *
        generalize r.du = rg at *
        go_wp2_with (go_at_fn g; refine CP.mono ?_; rintro e w2 ⟨rfl, hb2⟩)
        go_roundw
        case rel => exact ⟨k + 1, by omega, by go_num, HF.out, HB.out.trans (hb2.mono HB.out.size)⟩
        case measure => simp [intOf]; omega
      · rw [he] at CP
        have HF : Hid (IdxW p l (.returned (.int .i64 (k : Int)))) := .inl ⟨k, rfl, by omega, anyW_of hr he⟩
        clear hr hat hb HA HI he HP
        generalize r.wi = rt at *
        generalize r.du = rg at *
        go_wp2_with (go_at_fn g; refine CP.mono ?_; rintro e w2 ⟨rfl, hb2⟩)
        go_ret
        exact ⟨HF.out, HB.out.trans (hb2.mono HB.out.size)⟩
    · have HF : Hid (IdxW p l (.returned (.int .i64 (-1)))) := .inr ⟨rfl, anyW_no fun j x hx => HA.out j x (by have := (List.getElem?_eq_some_iff.1 hx).1; have := HN.out; omega) hx⟩
      have HB : Hid (Below w.heap.size w wr) := hb
      clear HA hb HP HN HI
      go_wp2_with fail
      go_ret
      exact ⟨HF.out, HB.out⟩
set_option maxHeartbeats 400000 in
theorem containsWt_any (w : World) (g : Nat) (lb : Array Value) (p : Wt → Bool) (a : Option Addr) (cap : Nat) (l : List Wt) (hl : l.length ≤ 1048576) (hi : WtIn w a l) (PH : PredW w g lb p) :
    Calls Try.prog 81 #[.slice a l.length cap, .func (.func g) #[] lb] w fun e w' => e = .returned (.bool (l.any p)) ∧ Below w.heap.size w w' := by
  have HC : Hid (Calls Try.prog 93 #[.slice a l.length cap, .func (.func g) #[] lb] w fun e w' => IdxW p l e ∧ Below w.heap.size w w') := indexWt_any w g lb p a cap l hl hi PH
  clear hi PH
  generalize l.length = n at *
  go_enter Try.func81, Try.ntmps81
  go_wp2_with fail
  refine HC.out.mono ?_
  rintro e w1 ⟨hI, hb⟩
  clear HC
  rcases hI with ⟨k, rfl, _, h⟩ | ⟨rfl, h⟩
  · have HH : Hid (l.any p = true) := h
    clear h
    go_wp2_with fail
    go_ret
    exact ⟨by rw [HH.out]; rfl, hb⟩
  · have HH : Hid (l.any p = false) := h
    clear h
    go_wp2_with fail
    go_ret
    exact ⟨by rw [HH.out]; rfl, hb⟩
theorem waitOf_any (w : World) (K : Nat) (x : Int) (hK : K < w.heap.size) (hc : w.cell? ⟨K, 0, none⟩ = some (.int .i64 x)) : PredW w 94 #[.pointer (some ⟨K, 0, none⟩)] (fun r => decide (r.wi = x)) := by
  refine ⟨enters_of Try.func94 (by kernel_rfl) rfl, fun X hX r => ?_⟩
  have c0 : X.cell? ⟨K, 0, none⟩ = some (.int .i64 x) := by rw [hX.cell (p := ⟨K, 0, none⟩) hK]; exact hc
  have hKX : K < X.heap.size := Nat.lt_of_lt_of_le hK hX.size
  clear hX hc hK
  obtain ⟨rt, rg⟩ := r
  simp only
  show Calls Try.prog 94 #[.agg #[.int .i64 rt, .int .i64 rg], .pointer (some ⟨K, 0, none⟩)] X _
  by_cases c : rt = x
  · have e : decide (rt = x) = true := by simpa using c
    rw [e]
    subst c
    go_enter Try.func94, Try.ntmps94
    go_wp2
    go_ret
    exact ⟨rfl, (Below.refl _ _).alloc (Nat.le_refl _) _⟩
  · have e : decide (rt = x) = false := by simpa using c
    have e2 : (rt == x) = false := by simpa using c
    rw [e]
    go_enter Try.func94, Try.ntmps94
    go_wp2
    go_ret
    exact ⟨rfl, (Below.refl _ _).alloc (Nat.le_refl _) _⟩
theorem isWaitOf_any (x : Int) (w : World) : Calls Try.prog 82 #[.int .i64 x] w fun e w' => e = .returned (.func (.func 94) #[] #[.pointer (some ⟨w.heap.size, 0, none⟩)]) ∧ w' = w.alloc (.cells #[.int .i64 x] 2) := by
  go_enter Try.func82, Try.ntmps82
  go_wp2
  go_ret
  exact ⟨rfl, rfl⟩
set_option maxHeartbeats 1000000 in
theorem isWaiting_any (w : World) (a : Option Addr) (cap : Nat) (l : List Wt) (x : Int) (hl : l.length ≤ 1048576) (hi : WtIn w a l) :
    Calls Try.prog 42 #[.slice a l.length cap, .int .i64 x] w fun e w' => e = .returned (.bool (hasW l x)) ∧ Below w.heap.size w w' := by
  have HO : Hid (∀ w, Calls Try.prog 82 #[.int .i64 x] w fun e w' => e = .returned (.func (.func 94) #[] #[.pointer (some ⟨w.heap.size, 0, none⟩)]) ∧ w' = w.alloc (.cells #[.int .i64 x] 2)) := isWaitOf_any x
  have hB : Below w.heap.size w (w.alloc (.cells #[.int .i64 x] 2)) := (Below.refl _ _).alloc (Nat.le_refl _) _
  have HC : Hid (Calls Try.prog 81 #[.slice a l.length cap, .func (.func 94) #[] #[.pointer (some ⟨w.heap.size, 0, none⟩)]] (w.alloc (.cells #[.int .i64 x] 2)) fun e w' => e = .returned (.bool (hasW l x)) ∧ Below w.heap.size w w') := (containsWt_any _ _ _ _ a cap l hl (hi.keep hB) (waitOf_any _ w.heap.size x (by simp) (by simp))).mono fun e w' ⟨h1, h2⟩ => ⟨h1, hB.trans (h2.mono hB.size)⟩
  clear hi hB hl
  generalize hasW l x = b at *
  generalize l.length = n at *
  go_enter Try.func42, Try.ntmps42
  go_wp2_with fail
  refine (HO.out _).mono ?_
  rintro e w1 ⟨rfl, rfl⟩
  go_wp2_with fail
  refine HC.out.mono ?_
  rintro e w2 ⟨rfl, hb⟩
  go_wp2_with fail
  go_ret
  exact ⟨rfl, hb⟩
set_option maxHeartbeats 1000000 in
theorem isWait_any (r : Wt) (w : World) : Calls Try.prog 50 #[.agg #[.int .i64 r.wi, .int .i64 r.du]] w fun e w' => e = .returned (.bool (waitB r)) ∧ Below w.heap.size w w' := by
  have HT : Hid (∀ x lo hi w, Calls Try.prog 40 #[.int .i64 x, .int .i64 lo, .int .i64 hi] w fun r w' => r = .returned (.bool (inW lo hi x)) ∧ w' = w) := isWithin_all
  have HU : Hid (∀ x w, Calls Try.prog 41 #[.int .i64 x] w fun r w' => r = .returned (.bool (timeB x)) ∧ w' = w) := isTime_all
  have HB : Hid (Below w.heap.size w (w.alloc (.cells #[.int .i64 r.wi, .int .i64 r.du] 40))) := (Below.refl _ _).alloc (Nat.le_refl _) _
  have hwb : waitB r = (inW 0 1000000000000000 r.wi && timeB r.du) := rfl
  generalize waitB r = wb at *
  generalize r.wi = ri at *
  generalize r.du = rd at *
  cases h1 : inW 0 1000000000000000 ri
  · rw [h1] at hwb
    simp only [Bool.false_and] at hwb
    subst hwb
    go_enter Try.func50, Try.ntmps50
    go_wp2_with fail
    refine (HT.out _ _ _ _).mono ?_
    rintro e w1 ⟨rfl, rfl⟩
    rw [h1]
    go_wp2_with fail
    go_ret
    exact ⟨rfl, HB.out⟩
  · rw [h1] at hwb
    simp only [Bool.true_and] at hwb
    go_enter Try.func50, Try.ntmps50
    go_wp2_with fail
    refine (HT.out _ _ _ _).mono ?_
    rintro e w1 ⟨rfl, rfl⟩
    rw [h1]
    go_wp2_with fail
    refine (HU.out _ _).mono ?_
    rintro e w1 ⟨rfl, rfl⟩
    rw [← hwb]
    clear hwb
    go_wp2_with fail
    go_ret
    exact ⟨rfl, HB.out⟩
theorem WtIn.take {w : World} {a : Option Addr} {l : List Wt} (h : WtIn w a l) (k : Nat) : WtIn w a (l.take k) := by
  rcases h with rfl | ⟨b, off, e, h⟩
  · exact .inl (by simp)
  · refine .inr ⟨b, off, e, fun i r hr => h i r ?_⟩
    rw [List.getElem?_take] at hr
    split at hr
    · exact hr
    · cases hr
end Go.Proofs.Ytmgidcigihpbeaa
/-
  BulkFault, by the program.
-/
namespace Go.Proofs.Ytmgidcigihpbeaa
open Go.ChangeShapes Go.WideShapes Go.ChangeAt Go.RowKit Go.Sort
set_option maxRecDepth 100000 in
set_option maxHeartbeats 4000000 in
theorem twice_any (w : World) (a : Option Addr) (cap : Nat) (l : List Wt) (hl : l.length ≤ 1048576) (hc : l.length ≤ cap) (hi : WtIn w a l) :
    Calls Try.prog 51 #[.slice a l.length cap] w fun e w' => e = .returned (.bool (!nodupW l)) ∧ Below w.heap.size w w' := by
  have HI : Hid (WtIn w a l) := hi
  clear hi
  obtain ⟨n, hn⟩ : ∃ n, l.length = n := ⟨_, rfl⟩
  rw [hn] at hl hc ⊢
  have HN : Hid (l.length = n) := hn
  clear hn
  go_enter Try.func51, Try.ntmps51
  go_wp2_with fail
  go_loopw [7] (fun i wr => ∃ k : Nat, k ≤ n ∧ i = .int .i64 k ∧ (∀ (i j : Nat) x y, i < k → j < i → l[i]? = some x → l[j]? = some y → x.wi ≠ y.wi) ∧ Below w.heap.size w wr) (fun i _ => n - (intOf i).toNat)
  case atStart => exact ⟨0, Nat.zero_le _, rfl, fun i j x y h => by omega, Below.refl _ _⟩
  case round =>
    obtain ⟨k, hk, rfl, ht, hb⟩ := hrel
    have HTT : Hid (∀ (i j : Nat) x y, i < k → j < i → l[i]? = some x → l[j]? = some y → x.wi ≠ y.wi) := ht
    clear ht
    by_cases hlt : k < n
    · obtain ⟨r, hr⟩ : ∃ r, l[k]? = some r := ⟨l[k]'(by have := HN.out; omega), List.getElem?_eq_getElem _⟩
      rcases (HI.out.keep hb) with h | ⟨b, off, rfl, hat⟩
      · subst h; simp at hr
      obtain ⟨p0, p1⟩ := hat k r hr
      have hw2 : Below wr.heap.size wr (wr.alloc (.cells #[.int .i64 r.wi, .int .i64 r.du] 40)) := (Below.refl _ _).alloc (Nat.le_refl _) _
      have CB : Hid (Below w.heap.size w (wr.alloc (.cells #[.int .i64 r.wi, .int .i64 r.du] 40))) := hb.trans (hw2.mono hb.size)
      have hkl : (l.take k).length = k := by rw [List.length_take]; have := HN.out; omega
      have cE : ∀ d os, Calls Try.prog 42 #[.slice (some ⟨b, off, none⟩) k cap, .int .i64 r.wi] (grow (redrawn (wr.alloc (.cells #[.int .i64 r.wi, .int .i64 r.du] 40)) d) os) fun e w'' => e = .returned (.bool (hasW (l.take k) r.wi)) ∧ ∃ p : Regrown, w'' = grow (redrawn (wr.alloc (.cells #[.int .i64 r.wi, .int .i64 r.du] 40)) p.d) p.os := fun d os => Calls.regrown_of (by
        have := isWaiting_any (grow (redrawn (wr.alloc (.cells #[.int .i64 r.wi, .int .i64 r.du] 40)) d) os) (some ⟨b, off, none⟩) cap (l.take k) r.wi (by omega) ((WtIn.take (HI.out.keep CB.out) k).keep (below_regrown _ d os))
        rw [hkl] at this
        exact this)
      have HYE : Hid (hasW (l.take k) r.wi = true → nodupW l = false) := fun h => by
        obtain ⟨j, x, hx, e⟩ := hasW_get h
        rw [List.getElem?_take] at hx
        split at hx
        · exact nodupW_no (by assumption) hr hx e.symm
        · cases hx
      have HNO : Hid (hasW (l.take k) r.wi = false → ∀ (i j : Nat) x y, i < k + 1 → j < i → l[i]? = some x → l[j]? = some y → x.wi ≠ y.wi) := fun h i j x y hik hji hx hy => by
        by_cases e : i = k
        · subst e
          rw [hr] at hx; obtain rfl := Option.some.inj hx
          exact fun e => hasW_none h (j := j) (r := y) (by rw [List.getElem?_take_of_lt hji]; exact hy) e.symm
        · exact HTT.out i j x y (by omega) hji hx hy
      have g0 : (0 : Int) ≤ k := by omega
      have g : (k : Int) < n := by omega
      have g2 : (k : Int) ≤ cap := by omega
      generalize hasW (l.take k) r.wi = hh at *
      clear hr hat HTT hkl hw2
      generalize r.wi = ri at *
      generalize r.du = rd at *
      have x0 : ∀ d os, (grow (redrawn (wr.alloc (.cells #[.int .i64 ri, .int .i64 rd] 40)) d) os).cell? ⟨wr.heap.size, 0, none⟩ = some (.int .i64 ri) := cell_regrown (by simp)
      go_wp2_with fail
      refine wp_region_quiet_below (by kernel_rfl) (by kernel_rfl) ?_
      repeat (go_big_quiet_step ((go_at_call 42; exact cE _ _)))
      refine wpQuiet_nil ?_
      intro w2 hw2
      have hbb : Below w.heap.size w w2 := by
        obtain ⟨⟨d, os⟩, rfl⟩ := hw2
        exact CB.out.trans ((below_regrown _ d os).mono CB.out.size)
      clear cE hw2 hb CB x0 p0 p1
      cases hh
      · have HN2 := hid11 (HNO.out rfl)
        clear HNO HYE
        go_wp2_with fail
        go_roundw
        case rel => exact ⟨k + 1, by omega, by go_num, HN2.out, hbb⟩
        case measure => simp [intOf]; omega
      · have HE : Hid (nodupW l = false) := HYE.out rfl
        clear HNO HYE
        go_wp2_with fail
        go_ret
        exact ⟨by rw [HE.out]; rfl, hbb⟩
    · have HE : Hid (nodupW l = true) := (nodupW_iff l).2 fun i j x y hji hx hy => HTT.out i j x y (by have := (List.getElem?_eq_some_iff.1 hx).1; have := HN.out; omega) hji hx hy
      have g : ¬ (k : Int) < n := by omega
      clear HTT HI HN
      go_wp2_with fail
      go_ret
      exact ⟨by rw [HE.out]; rfl, hb⟩
set_option maxRecDepth 100000 in
set_option maxHeartbeats 8000000 in
theorem implBlk_any (y : Int) (a : Option Addr) (cap : Nat) (l : List Wt) (s c t : Int) (w : World) (hc : l.length ≤ cap) (hi : WtIn w a l) :
    Calls Try.prog 11 #[.agg #[.int .i64 y, .slice a l.length cap], .agg #[.int .i64 s, .int .i64 c, .int .i64 t]] w fun r w' => r = .returned (.int .i64 (blkC y l s c t)) ∧ Below w.heap.size w w' := by
  obtain ⟨W, hW⟩ : ∃ W, W = ((w.alloc (.cells #[.int .i64 y, .slice a l.length cap] 26)).alloc (.cells #[.int .i64 s, .int .i64 c, .int .i64 t] 28)) := ⟨_, rfl⟩
  have HW : Hid (W = ((w.alloc (.cells #[.int .i64 y, .slice a l.length cap] 26)).alloc (.cells #[.int .i64 s, .int .i64 c, .int .i64 t] 28))) := hW
  have K0 : Hid (Below w.heap.size w W ∧ D2 W w.heap.size (.int .i64 y) (.slice a l.length cap) ∧ D3 W (w.heap.size + 1) (.int .i64 s) (.int .i64 c) (.int .i64 t)) := by
    have h2 := D3.new (w.alloc (.cells #[.int .i64 y, .slice a l.length cap] 26)) (.int .i64 s) (.int .i64 c) (.int .i64 t) 28
    rw [show (w.alloc (.cells #[.int .i64 y, .slice a l.length cap] 26)).heap.size = w.heap.size + 1 by simp] at h2
    rw [hW]
    exact ⟨((Below.refl _ _).alloc (Nat.le_refl _) _).alloc (by simp) _, (D2.new w _ _ _).keep ((Below.refl _ _).alloc (Nat.le_refl _) _), h2⟩
  have HL : Hid (∀ X, Calls Try.prog 13 #[.agg #[.int .i64 s, .int .i64 c, .int .i64 t]] X fun r w' => r = .returned (.int .i64 (lanesC s c t)) ∧ Below X.heap.size X w') := implLanes_any s c t
  have HT : Hid (∀ x lo hi w, Calls Try.prog 40 #[.int .i64 x, .int .i64 lo, .int .i64 hi] w fun r w' => r = .returned (.bool (inW lo hi x)) ∧ w' = w) := isWithin_all
  have HI : Hid (WtIn w a l) := hi
  clear hi hW
  cases h0 : lanesB s c t
  · rw [blkC_lanes h0]
    rw [lanesC_bad h0] at HL
    clear HI
    generalize l.length = n at *
    go_enter Try.func11, Try.ntmps11
    go_wp2_with fail
    rw [← HW.out]
    refine (HL.out _).mono ?_
    rintro r w1 ⟨rfl, hb1⟩
    have K1 : Hid (Below w.heap.size w w1 ∧ D2 w1 w.heap.size (.int .i64 y) (.slice a n cap) ∧ D3 w1 (w.heap.size + 1) (.int .i64 s) (.int .i64 c) (.int .i64 t)) := ⟨K0.out.1.trans (hb1.mono K0.out.1.size), K0.out.2.1.keep hb1, K0.out.2.2.keep hb1⟩
    clear K0 hb1 HW HL
    obtain ⟨e0, e1, ef, _⟩ := K1.out.2.1
    obtain ⟨f0, f1, f2, ff, _⟩ := K1.out.2.2
    go_wp2_with fail
    go_ret
    exact ⟨rfl, K1.out.1⟩
  rw [lanesC_ok h0] at HL
  cases h1 : inW 0 s y
  · rw [blkC_busy h0 h1]
    clear HI
    generalize l.length = n at *
    go_enter Try.func11, Try.ntmps11
    go_wp2_with fail
    rw [← HW.out]
    refine (HL.out _).mono ?_
    rintro r w1 ⟨rfl, hb1⟩
    have K1 : Hid (Below w.heap.size w w1 ∧ D2 w1 w.heap.size (.int .i64 y) (.slice a n cap) ∧ D3 w1 (w.heap.size + 1) (.int .i64 s) (.int .i64 c) (.int .i64 t)) := ⟨K0.out.1.trans (hb1.mono K0.out.1.size), K0.out.2.1.keep hb1, K0.out.2.2.keep hb1⟩
    clear K0 hb1 HW HL
    obtain ⟨e0, e1, ef, _⟩ := K1.out.2.1
    obtain ⟨f0, f1, f2, ff, _⟩ := K1.out.2.2
    go_wp2_with fail
    refine (HT.out y 0 s _).mono ?_
    rintro r w2 ⟨rfl, rfl⟩
    rw [h1]
    go_wp2_with fail
    go_ret
    exact ⟨rfl, K1.out.1⟩
  by_cases h2 : c < (l.length : Int)
  · rw [blkC_many h0 h1 h2]
    clear HI
    generalize l.length = n at *
    go_enter Try.func11, Try.ntmps11
    go_wp2_with fail
    rw [← HW.out]
    refine (HL.out _).mono ?_
    rintro r w1 ⟨rfl, hb1⟩
    have K1 : Hid (Below w.heap.size w w1 ∧ D2 w1 w.heap.size (.int .i64 y) (.slice a n cap) ∧ D3 w1 (w.heap.size + 1) (.int .i64 s) (.int .i64 c) (.int .i64 t)) := ⟨K0.out.1.trans (hb1.mono K0.out.1.size), K0.out.2.1.keep hb1, K0.out.2.2.keep hb1⟩
    clear K0 hb1 HW HL
    obtain ⟨e0, e1, ef, _⟩ := K1.out.2.1
    obtain ⟨f0, f1, f2, ff, _⟩ := K1.out.2.2
    go_wp2_with fail
    refine (HT.out y 0 s _).mono ?_
    rintro r w2 ⟨rfl, rfl⟩
    rw [h1]
    go_wp2_with fail
    go_ret
    exact ⟨rfl, K1.out.1⟩
  have HTM : Hid (waitsB l = false → blkC y l s c t = 3) := fun h => blkC_range h0 h1 h2 h
  have HSM : Hid (waitsB l = true → nodupW l = false → blkC y l s c t = 6) := fun h h3 => blkC_taken h0 h1 h2 h h3
  have HOK : Hid (waitsB l = true → nodupW l = true → blkC y l s c t = 0) := fun h h3 => blkC_ok h0 h1 h2 h h3
  have hl8 : l.length ≤ 8 := by have := (lanesB_of h0).2.1; omega
  have HU : Hid (∀ (r : Wt) w, Calls Try.prog 50 #[.agg #[.int .i64 r.wi, .int .i64 r.du]] w fun e w' => e = .returned (.bool (waitB r)) ∧ Below w.heap.size w w') := isWait_any
  have HTW : Hid (∀ X, WtIn X a l → Calls Try.prog 51 #[.slice a l.length cap] X fun e w' => e = .returned (.bool (!nodupW l)) ∧ Below X.heap.size X w') := fun X h => twice_any X a cap l (by omega) hc h
  clear hc
  generalize hn : l.length = n at *
  have HN : Hid (l.length = n) := hn
  clear hn
  generalize blkC y l s c t = q at *
  go_enter Try.func11, Try.ntmps11
  go_wp2_with fail
  rw [← HW.out]
  refine (HL.out _).mono ?_
  rintro r w1 ⟨rfl, hb1⟩
  have K1 : Hid (Below w.heap.size w w1 ∧ D2 w1 w.heap.size (.int .i64 y) (.slice a n cap) ∧ D3 w1 (w.heap.size + 1) (.int .i64 s) (.int .i64 c) (.int .i64 t)) := ⟨K0.out.1.trans (hb1.mono K0.out.1.size), K0.out.2.1.keep hb1, K0.out.2.2.keep hb1⟩
  clear K0 hb1 HW HL
  obtain ⟨e0, e1, ef, _⟩ := K1.out.2.1
  obtain ⟨f0, f1, f2, ff, _⟩ := K1.out.2.2
  go_wp2_with fail
  refine (HT.out y 0 s _).mono ?_
  rintro r w2 ⟨rfl, rfl⟩
  rw [h1]
  go_wp2_with fail
  clear e0 e1 ef f0 f1 f2 ff h0 h1 h2
  go_loopw [28] (fun i wr => ∃ k : Nat, k ≤ n ∧ i = .int .i64 k ∧ (∀ (j : Nat) x, j < k → l[j]? = some x → waitB x = true) ∧ Below w.heap.size w wr ∧ D2 wr w.heap.size (.int .i64 y) (.slice a n cap) ∧ D3 wr (w.heap.size + 1) (.int .i64 s) (.int .i64 c) (.int .i64 t)) (fun i _ => n - (intOf i).toNat)
  case atStart => exact ⟨0, Nat.zero_le _, rfl, fun j x h => by omega, K1.out⟩
  case round =>
    obtain ⟨k, hk, rfl, ht, hS⟩ := hrel
    have HTT : Hid (∀ (j : Nat) x, j < k → l[j]? = some x → waitB x = true) := ht
    have HS2 : Hid (Below w.heap.size w wr ∧ D2 wr w.heap.size (.int .i64 y) (.slice a n cap) ∧ D3 wr (w.heap.size + 1) (.int .i64 s) (.int .i64 c) (.int .i64 t)) := hS
    clear ht hS K1
    by_cases hlt : k < n
    · obtain ⟨r, hr⟩ : ∃ r, l[k]? = some r := ⟨l[k]'(by have := HN.out; omega), List.getElem?_eq_getElem _⟩
      rcases (HI.out.keep HS2.out.1) with h | ⟨b, off, rfl, hat⟩
      · subst h; simp at hr
      obtain ⟨p0, p1⟩ := hat k r hr
      have g : (k : Int) < n := by omega
      have HX : Hid (waitB r = false → q = 3) := fun h => HTM.out (waitsB_no hr h)
      have HY : Hid (waitB r = true → ∀ (j : Nat) x, j < k + 1 → l[j]? = some x → waitB x = true) := fun hx j x hj hjx => by
        by_cases e : j = k
        · subst e; rw [hr] at hjx; obtain rfl := Option.some.inj hjx; exact hx
        · exact HTT.out j x (by omega) hjx
      have C1 : Hid (∀ X, Calls Try.prog 50 #[.agg #[.int .i64 r.wi, .int .i64 r.du]] X fun e w' => e = .returned (.bool (waitB r)) ∧ Below X.heap.size X w') := HU.out r
      clear hat hr HTT
      generalize waitB r = wb at *
      generalize r.wi = ri at *
      generalize r.du = rd at *
      have bA : Below wr.heap.size wr (wr.alloc (.cells #[.int .i64 ri, .int .i64 rd] 40)) := (Below.refl _ _).alloc (Nat.le_refl _) _
      have HBA := hid11 bA
      clear bA
      go_wp2_with fail
      refine (C1.out _).mono ?_
      rintro e w2 ⟨rfl, hb2⟩
      have hb3 : Below wr.heap.size wr w2 := HBA.out.trans (hb2.mono HBA.out.size)
      have HS3 : Hid (Below w.heap.size w w2 ∧ D2 w2 w.heap.size (.int .i64 y) (.slice (some ⟨b, off, none⟩) n cap) ∧ D3 w2 (w.heap.size + 1) (.int .i64 s) (.int .i64 c) (.int .i64 t)) := ⟨HS2.out.1.trans (hb3.mono HS2.out.1.size), HS2.out.2.1.keep hb3, HS2.out.2.2.keep hb3⟩
      clear hb2 hb3 HBA HS2 p0 p1 C1
      cases wb
      · have HE : Hid (q = 3) := HX.out rfl
        clear HX HY
        go_wp2_with fail
        go_ret
        exact ⟨ret_int HE.out.symm, HS3.out.1⟩
      · have HT3 := hid11 (HY.out rfl)
        clear HX HY
        go_wp2_with fail
        go_roundw
        case rel => exact ⟨k + 1, by omega, by go_num, HT3.out, HS3.out⟩
        case measure => simp [intOf]; omega
    · have hTM : waitsB l = true := (waitsB_iff l).2 fun i x hx => HTT.out i x (by have := (List.getElem?_eq_some_iff.1 hx).1; have := HN.out; omega) hx
      have HSM2 : Hid (nodupW l = false → q = 6) := HSM.out hTM
      have HOK2 : Hid (nodupW l = true → q = 0) := HOK.out hTM
      have g : ¬ (k : Int) < n := by omega
      have e1 := HS2.out.2.1.c1
      clear hTM HTT HTM HSM HOK
      go_wp2_with fail
      refine (HTW.out _ (HI.out.keep HS2.out.1)).mono ?_
      rintro e w2 ⟨rfl, hb2⟩
      have HB2 : Hid (Below w.heap.size w w2) := HS2.out.1.trans (hb2.mono HS2.out.1.size)
      clear hb2 HS2 e1 HTW HI
      generalize nodupW l = nd at *
      cases nd
      · have HE : Hid (q = 6) := HSM2.out rfl
        clear HSM2 HOK2
        go_wp2_with fail
        go_ret
        exact ⟨ret_int HE.out.symm, HB2.out⟩
      · have HE : Hid (q = 0) := HOK2.out rfl
        clear HSM2 HOK2
        go_wp2_with fail
        go_ret
        exact ⟨ret_int HE.out.symm, HB2.out⟩
end Go.Proofs.Ytmgidcigihpbeaa
/-
  Who goes, by the program.
-/
namespace Go.Proofs.Ytmgidcigihpbeaa
open Go.ChangeShapes Go.WideShapes Go.ChangeAt Go.RowKit Go.Sort
def NsRes (w : World) (base : Nat) (l : List Int) (e : Ending) : Prop := ∃ a c, e = .returned (.slice a l.length c) ∧ NsNew w base (.slice a l.length c) l
set_option maxRecDepth 100000 in
set_option maxHeartbeats 8000000 in
theorem dueBy_any (w : World) (a : Option Addr) (cap : Nat) (l : List Wt) (now : Int) (hl : l.length ≤ 8) (hi : WtIn w a l) :
    Calls Try.prog 55 #[.slice a l.length cap, .int .i64 now] w fun e w' => NsRes w' w.heap.size (goneW now l) e ∧ Below w.heap.size w w' := by
  have HI : Hid (WtIn w a l) := hi
  obtain ⟨n, hn⟩ : ∃ n, l.length = n := ⟨_, rfl⟩
  have HN : Hid (l.length = n) := hn
  rw [hn] at hl ⊢
  clear hn hi
  go_enter Try.func55, Try.ntmps55
  go_wp2_with fail
  go_loopw [5, 10] (fun u i wr => ∃ k : Nat, k ≤ n ∧ i = .int .i64 k ∧ OwnNs wr w.heap.size u (goneW now (l.take k)) ∧ Below w.heap.size w wr) (fun _ i _ => n - (intOf i).toNat)
  case atStart => exact ⟨0, Nat.zero_le _, rfl, OwnNs.none0 _ _, Below.refl _ _⟩
  case round =>
    obtain ⟨k, hk, rfl, hj, hlo⟩ := hrel
    have HLO := hid11 hlo
    have hsz : w.heap.size ≤ wr.heap.size := hlo.size
    by_cases hlt : k < n
    · obtain ⟨r, hr⟩ : ∃ r, l[k]? = some r := ⟨l[k]'(by have := HN.out; omega), List.getElem?_eq_getElem _⟩
      rcases (HI.out.keep hlo) with h | ⟨b, off, rfl, hat⟩
      · subst h; simp at hr
      obtain ⟨p0, p1⟩ := hat k r hr
      have gk : (k : Int) < n := by omega
      have gk0 : (0 : Int) ≤ k := by omega
      have HL := hid11 (goneW_take (now := now) hr)
      have hll : (goneW now (l.take k)).length ≤ 8 := Nat.le_trans (goneW_len _ _) (by rw [List.length_take]; have := HN.out; omega)
      have bA : Below wr.heap.size wr (wr.alloc (.cells #[.int .i64 r.wi, .int .i64 r.du] 40)) := (Below.refl _ _).alloc (Nat.le_refl _) _
      have HJA := hid11 (hj.below bA)
      have HBA := hid11 (hlo.trans (bA.mono hlo.size))
      have hszA : w.heap.size ≤ (wr.alloc (.cells #[.int .i64 r.wi, .int .i64 r.du] 40)).heap.size := HBA.out.size
      clear hr hat hlo hj bA
      by_cases hd : r.du ≤ now
      · have HL2 : Hid (goneW now (l.take (k + 1)) = goneW now (l.take k) ++ [r.wi]) := by show _ = _; rw [HL.out, if_pos hd]
        clear HL
        go_wp2_with (at_builtin; refine wpList_append1Ns (wr.alloc (.cells #[.int .i64 r.wi, .int .i64 r.du] 40)) rfl (.tmp 18) (.tmp 21) rfl w.heap.size u5 (goneW now (l.take k)) r.wi rfl (by simp [Act.eval]) HJA.out (by omega) hszA ?_; intro g cp w2 h1 h2 h3; have HJ2 : Hid (OwnNs w2 w.heap.size (.slice (some ⟨g, 0, none⟩) ((goneW now (l.take k)).length + 1) cp) (goneW now (l.take k) ++ [r.wi]) ∧ Below w.heap.size w w2) := ⟨h1, HBA.out.trans ⟨h2.os, h2.tape, h2.output, h2.size, fun q hq => h2.block q (Nat.lt_of_lt_of_le hq hszA) (fun e => by have := row_ge HJA.out q e.symm; omega)⟩⟩; clear h1 h2 h3)
        go_roundw
        case rel => exact ⟨k + 1, by omega, by go_num, by rw [HL2.out]; exact HJ2.out.1, HJ2.out.2⟩
        case measure => simp [intOf]; omega
      · have HL2 : Hid (goneW now (l.take (k + 1)) = goneW now (l.take k)) := by show _ = _; rw [HL.out, if_neg hd, List.append_nil]
        clear HL
        go_wp2_with fail
        go_roundw
        case rel => exact ⟨k + 1, by omega, by go_num, by rw [HL2.out]; exact HJA.out, HBA.out⟩
        case measure => simp [intOf]; omega
    · have ek : l.take k = l := List.take_of_length_le (by have := HN.out; omega)
      rw [ek] at hj
      have gk : ¬ (k : Int) < n := by omega
      have HJ := hid11 hj
      obtain ⟨va, vc, rfl, _, _⟩ := hj.in
      clear ek hj hlo
      go_wp2_with fail
      go_ret
      exact ⟨⟨va, vc, rfl, HJ.out.new⟩, HLO.out⟩
set_option maxRecDepth 100000 in
set_option maxHeartbeats 8000000 in
theorem without_any (w : World) (a ia : Option Addr) (cap ic : Nat) (l : List Wt) (ids : List Int) (hl : l.length ≤ 8) (hm : ids.length ≤ 8) (hi : WtIn w a l) (hii : NsIn w ia ids) :
    Calls Try.prog 84 #[.slice a l.length cap, .slice ia ids.length ic] w fun e w' => WtRes w' w.heap.size (withoutW l ids) e ∧ Below w.heap.size w w' := by
  have HI : Hid (WtIn w a l) := hi
  have HII : Hid (NsIn w ia ids) := hii
  obtain ⟨n, hn⟩ : ∃ n, l.length = n := ⟨_, rfl⟩
  have HN : Hid (l.length = n) := hn
  obtain ⟨m, hm'⟩ : ∃ m, ids.length = m := ⟨_, rfl⟩
  have HM : Hid (ids.length = m) := hm'
  rw [hn] at hl ⊢
  rw [hm'] at hm ⊢
  clear hn hi hii hm'
  go_enter Try.func84, Try.ntmps84
  go_wp2_with fail
  go_step3
  go_wp2_with fail
  go_step3
  go_wp2_with fail
  go_loopg [5, 12] n (fun g u i wr => ∃ k : Nat, k + g = n ∧ i = .int .i64 k ∧ OwnWt wr w.heap.size u (withoutW (l.take k) ids) ∧ Below w.heap.size w wr)
  case atStart => exact ⟨0, by omega, rfl, OwnWt.none0 _ _, Below.refl _ _⟩
  case round =>
    obtain ⟨k, hk, rfl, hj, hlo⟩ := hrel
    have HLO := hid11 hlo
    have hsz : w.heap.size ≤ wr.heap.size := hlo.size
    cases gk with
    | zero =>
      have ek : l.take k = l := List.take_of_length_le (by have := HN.out; omega)
      rw [ek] at hj
      have gk : ¬ (k : Int) < n := by omega
      have HJ := hid11 hj
      obtain ⟨va, vc, rfl, _, _⟩ := hj.in
      clear ek hj hlo
      go_wp2_with fail
      try rw [Exit.noGoto_ret]
      go_ret
      exact ⟨WtRes.of HJ.out, HLO.out⟩
    | succ g =>
      obtain ⟨r, hr⟩ : ∃ r, l[k]? = some r := ⟨l[k]'(by have := HN.out; omega), List.getElem?_eq_getElem _⟩
      rcases (HI.out.keep hlo) with h | ⟨b, off, rfl, hat⟩
      · subst h; simp at hr
      obtain ⟨p0, p1⟩ := hat k r hr
      have gk : (k : Int) < n := by omega
      have gk0 : (0 : Int) ≤ k := by omega
      have HL := hid11 (withoutW_take (ids := ids) hr)
      have hll : (withoutW (l.take k) ids).length ≤ 8 := Nat.le_trans (withoutW_len _ _) (by rw [List.length_take]; have := HN.out; omega)
      obtain ⟨WA, hWA⟩ : ∃ W, W = (wr.alloc (.cells #[.int .i64 r.wi, .int .i64 r.du] 40)) := ⟨_, rfl⟩
      have HWA := hid11 hWA
      have bA : Below wr.heap.size wr WA := by rw [hWA]; exact (Below.refl _ _).alloc (Nat.le_refl _) _
      have HDA : Hid (D2 WA wr.heap.size (.int .i64 r.wi) (.int .i64 r.du)) := by show D2 _ _ _ _; rw [hWA]; exact D2.new wr _ _ _
      have HJA := hid11 (hj.below bA)
      have HBA := hid11 (hlo.trans (bA.mono hlo.size))
      have hszA : w.heap.size ≤ WA.heap.size := HBA.out.size
      obtain ⟨B, hBq⟩ : ∃ B, wr.heap.size = B := ⟨_, rfl⟩
      rw [hBq] at HDA
      have HIA := hid11 (HII.out.keep HBA.out)
      clear hr hat hlo hj bA hWA
      go_wp2_with fail
      rw [← HWA.out]
      clear HWA hBq
      obtain ⟨d0, d1, df, _⟩ := HDA.out
      go_loopg [18] m (fun g2 i w3 => ∃ j : Nat, j + g2 = m ∧ i = .int .i64 j ∧ (∀ (t : Nat) z, t < j → ids[t]? = some z → r.wi ≠ z) ∧ w3 = WA)
      case atStart => exact ⟨0, by omega, rfl, fun t z h => by omega, rfl⟩
      case round =>
        obtain ⟨j, hj2, rfl, hA, rfl⟩ := hrel
        have HA := hid11 hA
        clear hA
        cases gk with
        | zero =>
          have gj : ¬ (j : Int) < m := by omega
          have hno : (ids.any fun x => decide (r.wi = x)) = false := by
            rw [List.any_eq_false]
            intro z hz
            obtain ⟨t, ht⟩ := List.getElem?_of_mem hz
            simpa using HA.out t z (by have := (List.getElem?_eq_some_iff.1 ht).1; have := HM.out; omega) ht
          have HL2 : Hid (withoutW (l.take (k + 1)) ids = withoutW (l.take k) ids ++ [r]) := by show _ = _; rw [HL.out, if_neg (by rw [hno]; decide)]
          clear HL hno HA
          go_wp2_with (at_builtin; refine wpList_append1Wt _ rfl (.tmp 27) (.tmp 29) rfl w.heap.size u5 (withoutW (l.take k) ids) r rfl rfl HJA.out (by omega) hszA ?_; intro v2 w2 h1 h2 _; have HJ2 : Hid (OwnWt w2 w.heap.size v2 (withoutW (l.take k) ids ++ [r]) ∧ Below w.heap.size w w2) := ⟨h1, HBA.out.trans h2⟩; clear h1 h2)
          go_roundg g
          case measure => omega
          case rel => exact ⟨k + 1, by omega, by go_num, by rw [HL2.out]; exact HJ2.out.1, HJ2.out.2⟩
        | succ g2 =>
          obtain ⟨z, hz⟩ : ∃ z, ids[j]? = some z := ⟨ids[j]'(by have := HM.out; omega), List.getElem?_eq_getElem _⟩
          rcases HIA.out with h | ⟨b2, off2, rfl, hat2⟩
          · subst h; simp at hz
          have q0 := hat2 j z hz
          have gj : (j : Int) < m := by omega
          have gj0 : (0 : Int) ≤ j := by omega
          by_cases hd : r.wi = z
          · have hyes : (ids.any fun x => decide (r.wi = x)) = true := List.any_eq_true.2 ⟨z, List.mem_of_getElem? hz, by simpa using hd⟩
            have HL2 : Hid (withoutW (l.take (k + 1)) ids = withoutW (l.take k) ids) := by show _ = _; rw [HL.out, if_pos hyes, List.append_nil]
            rw [hd] at d0
            clear HL hyes HA hat2 hz
            go_wp2_with fail
            go_roundg g
            case measure => omega
            case rel => exact ⟨k + 1, by omega, by go_num, by rw [HL2.out]; exact HJA.out, HBA.out⟩
          · have HA2 : Hid (∀ (t : Nat) y, t < j + 1 → ids[t]? = some y → r.wi ≠ y) := by
              intro t y ht hy
              by_cases e : t = j
              · subst e; rw [hz] at hy; obtain rfl := Option.some.inj hy; exact hd
              · exact HA.out t y (by omega) hy
            have hd2 : (r.wi == z) = false := by simpa using hd
            clear HA hat2 hz
            go_wp2_with fail
            go_roundg g2
            case measure => omega
            case rel => exact ⟨j + 1, by omega, by go_num, HA2.out, rfl⟩
end Go.Proofs.Ytmgidcigihpbeaa
/-
  Who is called off, by the program.
-/
namespace Go.Proofs.Ytmgidcigihpbeaa
open Go.ChangeShapes Go.WideShapes Go.ChangeAt Go.RowKit Go.Sort
def OffR (w : World) (base : Nat) (y : Int) (L : List Wt) (ia : Option Addr) (m ic : Nat) (e : Ending) : Prop := ∃ va vc, e = .returned (.agg #[.int .i64 0, .int .i64 y, .slice va L.length vc, .slice ia m ic]) ∧ WtNew w base (.slice va L.length vc) L ∧ L.length ≤ vc
set_option maxRecDepth 100000 in
set_option maxHeartbeats 8000000 in
theorem callOff_any (w : World) (y : Int) (a ia : Option Addr) (cap ic : Nat) (l : List Wt) (ids : List Int) (hl : l.length ≤ 8) (hm : ids.length ≤ 8) (hi : WtIn w a l) (hii : NsIn w ia ids) :
    Calls Try.prog 54 #[.agg #[.int .i64 y, .slice a l.length cap], .slice ia ids.length ic] w fun e w' => OffR w' w.heap.size y (withoutW l ids) ia ids.length ic e ∧ Below w.heap.size w w' := by
  obtain ⟨W, hW⟩ : ∃ W, W = (w.alloc (.cells #[.int .i64 y, .slice a l.length cap] 26)).alloc (.cells #[.int .i64 0, .int .i64 0, .slice none 0 0, .slice none 0 0] 45) := ⟨_, rfl⟩
  have HW : Hid (W = (w.alloc (.cells #[.int .i64 y, .slice a l.length cap] 26)).alloc (.cells #[.int .i64 0, .int .i64 0, .slice none 0 0, .slice none 0 0] 45)) := hW
  have K0 : Hid (Below w.heap.size w W ∧ D2 W w.heap.size (.int .i64 y) (.slice a l.length cap) ∧ D4 W (w.heap.size + 1) (.int .i64 0) (.int .i64 0) (.slice none 0 0) (.slice none 0 0) ∧ W.heap.size = w.heap.size + 2) := by
    have h2 := D4.new (w.alloc (.cells #[.int .i64 y, .slice a l.length cap] 26)) (.int .i64 0) (.int .i64 0) (.slice none 0 0) (.slice none 0 0) 45
    rw [show (w.alloc (.cells #[.int .i64 y, .slice a l.length cap] 26)).heap.size = w.heap.size + 1 by simp] at h2
    rw [hW]
    exact ⟨((Below.refl _ _).alloc (Nat.le_refl _) _).alloc (by simp) _, (D2.new w _ _ _).keep ((Below.refl _ _).alloc (Nat.le_refl _) _), h2, by simp⟩
  have HC : Hid (∀ X, Below w.heap.size w X → Calls Try.prog 84 #[.slice a l.length cap, .slice ia ids.length ic] X fun e w' => WtRes w' X.heap.size (withoutW l ids) e ∧ Below X.heap.size X w') := fun X hX => without_any X a ia cap ic l ids hl hm (hi.keep hX) (hii.keep hX)
  clear hW hi hii
  generalize withoutW l ids = L at *
  obtain ⟨m2, hm2⟩ : ∃ m, L.length = m := ⟨_, rfl⟩
  have HM2 := hid11 hm2
  clear hm2
  generalize ids.length = m at *
  generalize l.length = n at *
  have HKS : Hid (∀ X, Below (w.heap.size + 1) W X → X.cell? ⟨w.heap.size, 0, none⟩ = some (.int .i64 y) ∧ X.cell? ⟨w.heap.size, 1, none⟩ = some (.slice a n cap)) := fun X hb => ⟨(K0.out.2.1.low hb (by omega)).c0, (K0.out.2.1.low hb (by omega)).c1⟩
  have HL3 : Hid (w.heap.size + 1 ≤ W.heap.size) := by show _ ≤ _; rw [K0.out.2.2.2]; omega
  have B0 : Hid (Below W.heap.size W W.drew) := (Below.refl _ _).drew
  have B0L : Hid (Below (w.heap.size + 1) W W.drew) := B0.out.mono HL3.out
  go_enter Try.func54, Try.ntmps54
  go_wp2_with fail
  rw [← HW.out]
  clear HW
  go_region_held3 (fun X => X.cell? ⟨w.heap.size, 0, none⟩ = some (.int .i64 y) ∧ X.cell? ⟨w.heap.size, 1, none⟩ = some (.slice a n cap))
    (first | exact HKS.out _ BAS.out | exact HKS.out _ BAL.out | exact HKS.out _ B0L.out)
    (first
    | (go_at_call 84; refine (HC.out _ (K0.out.1.trans (B0.out.mono K0.out.1.size))).mono ?_; rintro r0 u1 ⟨⟨va, vc, rfl, mv, mc⟩, hb⟩; rw [HM2.out] at mv mc ⊢; have BA : Hid (Below W.heap.size W u1) := B0.out.trans (hb.mono B0.out.size); have MV : Hid (WtNew u1 W.heap.size (.slice va m2 vc) L ∧ m2 ≤ vc) := ⟨mv.lower B0.out.size, mc⟩; have BAL : Hid (Below (w.heap.size + 1) W u1) := BA.out.mono HL3.out; have BAS : Hid (Below (w.heap.size + 1) W ((((u1.setCell ⟨w.heap.size + 1, 0, none⟩ (.int .i64 0)).setCell ⟨w.heap.size + 1, 1, none⟩ (.int .i64 y)).setCell ⟨w.heap.size + 1, 2, none⟩ (.slice va m2 vc)).setCell ⟨w.heap.size + 1, 3, none⟩ (.slice ia m ic))) := ((((BAL.out.setCell (Nat.le_refl _) _).setCell (Nat.le_refl _) _).setCell (Nat.le_refl _) _).setCell (Nat.le_refl _) _); obtain ⟨r0, r1, r2, r3, rf, _⟩ := K0.out.2.2.1.keep BA.out; clear hb mv mc))
  all_goals
    have HNW : Hid (∀ y0 y1 y2 y3, WtNew ((((u1.setCell ⟨w.heap.size + 1, 0, none⟩ y0).setCell ⟨w.heap.size + 1, 1, none⟩ y1).setCell ⟨w.heap.size + 1, 2, none⟩ y2).setCell ⟨w.heap.size + 1, 3, none⟩ y3) w.heap.size (.slice va m2 vc) L) := fun y0 y1 y2 y3 => by
      have hh := K0.out.2.2.2
      refine WtNew.lower ?_ K0.out.1.size
      refine WtNew.gw2 (g := w.heap.size + 1) ?_ (gwSet _ _ _ _) (by omega)
      refine WtNew.gw2 (g := w.heap.size + 1) ?_ (gwSet _ _ _ _) (by omega)
      refine WtNew.gw2 (g := w.heap.size + 1) ?_ (gwSet _ _ _ _) (by omega)
      exact WtNew.gw2 (g := w.heap.size + 1) MV.out.1 (gwSet _ _ _ _) (by omega)
    have HCP := hid11 MV.out.2
    have HBW := hid11 (K0.out.1.trans (BA.out.mono K0.out.1.size))
    clear HKS B0 B0L BA BAL BAS MV K0 HC HL3
    go_wp2_with fail
    exact bodyPost_ret (v := .agg #[.int .i64 0, .int .i64 y, .slice va m2 vc, .slice ia m ic]) (by simp [results, Try.results54, go_sem, r0, r1, r2, r3]) rfl ⟨⟨va, vc, by rw [HM2.out], by rw [HM2.out]; exact HNW.out _ _ _ _, by rw [HM2.out]; exact HCP.out⟩, ((((HBW.out.setCell (by simp <;> omega) _).setCell (by simp <;> omega) _).setCell (by simp <;> omega) _).setCell (by simp <;> omega) _)⟩
end Go.Proofs.Ytmgidcigihpbeaa
/-
  ExpireBulk, by the program.
-/
namespace Go.Proofs.Ytmgidcigihpbeaa
open Go.ChangeShapes Go.WideShapes Go.ChangeAt Go.RowKit Go.Sort
theorem XN.two {u1 u2 : World} {b0 n2 vc n3 ic : Nat} {va ia : Option Addr} {l2 : List Wt} {l3 : List Int} (mi : NsNew u1 b0 (.slice ia n3 ic) l3) (hb : Below u1.heap.size u1 u2) (mv : WtNew u2 u1.heap.size (.slice va n2 vc) l2) (hle : b0 ≤ u1.heap.size) : XN u2 b0 ⟨va, vc, ia, ic⟩ n2 l2 n3 l3 := by
  refine ⟨mv.lower hle, mi.keep hb, fun g h hg hh => ?_⟩
  rcases mv with ⟨e, _⟩ | ⟨g5, o5, c5, e5, hb5, _⟩
  · exact .inl e
  · rcases mi with ⟨e, _⟩ | ⟨g6, o6, c6, e6, _, hb6, _⟩
    · exact .inr (.inl e)
    · simp only [Value.slice.injEq] at e5 e6
      simp only [e5.1] at hg
      simp only [e6.1] at hh
      simp only [Value.ownBlock, Option.some.injEq] at hg hh
      right; right; omega
set_option maxRecDepth 100000 in
set_option maxHeartbeats 16000000 in
theorem implExpire_any (w : World) (y : Int) (a : Option Addr) (cap : Nat) (l : List Wt) (s c t now : Int) (hl : l.length ≤ 1048576) (hcap : l.length ≤ cap) (hi : WtIn w a l) :
    Calls Try.prog 18 #[.agg #[.int .i64 y, .slice a l.length cap], .agg #[.int .i64 s, .int .i64 c, .int .i64 t], .int .i64 now] w fun e w' => ExRes w' w.heap.size (expireR y l s c t now) e ∧ Below w.heap.size w w' := by
  obtain ⟨W, hW⟩ : ∃ W, W = ((w.alloc (.cells #[.int .i64 y, .slice a l.length cap] 26)).alloc (.cells #[.int .i64 s, .int .i64 c, .int .i64 t] 28)).alloc (.cells #[.int .i64 0, .int .i64 0, .slice none 0 0, .slice none 0 0] 45) := ⟨_, rfl⟩
  have HW : Hid (W = ((w.alloc (.cells #[.int .i64 y, .slice a l.length cap] 26)).alloc (.cells #[.int .i64 s, .int .i64 c, .int .i64 t] 28)).alloc (.cells #[.int .i64 0, .int .i64 0, .slice none 0 0, .slice none 0 0] 45)) := hW
  have K0 : Hid ((Below w.heap.size w W ∧ D2 W w.heap.size (.int .i64 y) (.slice a l.length cap) ∧ D3 W (w.heap.size + 1) (.int .i64 s) (.int .i64 c) (.int .i64 t) ∧ D4 W (w.heap.size + 2) (.int .i64 0) (.int .i64 0) (.slice none 0 0) (.slice none 0 0)) ∧ W.heap.size = w.heap.size + 3) := by
    have h1 := D2.new w (.int .i64 y) (.slice a l.length cap) 26
    obtain ⟨W1, hW1⟩ : ∃ W1, W1 = w.alloc (.cells #[.int .i64 y, .slice a l.length cap] 26) := ⟨_, rfl⟩
    rw [← hW1] at h1 hW
    have e1 : W1.heap.size = w.heap.size + 1 := by rw [hW1]; simp
    have b1 : Below w.heap.size w W1 := by rw [hW1]; exact (Below.refl _ _).alloc (Nat.le_refl _) _
    have h2 := D3.new W1 (.int .i64 s) (.int .i64 c) (.int .i64 t) 28
    obtain ⟨W2, hW2⟩ : ∃ W2, W2 = W1.alloc (.cells #[.int .i64 s, .int .i64 c, .int .i64 t] 28) := ⟨_, rfl⟩
    rw [← hW2] at h2 hW
    have e2 : W2.heap.size = w.heap.size + 2 := by rw [hW2]; simp [e1]
    have b2 : Below W1.heap.size W1 W2 := by rw [hW2]; exact (Below.refl _ _).alloc (Nat.le_refl _) _
    have b3 : Below W2.heap.size W2 W := by rw [hW]; exact (Below.refl _ _).alloc (Nat.le_refl _) _
    have h3 := D4.new W2 (.int .i64 0) (.int .i64 0) (.slice none 0 0) (.slice none 0 0) 45
    rw [← hW] at h3
    rw [e1] at h2
    rw [e2] at h3
    have b13 := b2.trans (b3.mono b2.size)
    exact ⟨⟨b1.trans (b13.mono b1.size), h1.keep b13, h2.keep b3, h3⟩, by rw [hW]; simp [e2]⟩
  have HA : Hid (Calls Try.prog 11 #[.agg #[.int .i64 y, .slice a l.length cap], .agg #[.int .i64 s, .int .i64 c, .int .i64 t]] W fun e w' => e = .returned (.int .i64 (blkC y l s c t)) ∧ Below W.heap.size W w') := implBlk_any y a cap l s c t W hcap (hi.keep K0.out.1.1)
  have HU : Hid (∀ x w, Calls Try.prog 41 #[.int .i64 x] w fun r w' => r = .returned (.bool (timeB x)) ∧ w' = w) := isTime_all
  have HDB : Hid (l.length ≤ 8 → ∀ X, Below w.heap.size w X → Calls Try.prog 55 #[.slice a l.length cap, .int .i64 now] X fun e w' => NsRes w' X.heap.size (goneW now l) e ∧ Below X.heap.size X w') := fun h X hX => dueBy_any X a cap l now h (hi.keep hX)
  have HCO : Hid (l.length ≤ 8 → nodupW l = true → ∀ X ia ic, Below w.heap.size w X → NsIn X ia (goneW now l) → Calls Try.prog 54 #[.agg #[.int .i64 y, .slice a l.length cap], .slice ia (goneW now l).length ic] X fun e w' => OffR w' X.heap.size y (leftW now l) ia (goneW now l).length ic e ∧ Below X.heap.size X w') := fun h hn X ia ic hX hni => by
    rw [← without_gone hn now]
    exact callOff_any X y a ia cap ic l (goneW now l) h (Nat.le_trans (goneW_len _ _) h) (hi.keep hX) hni
  have HG : Hid (blkC y l s c t = 0 → GoodB y l s c t) := goodB_of
  have H1 : Hid (¬ blkC y l s c t = 0 → expireR y l s c t now = ⟨blkC y l s c t, 0, [], []⟩) := expire_bad
  have H2 : Hid (blkC y l s c t = 0 → timeB now = false → expireR y l s c t now = ⟨3, 0, [], []⟩) := expire_range
  have H3 : Hid (blkC y l s c t = 0 → timeB now = true → expireR y l s c t now = ⟨0, y, leftW now l, goneW now l⟩) := expire_ok
  clear hi hW
  generalize expireR y l s c t now = q at *
  generalize blkC y l s c t = qc at *
  generalize hn : l.length = n at *
  have HN : Hid (l.length = n) := hn
  clear hn
  go_enter Try.func18, Try.ntmps18
  go_wp2_with fail
  rw [← HW.out]
  refine HA.out.mono ?_
  rintro e w1 ⟨rfl, hb1⟩
  have K0' : Hid ((Below w.heap.size w W ∧ D2 W w.heap.size (.int .i64 y) (.slice a n cap) ∧ D3 W (w.heap.size + 1) (.int .i64 s) (.int .i64 c) (.int .i64 t) ∧ D4 W (w.heap.size + 2) (.int .i64 0) (.int .i64 0) (.slice none 0 0) (.slice none 0 0)) ∧ w.heap.size + 3 ≤ W.heap.size) := ⟨K0.out.1, Nat.le_of_eq K0.out.2.symm⟩
  have K1 : Hid ((Below w.heap.size w w1 ∧ D2 w1 w.heap.size (.int .i64 y) (.slice a n cap) ∧ D3 w1 (w.heap.size + 1) (.int .i64 s) (.int .i64 c) (.int .i64 t) ∧ D4 w1 (w.heap.size + 2) (.int .i64 0) (.int .i64 0) (.slice none 0 0) (.slice none 0 0)) ∧ w.heap.size + 3 ≤ w1.heap.size) := ⟨⟨K0'.out.1.1.trans (hb1.mono K0'.out.1.1.size), K0'.out.1.2.1.keep hb1, K0'.out.1.2.2.1.keep hb1, K0'.out.1.2.2.2.keep hb1⟩, Nat.le_trans K0'.out.2 hb1.size⟩
  clear hb1 K0 K0' HW HA
  by_cases hc : qc = 0
  rotate_left
  · have n0 : (qc != 0) = true := by simpa using hc
    have HE := hid11 (H1.out hc)
    clear H1 H2 H3 HG HU HDB HCO
    obtain ⟨r0, r1, r2, r3, rf, _⟩ := K1.out.1.2.2.2
    go_wp2_with fail
    exact bodyPost_ret (v := .agg #[.int .i64 qc, .int .i64 0, .slice none 0 0, .slice none 0 0]) (by simp [results, Try.results18, go_sem, r0, r1, r2, r3]) rfl ⟨ExRes.mk HE.out rfl rfl (XN.nil _ _) (by simp), ((((K1.out.1.1.setCell (by simp <;> omega) _).setCell (by simp <;> omega) _).setCell (by simp <;> omega) _).setCell (by simp <;> omega) _)⟩
  subst hc
  have hg := HG.out (by trivial)
  obtain ⟨hs, hcc, ht, hy, hln, hwt, hnd⟩ := hg
  rw [HN.out] at hln
  have hn8 : n ≤ 8 := by omega
  have HD1 := hid11 (HDB.out hn8)
  have HC1 := hid11 (HCO.out hn8 hnd)
  clear HG H1 HDB HCO hwt hnd
  cases hx1 : timeB now
  · have HE := hid11 (H2.out (by trivial) hx1)
    clear H2 H3 HD1 HC1
    go_wp2_with fail
    refine (HU.out now _).mono ?_
    rintro e w2 ⟨rfl, rfl⟩
    rw [hx1]
    obtain ⟨r0, r1, r2, r3, rf, _⟩ := K1.out.1.2.2.2
    go_wp2_with fail
    exact bodyPost_ret (v := .agg #[.int .i64 3, .int .i64 0, .slice none 0 0, .slice none 0 0]) (by simp [results, Try.results18, go_sem, r0, r1, r2, r3]) rfl ⟨ExRes.mk HE.out rfl rfl (XN.nil _ _) (by simp), ((((K1.out.1.1.setCell (by simp <;> omega) _).setCell (by simp <;> omega) _).setCell (by simp <;> omega) _).setCell (by simp <;> omega) _)⟩
  have HE := hid11 (H3.out (by trivial) hx1)
  clear H2 H3
  generalize leftW now l = l2 at *
  generalize goneW now l = l3 at *
  obtain ⟨n2, hl2⟩ : ∃ n, l2.length = n := ⟨_, rfl⟩
  have HN2 := hid11 hl2
  obtain ⟨n3, hl3⟩ : ∃ n, l3.length = n := ⟨_, rfl⟩
  have HN3 := hid11 hl3
  rw [hl3] at HC1
  clear hl2 hl3
  go_wp2_with fail
  refine (HU.out now _).mono ?_
  rintro e w2 ⟨rfl, rfl⟩
  rw [hx1]
  obtain ⟨e0, e1, ef, _⟩ := K1.out.1.2.1
  have HKS : Hid (∀ X, Below (w.heap.size + 2) w2 X → X.cell? ⟨w.heap.size, 0, none⟩ = some (.int .i64 y) ∧ X.cell? ⟨w.heap.size, 1, none⟩ = some (.slice a n cap)) := fun X hb => ⟨(K1.out.1.2.1.low hb (by omega)).c0, (K1.out.1.2.1.low hb (by omega)).c1⟩
  have hw3 : w.heap.size + 2 ≤ w2.heap.size := by have := K1.out.2; omega
  have B0 : Hid (Below w2.heap.size w2 w2.drew) := (Below.refl _ _).drew
  have B0L : Hid (Below (w.heap.size + 2) w2 w2.drew) := B0.out.mono hw3
  have HL3 := hid11 hw3
  clear hw3 HU hx1
  go_wp2_with fail
  clear e0 e1 ef
  go_region_held3 (fun X => X.cell? ⟨w.heap.size, 0, none⟩ = some (.int .i64 y) ∧ X.cell? ⟨w.heap.size, 1, none⟩ = some (.slice a n cap))
    (first | exact HKS.out _ BAS.out | exact HKS.out _ BBL.out | exact HKS.out _ BAL.out | exact HKS.out _ B0L.out)
    (first
    | (go_at_call 55; refine (HD1.out _ (K1.out.1.1.trans (B0.out.mono K1.out.1.1.size))).mono ?_; rintro r0 u1 ⟨⟨ia, ic, rfl, mi⟩, hb⟩; rw [HN3.out] at mi ⊢; have BA : Hid (Below w2.heap.size w2 u1) := B0.out.trans (hb.mono B0.out.size); have MI : Hid (NsNew u1 w2.heap.size (.slice ia n3 ic) l3) := mi.lower B0.out.size; have BAL : Hid (Below (w.heap.size + 2) w2 u1) := BA.out.mono HL3.out; clear hb mi)
    | (go_at_call 54; refine (HC1.out _ ia ic (K1.out.1.1.trans (BA.out.mono K1.out.1.1.size)) (by obtain ⟨x1, x2, ex, ix⟩ := MI.out.in; simp only [Value.slice.injEq] at ex; rw [ex.1]; exact ix)).mono ?_; rintro r0 u2 ⟨⟨va, vc, rfl, mv, mc⟩, hb⟩; rw [HN2.out] at mv mc ⊢; have BB : Hid (Below w2.heap.size w2 u2) := BA.out.trans (hb.mono BA.out.size); have XX : Hid (XN u2 w2.heap.size ⟨va, vc, ia, ic⟩ n2 l2 n3 l3 ∧ n2 ≤ vc) := ⟨XN.two MI.out hb mv BA.out.size, mc⟩; have BBL : Hid (Below (w.heap.size + 2) w2 u2) := BB.out.mono HL3.out; have BAS : Hid (Below (w.heap.size + 2) w2 ((((u2.setCell ⟨w.heap.size + 2, 0, none⟩ (.int .i64 0)).setCell ⟨w.heap.size + 2, 1, none⟩ (.int .i64 y)).setCell ⟨w.heap.size + 2, 2, none⟩ (.slice va n2 vc)).setCell ⟨w.heap.size + 2, 3, none⟩ (.slice ia n3 ic))) := ((((BBL.out.setCell (Nat.le_refl _) _).setCell (Nat.le_refl _) _).setCell (Nat.le_refl _) _).setCell (Nat.le_refl _) _); obtain ⟨r0, r1, r2, r3, rf, _⟩ := K1.out.1.2.2.2.keep BB.out; clear hb mv mc))
  all_goals
    have HB6 : Hid (w.heap.size + 3 ≤ w2.heap.size) := K1.out.2
    have HNW : Hid (∀ y0 y1 y2 y3, XN ((((u2.setCell ⟨w.heap.size + 2, 0, none⟩ y0).setCell ⟨w.heap.size + 2, 1, none⟩ y1).setCell ⟨w.heap.size + 2, 2, none⟩ y2).setCell ⟨w.heap.size + 2, 3, none⟩ y3) w.heap.size ⟨va, vc, ia, ic⟩ n2 l2 n3 l3) := fun y0 y1 y2 y3 => by
      refine XN.lower ?_ (Nat.le_trans (Nat.le_add_right _ 3) HB6.out)
      refine XN.gw2 (g := w.heap.size + 2) ?_ (gwSet _ _ _ _) (by have := HB6.out; omega)
      refine XN.gw2 (g := w.heap.size + 2) ?_ (gwSet _ _ _ _) (by have := HB6.out; omega)
      refine XN.gw2 (g := w.heap.size + 2) ?_ (gwSet _ _ _ _) (by have := HB6.out; omega)
      exact XN.gw2 (g := w.heap.size + 2) XX.out.1 (gwSet _ _ _ _) (by have := HB6.out; omega)
    have HCP := hid11 XX.out.2
    have HBW := hid11 (K1.out.1.1.trans (BB.out.mono K1.out.1.1.size))
    clear HKS B0 B0L BA BAL BAS BB BBL XX MI K1 HD1 HC1 HL3
    go_wp2_with fail
    exact bodyPost_ret (v := .agg #[.int .i64 0, .int .i64 y, .slice va n2 vc, .slice ia n3 ic]) (by simp [results, Try.results18, go_sem, r0, r1, r2, r3]) rfl ⟨ExRes.mk HE.out HN2.out HN3.out (HNW.out _ _ _ _) HCP.out, ((((HBW.out.setCell (by simp <;> omega) _).setCell (by simp <;> omega) _).setCell (by simp <;> omega) _).setCell (by simp <;> omega) _)⟩
end Go.Proofs.Ytmgidcigihpbeaa
/-
  CancelBulk, by the program.
-/
namespace Go.Proofs.Ytmgidcigihpbeaa
open Go.ChangeShapes Go.WideShapes Go.ChangeAt Go.RowKit Go.Sort
set_option maxRecDepth 100000 in
set_option maxHeartbeats 16000000 in
theorem implCancel_any (w : World) (y : Int) (a : Option Addr) (cap : Nat) (l : List Wt) (s c t x : Int) (hl : l.length ≤ 1048576) (hcap : l.length ≤ cap) (hi : WtIn w a l) :
    Calls Try.prog 20 #[.agg #[.int .i64 y, .slice a l.length cap], .agg #[.int .i64 s, .int .i64 c, .int .i64 t], .int .i64 x] w fun e w' => ExRes w' w.heap.size (cancelR y l s c t x) e ∧ Below w.heap.size w w' := by
  obtain ⟨W, hW⟩ : ∃ W, W = ((w.alloc (.cells #[.int .i64 y, .slice a l.length cap] 26)).alloc (.cells #[.int .i64 s, .int .i64 c, .int .i64 t] 28)).alloc (.cells #[.int .i64 0, .int .i64 0, .slice none 0 0, .slice none 0 0] 45) := ⟨_, rfl⟩
  have HW : Hid (W = ((w.alloc (.cells #[.int .i64 y, .slice a l.length cap] 26)).alloc (.cells #[.int .i64 s, .int .i64 c, .int .i64 t] 28)).alloc (.cells #[.int .i64 0, .int .i64 0, .slice none 0 0, .slice none 0 0] 45)) := hW
  have K0 : Hid ((Below w.heap.size w W ∧ D2 W w.heap.size (.int .i64 y) (.slice a l.length cap) ∧ D3 W (w.heap.size + 1) (.int .i64 s) (.int .i64 c) (.int .i64 t) ∧ D4 W (w.heap.size + 2) (.int .i64 0) (.int .i64 0) (.slice none 0 0) (.slice none 0 0)) ∧ W.heap.size = w.heap.size + 3) := by
    have h1 := D2.new w (.int .i64 y) (.slice a l.length cap) 26
    obtain ⟨W1, hW1⟩ : ∃ W1, W1 = w.alloc (.cells #[.int .i64 y, .slice a l.length cap] 26) := ⟨_, rfl⟩
    rw [← hW1] at h1 hW
    have e1 : W1.heap.size = w.heap.size + 1 := by rw [hW1]; simp
    have b1 : Below w.heap.size w W1 := by rw [hW1]; exact (Below.refl _ _).alloc (Nat.le_refl _) _
    have h2 := D3.new W1 (.int .i64 s) (.int .i64 c) (.int .i64 t) 28
    obtain ⟨W2, hW2⟩ : ∃ W2, W2 = W1.alloc (.cells #[.int .i64 s, .int .i64 c, .int .i64 t] 28) := ⟨_, rfl⟩
    rw [← hW2] at h2 hW
    have e2 : W2.heap.size = w.heap.size + 2 := by rw [hW2]; simp [e1]
    have b2 : Below W1.heap.size W1 W2 := by rw [hW2]; exact (Below.refl _ _).alloc (Nat.le_refl _) _
    have b3 : Below W2.heap.size W2 W := by rw [hW]; exact (Below.refl _ _).alloc (Nat.le_refl _) _
    have h3 := D4.new W2 (.int .i64 0) (.int .i64 0) (.slice none 0 0) (.slice none 0 0) 45
    rw [← hW] at h3
    rw [e1] at h2
    rw [e2] at h3
    have b13 := b2.trans (b3.mono b2.size)
    exact ⟨⟨b1.trans (b13.mono b1.size), h1.keep b13, h2.keep b3, h3⟩, by rw [hW]; simp [e2]⟩
  have HA : Hid (Calls Try.prog 11 #[.agg #[.int .i64 y, .slice a l.length cap], .agg #[.int .i64 s, .int .i64 c, .int .i64 t]] W fun e w' => e = .returned (.int .i64 (blkC y l s c t)) ∧ Below W.heap.size W w') := implBlk_any y a cap l s c t W hcap (hi.keep K0.out.1.1)
  have HWD : Hid (∀ X, Below w.heap.size w X → Calls Try.prog 42 #[.slice a l.length cap, .int .i64 x] X fun e w' => e = .returned (.bool (hasW l x)) ∧ Below X.heap.size X w') := fun X hX => isWaiting_any X a cap l x hl (hi.keep hX)
  have HCO : Hid (l.length ≤ 8 → ∀ X ia ic, Below w.heap.size w X → NsIn X ia [x] → Calls Try.prog 54 #[.agg #[.int .i64 y, .slice a l.length cap], .slice ia 1 ic] X fun e w' => OffR w' X.heap.size y (withoutW l [x]) ia 1 ic e ∧ Below X.heap.size X w') := fun h X ia ic hX hni => callOff_any X y a ia cap ic l [x] h (by simp) (hi.keep hX) hni
  have HG : Hid (blkC y l s c t = 0 → GoodB y l s c t) := goodB_of
  have H1 : Hid (¬ blkC y l s c t = 0 → cancelR y l s c t x = ⟨blkC y l s c t, 0, [], []⟩) := cancel_bad
  have H2 : Hid (blkC y l s c t = 0 → hasW l x = false → cancelR y l s c t x = ⟨4, 0, [], []⟩) := cancel_none
  have H3 : Hid (blkC y l s c t = 0 → hasW l x = true → cancelR y l s c t x = ⟨0, y, withoutW l [x], [x]⟩) := cancel_ok
  clear hi hW
  generalize cancelR y l s c t x = q at *
  generalize blkC y l s c t = qc at *
  generalize hn : l.length = n at *
  have HN : Hid (l.length = n) := hn
  clear hn
  go_enter Try.func20, Try.ntmps20
  go_wp2_with fail
  rw [← HW.out]
  refine HA.out.mono ?_
  rintro e w1 ⟨rfl, hb1⟩
  have K0' : Hid ((Below w.heap.size w W ∧ D2 W w.heap.size (.int .i64 y) (.slice a n cap) ∧ D3 W (w.heap.size + 1) (.int .i64 s) (.int .i64 c) (.int .i64 t) ∧ D4 W (w.heap.size + 2) (.int .i64 0) (.int .i64 0) (.slice none 0 0) (.slice none 0 0)) ∧ w.heap.size + 3 ≤ W.heap.size) := ⟨K0.out.1, Nat.le_of_eq K0.out.2.symm⟩
  have K1 : Hid ((Below w.heap.size w w1 ∧ D2 w1 w.heap.size (.int .i64 y) (.slice a n cap) ∧ D3 w1 (w.heap.size + 1) (.int .i64 s) (.int .i64 c) (.int .i64 t) ∧ D4 w1 (w.heap.size + 2) (.int .i64 0) (.int .i64 0) (.slice none 0 0) (.slice none 0 0)) ∧ w.heap.size + 3 ≤ w1.heap.size) := ⟨⟨K0'.out.1.1.trans (hb1.mono K0'.out.1.1.size), K0'.out.1.2.1.keep hb1, K0'.out.1.2.2.1.keep hb1, K0'.out.1.2.2.2.keep hb1⟩, Nat.le_trans K0'.out.2 hb1.size⟩
  clear hb1 K0 K0' HW HA
  by_cases hc : qc = 0
  rotate_left
  · have n0 : (qc != 0) = true := by simpa using hc
    have HE := hid11 (H1.out hc)
    clear H1 H2 H3 HG HWD HCO
    obtain ⟨r0, r1, r2, r3, rf, _⟩ := K1.out.1.2.2.2
    go_wp2_with fail
    exact bodyPost_ret (v := .agg #[.int .i64 qc, .int .i64 0, .slice none 0 0, .slice none 0 0]) (by simp [results, Try.results20, go_sem, r0, r1, r2, r3]) rfl ⟨ExRes.mk HE.out rfl rfl (XN.nil _ _) (by simp), ((((K1.out.1.1.setCell (by simp <;> omega) _).setCell (by simp <;> omega) _).setCell (by simp <;> omega) _).setCell (by simp <;> omega) _)⟩
  subst hc
  have hg := HG.out (by trivial)
  obtain ⟨hs, hcc, ht, hy, hln, hwt, hnd⟩ := hg
  rw [HN.out] at hln
  have hn8 : n ≤ 8 := by omega
  have HC1 := hid11 (HCO.out hn8)
  clear HG H1 HCO hwt hnd
  obtain ⟨e0, e1, ef, _⟩ := K1.out.1.2.1
  go_wp2_with fail
  refine (HWD.out _ K1.out.1.1).mono ?_
  rintro e w3 ⟨rfl, hb3⟩
  have K2 : Hid ((Below w.heap.size w w3 ∧ D2 w3 w.heap.size (.int .i64 y) (.slice a n cap) ∧ D3 w3 (w.heap.size + 1) (.int .i64 s) (.int .i64 c) (.int .i64 t) ∧ D4 w3 (w.heap.size + 2) (.int .i64 0) (.int .i64 0) (.slice none 0 0) (.slice none 0 0)) ∧ w.heap.size + 3 ≤ w3.heap.size) := ⟨⟨K1.out.1.1.trans (hb3.mono K1.out.1.1.size), K1.out.1.2.1.keep hb3, K1.out.1.2.2.1.keep hb3, K1.out.1.2.2.2.keep hb3⟩, Nat.le_trans K1.out.2 hb3.size⟩
  clear HWD hb3 K1 e0 e1 ef
  cases hh : hasW l x
  · have HE := hid11 (H2.out (by trivial) hh)
    clear H2 H3 hh HC1
    obtain ⟨r0, r1, r2, r3, rf, _⟩ := K2.out.1.2.2.2
    go_wp2_with fail
    exact bodyPost_ret (v := .agg #[.int .i64 4, .int .i64 0, .slice none 0 0, .slice none 0 0]) (by simp [results, Try.results20, go_sem, r0, r1, r2, r3]) rfl ⟨ExRes.mk HE.out rfl rfl (XN.nil _ _) (by simp), ((((K2.out.1.1.setCell (by simp <;> omega) _).setCell (by simp <;> omega) _).setCell (by simp <;> omega) _).setCell (by simp <;> omega) _)⟩
  have HE := hid11 (H3.out (by trivial) hh)
  clear H2 H3 hh
  generalize withoutW l [x] = l2 at *
  obtain ⟨n2, hl2⟩ : ∃ n, l2.length = n := ⟨_, rfl⟩
  have HN2 := hid11 hl2
  clear hl2
  obtain ⟨V6, hV6⟩ : ∃ V6, V6 = w3.alloc (.cells #[.int .i64 x] 2) := ⟨_, rfl⟩
  have HV6 := hid11 hV6
  have b6 : Below w3.heap.size w3 V6 := by rw [hV6]; exact (Below.refl _ _).alloc (Nat.le_refl _) _
  have HI6 : Hid (NsNew V6 w3.heap.size (.slice (some ⟨w3.heap.size, 0, none⟩) 1 1) [x] ∧ NsIn V6 (some ⟨w3.heap.size, 0, none⟩) [x]) := by
    have hat : NsAt V6 w3.heap.size 0 [x] := fun i z hz => by
      match i, hz with
      | 0, hz => simp at hz; subst hz; rw [hV6]; simp
    exact ⟨.inr ⟨w3.heap.size, 0, 1, rfl, Nat.le_refl _, by rw [hV6]; simp, hat, fun o => by rw [hV6]; simp⟩, .inr ⟨w3.heap.size, 0, rfl, hat⟩⟩
  have K3 : Hid ((Below w.heap.size w V6 ∧ D2 V6 w.heap.size (.int .i64 y) (.slice a n cap) ∧ D3 V6 (w.heap.size + 1) (.int .i64 s) (.int .i64 c) (.int .i64 t) ∧ D4 V6 (w.heap.size + 2) (.int .i64 0) (.int .i64 0) (.slice none 0 0) (.slice none 0 0)) ∧ w.heap.size + 3 ≤ V6.heap.size) := ⟨⟨K2.out.1.1.trans (b6.mono K2.out.1.1.size), K2.out.1.2.1.keep b6, K2.out.1.2.2.1.keep b6, K2.out.1.2.2.2.keep b6⟩, Nat.le_trans K2.out.2 b6.size⟩
  obtain ⟨b0, hb0⟩ : ∃ b, w3.heap.size = b := ⟨_, rfl⟩
  have HZ6 : Hid (w.heap.size + 3 ≤ b0 ∧ V6.heap.size = b0 + 1) := ⟨by rw [← hb0]; exact K2.out.2, by rw [hV6, ← hb0]; simp⟩
  rw [hb0] at HI6
  obtain ⟨e0, e1, ef, _⟩ := K2.out.1.2.1
  clear b6 hV6 K2
  go_wp2_with fail
  rw [← HV6.out]
  clear e0 e1 ef HV6 hb0
  refine (HC1.out _ _ 1 K3.out.1.1 HI6.out.2).mono ?_
  rintro e u2 ⟨⟨va, vc, rfl, mv, mc⟩, hb⟩
  rw [HN2.out] at mv mc ⊢
  have HB6 : Hid (w.heap.size + 3 ≤ b0) := HZ6.out.1
  have XX : Hid (XN u2 b0 ⟨va, vc, some ⟨b0, 0, none⟩, 1⟩ n2 l2 1 [x] ∧ n2 ≤ vc) := ⟨⟨mv.lower (by have := HZ6.out.2; omega), HI6.out.1.keep hb, fun g h hg hh => by
    rcases mv with ⟨e, _⟩ | ⟨g5, o5, c5, e5, hb5, _⟩
    · exact .inl e
    · simp only [Value.slice.injEq] at e5
      rw [e5.1] at hg
      simp only [Value.ownBlock, Option.some.injEq] at hg hh
      have := HZ6.out.2
      right; right; omega⟩, mc⟩
  have HNW : Hid (∀ y0 y1 y2 y3, XN ((((u2.setCell ⟨w.heap.size + 2, 0, none⟩ y0).setCell ⟨w.heap.size + 2, 1, none⟩ y1).setCell ⟨w.heap.size + 2, 2, none⟩ y2).setCell ⟨w.heap.size + 2, 3, none⟩ y3) w.heap.size ⟨va, vc, some ⟨b0, 0, none⟩, 1⟩ n2 l2 1 [x]) := fun y0 y1 y2 y3 => by
    refine XN.lower ?_ (Nat.le_trans (Nat.le_add_right _ 3) HB6.out)
    refine XN.gw2 (g := w.heap.size + 2) ?_ (gwSet _ _ _ _) (by have := HB6.out; omega)
    refine XN.gw2 (g := w.heap.size + 2) ?_ (gwSet _ _ _ _) (by have := HB6.out; omega)
    refine XN.gw2 (g := w.heap.size + 2) ?_ (gwSet _ _ _ _) (by have := HB6.out; omega)
    exact XN.gw2 (g := w.heap.size + 2) XX.out.1 (gwSet _ _ _ _) (by have := HB6.out; omega)
  have HCP := hid11 XX.out.2
  have HBW := hid11 (K3.out.1.1.trans (hb.mono K3.out.1.1.size))
  obtain ⟨r0, r1, r2, r3, rf, _⟩ := K3.out.1.2.2.2.keep hb
  clear XX K3 HC1 HI6 HZ6 hb mv mc
  go_wp2_with fail
  exact bodyPost_ret (v := .agg #[.int .i64 0, .int .i64 y, .slice va n2 vc, .slice (some ⟨b0, 0, none⟩) 1 1]) (by simp [results, Try.results20, go_sem, r0, r1, r2, r3]) rfl ⟨ExRes.mk HE.out HN2.out rfl (HNW.out _ _ _ _) HCP.out, ((((HBW.out.setCell (by simp <;> omega) _).setCell (by simp <;> omega) _).setCell (by simp <;> omega) _).setCell (by simp <;> omega) _)⟩
end Go.Proofs.Ytmgidcigihpbeaa
/-
  Who goes out of a bulkhead of one's own, by the model.
-/
namespace Go.Proofs.Ytmgidcigihpbeaa
open Go.ChangeShapes Go.WideShapes Go.ChangeAt Go.RowKit Go.Sort
def GoneB (w w' : World) (O : Nat) (y : Int) (L : List Wt) (I : List Int) (e : Ending) : Prop := ∃ va vc vi, e = .returned vi ∧ D2 w' O (.int .i64 y) (.slice va L.length vc) ∧ OwnWt w' w.heap.size (.slice va L.length vc) L ∧ OwnNs w' w.heap.size vi I ∧ (∀ q, (Value.slice va L.length vc).ownBlock = some q → vi.ownBlock ≠ some q) ∧ w.grownBy w' (some O)
set_option maxRecDepth 100000 in
set_option maxHeartbeats 8000000 in
theorem specGone_any (w : World) (O : Nat) (y : Int) (a : Option Addr) (cap : Nat) (l : List Wt) (now : Int) (hl : l.length ≤ 8) (hB : D2 w O (.int .i64 y) (.slice a l.length cap)) (hi : WtIn w a l) :
    Calls Try.prog 58 #[.pointer (some ⟨O, 0, none⟩), .int .i64 now] w fun e w' => GoneB w w' O y (leftW now l) (goneW now l) e := by
  have HI : Hid (WtIn w a l) := hi
  have HB := hid11 hB
  have HJ0 : Hid (XJ w ((w.alloc (.cells #[] 40)).alloc (.cells #[] 2)) w.heap.size (.slice (some ⟨w.heap.size, 0, none⟩) 0 0) (.slice (some ⟨w.heap.size + 1, 0, none⟩) 0 0) [] []) := by
    refine ⟨(OwnWt.made0 w w.heap.size (Nat.le_refl _)).below ((Below.refl _ _).alloc (Nat.le_refl _) _), ?_, ?_, ((Below.refl _ _).alloc (Nat.le_refl _) _).alloc (by simp) _⟩
    · have := World.ownsRow_made (w.alloc (.cells #[] 40)) (base := w.heap.size) (e := 2) (size := 1) #[] 0 (by simp) (by unfold maxLen; omega) rfl
      unfold OwnNs
      simpa [wNs] using this
    · intro q hq e
      simp only [Value.ownBlock, Option.some.injEq] at hq e
      omega
  obtain ⟨n, hn⟩ : ∃ n, l.length = n := ⟨_, rfl⟩
  have HN : Hid (l.length = n) := hn
  rw [hn] at HB hl
  clear hn hi hB
  go_enter Try.func58, Try.ntmps58
  go_wp2_with fail
  go_loopw [5, 6, 7] (fun u v i wr => ∃ k : Nat, k ≤ n ∧ i = .int .i64 k ∧ XJ w wr w.heap.size u v (leftW now (l.take k)) (goneW now (l.take k))) (fun _ _ i _ => n - (intOf i).toNat)
  case atStart => exact ⟨0, Nat.zero_le _, rfl, HJ0.out⟩
  case round =>
    obtain ⟨k, hk, rfl, hj⟩ := hrel
    clear HJ0
    have HJ := hid11 hj
    obtain ⟨o0, o1, of, olt⟩ := HB.out.keep hj.lo
    have hsz : w.heap.size ≤ wr.heap.size := hj.lo.size
    clear hj
    by_cases hlt : k < n
    · obtain ⟨r, hr⟩ : ∃ r, l[k]? = some r := ⟨l[k]'(by have := HN.out; omega), List.getElem?_eq_getElem _⟩
      rcases (HI.out.keep HJ.out.lo) with h | ⟨b, off, rfl, hat⟩
      · subst h; simp at hr
      obtain ⟨p0, p1⟩ := hat k r hr
      have gk : (k : Int) < n := by omega
      have gk0 : (0 : Int) ≤ k := by omega
      have HG := hid11 (goneW_take (now := now) hr)
      have HL := hid11 (leftW_take (now := now) hr)
      have hgl : (goneW now (l.take k)).length ≤ 8 := Nat.le_trans (goneW_len _ _) (by rw [List.length_take]; have := HN.out; omega)
      have hll : (leftW now (l.take k)).length ≤ 8 := Nat.le_trans (leftW_len _ _) (by rw [List.length_take]; have := HN.out; omega)
      clear hr hat
      by_cases hd : r.du ≤ now
      · have HG2 : Hid (goneW now (l.take (k + 1)) = goneW now (l.take k) ++ [r.wi]) := by show _ = _; rw [HG.out, if_pos hd]
        have HL2 : Hid (leftW now (l.take (k + 1)) = leftW now (l.take k)) := by show _ = _; rw [HL.out, if_pos hd, List.append_nil]
        clear HG HL
        go_wp2_with (at_builtin; refine wpList_append1Ns wr rfl (.tmp 29) (.tmp 38) rfl w.heap.size u6 (goneW now (l.take k)) r.wi rfl rfl HJ.out.oi (by omega) hsz ?_; intro g cp w2 h1 h2 h3; have HJ2 := hid11 (HJ.out.tellI hsz h1 h2 h3); clear h1 h2 h3)
        go_roundw
        case rel => exact ⟨k + 1, by omega, by go_num, by rw [HG2.out, HL2.out]; exact HJ2.out⟩
        case measure => simp [intOf]; omega
      · have HG2 : Hid (goneW now (l.take (k + 1)) = goneW now (l.take k)) := by show _ = _; rw [HG.out, if_neg hd, List.append_nil]
        have HL2 : Hid (leftW now (l.take (k + 1)) = leftW now (l.take k) ++ [r]) := by show _ = _; rw [HL.out, if_neg hd]
        clear HG HL
        go_wp2_with (at_builtin; refine wpList_appendGWt wr rfl (.tmp 40) (.tmp 48) rfl w.heap.size u5 (leftW now (l.take k)) r rfl rfl HJ.out.ol (by omega) hsz ?_; intro g cp w2 h1 h2 h3; have HJ2 := hid11 (HJ.out.tellL hsz h1 h2 h3); clear h1 h2 h3)
        go_roundw
        case rel => exact ⟨k + 1, by omega, by go_num, by rw [HG2.out, HL2.out]; exact HJ2.out⟩
        case measure => simp [intOf]; omega
    · have ek : l.take k = l := List.take_of_length_le (by have := HN.out; omega)
      rw [ek] at HJ
      have gk : ¬ (k : Int) < n := by omega
      obtain ⟨va, vc, rfl, hcp, _⟩ := HJ.out.ol.in
      have HD := hid11 (HB.out.keep HJ.out.lo)
      have hltO : O < w.heap.size := HB.out.lt
      have of1 := of 1
      clear ek
      go_wp2_with fail
      go_ret
      refine ⟨va, vc, _, rfl, ⟨by rw [World.cell?_setCell_other _ _ _ _ (fun e => by have := congrArg Addr.off e; simp at this)]; exact HD.out.c0, World.cell?_setCell_same _ _ _ HD.out.c1, fun o => by rw [World.frozen?_setCell]; exact HD.out.fr o, by simpa using HD.out.lt⟩, HJ.out.ol.gw (gwSet _ _ _ _) hltO, ?_, HJ.out.ap, gwTrans (gwBelow _ HJ.out.lo) (gwSet _ _ _ _)⟩
      refine OwnNs.kept HJ.out.oi (gwSet wr O 1 _) ?_
      cases e : Value.ownBlock _ with
      | none => exact .inl rfl
      | some q => right; intro e2; have := row_ge HJ.out.oi q e; have := Option.some.inj e2; omega
set_option maxRecDepth 100000 in
set_option maxHeartbeats 8000000 in
theorem specCan_any (w : World) (O : Nat) (y : Int) (a : Option Addr) (cap : Nat) (l : List Wt) (x : Int) (hl : l.length ≤ 8) (hB : D2 w O (.int .i64 y) (.slice a l.length cap)) (hi : WtIn w a l) :
    Calls Try.prog 59 #[.pointer (some ⟨O, 0, none⟩), .int .i64 x] w fun e w' => e = .returned (.tuple #[]) ∧ ∃ va vc, D2 w' O (.int .i64 y) (.slice va (withoutW l [x]).length vc) ∧ OwnWt w' w.heap.size (.slice va (withoutW l [x]).length vc) (withoutW l [x]) ∧ w.grownBy w' (some O) := by
  have HI : Hid (WtIn w a l) := hi
  have HB := hid11 hB
  have HJ0 : Hid (OwnWt (w.alloc (.cells #[] 40)) w.heap.size (.slice (some ⟨w.heap.size, 0, none⟩) 0 0) [] ∧ Below w.heap.size w (w.alloc (.cells #[] 40))) := ⟨OwnWt.made0 w w.heap.size (Nat.le_refl _), (Below.refl _ _).alloc (Nat.le_refl _) _⟩
  obtain ⟨n, hn⟩ : ∃ n, l.length = n := ⟨_, rfl⟩
  have HN : Hid (l.length = n) := hn
  rw [hn] at HB hl
  clear hn hi hB
  go_enter Try.func59, Try.ntmps59
  go_wp2_with fail
  go_loopw [4, 5] (fun u i wr => ∃ k : Nat, k ≤ n ∧ i = .int .i64 k ∧ OwnWt wr w.heap.size u (withoutW (l.take k) [x]) ∧ Below w.heap.size w wr) (fun _ i _ => n - (intOf i).toNat)
  case atStart => exact ⟨0, Nat.zero_le _, rfl, HJ0.out.1, HJ0.out.2⟩
  case round =>
    obtain ⟨k, hk, rfl, hj, hlo⟩ := hrel
    clear HJ0
    have HJ := hid11 hj
    have HLO := hid11 hlo
    obtain ⟨o0, o1, of, olt⟩ := HB.out.keep hlo
    have hsz : w.heap.size ≤ wr.heap.size := hlo.size
    clear hj
    by_cases hlt : k < n
    · obtain ⟨r, hr⟩ : ∃ r, l[k]? = some r := ⟨l[k]'(by have := HN.out; omega), List.getElem?_eq_getElem _⟩
      rcases (HI.out.keep hlo) with h | ⟨b, off, rfl, hat⟩
      · subst h; simp at hr
      obtain ⟨p0, p1⟩ := hat k r hr
      have gk : (k : Int) < n := by omega
      have gk0 : (0 : Int) ≤ k := by omega
      have HL := hid11 (withoutW_take (ids := [x]) hr)
      have hll : (withoutW (l.take k) [x]).length ≤ 8 := Nat.le_trans (withoutW_len _ _) (by rw [List.length_take]; have := HN.out; omega)
      clear hr hat hlo
      by_cases hd : r.wi = x
      · have HL2 : Hid (withoutW (l.take (k + 1)) [x] = withoutW (l.take k) [x]) := by show _ = _; rw [HL.out, if_pos (by simp [hd]), List.append_nil]
        clear HL
        rw [hd] at p0
        go_wp2_with fail
        go_roundw
        case rel => exact ⟨k + 1, by omega, by go_num, by rw [HL2.out]; exact HJ.out, HLO.out⟩
        case measure => simp [intOf]; omega
      · have HL2 : Hid (withoutW (l.take (k + 1)) [x] = withoutW (l.take k) [x] ++ [r]) := by show _ = _; rw [HL.out, if_neg (by simp [hd])]
        have hd2 : (r.wi != x) = true := by simpa using hd
        clear HL
        go_wp2_with (at_builtin; refine wpList_append1Wt wr rfl (.tmp 26) (.tmp 34) rfl w.heap.size u4 (withoutW (l.take k) [x]) r rfl rfl HJ.out (by omega) hsz ?_; intro v2 w2 h1 h2 _; have HJ2 : Hid (OwnWt w2 w.heap.size v2 (withoutW (l.take k) [x] ++ [r]) ∧ Below w.heap.size w w2) := ⟨h1, HLO.out.trans h2⟩; clear h1 h2)
        go_roundw
        case rel => exact ⟨k + 1, by omega, by go_num, by rw [HL2.out]; exact HJ2.out.1, HJ2.out.2⟩
        case measure => simp [intOf]; omega
    · have ek : l.take k = l := List.take_of_length_le (by have := HN.out; omega)
      rw [ek] at HJ
      have gk : ¬ (k : Int) < n := by omega
      obtain ⟨va, vc, rfl, hcp, _⟩ := HJ.out.in
      have HD := hid11 (HB.out.keep HLO.out)
      have hltO : O < w.heap.size := HB.out.lt
      have of1 := of 1
      clear ek hlo
      go_wp2_with fail
      refine bodyPost_end (v := .tuple #[]) (by simp [results, Try.results59]) rfl ⟨rfl, va, vc, ⟨by rw [World.cell?_setCell_other _ _ _ _ (fun e => by have := congrArg Addr.off e; simp at this)]; exact HD.out.c0, World.cell?_setCell_same _ _ _ HD.out.c1, fun o => by rw [World.frozen?_setCell]; exact HD.out.fr o, by simpa using HD.out.lt⟩, HJ.out.gw (gwSet _ _ _ _) hltO, gwTrans (gwBelow _ HLO.out) (gwSet _ _ _ _)⟩
end Go.Proofs.Ytmgidcigihpbeaa
/-
  ExpireBulk, by the model.
-/
namespace Go.Proofs.Ytmgidcigihpbeaa
open Go.ChangeShapes Go.WideShapes Go.ChangeAt Go.RowKit Go.Sort
set_option maxRecDepth 100000 in
set_option maxHeartbeats 16000000 in
theorem specExpire_any (w : World) (y : Int) (a : Option Addr) (cap : Nat) (l : List Wt) (s c t now : Int) (hl : l.length ≤ 1048576) (hi : WtIn w a l) :
    Calls Try.prog 21 #[.agg #[.int .i64 y, .slice a l.length cap], .agg #[.int .i64 s, .int .i64 c, .int .i64 t], .int .i64 now] w fun e w' => ExRes w' w.heap.size (expireR y l s c t now) e ∧ Below w.heap.size w w' := by
  obtain ⟨W, hW⟩ : ∃ W, W = ((w.alloc (.cells #[.int .i64 y, .slice a l.length cap] 26)).alloc (.cells #[.int .i64 s, .int .i64 c, .int .i64 t] 28)).alloc (.cells #[.int .i64 0, .int .i64 0, .slice none 0 0, .slice none 0 0] 45) := ⟨_, rfl⟩
  have HW : Hid (W = ((w.alloc (.cells #[.int .i64 y, .slice a l.length cap] 26)).alloc (.cells #[.int .i64 s, .int .i64 c, .int .i64 t] 28)).alloc (.cells #[.int .i64 0, .int .i64 0, .slice none 0 0, .slice none 0 0] 45)) := hW
  have K0 : Hid ((Below w.heap.size w W ∧ D2 W w.heap.size (.int .i64 y) (.slice a l.length cap) ∧ D3 W (w.heap.size + 1) (.int .i64 s) (.int .i64 c) (.int .i64 t) ∧ D4 W (w.heap.size + 2) (.int .i64 0) (.int .i64 0) (.slice none 0 0) (.slice none 0 0)) ∧ W.heap.size = w.heap.size + 3) := by
    have h1 := D2.new w (.int .i64 y) (.slice a l.length cap) 26
    obtain ⟨W1, hW1⟩ : ∃ W1, W1 = w.alloc (.cells #[.int .i64 y, .slice a l.length cap] 26) := ⟨_, rfl⟩
    rw [← hW1] at h1 hW
    have e1 : W1.heap.size = w.heap.size + 1 := by rw [hW1]; simp
    have b1 : Below w.heap.size w W1 := by rw [hW1]; exact (Below.refl _ _).alloc (Nat.le_refl _) _
    have h2 := D3.new W1 (.int .i64 s) (.int .i64 c) (.int .i64 t) 28
    obtain ⟨W2, hW2⟩ : ∃ W2, W2 = W1.alloc (.cells #[.int .i64 s, .int .i64 c, .int .i64 t] 28) := ⟨_, rfl⟩
    rw [← hW2] at h2 hW
    have e2 : W2.heap.size = w.heap.size + 2 := by rw [hW2]; simp [e1]
    have b2 : Below W1.heap.size W1 W2 := by rw [hW2]; exact (Below.refl _ _).alloc (Nat.le_refl _) _
    have b3 : Below W2.heap.size W2 W := by rw [hW]; exact (Below.refl _ _).alloc (Nat.le_refl _) _
    have h3 := D4.new W2 (.int .i64 0) (.int .i64 0) (.slice none 0 0) (.slice none 0 0) 45
    rw [← hW] at h3
    rw [e1] at h2
    rw [e2] at h3
    have b13 := b2.trans (b3.mono b2.size)
    exact ⟨⟨b1.trans (b13.mono b1.size), h1.keep b13, h2.keep b3, h3⟩, by rw [hW]; simp [e2]⟩
  have HA : Hid (Calls Try.prog 12 #[.agg #[.int .i64 y, .slice a l.length cap], .agg #[.int .i64 s, .int .i64 c, .int .i64 t]] W fun e w' => e = .returned (.int .i64 (blkC y l s c t)) ∧ Below W.heap.size W w') := specBlk_any y a cap l s c t W (hi.keep K0.out.1.1)
  have HC : Hid (∀ X, (Below w.heap.size w X ∧ D2 X w.heap.size (.int .i64 y) (.slice a l.length cap) ∧ D3 X (w.heap.size + 1) (.int .i64 s) (.int .i64 c) (.int .i64 t) ∧ D4 X (w.heap.size + 2) (.int .i64 0) (.int .i64 0) (.slice none 0 0) (.slice none 0 0)) → Calls Try.prog 48 #[.pointer (some ⟨w.heap.size, 0, none⟩)] X fun e w' => CopyB w' X.heap.size y l e ∧ Below X.heap.size X w') := fun X hX => specCopyB_any X w.heap.size y a cap l hl hX.2.1 (hi.keep hX.1)
  have HU : Hid (∀ x w, Calls Try.prog 46 #[.int .i64 x] w fun r w' => r = .returned (.bool (timeB x)) ∧ w' = w) := l1Time_all
  have HGN : Hid (∀ X O va vc, l.length ≤ 8 → D2 X O (.int .i64 y) (.slice va l.length vc) → WtIn X va l → Calls Try.prog 58 #[.pointer (some ⟨O, 0, none⟩), .int .i64 now] X fun e w' => GoneB X w' O y (leftW now l) (goneW now l) e) := fun X O va vc h1 h2 h3 => specGone_any X O y va vc l now h1 h2 h3
  have HG : Hid (blkC y l s c t = 0 → GoodB y l s c t) := goodB_of
  have H1 : Hid (¬ blkC y l s c t = 0 → expireR y l s c t now = ⟨blkC y l s c t, 0, [], []⟩) := expire_bad
  have H2 : Hid (blkC y l s c t = 0 → timeB now = false → expireR y l s c t now = ⟨3, 0, [], []⟩) := expire_range
  have H3 : Hid (blkC y l s c t = 0 → timeB now = true → expireR y l s c t now = ⟨0, y, leftW now l, goneW now l⟩) := expire_ok
  clear hi hW
  generalize expireR y l s c t now = q at *
  generalize blkC y l s c t = qc at *
  generalize hn : l.length = n at *
  have HN : Hid (l.length = n) := hn
  clear hn
  go_enter Try.func21, Try.ntmps21
  go_wp2_with fail
  rw [← HW.out]
  refine HA.out.mono ?_
  rintro e w1 ⟨rfl, hb1⟩
  have K0' : Hid ((Below w.heap.size w W ∧ D2 W w.heap.size (.int .i64 y) (.slice a n cap) ∧ D3 W (w.heap.size + 1) (.int .i64 s) (.int .i64 c) (.int .i64 t) ∧ D4 W (w.heap.size + 2) (.int .i64 0) (.int .i64 0) (.slice none 0 0) (.slice none 0 0)) ∧ w.heap.size + 3 ≤ W.heap.size) := ⟨K0.out.1, Nat.le_of_eq K0.out.2.symm⟩
  have K1 : Hid ((Below w.heap.size w w1 ∧ D2 w1 w.heap.size (.int .i64 y) (.slice a n cap) ∧ D3 w1 (w.heap.size + 1) (.int .i64 s) (.int .i64 c) (.int .i64 t) ∧ D4 w1 (w.heap.size + 2) (.int .i64 0) (.int .i64 0) (.slice none 0 0) (.slice none 0 0)) ∧ w.heap.size + 3 ≤ w1.heap.size) := ⟨⟨K0'.out.1.1.trans (hb1.mono K0'.out.1.1.size), K0'.out.1.2.1.keep hb1, K0'.out.1.2.2.1.keep hb1, K0'.out.1.2.2.2.keep hb1⟩, Nat.le_trans K0'.out.2 hb1.size⟩
  clear hb1 K0 K0' HW HA
  by_cases hc : qc = 0
  rotate_left
  · have n0 : (qc != 0) = true := by simpa using hc
    have HE := hid11 (H1.out hc)
    clear H1 H2 H3 HG HC HU HGN
    obtain ⟨r0, r1, r2, r3, rf, _⟩ := K1.out.1.2.2.2
    go_wp2_with fail
    exact bodyPost_ret (v := .agg #[.int .i64 qc, .int .i64 0, .slice none 0 0, .slice none 0 0]) (by simp [results, Try.results21, go_sem, r0, r1, r2, r3]) rfl ⟨ExRes.mk HE.out rfl rfl (XN.nil _ _) (by simp), ((((K1.out.1.1.setCell (by simp <;> omega) _).setCell (by simp <;> omega) _).setCell (by simp <;> omega) _).setCell (by simp <;> omega) _)⟩
  subst hc
  have hg := HG.out (by trivial)
  obtain ⟨hs, hcc, ht, hy, hln, _, _⟩ := hg
  rw [HN.out] at hln
  have hn8 : n ≤ 8 := by omega
  clear HG H1
  cases hx1 : timeB now
  · have HE := hid11 (H2.out (by trivial) hx1)
    clear H2 H3 HC HGN
    go_wp2_with fail
    refine (HU.out now _).mono ?_
    rintro e w2 ⟨rfl, rfl⟩
    rw [hx1]
    obtain ⟨r0, r1, r2, r3, rf, _⟩ := K1.out.1.2.2.2
    go_wp2_with fail
    exact bodyPost_ret (v := .agg #[.int .i64 3, .int .i64 0, .slice none 0 0, .slice none 0 0]) (by simp [results, Try.results21, go_sem, r0, r1, r2, r3]) rfl ⟨ExRes.mk HE.out rfl rfl (XN.nil _ _) (by simp), ((((K1.out.1.1.setCell (by simp <;> omega) _).setCell (by simp <;> omega) _).setCell (by simp <;> omega) _).setCell (by simp <;> omega) _)⟩
  have HE := hid11 (H3.out (by trivial) hx1)
  clear H2 H3
  go_wp2_with fail
  refine (HU.out now _).mono ?_
  rintro e w2 ⟨rfl, rfl⟩
  rw [hx1]
  go_wp2_with fail
  refine (HC.out _ K1.out.1).mono ?_
  rintro e w4 ⟨⟨va, vc, rfl, ho⟩, hb4⟩
  rw [HN.out] at ho ⊢
  have K2 : Hid ((Below w.heap.size w w4 ∧ D2 w4 w.heap.size (.int .i64 y) (.slice a n cap) ∧ D3 w4 (w.heap.size + 1) (.int .i64 s) (.int .i64 c) (.int .i64 t) ∧ D4 w4 (w.heap.size + 2) (.int .i64 0) (.int .i64 0) (.slice none 0 0) (.slice none 0 0)) ∧ w.heap.size + 3 ≤ w4.heap.size) := ⟨⟨K1.out.1.1.trans (hb4.mono K1.out.1.1.size), K1.out.1.2.1.keep hb4, K1.out.1.2.2.1.keep hb4, K1.out.1.2.2.2.keep hb4⟩, Nat.le_trans K1.out.2 hb4.size⟩
  have HB4 : Hid (w.heap.size + 3 ≤ w4.heap.size) := Nat.le_trans K1.out.2 hb4.size
  have HO := hid11 ho
  clear ho hb4 K1 HC
  obtain ⟨V, hV⟩ : ∃ V, V = w4.alloc (.cells #[.int .i64 y, .slice va n vc] 26) := ⟨_, rfl⟩
  have HV : Hid (V = w4.alloc (.cells #[.int .i64 y, .slice va n vc] 26)) := hV
  have bV : Below w4.heap.size w4 V := by rw [hV]; exact (Below.refl _ _).alloc (Nat.le_refl _) _
  have oV : D2 V w4.heap.size (.int .i64 y) (.slice va n vc) := by rw [hV]; exact D2.new w4 _ _ _
  have K3 : Hid ((Below w.heap.size w V ∧ D2 V w.heap.size (.int .i64 y) (.slice a n cap) ∧ D3 V (w.heap.size + 1) (.int .i64 s) (.int .i64 c) (.int .i64 t) ∧ D4 V (w.heap.size + 2) (.int .i64 0) (.int .i64 0) (.slice none 0 0) (.slice none 0 0)) ∧ w.heap.size + 3 ≤ V.heap.size) := ⟨⟨K2.out.1.1.trans (bV.mono K2.out.1.1.size), K2.out.1.2.1.keep bV, K2.out.1.2.2.1.keep bV, K2.out.1.2.2.2.keep bV⟩, Nat.le_trans K2.out.2 bV.size⟩
  have HOV := hid11 (HO.out.below bV)
  obtain ⟨O, hO⟩ : ∃ b, w4.heap.size = b := ⟨_, rfl⟩
  rw [hO] at oV HB4
  have hvin : WtIn V va l := by
    obtain ⟨a5, c5, e5, _, i5⟩ := HOV.out.in
    simp only [Value.slice.injEq] at e5
    rw [e5.1]; exact i5
  have CGN := hid11 (HGN.out V O va vc hn8 oV hvin)
  clear bV hV K2 HO oV HGN hvin HU hx1
  go_wp2_with fail
  rw [← HV.out]
  refine CGN.out.mono ?_
  rintro e w5 ⟨v5, c5, vi, rfl, d5, m5, i5, ap5, g5⟩
  clear CGN HV hO HOV
  have hnO : ∀ b, b < w.heap.size + 3 → b ≠ O := fun b hb e => by have := HB4.out; omega
  have R5 := K3.out.1.2.2.2.gw g5 (hnO _ (by omega))
  have W5 : Below w.heap.size w w5 := K3.out.1.1.trans ⟨g5.os, g5.tape, g5.output, g5.size, fun k hk => g5.block k (Nat.lt_of_lt_of_le hk K3.out.1.1.size) (fun e => hnO k (by omega) (Option.some.inj e))⟩
  have HW5 := hid11 W5
  obtain ⟨ia, ic, rfl, _, _⟩ := i5.in
  have HB6 : Hid (w.heap.size + 3 ≤ V.heap.size) := K3.out.2
  have HX5 : Hid (XN w5 V.heap.size ⟨v5, c5, ia, ic⟩ (leftW now l).length (leftW now l) (goneW now l).length (goneW now l)) := ⟨m5.new, i5.new, fun g h hg hh => .inr (.inr fun e => ap5 g hg (e ▸ hh))⟩
  have HMC := hid11 m5.cap
  generalize leftW now l = l2 at *
  generalize goneW now l = l3 at *
  generalize hl2 : l2.length = n2 at *
  generalize hl3 : l3.length = n3 at *
  have HN2 := hid11 hl2
  have HN3 := hid11 hl3
  obtain ⟨o0, o1, of, _⟩ := d5
  obtain ⟨r0, r1, r2, r3, rf, _⟩ := R5
  have HNW : Hid (∀ y0 y1 y2 y3, XN ((((w5.setCell ⟨w.heap.size + 2, 0, none⟩ y0).setCell ⟨w.heap.size + 2, 1, none⟩ y1).setCell ⟨w.heap.size + 2, 2, none⟩ y2).setCell ⟨w.heap.size + 2, 3, none⟩ y3) w.heap.size ⟨v5, c5, ia, ic⟩ n2 l2 n3 l3) := fun y0 y1 y2 y3 => by
    refine XN.lower ?_ (Nat.le_trans (Nat.le_add_right _ 3) HB6.out)
    refine XN.gw2 (g := w.heap.size + 2) ?_ (gwSet _ _ _ _) (by have := HB6.out; omega)
    refine XN.gw2 (g := w.heap.size + 2) ?_ (gwSet _ _ _ _) (by have := HB6.out; omega)
    refine XN.gw2 (g := w.heap.size + 2) ?_ (gwSet _ _ _ _) (by have := HB6.out; omega)
    exact XN.gw2 (g := w.heap.size + 2) HX5.out (gwSet _ _ _ _) (by have := HB6.out; omega)
  clear m5 i5 ap5 g5 W5 K3 HX5 hnO hl2 hl3
  go_wp2_with fail
  exact bodyPost_ret (v := .agg #[.int .i64 0, .int .i64 y, .slice v5 n2 c5, .slice ia n3 ic]) (by simp [results, Try.results21, go_sem, r0, r1, r2, r3]) rfl ⟨ExRes.mk HE.out HN2.out HN3.out (HNW.out _ _ _ _) HMC.out, ((((HW5.out.setCell (by simp <;> omega) _).setCell (by simp <;> omega) _).setCell (by simp <;> omega) _).setCell (by simp <;> omega) _)⟩
end Go.Proofs.Ytmgidcigihpbeaa
/-
  CancelBulk, by the model.
-/
namespace Go.Proofs.Ytmgidcigihpbeaa
open Go.ChangeShapes Go.WideShapes Go.ChangeAt Go.RowKit Go.Sort
set_option maxRecDepth 100000 in
set_option maxHeartbeats 16000000 in
theorem specCancel_any (w : World) (y : Int) (a : Option Addr) (cap : Nat) (l : List Wt) (s c t x : Int) (hl : l.length ≤ 1048576) (hi : WtIn w a l) :
    Calls Try.prog 23 #[.agg #[.int .i64 y, .slice a l.length cap], .agg #[.int .i64 s, .int .i64 c, .int .i64 t], .int .i64 x] w fun e w' => ExRes w' w.heap.size (cancelR y l s c t x) e ∧ Below w.heap.size w w' := by
  obtain ⟨W, hW⟩ : ∃ W, W = ((w.alloc (.cells #[.int .i64 y, .slice a l.length cap] 26)).alloc (.cells #[.int .i64 s, .int .i64 c, .int .i64 t] 28)).alloc (.cells #[.int .i64 0, .int .i64 0, .slice none 0 0, .slice none 0 0] 45) := ⟨_, rfl⟩
  have HW : Hid (W = ((w.alloc (.cells #[.int .i64 y, .slice a l.length cap] 26)).alloc (.cells #[.int .i64 s, .int .i64 c, .int .i64 t] 28)).alloc (.cells #[.int .i64 0, .int .i64 0, .slice none 0 0, .slice none 0 0] 45)) := hW
  have K0 : Hid ((Below w.heap.size w W ∧ D2 W w.heap.size (.int .i64 y) (.slice a l.length cap) ∧ D3 W (w.heap.size + 1) (.int .i64 s) (.int .i64 c) (.int .i64 t) ∧ D4 W (w.heap.size + 2) (.int .i64 0) (.int .i64 0) (.slice none 0 0) (.slice none 0 0)) ∧ W.heap.size = w.heap.size + 3) := by
    have h1 := D2.new w (.int .i64 y) (.slice a l.length cap) 26
    obtain ⟨W1, hW1⟩ : ∃ W1, W1 = w.alloc (.cells #[.int .i64 y, .slice a l.length cap] 26) := ⟨_, rfl⟩
    rw [← hW1] at h1 hW
    have e1 : W1.heap.size = w.heap.size + 1 := by rw [hW1]; simp
    have b1 : Below w.heap.size w W1 := by rw [hW1]; exact (Below.refl _ _).alloc (Nat.le_refl _) _
    have h2 := D3.new W1 (.int .i64 s) (.int .i64 c) (.int .i64 t) 28
    obtain ⟨W2, hW2⟩ : ∃ W2, W2 = W1.alloc (.cells #[.int .i64 s, .int .i64 c, .int .i64 t] 28) := ⟨_, rfl⟩
    rw [← hW2] at h2 hW
    have e2 : W2.heap.size = w.heap.size + 2 := by rw [hW2]; simp [e1]
    have b2 : Below W1.heap.size W1 W2 := by rw [hW2]; exact (Below.refl _ _).alloc (Nat.le_refl _) _
    have b3 : Below W2.heap.size W2 W := by rw [hW]; exact (Below.refl _ _).alloc (Nat.le_refl _) _
    have h3 := D4.new W2 (.int .i64 0) (.int .i64 0) (.slice none 0 0) (.slice none 0 0) 45
    rw [← hW] at h3
    rw [e1] at h2
    rw [e2] at h3
    have b13 := b2.trans (b3.mono b2.size)
    exact ⟨⟨b1.trans (b13.mono b1.size), h1.keep b13, h2.keep b3, h3⟩, by rw [hW]; simp [e2]⟩
  have HA : Hid (Calls Try.prog 12 #[.agg #[.int .i64 y, .slice a l.length cap], .agg #[.int .i64 s, .int .i64 c, .int .i64 t]] W fun e w' => e = .returned (.int .i64 (blkC y l s c t)) ∧ Below W.heap.size W w') := specBlk_any y a cap l s c t W (hi.keep K0.out.1.1)
  have HC : Hid (∀ X, (Below w.heap.size w X ∧ D2 X w.heap.size (.int .i64 y) (.slice a l.length cap) ∧ D3 X (w.heap.size + 1) (.int .i64 s) (.int .i64 c) (.int .i64 t) ∧ D4 X (w.heap.size + 2) (.int .i64 0) (.int .i64 0) (.slice none 0 0) (.slice none 0 0)) → Calls Try.prog 48 #[.pointer (some ⟨w.heap.size, 0, none⟩)] X fun e w' => CopyB w' X.heap.size y l e ∧ Below X.heap.size X w') := fun X hX => specCopyB_any X w.heap.size y a cap l hl hX.2.1 (hi.keep hX.1)
  have HFD : Hid (∀ X, (Below w.heap.size w X ∧ D2 X w.heap.size (.int .i64 y) (.slice a l.length cap) ∧ D3 X (w.heap.size + 1) (.int .i64 s) (.int .i64 c) (.int .i64 t) ∧ D4 X (w.heap.size + 2) (.int .i64 0) (.int .i64 0) (.slice none 0 0) (.slice none 0 0)) → Calls Try.prog 47 #[.pointer (some ⟨w.heap.size, 0, none⟩), .int .i64 x] X fun e w' => FindB l x e ∧ w' = X) := fun X hX => specFindB_any X w.heap.size y a cap l x hl hX.2.1 (hi.keep hX.1)
  have HGN : Hid (∀ X O va vc, l.length ≤ 8 → D2 X O (.int .i64 y) (.slice va l.length vc) → WtIn X va l → Calls Try.prog 59 #[.pointer (some ⟨O, 0, none⟩), .int .i64 x] X fun e w' => e = .returned (.tuple #[]) ∧ ∃ va vc, D2 w' O (.int .i64 y) (.slice va (withoutW l [x]).length vc) ∧ OwnWt w' X.heap.size (.slice va (withoutW l [x]).length vc) (withoutW l [x]) ∧ X.grownBy w' (some O)) := fun X O va vc h1 h2 h3 => specCan_any X O y va vc l x h1 h2 h3
  have HG : Hid (blkC y l s c t = 0 → GoodB y l s c t) := goodB_of
  have H1 : Hid (¬ blkC y l s c t = 0 → cancelR y l s c t x = ⟨blkC y l s c t, 0, [], []⟩) := cancel_bad
  have H2 : Hid (blkC y l s c t = 0 → hasW l x = false → cancelR y l s c t x = ⟨4, 0, [], []⟩) := cancel_none
  have H3 : Hid (blkC y l s c t = 0 → hasW l x = true → cancelR y l s c t x = ⟨0, y, withoutW l [x], [x]⟩) := cancel_ok
  clear hi hW
  generalize cancelR y l s c t x = q at *
  generalize blkC y l s c t = qc at *
  generalize hn : l.length = n at *
  have HN : Hid (l.length = n) := hn
  clear hn
  go_enter Try.func23, Try.ntmps23
  go_wp2_with fail
  rw [← HW.out]
  refine HA.out.mono ?_
  rintro e w1 ⟨rfl, hb1⟩
  have K0' : Hid ((Below w.heap.size w W ∧ D2 W w.heap.size (.int .i64 y) (.slice a n cap) ∧ D3 W (w.heap.size + 1) (.int .i64 s) (.int .i64 c) (.int .i64 t) ∧ D4 W (w.heap.size + 2) (.int .i64 0) (.int .i64 0) (.slice none 0 0) (.slice none 0 0)) ∧ w.heap.size + 3 ≤ W.heap.size) := ⟨K0.out.1, Nat.le_of_eq K0.out.2.symm⟩
  have K1 : Hid ((Below w.heap.size w w1 ∧ D2 w1 w.heap.size (.int .i64 y) (.slice a n cap) ∧ D3 w1 (w.heap.size + 1) (.int .i64 s) (.int .i64 c) (.int .i64 t) ∧ D4 w1 (w.heap.size + 2) (.int .i64 0) (.int .i64 0) (.slice none 0 0) (.slice none 0 0)) ∧ w.heap.size + 3 ≤ w1.heap.size) := ⟨⟨K0'.out.1.1.trans (hb1.mono K0'.out.1.1.size), K0'.out.1.2.1.keep hb1, K0'.out.1.2.2.1.keep hb1, K0'.out.1.2.2.2.keep hb1⟩, Nat.le_trans K0'.out.2 hb1.size⟩
  clear hb1 K0 K0' HW HA
  by_cases hc : qc = 0
  rotate_left
  · have n0 : (qc != 0) = true := by simpa using hc
    have HE := hid11 (H1.out hc)
    clear H1 H2 H3 HG HC HFD HGN
    obtain ⟨r0, r1, r2, r3, rf, _⟩ := K1.out.1.2.2.2
    go_wp2_with fail
    exact bodyPost_ret (v := .agg #[.int .i64 qc, .int .i64 0, .slice none 0 0, .slice none 0 0]) (by simp [results, Try.results23, go_sem, r0, r1, r2, r3]) rfl ⟨ExRes.mk HE.out rfl rfl (XN.nil _ _) (by simp), ((((K1.out.1.1.setCell (by simp <;> omega) _).setCell (by simp <;> omega) _).setCell (by simp <;> omega) _).setCell (by simp <;> omega) _)⟩
  subst hc
  have hg := HG.out (by trivial)
  obtain ⟨hs, hcc, ht, hy, hln, _, _⟩ := hg
  rw [HN.out] at hln
  have hn8 : n ≤ 8 := by omega
  clear HG H1
  go_wp2_with fail
  refine (HFD.out _ K1.out.1).mono ?_
  rintro e w3 ⟨hfd, rfl⟩
  clear HFD
  rcases hfd with ⟨k, rfl, hk, hh⟩ | ⟨rfl, hh⟩
  rotate_left
  · have HE := hid11 (H2.out (by trivial) hh)
    clear H2 H3 HC HGN hh
    obtain ⟨r0, r1, r2, r3, rf, _⟩ := K1.out.1.2.2.2
    go_wp2_with fail
    exact bodyPost_ret (v := .agg #[.int .i64 4, .int .i64 0, .slice none 0 0, .slice none 0 0]) (by simp [results, Try.results23, go_sem, r0, r1, r2, r3]) rfl ⟨ExRes.mk HE.out rfl rfl (XN.nil _ _) (by simp), ((((K1.out.1.1.setCell (by simp <;> omega) _).setCell (by simp <;> omega) _).setCell (by simp <;> omega) _).setCell (by simp <;> omega) _)⟩
  have HE := hid11 (H3.out (by trivial) hh)
  have gk : ¬ (k : Int) < 0 := by omega
  clear H2 H3 hh
  go_wp2_with fail
  refine (HC.out _ K1.out.1).mono ?_
  rintro e w4 ⟨⟨va, vc, rfl, ho⟩, hb4⟩
  rw [HN.out] at ho ⊢
  have K2 : Hid ((Below w.heap.size w w4 ∧ D2 w4 w.heap.size (.int .i64 y) (.slice a n cap) ∧ D3 w4 (w.heap.size + 1) (.int .i64 s) (.int .i64 c) (.int .i64 t) ∧ D4 w4 (w.heap.size + 2) (.int .i64 0) (.int .i64 0) (.slice none 0 0) (.slice none 0 0)) ∧ w.heap.size + 3 ≤ w4.heap.size) := ⟨⟨K1.out.1.1.trans (hb4.mono K1.out.1.1.size), K1.out.1.2.1.keep hb4, K1.out.1.2.2.1.keep hb4, K1.out.1.2.2.2.keep hb4⟩, Nat.le_trans K1.out.2 hb4.size⟩
  have HB4 : Hid (w.heap.size + 3 ≤ w4.heap.size) := Nat.le_trans K1.out.2 hb4.size
  have HO := hid11 ho
  clear ho hb4 K1 HC
  obtain ⟨V, hV⟩ : ∃ V, V = w4.alloc (.cells #[.int .i64 y, .slice va n vc] 26) := ⟨_, rfl⟩
  have HV : Hid (V = w4.alloc (.cells #[.int .i64 y, .slice va n vc] 26)) := hV
  have bV : Below w4.heap.size w4 V := by rw [hV]; exact (Below.refl _ _).alloc (Nat.le_refl _) _
  have oV : D2 V w4.heap.size (.int .i64 y) (.slice va n vc) := by rw [hV]; exact D2.new w4 _ _ _
  have K3 : Hid ((Below w.heap.size w V ∧ D2 V w.heap.size (.int .i64 y) (.slice a n cap) ∧ D3 V (w.heap.size + 1) (.int .i64 s) (.int .i64 c) (.int .i64 t) ∧ D4 V (w.heap.size + 2) (.int .i64 0) (.int .i64 0) (.slice none 0 0) (.slice none 0 0)) ∧ w.heap.size + 3 ≤ V.heap.size) := ⟨⟨K2.out.1.1.trans (bV.mono K2.out.1.1.size), K2.out.1.2.1.keep bV, K2.out.1.2.2.1.keep bV, K2.out.1.2.2.2.keep bV⟩, Nat.le_trans K2.out.2 bV.size⟩
  have HOV := hid11 (HO.out.below bV)
  obtain ⟨O, hO⟩ : ∃ b, w4.heap.size = b := ⟨_, rfl⟩
  rw [hO] at oV HB4
  have hvin : WtIn V va l := by
    obtain ⟨a5, c5, e5, _, i5⟩ := HOV.out.in
    simp only [Value.slice.injEq] at e5
    rw [e5.1]; exact i5
  have CGN := hid11 (HGN.out V O va vc hn8 oV hvin)
  clear bV hV K2 HO oV HGN hvin
  go_wp2_with fail
  rw [← HV.out]
  refine CGN.out.mono ?_
  rintro e w5 ⟨rfl, v5, c5, d5, m5, g5⟩
  clear CGN HV hO HOV
  have hnO : ∀ b, b < w.heap.size + 3 → b ≠ O := fun b hb e => by have := HB4.out; omega
  have R5 := K3.out.1.2.2.2.gw g5 (hnO _ (by omega))
  have W5 : Below w.heap.size w w5 := K3.out.1.1.trans ⟨g5.os, g5.tape, g5.output, g5.size, fun k hk => g5.block k (Nat.lt_of_lt_of_le hk K3.out.1.1.size) (fun e => hnO k (by omega) (Option.some.inj e))⟩
  have HW5 := hid11 W5
  have HB6 : Hid (w.heap.size + 3 ≤ V.heap.size) := K3.out.2
  have hv5 : ∀ q, (Value.slice v5 (withoutW l [x]).length c5).ownBlock = some q → q < w5.heap.size := fun q hq => (World.ownsRow.lt m5 q hq).2
  obtain ⟨V6, hV6⟩ : ∃ V6, V6 = w5.alloc (.cells #[.int .i64 x] 2) := ⟨_, rfl⟩
  have HV6 := hid11 hV6
  have b6 : Below w5.heap.size w5 V6 := by rw [hV6]; exact (Below.refl _ _).alloc (Nat.le_refl _) _
  have HX5 : Hid (XN V6 V.heap.size ⟨v5, c5, some ⟨w5.heap.size, 0, none⟩, 1⟩ (withoutW l [x]).length (withoutW l [x]) 1 [x]) := by
    refine ⟨m5.new.keep b6, .inr ⟨w5.heap.size, 0, 1, rfl, g5.size, by rw [hV6]; simp, fun i z hz => ?_, fun o => by rw [hV6]; simp⟩, fun g h hg hh => .inr (.inr fun e => ?_)⟩
    · match i, hz with
      | 0, hz => simp at hz; subst hz; rw [hV6]; simp
    · simp only [Value.ownBlock, Option.some.injEq] at hh
      have := hv5 g hg
      omega
  have HMC := hid11 m5.cap
  have HW6 := hid11 (HW5.out.trans (b6.mono HW5.out.size))
  have D6 := d5.keep b6
  have R6 := R5.keep b6
  generalize withoutW l [x] = l2 at *
  generalize hl2 : l2.length = n2 at *
  have HN2 := hid11 hl2
  obtain ⟨o0, o1, of, _⟩ := d5
  obtain ⟨r0, r1, r2, r3, rf, _⟩ := R6
  rw [hV6] at r0 r1 r2 r3 rf
  have HNW : Hid (∀ y0 y1 y2 y3, XN ((((V6.setCell ⟨w.heap.size + 2, 0, none⟩ y0).setCell ⟨w.heap.size + 2, 1, none⟩ y1).setCell ⟨w.heap.size + 2, 2, none⟩ y2).setCell ⟨w.heap.size + 2, 3, none⟩ y3) w.heap.size ⟨v5, c5, some ⟨w5.heap.size, 0, none⟩, 1⟩ n2 l2 1 [x]) := fun y0 y1 y2 y3 => by
    refine XN.lower ?_ (Nat.le_trans (Nat.le_add_right _ 3) HB6.out)
    refine XN.gw2 (g := w.heap.size + 2) ?_ (gwSet _ _ _ _) (by have := HB6.out; omega)
    refine XN.gw2 (g := w.heap.size + 2) ?_ (gwSet _ _ _ _) (by have := HB6.out; omega)
    refine XN.gw2 (g := w.heap.size + 2) ?_ (gwSet _ _ _ _) (by have := HB6.out; omega)
    exact XN.gw2 (g := w.heap.size + 2) HX5.out (gwSet _ _ _ _) (by have := HB6.out; omega)
  clear m5 g5 W5 K3 HX5 hnO hl2 hv5 b6 D6 R5 hV6
  go_wp2_with fail
  rw [← HV6.out]
  exact bodyPost_ret (v := .agg #[.int .i64 0, .int .i64 y, .slice v5 n2 c5, .slice (some ⟨w5.heap.size, 0, none⟩) 1 1]) (by rw [HV6.out]; simp [results, Try.results23, go_sem, r0, r1, r2, r3]) rfl ⟨ExRes.mk HE.out HN2.out rfl (HNW.out _ _ _ _) HMC.out, ((((HW6.out.setCell (by simp <;> omega) _).setCell (by simp <;> omega) _).setCell (by simp <;> omega) _).setCell (by simp <;> omega) _)⟩
end Go.Proofs.Ytmgidcigihpbeaa
/-
  Numbers that are the same, by the laws.
-/
namespace Go.Proofs.Ytmgidcigihpbeaa
open Go.ChangeShapes Go.WideShapes Go.ChangeAt Go.RowKit Go.Sort
set_option maxRecDepth 100000 in
set_option maxHeartbeats 2000000 in
theorem lwNums_same (w : World) (a1 a2 : Option Addr) (c1 c2 : Nat) (l : List Int) (hl : l.length ≤ 1048576) (h1 : NsIn w a1 l) (h2 : NsIn w a2 l) :
    Calls Try.prog 22 #[.slice a1 l.length c1, .slice a2 l.length c2] w fun e w' => e = .returned (.bool true) ∧ Below w.heap.size w w' := by
  have H1 : Hid (NsIn w a1 l) := h1
  have H2 : Hid (NsIn w a2 l) := h2
  clear h1 h2
  generalize hn : l.length = n at *
  have HN : Hid (l.length = n) := hn
  clear hn
  go_enter Try.func22, Try.ntmps22
  go_wp2_with fail
  go_loopw [5] (fun i wr => ∃ k : Nat, k ≤ n ∧ i = .int .i64 k ∧ Below w.heap.size w wr) (fun i _ => n - (intOf i).toNat)
  case atStart => exact ⟨0, Nat.zero_le _, rfl, Below.refl _ _⟩
  case round =>
    obtain ⟨k, hk, rfl, hb⟩ := hrel
    by_cases hlt : k < n
    · obtain ⟨r, hr⟩ : ∃ r, l[k]? = some r := ⟨l[k]'(by have := HN.out; omega), List.getElem?_eq_getElem _⟩
      rcases (H1.out.keep hb) with h | ⟨b1, o1, rfl, at1⟩
      · subst h; simp at hr
      rcases (H2.out.keep hb) with h | ⟨b2, o2, rfl, at2⟩
      · subst h; simp at hr
      have x0 := cell_regrown (at1 k r hr)
      have y0 := cell_regrown (at2 k r hr)
      have g0 : (0 : Int) ≤ k := by omega
      have g : (k : Int) < n := by omega
      clear hr at1 at2
      go_wp2_with fail
      refine wp_region_quiet_below (by kernel_rfl) (by kernel_rfl) ?_
      repeat (go_big_quiet_step (fail))
      refine wpQuiet_nil ?_
      intro w2 hw2
      have hbb : Below w.heap.size w w2 := by
        obtain ⟨⟨d, os⟩, rfl⟩ := hw2
        exact hb.trans ((below_regrown wr d os).mono hb.size)
      clear x0 y0 hw2 hb
      go_wp2_with fail
      go_roundw
      case rel => exact ⟨k + 1, by omega, by go_num, hbb⟩
      case measure => simp [intOf]; omega
    · go_wp2_with fail
      go_ret
      exact ⟨rfl, hb⟩
end Go.Proofs.Ytmgidcigihpbeaa
/-
  The law of waits, out of contracts.
-/
namespace Go.Proofs.Ytmgidcigihpbeaa
open Go.ChangeShapes Go.WideShapes Go.ChangeAt Go.RowKit Go.Sort
namespace waits
set_option linter.unusedVariables false
theorem xfield0 (c y : Int) (a : Option Addr) (n k : Nat) (b : Option Addr) (m j : Nat) (w : World) : (Instr.field 45 (.agg #[.int .i64 c, .int .i64 y, .slice a n k, .slice b m j]) 0).run Try.prog w = .ok (.int .i64 c) w := by kernel_rfl
theorem xfield2 (c y : Int) (a : Option Addr) (n k : Nat) (b : Option Addr) (m j : Nat) (w : World) : (Instr.field 45 (.agg #[.int .i64 c, .int .i64 y, .slice a n k, .slice b m j]) 2).run Try.prog w = .ok (.slice b m j) w := by kernel_rfl
theorem ex_in {w : World} {base : Nat} {r : R4} {m mi : Nat} {ql : List Wt} {qi : List Int} (h : XN w base r m ql mi qi) (hm : ql.length = m) (hi : qi.length = mi) : WtIn w r.a ql ∧ NsIn w r.i qi := by
  obtain ⟨h1, h2, _⟩ := h
  obtain ⟨a1, a2, a3, a4⟩ := h1.in
  obtain ⟨b1, b2, b3, b4⟩ := h2.in
  simp only [Value.slice.injEq] at a3 b3
  rw [a3.1, b3.1]
  exact ⟨a4, b4⟩
set_option maxRecDepth 100000 in
set_option maxHeartbeats 64000000 in
theorem fnWaits_walk (w : World) (a : Option Addr) (len cap : Nat) (hc : CodeRow w w.heap.size a len) :
    Calls Try.prog 4 #[.slice a len cap] w fun e w' => e = .returned (.bool true) ∧ Below w.heap.size w w' := by
  have HC : Hid (CodeRow w w.heap.size a len) := hc
  clear hc
  by_cases hbig : (1048576 : Int) < len
  · go_enter Try.func4, Try.ntmps4
    go_wp2
    go_ret
    exact ⟨rfl, Below.refl _ _⟩
  have hl2 : len ≤ 1048576 := by omega
  go_enter Try.func4, Try.ntmps4
  go_wp2_with (go_at_call 7; go_in)
  refine (drawExpire_any w a len cap w.heap.size rfl HC.out hl2).mono ?_
  rintro r w1 ⟨y, s, c, t, now, va, n, vc, q, rfl, hln, hn9, hf⟩
  obtain ⟨v1, hv1⟩ : ∃ X, X = (w1.alloc (.cells #[.int .i64 y, .slice va n vc] 26)).alloc (.cells #[.int .i64 s, .int .i64 c, .int .i64 t] 28) := ⟨_, rfl⟩
  obtain ⟨M3, hM3⟩ : ∃ M, w1.heap.size = M := ⟨_, rfl⟩
  have F1 : Hid (∀ X, Below v1.heap.size v1 X → Below w.heap.size w X ∧ SBL X M3 (M3 + 1) y va n vc s c t ∧ WtIn X va q) := by
    have bA : Below w1.heap.size w1 (w1.alloc (.cells #[.int .i64 y, .slice va n vc] 26)) := (Below.refl _ _).alloc (Nat.le_refl _) _
    have bB : Below (w1.alloc (.cells #[.int .i64 y, .slice va n vc] 26)).heap.size (w1.alloc (.cells #[.int .i64 y, .slice va n vc] 26)) v1 := by rw [hv1]; exact (Below.refl _ _).alloc (Nat.le_refl _) _
    have sA := D2.new w1 (.int .i64 y) (.slice va n vc) 26
    have sB := D3.new (w1.alloc (.cells #[.int .i64 y, .slice va n vc] 26)) (.int .i64 s) (.int .i64 c) (.int .i64 t) 28
    rw [show (w1.alloc (.cells #[.int .i64 y, .slice va n vc] 26)).heap.size = M3 + 1 by rw [← hM3]; simp, ← hv1] at sB
    rw [hM3] at sA
    have sA2 := sA.keep bB
    intro X hX
    have b12 := bA.trans (bB.mono bA.size)
    exact ⟨hf.lo.trans ((b12.trans (hX.mono b12.size)).mono hf.lo.size), (show SBL v1 M3 (M3 + 1) y va n vc s c t from ⟨sA2.c0, sA2.c1, sB.c0, sB.c1, sB.c2⟩).keep hX, (hf.in.1.keep b12).keep hX⟩
  have HLN : Hid (q.length = n) := hln
  have HN9 : Hid (n ≤ 9) := hn9
  have HCAP : Hid (n ≤ vc) := hf.in.2
  have HV1 := rulW hv1
  clear hf hv1 hln hn9
  obtain ⟨z, hz⟩ : ∃ z, expireR y q s c t now = z := ⟨_, rfl⟩
  have HI : Hid (∀ X, Below v1.heap.size v1 X → Calls Try.prog 18 #[.agg #[.int .i64 y, .slice va n vc], .agg #[.int .i64 s, .int .i64 c, .int .i64 t], .int .i64 now] X fun e w' => ExRes w' X.heap.size z e ∧ Below X.heap.size X w') := fun X hX => by
    have r := implExpire_any X y va vc q s c t now (by have := HLN.out; have := HN9.out; omega) (by rw [HLN.out]; exact HCAP.out) (F1.out X hX).2.2
    rw [HLN.out, hz] at r
    exact r
  have HSP : Hid (∀ X, Below v1.heap.size v1 X → Calls Try.prog 21 #[.agg #[.int .i64 y, .slice va n vc], .agg #[.int .i64 s, .int .i64 c, .int .i64 t], .int .i64 now] X fun e w' => ExRes w' X.heap.size z e ∧ Below X.heap.size X w') := fun X hX => by
    have r := specExpire_any X y va vc q s c t now (by have := HLN.out; have := HN9.out; omega) (F1.out X hX).2.2
    rw [HLN.out, hz] at r
    exact r
  have HOK : Hid (z.c = 0 → ExOk y q s c t now z) := fun h => by rw [← hz] at h ⊢; exact expire_fine h
  have HZL : Hid (z.l.length ≤ 1048576 ∧ z.i.length ≤ 1048576) := by rw [← hz]; exact expireR_len (by have := HLN.out; have := HN9.out; omega)
  obtain ⟨zc, zy, zl, zi⟩ := z
  clear hz
  go_upto_region 4 with fail
  try simp only [hM3]
  rw [← HV1.out]
  clear HV1 hM3
  obtain ⟨c0, c1, r0, r1, r2⟩ := (F1.out _ (Below.refl _ _)).2.1
  go_wp2_with fail
  refine (HI.out _ (Below.refl _ _)).mono ?_
  rintro r w2 ⟨⟨⟨ea, ek, eia, eik⟩, rfl, hmn, hqk⟩, hbx⟩
  simp only at hmn hqk
  obtain ⟨en, hen⟩ : ∃ x, zl.length = x := ⟨_, rfl⟩
  obtain ⟨eim, heim⟩ : ∃ x, zi.length = x := ⟨_, rfl⟩
  rw [hen, heim] at hmn
  rw [hen] at hqk
  obtain ⟨v2, hv2⟩ : ∃ X, X = w2.alloc (.cells #[.int .i64 zc, .int .i64 zy, .slice ea en ek, .slice eia eim eik] 45) := ⟨_, rfl⟩
  obtain ⟨M6, hM6⟩ : ∃ M, w2.heap.size = M := ⟨_, rfl⟩
  have F2 : Hid (∀ X, Below v2.heap.size v2 X → Below v1.heap.size v1 X ∧ D4 X M6 (.int .i64 zc) (.int .i64 zy) (.slice ea en ek) (.slice eia eim eik) ∧ WtIn X ea zl ∧ NsIn X eia zi) := by
    have al : Below w2.heap.size w2 v2 := by rw [hv2]; exact (Below.refl _ _).alloc (Nat.le_refl _) _
    have c := D4.new w2 (.int .i64 zc) (.int .i64 zy) (.slice ea en ek) (.slice eia eim eik) 45
    rw [← hv2, hM6] at c
    obtain ⟨i1, i2⟩ := ex_in hmn hen heim
    intro X hX
    have b := hbx.trans (al.mono hbx.size)
    exact ⟨b.trans (hX.mono b.size), c.keep hX, (i1.keep al).keep hX, (i2.keep al).keep hX⟩
  have HeN : Hid (zl.length = en) := hen
  have HeI : Hid (zi.length = eim) := heim
  have HeK : Hid (en ≤ ek) := hqk
  have HVv2 := rulW hv2
  clear hbx hmn hv2 hqk
  clear c0 c1 r0 r1 r2 HI
  go_upto_region 5 with fail
  try simp only [hM6]
  try simp only [hen, heim]
  rw [← HVv2.out]
  clear HVv2 hM6 hen heim
  have hB12 : Below w.heap.size w v2 := (F1.out _ (F2.out _ (Below.refl _ _)).1).1
  have HC2 : Hid (CodeRow v2 v2.heap.size a len) := (HC.out.below hB12).mono hB12.size
  clear hB12 HC
  go_wp2_with fail
  refine (drawCancel_any v2 a len cap v2.heap.size rfl HC2.out hl2).mono ?_
  rintro r w5 ⟨my, ms, mc, mt, mx, mva, mn, mvc, mq, rfl, hln, hn9, hf⟩
  obtain ⟨v5, hv5⟩ : ∃ X, X = (w5.alloc (.cells #[.int .i64 my, .slice mva mn mvc] 26)).alloc (.cells #[.int .i64 ms, .int .i64 mc, .int .i64 mt] 28) := ⟨_, rfl⟩
  obtain ⟨M7, hM7⟩ : ∃ M, w5.heap.size = M := ⟨_, rfl⟩
  have F5 : Hid (∀ X, Below v5.heap.size v5 X → Below v2.heap.size v2 X ∧ SBL X M7 (M7 + 1) my mva mn mvc ms mc mt ∧ WtIn X mva mq) := by
    have bA : Below w5.heap.size w5 (w5.alloc (.cells #[.int .i64 my, .slice mva mn mvc] 26)) := (Below.refl _ _).alloc (Nat.le_refl _) _
    have bB : Below (w5.alloc (.cells #[.int .i64 my, .slice mva mn mvc] 26)).heap.size (w5.alloc (.cells #[.int .i64 my, .slice mva mn mvc] 26)) v5 := by rw [hv5]; exact (Below.refl _ _).alloc (Nat.le_refl _) _
    have sA := D2.new w5 (.int .i64 my) (.slice mva mn mvc) 26
    have sB := D3.new (w5.alloc (.cells #[.int .i64 my, .slice mva mn mvc] 26)) (.int .i64 ms) (.int .i64 mc) (.int .i64 mt) 28
    rw [show (w5.alloc (.cells #[.int .i64 my, .slice mva mn mvc] 26)).heap.size = M7 + 1 by rw [← hM7]; simp, ← hv5] at sB
    rw [hM7] at sA
    have sA2 := sA.keep bB
    intro X hX
    have b12 := bA.trans (bB.mono bA.size)
    exact ⟨hf.lo.trans ((b12.trans (hX.mono b12.size)).mono hf.lo.size), (show SBL v5 M7 (M7 + 1) my mva mn mvc ms mc mt from ⟨sA2.c0, sA2.c1, sB.c0, sB.c1, sB.c2⟩).keep hX, (hf.in.1.keep b12).keep hX⟩
  have HmLN : Hid (mq.length = mn) := hln
  have HmN9 : Hid (mn ≤ 9) := hn9
  have HmCAP : Hid (mn ≤ mvc) := hf.in.2
  have HV5 := rulW hv5
  clear hf hv5 hln hn9
  clear HC2
  obtain ⟨z, hz⟩ : ∃ z, cancelR my mq ms mc mt mx = z := ⟨_, rfl⟩
  have HI : Hid (∀ X, Below v5.heap.size v5 X → Calls Try.prog 20 #[.agg #[.int .i64 my, .slice mva mn mvc], .agg #[.int .i64 ms, .int .i64 mc, .int .i64 mt], .int .i64 mx] X fun e w' => ExRes w' X.heap.size z e ∧ Below X.heap.size X w') := fun X hX => by
    have r := implCancel_any X my mva mvc mq ms mc mt mx (by have := HmLN.out; have := HmN9.out; omega) (by rw [HmLN.out]; exact HmCAP.out) (F5.out X hX).2.2
    rw [HmLN.out, hz] at r
    exact r
  have HSQ : Hid (∀ X, Below v5.heap.size v5 X → Calls Try.prog 23 #[.agg #[.int .i64 my, .slice mva mn mvc], .agg #[.int .i64 ms, .int .i64 mc, .int .i64 mt], .int .i64 mx] X fun e w' => ExRes w' X.heap.size z e ∧ Below X.heap.size X w') := fun X hX => by
    have r := specCancel_any X my mva mvc mq ms mc mt mx (by have := HmLN.out; have := HmN9.out; omega) (F5.out X hX).2.2
    rw [HmLN.out, hz] at r
    exact r
  have HCK : Hid (z.c = 0 → CaOk my mq ms mc mt mx z) := fun h => by rw [← hz] at h ⊢; exact cancel_fine h
  obtain ⟨xc, xy, xl, xi⟩ := z
  clear hz
  go_upto_region 6 with fail
  try simp only [hM7]
  rw [← HV5.out]
  clear HV5 hM7
  obtain ⟨c0, c1, r0, r1, r2⟩ := (F5.out _ (Below.refl _ _)).2.1
  go_wp2_with fail
  refine (HI.out _ (Below.refl _ _)).mono ?_
  rintro r w6 ⟨⟨⟨xa, xk, xia, xik⟩, rfl, hmn, hqk⟩, hbx⟩
  simp only at hmn hqk
  obtain ⟨xn, hxn⟩ : ∃ x, xl.length = x := ⟨_, rfl⟩
  obtain ⟨xim, hxim⟩ : ∃ x, xi.length = x := ⟨_, rfl⟩
  rw [hxn, hxim] at hmn
  rw [hxn] at hqk
  obtain ⟨v6, hv6⟩ : ∃ X, X = w6.alloc (.cells #[.int .i64 xc, .int .i64 xy, .slice xa xn xk, .slice xia xim xik] 45) := ⟨_, rfl⟩
  obtain ⟨M10, hM10⟩ : ∃ M, w6.heap.size = M := ⟨_, rfl⟩
  have F6 : Hid (∀ X, Below v6.heap.size v6 X → Below v5.heap.size v5 X ∧ D4 X M10 (.int .i64 xc) (.int .i64 xy) (.slice xa xn xk) (.slice xia xim xik) ∧ WtIn X xa xl ∧ NsIn X xia xi) := by
    have al : Below w6.heap.size w6 v6 := by rw [hv6]; exact (Below.refl _ _).alloc (Nat.le_refl _) _
    have c := D4.new w6 (.int .i64 xc) (.int .i64 xy) (.slice xa xn xk) (.slice xia xim xik) 45
    rw [← hv6, hM10] at c
    obtain ⟨i1, i2⟩ := ex_in hmn hxn hxim
    intro X hX
    have b := hbx.trans (al.mono hbx.size)
    exact ⟨b.trans (hX.mono b.size), c.keep hX, (i1.keep al).keep hX, (i2.keep al).keep hX⟩
  have HxN : Hid (xl.length = xn) := hxn
  have HxI : Hid (xi.length = xim) := hxim
  have HxK : Hid (xn ≤ xk) := hqk
  have HVv6 := rulW hv6
  clear hbx hmn hv6 hqk
  clear c0 c1 r0 r1 r2 HI
  have FA : Hid (∀ X, Below v6.heap.size v6 X → Below w.heap.size w X ∧ SBL X M3 (M3 + 1) y va n vc s c t ∧ WtIn X va q ∧ D4 X M6 (.int .i64 zc) (.int .i64 zy) (.slice ea en ek) (.slice eia eim eik) ∧ WtIn X ea zl ∧ NsIn X eia zi ∧ SBL X M7 (M7 + 1) my mva mn mvc ms mc mt ∧ WtIn X mva mq ∧ D4 X M10 (.int .i64 xc) (.int .i64 xy) (.slice xa xn xk) (.slice xia xim xik) ∧ WtIn X xa xl ∧ Below v1.heap.size v1 X ∧ Below v5.heap.size v5 X) := fun X hX => by
    obtain ⟨a1, a2, a3, _⟩ := F6.out X hX
    obtain ⟨b1, b2, b3⟩ := F5.out X a1
    obtain ⟨c1, c2, c3, c4⟩ := F2.out X b1
    obtain ⟨d1, d2, d3⟩ := F1.out X c1
    exact ⟨d1, d2, d3, c2, c3, c4, b2, b3, a2, a3, c1, a1⟩
  have HS3 : Hid (∀ X, Below v6.heap.size v6 X → Calls Try.prog 21 #[.agg #[.int .i64 y, .slice va n vc], .agg #[.int .i64 s, .int .i64 c, .int .i64 t], .int .i64 now] X fun e w' => (∃ pa pk pia pik, e = .returned (.agg #[.int .i64 zc, .int .i64 zy, .slice pa en pk, .slice pia eim pik]) ∧ NsIn w' pia zi) ∧ Below v6.heap.size v6 w') := fun X hX => (HSP.out X (FA.out X hX).2.2.2.2.2.2.2.2.2.2.1).mono fun _ w' ⟨⟨rr, h1, h2, _⟩, h3⟩ => ⟨⟨rr.a, rr.c, rr.i, rr.k, by rw [h1]; simp only [HeN.out, HeI.out], (ex_in h2 rfl rfl).2⟩, hX.trans (h3.mono hX.size)⟩
  have HQ3 : Hid (∀ X, Below v6.heap.size v6 X → Calls Try.prog 23 #[.agg #[.int .i64 my, .slice mva mn mvc], .agg #[.int .i64 ms, .int .i64 mc, .int .i64 mt], .int .i64 mx] X fun e w' => (∃ pa pk pia pik, e = .returned (.agg #[.int .i64 xc, .int .i64 xy, .slice pa xn pk, .slice pia xim pik])) ∧ Below v6.heap.size v6 w') := fun X hX => (HSQ.out X (FA.out X hX).2.2.2.2.2.2.2.2.2.2.2).mono fun _ w' ⟨⟨rr, h1, h2, _⟩, h3⟩ => ⟨⟨rr.a, rr.c, rr.i, rr.k, by rw [h1]; simp only [HxN.out, HxI.out]⟩, hX.trans (h3.mono hX.size)⟩
  have HLW : Hid (∀ X pia pik, Below v6.heap.size v6 X → NsIn X pia zi → Calls Try.prog 22 #[.slice eia eim eik, .slice pia eim pik] X fun e w' => e = .returned (.bool true) ∧ Below v6.heap.size v6 w') := fun X pia pik hX hp => by
    have r := lwNums_same X eia pia eik pik zi HZL.out.2 (FA.out X hX).2.2.2.2.2.1 hp
    rw [HeI.out] at r
    exact r.mono fun _ _ ⟨h1, h2⟩ => ⟨h1, hX.trans (h2.mono hX.size)⟩
  clear HSP HSQ F1 F2 F5 F6
  go_upto_region 7 with fail
  try simp only [hM10]
  try simp only [hxn, hxim]
  rw [← HVv6.out]
  clear HVv6 hM10 hxn hxim
  have HKS : Hid (∀ X, Below v6.heap.size v6 X → X.cell? ⟨M3, 0, none⟩ = some (.int .i64 y) ∧ X.cell? ⟨M3, 1, none⟩ = some (.slice va n vc) ∧ X.cell? ⟨M3 + 1, 0, none⟩ = some (.int .i64 s) ∧ X.cell? ⟨M3 + 1, 1, none⟩ = some (.int .i64 c) ∧ X.cell? ⟨M3 + 1, 2, none⟩ = some (.int .i64 t) ∧ X.cell? ⟨M7, 0, none⟩ = some (.int .i64 my) ∧ X.cell? ⟨M7, 1, none⟩ = some (.slice mva mn mvc) ∧ X.cell? ⟨M7 + 1, 0, none⟩ = some (.int .i64 ms) ∧ X.cell? ⟨M7 + 1, 1, none⟩ = some (.int .i64 mc) ∧ X.cell? ⟨M7 + 1, 2, none⟩ = some (.int .i64 mt) ∧ X.cell? ⟨M6, 0, none⟩ = some (.int .i64 zc) ∧ X.cell? ⟨M6, 3, none⟩ = some (.slice eia eim eik) ∧ X.cell? ⟨M10, 0, none⟩ = some (.int .i64 xc)) := fun X hX => by
    obtain ⟨_, ⟨y0, y1, y2, y3, y4⟩, _, d4, _, _, ⟨g0, g1, g2, g3, g4⟩, _, d5, _⟩ := FA.out X hX
    exact ⟨y0, y1, y2, y3, y4, g0, g1, g2, g3, g4, d4.c0, d4.c3, d5.c0⟩
  have DZ : Hid (Below v6.heap.size v6 v6) := Below.refl _ _
  have D0 : Hid (Below v6.heap.size v6 v6.drew) := (Below.refl _ _).drew
  go_cut [62] from 34 to 62 (fun c wx => c = .bool false ∧ Below v6.heap.size v6 wx)
  case first =>
    have fl0 := xfield0
    have fl2 := xfield2
    go_wp2_with fail
    go_region_held3 (fun X => X.cell? ⟨M3, 0, none⟩ = some (.int .i64 y) ∧ X.cell? ⟨M3, 1, none⟩ = some (.slice va n vc) ∧ X.cell? ⟨M3 + 1, 0, none⟩ = some (.int .i64 s) ∧ X.cell? ⟨M3 + 1, 1, none⟩ = some (.int .i64 c) ∧ X.cell? ⟨M3 + 1, 2, none⟩ = some (.int .i64 t) ∧ X.cell? ⟨M7, 0, none⟩ = some (.int .i64 my) ∧ X.cell? ⟨M7, 1, none⟩ = some (.slice mva mn mvc) ∧ X.cell? ⟨M7 + 1, 0, none⟩ = some (.int .i64 ms) ∧ X.cell? ⟨M7 + 1, 1, none⟩ = some (.int .i64 mc) ∧ X.cell? ⟨M7 + 1, 2, none⟩ = some (.int .i64 mt) ∧ X.cell? ⟨M6, 0, none⟩ = some (.int .i64 zc) ∧ X.cell? ⟨M6, 3, none⟩ = some (.slice eia eim eik) ∧ X.cell? ⟨M10, 0, none⟩ = some (.int .i64 xc))
      (first | ((with_reducible refine HKS.out _ ?_); (first | with_reducible exact E4.out | with_reducible exact E3.out | with_reducible exact E2.out | with_reducible exact E1.out | with_reducible exact D0.out | with_reducible exact DZ.out)))
      (first
      | (go_at_call 21; first
        | ((with_reducible refine (HS3.out _ ?_).mono ?_); (with_reducible exact E1.out); rintro r wf ⟨⟨pa2, pk2, pia2, pik2, rfl, hns⟩, hb⟩; have E2 : Hid (Below v6.heap.size v6 wf) := hb; have HNS := rulW hns; clear hb hns)
        | ((with_reducible refine (HS3.out _ ?_).mono ?_); (with_reducible exact D0.out); rintro r we ⟨⟨pa1, pk1, pia1, pik1, rfl, _⟩, hb⟩; have E1 : Hid (Below v6.heap.size v6 we) := hb; clear hb))
      | (go_at_call 22; (with_reducible refine (HLW.out _ _ _ ?_ ?_).mono ?_); (with_reducible exact E2.out); (with_reducible exact HNS.out); rintro r wg ⟨rfl, hb⟩; have E3 : Hid (Below v6.heap.size v6 wg) := hb; clear hb)
      | (go_at_call 23; (with_reducible refine (HQ3.out _ ?_).mono ?_); (with_reducible exact E3.out); rintro r wh ⟨⟨pa3, pk3, pia3, pik3, rfl⟩, hb⟩; have E4 : Hid (Below v6.heap.size v6 wh) := hb; clear hb))
    all_goals
      go_wp2_with fail
      go_meet
      exact ⟨rfl, E4.out⟩
  case rest =>
  obtain ⟨rfl, hcb⟩ := hcut
  have HCB : Hid (Below v6.heap.size v6 wc) := hcb
  generalize wc = wA at *
  clear hcb HS3 HQ3 HLW HKS DZ D0
  go_upto_region 9 with fail
  go_cut [91] from 63 to 91 (fun c wx => c = .bool false ∧ Below v6.heap.size v6 wx)
  case first =>
    obtain ⟨_, _, _, _, _, _, ⟨g0, g1, g2, g3, g4⟩, _, ⟨x0, x1, x2, x3, _, _⟩, _⟩ := FA.out _ HCB.out
    by_cases hx0 : xc = 0
    · subst hx0
      have HK := rulW (HCK.out rfl)
      have hlen : xn + 1 = mn := by have h1 := HK.out.len; have h2 := HxN.out; have h3 := HmLN.out; simp only at h1; omega
      have HX8 : Hid (xl.length ≤ 8) := HK.out.l8
      have HCA : Hid (∀ X, Below v6.heap.size v6 X → Calls Try.prog 20 #[.agg #[.int .i64 xy, .slice xa xn xk], .agg #[.int .i64 ms, .int .i64 mc, .int .i64 mt], .int .i64 mx] X fun e w' => (∃ uy ua un uk uia uim uik, e = .returned (.agg #[.int .i64 4, .int .i64 uy, .slice ua un uk, .slice uia uim uik])) ∧ Below v6.heap.size v6 w') := fun X hX => by
        have r := implCancel_any X xy xa xk xl ms mc mt mx (by have := HX8.out; omega) (by rw [HxN.out]; exact HxK.out) (FA.out X hX).2.2.2.2.2.2.2.2.2.1
        rw [HxN.out] at r
        have h4 : (cancelR xy xl ms mc mt mx).c = 4 := HK.out.again
        generalize cancelR xy xl ms mc mt mx = Q at *
        obtain ⟨uc, uy, ul, ui⟩ := Q
        simp only at h4
        subst h4
        exact r.mono fun _ w' ⟨⟨rr, h1, _, _⟩, h3⟩ => ⟨⟨uy, rr.a, ul.length, rr.c, rr.i, ui.length, rr.k, h1⟩, hX.trans (h3.mono hX.size)⟩
      have HSM : Hid (∀ X, Below v6.heap.size v6 X → Calls Try.prog 24 #[.agg #[.int .i64 xy, .slice xa xn xk], .agg #[.int .i64 my, .slice mva mn mvc]] X fun e w' => e = .returned (.bool false) ∧ Below v6.heap.size v6 w') := fun X hX => by
        have r := implSameB_any X xy xa xk xl my mva mvc mq (by have := HX8.out; omega) (FA.out X hX).2.2.2.2.2.2.2.2.2.1 (FA.out X hX).2.2.2.2.2.2.2.1
        rw [HxN.out, HmLN.out, show sameB xy xl my mq = false from HK.out.same] at r
        exact r.mono fun _ _ ⟨h1, h2⟩ => ⟨h1, hX.trans (h2.mono hX.size)⟩
      have hmn := hlen.symm
      have hmn9 := HmN9.out
      have wm : IntKind.i64.wrap ((xn : Int) + 1 - 1) = (xn : Int) := by rw [IntKind.wrap_i64]; omega
      have fl0 := xfield0
      subst hmn
      have xx3 : IntKind.i64.wrap (xn : Int) = (xn : Int) := by rw [IntKind.wrap_i64]; omega
      clear HK HmLN HxN HxI HxK
      go_wp2_with fail
      refine (HCA.out _ HCB.out).mono ?_
      rintro r w7 ⟨⟨uy, ua, un, uk, uia, uim, uik, rfl⟩, hb7⟩
      clear g0 g1 g2 g3 g4 x0 x1 x2 x3 HCA
      obtain ⟨_, _, _, _, _, _, ⟨g0, g1, g2, g3, g4⟩, _, ⟨x0, x1, x2, x3, _, _⟩, _⟩ := FA.out _ hb7
      go_wp2_with fail
      refine (HSM.out _ hb7).mono ?_
      rintro r w8 ⟨rfl, hb8⟩
      clear g0 g1 g2 g3 g4 x0 x1 x2 x3 HSM
      have HB8 : Hid (Below v6.heap.size v6 w8) := hb8
      clear hb7 hb8
      go_wp2_with fail
      go_meet
      exact ⟨rfl, HB8.out⟩
    · have hq1 : (xc == 0) = false := by simpa using hx0
      go_wp2_with fail
      go_meet
      exact ⟨rfl, HCB.out⟩
  case rest =>
  obtain ⟨rfl, hcb⟩ := hcut
  have HCC : Hid (Below v6.heap.size v6 wc) := hcb
  generalize wc = wB at *
  clear hcb HCB HCK
  have FB : Hid (∀ X, Below v6.heap.size v6 X → Below w.heap.size w X ∧ SBL X M3 (M3 + 1) y va n vc s c t ∧ D4 X M6 (.int .i64 zc) (.int .i64 zy) (.slice ea en ek) (.slice eia eim eik) ∧ WtIn X ea zl) := fun X hX => by
    obtain ⟨a1, a2, _, a4, a5, _⟩ := FA.out X hX
    exact ⟨a1, a2, a4, a5⟩
  clear FA
  obtain ⟨e0, e1, e2, e3, _, _⟩ := (FB.out _ HCC.out).2.2.1
  have HB := rulW (FB.out _ HCC.out).1
  by_cases hq0 : zc = 0
  rotate_left
  · have hq1 : (zc != 0) = true := by simpa using hq0
    clear HOK
    go_wp2_with fail
    go_ret
    exact ⟨rfl, HB.out⟩
  subst hq0
  have HK := rulW (HOK.out rfl)
  clear HOK
  have HZ8 : Hid (zl.length ≤ 8) := HK.out.l8
  have HDU : Hid (∀ (k : Nat) r, zl[k]? = some r → now < r.du) := HK.out.due
  have HLEN : Hid (eim + en = n) := by have h1 := HK.out.len; have h2 := HeN.out; have h3 := HeI.out; have h4 := HLN.out; show eim + en = n; simp only at h1; omega
  have HX2 : Hid (∀ X, Below v6.heap.size v6 X → Calls Try.prog 18 #[.agg #[.int .i64 zy, .slice ea en ek], .agg #[.int .i64 s, .int .i64 c, .int .i64 t], .int .i64 now] X fun e w' => (∃ uc uy ua un uk uia uik, e = .returned (.agg #[.int .i64 uc, .int .i64 uy, .slice ua un uk, .slice uia 0 uik])) ∧ Below v6.heap.size v6 w') := fun X hX => by
    have r := implExpire_any X zy ea ek zl s c t now (by have := HZ8.out; omega) (by rw [HeN.out]; exact HeK.out) (FB.out X hX).2.2.2
    rw [HeN.out] at r
    have h4 : (expireR zy zl s c t now).i = [] := HK.out.again
    generalize expireR zy zl s c t now = Q at *
    obtain ⟨uc, uy, ul, ui⟩ := Q
    simp only at h4
    subst h4
    exact r.mono fun _ w' ⟨⟨rr, h1, _, _⟩, h3⟩ => ⟨⟨uc, uy, rr.a, ul.length, rr.c, rr.i, rr.k, h1⟩, hX.trans (h3.mono hX.size)⟩
  have HBF : Hid (∀ X, Below v6.heap.size v6 X → Calls Try.prog 11 #[.agg #[.int .i64 zy, .slice ea en ek], .agg #[.int .i64 s, .int .i64 c, .int .i64 t]] X fun e w' => e = .returned (.int .i64 0) ∧ Below v6.heap.size v6 w') := fun X hX => by
    have r := implBlk_any zy ea ek zl s c t X (by rw [HeN.out]; exact HeK.out) (FB.out X hX).2.2.2
    rw [show blkC zy zl s c t = 0 from HK.out.blk, HeN.out] at r
    exact r.mono fun _ _ ⟨h1, h2⟩ => ⟨h1, hX.trans (h2.mono hX.size)⟩
  have hen8 : en ≤ 8 := by have := HZ8.out; have := HeN.out; omega
  clear HK HZL HeK
  go_wp2_with fail
  go_loopw [11] (fun i X => ∃ k : Nat, k ≤ en ∧ i = .int .i64 (k : Int) ∧ Below v6.heap.size v6 X) (fun i _ => en - (intOf i).toNat)
  case atStart => exact ⟨0, Nat.zero_le _, rfl, HCC.out⟩
  case round =>
    obtain ⟨k, hk, rfl, hb⟩ := hrel
    clear e0 e1 e2 e3 HB HCC
    have HBW : Hid (Below v6.heap.size v6 wr) := hb
    obtain ⟨_, ⟨c0, c1, r0, r1, r2⟩, ⟨e0, e1, e2, e3, _, _⟩, hwt⟩ := FB.out _ hb
    clear hb
    by_cases hlt : k < en
    · obtain ⟨r, hr⟩ : ∃ r, zl[k]? = some r := ⟨zl[k]'(by have := HeN.out; omega), List.getElem?_eq_getElem _⟩
      rcases hwt with h | ⟨b, off, rfl, hat⟩
      · rw [h] at hr; simp at hr
      have p1 := (hat k r hr).2
      have hd := HDU.out k r hr
      have gk : (k : Int) < (en : Int) := by omega
      have gk0 : (0 : Int) ≤ (k : Int) := by omega
      have hnd : ¬ r.du ≤ now := by omega
      have d1 : decide (r.du ≤ now) = false := by simpa using hd
      clear hat hr
      generalize r.du = rd at *
      clear r
      go_wp2_with fail
      go_roundw
      case rel => exact ⟨k + 1, by omega, by go_num, HBW.out⟩
      case measure => simp [intOf]; omega
    · have hlen := HLEN.out
      have hn9 := HN9.out
      have wl : IntKind.i64.wrap ((eim : Int) + (en : Int)) = (eim : Int) + (en : Int) := by rw [IntKind.wrap_i64]; omega
      have el : (eim : Int) + (en : Int) = (n : Int) := by omega
      have fl2 := xfield2
      clear hwt HDU HLEN HeN HeI HLN HN9 HZ8
      go_wp2_with fail
      refine (HX2.out _ HBW.out).mono ?_
      rintro r w9 ⟨⟨uc, uy, ua, un, uk, uia, uik, rfl⟩, hb9⟩
      clear c0 c1 r0 r1 r2 e0 e1 e2 e3 HX2
      obtain ⟨_, ⟨c0, c1, r0, r1, r2⟩, ⟨e0, e1, e2, e3, _, _⟩, _⟩ := FB.out _ hb9
      go_wp2_with fail
      refine (HBF.out _ hb9).mono ?_
      rintro r w10 ⟨rfl, hb10⟩
      have HB10 := rulW (FB.out _ hb10).1
      clear c0 c1 r0 r1 r2 e0 e1 e2 e3 HBF FB hb9 hb10
      go_wp2_with fail
      go_ret
      exact ⟨rfl, HB10.out⟩
end waits
end Go.Proofs.Ytmgidcigihpbeaa
