/-
  Texts of one claim, one behind the other.
-/
import Derived.BigQuiet
import Derived.Deep.CutBlock
import Derived.Deep.CutRange
import Derived.Deep.RegionHeld3
import Derived.Deep.RegionLawGrows
import Derived.Deep.RegionWith
import Derived.Deep.Slices
import Derived.Deep.Strs
import Derived.Lib.QuietBelow
import Derived.Lib.SliceRun
import Derived.Test.YtmgidcigihpbeaaMgC
/-
  Those who wait in memory.
-/
namespace Go.Proofs.Ytmgidcigihpbeaa
open Go.ChangeShapes Go.WideShapes Go.ChangeAt Go.RowKit
structure Wt where
  wi : Int
  du : Int
def WtAt (w : World) (b off : Nat) (l : List Wt) : Prop :=
  ∀ (i : Nat) r, l[i]? = some r → w.cell? ⟨b, off + i * 2, none⟩ = some (.int .i64 r.wi) ∧ w.cell? ⟨b, off + i * 2 + 1, none⟩ = some (.int .i64 r.du)
theorem WtAt.keep {w w' : World} {b off : Nat} {l : List Wt} (h : WtAt w b off l) (hb : Below w.heap.size w w') : WtAt w' b off l := by
  intro i r hr
  obtain ⟨p0, p1⟩ := h i r hr
  exact ⟨by rw [hb.cell (block_lt_of_cell p0)]; exact p0, by rw [hb.cell (block_lt_of_cell p1)]; exact p1⟩
/-- The slice at a holds l. -/
def WtIn (w : World) (a : Option Addr) (l : List Wt) : Prop := l = [] ∨ ∃ b off, a = some ⟨b, off, none⟩ ∧ WtAt w b off l
theorem WtIn.keep {w w' : World} {a : Option Addr} {l : List Wt} (h : WtIn w a l) (hb : Below w.heap.size w w') : WtIn w' a l := by
  rcases h with h | ⟨b, off, e, hat⟩
  · exact .inl h
  · exact .inr ⟨b, off, e, hat.keep hb⟩
theorem dropWt (l : List Wt) (k : Nat) (r : Wt) (h : l[k]? = some r) : l.drop k = r :: l.drop (k + 1) := by
  obtain ⟨hk, rfl⟩ := List.getElem?_eq_some_iff.1 h
  exact List.drop_eq_getElem_cons hk
def szWt (left : Int) (n : Nat) : Int := if left - (n : Int) < 0 then -1 else left - (n : Int)
theorem szWt_room {left : Int} {n : Nat} (h1 : left ≤ 1048576) (h : ¬ szWt left n < 0) : (n : Int) ≤ 1048576 ∧ szWt left n ≤ left ∧ 0 ≤ szWt left n := by
  unfold szWt at h ⊢
  by_cases c0 : left - (n : Int) < 0
  · rw [if_pos c0] at h; omega
  · rw [if_neg c0] at h ⊢; omega
end Go.Proofs.Ytmgidcigihpbeaa
/-
  The laws' copy of a list, and their comparing of two.
-/
namespace Go.Proofs.Ytmgidcigihpbeaa
open Go.ChangeShapes Go.WideShapes Go.ChangeAt Go.RowKit Go.Sort
/-- m cells from the head of block G on are there and may be written. -/
def RoomWt (w : World) (G m : Nat) : Prop := ∀ j, j < m → (∃ u, w.cell? ⟨G, j, none⟩ = some u) ∧ w.frozen? ⟨G, j, none⟩ = false
theorem RoomWt.keep {w w' : World} {G m : Nat} (h : RoomWt w G m) (hb : Below w.heap.size w w') : RoomWt w' G m := by
  intro j hj
  obtain ⟨⟨u, hu⟩, hf⟩ := h j hj
  exact ⟨⟨u, by rw [hb.cell (block_lt_of_cell hu)]; exact hu⟩, by rw [hb.frozen (block_lt_of_cell hu)]; exact hf⟩
theorem RoomWt.set {w : World} {G m : Nat} (h : RoomWt w G m) (a : Addr) (v : Value) : RoomWt (w.setCell a v) G m := by
  intro j hj
  obtain ⟨⟨u, hu⟩, hf⟩ := h j hj
  refine ⟨?_, by rw [World.frozen?_setCell]; exact hf⟩
  by_cases e : a = ⟨G, j, none⟩
  · exact ⟨v, by subst e; exact World.cell?_setCell_same _ _ _ hu⟩
  · exact ⟨u, by rw [World.cell?_setCell_other _ _ _ _ e]; exact hu⟩
def putWt (w : World) (G k : Nat) (r : Wt) : World := (w.setCell ⟨G, k * 2, none⟩ (.int .i64 r.wi)).setCell ⟨G, k * 2 + 1, none⟩ (.int .i64 r.du)
theorem offWt_ne {G i j : Nat} (h : i ≠ j) : (⟨G, i, none⟩ : Addr) ≠ ⟨G, j, none⟩ := fun e => h (congrArg Addr.off e)
theorem putWt_other (w : World) (G k : Nat) (r : Wt) (j : Nat) (h0 : k * 2 ≠ j) (h1 : k * 2 + 1 ≠ j) : (putWt w G k r).cell? ⟨G, j, none⟩ = w.cell? ⟨G, j, none⟩ := by
  unfold putWt
  rw [World.cell?_setCell_other _ _ _ _ (offWt_ne h1), World.cell?_setCell_other _ _ _ _ (offWt_ne h0)]
theorem RoomWt.put {w : World} {G m : Nat} (h : RoomWt w G m) (k : Nat) (r : Wt) : RoomWt (putWt w G k r) G m := (h.set _ _).set _ _
theorem WtAt.put {w : World} {G n : Nat} {l : List Wt} {k : Nat} {r : Wt} (h : WtAt w G 0 (l.take k)) (hr : l[k]? = some r) (hm : RoomWt w G (n * 2)) (hk : k < n) : WtAt (putWt w G k r) G 0 (l.take (k + 1)) := by
  intro i q hq
  have hi : i < k + 1 := by
    have := (List.getElem?_eq_some_iff.1 hq).1
    simp at this; omega
  rw [List.getElem?_take_of_lt hi] at hq
  simp only [Nat.zero_add]
  by_cases e : i = k
  · subst e
    rw [hr] at hq
    obtain rfl := Option.some.inj hq
    obtain ⟨⟨u0, g0⟩, _⟩ := hm (i * 2) (by omega)
    obtain ⟨⟨u1, g1⟩, _⟩ := (hm.set ⟨G, i * 2, none⟩ (.int .i64 r.wi)) (i * 2 + 1) (by omega)
    unfold putWt
    exact ⟨by rw [World.cell?_setCell_other _ _ _ _ (offWt_ne (by omega))]; exact World.cell?_setCell_same _ _ _ g0, by exact World.cell?_setCell_same _ _ _ g1⟩
  · have hq2 : (l.take k)[i]? = some q := by rw [List.getElem?_take_of_lt (by omega)]; exact hq
    obtain ⟨a0, a1⟩ := h i q hq2
    simp only [Nat.zero_add] at a0 a1
    exact ⟨by rw [putWt_other _ _ _ _ _ (by omega) (by omega)]; exact a0, by rw [putWt_other _ _ _ _ _ (by omega) (by omega)]; exact a1⟩
theorem infoWt : (Try.prog.info? 40).map (fun i => (i.zero, i.size, i.bytes)) = some (some (.agg #[.int .i64 0, .int .i64 0]), 2, 16) := by kernel_rfl
end Go.Proofs.Ytmgidcigihpbeaa
/-
  A list in a row of one's own: what is appended; new lists.
-/
namespace Go.Proofs.Ytmgidcigihpbeaa
open Go.ChangeShapes Go.WideShapes Go.ChangeAt Go.RowKit Go.Sort
def cellWt (r : Wt) : List Value := [.int .i64 r.wi, .int .i64 r.du]
def wWt (l : List Wt) : List Value := l.flatMap cellWt
theorem wWt_len (l : List Wt) : (wWt l).length = l.length * 2 := by
  induction l with
  | nil => rfl
  | cons r l ih => simp only [wWt, List.flatMap_cons, List.length_append, List.length_cons] at ih ⊢; rw [ih]; simp [cellWt]; omega
theorem wWt_at (l : List Wt) : ∀ (i : Nat) r, l[i]? = some r → (wWt l)[i * 2]? = some (.int .i64 r.wi) ∧ (wWt l)[i * 2 + 1]? = some (.int .i64 r.du) := by
  induction l with
  | nil => intro i r hr; simp at hr
  | cons x l ih =>
    intro i r hr
    have e : wWt (x :: l) = .int .i64 x.wi :: .int .i64 x.du :: wWt l := by simp [wWt, cellWt]
    rw [e]
    cases i with
    | zero => simp at hr; subst hr; simp
    | succ i =>
      have := ih i r (by simpa using hr)
      rw [show (i + 1) * 2 = i * 2 + 2 from by omega]
      simpa using this
theorem wWt_one (l : List Wt) : ∀ u ∈ wWt l, u.oneCell' = true := by
  intro u hu
  simp only [wWt, List.mem_flatMap] at hu
  obtain ⟨r, _, hr⟩ := hu
  simp only [cellWt, List.mem_cons, List.not_mem_nil, or_false] at hr
  rcases hr with rfl | rfl <;> rfl
theorem addWt (b off j : Nat) : (⟨b, off, none⟩ : Addr).add j = ⟨b, off + j, none⟩ := by unfold Addr.add; split <;> simp_all
theorem wWt_in {w : World} {a : Option Addr} {l : List Wt} (h : WtIn w a l) : l.length = 0 ∨ ∃ ad, a = some ad ∧ ∀ j u, (wWt l)[j]? = some u → w.cell? (ad.add j) = some u := by
  rcases h with rfl | ⟨b, off, rfl, h⟩
  · exact .inl rfl
  · refine .inr ⟨_, rfl, fun j u hj => ?_⟩
    rw [addWt]
    have hlt : j < (wWt l).length := (List.getElem?_eq_some_iff.1 hj).1
    rw [wWt_len] at hlt
    obtain ⟨r, hr⟩ : ∃ r, l[j / 2]? = some r := ⟨l[j / 2]'(by omega), List.getElem?_eq_getElem _⟩
    obtain ⟨e0, e1⟩ := wWt_at l (j / 2) r hr
    obtain ⟨c0, c1⟩ := h (j / 2) r hr
    obtain hm | hm : j % 2 = 0 ∨ j % 2 = 1 := by omega
    · have ej : j / 2 * 2 = j := by omega
      rw [ej] at e0 c0
      rw [e0] at hj
      rw [← hj]; exact c0
    · have ej : j / 2 * 2 + 1 = j := by omega
      rw [ej] at e1
      rw [Nat.add_assoc, ej] at c1
      rw [e1] at hj
      rw [← hj]; exact c1
/-- v, nil or not, holds l in a row of the call's own, from block base on. -/
def OwnWt (w : World) (base : Nat) (v : Value) (l : List Wt) : Prop := w.ownsRow base 40 2 v l.length (wWt l)
theorem OwnWt.none0 (w : World) (base : Nat) : OwnWt w base (.slice none 0 0) [] := World.ownsRow_nil _ _ _ _
theorem OwnWt.made0 (w : World) (base : Nat) (hb : base ≤ w.heap.size) : OwnWt (w.alloc (.cells #[] 40)) base (.slice (some ⟨w.heap.size, 0, none⟩) 0 0) [] := World.ownsRow_made w #[] 0 hb (by unfold maxLen; omega) rfl
theorem OwnWt.below {w w' : World} {base : Nat} {v : Value} {l : List Wt} (h : OwnWt w base v l) (hb : Below w.heap.size w w') : OwnWt w' base v l := row_below h hb
theorem OwnWt.lower {w : World} {b0 base : Nat} {v : Value} {l : List Wt} (h : OwnWt w base v l) (hb : b0 ≤ base) : OwnWt w b0 v l := row_lower h hb
theorem OwnWt.in {w : World} {base : Nat} {v : Value} {l : List Wt} (h : OwnWt w base v l) : ∃ a c, v = .slice a l.length c ∧ l.length ≤ c ∧ WtIn w a l := by
  have h0 := h
  obtain ⟨_, h1 | ⟨g, c, cur, rfl, _, _, hc, _⟩⟩ := h
  · have e : l = [] := List.eq_nil_of_length_eq_zero h1.2
    subst e
    exact ⟨none, 0, h1.1, Nat.le_refl _, .inl rfl⟩
  · refine ⟨_, c, rfl, hc, .inr ⟨g, 0, rfl, fun i r hr => ?_⟩⟩
    have hi := (List.getElem?_eq_some_iff.1 hr).1
    obtain ⟨a0, a1⟩ := wWt_at l i r hr
    have c0 := World.ownsRow.cellAt h0 (i * 2) (by omega)
    have c1 := World.ownsRow.cellAt h0 (i * 2 + 1) (by omega)
    exact ⟨by rw [Nat.zero_add, c0, a0], by rw [Nat.zero_add, c1, a1]⟩
/-- v holds l in a block of its own, from base on. -/
def WtNew (w : World) (base : Nat) (v : Value) (l : List Wt) : Prop := (l = [] ∧ ∃ a c, v = .slice a 0 c) ∨ ∃ g off cap, v = .slice (some ⟨g, off, none⟩) l.length cap ∧ base ≤ g ∧ g < w.heap.size ∧ WtAt w g off l ∧ ∀ o, w.frozen? ⟨g, o, none⟩ = false
theorem WtNew.in {w : World} {base : Nat} {v : Value} {l : List Wt} (h : WtNew w base v l) : ∃ a c, v = .slice a l.length c ∧ WtIn w a l := by
  rcases h with ⟨rfl, a, c, rfl⟩ | ⟨g, off, cap, rfl, _, _, h, _⟩
  · exact ⟨a, c, rfl, .inl rfl⟩
  · exact ⟨_, _, rfl, .inr ⟨g, off, rfl, h⟩⟩
theorem WtNew.keep {w w' : World} {base : Nat} {v : Value} {l : List Wt} (h : WtNew w base v l) (hb : Below w.heap.size w w') : WtNew w' base v l := by
  rcases h with h | ⟨g, off, cap, e, h1, h2, h3, h4⟩
  · exact .inl h
  · exact .inr ⟨g, off, cap, e, h1, Nat.lt_of_lt_of_le h2 hb.size, h3.keep hb, fun o => by rw [hb.frozen (p := ⟨g, o, none⟩) h2]; exact h4 o⟩
theorem WtNew.lower {w : World} {b0 base : Nat} {v : Value} {l : List Wt} (h : WtNew w base v l) (hb : b0 ≤ base) : WtNew w b0 v l := by
  rcases h with h | ⟨g, off, cap, e, h1, h2⟩
  · exact .inl h
  · exact .inr ⟨g, off, cap, e, by omega, h2⟩
theorem WtNew.nil (w : World) (base : Nat) (a : Option Addr) (c : Nat) : WtNew w base (.slice a 0 c) [] := .inl ⟨rfl, a, c, rfl⟩
theorem WtAt.one {g G off : Nat} {w w' : World} {l : List Wt} (h : WtAt w G off l) (k : OneB g w w') (hne : G ≠ g) : WtAt w' G off l := by
  intro i r hr
  obtain ⟨p0, p1⟩ := h i r hr
  exact ⟨by rw [k.cell _ hne]; exact p0, by rw [k.cell _ hne]; exact p1⟩
theorem WtNew.one {g : Nat} {w w' : World} {base : Nat} {v : Value} {l : List Wt} (h : WtNew w base v l) (k : OneB g w w') (hne : ∀ G, v.ownBlock = some G → G ≠ g) : WtNew w' base v l := by
  rcases h with h | ⟨G, off, cap, rfl, h1, h2, h3, h4⟩
  · exact .inl h
  · have hn := hne G rfl
    exact .inr ⟨G, off, cap, rfl, h1, by rw [k.size]; exact h2, h3.one k hn, fun o => by rw [k.frozen _ hn]; exact h4 o⟩
theorem OwnWt.new {w : World} {base : Nat} {v : Value} {l : List Wt} (h : OwnWt w base v l) : WtNew w base v l := by
  obtain ⟨a, c, e, _, hi⟩ := h.in
  obtain ⟨_, h1 | ⟨g, c', cur, rfl, hg, hh, _⟩⟩ := h
  · have e0 : l = [] := List.eq_nil_of_length_eq_zero h1.2
    exact .inl ⟨e0, none, 0, h1.1⟩
  · simp only [Value.slice.injEq, true_and] at e
    obtain ⟨rfl, rfl⟩ := e
    rcases hi with hi | ⟨b, off, e2, hat⟩
    · exact .inl ⟨hi, some ⟨g, 0, none⟩, c', by rw [hi]; rfl⟩
    · simp only [Option.some.injEq, Addr.mk.injEq, and_true] at e2
      obtain ⟨rfl, rfl⟩ := e2
      exact .inr ⟨g, 0, c', rfl, hg, (Array.getElem?_eq_some_iff.1 hh).1, hat, fun o => by simp [World.frozen?, hh]⟩
theorem WtNew.spot {w : World} {base : Nat} {a : Option Addr} {n c : Nat} {l : List Wt} (h : WtNew w base (.slice a n c) l) : ∃ g off, base ≤ g ∧ (l = [] ∨ (a = some ⟨g, off, none⟩ ∧ WtAt w g off l ∧ ∀ o, o < off + l.length * 2 → w.frozen? ⟨g, o, none⟩ = false)) ∧ (l = [] ∨ g < w.heap.size) := by
  rcases h with ⟨e, _⟩ | ⟨g, off, cap, e, h1, h2, h3, h4⟩
  · exact ⟨base, 0, Nat.le_refl _, .inl e, .inl e⟩
  · simp only [Value.slice.injEq] at e
    obtain ⟨rfl, rfl, rfl⟩ := e
    exact ⟨g, off, h1, .inr ⟨rfl, h3, fun o _ => h4 o⟩, .inr h2⟩
theorem wpList_append1Wt {ops : Array Oper} {rest : List Oper} {o : Oper} {a : Act} {Q : Exit → Act → World → Prop} (w : World) (hgd : o.guard = none) (s x : Operand)
    (ho : o.op = .call { callee := .builtin .append, args := #[s, x], argTypes := #[24, 24] }) (base : Nat) (v : Value) (l : List Wt) (r : Wt)
    (hs : a.eval s = v) (hx : a.eval x = .slice (some ⟨w.heap.size, 0, none⟩) 1 1) (hown : OwnWt w base v l) (hl : l.length ≤ 2000000) (hbase : base ≤ w.heap.size)
    (h : ∀ v' w', OwnWt w' base v' (l ++ [r]) → Below base w w' → w.grownBy w' v.ownBlock → wpList Try.prog ops Q rest (a.put o.dst v') w') :
    wpList Try.prog ops Q (o :: rest) a (w.alloc (.cells #[.int .i64 r.wi, .int .i64 r.du] 40)) := by
  obtain ⟨i0, hi, hz0, hz1, hz2⟩ := info_parts infoWt
  refine wpList_append_own _ hgd s x 24 ho base 40 i0 (.agg #[.int .i64 0, .int .i64 0]) 2 16 Try.underlying24 hi hz0 hz1 hz2 rfl (by decide) v l.length (wWt l) hs (World.ownsRow.alloc hown _) ⟨w.heap.size, 0, none⟩ 1 1 (cellWt r) hx rfl ?_ ?_ ?_ ?_ ?_ ?_
  · intro j u hj
    match j, hj with
    | 0, hj => simp [cellWt] at hj; subst hj; simp [Addr.add]
    | 1, hj => simp [cellWt] at hj; subst hj; simp [Addr.add]
  · intro u hu; simp [cellWt] at hu; rcases hu with rfl | rfl <;> rfl
  · unfold maxLen; omega
  · omega
  · simp; omega
  · intro v' w' h1 h2 h3
    have e : wWt (l ++ [r]) = wWt l ++ cellWt r := by simp [wWt]
    refine h v' w' (by unfold OwnWt; rw [e, List.length_append]; exact h1) ?_ ?_
    · exact ((Below.refl base w).alloc hbase _).grown h2 (by simp; omega) (fun q hq => row_ge hown q hq)
    · have hb := (Below.refl w.heap.size w).alloc (Nat.le_refl _) (.cells #[.int .i64 r.wi, .int .i64 r.du] 40)
      exact ⟨h2.os.trans hb.os, h2.tape.trans hb.tape, h2.output.trans hb.output, Nat.le_trans hb.size h2.size, fun q hq hn => (h2.block q (Nat.lt_of_lt_of_le hq hb.size) hn).trans (hb.block q hq)⟩
theorem wpList_appendInWt {ops : Array Oper} {rest : List Oper} {o : Oper} {a : Act} {Q : Exit → Act → World → Prop} (w : World) (hgd : o.guard = none) (s x : Operand)
    (ho : o.op = .call { callee := .builtin .append, args := #[s, x], argTypes := #[24, 24] }) (base : Nat) (v : Value) (l m : List Wt) (pa : Option Addr) (cap : Nat)
    (hs : a.eval s = v) (hx : a.eval x = .slice pa m.length cap) (hown : OwnWt w base v l) (hin : WtIn w pa m) (hl : l.length + m.length ≤ 2000000) (hbase : base ≤ w.heap.size)
    (h : ∀ v' w', OwnWt w' base v' (l ++ m) → Below base w w' → wpList Try.prog ops Q rest (a.put o.dst v') w') :
    wpList Try.prog ops Q (o :: rest) a w := by
  obtain ⟨i0, hi, hz0, hz1, hz2⟩ := info_parts infoWt
  refine wpList_plain hgd fun K hK => wp_append_in w s x 24 40 ho i0 (.agg #[.int .i64 0, .int .i64 0]) 2 16 Try.underlying24 hi hz0 hz1 hz2 rfl (by decide) base v l.length (wWt l) hs hown pa cap m.length (wWt m) hx (wWt_len m) (wWt_in hin) (wWt_one m) (by unfold maxLen; omega) (by omega) hbase fun v' w' h1 h2 _ => hK _ _ (h v' w' ?_ h2)
  unfold OwnWt
  rw [List.length_append, show wWt (l ++ m) = wWt l ++ wWt m by simp [wWt]]
  exact h1
end Go.Proofs.Ytmgidcigihpbeaa
/-
  A new list, marked; held.
-/
namespace Go.Proofs.Ytmgidcigihpbeaa
open Go.ChangeShapes Go.WideShapes Go.ChangeAt Go.RowKit Go.Sort
/-- l, marked from k on. -/
def mkdWt : Nat → List Wt → List Wt
  | _, [] => []
  | k, _ :: l => ⟨(k : Int), (k : Int) + 1⟩ :: mkdWt (k + 2) l
theorem mkdWt_len : ∀ (l : List Wt) (k : Nat), (mkdWt k l).length = l.length
  | [], _ => rfl
  | _ :: l, k => by rw [mkdWt, List.length_cons, mkdWt_len l, List.length_cons]
theorem mkdWt_at : ∀ (l : List Wt) (k i : Nat), i < l.length → (mkdWt k l)[i]? = some ⟨((k + i * 2 : Nat) : Int), ((k + i * 2 : Nat) : Int) + 1⟩
  | [], _, _, h => by simp at h
  | x :: l, k, 0, _ => by simp [mkdWt]
  | x :: l, k, i + 1, h => by
    rw [mkdWt, List.getElem?_cons_succ, mkdWt_at l (k + 2) i (by simpa using h), show k + 2 + i * 2 = k + (i + 1) * 2 by omega]
theorem mkdWt_append : ∀ (A B : List Wt) (k : Nat), mkdWt k (A ++ B) = mkdWt k A ++ mkdWt (k + A.length * 2) B
  | [], B, k => by simp [mkdWt]
  | x :: A, B, k => by rw [List.cons_append, mkdWt, mkdWt, List.cons_append, mkdWt_append A B (k + 2), List.length_cons, show k + 2 + A.length * 2 = k + (A.length + 1) * 2 by omega]
/-- The first i of l are marked from k on. -/
theorem WtAt.mark1 {w : World} {g off k i : Nat} {l : List Wt} (h : WtAt w g off (mkdWt k (l.take i) ++ l.drop i)) (hi : i < l.length) :
    WtAt (((w.setCell ⟨g, off + i * 2, none⟩ (.int .i64 (((k + i * 2 : Nat) : Int)))).setCell ⟨g, off + i * 2 + 1, none⟩ (.int .i64 (((k + i * 2 : Nat) : Int) + 1)))) g off (mkdWt k (l.take (i + 1)) ++ l.drop (i + 1)) := by
  have len : (mkdWt k (l.take i) ++ l.drop i).length = l.length := by rw [List.length_append, mkdWt_len, ← List.length_append, List.take_append_drop]
  have lti : (l.take i).length = i := by rw [List.length_take]; omega
  have key : ∀ (q : Nat) r, (mkdWt k (l.take (i + 1)) ++ l.drop (i + 1))[q]? = some r → q = i ∧ r = ⟨((k + i * 2 : Nat) : Int), ((k + i * 2 : Nat) : Int) + 1⟩ ∨ q ≠ i ∧ (mkdWt k (l.take i) ++ l.drop i)[q]? = some r := by
    intro q r hr
    have e1 : l.take (i + 1) = l.take i ++ [l[i]] := List.take_succ_eq_append_getElem hi
    rw [e1, mkdWt_append, lti, List.append_assoc] at hr
    rw [List.drop_eq_getElem_cons hi]
    by_cases h1 : q < i
    · refine .inr ⟨by omega, ?_⟩
      rw [List.getElem?_append_left (by rw [mkdWt_len, lti]; exact h1)] at hr ⊢
      exact hr
    · rw [List.getElem?_append_right (by rw [mkdWt_len, lti]; omega), mkdWt_len, lti] at hr
      by_cases h2 : q = i
      · subst h2
        left
        rw [Nat.sub_self] at hr
        simp only [mkdWt, List.singleton_append, List.getElem?_cons_zero, Option.some.injEq] at hr
        exact ⟨rfl, hr.symm⟩
      · right
        refine ⟨h2, ?_⟩
        rw [List.getElem?_append_right (by rw [mkdWt_len, lti]; omega), mkdWt_len, lti]
        obtain ⟨d, hd⟩ : ∃ d, q - i = d + 1 := ⟨q - i - 1, by omega⟩
        rw [hd] at hr ⊢
        simp [mkdWt] at hr ⊢
        rw [show i + (d + 1) = i + 1 + d by omega]
        exact hr
  have there : ∀ j, j < 2 → ∃ u, w.cell? ⟨g, off + i * 2 + j, none⟩ = some u := by
    intro j hj
    obtain ⟨r, hr⟩ : ∃ r, (mkdWt k (l.take i) ++ l.drop i)[i]? = some r := ⟨_, List.getElem?_eq_getElem (by rw [len]; exact hi)⟩
    obtain ⟨p0, p1⟩ := h i r hr
    match j, hj with
    | 0, _ => exact ⟨_, p0⟩
    | 1, _ => exact ⟨_, p1⟩
  intro q r hr
  rcases key q r hr with ⟨rfl, rfl⟩ | ⟨hq, hr2⟩
  · obtain ⟨u0, g0⟩ : ∃ u, (w).cell? ⟨g, off + q * 2, none⟩ = some u := by
      obtain ⟨u, hu⟩ := there 0 (by omega)
      exact ⟨u, by simpa using hu⟩
    obtain ⟨u1, g1⟩ : ∃ u, ((w.setCell ⟨g, off + q * 2, none⟩ (.int .i64 (((k + q * 2 : Nat) : Int))))).cell? ⟨g, off + q * 2 + 1, none⟩ = some u := by
      obtain ⟨u, hu⟩ := there 1 (by omega)
      refine ⟨u, ?_⟩
      rw [World.cell?_setCell_other _ _ _ _ (offWt_ne (by omega))]
      exact hu
    exact ⟨by rw [World.cell?_setCell_other _ _ _ _ (offWt_ne (by omega))]; exact World.cell?_setCell_same _ _ _ g0, by exact World.cell?_setCell_same _ _ _ g1⟩
  · obtain ⟨p0, p1⟩ := h q r hr2
    exact ⟨by rw [World.cell?_setCell_other _ _ _ _ (offWt_ne (by omega)), World.cell?_setCell_other _ _ _ _ (offWt_ne (by omega))]; exact p0, by rw [World.cell?_setCell_other _ _ _ _ (offWt_ne (by omega)), World.cell?_setCell_other _ _ _ _ (offWt_ne (by omega))]; exact p1⟩
end Go.Proofs.Ytmgidcigihpbeaa
/-
  A world in which one block alone has changed, and new ones have come; boxes.
-/
namespace Go.Proofs.Ytmgidcigihpbeaa
open Go.ChangeShapes Go.WideShapes Go.ChangeAt Go.RowKit Go.Sort
theorem gwRefl (g : Option Nat) (w : World) : w.grownBy w g := ⟨rfl, rfl, rfl, Nat.le_refl _, fun _ _ _ => rfl⟩
theorem gwTrans {w w1 w2 : World} {g : Option Nat} (h : w.grownBy w1 g) (k : w1.grownBy w2 g) : w.grownBy w2 g :=
  ⟨k.os.trans h.os, k.tape.trans h.tape, k.output.trans h.output, Nat.le_trans h.size k.size, fun i hi hn => (k.block i (Nat.lt_of_lt_of_le hi h.size) hn).trans (h.block i hi hn)⟩
theorem gwBelow {w w' : World} (g : Option Nat) (h : Below w.heap.size w w') : w.grownBy w' g := ⟨h.os, h.tape, h.output, h.size, fun k hk _ => h.block k hk⟩
theorem gwSet (w : World) (g o : Nat) (u : Value) : w.grownBy (w.setCell ⟨g, o, none⟩ u) (some g) := ⟨rfl, rfl, rfl, by simp [World.setCell], fun k _ hn => Below.heap_setCell _ _ _ _ (fun e => hn (by rw [e]))⟩
theorem gwOne {g : Nat} {w w' : World} (h : OneB g w w') : w.grownBy w' (some g) := ⟨h.os, h.tape, h.output, Nat.le_of_eq h.size.symm, fun k _ hn => h.block k (fun e => hn (by rw [e]))⟩
theorem gwTo {w w' : World} {g B : Nat} (h : w.grownBy w' (some g)) (hB : B ≤ g) (hs : B ≤ w.heap.size) : Below B w w' := ⟨h.os, h.tape, h.output, h.size, fun k hk => h.block k (by omega) (by simp; omega)⟩
theorem gwCell {w w' : World} {g : Nat} (h : w.grownBy w' (some g)) {b : Nat} (o : Nat) (hb : b < w.heap.size) (hn : b ≠ g) : w'.cell? ⟨b, o, none⟩ = w.cell? ⟨b, o, none⟩ := World.cell?_of_block (w := w) (h.block b hb (by simp; exact hn))
theorem gwFrozen {w w' : World} {g : Nat} (h : w.grownBy w' (some g)) {b : Nat} (o : Nat) (hb : b < w.heap.size) (hn : b ≠ g) : w'.frozen? ⟨b, o, none⟩ = w.frozen? ⟨b, o, none⟩ := World.frozen?_of_block (w := w) (h.block b hb (by simp; exact hn))
structure D2 (w : World) (b : Nat) (v0 v1 : Value) : Prop where
  c0 : w.cell? ⟨b, 0, none⟩ = some v0
  c1 : w.cell? ⟨b, 1, none⟩ = some v1
  fr : ∀ o, w.frozen? ⟨b, o, none⟩ = false
  lt : b < w.heap.size
section
variable {w w' : World} {b : Nat} {v0 v1 : Value}
theorem D2.keep (k : D2 w b v0 v1) (hb : Below w.heap.size w w') : D2 w' b v0 v1 :=
  ⟨by rw [hb.cell (p := ⟨b, 0, none⟩) k.lt]; exact k.c0, by rw [hb.cell (p := ⟨b, 1, none⟩) k.lt]; exact k.c1, fun o => by rw [hb.frozen (p := ⟨b, o, none⟩) k.lt]; exact k.fr o, Nat.lt_of_lt_of_le k.lt hb.size⟩
theorem D2.low (k : D2 w b v0 v1) {B : Nat} (hb : Below B w w') (h : b < B) : D2 w' b v0 v1 :=
  ⟨by rw [hb.cell (p := ⟨b, 0, none⟩) h]; exact k.c0, by rw [hb.cell (p := ⟨b, 1, none⟩) h]; exact k.c1, fun o => by rw [hb.frozen (p := ⟨b, o, none⟩) h]; exact k.fr o, Nat.lt_of_lt_of_le k.lt hb.size⟩
theorem D2.gw {g : Nat} (k : D2 w b v0 v1) (h : w.grownBy w' (some g)) (hb : b ≠ g) : D2 w' b v0 v1 :=
  ⟨by rw [gwCell h _ k.lt hb]; exact k.c0, by rw [gwCell h _ k.lt hb]; exact k.c1, fun o => by rw [gwFrozen h _ k.lt hb]; exact k.fr o, Nat.lt_of_lt_of_le k.lt h.size⟩
theorem D2.put (k : D2 w b v0 v1) (x0 x1 : Value) : D2 ((w.setCell ⟨b, 0, none⟩ x0).setCell ⟨b, 1, none⟩ x1) b x0 x1 := by
  have ne : ∀ i j : Nat, i ≠ j → (⟨b, i, none⟩ : Addr) ≠ ⟨b, j, none⟩ := fun i j h e => h (congrArg Addr.off e)
  have g0 : (w).cell? ⟨b, 0, none⟩ = some v0 := by exact k.c0
  have g1 : ((w.setCell ⟨b, 0, none⟩ x0)).cell? ⟨b, 1, none⟩ = some v1 := by rw [World.cell?_setCell_other _ _ _ _ (ne _ _ (by decide))]; exact k.c1
  exact ⟨by rw [World.cell?_setCell_other _ _ _ _ (ne _ _ (by decide))]; exact World.cell?_setCell_same _ _ _ g0, by exact World.cell?_setCell_same _ _ _ g1, fun o => by rw [World.frozen?_setCell]; rw [World.frozen?_setCell]; exact k.fr o, by simpa using k.lt⟩
theorem D2.new (w : World) (v0 v1 : Value) (t : TypeId) : D2 (w.alloc (.cells #[v0, v1] t)) w.heap.size v0 v1 := ⟨by simp, by simp, fun o => by simp, by simp⟩
end
structure D3 (w : World) (b : Nat) (v0 v1 v2 : Value) : Prop where
  c0 : w.cell? ⟨b, 0, none⟩ = some v0
  c1 : w.cell? ⟨b, 1, none⟩ = some v1
  c2 : w.cell? ⟨b, 2, none⟩ = some v2
  fr : ∀ o, w.frozen? ⟨b, o, none⟩ = false
  lt : b < w.heap.size
section
variable {w w' : World} {b : Nat} {v0 v1 v2 : Value}
theorem D3.keep (k : D3 w b v0 v1 v2) (hb : Below w.heap.size w w') : D3 w' b v0 v1 v2 :=
  ⟨by rw [hb.cell (p := ⟨b, 0, none⟩) k.lt]; exact k.c0, by rw [hb.cell (p := ⟨b, 1, none⟩) k.lt]; exact k.c1, by rw [hb.cell (p := ⟨b, 2, none⟩) k.lt]; exact k.c2, fun o => by rw [hb.frozen (p := ⟨b, o, none⟩) k.lt]; exact k.fr o, Nat.lt_of_lt_of_le k.lt hb.size⟩
theorem D3.low (k : D3 w b v0 v1 v2) {B : Nat} (hb : Below B w w') (h : b < B) : D3 w' b v0 v1 v2 :=
  ⟨by rw [hb.cell (p := ⟨b, 0, none⟩) h]; exact k.c0, by rw [hb.cell (p := ⟨b, 1, none⟩) h]; exact k.c1, by rw [hb.cell (p := ⟨b, 2, none⟩) h]; exact k.c2, fun o => by rw [hb.frozen (p := ⟨b, o, none⟩) h]; exact k.fr o, Nat.lt_of_lt_of_le k.lt hb.size⟩
theorem D3.gw {g : Nat} (k : D3 w b v0 v1 v2) (h : w.grownBy w' (some g)) (hb : b ≠ g) : D3 w' b v0 v1 v2 :=
  ⟨by rw [gwCell h _ k.lt hb]; exact k.c0, by rw [gwCell h _ k.lt hb]; exact k.c1, by rw [gwCell h _ k.lt hb]; exact k.c2, fun o => by rw [gwFrozen h _ k.lt hb]; exact k.fr o, Nat.lt_of_lt_of_le k.lt h.size⟩
theorem D3.put (k : D3 w b v0 v1 v2) (x0 x1 x2 : Value) : D3 (((w.setCell ⟨b, 0, none⟩ x0).setCell ⟨b, 1, none⟩ x1).setCell ⟨b, 2, none⟩ x2) b x0 x1 x2 := by
  have ne : ∀ i j : Nat, i ≠ j → (⟨b, i, none⟩ : Addr) ≠ ⟨b, j, none⟩ := fun i j h e => h (congrArg Addr.off e)
  have g0 : (w).cell? ⟨b, 0, none⟩ = some v0 := by exact k.c0
  have g1 : ((w.setCell ⟨b, 0, none⟩ x0)).cell? ⟨b, 1, none⟩ = some v1 := by rw [World.cell?_setCell_other _ _ _ _ (ne _ _ (by decide))]; exact k.c1
  have g2 : (((w.setCell ⟨b, 0, none⟩ x0).setCell ⟨b, 1, none⟩ x1)).cell? ⟨b, 2, none⟩ = some v2 := by rw [World.cell?_setCell_other _ _ _ _ (ne _ _ (by decide))]; rw [World.cell?_setCell_other _ _ _ _ (ne _ _ (by decide))]; exact k.c2
  exact ⟨by rw [World.cell?_setCell_other _ _ _ _ (ne _ _ (by decide))]; rw [World.cell?_setCell_other _ _ _ _ (ne _ _ (by decide))]; exact World.cell?_setCell_same _ _ _ g0, by rw [World.cell?_setCell_other _ _ _ _ (ne _ _ (by decide))]; exact World.cell?_setCell_same _ _ _ g1, by exact World.cell?_setCell_same _ _ _ g2, fun o => by rw [World.frozen?_setCell]; rw [World.frozen?_setCell]; rw [World.frozen?_setCell]; exact k.fr o, by simpa using k.lt⟩
theorem D3.new (w : World) (v0 v1 v2 : Value) (t : TypeId) : D3 (w.alloc (.cells #[v0, v1, v2] t)) w.heap.size v0 v1 v2 := ⟨by simp, by simp, by simp, fun o => by simp, by simp⟩
end
structure D4 (w : World) (b : Nat) (v0 v1 v2 v3 : Value) : Prop where
  c0 : w.cell? ⟨b, 0, none⟩ = some v0
  c1 : w.cell? ⟨b, 1, none⟩ = some v1
  c2 : w.cell? ⟨b, 2, none⟩ = some v2
  c3 : w.cell? ⟨b, 3, none⟩ = some v3
  fr : ∀ o, w.frozen? ⟨b, o, none⟩ = false
  lt : b < w.heap.size
section
variable {w w' : World} {b : Nat} {v0 v1 v2 v3 : Value}
theorem D4.keep (k : D4 w b v0 v1 v2 v3) (hb : Below w.heap.size w w') : D4 w' b v0 v1 v2 v3 :=
  ⟨by rw [hb.cell (p := ⟨b, 0, none⟩) k.lt]; exact k.c0, by rw [hb.cell (p := ⟨b, 1, none⟩) k.lt]; exact k.c1, by rw [hb.cell (p := ⟨b, 2, none⟩) k.lt]; exact k.c2, by rw [hb.cell (p := ⟨b, 3, none⟩) k.lt]; exact k.c3, fun o => by rw [hb.frozen (p := ⟨b, o, none⟩) k.lt]; exact k.fr o, Nat.lt_of_lt_of_le k.lt hb.size⟩
theorem D4.low (k : D4 w b v0 v1 v2 v3) {B : Nat} (hb : Below B w w') (h : b < B) : D4 w' b v0 v1 v2 v3 :=
  ⟨by rw [hb.cell (p := ⟨b, 0, none⟩) h]; exact k.c0, by rw [hb.cell (p := ⟨b, 1, none⟩) h]; exact k.c1, by rw [hb.cell (p := ⟨b, 2, none⟩) h]; exact k.c2, by rw [hb.cell (p := ⟨b, 3, none⟩) h]; exact k.c3, fun o => by rw [hb.frozen (p := ⟨b, o, none⟩) h]; exact k.fr o, Nat.lt_of_lt_of_le k.lt hb.size⟩
theorem D4.gw {g : Nat} (k : D4 w b v0 v1 v2 v3) (h : w.grownBy w' (some g)) (hb : b ≠ g) : D4 w' b v0 v1 v2 v3 :=
  ⟨by rw [gwCell h _ k.lt hb]; exact k.c0, by rw [gwCell h _ k.lt hb]; exact k.c1, by rw [gwCell h _ k.lt hb]; exact k.c2, by rw [gwCell h _ k.lt hb]; exact k.c3, fun o => by rw [gwFrozen h _ k.lt hb]; exact k.fr o, Nat.lt_of_lt_of_le k.lt h.size⟩
theorem D4.put (k : D4 w b v0 v1 v2 v3) (x0 x1 x2 x3 : Value) : D4 ((((w.setCell ⟨b, 0, none⟩ x0).setCell ⟨b, 1, none⟩ x1).setCell ⟨b, 2, none⟩ x2).setCell ⟨b, 3, none⟩ x3) b x0 x1 x2 x3 := by
  have ne : ∀ i j : Nat, i ≠ j → (⟨b, i, none⟩ : Addr) ≠ ⟨b, j, none⟩ := fun i j h e => h (congrArg Addr.off e)
  have g0 : (w).cell? ⟨b, 0, none⟩ = some v0 := by exact k.c0
  have g1 : ((w.setCell ⟨b, 0, none⟩ x0)).cell? ⟨b, 1, none⟩ = some v1 := by rw [World.cell?_setCell_other _ _ _ _ (ne _ _ (by decide))]; exact k.c1
  have g2 : (((w.setCell ⟨b, 0, none⟩ x0).setCell ⟨b, 1, none⟩ x1)).cell? ⟨b, 2, none⟩ = some v2 := by rw [World.cell?_setCell_other _ _ _ _ (ne _ _ (by decide))]; rw [World.cell?_setCell_other _ _ _ _ (ne _ _ (by decide))]; exact k.c2
  have g3 : ((((w.setCell ⟨b, 0, none⟩ x0).setCell ⟨b, 1, none⟩ x1).setCell ⟨b, 2, none⟩ x2)).cell? ⟨b, 3, none⟩ = some v3 := by rw [World.cell?_setCell_other _ _ _ _ (ne _ _ (by decide))]; rw [World.cell?_setCell_other _ _ _ _ (ne _ _ (by decide))]; rw [World.cell?_setCell_other _ _ _ _ (ne _ _ (by decide))]; exact k.c3
  exact ⟨by rw [World.cell?_setCell_other _ _ _ _ (ne _ _ (by decide))]; rw [World.cell?_setCell_other _ _ _ _ (ne _ _ (by decide))]; rw [World.cell?_setCell_other _ _ _ _ (ne _ _ (by decide))]; exact World.cell?_setCell_same _ _ _ g0, by rw [World.cell?_setCell_other _ _ _ _ (ne _ _ (by decide))]; rw [World.cell?_setCell_other _ _ _ _ (ne _ _ (by decide))]; exact World.cell?_setCell_same _ _ _ g1, by rw [World.cell?_setCell_other _ _ _ _ (ne _ _ (by decide))]; exact World.cell?_setCell_same _ _ _ g2, by exact World.cell?_setCell_same _ _ _ g3, fun o => by rw [World.frozen?_setCell]; rw [World.frozen?_setCell]; rw [World.frozen?_setCell]; rw [World.frozen?_setCell]; exact k.fr o, by simpa using k.lt⟩
theorem D4.new (w : World) (v0 v1 v2 v3 : Value) (t : TypeId) : D4 (w.alloc (.cells #[v0, v1, v2, v3] t)) w.heap.size v0 v1 v2 v3 := ⟨by simp, by simp, by simp, by simp, fun o => by simp, by simp⟩
end
theorem WtNew.gw {g : Nat} {w w' : World} {base : Nat} {v : Value} {l : List Wt} (h : WtNew w base v l) (k : w.grownBy w' (some g)) (hne : ∀ G, v.ownBlock = some G → G ≠ g) : WtNew w' base v l := by
  rcases h with h | ⟨G, off, cap, rfl, h1, h2, h3, h4⟩
  · exact .inl h
  · have hn := hne G rfl
    refine .inr ⟨G, off, cap, rfl, h1, Nat.lt_of_lt_of_le h2 k.size, fun i r hr => ?_, fun o => by rw [gwFrozen k _ h2 hn]; exact h4 o⟩
    obtain ⟨p0, p1⟩ := h3 i r hr
    exact ⟨by rw [gwCell k _ h2 hn]; exact p0, by rw [gwCell k _ h2 hn]; exact p1⟩
theorem WtNew.gw2 {g : Nat} {w w' : World} {base : Nat} {v : Value} {l : List Wt} (h : WtNew w base v l) (k : w.grownBy w' (some g)) (hne : g < base) : WtNew w' base v l := by
  rcases h with h | ⟨G, off, cap, rfl, h1, h2, h3, h4⟩
  · exact .inl h
  · exact WtNew.gw (.inr ⟨G, off, cap, rfl, h1, h2, h3, h4⟩) k (fun G' hG => by simp only [Value.ownBlock, Option.some.injEq] at hG; omega)
theorem WtIn.gw {g : Nat} {w w' : World} {a : Option Addr} {l : List Wt} (h : WtIn w a l) (k : w.grownBy w' (some g)) (hne : ∀ A, a = some A → A.block ≠ g) : WtIn w' a l := by
  rcases h with h | ⟨b, off, rfl, h3⟩
  · exact .inl h
  · have hn := hne _ rfl
    refine .inr ⟨b, off, rfl, fun i r hr => ?_⟩
    obtain ⟨p0, p1⟩ := h3 i r hr
    have h2 := block_lt_of_cell p0
    exact ⟨by rw [gwCell k _ h2 hn]; exact p0, by rw [gwCell k _ h2 hn]; exact p1⟩
end Go.Proofs.Ytmgidcigihpbeaa
/-
  The draws of lanes.
-/
namespace Go.Proofs.Ytmgidcigihpbeaa
open Go.ChangeShapes Go.WideShapes Go.ChangeAt Go.RowKit Go.Sort
theorem D2.apart {B : Nat} {w w' : World} {b : Nat} {v0 v1 : Value} (k : D2 w b v0 v1) (ha : Apart B w w') (hn : b ≠ B) : D2 w' b v0 v1 :=
  ⟨by rw [ha.cell _ _ k.lt hn]; exact k.c0, by rw [ha.cell _ _ k.lt hn]; exact k.c1, fun o => by rw [ha.frozen _ _ k.lt hn]; exact k.fr o, Nat.lt_of_lt_of_le k.lt ha.size⟩
theorem D3.apart {B : Nat} {w w' : World} {b : Nat} {v0 v1 v2 : Value} (k : D3 w b v0 v1 v2) (ha : Apart B w w') (hn : b ≠ B) : D3 w' b v0 v1 v2 :=
  ⟨by rw [ha.cell _ _ k.lt hn]; exact k.c0, by rw [ha.cell _ _ k.lt hn]; exact k.c1, by rw [ha.cell _ _ k.lt hn]; exact k.c2, fun o => by rw [ha.frozen _ _ k.lt hn]; exact k.fr o, Nat.lt_of_lt_of_le k.lt ha.size⟩
set_option maxRecDepth 100000 in
set_option maxHeartbeats 4000000 in
theorem l11Lanes_any (w : World) (B : Nat) (a : Option Addr) (len cap k : Nat) (hs : Src w B a len cap k) (hk : k ≤ 900) (hl2 : len ≤ 1048577) :
    Calls Try.prog 79 #[.pointer (some ⟨B, 0, none⟩)] w fun e w' => (∃ s c t : Int, e = .returned (.agg #[.int .i64 s, .int .i64 c, .int .i64 t])) ∧ Src w' B a len cap (k + 3) ∧ Below B w w' ∧ Apart B w w' := by
  have hlt := hs.lt
  obtain ⟨W, hW⟩ : ∃ W, W = w.alloc (.cells #[.int .i64 0, .int .i64 0, .int .i64 0] 28) := ⟨_, rfl⟩
  have HW := hid11 hW
  have HS0 : Hid (Src W B a len cap (k)) := by show Src _ _ _ _ _ _; rw [hW]; exact hs.alloc _
  have HV : Hid (Below B w W ∧ Apart B w W) := by rw [hW]; exact ⟨(Below.refl _ _).alloc (Nat.le_of_lt hlt) _, Apart.alloc _ _ _⟩
  have HM : Hid (D3 W w.heap.size (.int .i64 0) (.int .i64 0) (.int .i64 0)) := by show D3 _ _ _ _ _; rw [hW]; exact D3.new w _ _ _ _
  have HA0 : Hid (Below B W W ∧ Apart B W W) := ⟨Below.refl _ _, Apart.refl _ _⟩
  clear hs hW
  go_enter Try.func79, Try.ntmps79
  go_upto_region 1 with fail
  rw [← HW.out]
  clear HW
  go_wp2_with fail
  refine (l1Pick_a _ B a len cap (k + 0) HS0.out [1, 1, 2, 8] 4 rfl (by omega) (by omega) (by omega) hl2).mono ?_
  rintro r w1 ⟨⟨s, _, rfl⟩, hs1, hb1, ha1⟩
  have HS1 : Hid (Src w1 B a len cap (k + 1)) := hs1
  have HA1 : Hid (Below B W w1 ∧ Apart B W w1) := ⟨HA0.out.1.trans hb1, HA0.out.2.trans ha1⟩
  clear hs1 hb1 ha1 HS0 HA0
  go_wp2_with fail
  refine (l1Pick_a _ B a len cap (k + 1) HS1.out [0, 1, 2, 8] 4 rfl (by omega) (by omega) (by omega) hl2).mono ?_
  rintro r w2 ⟨⟨c, _, rfl⟩, hs1, hb1, ha1⟩
  have HS2 : Hid (Src w2 B a len cap (k + 2)) := hs1
  have HA2 : Hid (Below B W w2 ∧ Apart B W w2) := ⟨HA1.out.1.trans hb1, HA1.out.2.trans ha1⟩
  clear hs1 hb1 ha1 HS1 HA1
  go_wp2_with fail
  refine (l1Pick_a _ B a len cap (k + 2) HS2.out [0, 500, 2000] 3 rfl (by omega) (by omega) (by omega) hl2).mono ?_
  rintro r w3 ⟨⟨t, _, rfl⟩, hs1, hb1, ha1⟩
  have HS3 : Hid (Src w3 B a len cap (k + 3)) := hs1
  have HA3 : Hid (Below B W w3 ∧ Apart B W w3) := ⟨HA2.out.1.trans hb1, HA2.out.2.trans ha1⟩
  clear hs1 hb1 ha1 HS2 HA2
  obtain ⟨r0, r1, r2, rf, _⟩ := HM.out.apart HA3.out.2 (by omega)
  go_wp2_with fail
  exact bodyPost_ret (v := .agg #[.int .i64 s, .int .i64 c, .int .i64 t]) (by simp [results, Try.results79, go_sem, r0, r1, r2]) rfl ⟨⟨s, c, t, rfl⟩, src_off (src_off (src_off HS3.out hlt) hlt) hlt, (((HV.out.1.trans HA3.out.1).setCell (Nat.le_of_lt hlt) _).setCell (Nat.le_of_lt hlt) _).setCell (Nat.le_of_lt hlt) _, (((HV.out.2.trans HA3.out.2).off (Nat.le_refl _)).off (Nat.le_refl _)).off (Nat.le_refl _)⟩
set_option maxRecDepth 100000 in
set_option maxHeartbeats 8000000 in
theorem drawLanes_any (w : World) (a : Option Addr) (len cap : Nat) (hc : CodeRow w w.heap.size a len) (hl2 : len ≤ 1048577) :
    Calls Try.prog 80 #[.slice a len cap] w fun e w' => (∃ s c t : Int, e = .returned (.agg #[.int .i64 s, .int .i64 c, .int .i64 t])) ∧ Below w.heap.size w w' := by
  obtain ⟨W, hW⟩ : ∃ W, W = w.alloc (.cells #[.int .i64 0, .int .i64 0, .int .i64 0] 28) := ⟨_, rfl⟩
  have HW := hid11 hW
  have bW : Below w.heap.size w W := by rw [hW]; exact (Below.refl _ _).alloc (Nat.le_refl _) _
  have hsz : W.heap.size = w.heap.size + 1 := by rw [hW]; simp
  have HM : Hid (D3 W w.heap.size (.int .i64 0) (.int .i64 0) (.int .i64 0)) := by show D3 _ _ _ _ _; rw [hW]; exact D3.new w _ _ _ _
  have HSR : Hid (Calls Try.prog 78 #[.slice a len cap] W fun e w' => e = .returned (.pointer (some ⟨w.heap.size + 1, 0, none⟩)) ∧ Src w' (w.heap.size + 1) a len cap 0 ∧ Below (w.heap.size + 1) W w') := by
    have := l1Source_any W a len cap ((hc.below bW).mono (by omega))
    rw [hsz] at this
    exact this
  have HBW := hid11 bW
  have HZ := hid11 hsz
  clear hc hW bW hsz
  go_enter Try.func80, Try.ntmps80
  go_wp2_with fail
  rw [← HW.out]
  clear HW
  refine HSR.out.mono ?_
  rintro r w1 ⟨rfl, hs1, hb1⟩
  have HS1 := hid11 hs1
  have HB1 := hid11 (HBW.out.trans (hb1.mono (Nat.le_succ _)))
  have HR1 := hid11 (HM.out.low hb1 (by omega))
  clear hs1 hb1 HSR HM HBW HZ
  go_wp2_with fail
  refine (l11Lanes_any _ (w.heap.size + 1) a len cap 0 HS1.out (by omega) hl2).mono ?_
  rintro r w2 ⟨⟨s, c, t, rfl⟩, hs2, hb2, ha2⟩
  have HS2 : Hid (Src w2 (w.heap.size + 1) a len cap 3) := hs2
  have HB2 := hid11 (HB1.out.trans (hb2.mono (Nat.le_succ _)))
  have HR2 := hid11 (HR1.out.apart ha2 (by omega))
  clear hs2 hb2 ha2 HS1 HB1 HR1
  obtain ⟨V, hV⟩ : ∃ V, V = w2.alloc (.cells #[.int .i64 s, .int .i64 c, .int .i64 t] 28) := ⟨_, rfl⟩
  have HV := hid11 hV
  have bV : Below w2.heap.size w2 V := by rw [hV]; exact (Below.refl _ _).alloc (Nat.le_refl _) _
  have dV : D3 V w2.heap.size (.int .i64 s) (.int .i64 c) (.int .i64 t) := by rw [hV]; exact D3.new w2 _ _ _ _
  have HS3 : Hid (Src V (w.heap.size + 1) a len cap 3) := by show Src _ _ _ _ _ _; rw [hV]; exact HS2.out.alloc _
  have HB3 := hid11 (HB2.out.trans (bV.mono HB2.out.size))
  have HR3 := hid11 (HR2.out.keep bV)
  obtain ⟨L, hL⟩ : ∃ L, w2.heap.size = L := ⟨_, rfl⟩
  have HLB : Hid (w.heap.size + 2 ≤ L) := by show _ ≤ _; rw [← hL]; exact HS2.out.lt
  rw [hL] at dV
  have HL3 := hid11 dV
  clear hV bV dV HS2 HB2 HR2
  go_upto_region 3 with fail
  rw [← HV.out]
  clear HV hL
  go_wp2_with fail
  refine (l1Next_a _ (w.heap.size + 1) a len cap 3 9 HS3.out (by omega) (by omega) (by omega) hl2).mono ?_
  rintro r w4 ⟨⟨v, v0, v1, rfl⟩, hs4, hb4, ha4⟩
  have HS4 : Hid (Src w4 (w.heap.size + 1) a len cap 4) := hs4
  have HB4 := hid11 (HB3.out.trans (hb4.mono (Nat.le_succ _)))
  have HR4 := hid11 (HR3.out.apart ha4 (by omega))
  have HL4 := hid11 (HL3.out.apart ha4 (by have := HLB.out; omega))
  clear hs4 hb4 ha4 HS3 HB3 HR3 HL3
  have n0 : ¬ v = 0 → (v == 0) = false := fun h => by simpa using h
  have n1 : ¬ v = 1 → (v == 1) = false := fun h => by simpa using h
  have n2 : ¬ v = 2 → (v == 2) = false := fun h => by simpa using h
  by_cases hv0 : v = 0
  · subst hv0
    clear n0 n1 n2
    go_wp2_with fail
    refine (l1Pick_a _ (w.heap.size + 1) a len cap 4 HS4.out [0, 9] 2 rfl (by omega) (by omega) (by omega) hl2).mono ?_
    rintro r w5 ⟨⟨x, _, rfl⟩, _, hb1, ha1⟩
    have D5 := HL4.out.apart ha1 (by have := HLB.out; omega)
    have R5 := HR4.out.apart ha1 (by omega)
    have b5 := HB4.out.trans (hb1.mono (Nat.le_succ _))
    clear hb1 ha1 HS4 HL4 HR4 HB4
    have DL : Hid (D3 (w5.setCell ⟨L, 0, none⟩ (.int .i64 x)) L (.int .i64 x) (.int .i64 c) (.int .i64 t)) := by
      have ne : ∀ i j : Nat, i ≠ j → (⟨L, i, none⟩ : Addr) ≠ ⟨L, j, none⟩ := fun i j h e => h (congrArg Addr.off e)
      exact ⟨World.cell?_setCell_same _ _ _ D5.c0, by rw [World.cell?_setCell_other _ _ _ _ (ne _ _ (by decide))]; exact D5.c1, by rw [World.cell?_setCell_other _ _ _ _ (ne _ _ (by decide))]; exact D5.c2, fun o => by rw [World.frozen?_setCell]; exact D5.fr o, by simpa using D5.lt⟩
    have DR : Hid (D3 (w5.setCell ⟨L, 0, none⟩ (.int .i64 x)) w.heap.size (.int .i64 0) (.int .i64 0) (.int .i64 0)) := R5.gw (gwSet _ _ _ _) (by have := HLB.out; omega)
    have BX : Hid (Below w.heap.size w (w5.setCell ⟨L, 0, none⟩ (.int .i64 x))) := b5.setCell (by have := HLB.out; simp; omega) _
    obtain ⟨V, hV⟩ : ∃ V, V = w5.setCell ⟨L, 0, none⟩ (.int .i64 x) := ⟨_, rfl⟩
    have HV := hid11 hV
    rw [← hV] at DL DR BX
    obtain ⟨d0, d1, d2, df, _⟩ := D5
    clear R5 b5 hV
    go_upto_region 10 with fail
    rw [← HV.out]
    clear HV d0 d1 d2 df
    obtain ⟨o0, o1, o2, of, _⟩ := DL.out
    obtain ⟨r0, r1, r2, rf, _⟩ := DR.out
    go_wp2_with fail
    exact bodyPost_ret (v := .agg #[.int .i64 x, .int .i64 c, .int .i64 t]) (by simp [results, Try.results80, go_sem, r0, r1, r2]) rfl ⟨⟨_, _, _, rfl⟩, ((BX.out.setCell (Nat.le_refl _) _).setCell (Nat.le_refl _) _).setCell (Nat.le_refl _) _⟩
  by_cases hv1 : v = 1
  · subst hv1
    have z0 := n0 (by omega)
    clear n0 n1 n2
    go_wp2_with fail
    refine (l1Pick_a _ (w.heap.size + 1) a len cap 4 HS4.out [-1, 9] 2 rfl (by omega) (by omega) (by omega) hl2).mono ?_
    rintro r w5 ⟨⟨x, _, rfl⟩, _, hb1, ha1⟩
    have D5 := HL4.out.apart ha1 (by have := HLB.out; omega)
    have R5 := HR4.out.apart ha1 (by omega)
    have b5 := HB4.out.trans (hb1.mono (Nat.le_succ _))
    clear hb1 ha1 HS4 HL4 HR4 HB4
    have DL : Hid (D3 (w5.setCell ⟨L, 1, none⟩ (.int .i64 x)) L (.int .i64 s) (.int .i64 x) (.int .i64 t)) := by
      have ne : ∀ i j : Nat, i ≠ j → (⟨L, i, none⟩ : Addr) ≠ ⟨L, j, none⟩ := fun i j h e => h (congrArg Addr.off e)
      exact ⟨by rw [World.cell?_setCell_other _ _ _ _ (ne _ _ (by decide))]; exact D5.c0, World.cell?_setCell_same _ _ _ D5.c1, by rw [World.cell?_setCell_other _ _ _ _ (ne _ _ (by decide))]; exact D5.c2, fun o => by rw [World.frozen?_setCell]; exact D5.fr o, by simpa using D5.lt⟩
    have DR : Hid (D3 (w5.setCell ⟨L, 1, none⟩ (.int .i64 x)) w.heap.size (.int .i64 0) (.int .i64 0) (.int .i64 0)) := R5.gw (gwSet _ _ _ _) (by have := HLB.out; omega)
    have BX : Hid (Below w.heap.size w (w5.setCell ⟨L, 1, none⟩ (.int .i64 x))) := b5.setCell (by have := HLB.out; simp; omega) _
    obtain ⟨V, hV⟩ : ∃ V, V = w5.setCell ⟨L, 1, none⟩ (.int .i64 x) := ⟨_, rfl⟩
    have HV := hid11 hV
    rw [← hV] at DL DR BX
    obtain ⟨d0, d1, d2, df, _⟩ := D5
    clear R5 b5 hV
    go_upto_region 10 with fail
    rw [← HV.out]
    clear HV d0 d1 d2 df
    obtain ⟨o0, o1, o2, of, _⟩ := DL.out
    obtain ⟨r0, r1, r2, rf, _⟩ := DR.out
    go_wp2_with fail
    exact bodyPost_ret (v := .agg #[.int .i64 s, .int .i64 x, .int .i64 t]) (by simp [results, Try.results80, go_sem, r0, r1, r2]) rfl ⟨⟨_, _, _, rfl⟩, ((BX.out.setCell (Nat.le_refl _) _).setCell (Nat.le_refl _) _).setCell (Nat.le_refl _) _⟩
  by_cases hv2 : v = 2
  · subst hv2
    have z0 := n0 (by omega)
    have z1 := n1 (by omega)
    clear n0 n1 n2
    go_wp2_with fail
    refine (l1Pick_a _ (w.heap.size + 1) a len cap 4 HS4.out [-1, 1000001] 2 rfl (by omega) (by omega) (by omega) hl2).mono ?_
    rintro r w5 ⟨⟨x, _, rfl⟩, _, hb1, ha1⟩
    have D5 := HL4.out.apart ha1 (by have := HLB.out; omega)
    have R5 := HR4.out.apart ha1 (by omega)
    have b5 := HB4.out.trans (hb1.mono (Nat.le_succ _))
    clear hb1 ha1 HS4 HL4 HR4 HB4
    have DL : Hid (D3 (w5.setCell ⟨L, 2, none⟩ (.int .i64 x)) L (.int .i64 s) (.int .i64 c) (.int .i64 x)) := by
      have ne : ∀ i j : Nat, i ≠ j → (⟨L, i, none⟩ : Addr) ≠ ⟨L, j, none⟩ := fun i j h e => h (congrArg Addr.off e)
      exact ⟨by rw [World.cell?_setCell_other _ _ _ _ (ne _ _ (by decide))]; exact D5.c0, by rw [World.cell?_setCell_other _ _ _ _ (ne _ _ (by decide))]; exact D5.c1, World.cell?_setCell_same _ _ _ D5.c2, fun o => by rw [World.frozen?_setCell]; exact D5.fr o, by simpa using D5.lt⟩
    have DR : Hid (D3 (w5.setCell ⟨L, 2, none⟩ (.int .i64 x)) w.heap.size (.int .i64 0) (.int .i64 0) (.int .i64 0)) := R5.gw (gwSet _ _ _ _) (by have := HLB.out; omega)
    have BX : Hid (Below w.heap.size w (w5.setCell ⟨L, 2, none⟩ (.int .i64 x))) := b5.setCell (by have := HLB.out; simp; omega) _
    obtain ⟨V, hV⟩ : ∃ V, V = w5.setCell ⟨L, 2, none⟩ (.int .i64 x) := ⟨_, rfl⟩
    have HV := hid11 hV
    rw [← hV] at DL DR BX
    obtain ⟨d0, d1, d2, df, _⟩ := D5
    clear R5 b5 hV
    go_upto_region 10 with fail
    rw [← HV.out]
    clear HV d0 d1 d2 df
    obtain ⟨o0, o1, o2, of, _⟩ := DL.out
    obtain ⟨r0, r1, r2, rf, _⟩ := DR.out
    go_wp2_with fail
    exact bodyPost_ret (v := .agg #[.int .i64 s, .int .i64 c, .int .i64 x]) (by simp [results, Try.results80, go_sem, r0, r1, r2]) rfl ⟨⟨_, _, _, rfl⟩, ((BX.out.setCell (Nat.le_refl _) _).setCell (Nat.le_refl _) _).setCell (Nat.le_refl _) _⟩
  have z0 := n0 hv0
  have z1 := n1 hv1
  have z2 := n2 hv2
  clear n0 n1 n2
  have DL := HL4
  have DR := HR4
  have BX := HB4
  clear HL4 HR4 HB4 HS4
  obtain ⟨o0, o1, o2, of, _⟩ := DL.out
  obtain ⟨r0, r1, r2, rf, _⟩ := DR.out
  go_wp2_with fail
  exact bodyPost_ret (v := .agg #[.int .i64 s, .int .i64 c, .int .i64 t]) (by simp [results, Try.results80, go_sem, r0, r1, r2]) rfl ⟨⟨_, _, _, rfl⟩, ((BX.out.setCell (Nat.le_refl _) _).setCell (Nat.le_refl _) _).setCell (Nat.le_refl _) _⟩
end Go.Proofs.Ytmgidcigihpbeaa
/-
  Those who wait: appended to in a drawn region; a clone.
-/
namespace Go.Proofs.Ytmgidcigihpbeaa
open Go.ChangeShapes Go.WideShapes Go.ChangeAt Go.RowKit Go.Sort
theorem step_appendInWt {ops : Array Oper} {o : Oper} {a : Act} {K : Act → World → Prop} {Q : Exit → Act → World → Prop} {E : Prop} (w : World) (hgd : o.guard = none) (s x : Operand)
    (ho : o.op = .call { callee := .builtin .append, args := #[s, x], argTypes := #[24, 24] }) (base : Nat) (v : Value) (l m : List Wt) (pa : Option Addr) (cap n : Nat) (hn : m.length = n)
    (hs : a.eval s = v) (hown : OwnWt w base v l) (hx : a.eval x = .slice pa n cap) (hin : WtIn w pa m) (hl : l.length + n ≤ 2000000) (hbase : base ≤ w.heap.size)
    (h : ∀ v' w', OwnWt w' base v' (l ++ m) → Below base w w' → K (a.put o.dst v') w') :
    if Region.wanted o (yielded ops a.tmps) = true then Oper.wp Try.prog o a w K Q else E := by
  subst hn
  obtain ⟨i0, hi, hz0, hz1, hz2⟩ := info_parts infoWt
  refine step_append_in w hgd s x 24 40 ho i0 _ 2 16 Try.underlying24 hi hz0 hz1 hz2 rfl (by decide) base v l.length (wWt l) hs hown pa cap m.length (wWt m) hx (wWt_len m) (wWt_in hin) (wWt_one m) (by unfold maxLen; omega) (by omega) hbase fun v' w' h1 h2 _ => h v' w' ?_ h2
  unfold OwnWt
  rw [List.length_append, show wWt (l ++ m) = wWt l ++ wWt m by simp [wWt]]
  exact h1
theorem step_append1Wt {ops : Array Oper} {o : Oper} {a : Act} {K : Act → World → Prop} {Q : Exit → Act → World → Prop} {E : Prop} (w : World) (hgd : o.guard = none) (s x : Operand)
    (ho : o.op = .call { callee := .builtin .append, args := #[s, x], argTypes := #[24, 24] }) (base : Nat) (v : Value) (l : List Wt) (r : Wt) (b0 n : Nat) (hn : l.length = n)
    (hs : a.eval s = v) (hown : OwnWt w base v l) (hx : a.eval x = .slice (some ⟨b0, 0, none⟩) 1 1) (h0 : w.cell? ⟨b0, 0, none⟩ = some (.int .i64 r.wi)) (h1 : w.cell? ⟨b0, 1, none⟩ = some (.int .i64 r.du)) (hl : n ≤ 1000000) (hbase : base ≤ w.heap.size)
    (h : ∀ g cap w', OwnWt w' base (.slice (some ⟨g, 0, none⟩) (n + 1) cap) (l ++ [r]) → w.grownBy w' v.ownBlock → (v.ownBlock = some g ∨ g = w.heap.size) → K (a.put o.dst (.slice (some ⟨g, 0, none⟩) (n + 1) cap)) w') :
    if Region.wanted o (yielded ops a.tmps) = true then Oper.wp Try.prog o a w K Q else E := by
  subst hn
  have hw : Region.wanted o (yielded ops a.tmps) = true := by simp [Region.wanted, hgd]
  rw [if_pos hw]
  obtain ⟨i0, hi, hz0, hz1, hz2⟩ := info_parts infoWt
  refine wp_append_lies w s x 24 ho base 40 i0 _ 2 16 Try.underlying24 hi hz0 hz1 hz2 rfl (by decide) v l.length (wWt l) hs hown ⟨b0, 0, none⟩ 1 1 (cellWt r) hx rfl ?_ ?_ (by decide) (by unfold maxLen; omega) (by omega) hbase _ rfl ?_
  · intro j u hj
    match j, hj with
    | 0, hj => simp [cellWt] at hj; subst hj; simpa [Addr.add] using h0
    | 1, hj => simp [cellWt] at hj; subst hj; simpa [Addr.add] using h1
  · intro u hu; simp [cellWt] at hu; rcases hu with rfl | rfl <;> rfl
  · intro g cap w' h2 h3 h4 _
    refine h g cap w' ?_ h3 h4
    unfold OwnWt
    rw [List.length_append, show wWt (l ++ [r]) = wWt l ++ cellWt r by simp [wWt]]
    exact h2
/-- A slice that was handed in, cut where it ends: what is appended lies anew. -/
theorem step_appendNewWt {ops : Array Oper} {o : Oper} {a : Act} {K : Act → World → Prop} {Q : Exit → Act → World → Prop} {E : Prop} {w : World} (hgd : o.guard = none) (s x : Operand)
    (ho : o.op = .call { callee := .builtin .append, args := #[s, x], argTypes := #[24, 24] }) (l : List Wt) (r : Wt) (pa : Option Addr) (n : Nat) (g : Nat) (hn : l.length = n) (hnn : pa = none → n = 0)
    (hs : a.eval s = .slice pa n n) (hin : WtIn w pa l) (hx : a.eval x = .slice (some ⟨g, 0, none⟩) 1 1) (h0 : w.cell? ⟨g, 0, none⟩ = some (.int .i64 r.wi)) (h1 : w.cell? ⟨g, 1, none⟩ = some (.int .i64 r.du)) (hl : n ≤ 1000000)
    (h : ∀ v' w', OwnWt w' w.heap.size v' (l ++ [r]) → Below w.heap.size w w' → K (a.put o.dst v') w') :
    if Region.wanted o (yielded ops a.tmps) = true then Oper.wp Try.prog o a w K Q else E := by
  subst hn
  obtain ⟨i0, hi, hz0, hz1, hz2⟩ := info_parts infoWt
  refine step_append_grows hgd s x 24 ho 40 i0 _ 2 16 Try.underlying24 hi hz0 hz1 hz2 rfl (by decide) pa l.length l.length (wWt l) hs (fun e => ⟨hnn e, hnn e⟩) (wWt_len l) ?_ ⟨g, 0, none⟩ 1 1 (cellWt r) hx rfl ?_ ?_ (by omega) (by unfold maxLen; omega) (by omega) ?_
  · intro b e j u hj
    rcases wWt_in hin with h | ⟨ad, e2, h⟩
    · have := (List.getElem?_eq_some_iff.1 hj).1
      rw [wWt_len] at this
      omega
    · rw [e] at e2
      obtain rfl := Option.some.inj e2
      exact h j u hj
  · intro j u hj
    match j, hj with
    | 0, hj => simp [cellWt] at hj; subst hj; simpa [Addr.add] using h0
    | 1, hj => simp [cellWt] at hj; subst hj; simpa [Addr.add] using h1
  · intro u hu; simp [cellWt] at hu; rcases hu with rfl | rfl <;> rfl
  · intro v' w' h3 h4
    refine h v' w' ?_ ((Below.refl _ _).grown h4 (Nat.le_refl _) (fun q hq => by cases hq))
    unfold OwnWt
    rw [List.length_append, show wWt (l ++ [r]) = wWt l ++ cellWt r by simp [wWt]]
    exact h3
theorem WtIn.one {w : World} {g : Nat} {x y : Int} (h0 : w.cell? ⟨g, 0, none⟩ = some (.int .i64 x)) (h1 : w.cell? ⟨g, 1, none⟩ = some (.int .i64 y)) : WtIn w (some ⟨g, 0, none⟩) [⟨x, y⟩] := by
  refine .inr ⟨g, 0, rfl, fun i r hr => ?_⟩
  match i, hr with
  | 0, hr => simp at hr; subst hr; exact ⟨by simpa using h0, by simpa using h1⟩
/-- A list of one's own is handed back. -/
def WtRes (w : World) (base : Nat) (l : List Wt) (e : Ending) : Prop := ∃ a c, e = .returned (.slice a l.length c) ∧ WtNew w base (.slice a l.length c) l ∧ l.length ≤ c
theorem WtRes.of {w : World} {base : Nat} {l : List Wt} {v : Value} (h : OwnWt w base v l) : WtRes w base l (.returned v) := by
  obtain ⟨a, c, rfl, hc, _⟩ := h.in
  exact ⟨a, c, rfl, h.new, hc⟩
theorem WtRes.nil (w : World) (base : Nat) (a : Option Addr) (c : Nat) : WtRes w base [] (.returned (.slice a 0 c)) := ⟨a, c, rfl, WtNew.nil _ _ _ _, by simp⟩
set_option maxRecDepth 100000 in
set_option maxHeartbeats 1000000 in
theorem cloneWt_any (w : World) (a : Option Addr) (cap : Nat) (l : List Wt) (hl : l.length ≤ 1048576) (hi : WtIn w a l) :
    Calls Try.prog 43 #[.slice a l.length cap] w fun e w' => WtRes w' w.heap.size l e ∧ Below w.heap.size w w' := by
  cases a with
  | none =>
    have e : l = [] := by
      rcases hi with h | ⟨b, off, h, _⟩
      · exact h
      · cases h
    subst e
    have hq : ∀ W : World, (binOp .eql 24 (.slice none 0 cap) (.slice none 0 0)).run Try.prog W = .ok (.bool true) W := fun W => Go.Lib.run_eql_slice_nil W _ _ none 0 cap 0 0 Try.underlying24
    simp only [List.length_nil]
    go_enter Try.func43, Try.ntmps43
    go_wp2
    go_ret
    exact ⟨WtRes.nil _ _ _ _, Below.refl _ _⟩
  | some ad =>
    have HI : Hid (WtIn w (some ad) l) := hi
    clear hi
    have HO0 : Hid (OwnWt (w.alloc (.cells #[] 40)) w.heap.size (.slice (some ⟨w.heap.size, 0, none⟩) 0 0) []) := OwnWt.made0 w w.heap.size (Nat.le_refl _)
    have HB0 : Hid (Below w.heap.size w (w.alloc (.cells #[] 40))) := (Below.refl _ _).alloc (Nat.le_refl _) _
    obtain ⟨n, hn⟩ : ∃ n, l.length = n := ⟨_, rfl⟩
    have HN : Hid (l.length = n) := hn
    rw [hn] at hl ⊢
    clear hn
    have hq : ∀ W : World, (binOp .eql 24 (.slice (some ad) n cap) (.slice none 0 0)).run Try.prog W = .ok (.bool false) W := fun W => Go.Lib.run_eql_slice_nil W _ _ (some ad) n cap 0 0 Try.underlying24
    go_enter Try.func43, Try.ntmps43
    go_wp2_with (at_builtin; refine wpList_appendInWt _ rfl (.tmp 5) (.tmp 6) rfl w.heap.size _ [] l (some ad) cap rfl (by rw [HN.out]; rfl) HO0.out (HI.out.keep HB0.out) (by simp; have := HN.out; omega) (by simp) ?_; intro v1 w1 ho1 hb1)
    go_ret
    exact ⟨WtRes.of ho1, HB0.out.trans hb1⟩
end Go.Proofs.Ytmgidcigihpbeaa
/-
  LanesFault, on both sides; a copy of lanes.
-/
namespace Go.Proofs.Ytmgidcigihpbeaa
open Go.ChangeShapes Go.WideShapes Go.ChangeAt Go.RowKit Go.Sort
def lanesB (s c t : Int) : Bool := inW 1 8 s && inW 0 8 c && inW 0 1000000 t
def lanesC (s c t : Int) : Int := if lanesB s c t = true then 0 else 3
theorem lanesC_ok {s c t : Int} (h : lanesB s c t = true) : lanesC s c t = 0 := by rw [lanesC, if_pos h]
theorem lanesC_bad {s c t : Int} (h : lanesB s c t = false) : lanesC s c t = 3 := by rw [lanesC, if_neg (by rw [h]; decide)]
theorem lanesB_of {s c t : Int} (h : lanesB s c t = true) : (1 ≤ s ∧ s ≤ 8) ∧ (0 ≤ c ∧ c ≤ 8) ∧ (0 ≤ t ∧ t ≤ 1000000) := by
  simp only [lanesB, Bool.and_eq_true] at h
  exact ⟨inW_of h.1.1, inW_of h.1.2, inW_of h.2⟩
theorem inW_time (x : Int) : inW 0 1000000000000000 x = timeB x := rfl
set_option maxHeartbeats 4000000 in
theorem specLanes_any (s c t : Int) (w : World) :
    Calls Try.prog 14 #[.agg #[.int .i64 s, .int .i64 c, .int .i64 t]] w fun r w' => r = .returned (.int .i64 (lanesC s c t)) ∧ Below w.heap.size w w' := by
  have HT : Hid (∀ x lo hi w, Calls Try.prog 52 #[.int .i64 x, .int .i64 lo, .int .i64 hi] w fun r w' => r = .returned (.bool (inW lo hi x)) ∧ w' = w) := l1In_w
  have HB : Hid (Below w.heap.size w (w.alloc (.cells #[.int .i64 s, .int .i64 c, .int .i64 t] 28))) := (Below.refl _ _).alloc (Nat.le_refl _) _
  cases h0 : inW 1 8 s
  · rw [lanesC_bad (by simp [lanesB, h0])]
    go_enter Try.func14, Try.ntmps14
    go_wp2_with fail
    refine (HT.out s 1 8 _).mono ?_
    rintro r w1 ⟨rfl, rfl⟩
    rw [h0]
    go_wp2_with fail
    go_ret
    exact ⟨rfl, HB.out⟩
  cases h1 : inW 0 8 c
  · rw [lanesC_bad (by simp [lanesB, h1])]
    go_enter Try.func14, Try.ntmps14
    go_wp2_with fail
    refine (HT.out s 1 8 _).mono ?_
    rintro r w1 ⟨rfl, rfl⟩
    rw [h0]
    go_wp2_with fail
    refine (HT.out c 0 8 _).mono ?_
    rintro r w1 ⟨rfl, rfl⟩
    rw [h1]
    go_wp2_with fail
    go_ret
    exact ⟨rfl, HB.out⟩
  cases h2 : inW 0 1000000 t
  · rw [lanesC_bad (by simp [lanesB, h2])]
    go_enter Try.func14, Try.ntmps14
    go_wp2_with fail
    refine (HT.out s 1 8 _).mono ?_
    rintro r w1 ⟨rfl, rfl⟩
    rw [h0]
    go_wp2_with fail
    refine (HT.out c 0 8 _).mono ?_
    rintro r w1 ⟨rfl, rfl⟩
    rw [h1]
    go_wp2_with fail
    refine (HT.out t 0 1000000 _).mono ?_
    rintro r w1 ⟨rfl, rfl⟩
    rw [h2]
    go_wp2_with fail
    go_ret
    exact ⟨rfl, HB.out⟩
  · rw [lanesC_ok (by simp [lanesB, h0, h1, h2])]
    go_enter Try.func14, Try.ntmps14
    go_wp2_with fail
    refine (HT.out s 1 8 _).mono ?_
    rintro r w1 ⟨rfl, rfl⟩
    rw [h0]
    go_wp2_with fail
    refine (HT.out c 0 8 _).mono ?_
    rintro r w1 ⟨rfl, rfl⟩
    rw [h1]
    go_wp2_with fail
    refine (HT.out t 0 1000000 _).mono ?_
    rintro r w1 ⟨rfl, rfl⟩
    rw [h2]
    go_wp2_with fail
    go_ret
    exact ⟨rfl, HB.out⟩
set_option maxHeartbeats 4000000 in
theorem implLanes_any (s c t : Int) (w : World) :
    Calls Try.prog 13 #[.agg #[.int .i64 s, .int .i64 c, .int .i64 t]] w fun r w' => r = .returned (.int .i64 (lanesC s c t)) ∧ Below w.heap.size w w' := by
  have HT : Hid (∀ x lo hi w, Calls Try.prog 40 #[.int .i64 x, .int .i64 lo, .int .i64 hi] w fun r w' => r = .returned (.bool (inW lo hi x)) ∧ w' = w) := isWithin_all
  have HB : Hid (Below w.heap.size w (w.alloc (.cells #[.int .i64 s, .int .i64 c, .int .i64 t] 28))) := (Below.refl _ _).alloc (Nat.le_refl _) _
  cases h0 : inW 1 8 s
  · rw [lanesC_bad (by simp [lanesB, h0])]
    go_enter Try.func13, Try.ntmps13
    go_wp2_with fail
    refine (HT.out s 1 8 _).mono ?_
    rintro r w1 ⟨rfl, rfl⟩
    rw [h0]
    go_wp2_with fail
    go_ret
    exact ⟨rfl, HB.out⟩
  cases h1 : inW 0 8 c
  · rw [lanesC_bad (by simp [lanesB, h1])]
    go_enter Try.func13, Try.ntmps13
    go_wp2_with fail
    refine (HT.out s 1 8 _).mono ?_
    rintro r w1 ⟨rfl, rfl⟩
    rw [h0]
    go_wp2_with fail
    refine (HT.out c 0 8 _).mono ?_
    rintro r w1 ⟨rfl, rfl⟩
    rw [h1]
    go_wp2_with fail
    go_ret
    exact ⟨rfl, HB.out⟩
  cases h2 : inW 0 1000000 t
  · rw [lanesC_bad (by simp [lanesB, h2])]
    go_enter Try.func13, Try.ntmps13
    go_wp2_with fail
    refine (HT.out s 1 8 _).mono ?_
    rintro r w1 ⟨rfl, rfl⟩
    rw [h0]
    go_wp2_with fail
    refine (HT.out c 0 8 _).mono ?_
    rintro r w1 ⟨rfl, rfl⟩
    rw [h1]
    go_wp2_with fail
    refine (HT.out t 0 1000000 _).mono ?_
    rintro r w1 ⟨rfl, rfl⟩
    rw [h2]
    go_wp2_with fail
    go_ret
    exact ⟨rfl, HB.out⟩
  · rw [lanesC_ok (by simp [lanesB, h0, h1, h2])]
    go_enter Try.func13, Try.ntmps13
    go_wp2_with fail
    refine (HT.out s 1 8 _).mono ?_
    rintro r w1 ⟨rfl, rfl⟩
    rw [h0]
    go_wp2_with fail
    refine (HT.out c 0 8 _).mono ?_
    rintro r w1 ⟨rfl, rfl⟩
    rw [h1]
    go_wp2_with fail
    refine (HT.out t 0 1000000 _).mono ?_
    rintro r w1 ⟨rfl, rfl⟩
    rw [h2]
    go_wp2_with fail
    go_ret
    exact ⟨rfl, HB.out⟩
end Go.Proofs.Ytmgidcigihpbeaa
/-
  What is asked of a bulkhead, in plain words.
-/
namespace Go.Proofs.Ytmgidcigihpbeaa
open Go.ChangeShapes Go.WideShapes Go.ChangeAt Go.RowKit Go.Sort
def waitB (r : Wt) : Bool := timeB r.wi && timeB r.du
def waitsB (l : List Wt) : Bool := l.all waitB
def nodupW (l : List Wt) : Bool := decide ((l.map Wt.wi).Nodup)
def hasW (l : List Wt) (x : Int) : Bool := l.any fun r => decide (r.wi = x)
theorem waitsB_iff (l : List Wt) : waitsB l = true ↔ ∀ (i : Nat) x, l[i]? = some x → waitB x = true := by
  unfold waitsB
  rw [List.all_eq_true]
  constructor
  · intro h i x hx
    exact h x (List.mem_of_getElem? hx)
  · intro h x hx
    obtain ⟨i, hi⟩ := List.getElem?_of_mem hx
    exact h i x hi
theorem waitsB_no {l : List Wt} {i : Nat} {x : Wt} (hx : l[i]? = some x) (h : waitB x = false) : waitsB l = false := by
  cases e : waitsB l with
  | false => rfl
  | true => rw [(waitsB_iff l).1 e i x hx] at h; cases h
theorem nodupW_iff (l : List Wt) : nodupW l = true ↔ ∀ (i j : Nat) x y, j < i → l[i]? = some x → l[j]? = some y → x.wi ≠ y.wi := by
  unfold nodupW
  rw [decide_eq_true_eq, List.Nodup, List.pairwise_iff_getElem]
  constructor
  · intro h i j x y hji hx hy e
    obtain ⟨hi, rfl⟩ := List.getElem?_eq_some_iff.1 hx
    obtain ⟨hj, rfl⟩ := List.getElem?_eq_some_iff.1 hy
    exact h j i (by simpa using hj) (by simpa using hi) hji (by simpa using e.symm)
  · intro h i j hi hj hij
    simp only [List.length_map] at hi hj
    simp only [List.getElem_map]
    exact fun e => h j i _ _ hij (List.getElem?_eq_getElem hj) (List.getElem?_eq_getElem hi) e.symm
theorem nodupW_no {l : List Wt} {i j : Nat} {x y : Wt} (hji : j < i) (hx : l[i]? = some x) (hy : l[j]? = some y) (h : x.wi = y.wi) : nodupW l = false := by
  cases e : nodupW l with
  | false => rfl
  | true => exact absurd h ((nodupW_iff l).1 e i j x y hji hx hy)
theorem hasW_of {l : List Wt} {k : Nat} {r : Wt} {x : Int} (hr : l[k]? = some r) (h : r.wi = x) : hasW l x = true := List.any_eq_true.2 ⟨r, List.mem_of_getElem? hr, by simpa using h⟩
theorem hasW_no {l : List Wt} {x : Int} (h : ∀ (j : Nat) r, l[j]? = some r → r.wi ≠ x) : hasW l x = false := by
  unfold hasW
  rw [List.any_eq_false]
  intro r hr
  obtain ⟨i, hi⟩ := List.getElem?_of_mem hr
  simpa using h i r hi
theorem hasW_get {l : List Wt} {x : Int} (h : hasW l x = true) : ∃ (j : Nat) (r : Wt), l[j]? = some r ∧ r.wi = x := by
  obtain ⟨r, hr, e⟩ := List.any_eq_true.1 h
  obtain ⟨i, hi⟩ := List.getElem?_of_mem hr
  exact ⟨i, r, hi, by simpa using e⟩
theorem hasW_none {l : List Wt} {x : Int} (h : hasW l x = false) {j : Nat} {r : Wt} (hr : l[j]? = some r) : r.wi ≠ x := by
  intro e
  rw [hasW_of hr e] at h; cases h
def blkC (y : Int) (l : List Wt) (s c t : Int) : Int := if lanesB s c t = false then 3 else if inW 0 s y = false then 3 else if c < (l.length : Int) then 2 else if waitsB l = false then 3 else if nodupW l = false then 6 else 0
section
variable {y s c t : Int} {l : List Wt}
theorem blkC_lanes (h : lanesB s c t = false) : blkC y l s c t = 3 := by rw [blkC, if_pos h]
theorem blkC_busy (h : lanesB s c t = true) (h1 : inW 0 s y = false) : blkC y l s c t = 3 := by rw [blkC, if_neg (by rw [h]; decide), if_pos h1]
theorem blkC_many (h : lanesB s c t = true) (h1 : inW 0 s y = true) (h2 : c < (l.length : Int)) : blkC y l s c t = 2 := by rw [blkC, if_neg (by rw [h]; decide), if_neg (by rw [h1]; decide), if_pos h2]
theorem blkC_range (h : lanesB s c t = true) (h1 : inW 0 s y = true) (h2 : ¬ c < (l.length : Int)) (h3 : waitsB l = false) : blkC y l s c t = 3 := by rw [blkC, if_neg (by rw [h]; decide), if_neg (by rw [h1]; decide), if_neg h2, if_pos h3]
theorem blkC_taken (h : lanesB s c t = true) (h1 : inW 0 s y = true) (h2 : ¬ c < (l.length : Int)) (h3 : waitsB l = true) (h4 : nodupW l = false) : blkC y l s c t = 6 := by rw [blkC, if_neg (by rw [h]; decide), if_neg (by rw [h1]; decide), if_neg h2, if_neg (by rw [h3]; decide), if_pos h4]
theorem blkC_ok (h : lanesB s c t = true) (h1 : inW 0 s y = true) (h2 : ¬ c < (l.length : Int)) (h3 : waitsB l = true) (h4 : nodupW l = true) : blkC y l s c t = 0 := by rw [blkC, if_neg (by rw [h]; decide), if_neg (by rw [h1]; decide), if_neg h2, if_neg (by rw [h3]; decide), if_neg (by rw [h4]; decide)]
theorem blkC_of (h : blkC y l s c t = 0) : lanesB s c t = true ∧ inW 0 s y = true ∧ (l.length : Int) ≤ c ∧ waitsB l = true ∧ nodupW l = true := by
  unfold blkC at h
  split at h
  · cases h
  · split at h
    · cases h
    · split at h
      · cases h
      · split at h
        · cases h
        · split at h
          · cases h
          · rename_i h1 h2 h3 h4 h5
            exact ⟨by simpa using h1, by simpa using h2, by omega, by simpa using h4, by simpa using h5⟩
end
end Go.Proofs.Ytmgidcigihpbeaa
/-
  A copy of a bulkhead, and who is found in one, by the model.
-/
namespace Go.Proofs.Ytmgidcigihpbeaa
open Go.ChangeShapes Go.WideShapes Go.ChangeAt Go.RowKit Go.Sort
def CopyB (w : World) (base : Nat) (y : Int) (l : List Wt) (e : Ending) : Prop := ∃ a c, e = .returned (.agg #[.int .i64 y, .slice a l.length c]) ∧ OwnWt w base (.slice a l.length c) l
theorem OwnWt.gw {g : Nat} {w w' : World} {base : Nat} {v : Value} {l : List Wt} (h : OwnWt w base v l) (k : w.grownBy w' (some g)) (hne : g < base) : OwnWt w' base v l := World.ownsRow.kept h k (by
  cases e : v.ownBlock with
  | none => exact .inl rfl
  | some q => right; intro e2; rw [Option.some.inj e2] at e; have := row_ge h g e; omega)
set_option maxRecDepth 100000 in
set_option maxHeartbeats 4000000 in
theorem specCopyB_any (w : World) (B : Nat) (y : Int) (a : Option Addr) (cap : Nat) (l : List Wt) (hl : l.length ≤ 1048576) (hB : D2 w B (.int .i64 y) (.slice a l.length cap)) (hi : WtIn w a l) :
    Calls Try.prog 48 #[.pointer (some ⟨B, 0, none⟩)] w fun e w' => CopyB w' w.heap.size y l e ∧ Below w.heap.size w w' := by
  obtain ⟨W, hW⟩ : ∃ W, W = w.alloc (.cells #[.int .i64 0, .slice none 0 0] 26) := ⟨_, rfl⟩
  have HW : Hid (W = w.alloc (.cells #[.int .i64 0, .slice none 0 0] 26)) := hW
  have bW : Below w.heap.size w W := by rw [hW]; exact (Below.refl _ _).alloc (Nat.le_refl _) _
  have f0 : D2 W w.heap.size (.int .i64 0) (.slice none 0 0) := by rw [hW]; exact D2.new w _ _ _
  have hsz : W.heap.size = w.heap.size + 1 := by rw [hW]; simp
  have K0 : Hid (Below w.heap.size w W ∧ W.heap.size = w.heap.size + 1 ∧ D2 W w.heap.size (.int .i64 0) (.slice none 0 0)) := ⟨bW, hsz, f0⟩
  obtain ⟨n, hn⟩ : ∃ n, l.length = n := ⟨_, rfl⟩
  have HN : Hid (l.length = n) := hn
  rw [hn] at hB hl
  have HKS : Hid (∀ X, Below w.heap.size w X → X.cell? ⟨B, 0, none⟩ = some (.int .i64 y) ∧ X.cell? ⟨B, 1, none⟩ = some (.slice a n cap)) := fun X hb => ⟨(hB.keep hb).c0, (hB.keep hb).c1⟩
  have HI : Hid (∀ X, Below w.heap.size w X → WtIn X a l) := fun X hb => hi.keep hb
  have B0 : Hid (Below w.heap.size w W.drew) := bW.drew
  have B1 : Hid (Below w.heap.size w (W.drew.alloc (.cells #[] 40))) := (bW.drew).alloc bW.size _
  have O1 : Hid (OwnWt (W.drew.alloc (.cells #[] 40)) W.heap.size (.slice (some ⟨W.heap.size, 0, none⟩) 0 0) []) := OwnWt.made0 W.drew W.heap.size (Nat.le_refl _)
  have Z1 : Hid (W.heap.size ≤ (W.drew.alloc (.cells #[] 40)).heap.size) := by show _ ≤ _; simp
  have B2 : Hid (Below w.heap.size w (W.alloc (.cells #[] 40)).drew) := (bW.alloc bW.size _).drew
  have O2 : Hid (OwnWt (W.alloc (.cells #[] 40)).drew W.heap.size (.slice (some ⟨W.heap.size, 0, none⟩) 0 0) []) := (OwnWt.made0 W W.heap.size (Nat.le_refl _)).below ((Below.refl _ _).drew)
  have Y1 : Hid (Below W.heap.size W (W.drew.alloc (.cells #[] 40))) := ((Below.refl _ _).drew).alloc (Nat.le_refl _) _
  have Y2 : Hid (Below W.heap.size W (W.alloc (.cells #[] 40)).drew) := ((Below.refl _ _).alloc (Nat.le_refl _) _).drew
  have Z2 : Hid (W.heap.size ≤ (W.alloc (.cells #[] 40)).drew.heap.size) := by show _ ≤ _; simp
  clear hW bW f0 hsz hi hB hn
  go_enter Try.func48, Try.ntmps48
  go_wp2_with fail
  rw [← HW.out]
  go_region_held3 (fun X => X.cell? ⟨B, 0, none⟩ = some (.int .i64 y) ∧ X.cell? ⟨B, 1, none⟩ = some (.slice a n cap))
    (first | exact HKS.out _ ((BA.out.setCell (Nat.le_refl _) _).setCell (Nat.le_refl _) _) | exact HKS.out _ BA.out | exact HKS.out _ B1.out | exact HKS.out _ B0.out | exact HKS.out _ B2.out)
    (first
    | (refine step_appendInWt _ (by rfl) _ _ (by rfl) W.heap.size _ [] l a cap n HN.out (by rfl) O1.out (by rfl) (HI.out _ B1.out) (by simp; omega) Z1.out ?_; intro v1 w1 ho1 hb1; have BA : Hid (Below w.heap.size w w1) := B1.out.trans (hb1.mono K0.out.1.size); obtain ⟨va, vc, rfl, _, _⟩ := ho1.in; simp only [List.nil_append] at ho1 ⊢; rw [HN.out] at ho1 ⊢; have OA : Hid (OwnWt w1 W.heap.size (.slice va n vc) l) := ho1; obtain ⟨r0, r1, rf, _⟩ := (K0.out.2.2.keep (Y1.out)).low hb1 (by rw [K0.out.2.1]; omega); clear ho1 hb1)
    | (refine step_appendInWt _ (by rfl) _ _ (by rfl) W.heap.size _ [] l a cap n HN.out (by rfl) O2.out (by rfl) (HI.out _ B2.out) (by simp; omega) Z2.out ?_; intro v1 w1 ho1 hb1; have BA : Hid (Below w.heap.size w w1) := B2.out.trans (hb1.mono K0.out.1.size); obtain ⟨va, vc, rfl, _, _⟩ := ho1.in; simp only [List.nil_append] at ho1 ⊢; rw [HN.out] at ho1 ⊢; have OA : Hid (OwnWt w1 W.heap.size (.slice va n vc) l) := ho1; obtain ⟨r0, r1, rf, _⟩ := (K0.out.2.2.keep (Y2.out)).low hb1 (by rw [K0.out.2.1]; omega); clear ho1 hb1))
  all_goals
    have HO : Hid (∀ x y, OwnWt ((w1.setCell ⟨w.heap.size, 0, none⟩ x).setCell ⟨w.heap.size, 1, none⟩ y) w.heap.size (.slice va n vc) l) := fun x y => ((OA.out.gw (gwSet _ _ _ _) (by rw [K0.out.2.1]; omega)).gw (gwSet _ _ _ _) (by rw [K0.out.2.1]; omega)).lower K0.out.1.size
    have HBL : Hid (Below w.heap.size w w1) := BA.out
    clear OA BA HKS HI B0 B1 B2 O1 O2 Z1 Z2 Y1 Y2 K0
    go_wp2_with fail
    exact bodyPost_ret (v := .agg #[.int .i64 y, .slice va n vc]) (by simp [results, Try.results48, go_sem, r0, r1]) rfl ⟨⟨va, vc, by rw [HN.out], by rw [HN.out]; exact HO.out _ _⟩, (HBL.out.setCell (Nat.le_refl _) _).setCell (Nat.le_refl _) _⟩
/-- The place of who has this number, or -1. -/
def FindB (l : List Wt) (x : Int) (e : Ending) : Prop := (∃ k : Nat, e = .returned (.int .i64 (k : Int)) ∧ k ≤ 1048576 ∧ hasW l x = true) ∨ (e = .returned (.int .i64 (-1)) ∧ hasW l x = false)
set_option maxRecDepth 100000 in
set_option maxHeartbeats 4000000 in
theorem specFindB_any (w : World) (B : Nat) (y : Int) (a : Option Addr) (cap : Nat) (l : List Wt) (x : Int) (hl : l.length ≤ 1048576) (hB : D2 w B (.int .i64 y) (.slice a l.length cap)) (hi : WtIn w a l) :
    Calls Try.prog 47 #[.pointer (some ⟨B, 0, none⟩), .int .i64 x] w fun e w' => FindB l x e ∧ w' = w := by
  have HI : Hid (WtIn w a l) := hi
  clear hi
  obtain ⟨n, hn⟩ : ∃ n, l.length = n := ⟨_, rfl⟩
  rw [hn] at hl hB
  have HN : Hid (l.length = n) := hn
  clear hn
  obtain ⟨b0, b1, bf, _⟩ := hB
  go_enter Try.func47, Try.ntmps47
  go_wp2_with fail
  go_loopw [5] (fun i wr => ∃ k : Nat, k ≤ n ∧ i = .int .i64 k ∧ (∀ (j : Nat) r, j < k → l[j]? = some r → r.wi ≠ x) ∧ wr = w) (fun i _ => n - (intOf i).toNat)
  case atStart => exact ⟨0, Nat.zero_le _, rfl, fun j x h => by omega, rfl⟩
  case round =>
    obtain ⟨k, hk, rfl, hA, rfl⟩ := hrel
    have HA : Hid (∀ (j : Nat) r, j < k → l[j]? = some r → r.wi ≠ x) := hA
    clear hA
    by_cases hlt : k < n
    · obtain ⟨r, hr⟩ : ∃ r, l[k]? = some r := ⟨l[k]'(by have := HN.out; omega), List.getElem?_eq_getElem _⟩
      rcases HI.out with h | ⟨b, off, rfl, hat⟩
      · subst h; simp at hr
      obtain ⟨p0, p1⟩ := hat k r hr
      have gk : (k : Int) < n := by omega
      have gk0 : (0 : Int) ≤ k := by omega
      by_cases he : r.wi = x
      · have HF : Hid (FindB l x (.returned (.int .i64 (k : Int)))) := .inl ⟨k, rfl, by omega, hasW_of hr he⟩
        rw [he] at p0
        clear hr hat HA HI he
        go_wp2_with fail
        go_ret
        exact ⟨HF.out, rfl⟩
      · have HF : Hid (∀ (j : Nat) r, j < k + 1 → l[j]? = some r → r.wi ≠ x) := by
          intro j q hj hjx
          by_cases e : j = k
          · subst e; rw [hr] at hjx; obtain rfl := Option.some.inj hjx; exact he
          · exact HA.out j q (by omega) hjx
        have he2 : (r.wi == x) = false := by simpa using he
        clear hr hat HA
        generalize r.wi = ri at *
        generalize r.du = rd at *
        go_wp2_with fail
        go_roundw
        case rel => exact ⟨k + 1, by omega, by go_num, HF.out, by first | trivial | rfl⟩
        case measure => simp [intOf]; omega
    · have HF : Hid (FindB l x (.returned (.int .i64 (-1)))) := .inr ⟨rfl, hasW_no fun j r hr => HA.out j r (by have := (List.getElem?_eq_some_iff.1 hr).1; have := HN.out; omega) hr⟩
      clear HA HI HN
      go_wp2_with fail
      go_ret
      exact ⟨HF.out, rfl⟩
end Go.Proofs.Ytmgidcigihpbeaa
/-
  Who enters, in plain words.
-/
namespace Go.Proofs.Ytmgidcigihpbeaa
open Go.ChangeShapes Go.WideShapes Go.ChangeAt Go.RowKit Go.Sort
structure EnQ where
  c : Int
  y : Int
  l : List Wt
  u : Bool
def EnRes (w : World) (base : Nat) (q : EnQ) (e : Ending) : Prop := ∃ a cp, e = .returned (.agg #[.int .i64 q.c, .int .i64 q.y, .slice a q.l.length cp, .bool q.u]) ∧ WtNew w base (.slice a q.l.length cp) q.l ∧ q.l.length ≤ cp
theorem EnRes.mk {w : World} {base : Nat} {q : EnQ} {c0 y : Int} {a : Option Addr} {n cp : Nat} {l : List Wt} {u : Bool} (h : q = ⟨c0, y, l, u⟩) (hn : l.length = n) (hm : WtNew w base (.slice a n cp) l) (hc : n ≤ cp) : EnRes w base q (.returned (.agg #[.int .i64 c0, .int .i64 y, .slice a n cp, .bool u])) := by
  subst h; subst hn
  exact ⟨a, cp, rfl, hm, hc⟩
/-- What is so of a bulkhead and lanes that have no fault. -/
structure GoodB (y : Int) (l : List Wt) (s c t : Int) : Prop where
  hs : 1 ≤ s ∧ s ≤ 8
  hc : 0 ≤ c ∧ c ≤ 8
  ht : 0 ≤ t ∧ t ≤ 1000000
  hy : 0 ≤ y ∧ y ≤ s
  hl : (l.length : Int) ≤ c
  hw : waitsB l = true
  hn : nodupW l = true
theorem goodB_of {y s c t : Int} {l : List Wt} (h : blkC y l s c t = 0) : GoodB y l s c t := by
  obtain ⟨h1, h2, h3, h4, h5⟩ := blkC_of h
  obtain ⟨a1, a2, a3⟩ := lanesB_of h1
  exact ⟨a1, a2, a3, inW_of h2, h3, h4, h5⟩
def enterR (y : Int) (l : List Wt) (s c t x now : Int) : EnQ :=
  if blkC y l s c t = 0 then (if (timeB x && timeB now) = true then (if hasW l x = true then ⟨6, 0, [], false⟩ else if y < s then ⟨0, y + 1, l, true⟩ else if c ≤ (l.length : Int) then ⟨7, 0, [], false⟩ else ⟨0, y, l ++ [⟨x, addT now t⟩], false⟩) else ⟨3, 0, [], false⟩) else ⟨blkC y l s c t, 0, [], false⟩
section
variable {y s c t x now : Int} {l : List Wt}
theorem enter_bad (h : ¬ blkC y l s c t = 0) : enterR y l s c t x now = ⟨blkC y l s c t, 0, [], false⟩ := by rw [enterR, if_neg h]
theorem enter_range (h : blkC y l s c t = 0) (h1 : (timeB x && timeB now) = false) : enterR y l s c t x now = ⟨3, 0, [], false⟩ := by rw [enterR, if_pos h, if_neg (by rw [h1]; decide)]
theorem enter_taken (h : blkC y l s c t = 0) (h1 : (timeB x && timeB now) = true) (h2 : hasW l x = true) : enterR y l s c t x now = ⟨6, 0, [], false⟩ := by rw [enterR, if_pos h, if_pos h1, if_pos h2]
theorem enter_start (h : blkC y l s c t = 0) (h1 : (timeB x && timeB now) = true) (h2 : hasW l x = false) (h3 : y < s) : enterR y l s c t x now = ⟨0, y + 1, l, true⟩ := by rw [enterR, if_pos h, if_pos h1, if_neg (by rw [h2]; decide), if_pos h3]
theorem enter_full (h : blkC y l s c t = 0) (h1 : (timeB x && timeB now) = true) (h2 : hasW l x = false) (h3 : ¬ y < s) (h4 : c ≤ (l.length : Int)) : enterR y l s c t x now = ⟨7, 0, [], false⟩ := by rw [enterR, if_pos h, if_pos h1, if_neg (by rw [h2]; decide), if_neg h3, if_pos h4]
theorem enter_wait (h : blkC y l s c t = 0) (h1 : (timeB x && timeB now) = true) (h2 : hasW l x = false) (h3 : ¬ y < s) (h4 : ¬ c ≤ (l.length : Int)) : enterR y l s c t x now = ⟨0, y, l ++ [⟨x, addT now t⟩], false⟩ := by rw [enterR, if_pos h, if_pos h1, if_neg (by rw [h2]; decide), if_neg h3, if_neg h4]
theorem enterR_len (h : l.length ≤ 1048576) : (enterR y l s c t x now).l.length ≤ 1048576 := by
  unfold enterR
  split
  · rename_i h0
    have hg := (goodB_of h0).hl
    have hc := (goodB_of h0).hc
    split
    · split
      · simp
      · split
        · exact h
        · split
          · simp
          · simp only [List.length_append, List.length_cons, List.length_nil]; omega
    · simp
  · simp
end
theorem OwnWt.gwA {g : Nat} {w w' : World} {base : Nat} {v : Value} {l : List Wt} (h : OwnWt w base v l) (k : w.grownBy w' (some g)) (hne : w.heap.size ≤ g ∨ g < base) : OwnWt w' base v l := World.ownsRow.kept h k (by
  cases e : v.ownBlock with
  | none => exact .inl rfl
  | some q => right; intro e2; rw [Option.some.inj e2] at e; have := World.ownsRow.lt h g e; omega)
theorem OwnWt.cap {w : World} {base : Nat} {a : Option Addr} {n c : Nat} {l : List Wt} (h : OwnWt w base (.slice a n c) l) : n ≤ c := by
  obtain ⟨a2, c2, e, hc, _⟩ := h.in
  simp only [Value.slice.injEq] at e
  obtain ⟨_, rfl, rfl⟩ := e
  exact hc
theorem D2.go {w w' : World} {b : Nat} {v0 v1 : Value} (k : D2 w b v0 v1) {q : Option Nat} (h : w.grownBy w' q) (hb : q ≠ some b) : D2 w' b v0 v1 :=
  ⟨by rw [World.cell?_of_block (w := w) (h.block b k.lt (fun e => hb e.symm))]; exact k.c0, by rw [World.cell?_of_block (w := w) (h.block b k.lt (fun e => hb e.symm))]; exact k.c1, fun o => by rw [World.frozen?_of_block (w := w) (h.block b k.lt (fun e => hb e.symm))]; exact k.fr o, Nat.lt_of_lt_of_le k.lt h.size⟩
theorem D3.go {w w' : World} {b : Nat} {v0 v1 v2 : Value} (k : D3 w b v0 v1 v2) {q : Option Nat} (h : w.grownBy w' q) (hb : q ≠ some b) : D3 w' b v0 v1 v2 :=
  ⟨by rw [World.cell?_of_block (w := w) (h.block b k.lt (fun e => hb e.symm))]; exact k.c0, by rw [World.cell?_of_block (w := w) (h.block b k.lt (fun e => hb e.symm))]; exact k.c1, by rw [World.cell?_of_block (w := w) (h.block b k.lt (fun e => hb e.symm))]; exact k.c2, fun o => by rw [World.frozen?_of_block (w := w) (h.block b k.lt (fun e => hb e.symm))]; exact k.fr o, Nat.lt_of_lt_of_le k.lt h.size⟩
theorem D4.go {w w' : World} {b : Nat} {v0 v1 v2 v3 : Value} (k : D4 w b v0 v1 v2 v3) {q : Option Nat} (h : w.grownBy w' q) (hb : q ≠ some b) : D4 w' b v0 v1 v2 v3 :=
  ⟨by rw [World.cell?_of_block (w := w) (h.block b k.lt (fun e => hb e.symm))]; exact k.c0, by rw [World.cell?_of_block (w := w) (h.block b k.lt (fun e => hb e.symm))]; exact k.c1, by rw [World.cell?_of_block (w := w) (h.block b k.lt (fun e => hb e.symm))]; exact k.c2, by rw [World.cell?_of_block (w := w) (h.block b k.lt (fun e => hb e.symm))]; exact k.c3, fun o => by rw [World.frozen?_of_block (w := w) (h.block b k.lt (fun e => hb e.symm))]; exact k.fr o, Nat.lt_of_lt_of_le k.lt h.size⟩
end Go.Proofs.Ytmgidcigihpbeaa
/-
  BulkFault, by the model.
-/
namespace Go.Proofs.Ytmgidcigihpbeaa
open Go.ChangeShapes Go.WideShapes Go.ChangeAt Go.RowKit Go.Sort
set_option maxRecDepth 100000 in
set_option maxHeartbeats 8000000 in
theorem specBlk_any (y : Int) (a : Option Addr) (cap : Nat) (l : List Wt) (s c t : Int) (w : World) (hi : WtIn w a l) :
    Calls Try.prog 12 #[.agg #[.int .i64 y, .slice a l.length cap], .agg #[.int .i64 s, .int .i64 c, .int .i64 t]] w fun r w' => r = .returned (.int .i64 (blkC y l s c t)) ∧ Below w.heap.size w w' := by
  have HU : Hid (∀ x w, Calls Try.prog 46 #[.int .i64 x] w fun r w' => r = .returned (.bool (timeB x)) ∧ w' = w) := l1Time_all
  obtain ⟨W, hW⟩ : ∃ W, W = ((w.alloc (.cells #[.int .i64 y, .slice a l.length cap] 26)).alloc (.cells #[.int .i64 s, .int .i64 c, .int .i64 t] 28)) := ⟨_, rfl⟩
  have HW : Hid (W = ((w.alloc (.cells #[.int .i64 y, .slice a l.length cap] 26)).alloc (.cells #[.int .i64 s, .int .i64 c, .int .i64 t] 28))) := hW
  have K0 : Hid (Below w.heap.size w W ∧ D2 W w.heap.size (.int .i64 y) (.slice a l.length cap) ∧ D3 W (w.heap.size + 1) (.int .i64 s) (.int .i64 c) (.int .i64 t)) := by
    have h2 := D3.new (w.alloc (.cells #[.int .i64 y, .slice a l.length cap] 26)) (.int .i64 s) (.int .i64 c) (.int .i64 t) 28
    rw [show (w.alloc (.cells #[.int .i64 y, .slice a l.length cap] 26)).heap.size = w.heap.size + 1 by simp] at h2
    rw [hW]
    exact ⟨((Below.refl _ _).alloc (Nat.le_refl _) _).alloc (by simp) _, (D2.new w _ _ _).keep ((Below.refl _ _).alloc (Nat.le_refl _) _), h2⟩
  have HL : Hid (∀ X, Calls Try.prog 14 #[.agg #[.int .i64 s, .int .i64 c, .int .i64 t]] X fun r w' => r = .returned (.int .i64 (lanesC s c t)) ∧ Below X.heap.size X w') := specLanes_any s c t
  have HT : Hid (∀ x lo hi w, Calls Try.prog 52 #[.int .i64 x, .int .i64 lo, .int .i64 hi] w fun r w' => r = .returned (.bool (inW lo hi x)) ∧ w' = w) := l1In_w
  have HI : Hid (WtIn w a l) := hi
  clear hi hW
  cases h0 : lanesB s c t
  · rw [blkC_lanes h0]
    rw [lanesC_bad h0] at HL
    clear HI
    generalize l.length = n at *
    go_enter Try.func12, Try.ntmps12
    go_wp2_with fail
    rw [← HW.out]
    refine (HL.out _).mono ?_
    rintro r w1 ⟨rfl, hb1⟩
    have K1 : Hid (Below w.heap.size w w1 ∧ D2 w1 w.heap.size (.int .i64 y) (.slice a n cap) ∧ D3 w1 (w.heap.size + 1) (.int .i64 s) (.int .i64 c) (.int .i64 t)) := ⟨K0.out.1.trans (hb1.mono K0.out.1.size), K0.out.2.1.keep hb1, K0.out.2.2.keep hb1⟩
    clear K0 hb1 HW HL
    obtain ⟨e0, e1, ef, _⟩ := K1.out.2.1
    obtain ⟨f0, f1, f2, ff, _⟩ := K1.out.2.2
    go_wp2_with fail
    go_ret
    exact ⟨rfl, K1.out.1⟩
  rw [lanesC_ok h0] at HL
  cases h1 : inW 0 s y
  · rw [blkC_busy h0 h1]
    clear HI
    generalize l.length = n at *
    go_enter Try.func12, Try.ntmps12
    go_wp2_with fail
    rw [← HW.out]
    refine (HL.out _).mono ?_
    rintro r w1 ⟨rfl, hb1⟩
    have K1 : Hid (Below w.heap.size w w1 ∧ D2 w1 w.heap.size (.int .i64 y) (.slice a n cap) ∧ D3 w1 (w.heap.size + 1) (.int .i64 s) (.int .i64 c) (.int .i64 t)) := ⟨K0.out.1.trans (hb1.mono K0.out.1.size), K0.out.2.1.keep hb1, K0.out.2.2.keep hb1⟩
    clear K0 hb1 HW HL
    obtain ⟨e0, e1, ef, _⟩ := K1.out.2.1
    obtain ⟨f0, f1, f2, ff, _⟩ := K1.out.2.2
    go_wp2_with fail
    refine (HT.out y 0 s _).mono ?_
    rintro r w2 ⟨rfl, rfl⟩
    rw [h1]
    go_wp2_with fail
    go_ret
    exact ⟨rfl, K1.out.1⟩
  by_cases h2 : c < (l.length : Int)
  · rw [blkC_many h0 h1 h2]
    clear HI
    generalize l.length = n at *
    go_enter Try.func12, Try.ntmps12
    go_wp2_with fail
    rw [← HW.out]
    refine (HL.out _).mono ?_
    rintro r w1 ⟨rfl, hb1⟩
    have K1 : Hid (Below w.heap.size w w1 ∧ D2 w1 w.heap.size (.int .i64 y) (.slice a n cap) ∧ D3 w1 (w.heap.size + 1) (.int .i64 s) (.int .i64 c) (.int .i64 t)) := ⟨K0.out.1.trans (hb1.mono K0.out.1.size), K0.out.2.1.keep hb1, K0.out.2.2.keep hb1⟩
    clear K0 hb1 HW HL
    obtain ⟨e0, e1, ef, _⟩ := K1.out.2.1
    obtain ⟨f0, f1, f2, ff, _⟩ := K1.out.2.2
    go_wp2_with fail
    refine (HT.out y 0 s _).mono ?_
    rintro r w2 ⟨rfl, rfl⟩
    rw [h1]
    go_wp2_with fail
    go_ret
    exact ⟨rfl, K1.out.1⟩
  have HTM : Hid (waitsB l = false → blkC y l s c t = 3) := fun h => blkC_range h0 h1 h2 h
  have HSM : Hid (waitsB l = true → nodupW l = false → blkC y l s c t = 6) := fun h h3 => blkC_taken h0 h1 h2 h h3
  have HOK : Hid (waitsB l = true → nodupW l = true → blkC y l s c t = 0) := fun h h3 => blkC_ok h0 h1 h2 h h3
  have hl8 : l.length ≤ 8 := by have := (lanesB_of h0).2.1; omega
  generalize hn : l.length = n at *
  have HN : Hid (l.length = n) := hn
  clear hn
  generalize blkC y l s c t = q at *
  go_enter Try.func12, Try.ntmps12
  go_wp2_with fail
  rw [← HW.out]
  refine (HL.out _).mono ?_
  rintro r w1 ⟨rfl, hb1⟩
  have K1 : Hid (Below w.heap.size w w1 ∧ D2 w1 w.heap.size (.int .i64 y) (.slice a n cap) ∧ D3 w1 (w.heap.size + 1) (.int .i64 s) (.int .i64 c) (.int .i64 t)) := ⟨K0.out.1.trans (hb1.mono K0.out.1.size), K0.out.2.1.keep hb1, K0.out.2.2.keep hb1⟩
  clear K0 hb1 HW HL
  obtain ⟨e0, e1, ef, _⟩ := K1.out.2.1
  obtain ⟨f0, f1, f2, ff, _⟩ := K1.out.2.2
  go_wp2_with fail
  refine (HT.out y 0 s _).mono ?_
  rintro r w2 ⟨rfl, rfl⟩
  rw [h1]
  go_wp2_with fail
  clear e0 e1 ef f0 f1 f2 ff h0 h1 h2
  go_loopw [6] (fun i wr => ∃ k : Nat, k ≤ n ∧ i = .int .i64 k ∧ (∀ (j : Nat) x, j < k → l[j]? = some x → waitB x = true) ∧ Below w.heap.size w wr ∧ D2 wr w.heap.size (.int .i64 y) (.slice a n cap) ∧ D3 wr (w.heap.size + 1) (.int .i64 s) (.int .i64 c) (.int .i64 t)) (fun i _ => n - (intOf i).toNat)
  case atStart => exact ⟨0, Nat.zero_le _, rfl, fun j x h => by omega, K1.out⟩
  case round =>
    obtain ⟨k, hk, rfl, ht, hS⟩ := hrel
    have HTT : Hid (∀ (j : Nat) x, j < k → l[j]? = some x → waitB x = true) := ht
    have HS2 : Hid (Below w.heap.size w wr ∧ D2 wr w.heap.size (.int .i64 y) (.slice a n cap) ∧ D3 wr (w.heap.size + 1) (.int .i64 s) (.int .i64 c) (.int .i64 t)) := hS
    clear ht hS K1
    obtain ⟨e0, e1, ef, _⟩ := HS2.out.2.1
    by_cases hlt : k < n
    · obtain ⟨r, hr⟩ : ∃ r, l[k]? = some r := ⟨l[k]'(by have := HN.out; omega), List.getElem?_eq_getElem _⟩
      rcases (HI.out.keep HS2.out.1) with h | ⟨b, off, rfl, hat⟩
      · subst h; simp at hr
      obtain ⟨p0, p1⟩ := hat k r hr
      have g : (k : Int) < n := by omega
      have HX : Hid (waitB r = false → q = 3) := fun h => HTM.out (waitsB_no hr h)
      have HY : Hid (waitB r = true → ∀ (j : Nat) x, j < k + 1 → l[j]? = some x → waitB x = true) := fun hx j x hj hjx => by
        by_cases e : j = k
        · subst e; rw [hr] at hjx; obtain rfl := Option.some.inj hjx; exact hx
        · exact HTT.out j x (by omega) hjx
      have hwb : waitB r = (timeB r.wi && timeB r.du) := rfl
      clear hat hr HTT
      generalize waitB r = wb at *
      generalize r.wi = ri at *
      generalize r.du = rd at *
      cases hx1 : timeB ri
      · have HE : Hid (q = 3) := HX.out (by rw [hwb, hx1]; rfl)
        clear HX HY hwb
        go_wp2_with fail
        refine (HU.out _ _).mono ?_
        rintro e w2 ⟨rfl, rfl⟩
        rw [hx1]
        go_wp2_with fail
        go_ret
        exact ⟨ret_int HE.out.symm, HS2.out.1⟩
      · cases hx2 : timeB rd
        · have HE : Hid (q = 3) := HX.out (by rw [hwb, hx1, hx2]; rfl)
          clear HX HY hwb
          go_wp2_with fail
          refine (HU.out _ _).mono ?_
          rintro e w2 ⟨rfl, rfl⟩
          rw [hx1]
          go_wp2_with fail
          refine (HU.out _ _).mono ?_
          rintro e w2 ⟨rfl, rfl⟩
          rw [hx2]
          go_wp2_with fail
          go_ret
          exact ⟨ret_int HE.out.symm, HS2.out.1⟩
        · have HT3 := hid11 (HY.out (by rw [hwb, hx1, hx2]; rfl))
          clear HX HY hwb
          go_wp2_with fail
          refine (HU.out _ _).mono ?_
          rintro e w2 ⟨rfl, rfl⟩
          rw [hx1]
          go_wp2_with fail
          refine (HU.out _ _).mono ?_
          rintro e w2 ⟨rfl, rfl⟩
          rw [hx2]
          go_wp2_with fail
          go_roundw
          case rel => exact ⟨k + 1, by omega, by go_num, HT3.out, HS2.out⟩
          case measure => simp [intOf]; omega
    · have hTM : waitsB l = true := (waitsB_iff l).2 fun i x hx => HTT.out i x (by have := (List.getElem?_eq_some_iff.1 hx).1; have := HN.out; omega) hx
      have HSM2 : Hid (nodupW l = false → q = 6) := HSM.out hTM
      have HOK2 : Hid (nodupW l = true → q = 0) := HOK.out hTM
      clear hTM HTT HTM HSM HOK
      go_wp2_with fail
      clear e0 e1 ef
      go_loopw [7] (fun i wr => ∃ k : Nat, k ≤ n ∧ i = .int .i64 k ∧ (∀ (i j : Nat) x y, i < k → j < i → l[i]? = some x → l[j]? = some y → x.wi ≠ y.wi) ∧ Below w.heap.size w wr ∧ D2 wr w.heap.size (.int .i64 y) (.slice a n cap) ∧ D3 wr (w.heap.size + 1) (.int .i64 s) (.int .i64 c) (.int .i64 t)) (fun i _ => n - (intOf i).toNat)
      case atStart => exact ⟨0, Nat.zero_le _, rfl, fun i j x y h => by omega, HS2.out⟩
      case round =>
        obtain ⟨k, hk2, rfl, ht, hS⟩ := hrel
        clear HS2
        have HTT : Hid (∀ (i j : Nat) x y, i < k → j < i → l[i]? = some x → l[j]? = some y → x.wi ≠ y.wi) := ht
        have HS3 : Hid (Below w.heap.size w wr ∧ D2 wr w.heap.size (.int .i64 y) (.slice a n cap) ∧ D3 wr (w.heap.size + 1) (.int .i64 s) (.int .i64 c) (.int .i64 t)) := hS
        clear ht hS
        obtain ⟨e0, e1, ef, _⟩ := HS3.out.2.1
        by_cases hlt : k < n
        · have g : (k : Int) < n := by omega
          go_wp2_with fail
          clear e0 e1 ef
          go_loopw [8] (fun i wr => ∃ m : Nat, m ≤ k ∧ i = .int .i64 m ∧ (∀ (j : Nat) x y, j < m → l[k]? = some x → l[j]? = some y → x.wi ≠ y.wi) ∧ Below w.heap.size w wr ∧ D2 wr w.heap.size (.int .i64 y) (.slice a n cap) ∧ D3 wr (w.heap.size + 1) (.int .i64 s) (.int .i64 c) (.int .i64 t)) (fun i _ => k - (intOf i).toNat)
          case atStart => exact ⟨0, Nat.zero_le _, rfl, fun j x y h => by omega, HS3.out⟩
          case round =>
            obtain ⟨m, hm, rfl, ht, hS⟩ := hrel
            clear HS3
            have HTU : Hid (∀ (j : Nat) x y, j < m → l[k]? = some x → l[j]? = some y → x.wi ≠ y.wi) := ht
            have HS4 : Hid (Below w.heap.size w wr ∧ D2 wr w.heap.size (.int .i64 y) (.slice a n cap) ∧ D3 wr (w.heap.size + 1) (.int .i64 s) (.int .i64 c) (.int .i64 t)) := hS
            clear ht hS
            by_cases hmk : m < k
            · obtain ⟨x, hx⟩ : ∃ r, l[k]? = some r := ⟨l[k]'(by have := HN.out; omega), List.getElem?_eq_getElem _⟩
              obtain ⟨z, hz⟩ : ∃ r, l[m]? = some r := ⟨l[m]'(by have := HN.out; omega), List.getElem?_eq_getElem _⟩
              rcases (HI.out.keep HS4.out.1) with h | ⟨b, off, rfl, hat⟩
              · subst h; simp at hx
              obtain ⟨p0, _⟩ := hat k x hx
              obtain ⟨q0, _⟩ := hat m z hz
              have P0 := cell_regrown p0
              have Q0 := cell_regrown q0
              have C1 := cell_regrown HS4.out.2.1.c1
              have g1 : (m : Int) < k := by omega
              have g2 : (m : Int) < n := by omega
              have g3 : (0 : Int) ≤ k := by omega
              have g4 : (0 : Int) ≤ m := by omega
              by_cases hxz : x.wi = z.wi
              · have HE : Hid (q = 6) := HSM2.out (nodupW_no hmk hx hz hxz)
                clear hat hx hz p0 q0 HTT HTU HSM2 HOK2 HI
                rw [hxz] at P0
                clear hxz
                generalize z.wi = xt at *
                go_wp2_with fail
                refine wp_region_quiet_below (by kernel_rfl) (by kernel_rfl) ?_
                repeat (go_big_quiet_step (fail))
                refine wpQuiet_nil ?_
                intro w2 hw2
                have hbb : Below w.heap.size w w2 := by
                  obtain ⟨⟨d, os⟩, rfl⟩ := hw2
                  exact HS4.out.1.trans ((below_regrown wr d os).mono HS4.out.1.size)
                clear P0 Q0 C1 hw2
                go_wp2_with fail
                go_ret
                exact ⟨ret_int HE.out.symm, hbb⟩
              · have HT3 : Hid (∀ (j : Nat) x y, j < m + 1 → l[k]? = some x → l[j]? = some y → x.wi ≠ y.wi) := by
                  intro j u v hj hju hjv
                  by_cases e : j = m
                  · subst e
                    rw [hx] at hju; rw [hz] at hjv
                    obtain rfl := Option.some.inj hju
                    obtain rfl := Option.some.inj hjv
                    exact hxz
                  · exact HTU.out j u v (by omega) hju hjv
                have hne : (x.wi == z.wi) = false := by simpa using hxz
                clear hat hx hz p0 q0 HTU
                generalize x.wi = xt at *
                generalize z.wi = yt at *
                go_wp2_with fail
                refine wp_region_quiet_below (by kernel_rfl) (by kernel_rfl) ?_
                repeat (go_big_quiet_step (fail))
                refine wpQuiet_nil ?_
                intro w2 hw2
                have hbb : Below w.heap.size w w2 ∧ D2 w2 w.heap.size (.int .i64 y) (.slice (some ⟨b, off, none⟩) n cap) ∧ D3 w2 (w.heap.size + 1) (.int .i64 s) (.int .i64 c) (.int .i64 t) := by
                  obtain ⟨⟨d, os⟩, rfl⟩ := hw2
                  exact ⟨HS4.out.1.trans ((below_regrown wr d os).mono HS4.out.1.size), HS4.out.2.1.keep (below_regrown wr d os), HS4.out.2.2.keep (below_regrown wr d os)⟩
                have HBB := hid11 hbb
                clear P0 Q0 C1 hw2 hbb
                go_wp2_with fail
                go_roundw
                case rel => exact ⟨m + 1, by omega, by go_num, HT3.out, HBB.out⟩
                case measure => simp [intOf]; omega
            · have HT4 : Hid (∀ (i j : Nat) x y, i < k + 1 → j < i → l[i]? = some x → l[j]? = some y → x.wi ≠ y.wi) := by
                intro i j x y hik hji hx hy
                by_cases e : i = k
                · subst e; exact HTU.out j x y (by omega) hx hy
                · exact HTT.out i j x y (by omega) hji hx hy
              have gm : ¬ (m : Int) < k := by omega
              clear HTU HTT
              go_wp2_with fail
              go_roundw
              case rel => exact ⟨k + 1, by omega, by go_num, HT4.out, HS4.out⟩
              case measure => simp [intOf]; omega
        · have HE : Hid (q = 0) := HOK2.out ((nodupW_iff l).2 fun i j x y hji hx hy => HTT.out i j x y (by have := (List.getElem?_eq_some_iff.1 hx).1; have := HN.out; omega) hji hx hy)
          have g : ¬ (k : Int) < n := by omega
          clear HTT HSM2 HOK2
          go_wp2_with fail
          go_ret
          exact ⟨ret_int HE.out.symm, HS3.out.1⟩
end Go.Proofs.Ytmgidcigihpbeaa
/-
  EnterBulk, by the model: the queue that it hands back lies in a row of its own.
-/
namespace Go.Proofs.Ytmgidcigihpbeaa
open Go.ChangeShapes Go.WideShapes Go.ChangeAt Go.RowKit Go.Sort
theorem OwnWt.gwX {g : Nat} {w w' : World} {base : Nat} {v : Value} {l : List Wt} (h : OwnWt w base v l) (k : w.grownBy w' (some g)) (hne : ∀ G, v.ownBlock = some G → G ≠ g) : OwnWt w' base v l := World.ownsRow.kept h k (by
  cases e : v.ownBlock with
  | none => exact .inl rfl
  | some q => right; intro e2; exact hne q e (Option.some.inj e2))
def EnResO (w : World) (base : Nat) (q : EnQ) (e : Ending) : Prop := ∃ a cp, e = .returned (.agg #[.int .i64 q.c, .int .i64 q.y, .slice a q.l.length cp, .bool q.u]) ∧ OwnWt w base (.slice a q.l.length cp) q.l ∧ q.l.length ≤ cp
theorem EnResO.mk {w : World} {base : Nat} {q : EnQ} {c0 y : Int} {a : Option Addr} {n cp : Nat} {l : List Wt} {u : Bool} (h : q = ⟨c0, y, l, u⟩) (hn : l.length = n) (hm : OwnWt w base (.slice a n cp) l) (hc : n ≤ cp) : EnResO w base q (.returned (.agg #[.int .i64 c0, .int .i64 y, .slice a n cp, .bool u])) := by
  subst h; subst hn
  exact ⟨a, cp, rfl, hm, hc⟩
set_option linter.unusedSimpArgs false in
set_option maxRecDepth 100000 in
set_option maxHeartbeats 16000000 in
theorem specEnterO_any (w : World) (y : Int) (a : Option Addr) (cap : Nat) (l : List Wt) (s c t x now : Int) (hl : l.length ≤ 1048576) (hi : WtIn w a l) :
    Calls Try.prog 10 #[.agg #[.int .i64 y, .slice a l.length cap], .agg #[.int .i64 s, .int .i64 c, .int .i64 t], .int .i64 x, .int .i64 now] w fun e w' => EnResO w' w.heap.size (enterR y l s c t x now) e ∧ Below w.heap.size w w' := by
  obtain ⟨W, hW⟩ : ∃ W, W = ((w.alloc (.cells #[.int .i64 y, .slice a l.length cap] 26)).alloc (.cells #[.int .i64 s, .int .i64 c, .int .i64 t] 28)).alloc (.cells #[.int .i64 0, .int .i64 0, .slice none 0 0, .bool false] 32) := ⟨_, rfl⟩
  have HW : Hid (W = ((w.alloc (.cells #[.int .i64 y, .slice a l.length cap] 26)).alloc (.cells #[.int .i64 s, .int .i64 c, .int .i64 t] 28)).alloc (.cells #[.int .i64 0, .int .i64 0, .slice none 0 0, .bool false] 32)) := hW
  have K0 : Hid ((Below w.heap.size w W ∧ D2 W w.heap.size (.int .i64 y) (.slice a l.length cap) ∧ D3 W (w.heap.size + 1) (.int .i64 s) (.int .i64 c) (.int .i64 t) ∧ D4 W (w.heap.size + 2) (.int .i64 0) (.int .i64 0) (.slice none 0 0) (.bool false)) ∧ W.heap.size = w.heap.size + 3) := by
    have h1 := D2.new w (.int .i64 y) (.slice a l.length cap) 26
    obtain ⟨W1, hW1⟩ : ∃ W1, W1 = w.alloc (.cells #[.int .i64 y, .slice a l.length cap] 26) := ⟨_, rfl⟩
    rw [← hW1] at h1 hW
    have e1 : W1.heap.size = w.heap.size + 1 := by rw [hW1]; simp
    have b1 : Below w.heap.size w W1 := by rw [hW1]; exact (Below.refl _ _).alloc (Nat.le_refl _) _
    have h2 := D3.new W1 (.int .i64 s) (.int .i64 c) (.int .i64 t) 28
    obtain ⟨W2, hW2⟩ : ∃ W2, W2 = W1.alloc (.cells #[.int .i64 s, .int .i64 c, .int .i64 t] 28) := ⟨_, rfl⟩
    rw [← hW2] at h2 hW
    have e2 : W2.heap.size = w.heap.size + 2 := by rw [hW2]; simp [e1]
    have b2 : Below W1.heap.size W1 W2 := by rw [hW2]; exact (Below.refl _ _).alloc (Nat.le_refl _) _
    have b3 : Below W2.heap.size W2 W := by rw [hW]; exact (Below.refl _ _).alloc (Nat.le_refl _) _
    have h3 := D4.new W2 (.int .i64 0) (.int .i64 0) (.slice none 0 0) (.bool false) 32
    rw [← hW] at h3
    rw [e1] at h2
    rw [e2] at h3
    have b13 := b2.trans (b3.mono b2.size)
    exact ⟨⟨b1.trans (b13.mono b1.size), h1.keep b13, h2.keep b3, h3⟩, by rw [hW]; simp [e2]⟩
  have HA : Hid (Calls Try.prog 12 #[.agg #[.int .i64 y, .slice a l.length cap], .agg #[.int .i64 s, .int .i64 c, .int .i64 t]] W fun e w' => e = .returned (.int .i64 (blkC y l s c t)) ∧ Below W.heap.size W w') := specBlk_any y a cap l s c t W (hi.keep K0.out.1.1)
  have HU : Hid (∀ x w, Calls Try.prog 46 #[.int .i64 x] w fun r w' => r = .returned (.bool (timeB x)) ∧ w' = w) := l1Time_all
  have HFD : Hid (∀ X, (Below w.heap.size w X ∧ D2 X w.heap.size (.int .i64 y) (.slice a l.length cap) ∧ D3 X (w.heap.size + 1) (.int .i64 s) (.int .i64 c) (.int .i64 t) ∧ D4 X (w.heap.size + 2) (.int .i64 0) (.int .i64 0) (.slice none 0 0) (.bool false)) → Calls Try.prog 47 #[.pointer (some ⟨w.heap.size, 0, none⟩), .int .i64 x] X fun e w' => FindB l x e ∧ w' = X) := fun X hX => specFindB_any X w.heap.size y a cap l x hl hX.2.1 (hi.keep hX.1)
  have HC : Hid (∀ X, (Below w.heap.size w X ∧ D2 X w.heap.size (.int .i64 y) (.slice a l.length cap) ∧ D3 X (w.heap.size + 1) (.int .i64 s) (.int .i64 c) (.int .i64 t) ∧ D4 X (w.heap.size + 2) (.int .i64 0) (.int .i64 0) (.slice none 0 0) (.bool false)) → Calls Try.prog 48 #[.pointer (some ⟨w.heap.size, 0, none⟩)] X fun e w' => CopyB w' X.heap.size y l e ∧ Below X.heap.size X w') := fun X hX => specCopyB_any X w.heap.size y a cap l hl hX.2.1 (hi.keep hX.1)
  have HAD : Hid (0 ≤ now ∧ now ≤ 1000000000000000 → 0 ≤ t ∧ t ≤ 1000000 → ∀ X, Calls Try.prog 49 #[.int .i64 now, .int .i64 t] X fun r w' => r = .returned (.int .i64 (addT now t)) ∧ w' = X) := fun h1 h2 X => l1Add_all now t h1 ⟨h2.1, by omega⟩ X
  have HG : Hid (blkC y l s c t = 0 → GoodB y l s c t) := goodB_of
  have H1 : Hid (¬ blkC y l s c t = 0 → enterR y l s c t x now = ⟨blkC y l s c t, 0, [], false⟩) := enter_bad
  have H2 : Hid (blkC y l s c t = 0 → (timeB x && timeB now) = false → enterR y l s c t x now = ⟨3, 0, [], false⟩) := enter_range
  have H3 : Hid (blkC y l s c t = 0 → (timeB x && timeB now) = true → hasW l x = true → enterR y l s c t x now = ⟨6, 0, [], false⟩) := enter_taken
  have H4 : Hid (blkC y l s c t = 0 → (timeB x && timeB now) = true → hasW l x = false → y < s → enterR y l s c t x now = ⟨0, y + 1, l, true⟩) := enter_start
  have H5 : Hid (blkC y l s c t = 0 → (timeB x && timeB now) = true → hasW l x = false → ¬ y < s → c ≤ (l.length : Int) → enterR y l s c t x now = ⟨7, 0, [], false⟩) := enter_full
  have H6 : Hid (blkC y l s c t = 0 → (timeB x && timeB now) = true → hasW l x = false → ¬ y < s → ¬ c ≤ (l.length : Int) → enterR y l s c t x now = ⟨0, y, l ++ [⟨x, addT now t⟩], false⟩) := enter_wait
  clear hi hW
  generalize enterR y l s c t x now = q at *
  generalize blkC y l s c t = qc at *
  generalize hn : l.length = n at *
  have HN : Hid (l.length = n) := hn
  clear hn
  go_enter Try.func10, Try.ntmps10
  go_wp2_with fail
  rw [← HW.out]
  refine HA.out.mono ?_
  rintro e w1 ⟨rfl, hb1⟩
  have K0' : Hid ((Below w.heap.size w W ∧ D2 W w.heap.size (.int .i64 y) (.slice a n cap) ∧ D3 W (w.heap.size + 1) (.int .i64 s) (.int .i64 c) (.int .i64 t) ∧ D4 W (w.heap.size + 2) (.int .i64 0) (.int .i64 0) (.slice none 0 0) (.bool false)) ∧ w.heap.size + 3 ≤ W.heap.size) := ⟨K0.out.1, Nat.le_of_eq K0.out.2.symm⟩
  have K1 : Hid ((Below w.heap.size w w1 ∧ D2 w1 w.heap.size (.int .i64 y) (.slice a n cap) ∧ D3 w1 (w.heap.size + 1) (.int .i64 s) (.int .i64 c) (.int .i64 t) ∧ D4 w1 (w.heap.size + 2) (.int .i64 0) (.int .i64 0) (.slice none 0 0) (.bool false)) ∧ w.heap.size + 3 ≤ w1.heap.size) := ⟨⟨K0'.out.1.1.trans (hb1.mono K0'.out.1.1.size), K0'.out.1.2.1.keep hb1, K0'.out.1.2.2.1.keep hb1, K0'.out.1.2.2.2.keep hb1⟩, Nat.le_trans K0'.out.2 hb1.size⟩
  clear hb1 K0 K0' HW HA
  by_cases hc : qc = 0
  rotate_left
  · have n0 : (qc != 0) = true := by simpa using hc
    have HE := hid11 (H1.out hc)
    clear H1 H2 H3 H4 H5 H6 HG HC HFD HAD HU
    obtain ⟨r0, r1, r2, r3, rf, _⟩ := K1.out.1.2.2.2
    go_wp2_with fail
    exact bodyPost_ret (v := .agg #[.int .i64 qc, .int .i64 0, .slice none 0 0, .bool false]) (by simp [results, Try.results10, go_sem, r0, r1, r2, r3]) rfl ⟨EnResO.mk HE.out rfl (OwnWt.none0 _ _) (by simp), ((((K1.out.1.1.setCell (by simp <;> omega) _).setCell (by simp <;> omega) _).setCell (by simp <;> omega) _).setCell (by simp <;> omega) _)⟩
  subst hc
  have hg := HG.out (by trivial)
  obtain ⟨hs, hcc, ht, hy, hln, _, _⟩ := hg
  rw [HN.out] at hln
  have HADD := hid11 (fun h => HAD.out h ht)
  clear HG HAD H1
  cases hx1 : timeB x
  · have HE := hid11 (H2.out (by trivial) (by rw [hx1]; rfl))
    clear H2 H3 H4 H5 H6 HC HFD HADD
    go_wp2_with fail
    refine (HU.out x _).mono ?_
    rintro e w2 ⟨rfl, rfl⟩
    rw [hx1]
    obtain ⟨r0, r1, r2, r3, rf, _⟩ := K1.out.1.2.2.2
    go_wp2_with fail
    exact bodyPost_ret (v := .agg #[.int .i64 3, .int .i64 0, .slice none 0 0, .bool false]) (by simp [results, Try.results10, go_sem, r0, r1, r2, r3]) rfl ⟨EnResO.mk HE.out rfl (OwnWt.none0 _ _) (by simp), ((((K1.out.1.1.setCell (by simp <;> omega) _).setCell (by simp <;> omega) _).setCell (by simp <;> omega) _).setCell (by simp <;> omega) _)⟩
  cases hx2 : timeB now
  · have HE := hid11 (H2.out (by trivial) (by rw [hx1, hx2]; rfl))
    clear H2 H3 H4 H5 H6 HC HFD HADD
    go_wp2_with fail
    refine (HU.out x _).mono ?_
    rintro e w2 ⟨rfl, rfl⟩
    rw [hx1]
    go_wp2_with fail
    refine (HU.out now _).mono ?_
    rintro e w2 ⟨rfl, rfl⟩
    rw [hx2]
    obtain ⟨r0, r1, r2, r3, rf, _⟩ := K1.out.1.2.2.2
    go_wp2_with fail
    exact bodyPost_ret (v := .agg #[.int .i64 3, .int .i64 0, .slice none 0 0, .bool false]) (by simp [results, Try.results10, go_sem, r0, r1, r2, r3]) rfl ⟨EnResO.mk HE.out rfl (OwnWt.none0 _ _) (by simp), ((((K1.out.1.1.setCell (by simp <;> omega) _).setCell (by simp <;> omega) _).setCell (by simp <;> omega) _).setCell (by simp <;> omega) _)⟩
  have HT12 : (timeB x && timeB now) = true := by rw [hx1, hx2]; rfl
  go_wp2_with fail
  refine (HU.out x _).mono ?_
  rintro e w2 ⟨rfl, rfl⟩
  rw [hx1]
  go_wp2_with fail
  refine (HU.out now _).mono ?_
  rintro e w2 ⟨rfl, rfl⟩
  rw [hx2]
  go_wp2_with fail
  refine (HFD.out _ K1.out.1).mono ?_
  rintro e w3 ⟨hfd, rfl⟩
  clear HFD
  rcases hfd with ⟨k, rfl, hk, hh⟩ | ⟨rfl, hh⟩
  · have HE := hid11 (H3.out (by trivial) HT12 hh)
    have gk : (0 : Int) ≤ k := by omega
    clear H2 H3 H4 H5 H6 HC HADD HU hh
    obtain ⟨r0, r1, r2, r3, rf, _⟩ := K1.out.1.2.2.2
    go_wp2_with fail
    exact bodyPost_ret (v := .agg #[.int .i64 6, .int .i64 0, .slice none 0 0, .bool false]) (by simp [results, Try.results10, go_sem, r0, r1, r2, r3]) rfl ⟨EnResO.mk HE.out rfl (OwnWt.none0 _ _) (by simp), ((((K1.out.1.1.setCell (by simp <;> omega) _).setCell (by simp <;> omega) _).setCell (by simp <;> omega) _).setCell (by simp <;> omega) _)⟩
  have HH4 := hid11 (H4.out (by trivial) HT12 hh)
  have HH5 := hid11 (H5.out (by trivial) HT12 hh)
  have HH6 := hid11 (H6.out (by trivial) HT12 hh)
  have HTN := hid11 (timeB_of hx2)
  clear H2 H3 H4 H5 H6 hh HU hx1 hx2 HT12
  go_wp2_with fail
  refine (HC.out _ K1.out.1).mono ?_
  rintro e w4 ⟨⟨va, vc, rfl, ho⟩, hb4⟩
  rw [HN.out] at ho ⊢
  have K2 : Hid ((Below w.heap.size w w4 ∧ D2 w4 w.heap.size (.int .i64 y) (.slice a n cap) ∧ D3 w4 (w.heap.size + 1) (.int .i64 s) (.int .i64 c) (.int .i64 t) ∧ D4 w4 (w.heap.size + 2) (.int .i64 0) (.int .i64 0) (.slice none 0 0) (.bool false)) ∧ w.heap.size + 3 ≤ w4.heap.size) := ⟨⟨K1.out.1.1.trans (hb4.mono K1.out.1.1.size), K1.out.1.2.1.keep hb4, K1.out.1.2.2.1.keep hb4, K1.out.1.2.2.2.keep hb4⟩, Nat.le_trans K1.out.2 hb4.size⟩
  obtain ⟨bs, hbs⟩ : ∃ b, w3.heap.size = b := ⟨_, rfl⟩
  rw [hbs] at ho
  have HB : Hid (w.heap.size + 3 ≤ bs ∧ bs ≤ w4.heap.size) := ⟨by rw [← hbs]; exact K1.out.2, by rw [← hbs]; exact hb4.size⟩
  have HO := hid11 ho
  have HNE : Hid (∀ q, (Value.slice va n vc).ownBlock = some q → bs ≤ q ∧ q < w4.heap.size) := fun q hq => World.ownsRow.lt ho q hq
  clear ho hb4 hbs K1 HC
  obtain ⟨V, hV⟩ : ∃ V, V = w4.alloc (.cells #[.int .i64 y, .slice va n vc] 26) := ⟨_, rfl⟩
  have HV : Hid (V = w4.alloc (.cells #[.int .i64 y, .slice va n vc] 26)) := hV
  have bV : Below w4.heap.size w4 V := by rw [hV]; exact (Below.refl _ _).alloc (Nat.le_refl _) _
  have oV : D2 V w4.heap.size (.int .i64 y) (.slice va n vc) := by rw [hV]; exact D2.new w4 _ _ _
  have K3 : Hid ((Below w.heap.size w V ∧ D2 V w.heap.size (.int .i64 y) (.slice a n cap) ∧ D3 V (w.heap.size + 1) (.int .i64 s) (.int .i64 c) (.int .i64 t) ∧ D4 V (w.heap.size + 2) (.int .i64 0) (.int .i64 0) (.slice none 0 0) (.bool false)) ∧ w.heap.size + 3 ≤ V.heap.size) := ⟨⟨K2.out.1.1.trans (bV.mono K2.out.1.1.size), K2.out.1.2.1.keep bV, K2.out.1.2.2.1.keep bV, K2.out.1.2.2.2.keep bV⟩, Nat.le_trans K2.out.2 bV.size⟩
  have HOV := hid11 (HO.out.below bV)
  have HSZ : Hid (V.heap.size = w4.heap.size + 1) := by show _ = _; rw [hV]; simp
  obtain ⟨O, hO⟩ : ∃ b, w4.heap.size = b := ⟨_, rfl⟩
  rw [hO] at oV HB HSZ HNE
  have HOX := hid11 oV
  clear bV hV K2 HO oV
  obtain ⟨e0, e1, ef, _⟩ := K3.out.1.2.1
  obtain ⟨f0, f1, f2, ff, _⟩ := K3.out.1.2.2.1
  obtain ⟨o0, o1, of, _⟩ := HOX.out
  go_upto_region 9 with fail
  rw [← HV.out]
  clear HV hO
  have ne1 : ¬ O = w.heap.size + 1 + 1 := by have := HB.out; omega
  have ne2 : ¬ w.heap.size + 1 + 1 = O := by have := HB.out; omega
  have ne3 : ¬ O = w.heap.size + 2 := by have := HB.out; omega
  have ne4 : ¬ w.heap.size + 2 = O := by have := HB.out; omega
  by_cases hys : y < s
  · have HE := hid11 (HH4.out hys)
    have wy : IntKind.i64.wrap (y + 1) = y + 1 := by rw [IntKind.wrap_i64]; omega
    obtain ⟨r0, r1, r2, r3, rf, _⟩ := K3.out.1.2.2.2
    have HNW : Hid (∀ x0 y0 y1 y2 y3, OwnWt (((((V.setCell ⟨O, 0, none⟩ x0).setCell ⟨w.heap.size + 2, 0, none⟩ y0).setCell ⟨w.heap.size + 2, 1, none⟩ y1).setCell ⟨w.heap.size + 2, 2, none⟩ y2).setCell ⟨w.heap.size + 2, 3, none⟩ y3) w.heap.size (.slice va n vc) l) := fun x0 y0 y1 y2 y3 => by
      have hh := HB.out
      refine OwnWt.lower ?_ (Nat.le_trans (Nat.le_add_right _ 3) hh.1)
      refine OwnWt.gw (g := w.heap.size + 2) ?_ (gwSet _ _ _ _) (by omega)
      refine OwnWt.gw (g := w.heap.size + 2) ?_ (gwSet _ _ _ _) (by omega)
      refine OwnWt.gw (g := w.heap.size + 2) ?_ (gwSet _ _ _ _) (by omega)
      refine OwnWt.gw (g := w.heap.size + 2) ?_ (gwSet _ _ _ _) (by omega)
      exact OwnWt.gwX (g := O) HOV.out (gwSet _ _ _ _) (fun G hG => by have := HNE.out G hG; omega)
    have HCP := hid11 HOV.out.cap
    have HOW : Hid (w.heap.size ≤ O) := by show _ ≤ _; have := HB.out; omega
    clear HH4 HH5 HH6 HADD HTN HNE HOV HOX
    go_wp2_with fail
    exact bodyPost_ret (v := .agg #[.int .i64 0, .int .i64 (y + 1), .slice va n vc, .bool true]) (by simp [results, Try.results10, go_sem, r0, r1, r2, r3]) rfl ⟨EnResO.mk HE.out HN.out (HNW.out _ _ _ _ _) HCP.out, (((((K3.out.1.1.setCell HOW.out _).setCell (by simp <;> omega) _).setCell (by simp <;> omega) _).setCell (by simp <;> omega) _).setCell (by simp <;> omega) _)⟩
  by_cases hcn : c ≤ (n : Int)
  · have HE := hid11 (HH5.out (by omega) (by omega))
    obtain ⟨r0, r1, r2, r3, rf, _⟩ := K3.out.1.2.2.2
    clear HH4 HH5 HH6 HADD HTN HNE HOV HOX
    go_wp2_with fail
    exact bodyPost_ret (v := .agg #[.int .i64 7, .int .i64 0, .slice none 0 0, .bool false]) (by simp [results, Try.results10, go_sem, r0, r1, r2, r3]) rfl ⟨EnResO.mk HE.out rfl (OwnWt.none0 _ _) (by simp), ((((K3.out.1.1.setCell (by simp <;> omega) _).setCell (by simp <;> omega) _).setCell (by simp <;> omega) _).setCell (by simp <;> omega) _)⟩
  have HE := hid11 (HH6.out (by omega) (by omega))
  have CAD := hid11 (HADD.out HTN.out)
  clear HH4 HH5 HH6 HADD HTN
  generalize addT now t = due at *
  have HKS : Hid (∀ X, Below V.heap.size V X → (fun X : World => X.cell? ⟨O, 1, none⟩ = some (.slice va n vc) ∧ X.cell? ⟨w.heap.size + 1, 2, none⟩ = some (.int .i64 t)) X) := fun X hb => ⟨(HOX.out.keep hb).c1, (K3.out.1.2.2.1.keep hb).c2⟩
  have B0 : Hid (Below V.heap.size V V.drew) := (Below.refl _ _).drew
  have HS0 := hid11 (HKS.out _ B0.out)
  go_wp2_with fail
  clear e0 e1 ef f0 f1 f2 ff o0 o1 of
  refine wp_region_last (fun X : World => X.cell? ⟨O, 1, none⟩ = some (.slice va n vc) ∧ X.cell? ⟨w.heap.size + 1, 2, none⟩ = some (.int .i64 t)) 11 (by kernel_rfl) ?_
  refine butLast_take (i := 0) (v := .pointer (some ⟨O, 1, none⟩)) rfl (by kernel_rfl) (by kernel_rfl) (by kernel_rfl) (by kernel_rfl) (fun _ _ _ h => h) (Or.inl ⟨by kernel_rfl, ?_⟩) HS0.out ?_
  · rintro X ⟨s1, s2⟩
    go_simp
  try simp only [Act.put, List.setIfInBounds_toArray, List.set_cons_zero, List.set_cons_succ]
  refine butLast_take (i := 1) (v := .slice va n vc) rfl (by kernel_rfl) (by kernel_rfl) (by kernel_rfl) (by kernel_rfl) (fun _ _ _ h => h) (Or.inl ⟨by kernel_rfl, ?_⟩) HS0.out ?_
  · rintro X ⟨s1, s2⟩
    go_simp
  try simp only [Act.put, List.setIfInBounds_toArray, List.set_cons_zero, List.set_cons_succ]
  refine butLast_take (i := 2) (v := .int .i64 x) rfl (by kernel_rfl) (by kernel_rfl) (by kernel_rfl) (by kernel_rfl) (fun _ _ _ h => h) (Or.inl ⟨by kernel_rfl, ?_⟩) HS0.out ?_
  · rintro X ⟨s1, s2⟩
    go_simp
  try simp only [Act.put, List.setIfInBounds_toArray, List.set_cons_zero, List.set_cons_succ]
  refine butLast_take (i := 3) (v := .int .i64 now) rfl (by kernel_rfl) (by kernel_rfl) (by kernel_rfl) (by kernel_rfl) (fun _ _ _ h => h) (Or.inl ⟨by kernel_rfl, ?_⟩) HS0.out ?_
  · rintro X ⟨s1, s2⟩
    go_simp
  try simp only [Act.put, List.setIfInBounds_toArray, List.set_cons_zero, List.set_cons_succ]
  refine butLast_take (i := 4) (v := .pointer (some ⟨w.heap.size + 1, 2, none⟩)) rfl (by kernel_rfl) (by kernel_rfl) (by kernel_rfl) (by kernel_rfl) (fun _ _ _ h => h) (Or.inl ⟨by kernel_rfl, ?_⟩) HS0.out ?_
  · rintro X ⟨s1, s2⟩
    go_simp
  try simp only [Act.put, List.setIfInBounds_toArray, List.set_cons_zero, List.set_cons_succ]
  refine butLast_take (i := 5) (v := .int .i64 t) rfl (by kernel_rfl) (by kernel_rfl) (by kernel_rfl) (by kernel_rfl) (fun _ _ _ h => h) (Or.inl ⟨by kernel_rfl, ?_⟩) HS0.out ?_
  · rintro X ⟨s1, s2⟩
    go_simp
  try simp only [Act.put, List.setIfInBounds_toArray, List.set_cons_zero, List.set_cons_succ]
  refine butLast_one (i := 6) rfl (by kernel_rfl) (fun K hK => ?_)
  go_simp
  refine (CAD.out _).mono ?_
  rintro e wa ⟨rfl, rfl⟩
  refine hK _ _ (.inr (HKS.out _ B0.out)) ?_
  clear hK K
  try simp only [Act.put, List.setIfInBounds_toArray, List.set_cons_zero, List.set_cons_succ]
  refine butLast_one (i := 7) rfl (by kernel_rfl) (fun K hK => ?_)
  go_simp
  refine hK _ _ (.inr (HKS.out _ B0.out)) ?_
  clear hK K
  try simp only [Act.put, List.setIfInBounds_toArray, List.set_cons_zero, List.set_cons_succ]
  have B1 : Hid (Below V.heap.size V (V.alloc (.cells #[.int .i64 x, .int .i64 due] 40)).drew) := ((Below.refl _ _).alloc (Nat.le_refl _) _).drew
  refine butLast_one (i := 8) rfl (by kernel_rfl) (fun K hK => ?_)
  go_simp
  refine hK _ _ (.inr (HKS.out _ B1.out)) ?_
  clear hK K
  try simp only [Act.put, List.setIfInBounds_toArray, List.set_cons_zero, List.set_cons_succ]
  obtain ⟨X3, hX3⟩ : ∃ X3, X3 = (V.alloc (.cells #[.int .i64 x, .int .i64 due] 40)).drew := ⟨_, rfl⟩
  have N3 : Hid (X3.cell? ⟨V.heap.size, 0, none⟩ = some (.int .i64 x) ∧ X3.cell? ⟨V.heap.size, 1, none⟩ = some (.int .i64 due)) := by rw [hX3]; exact ⟨by simp, by simp⟩
  rw [← hX3] at B1 ⊢
  clear hX3
  have O3 := hid11 (HOV.out.below B1.out)
  have bs3 : Hid (bs ≤ X3.heap.size) := Nat.le_trans (by have := HB.out; have := HSZ.out; omega) B1.out.size
  refine butLast_one (i := 9) rfl (by kernel_rfl) (fun K hK => ?_)
  refine step_append1Wt X3 (by rfl) _ _ (by rfl) bs _ l ⟨x, due⟩ V.heap.size n HN.out (by rfl) O3.out (by rfl) N3.out.1 N3.out.2 (by omega) bs3.out ?_
  intro g5 vc5 w5 h41 h42 h43
  have hnO : (Value.slice va n vc).ownBlock ≠ some O := fun e => by have := HNE.out O e; omega
  have hgO : g5 ≠ O ∧ bs ≤ g5 := by
    refine ⟨?_, row_ge h41 g5 rfl⟩
    rcases h43 with h43 | h43
    · have := HNE.out g5 h43; omega
    · have := HSZ.out; have := B1.out.size; omega
  have hlow : ∀ b, b < w.heap.size + 3 → (Value.slice va n vc).ownBlock ≠ some b := fun b hb e => by have := HNE.out b e; have := HB.out; omega
  have O5 := (HOX.out.keep B1.out).go h42 hnO
  have R5 := (K3.out.1.2.2.2.keep B1.out).go h42 (hlow _ (by omega))
  have L5 := (K3.out.1.2.2.1.keep B1.out).go h42 (hlow _ (by omega))
  have W5 : Below w.heap.size w w5 := (K3.out.1.1.trans (B1.out.mono K3.out.1.1.size)).trans ⟨h42.os, h42.tape, h42.output, h42.size, fun k hk => h42.block k (Nat.lt_of_lt_of_le hk (K3.out.1.1.trans (B1.out.mono K3.out.1.1.size)).size) (fun e => hlow k (by omega) e.symm)⟩
  have HF5 : Hid (OwnWt w5 bs (.slice (some ⟨g5, 0, none⟩) (n + 1) vc5) (l ++ [⟨x, due⟩]) ∧ Below w.heap.size w w5 ∧ g5 ≠ O) := ⟨h41, W5, hgO.1⟩
  have HL5 : Hid ((l ++ [(⟨x, due⟩ : Wt)]).length = n + 1) := by show _ = _; rw [List.length_append, HN.out]; rfl
  have HS5 := hid11 (show w5.cell? ⟨O, 1, none⟩ = some (.slice va n vc) ∧ w5.cell? ⟨w.heap.size + 1, 2, none⟩ = some (.int .i64 t) from ⟨O5.c1, L5.c2⟩)
  have HO5 := hid11 O5
  have HR5 := hid11 R5
  clear h41 h42 h43 hnO hgO hlow O5 R5 L5 W5 O3 bs3 N3 HOV HNE HSZ HS0 HKS K3 B1 HOX
  refine hK _ _ (.inr HS5.out) ?_
  clear hK K
  try simp only [Act.put, List.setIfInBounds_toArray, List.set_cons_zero, List.set_cons_succ]
  refine butLast_one (i := 10) rfl (by kernel_rfl) (fun K hK => ?_)
  go_simp
  refine hK _ _ (.inr HS5.out) ?_
  clear hK K
  try simp only [Act.put, List.setIfInBounds_toArray, List.set_cons_zero, List.set_cons_succ]
  have y1 := HO5.out.c1
  have yf := HO5.out.fr 1
  obtain ⟨V6, hV6⟩ : ∃ V6, V6 = w5.setCell ⟨O, 1, none⟩ (.slice (some ⟨g5, 0, none⟩) (n + 1) vc5) := ⟨_, rfl⟩
  have O6 : D2 V6 O (.int .i64 y) (.slice (some ⟨g5, 0, none⟩) (n + 1) vc5) := by
    rw [hV6]
    exact ⟨by rw [World.cell?_setCell_other _ _ _ _ (fun e => by have := congrArg Addr.off e; simp at this)]; exact HO5.out.c0, World.cell?_setCell_same _ _ _ y1, fun o => by rw [World.frozen?_setCell]; exact HO5.out.fr o, by simpa using HO5.out.lt⟩
  have R6 := HR5.out.gw (by rw [hV6]; exact gwSet w5 O 1 _ : w5.grownBy V6 (some O)) (fun e => by have := HB.out; omega)
  have W6 : Below w.heap.size w V6 := by rw [hV6]; exact HF5.out.2.1.setCell (by have := HB.out; simp; omega) _
  have M6 : OwnWt V6 bs (.slice (some ⟨g5, 0, none⟩) (n + 1) vc5) (l ++ [⟨x, due⟩]) := HF5.out.1.gwX (by rw [hV6]; exact gwSet w5 O 1 _ : w5.grownBy V6 (some O)) (fun G hG => by simp only [Value.ownBlock, Option.some.injEq] at hG; have := HF5.out.2.2; omega)
  have HV6 := hid11 hV6
  refine butLast_one (i := 11) rfl (by kernel_rfl) (fun K hK => ?_)
  go_simp
  refine hK _ _ (.inl rfl) ?_
  clear hK K
  refine butLast_end (by kernel_rfl) ?_
  rw [← HV6.out]
  have HM6 := hid11 M6
  have HW6 := hid11 W6
  have HC6 := hid11 HF5.out.1.cap
  obtain ⟨o0, o1, of, _⟩ := O6
  obtain ⟨r0, r1, r2, r3, rf, _⟩ := R6
  have HNW : Hid (∀ y0 y1 y2 y3, OwnWt ((((V6.setCell ⟨w.heap.size + 2, 0, none⟩ y0).setCell ⟨w.heap.size + 2, 1, none⟩ y1).setCell ⟨w.heap.size + 2, 2, none⟩ y2).setCell ⟨w.heap.size + 2, 3, none⟩ y3) w.heap.size (.slice (some ⟨g5, 0, none⟩) (n + 1) vc5) (l ++ [⟨x, due⟩])) := fun y0 y1 y2 y3 => by
    have hh := HB.out
    refine OwnWt.lower ?_ (Nat.le_trans (Nat.le_add_right _ 3) hh.1)
    refine OwnWt.gw (g := w.heap.size + 2) ?_ (gwSet _ _ _ _) (by omega)
    refine OwnWt.gw (g := w.heap.size + 2) ?_ (gwSet _ _ _ _) (by omega)
    refine OwnWt.gw (g := w.heap.size + 2) ?_ (gwSet _ _ _ _) (by omega)
    exact OwnWt.gw (g := w.heap.size + 2) HM6.out (gwSet _ _ _ _) (by omega)
  clear y1 yf hV6 HV6 M6 W6 HF5 HO5 HR5 HS5 HM6
  go_wp2_with fail
  exact bodyPost_ret (v := .agg #[.int .i64 0, .int .i64 y, .slice (some ⟨g5, 0, none⟩) (n + 1) vc5, .bool false]) (by simp [results, Try.results10, go_sem, r0, r1, r2, r3]) rfl ⟨EnResO.mk HE.out HL5.out (HNW.out _ _ _ _) HC6.out, ((((HW6.out.setCell (by simp <;> omega) _).setCell (by simp <;> omega) _).setCell (by simp <;> omega) _).setCell (by simp <;> omega) _)⟩
end Go.Proofs.Ytmgidcigihpbeaa
/-
  Who leaves, in plain words.
-/
namespace Go.Proofs.Ytmgidcigihpbeaa
open Go.ChangeShapes Go.WideShapes Go.ChangeAt Go.RowKit Go.Sort
structure LeQ where
  c : Int
  y : Int
  l : List Wt
  u : Int
def LeRes (w : World) (base : Nat) (q : LeQ) (e : Ending) : Prop := ∃ a cp, e = .returned (.agg #[.int .i64 q.c, .int .i64 q.y, .slice a q.l.length cp, .int .i64 q.u]) ∧ WtNew w base (.slice a q.l.length cp) q.l ∧ q.l.length ≤ cp
theorem LeRes.mk {w : World} {base : Nat} {q : LeQ} {c0 y : Int} {a : Option Addr} {n cp : Nat} {l : List Wt} {u : Int} (h : q = ⟨c0, y, l, u⟩) (hn : l.length = n) (hm : WtNew w base (.slice a n cp) l) (hc : n ≤ cp) : LeRes w base q (.returned (.agg #[.int .i64 c0, .int .i64 y, .slice a n cp, .int .i64 u])) := by
  subst h; subst hn
  exact ⟨a, cp, rfl, hm, hc⟩
def nextW : List Wt → Int
  | [] => -1
  | r :: _ => r.wi
def busyW (y : Int) : List Wt → Int
  | [] => y - 1
  | _ :: _ => y
def leaveR (y : Int) (l : List Wt) (s c t : Int) : LeQ :=
  if blkC y l s c t = 0 then (if y = 0 then ⟨4, 0, [], 0⟩ else ⟨0, busyW y l, l.tail, nextW l⟩) else ⟨blkC y l s c t, 0, [], 0⟩
section
variable {y s c t : Int} {l : List Wt}
theorem leave_bad (h : ¬ blkC y l s c t = 0) : leaveR y l s c t = ⟨blkC y l s c t, 0, [], 0⟩ := by rw [leaveR, if_neg h]
theorem leave_none (h : blkC y l s c t = 0) (h1 : y = 0) : leaveR y l s c t = ⟨4, 0, [], 0⟩ := by rw [leaveR, if_pos h, if_pos h1]
theorem leave_ok (h : blkC y l s c t = 0) (h1 : ¬ y = 0) : leaveR y l s c t = ⟨0, busyW y l, l.tail, nextW l⟩ := by rw [leaveR, if_pos h, if_neg h1]
theorem leaveR_len (h : l.length ≤ 1048576) : (leaveR y l s c t).l.length ≤ 1048576 := by
  unfold leaveR
  split
  · split
    · simp
    · simp only [List.length_tail]; omega
  · simp
end
theorem WtIn.tail {w : World} {b off : Nat} {r : Wt} {k : List Wt} (h : WtAt w b off (r :: k)) : WtIn w (some ⟨b, off + 2, none⟩) k := by
  refine .inr ⟨b, off + 2, rfl, fun i q hq => ?_⟩
  obtain ⟨p0, p1⟩ := h (i + 1) q (by simpa using hq)
  rw [show off + (i + 1) * 2 = off + 2 + i * 2 by omega] at p0 p1
  exact ⟨p0, p1⟩
theorem WtIn.tail2 {w : World} {b off cap : Nat} {r : Wt} {k : List Wt} (h : WtAt w b off (r :: k)) (hc : k.length + 1 ≤ cap) : WtIn w (if cap = 1 then some ⟨b, off, none⟩ else some ⟨b, off + 2, none⟩) k := by
  split
  · exact .inl (List.eq_nil_of_length_eq_zero (by omega))
  · exact WtIn.tail h
end Go.Proofs.Ytmgidcigihpbeaa
/-
  Who leaves a bulkhead of one's own, by the model: its queue lies in a row of its own.
-/
namespace Go.Proofs.Ytmgidcigihpbeaa
open Go.ChangeShapes Go.WideShapes Go.ChangeAt Go.RowKit Go.Sort
def LeftO (w w' : World) (O bs : Nat) (y : Int) (l : List Wt) (e : Ending) : Prop := ∃ a2 c2, e = .returned (.int .i64 (nextW l)) ∧ D2 w' O (.int .i64 (busyW y l)) (.slice a2 l.tail.length c2) ∧ OwnWt w' bs (.slice a2 l.tail.length c2) l.tail ∧ l.tail.length ≤ c2 ∧ w.grownBy w' (some O)
set_option maxRecDepth 100000 in
set_option maxHeartbeats 4000000 in
theorem specLeftO_any (w : World) (O bs : Nat) (y : Int) (a : Option Addr) (cap : Nat) (l : List Wt) (hy : 1 ≤ y ∧ y ≤ 8) (hl : l.length ≤ 8) (hc : l.length ≤ cap) (hbs : bs ≤ w.heap.size) (hB : D2 w O (.int .i64 y) (.slice a l.length cap)) (hi : WtIn w a l) (ho : OwnWt w bs (.slice a l.length cap) l) (hne : ∀ G, (Value.slice a l.length cap).ownBlock = some G → G ≠ O) :
    Calls Try.prog 53 #[.pointer (some ⟨O, 0, none⟩)] w fun e w' => LeftO w w' O bs y l e := by
  have HB := hid11 hB
  obtain ⟨o0, o1, of, olt⟩ := hB
  have of0 := of 0
  have of1 := of 1
  cases l with
  | nil =>
    have wy : IntKind.i64.wrap (y - 1) = y - 1 := by rw [IntKind.wrap_i64]; omega
    have HF : Hid (D2 (w.setCell ⟨O, 0, none⟩ (.int .i64 (y - 1))) O (.int .i64 (y - 1)) (.slice a 0 cap)) := ⟨World.cell?_setCell_same _ _ _ o0, by rw [World.cell?_setCell_other _ _ _ _ (fun e => by have := congrArg Addr.off e; simp at this)]; exact o1, fun o => by rw [World.frozen?_setCell]; exact of o, by simpa using olt⟩
    have HOW := hid11 (ho.gwX (gwSet w O 0 (.int .i64 (y - 1))) hne)
    simp only [List.length_nil] at *
    clear ho hne
    clear hi hc of
    go_enter Try.func53, Try.ntmps53
    go_wp2_with fail
    go_ret
    exact ⟨a, cap, rfl, HF.out, HOW.out, by simp, gwSet _ _ _ _⟩
  | cons r k =>
    clear ho hne
    rcases hi with h | ⟨b, off, rfl, hat⟩
    · cases h
    obtain ⟨p0, p1⟩ := hat 0 r rfl
    simp only [Nat.zero_mul, Nat.add_zero] at p0 p1
    have HT := hid11 (WtIn.tail2 hat (by simpa using hc))
    obtain ⟨n, hn⟩ : ∃ n, k.length = n := ⟨_, rfl⟩
    simp only [List.length_cons, hn] at HB o1 hl hc
    have HN : Hid (k.length = n) := hn
    have g0 : ¬ ((n + 1 : Nat) : Int) = 0 := by omega
    have g1 : (((n + 1 : Nat) : Int) == 0) = false := by simp; omega
    have g2 : (0 : Int) < ((n + 1 : Nat) : Int) := by omega
    have g3 : (1 : Int) ≤ ((n + 1 : Nat) : Int) := by omega
    have g4 : ((n + 1 : Nat) : Int) ≤ cap := by omega
    have HO0 : Hid (OwnWt (w.alloc (.cells #[] 40)) w.heap.size (.slice (some ⟨w.heap.size, 0, none⟩) 0 0) []) := OwnWt.made0 w w.heap.size (Nat.le_refl _)
    have HB0 : Hid (Below w.heap.size w (w.alloc (.cells #[] 40))) := (Below.refl _ _).alloc (Nat.le_refl _) _
    have HIT := hid11 (HT.out.keep HB0.out)
    clear hat hn
    go_enter Try.func53, Try.ntmps53
    obtain ⟨pa, hpa⟩ : ∃ pa, (if cap = 1 then some (⟨b, off, none⟩ : Addr) else some ⟨b, off + 2, none⟩) = pa := ⟨_, rfl⟩
    rw [hpa] at HIT
    go_wp2_with (at_builtin; refine wpList_appendInWt _ rfl (.tmp 25) (.tmp 30) rfl w.heap.size _ [] k pa (cap - 1) rfl (by rw [HN.out]; first | rfl | (rw [← hpa]; rfl)) HO0.out HIT.out (by simp; have := HN.out; omega) (by simp) ?_; intro v1 w1 ho1 hb1; obtain ⟨va, vc, rfl, _, _⟩ := ho1.in; simp only [List.nil_append] at ho1 ⊢; rw [HN.out] at ho1 ⊢; have HX : Hid (OwnWt w1 w.heap.size (.slice va n vc) k ∧ Below w.heap.size w w1) := ⟨ho1, HB0.out.trans hb1⟩; clear ho1 hb1 o0 o1 of of0 of1 p0 p1; obtain ⟨q0, q1, qf, _⟩ := HB.out.keep HX.out.2; have qf1 := qf 1)
    go_ret
    have q := HB.out.keep HX.out.2
    have hlt := HB.out.lt
    refine ⟨va, vc, rfl, ⟨by rw [World.cell?_setCell_other _ _ _ _ (fun e => by have := congrArg Addr.off e; simp at this)]; exact q.c0, by rw [World.cell?_setCell_same _ _ _ q.c1]; simp only [List.tail_cons, HN.out], fun o => by rw [World.frozen?_setCell]; exact q.fr o, by simpa using q.lt⟩, ?_, ?_, gwTrans (gwBelow _ HX.out.2) (gwSet _ _ _ _)⟩
    · simp only [List.tail_cons, HN.out]
      exact (HX.out.1.gw (gwSet _ _ _ _) hlt).lower hbs
    · simp only [List.tail_cons, HN.out]
      exact HX.out.1.cap
end Go.Proofs.Ytmgidcigihpbeaa
/-
  The draw of a bulkhead, bent: l11Bent.
-/
namespace Go.Proofs.Ytmgidcigihpbeaa
open Go.ChangeShapes Go.WideShapes Go.ChangeAt Go.RowKit Go.Sort
set_option linter.unusedVariables false
theorem useB {p q : Prop} (h : p) (k : p → q) : q := k h
theorem rulW {p : Prop} (h : p) : Hid p := h
theorem D2.ah {B : Nat} {w w' : World} {b : Nat} {v0 v1 : Value} (k : D2 w b v0 v1) (h : ApartH B w w') (hn : b ≠ B) : D2 w' b v0 v1 := k.apart h.cells hn
theorem D3.ah {B : Nat} {w w' : World} {b : Nat} {v0 v1 v2 : Value} (k : D3 w b v0 v1 v2) (h : ApartH B w w') (hn : b ≠ B) : D3 w' b v0 v1 v2 := k.apart h.cells hn
theorem OwnWt.apart {B : Nat} {w w' : World} {base : Nat} {v : Value} {l : List Wt} (h : OwnWt w base v l) (ha : ApartH B w w') (hB : B < base) : OwnWt w' base v l := by
  obtain ⟨h1, h2⟩ := h
  refine ⟨h1, ?_⟩
  rcases h2 with h2 | ⟨g, c, cur, e, hg, hh, hrest⟩
  · exact .inl h2
  · exact .inr ⟨g, c, cur, e, hg, by rw [ha.block g (Array.getElem?_eq_some_iff.1 hh).1 (by omega)]; exact hh, hrest⟩
theorem D2.off2 {w : World} {b g i : Nat} {v0 v1 x : Value} (k : D2 w b v0 v1) (h : b ≠ g) : D2 (w.setCell ⟨g, i, none⟩ x) b v0 v1 := k.gw (gwSet _ _ _ _) h
theorem D3.off2 {w : World} {b g i : Nat} {v0 v1 v2 x : Value} (k : D3 w b v0 v1 v2) (h : b ≠ g) : D3 (w.setCell ⟨g, i, none⟩ x) b v0 v1 v2 := k.gw (gwSet _ _ _ _) h
/-- What is held while a bulkhead is bent. -/
structure DL (w X : World) (N SB L B : Nat) (s c t : Int) (a : Option Addr) (len cap k : Nat) (y : Int) (va : Option Addr) (n vc : Nat) (q : List Wt) : Prop where
  sr : Src X SB a len cap k
  q0 : D2 X N (.int .i64 0) (.slice none 0 0)
  q1 : D3 X (N + 1) (.int .i64 0) (.int .i64 0) (.int .i64 0)
  la : D3 X L (.int .i64 s) (.int .i64 c) (.int .i64 t)
  bu : D2 X B (.int .i64 y) (.slice va n vc)
  ow : OwnWt X (B + 1) (.slice va n vc) q
  ln : q.length = n
  lo : Below N w X
  lt : SB = N + 2 ∧ SB < L ∧ L < B
section
variable {w X Y : World} {N SB L B : Nat} {s c t : Int} {a : Option Addr} {len cap k : Nat} {y : Int} {va : Option Addr} {n vc : Nat} {q : List Wt}
theorem DL.step {k' : Nat} (h : DL w X N SB L B s c t a len cap k y va n vc q) (hs : Src Y SB a len cap k') (hb : Below SB X Y) (ha : ApartH SB X Y) : DL w Y N SB L B s c t a len cap k' y va n vc q := by
  obtain ⟨e, l1, l2⟩ := h.lt
  exact ⟨hs, h.q0.ah ha (by omega), h.q1.ah ha (by omega), h.la.ah ha (by omega), h.bu.ah ha (by omega), h.ow.apart ha (by omega), h.ln, h.lo.trans (hb.mono (by omega)), e, l1, l2⟩
theorem DL.keep (h : DL w X N SB L B s c t a len cap k y va n vc q) (hb : Below X.heap.size X Y) : DL w Y N SB L B s c t a len cap k y va n vc q :=
  ⟨h.sr.below (hb.mono h.sr.lt), h.q0.keep hb, h.q1.keep hb, h.la.keep hb, h.bu.keep hb, h.ow.below hb, h.ln, h.lo.trans (hb.mono (Nat.le_of_lt h.q0.lt)), h.lt⟩
theorem DL.al {o : Obj} (h : DL w X N SB L B s c t a len cap k y va n vc q) : DL w (X.alloc o) N SB L B s c t a len cap k y va n vc q := h.keep ((Below.refl _ _).alloc (Nat.le_refl _) _)
theorem DL.drw (h : DL w X N SB L B s c t a len cap k y va n vc q) : DL w X.drew N SB L B s c t a len cap k y va n vc q := h.keep (Below.refl _ _).drew
theorem DL.turn {y' : Int} {va' : Option Addr} {n' vc' : Nat} {q' : List Wt} (h : DL w X N SB L B s c t a len cap k y va n vc q) (h2 : D2 Y B (.int .i64 y') (.slice va' n' vc')) (ho : OwnWt Y (B + 1) (.slice va' n' vc') q') (hn : q'.length = n') (hg : X.grownBy Y (some B)) : DL w Y N SB L B s c t a len cap k y' va' n' vc' q' := by
  obtain ⟨e, l1, l2⟩ := h.lt
  have hx := h.bu.lt
  exact ⟨h.sr.below (gwTo hg (by omega) (by omega)), h.q0.gw hg (by omega), h.q1.gw hg (by omega), h.la.gw hg (by omega), h2, ho, hn, h.lo.trans (gwTo hg (by omega) (by omega)), e, l1, l2⟩
theorem DL.put {y' : Int} {va' : Option Addr} {n' vc' : Nat} {q' : List Wt} (h : DL w X N SB L B s c t a len cap k y va n vc q) (ho : OwnWt X (B + 1) (.slice va' n' vc') q') (hn : q'.length = n') : DL w ((X.setCell ⟨B, 0, none⟩ (.int .i64 y')).setCell ⟨B, 1, none⟩ (.slice va' n' vc')) N SB L B s c t a len cap k y' va' n' vc' q' :=
  h.turn (h.bu.put _ _) ((ho.gw (gwSet _ _ _ _) (Nat.lt_succ_self _)).gw (gwSet _ _ _ _) (Nat.lt_succ_self _)) hn (gwTrans (gwSet _ _ _ _) (gwSet _ _ _ _))
theorem DL.s0 (h : DL w X N SB L B s c t a len cap k y va n vc q) (x : Int) : DL w (X.setCell ⟨B, 0, none⟩ (.int .i64 x)) N SB L B s c t a len cap k x va n vc q := by
  have k1 := h.bu
  refine h.turn ⟨World.cell?_setCell_same _ _ _ k1.c0, by rw [World.cell?_setCell_other _ _ _ _ (fun e => by have := congrArg Addr.off e; simp at this)]; exact k1.c1, fun o => by rw [World.frozen?_setCell]; exact k1.fr o, by simpa using k1.lt⟩ (h.ow.gw (gwSet _ _ _ _) (Nat.lt_succ_self _)) h.ln (gwSet _ _ _ _)
theorem DL.push {g n' vc' : Nat} {q' : List Wt} (h : DL w X N SB L B s c t a len cap k y va n vc q) (h1 : OwnWt Y (B + 1) (.slice (some ⟨g, 0, none⟩) n' vc') q') (hn : q'.length = n') (h2 : X.grownBy Y (Value.slice va n vc).ownBlock) : DL w (Y.setCell ⟨B, 1, none⟩ (.slice (some ⟨g, 0, none⟩) n' vc')) N SB L B s c t a len cap k y (some ⟨g, 0, none⟩) n' vc' q' ∧ D2 Y B (.int .i64 y) (.slice va n vc) := by
  obtain ⟨e, l1, l2⟩ := h.lt
  have hx := h.bu.lt
  have ne : ∀ b, b < B + 1 → (Value.slice va n vc).ownBlock ≠ some b := fun b hb z => by have := row_ge h.ow b z; omega
  have bl : Below (B + 1) X Y := ⟨h2.os, h2.tape, h2.output, h2.size, fun b hb => h2.block b (by omega) (fun z => ne b hb z.symm)⟩
  have k1 := h.bu.low bl (Nat.lt_succ_self _)
  refine ⟨⟨(h.sr.below (bl.mono (by omega))) |> fun z => src_off z (by omega), (h.q0.low bl (by omega)).off2 (by omega), (h.q1.low bl (by omega)).off2 (by omega), (h.la.low bl (by omega)).off2 (by omega), ⟨by rw [World.cell?_setCell_other _ _ _ _ (fun e => by have := congrArg Addr.off e; simp at this)]; exact k1.c0, World.cell?_setCell_same _ _ _ k1.c1, fun o => by rw [World.frozen?_setCell]; exact k1.fr o, by simpa using k1.lt⟩, h1.gw (gwSet _ _ _ _) (Nat.lt_succ_self _), hn, (h.lo.trans (bl.mono (by omega))).setCell (by simp; omega) _, e, l1, l2⟩, k1⟩
theorem DL.lset {x0 x1 x2 : Int} (h : DL w X N SB L B s c t a len cap k y va n vc q) : DL w (((X.setCell ⟨L, 0, none⟩ (.int .i64 x0)).setCell ⟨L, 1, none⟩ (.int .i64 x1)).setCell ⟨L, 2, none⟩ (.int .i64 x2)) N SB L B x0 x1 x2 a len cap k y va n vc q := by
  obtain ⟨e, l1, l2⟩ := h.lt
  exact ⟨src_off (src_off (src_off h.sr l1) l1) l1, ((h.q0.off2 (by omega)).off2 (by omega)).off2 (by omega), ((h.q1.off2 (by omega)).off2 (by omega)).off2 (by omega), h.la.put _ _ _, ((h.bu.off2 (by omega)).off2 (by omega)).off2 (by omega), ((h.ow.gw (gwSet _ _ _ _) (by omega)).gw (gwSet _ _ _ _) (by omega)).gw (gwSet _ _ _ _) (by omega), h.ln, ((h.lo.setCell (by simp; omega) _).setCell (by simp; omega) _).setCell (by simp; omega) _, e, l1, l2⟩
/-- What is told of the end. -/
structure FinL (w X : World) (N SB : Nat) (a : Option Addr) (len cap k : Nat) (va : Option Addr) (n vc : Nat) (q : List Wt) : Prop where
  ow : OwnWt X (SB + 1) (.slice va n vc) q
  sr : Src X SB a len cap k
  lo : Below N w X
  cr : CodeRow w N a len
  hN : N + 2 ≤ SB
theorem DL.fin (h : DL w X N SB L B s c t a len cap k y va n vc q) (hc : CodeRow w N a len) : FinL w X N SB a len cap k va n vc q := by
  obtain ⟨e, l1, l2⟩ := h.lt
  exact ⟨h.ow.lower (by omega), h.sr, h.lo, hc, by omega⟩
theorem FinL.set {b i : Nat} {z : Value} (h : FinL w X N SB a len cap k va n vc q) (hb : b = N ∨ b = N + 1) : FinL w (X.setCell ⟨b, i, none⟩ z) N SB a len cap k va n vc q := by
  have := h.hN
  have lo' := h.lo.setCell (p := ⟨b, i, none⟩) (by simp; omega) z
  have ne : ∀ j : Nat, (⟨b, i, none⟩ : Addr) ≠ ⟨SB, j, none⟩ := fun j e => by have := congrArg Addr.block e; simp at this; omega
  exact ⟨h.ow.gw (gwSet _ _ _ _) (by omega), ⟨by rw [World.cell?_setCell_other _ _ _ _ (ne 0)]; exact h.sr.c0, by rw [World.cell?_setCell_other _ _ _ _ (ne 1)]; exact h.sr.c1, by rw [World.frozen?_setCell]; exact h.sr.f1, (h.cr.below lo').mono (by omega)⟩, lo', h.cr, h.hN⟩
theorem FinL.drw (h : FinL w X N SB a len cap k va n vc q) : FinL w X.drew N SB a len cap k va n vc q := ⟨h.ow.below (Below.refl _ _).drew, h.sr.drew, h.lo.drew, h.cr, h.hN⟩
/-- A box of an answer, by its kind. -/
def BXE (X : World) (P : Nat) (v0 v1 v2 v3 : Value) : Prop := X.heap[P]? = some (.cells #[v0, v1, v2, v3] 32)
theorem BXE.new (X : World) (v0 v1 v2 v3 : Value) : BXE (X.alloc (.cells #[v0, v1, v2, v3] 32)) X.heap.size v0 v1 v2 v3 := heap_alloc_new _ _
theorem BXE.new1 (X : World) (o : Obj) (v0 v1 v2 v3 : Value) : BXE ((X.alloc o).alloc (.cells #[v0, v1, v2, v3] 32)) (X.heap.size + 1) v0 v1 v2 v3 := by
  have h := BXE.new (X.alloc o) v0 v1 v2 v3
  rwa [show (X.alloc o).heap.size = X.heap.size + 1 by simp] at h
theorem BXE.lt {P : Nat} {v0 v1 v2 v3 : Value} (h : BXE X P v0 v1 v2 v3) : P < X.heap.size := (Array.getElem?_eq_some_iff.1 h).1
theorem BXE.al {P : Nat} {v0 v1 v2 v3 : Value} {o : Obj} (h : BXE X P v0 v1 v2 v3) : BXE (X.alloc o) P v0 v1 v2 v3 := by
  have b : Below X.heap.size X (X.alloc o) := (Below.refl _ _).alloc (Nat.le_refl _) _
  unfold BXE; rw [b.block P h.lt]; exact h
theorem BXE.drw {P : Nat} {v0 v1 v2 v3 : Value} (h : BXE X P v0 v1 v2 v3) : BXE X.drew P v0 v1 v2 v3 := h
theorem BXE.ap {P : Nat} {v0 v1 v2 v3 : Value} (ha : ApartH SB X Y) (h : BXE X P v0 v1 v2 v3) (hP : P ≠ SB) : BXE Y P v0 v1 v2 v3 := by
  unfold BXE; rw [ha.block P h.lt hP]; exact h
theorem BXE.d4 {P : Nat} {v0 v1 v2 v3 : Value} (h : BXE X P v0 v1 v2 v3) : D4 X P v0 v1 v2 v3 := by
  have h' : X.heap[P]? = some (.cells #[v0, v1, v2, v3] 32) := h
  exact ⟨by simp [World.cell?, h'], by simp [World.cell?, h'], by simp [World.cell?, h'], by simp [World.cell?, h'], fun o => by simp [World.frozen?, h'], h.lt⟩
theorem BXE.ne {P base : Nat} {v0 v1 v2 v3 v : Value} {l : List Wt} (h : BXE X P v0 v1 v2 v3) (ho : OwnWt X base v l) : ∀ G, v.ownBlock = some G → G ≠ P := by
  intro G hG e
  subst e
  obtain ⟨_, h1 | ⟨g, c, cur, rfl, _, hh, _⟩⟩ := ho
  · rw [h1.1] at hG; cases hG
  · simp only [Value.ownBlock, Option.some.injEq] at hG
    subst hG
    have h' : X.heap[g]? = some (.cells #[v0, v1, v2, v3] 32) := h
    rw [hh] at h'
    simp at h'
theorem DL.put4 {P : Nat} {v0 v1 v2 v3 x0 x1 x2 x3 : Value} (h : DL w X N SB L B s c t a len cap k y va n vc q) (hx : BXE X P v0 v1 v2 v3) (hP : B < P) : DL w ((((X.setCell ⟨P, 0, none⟩ x0).setCell ⟨P, 1, none⟩ x1).setCell ⟨P, 2, none⟩ x2).setCell ⟨P, 3, none⟩ x3) N SB L B s c t a len cap k y va n vc q := by
  obtain ⟨e, l1, l2⟩ := h.lt
  have g : X.grownBy ((((X.setCell ⟨P, 0, none⟩ x0).setCell ⟨P, 1, none⟩ x1).setCell ⟨P, 2, none⟩ x2).setCell ⟨P, 3, none⟩ x3) (some P) := gwTrans (gwTrans (gwTrans (gwSet _ _ _ _) (gwSet _ _ _ _)) (gwSet _ _ _ _)) (gwSet _ _ _ _)
  exact ⟨h.sr.below (gwTo g (by omega) (by have := hx.lt; omega)), h.q0.gw g (by omega), h.q1.gw g (by omega), h.la.gw g (by omega), h.bu.gw g (by omega), h.ow.gwX g (hx.ne h.ow), h.ln, h.lo.trans (gwTo g (by omega) (by have := hx.lt; omega)), e, l1, l2⟩
theorem DL.fin4 {P : Nat} {v0 v1 v2 v3 x0 x1 x2 x3 v : Value} {el : List Wt} (h : DL w X N SB L B s c t a len cap k y va n vc q) (ho : OwnWt X (B + 1) v el) (hx : BXE X P v0 v1 v2 v3) (hP : B < P) : OwnWt ((((X.setCell ⟨P, 0, none⟩ x0).setCell ⟨P, 1, none⟩ x1).setCell ⟨P, 2, none⟩ x2).setCell ⟨P, 3, none⟩ x3) (B + 1) v el ∧ DL w ((((X.setCell ⟨P, 0, none⟩ x0).setCell ⟨P, 1, none⟩ x1).setCell ⟨P, 2, none⟩ x2).setCell ⟨P, 3, none⟩ x3) N SB L B s c t a len cap k y va n vc q ∧ D4 ((((X.setCell ⟨P, 0, none⟩ x0).setCell ⟨P, 1, none⟩ x1).setCell ⟨P, 2, none⟩ x2).setCell ⟨P, 3, none⟩ x3) P x0 x1 x2 x3 :=
  ⟨ho.gwX (gwTrans (gwTrans (gwTrans (gwSet _ _ _ _) (gwSet _ _ _ _)) (gwSet _ _ _ _)) (gwSet _ _ _ _)) (hx.ne ho), h.put4 hx hP, hx.d4.put _ _ _ _⟩
/-- The cells of a list of numbers that was laid. -/
def LCN (X : World) (M : Nat) (vs : Array Value) : Prop := X.heap[M]? = some (.cells vs 2)
theorem LCN.new (X : World) (vs : Array Value) : LCN (X.alloc (.cells vs 2)) X.heap.size vs := heap_alloc_new _ _
theorem LCN.new1 (X : World) (o : Obj) (vs : Array Value) : LCN ((X.alloc o).alloc (.cells vs 2)) (X.heap.size + 1) vs := by
  have h := LCN.new (X.alloc o) vs
  rwa [show (X.alloc o).heap.size = X.heap.size + 1 by simp] at h
theorem LCN.lt {M : Nat} {vs : Array Value} (h : LCN X M vs) : M < X.heap.size := (Array.getElem?_eq_some_iff.1 h).1
theorem LCN.al {M : Nat} {vs : Array Value} {o : Obj} (h : LCN X M vs) : LCN (X.alloc o) M vs := by
  have b : Below X.heap.size X (X.alloc o) := (Below.refl _ _).alloc (Nat.le_refl _) _
  unfold LCN; rw [b.block M h.lt]; exact h
theorem LCN.drw {M : Nat} {vs : Array Value} (h : LCN X M vs) : LCN X.drew M vs := h
theorem LCN.ap {M : Nat} {vs : Array Value} (ha : ApartH SB X Y) (h : LCN X M vs) (hM : M ≠ SB) : LCN Y M vs := by
  unfold LCN; rw [ha.block M h.lt hM]; exact h
theorem LCN.cells {M : Nat} {vs : Array Value} (h : LCN X M vs) (xs : List Int) (e : vs = (xs.map (Value.int .i64)).toArray) : ∀ i x, xs[i]? = some x → X.cell? ⟨M, i, none⟩ = some (.int .i64 x) := by
  intro i x hx
  subst e
  have h' : X.heap[M]? = some (.cells (xs.map (Value.int .i64)).toArray 2) := h
  simp [World.cell?, h', hx]
theorem enter_small {y s c t x now : Int} {l : List Wt} (h : (enterR y l s c t x now).c = 0) : (0 ≤ (enterR y l s c t x now).y ∧ (enterR y l s c t x now).y ≤ 8) ∧ (enterR y l s c t x now).l.length ≤ 8 := by
  unfold enterR at h ⊢
  split
  · rename_i h0
    have g := goodB_of h0
    have g1 := g.hs
    have g2 := g.hc
    have g3 := g.hy
    have g4 := g.hl
    split
    · split
      · simp
      · split
        · exact ⟨by simp only []; omega, by simp only []; omega⟩
        · split
          · simp
          · exact ⟨by simp only []; omega, by simp only [List.length_append, List.length_cons, List.length_nil]; omega⟩
    · simp
  · simp
end
def SBL (Z : World) (B L : Nat) (y : Int) (va : Option Addr) (n vc : Nat) (s c t : Int) : Prop := Z.cell? ⟨B, 0, none⟩ = some (.int .i64 y) ∧ Z.cell? ⟨B, 1, none⟩ = some (.slice va n vc) ∧ Z.cell? ⟨L, 0, none⟩ = some (.int .i64 s) ∧ Z.cell? ⟨L, 1, none⟩ = some (.int .i64 c) ∧ Z.cell? ⟨L, 2, none⟩ = some (.int .i64 t)
theorem SBL.off {Z : World} {B L M i : Nat} {z : Value} {y : Int} {va : Option Addr} {n vc : Nat} {s c t : Int} (h : SBL Z B L y va n vc s c t) (h1 : ¬ M = B) (h2 : ¬ M = L) : SBL (Z.setCell ⟨M, i, none⟩ z) B L y va n vc s c t := by
  have e1 : ∀ j : Nat, (Z.setCell ⟨M, i, none⟩ z).cell? ⟨B, j, none⟩ = Z.cell? ⟨B, j, none⟩ := fun j => World.cell?_setCell_other _ _ _ _ (fun e => h1 (congrArg Addr.block e))
  have e2 : ∀ j : Nat, (Z.setCell ⟨M, i, none⟩ z).cell? ⟨L, j, none⟩ = Z.cell? ⟨L, j, none⟩ := fun j => World.cell?_setCell_other _ _ _ _ (fun e => h2 (congrArg Addr.block e))
  unfold SBL
  simp only [e1, e2]
  exact h
/-- A bulkhead, its lanes and the source behind them. -/
def BentL (w w' : World) (N : Nat) (a : Option Addr) (len cap : Nat) (e : Ending) : Prop := ∃ (y s c t : Int) (va : Option Addr) (n vc : Nat) (q : List Wt) (k : Nat), e = .returned (.tuple #[.agg #[.int .i64 y, .slice va n vc], .agg #[.int .i64 s, .int .i64 c, .int .i64 t], .pointer (some ⟨N + 2, 0, none⟩)]) ∧ q.length = n ∧ n ≤ 9 ∧ k ≤ 100 ∧ FinL w w' N (N + 2) a len cap k va n vc q
theorem BentL.mk {w w' : World} {N : Nat} {a : Option Addr} {len cap : Nat} {y s c t : Int} {va : Option Addr} {n vc : Nat} {q : List Wt} {k : Nat} (h1 : q.length = n) (h2 : n ≤ 9) (h4 : k ≤ 100) (h5 : FinL w w' N (N + 2) a len cap k va n vc q) : BentL w w' N a len cap (.returned (.tuple #[.agg #[.int .i64 y, .slice va n vc], .agg #[.int .i64 s, .int .i64 c, .int .i64 t], .pointer (some ⟨N + 2, 0, none⟩)])) := ⟨y, s, c, t, va, n, vc, q, k, rfl, h1, h2, h4, h5⟩
theorem bytesW_of_code {w : World} {B : Nat} {a : Option Addr} {len : Nat} (h : CodeRow w B a len) : ∃ l : List UInt8, l.length = len ∧ DIn w a l := by
  rcases h with h | ⟨b, off, rfl, hlt, f, hf⟩
  · exact ⟨[], h.symm, .inl rfl⟩
  · refine ⟨(List.range len).map fun i => UInt8.ofNat (f i).toNat, by simp, .inr ⟨b, off, rfl, fun i u hu => ?_⟩⟩
    rw [List.getElem?_map, Option.map_eq_some_iff] at hu
    obtain ⟨j, hj, rfl⟩ := hu
    obtain ⟨hlt2, rfl⟩ := List.getElem?_eq_some_iff.1 hj
    simp only [List.length_range] at hlt2
    simp only [List.getElem_range]
    obtain ⟨e, p0, p1⟩ := hf i hlt2
    rw [e]
    have : (UInt8.ofNat (f i).toNat).toNat = (f i).toNat := by rw [UInt8.toNat_ofNat']; omega
    rw [this, Int.toNat_of_nonneg p0]
theorem codeW_of_row {w : World} {base : Nat} {va : Option Addr} {m vc : Nat} {l : List UInt8} (hl : l.length = m) (h : w.ownsRow base 5 1 (.slice va m vc) m (dBytes l)) : CodeRow w w.heap.size va m := by
  by_cases h0 : m = 0
  · exact .inl h0
  · have hx := h
    obtain ⟨_, h1 | ⟨g, c, cur, e, hg, hh, _⟩⟩ := h
    · exact absurd h1.2 h0
    · simp only [Value.slice.injEq] at e
      obtain ⟨rfl, _, rfl⟩ := e
      refine .inr ⟨g, 0, rfl, (Array.getElem?_eq_some_iff.1 hh).1, fun i => ((l.getD i 0).toNat : Int), fun i hi => ?_⟩
      have c0 := World.ownsRow.cellAt hx i (by omega)
      rw [Nat.zero_add, c0]
      have hi2 : i < l.length := by omega
      refine ⟨?_, by show (0 : Int) ≤ ((l.getD i 0).toNat : Int); omega, ?_⟩
      · simp [dBytes, List.getElem?_eq_getElem hi2]
      · have := (l.getD i 0).toNat_lt; show ((l.getD i 0).toNat : Int) ≤ 255; omega
theorem butLast_two {P : Program} {ops : Array Oper} {Q : Exit → Act → World → Prop} {S : World → Prop} {m i j n : Nat} {oi oj : Oper} {done : Array Bool} {a : Act} {w : World} (hi : ops[i]? = some oi) (hj : ops[j]? = some oj) (hr : Region.ready .any ops done = [i, j])
    (h1 : ∀ K : Act → World → Prop, (∀ a' w', (i = m ∨ S w') → butLast P ops Q S m n (done.setIfInBounds i true) a' w' → K a' w') → if Region.wanted oi (yielded ops a.tmps) = true then Oper.wp P oi a w K Q else K (a.put oi.dst undef) w)
    (h2 : ∀ K : Act → World → Prop, (∀ a' w', (j = m ∨ S w') → butLast P ops Q S m n (done.setIfInBounds j true) a' w' → K a' w') → if Region.wanted oj (yielded ops a.tmps) = true then Oper.wp P oj a w K Q else K (a.put oj.dst undef) w) :
    butLast P ops Q S m (n + 1) done a w := by
  refine ⟨fun z => (by rw [z] at hr; cases hr), fun x hx => ?_⟩
  rw [hr, List.mem_cons, List.mem_singleton] at hx
  rcases hx with rfl | rfl
  · exact wpOp_step hi fun K hK => h1 K fun a' w' h1 h2 => hK a' w' ⟨h1, h2⟩
  · exact wpOp_step hj fun K hK => h2 K fun a' w' h1 h2 => hK a' w' ⟨h1, h2⟩
set_option linter.unusedSimpArgs false in
set_option maxRecDepth 100000 in
set_option maxHeartbeats 32000000 in
theorem l11Bent_any (w : World) (a : Option Addr) (len cap : Nat) (N : Nat) (hN : w.heap.size = N) (hc : CodeRow w N a len) (hl3 : len ≤ 1048576) :
    Calls Try.prog 38 #[.slice a len cap] w fun e w' => BentL w w' N a len cap e := by
  have hl2 : len ≤ 1048577 := by omega
  have HC := rulW hc
  obtain ⟨i0, hi0, hz0, hz1, hz2⟩ := info_parts dByteI
  have HI0 := rulW hi0
  have HZ0 := rulW hz0
  have HZ1 := rulW hz1
  have HZ2 := rulW hz2
  clear hi0 hz0 hz1 hz2
  obtain ⟨V1, hV1⟩ : ∃ V, V = w.alloc (.cells #[.int .i64 0, .slice none 0 0] 26) := ⟨_, rfl⟩
  obtain ⟨V2, hV2⟩ : ∃ V, V = V1.alloc (.cells #[.int .i64 0, .int .i64 0, .int .i64 0] 28) := ⟨_, rfl⟩
  have z1 : V1.heap.size = N + 1 := by rw [hV1, ← hN]; simp
  have z2 : V2.heap.size = N + 2 := by rw [hV2]; simp [z1]
  have b1 : Below w.heap.size w V1 := by rw [hV1]; exact (Below.refl _ _).alloc (Nat.le_refl _) _
  have b2 : Below V1.heap.size V1 V2 := by rw [hV2]; exact (Below.refl _ _).alloc (Nat.le_refl _) _
  have b12 : Below N w V2 := by rw [← hN]; exact b1.trans (b2.mono b1.size)
  have q0 : D2 V2 N (.int .i64 0) (.slice none 0 0) := by
    have := D2.new w (.int .i64 0) (.slice none 0 0) 26
    rw [← hV1, hN] at this
    exact this.keep b2
  have q1 : D3 V2 (N + 1) (.int .i64 0) (.int .i64 0) (.int .i64 0) := by
    have := D3.new V1 (.int .i64 0) (.int .i64 0) (.int .i64 0) 28
    rw [← hV2, z1] at this
    exact this
  have HSR : Hid (Calls Try.prog 78 #[.slice a len cap] V2 fun e w' => e = .returned (.pointer (some ⟨N + 2, 0, none⟩)) ∧ Src w' (N + 2) a len cap 0 ∧ Below (N + 2) V2 w') := by
    have := l1Source_any V2 a len cap ((hc.below b12).mono (by omega))
    rw [z2] at this
    exact this
  have HB := rulW b12
  have HQ := rulW (show D2 V2 N (.int .i64 0) (.slice none 0 0) ∧ D3 V2 (N + 1) (.int .i64 0) (.int .i64 0) (.int .i64 0) from ⟨q0, q1⟩)
  have HV1 := rulW hV1
  have HV2 := rulW hV2
  clear b1 b2 b12 q0 q1 hV1 hV2 hc z1 z2
  go_enter Try.func38, Try.ntmps38
  go_upto_region 1 with fail
  rw [← HV1.out, ← HV2.out]
  clear HV1 HV2
  go_wp2_with fail
  refine HSR.out.mono ?_
  rintro r w1 ⟨rfl, hs1, hb1⟩
  have HX1 := rulW (show Src w1 (N + 2) a len cap 0 ∧ D2 w1 N (.int .i64 0) (.slice none 0 0) ∧ D3 w1 (N + 1) (.int .i64 0) (.int .i64 0) (.int .i64 0) ∧ Below N w w1 from ⟨hs1, HQ.out.1.low hb1 (by omega), HQ.out.2.low hb1 (by omega), HB.out.trans (hb1.mono (by omega))⟩)
  clear hs1 hb1 HSR HB HQ
  go_wp2_with fail
  refine (l11Lanes_any _ (N + 2) a len cap 0 HX1.out.1 (by omega) hl2).mono ?_
  rintro r w2 ⟨⟨s, c, t, rfl⟩, hs2, hb2, ha2⟩
  obtain ⟨L, hL⟩ : ∃ L, w2.heap.size = L := ⟨_, rfl⟩
  have hlt2 : N + 2 < L := by rw [← hL]; exact hs2.lt
  obtain ⟨V3, hV3⟩ : ∃ V, V = w2.alloc (.cells #[.int .i64 s, .int .i64 c, .int .i64 t] 28) := ⟨_, rfl⟩
  obtain ⟨V4, hV4⟩ : ∃ V, V = V3.alloc (.cells #[.int .i64 0, .slice none 0 0] 26) := ⟨_, rfl⟩
  have z3 : V3.heap.size = L + 1 := by rw [hV3, ← hL]; simp
  have J0 : Hid (DL w V4 N (N + 2) L (L + 1) s c t a len cap 3 0 none 0 0 []) := by
    have b3 : Below w2.heap.size w2 V3 := by rw [hV3]; exact (Below.refl _ _).alloc (Nat.le_refl _) _
    have b4 : Below V3.heap.size V3 V4 := by rw [hV4]; exact (Below.refl _ _).alloc (Nat.le_refl _) _
    have b34 := b3.trans (b4.mono b3.size)
    have s3 : D3 V3 L (.int .i64 s) (.int .i64 c) (.int .i64 t) := by rw [hV3, ← hL]; exact D3.new w2 _ _ _ _
    have s4 : D2 V4 (L + 1) (.int .i64 0) (.slice none 0 0) := by rw [hV4, ← z3]; exact D2.new V3 _ _ _
    exact ⟨hs2.below (b34.mono hs2.lt), (HX1.out.2.1.apart ha2 (by omega)).keep b34, (HX1.out.2.2.1.apart ha2 (by omega)).keep b34, s3.keep b4, s4, OwnWt.none0 _ _, rfl, (HX1.out.2.2.2.trans (hb2.mono (by omega))).trans (b34.mono (by omega)), rfl, hlt2, by omega⟩
  have HV3 := rulW hV3
  have HV4 := rulW hV4
  clear hs2 hb2 ha2 hV3 hV4 HX1
  go_upto_region 3 with fail
  try simp only [hL]
  rw [← HV3.out]
  clear HV3 hL
  go_upto_region 4 with fail
  try simp only [z3]
  rw [← HV4.out]
  clear HV4 z3
  obtain ⟨SB, hSB⟩ : ∃ SB, N + 2 = SB := ⟨_, rfl⟩
  obtain ⟨B, hB⟩ : ∃ B, L + 1 = B := ⟨_, rfl⟩
  rw [hSB, hB] at J0
  try simp only [hSB, hB]
  have HSB := rulW hSB
  have HLB : Hid (L < B) := by show _ < _; omega
  clear hSB hB
  go_wp2_with fail
  refine (l1Next_h _ SB a len cap 3 12 J0.out.sr (by omega) (by omega) (by omega) hl2).mono ?_
  rintro r w5 ⟨⟨v, v0, v1, rfl⟩, hs1, hb1, ha1⟩
  have J1 := rulW (J0.out.step hs1 hb1 ha1)
  clear hs1 hb1 ha1 J0
  go_wp2_with fail
  go_loopw [8] (fun i X => ∃ (M k : Nat) (y : Int) (va : Option Addr) (n vc : Nat) (q : List Wt), i = .int .i64 (M : Int) ∧ M ≤ 12 ∧ k + 3 * M ≤ 60 ∧ (0 ≤ y ∧ y ≤ 8) ∧ n ≤ 8 ∧ DL w X N SB L B s c t a len cap k y va n vc q) (fun i _ => (intOf i).toNat)
  case atStart => exact ⟨v.toNat, 4, 0, none, 0, 0, [], by rw [Int.toNat_of_nonneg v0], by omega, by omega, by omega, by omega, J1.out⟩
  case round =>
    obtain ⟨M, k, y, va, n, vc, q, rfl, hM12, hkM, hy, hn8, hJ⟩ := hrel
    have JR := rulW hJ
    clear J1 v0 v1 hJ
    cases M with
    | succ M =>
      have gN : (0 : Int) < ((M + 1 : Nat) : Int) := by omega
      have HY := rulW (show (0 ≤ y ∧ y ≤ 8) ∧ n ≤ 8 from ⟨hy, hn8⟩)
      have HN : Hid (∀ X, DL w X N SB L B s c t a len cap k y va n vc q → Calls Try.prog 57 #[.pointer (some ⟨SB, 0, none⟩), .int .i64 12] X fun e w' => (∃ v : Int, e = .returned (.int .i64 v)) ∧ DL w w' N SB L B s c t a len cap (k + 1) y va n vc q ∧ ApartH SB X w') := fun X h => (l1Next_h X SB a len cap k 12 h.sr (by omega) (by omega) (by omega) hl2).mono fun _ _ ⟨⟨v, _, _, h1⟩, h2, h3, h4⟩ => ⟨⟨v, h1⟩, h.step h2 h3 h4, h4⟩
      have HP : Hid (∀ X M, DL w X N SB L B s c t a len cap (k + 1) y va n vc q → LCN X M #[.int .i64 0, .int .i64 100, .int .i64 900] → Calls Try.prog 39 #[.pointer (some ⟨SB, 0, none⟩), .slice (some ⟨M, 0, none⟩) 3 3] X fun e w' => (∃ v : Int, e = .returned (.int .i64 v)) ∧ DL w w' N SB L B s c t a len cap (k + 2) y va n vc q ∧ ApartH SB X w') := fun X M h hl => by
        have hMS : M ≠ SB := fun e => by
          have h0 := h.sr.c0
          have h1 := hl.cells [0, 100, 900] rfl 0 0 rfl
          rw [e, h0] at h1
          cases h1
        refine (l1Pick_any X SB a len cap (k + 1) h.sr M [0, 100, 900] hMS 3 rfl (hl.cells [0, 100, 900] rfl) (by omega) (by omega) (by omega) hl2).mono fun _ w' ⟨⟨v, _, h1⟩, h2⟩ => ?_
        obtain ⟨hs, hb⟩ := h.sr.stepped h2
        exact ⟨⟨v, h1⟩, h.step hs hb (ApartH.stepped h2), ApartH.stepped h2⟩
      have HE : Hid (∀ X x1 x2, DL w X N SB L B s c t a len cap (k + 2) y va n vc q → Calls Try.prog 10 #[.agg #[.int .i64 y, .slice va n vc], .agg #[.int .i64 s, .int .i64 c, .int .i64 t], .int .i64 x1, .int .i64 x2] X fun e w' => (∃ (ec ey : Int) (ea : Option Addr) (en ek : Nat) (el : List Wt) (eu : Bool), e = .returned (.agg #[.int .i64 ec, .int .i64 ey, .slice ea en ek, .bool eu]) ∧ el.length = en ∧ OwnWt w' (B + 1) (.slice ea en ek) el ∧ (ec = 0 → (0 ≤ ey ∧ ey ≤ 8) ∧ en ≤ 8)) ∧ DL w w' N SB L B s c t a len cap (k + 2) y va n vc q ∧ ApartH SB X w') := fun X x1 x2 h => by
        obtain ⟨z1, z2, z3, _, z4⟩ := h.ow.in
        simp only [Value.slice.injEq] at z3
        have z := specEnterO_any X y va vc q s c t x1 x2 (by have := h.ln; have := HY.out; omega) (by rw [z3.1]; exact z4)
        rw [h.ln] at z
        refine z.mono fun _ w' ⟨⟨ea, ek, h1, h2, _⟩, h3⟩ => ⟨⟨_, _, ea, _, ek, _, _, h1, rfl, h2.lower (by have := h.bu.lt; omega), fun h0 => enter_small h0⟩, h.keep h3, .below h3⟩
      have HKC : Hid (∀ X kk, DL w X N SB L B s c t a len cap kk y va n vc q → X.cell? ⟨B, 0, none⟩ = some (.int .i64 y) ∧ X.cell? ⟨B, 1, none⟩ = some (.slice va n vc) ∧ X.cell? ⟨L, 0, none⟩ = some (.int .i64 s) ∧ X.cell? ⟨L, 1, none⟩ = some (.int .i64 c) ∧ X.cell? ⟨L, 2, none⟩ = some (.int .i64 t)) := fun X kk h => ⟨h.bu.c0, h.bu.c1, h.la.c0, h.la.c1, h.la.c2⟩
      have hLE : ∀ X : World, X.heap.size = X.heap.size := fun _ => rfl
      have SR := rulW (show B < wr.heap.size ∧ SB < B from ⟨JR.out.bu.lt, by have := JR.out.lt; omega⟩)
      clear hLE hy hn8
      go_wp2_with fail
      go_cut [9] from 21 to 28 (fun p wx => ∃ (P : Nat) (ec ey : Int) (ea : Option Addr) (en ek : Nat) (el : List Wt) (eu : Bool), p = .pointer (some ⟨P, 0, none⟩) ∧ B < P ∧ el.length = en ∧ (ec = 0 → (0 ≤ ey ∧ ey ≤ 8) ∧ en ≤ 8) ∧ OwnWt wx (B + 1) (.slice ea en ek) el ∧ DL w wx N SB L B s c t a len cap (k + 2) y va n vc q ∧ D4 wx P (.int .i64 ec) (.int .i64 ey) (.slice ea en ek) (.bool eu))
      case first =>
        go_region_held3 (fun X => X.cell? ⟨B, 0, none⟩ = some (.int .i64 y) ∧ X.cell? ⟨B, 1, none⟩ = some (.slice va n vc) ∧ X.cell? ⟨L, 0, none⟩ = some (.int .i64 s) ∧ X.cell? ⟨L, 1, none⟩ = some (.int .i64 c) ∧ X.cell? ⟨L, 2, none⟩ = some (.int .i64 t))
          (first | ((with_reducible refine HKC.out _ k ?_); (repeat (first | with_reducible exact JE.out | with_reducible exact JP.out | with_reducible exact JA.out | with_reducible exact JR.out | with_reducible refine DL.al ?_ | with_reducible refine DL.drw ?_)); done) | ((with_reducible refine HKC.out _ (k + 1) ?_); (repeat (first | with_reducible exact JE.out | with_reducible exact JP.out | with_reducible exact JA.out | with_reducible exact JR.out | with_reducible refine DL.al ?_ | with_reducible refine DL.drw ?_)); done) | ((with_reducible refine HKC.out _ (k + 2) ?_); (repeat (first | with_reducible exact JE.out | with_reducible exact JP.out | with_reducible exact JA.out | with_reducible exact JR.out | with_reducible refine DL.al ?_ | with_reducible refine DL.drw ?_)); done) | ((with_reducible refine HKC.out _ (k + 2) ?_); (with_reducible refine DL.put4 JE.out HBX.out (by first | (have := SR.out; omega) | (have := SA.out; have := SR.out; omega) | (have := SP.out; have := SR.out; omega) | (have := SE.out; have := SR.out; omega))); done))
          (first
          | (go_at_call 57; (with_reducible refine (HN.out _ ?_).mono ?_); (repeat (first | with_reducible exact JE.out | with_reducible exact JP.out | with_reducible exact JA.out | with_reducible exact JR.out | with_reducible refine DL.al ?_ | with_reducible refine DL.drw ?_)); rintro r wa ⟨⟨x1, rfl⟩, jd, ja⟩; have JA := rulW jd; have AA := rulW ja; have SA := rulW jd.bu.lt; clear jd ja)
          | (go_at_call 39; (with_reducible refine (HP.out _ _ ?_ ?_).mono ?_); (repeat (first | with_reducible exact JE.out | with_reducible exact JP.out | with_reducible exact JA.out | with_reducible exact JR.out | with_reducible refine DL.al ?_ | with_reducible refine DL.drw ?_)); (repeat (first | with_reducible exact LCN.new _ _ | with_reducible exact LCN.new1 _ _ _ | with_reducible refine LCN.ap AP.out ?_ (by first | (have := SR.out; omega) | (have := SA.out; have := SR.out; omega) | (have := SP.out; have := SR.out; omega) | (have := SE.out; have := SR.out; omega)) | with_reducible refine LCN.ap AA.out ?_ (by first | (have := SR.out; omega) | (have := SA.out; have := SR.out; omega) | (have := SP.out; have := SR.out; omega) | (have := SE.out; have := SR.out; omega)) | with_reducible refine LCN.al ?_ | with_reducible refine LCN.drw ?_)); rintro r wb ⟨⟨x2, rfl⟩, jd, ja⟩; have JP := rulW jd; have AP := rulW ja; have SP := rulW jd.bu.lt; clear jd ja)
          | (go_at_call 10; (with_reducible refine (HE.out _ _ _ ?_).mono ?_); (repeat (first | with_reducible exact JE.out | with_reducible exact JP.out | with_reducible exact JA.out | with_reducible exact JR.out | with_reducible refine DL.al ?_ | with_reducible refine DL.drw ?_)); rintro r we ⟨⟨ec, ey, ea, en, ek, el, eu, rfl, hel, heo, hez⟩, jd, ja⟩; have JE := rulW jd; have AE := rulW ja; have SE := rulW jd.bu.lt; have HEO := rulW heo; have HEZ := rulW hez; clear jd ja heo hez; (first | (refine useB (p := BXE we wr.heap.size (.int .i64 0) (.int .i64 0) (.slice none 0 0) (.bool false)) ?_ ?_; (focus ((repeat (first | with_reducible exact BXE.new _ _ _ _ _ | with_reducible exact BXE.new1 _ _ _ _ _ _ | with_reducible refine BXE.ap AE.out ?_ (by first | (have := SR.out; omega) | (have := SA.out; have := SR.out; omega) | (have := SP.out; have := SR.out; omega) | (have := SE.out; have := SR.out; omega)) | with_reducible refine BXE.ap AP.out ?_ (by first | (have := SR.out; omega) | (have := SA.out; have := SR.out; omega) | (have := SP.out; have := SR.out; omega) | (have := SE.out; have := SR.out; omega)) | with_reducible refine BXE.ap AA.out ?_ (by first | (have := SR.out; omega) | (have := SA.out; have := SR.out; omega) | (have := SP.out; have := SR.out; omega) | (have := SE.out; have := SR.out; omega)) | with_reducible refine BXE.al ?_ | with_reducible refine BXE.drw ?_)); done)); intro hbx) | (refine useB (p := BXE we (wr.heap.size + 1) (.int .i64 0) (.int .i64 0) (.slice none 0 0) (.bool false)) ?_ ?_; (focus ((repeat (first | with_reducible exact BXE.new _ _ _ _ _ | with_reducible exact BXE.new1 _ _ _ _ _ _ | with_reducible refine BXE.ap AE.out ?_ (by first | (have := SR.out; omega) | (have := SA.out; have := SR.out; omega) | (have := SP.out; have := SR.out; omega) | (have := SE.out; have := SR.out; omega)) | with_reducible refine BXE.ap AP.out ?_ (by first | (have := SR.out; omega) | (have := SA.out; have := SR.out; omega) | (have := SP.out; have := SR.out; omega) | (have := SE.out; have := SR.out; omega)) | with_reducible refine BXE.ap AA.out ?_ (by first | (have := SR.out; omega) | (have := SA.out; have := SR.out; omega) | (have := SP.out; have := SR.out; omega) | (have := SE.out; have := SR.out; omega)) | with_reducible refine BXE.al ?_ | with_reducible refine BXE.drw ?_)); done)); intro hbx) | (refine useB (p := BXE we wa.heap.size (.int .i64 0) (.int .i64 0) (.slice none 0 0) (.bool false)) ?_ ?_; (focus ((repeat (first | with_reducible exact BXE.new _ _ _ _ _ | with_reducible exact BXE.new1 _ _ _ _ _ _ | with_reducible refine BXE.ap AE.out ?_ (by first | (have := SR.out; omega) | (have := SA.out; have := SR.out; omega) | (have := SP.out; have := SR.out; omega) | (have := SE.out; have := SR.out; omega)) | with_reducible refine BXE.ap AP.out ?_ (by first | (have := SR.out; omega) | (have := SA.out; have := SR.out; omega) | (have := SP.out; have := SR.out; omega) | (have := SE.out; have := SR.out; omega)) | with_reducible refine BXE.ap AA.out ?_ (by first | (have := SR.out; omega) | (have := SA.out; have := SR.out; omega) | (have := SP.out; have := SR.out; omega) | (have := SE.out; have := SR.out; omega)) | with_reducible refine BXE.al ?_ | with_reducible refine BXE.drw ?_)); done)); intro hbx) | (refine useB (p := BXE we (wa.heap.size + 1) (.int .i64 0) (.int .i64 0) (.slice none 0 0) (.bool false)) ?_ ?_; (focus ((repeat (first | with_reducible exact BXE.new _ _ _ _ _ | with_reducible exact BXE.new1 _ _ _ _ _ _ | with_reducible refine BXE.ap AE.out ?_ (by first | (have := SR.out; omega) | (have := SA.out; have := SR.out; omega) | (have := SP.out; have := SR.out; omega) | (have := SE.out; have := SR.out; omega)) | with_reducible refine BXE.ap AP.out ?_ (by first | (have := SR.out; omega) | (have := SA.out; have := SR.out; omega) | (have := SP.out; have := SR.out; omega) | (have := SE.out; have := SR.out; omega)) | with_reducible refine BXE.ap AA.out ?_ (by first | (have := SR.out; omega) | (have := SA.out; have := SR.out; omega) | (have := SP.out; have := SR.out; omega) | (have := SE.out; have := SR.out; omega)) | with_reducible refine BXE.al ?_ | with_reducible refine BXE.drw ?_)); done)); intro hbx) | (refine useB (p := BXE we wb.heap.size (.int .i64 0) (.int .i64 0) (.slice none 0 0) (.bool false)) ?_ ?_; (focus ((repeat (first | with_reducible exact BXE.new _ _ _ _ _ | with_reducible exact BXE.new1 _ _ _ _ _ _ | with_reducible refine BXE.ap AE.out ?_ (by first | (have := SR.out; omega) | (have := SA.out; have := SR.out; omega) | (have := SP.out; have := SR.out; omega) | (have := SE.out; have := SR.out; omega)) | with_reducible refine BXE.ap AP.out ?_ (by first | (have := SR.out; omega) | (have := SA.out; have := SR.out; omega) | (have := SP.out; have := SR.out; omega) | (have := SE.out; have := SR.out; omega)) | with_reducible refine BXE.ap AA.out ?_ (by first | (have := SR.out; omega) | (have := SA.out; have := SR.out; omega) | (have := SP.out; have := SR.out; omega) | (have := SE.out; have := SR.out; omega)) | with_reducible refine BXE.al ?_ | with_reducible refine BXE.drw ?_)); done)); intro hbx) | (refine useB (p := BXE we (wb.heap.size + 1) (.int .i64 0) (.int .i64 0) (.slice none 0 0) (.bool false)) ?_ ?_; (focus ((repeat (first | with_reducible exact BXE.new _ _ _ _ _ | with_reducible exact BXE.new1 _ _ _ _ _ _ | with_reducible refine BXE.ap AE.out ?_ (by first | (have := SR.out; omega) | (have := SA.out; have := SR.out; omega) | (have := SP.out; have := SR.out; omega) | (have := SE.out; have := SR.out; omega)) | with_reducible refine BXE.ap AP.out ?_ (by first | (have := SR.out; omega) | (have := SA.out; have := SR.out; omega) | (have := SP.out; have := SR.out; omega) | (have := SE.out; have := SR.out; omega)) | with_reducible refine BXE.ap AA.out ?_ (by first | (have := SR.out; omega) | (have := SA.out; have := SR.out; omega) | (have := SP.out; have := SR.out; omega) | (have := SE.out; have := SR.out; omega)) | with_reducible refine BXE.al ?_ | with_reducible refine BXE.drw ?_)); done)); intro hbx) | skip); (try (have f0 := hbx.d4.fr 0; have f1 := hbx.d4.fr 1; have f2 := hbx.d4.fr 2; have f3 := hbx.d4.fr 3; have p0 := hbx.d4.c0; have p1 := hbx.d4.c1; have p2 := hbx.d4.c2; have p3 := hbx.d4.c3; have HBX := rulW hbx; clear hbx))))
        all_goals
          go_wp2_with fail
          go_meet
          first
          | exact ⟨we.heap.size, ec, ey, ea, en, ek, el, eu, rfl, SE.out, hel, HEZ.out, HEO.out.below ((Below.refl _ _).alloc (Nat.le_refl _) _), JE.out.al, D4.new we _ _ _ _ _⟩
          | exact ⟨_, ec, ey, ea, en, ek, el, eu, rfl, (by first | (have := SR.out; omega) | (have := SA.out; have := SR.out; omega) | (have := SP.out; have := SR.out; omega) | (have := SE.out; have := SR.out; omega)), hel, HEZ.out, DL.fin4 JE.out HEO.out HBX.out (by first | (have := SR.out; omega) | (have := SA.out; have := SR.out; omega) | (have := SP.out; have := SR.out; omega) | (have := SE.out; have := SR.out; omega))⟩
      case rest =>
        obtain ⟨P, ec, ey, ea, en, ek, el, eu, rfl, hBP, hel, hez, heo, hdl, hd4⟩ := hcut
        have JX := rulW hdl
        have HEO := rulW heo
        have HD4 := rulW hd4
        have HEL := rulW hel
        have HEZ := rulW hez
        clear HN HP HE HKC SR JR heo hdl hd4 hel hez
        generalize wc = w5 at *
        clear wr
        obtain ⟨d0, d1, d2, d3, df, _⟩ := HD4.out
        by_cases h0 : ec = 0
        · subst h0
          obtain ⟨b0, b1, bf, _⟩ := JX.out.bu
          have bf0 := bf 0
          have bf1 := bf 1
          clear bf df
          have J2 := rulW (DL.put (y' := ey) JX.out HEO.out HEL.out)
          have HB2 := HEZ.out rfl
          obtain ⟨W2, hW2⟩ : ∃ W, W = (w5.setCell ⟨B, 0, none⟩ (.int .i64 ey)).setCell ⟨B, 1, none⟩ (.slice ea en ek) := ⟨_, rfl⟩
          rw [← hW2] at J2
          have HW2 := rulW hW2
          have hPB : ¬ P = B := by omega
          have hBP' : ¬ B = P := by omega
          clear hW2 JX HEO HD4 HEL HEZ HY
          go_upto_region 10 with fail
          rw [← HW2.out]
          clear HW2 d0 d1 d2 d3 b0 b1 bf0 bf1
          obtain ⟨b0, b1, _, _⟩ := J2.out.bu
          by_cases hy0 : 0 < ey
          · have hd0 : decide (0 < ey) = true := by simpa using hy0
            go_wp2_with fail
            refine (l1Chance_h _ SB a len cap (k + 2) 5 J2.out.sr (by omega) (by omega) (by omega) hl2).mono ?_
            rintro r w6 ⟨⟨b5, rfl⟩, hs1, hb1, ha1⟩
            have J6 := rulW (J2.out.step hs1 hb1 ha1)
            clear hs1 hb1 ha1 J2 b0 b1
            cases b5
            · go_wp2_with fail
              go_roundw
              case rel => exact ⟨M, k + 3, ey, ea, en, ek, el, by go_num, by omega, by omega, HB2.1, HB2.2, J6.out⟩
              case measure => simp [intOf]
            · have HLV : Hid (Calls Try.prog 53 #[.pointer (some ⟨B, 0, none⟩)] w6 fun e w' => LeftO w6 w' B (B + 1) ey el e) := by
                obtain ⟨z1, z2, z3, _, z4⟩ := J6.out.ow.in
                simp only [Value.slice.injEq] at z3
                have hln := J6.out.ln
                refine specLeftO_any w6 B (B + 1) ey ea ek el ⟨by omega, HB2.1.2⟩ (by have := HB2.2; omega) ?_ (by have := J6.out.bu.lt; omega) ?_ (by rw [z3.1]; exact z4) ?_ ?_
                · rw [hln]; exact J6.out.ow.cap
                · rw [hln]; exact J6.out.bu
                · rw [hln]; exact J6.out.ow
                · intro G hG e
                  rw [hln] at hG
                  have := row_ge J6.out.ow G hG
                  omega
              go_wp2_with fail
              refine HLV.out.mono ?_
              rintro r w7 ⟨a2, c2, rfl, h2, ho, _, hg⟩
              have J7 := rulW (J6.out.turn h2 ho rfl hg)
              have hb8 : 0 ≤ busyW ey el ∧ busyW ey el ≤ 8 := by
                cases el with
                | nil => simp only [busyW]; omega
                | cons z zs => simp only [busyW]; exact HB2.1
              have ht8 : (el).tail.length ≤ 8 := by have h1 := J6.out.ln; have h2 := HB2.2; rw [List.length_tail]; omega
              clear h2 ho hg J6 HLV
              generalize busyW ey el = by2 at *
              generalize (el).tail = qt at *
              go_wp2_with fail
              go_roundw
              case rel => exact ⟨M, k + 3, by2, a2, qt.length, c2, qt, by go_num, by omega, by omega, hb8, ht8, J7.out⟩
              case measure => simp [intOf]
          · have hd0 : decide (0 < ey) = false := by simpa using hy0
            go_wp2_with fail
            go_roundw
            case rel => exact ⟨M, k + 2, ey, ea, en, ek, el, by go_num, by omega, by omega, HB2.1, HB2.2, J2.out⟩
            case measure => simp [intOf]
        · have hq1 : (ec == 0) = false := by simpa using h0
          have J2 := rulW JX.out
          have HB2 := HY.out
          clear JX HEO HD4 HEL HEZ HY df
          go_upto_region 10 with fail
          clear d0 d1 d2 d3
          obtain ⟨b0, b1, _, _⟩ := J2.out.bu
          by_cases hy0 : 0 < y
          · have hd0 : decide (0 < y) = true := by simpa using hy0
            go_wp2_with fail
            refine (l1Chance_h _ SB a len cap (k + 2) 5 J2.out.sr (by omega) (by omega) (by omega) hl2).mono ?_
            rintro r w6 ⟨⟨b5, rfl⟩, hs1, hb1, ha1⟩
            have J6 := rulW (J2.out.step hs1 hb1 ha1)
            clear hs1 hb1 ha1 J2 b0 b1
            cases b5
            · go_wp2_with fail
              go_roundw
              case rel => exact ⟨M, k + 3, y, va, n, vc, q, by go_num, by omega, by omega, HB2.1, HB2.2, J6.out⟩
              case measure => simp [intOf]
            · have HLV : Hid (Calls Try.prog 53 #[.pointer (some ⟨B, 0, none⟩)] w6 fun e w' => LeftO w6 w' B (B + 1) y q e) := by
                obtain ⟨z1, z2, z3, _, z4⟩ := J6.out.ow.in
                simp only [Value.slice.injEq] at z3
                have hln := J6.out.ln
                refine specLeftO_any w6 B (B + 1) y va vc q ⟨by omega, HB2.1.2⟩ (by have := HB2.2; omega) ?_ (by have := J6.out.bu.lt; omega) ?_ (by rw [z3.1]; exact z4) ?_ ?_
                · rw [hln]; exact J6.out.ow.cap
                · rw [hln]; exact J6.out.bu
                · rw [hln]; exact J6.out.ow
                · intro G hG e
                  rw [hln] at hG
                  have := row_ge J6.out.ow G hG
                  omega
              go_wp2_with fail
              refine HLV.out.mono ?_
              rintro r w7 ⟨a2, c2, rfl, h2, ho, _, hg⟩
              have J7 := rulW (J6.out.turn h2 ho rfl hg)
              have hb8 : 0 ≤ busyW y q ∧ busyW y q ≤ 8 := by
                cases q with
                | nil => simp only [busyW]; omega
                | cons z zs => simp only [busyW]; exact HB2.1
              have ht8 : (q).tail.length ≤ 8 := by have h1 := J6.out.ln; have h2 := HB2.2; rw [List.length_tail]; omega
              clear h2 ho hg J6 HLV
              generalize busyW y q = by2 at *
              generalize (q).tail = qt at *
              go_wp2_with fail
              go_roundw
              case rel => exact ⟨M, k + 3, by2, a2, qt.length, c2, qt, by go_num, by omega, by omega, hb8, ht8, J7.out⟩
              case measure => simp [intOf]
          · have hd0 : decide (0 < y) = false := by simpa using hy0
            go_wp2_with fail
            go_roundw
            case rel => exact ⟨M, k + 2, y, va, n, vc, q, by go_num, by omega, by omega, HB2.1, HB2.2, J2.out⟩
            case measure => simp [intOf]
    | zero =>
      have HB8 := rulW (show (0 ≤ y ∧ y ≤ 8) ∧ n ≤ 8 from ⟨hy, hn8⟩)
      clear hy hn8
      go_wp2_with fail
      refine (l1Next_h _ SB a len cap k 16 JR.out.sr (by omega) (by omega) (by omega) hl2).mono ?_
      rintro r w5 ⟨⟨v, v0, v1, rfl⟩, hs1, hb1, ha1⟩
      have J1 := rulW (JR.out.step hs1 hb1 ha1)
      clear hs1 hb1 ha1 JR
      clear wr
      go_upto_block 2 with fail
      go_cut [] from 44 to 71 (fun wx => ∃ (s c t y : Int) (va : Option Addr) (n vc : Nat) (q : List Wt) (k : Nat), n ≤ 9 ∧ k ≤ 70 ∧ DL w wx N SB L B s c t a len cap k y va n vc q)
      case first =>
        have n0 : ¬ v = 0 → (v == 0) = false := fun h => by simpa using h
        have n1 : ¬ v = 1 → (v == 1) = false := fun h => by simpa using h
        have n2 : ¬ v = 2 → (v == 2) = false := fun h => by simpa using h
        by_cases hv0 : v = 0
        · subst hv0
          clear n0 n1 n2
          obtain ⟨l0, l1, l2, _, _⟩ := J1.out.la
          go_wp2_with fail
          refine (l1Pick_h _ SB a len cap (k + 1) J1.out.sr [-1, 9, s] 3 rfl (by omega) (by omega) (by omega) hl2).mono ?_
          rintro r w6 ⟨⟨x, _, rfl⟩, hs1, hb1, ha1⟩
          have J2 := rulW (J1.out.step hs1 hb1 ha1)
          clear hs1 hb1 ha1 J1 l0 l1 l2
          have J3 := rulW (J2.out.s0 x)
          obtain ⟨c0, c1, fr, _⟩ := J2.out.bu
          have f0 := fr 0
          clear fr J2
          go_wp2_with fail
          go_meet
          exact ⟨_, _, _, _, va, n, vc, q, k + 2, by have := HB8.out; omega, by omega, J3.out⟩
        by_cases hv1 : v = 1
        · subst hv1
          have z0 := n0 (by omega)
          clear n0 n1 n2
          have HP1 : Hid (∀ X M, DL w X N SB L B s c t a len cap (k + 1) y va n vc q → LCN X M #[.int .i64 (-1), .int .i64 3, .int .i64 4] → Calls Try.prog 39 #[.pointer (some ⟨SB, 0, none⟩), .slice (some ⟨M, 0, none⟩) 3 3] X fun e w' => (∃ v : Int, e = .returned (.int .i64 v)) ∧ DL w w' N SB L B s c t a len cap ((k + 1) + 1) y va n vc q ∧ ApartH SB X w') := fun X M h hl => by
            have hMS : M ≠ SB := fun e => by
              have h0 := h.sr.c0
              have h1 := hl.cells [-1, 3, 4] rfl 0 _ rfl
              rw [e, h0] at h1
              cases h1
            refine (l1Pick_any X SB a len cap (k + 1) h.sr M [-1, 3, 4] hMS 3 rfl (hl.cells [-1, 3, 4] rfl) (by omega) (by omega) (by omega) hl2).mono fun _ w' ⟨⟨v, _, h1⟩, h2⟩ => ?_
            obtain ⟨hs, hb⟩ := h.sr.stepped h2
            exact ⟨⟨v, h1⟩, h.step hs hb (ApartH.stepped h2), ApartH.stepped h2⟩
          have HP2 : Hid (∀ X M, DL w X N SB L B s c t a len cap (k + 2) y va n vc q → LCN X M #[.int .i64 (-1), .int .i64 5, .int .i64 5] → Calls Try.prog 39 #[.pointer (some ⟨SB, 0, none⟩), .slice (some ⟨M, 0, none⟩) 3 3] X fun e w' => (∃ v : Int, e = .returned (.int .i64 v)) ∧ DL w w' N SB L B s c t a len cap ((k + 2) + 1) y va n vc q ∧ ApartH SB X w') := fun X M h hl => by
            have hMS : M ≠ SB := fun e => by
              have h0 := h.sr.c0
              have h1 := hl.cells [-1, 5, 5] rfl 0 _ rfl
              rw [e, h0] at h1
              cases h1
            refine (l1Pick_any X SB a len cap (k + 2) h.sr M [-1, 5, 5] hMS 3 rfl (hl.cells [-1, 5, 5] rfl) (by omega) (by omega) (by omega) hl2).mono fun _ w' ⟨⟨v, _, h1⟩, h2⟩ => ?_
            obtain ⟨hs, hb⟩ := h.sr.stepped h2
            exact ⟨⟨v, h1⟩, h.step hs hb (ApartH.stepped h2), ApartH.stepped h2⟩
          have JR := rulW J1.out
          have SR := rulW (show B < w5.heap.size ∧ SB < B from ⟨JR.out.bu.lt, by have := JR.out.lt; omega⟩)
          have HKC : Hid (∀ X kk, DL w X N SB L B s c t a len cap kk y va n vc q → X.cell? ⟨B, 1, none⟩ = some (.slice va n vc)) := fun X kk h => h.bu.c1
          have HKD : Hid (∀ X, D2 X B (.int .i64 y) (.slice va n vc) → X.cell? ⟨B, 1, none⟩ = some (.slice va n vc)) := fun X h => h.c1
          have HS0 := rulW (HKC.out _ (k + 1) JR.out.drw)
          clear J1
          go_wp2_with fail
          refine wp_region_last (fun X : World => X.cell? ⟨B, 1, none⟩ = some (.slice va n vc)) 12 (by kernel_rfl) ?_
          refine butLast_take (i := 0) (v := .pointer (some ⟨B, 1, none⟩)) rfl (by kernel_rfl) (by kernel_rfl) (by kernel_rfl) (by kernel_rfl) (fun _ _ _ h => h) (Or.inl ⟨by kernel_rfl, ?_⟩) HS0.out ?_
          · intro X s1
            go_simp
          try simp only [Act.put, List.setIfInBounds_toArray, List.set_cons_zero, List.set_cons_succ]
          refine butLast_take (i := 1) (v := .slice va n vc) rfl (by kernel_rfl) (by kernel_rfl) (by kernel_rfl) (by kernel_rfl) (fun _ _ _ h => h) (Or.inl ⟨by kernel_rfl, ?_⟩) HS0.out ?_
          · intro X s1
            go_simp
          try simp only [Act.put, List.setIfInBounds_toArray, List.set_cons_zero, List.set_cons_succ]
          refine butLast_take (i := 2) (v := .pointer (some ⟨SB, 0, none⟩)) rfl (by kernel_rfl) (by kernel_rfl) (by kernel_rfl) (by kernel_rfl) (fun _ _ _ h => h) (Or.inl ⟨by kernel_rfl, ?_⟩) HS0.out ?_
          · intro X s1
            go_simp
          try simp only [Act.put, List.setIfInBounds_toArray, List.set_cons_zero, List.set_cons_succ]
          refine butLast_take (i := 5) (v := .pointer (some ⟨SB, 0, none⟩)) rfl (by kernel_rfl) (by kernel_rfl) (by kernel_rfl) (by kernel_rfl) (fun _ _ _ h => h) (Or.inl ⟨by kernel_rfl, ?_⟩) HS0.out ?_
          · intro X s1
            go_simp
          try simp only [Act.put, List.setIfInBounds_toArray, List.set_cons_zero, List.set_cons_succ]
          refine butLast_two (i := 3) (j := 6) rfl rfl (by kernel_rfl) (fun K hK => ?_) (fun K hK => ?_)
          · go_simp
            refine hK _ _ (.inr ?_) ?_
            · (with_reducible refine HKC.out _ (k + 1) ?_); (repeat (first | with_reducible exact JP.out | with_reducible exact JA.out | with_reducible exact JR.out | with_reducible refine DL.al ?_ | with_reducible refine DL.drw ?_))
            clear hK K
            try simp only [Act.put, List.setIfInBounds_toArray, List.set_cons_zero, List.set_cons_succ]
            refine butLast_two (i := 4) (j := 6) rfl rfl (by kernel_rfl) (fun K hK => ?_) (fun K hK => ?_)
            · go_simp
              refine (HP1.out _ _ ?_ ?_).mono ?_
              · (repeat (first | with_reducible exact JP.out | with_reducible exact JA.out | with_reducible exact JR.out | with_reducible refine DL.al ?_ | with_reducible refine DL.drw ?_))
              · (repeat (first | with_reducible exact LCN.new _ _ | with_reducible exact LCN.new1 _ _ _ | with_reducible refine LCN.ap AP.out ?_ (by first | (have := SR.out; omega) | (have := SA.out; have := SR.out; omega) | (have := SP.out; have := SR.out; omega) | (have := SE.out; have := SR.out; omega)) | with_reducible refine LCN.ap AA.out ?_ (by first | (have := SR.out; omega) | (have := SA.out; have := SR.out; omega) | (have := SP.out; have := SR.out; omega) | (have := SE.out; have := SR.out; omega)) | with_reducible refine LCN.al ?_ | with_reducible refine LCN.drw ?_))
              rintro r wa ⟨⟨x1, rfl⟩, jd, ja⟩
              have JA := rulW jd
              have AA := rulW ja
              have SA := rulW jd.bu.lt
              clear jd ja
              refine hK _ _ (.inr (HKC.out _ (k + 2) JA.out)) ?_
              clear hK K
              try simp only [Act.put, List.setIfInBounds_toArray, List.set_cons_zero, List.set_cons_succ]
              refine butLast_one (i := 6) rfl (by kernel_rfl) (fun K hK => ?_)
              go_simp
              refine hK _ _ (.inr ?_) ?_
              · (with_reducible refine HKC.out _ (k + 2) ?_); (repeat (first | with_reducible exact JP.out | with_reducible exact JA.out | with_reducible exact JR.out | with_reducible refine DL.al ?_ | with_reducible refine DL.drw ?_))
              clear hK K
              try simp only [Act.put, List.setIfInBounds_toArray, List.set_cons_zero, List.set_cons_succ]
              refine butLast_one (i := 7) rfl (by kernel_rfl) (fun K hK => ?_)
              go_simp
              refine (HP2.out _ _ ?_ ?_).mono ?_
              · (repeat (first | with_reducible exact JP.out | with_reducible exact JA.out | with_reducible exact JR.out | with_reducible refine DL.al ?_ | with_reducible refine DL.drw ?_))
              · (repeat (first | with_reducible exact LCN.new _ _ | with_reducible exact LCN.new1 _ _ _ | with_reducible refine LCN.ap AP.out ?_ (by first | (have := SR.out; omega) | (have := SA.out; have := SR.out; omega) | (have := SP.out; have := SR.out; omega) | (have := SE.out; have := SR.out; omega)) | with_reducible refine LCN.ap AA.out ?_ (by first | (have := SR.out; omega) | (have := SA.out; have := SR.out; omega) | (have := SP.out; have := SR.out; omega) | (have := SE.out; have := SR.out; omega)) | with_reducible refine LCN.al ?_ | with_reducible refine LCN.drw ?_))
              rintro r wb ⟨⟨x2, rfl⟩, jd, ja⟩
              have JP := rulW jd
              have AP := rulW ja
              have SP := rulW jd.bu.lt
              clear jd ja
              refine hK _ _ (.inr (HKC.out _ (k + 3) JP.out)) ?_
              clear hK K
              try simp only [Act.put, List.setIfInBounds_toArray, List.set_cons_zero, List.set_cons_succ]
              refine butLast_one (i := 8) rfl (by kernel_rfl) (fun K hK => ?_)
              go_simp
              refine hK _ _ (.inr ?_) ?_
              · (with_reducible refine HKC.out _ (k + 3) ?_); (repeat (first | with_reducible exact JP.out | with_reducible exact JA.out | with_reducible exact JR.out | with_reducible refine DL.al ?_ | with_reducible refine DL.drw ?_))
              clear hK K
              try simp only [Act.put, List.setIfInBounds_toArray, List.set_cons_zero, List.set_cons_succ]
              refine butLast_one (i := 9) rfl (by kernel_rfl) (fun K hK => ?_)
              go_simp
              have J3 := rulW (JP.out.al (o := .cells #[.int .i64 x1, .int .i64 x2] 40))
              refine hK _ _ (.inr (HKC.out _ (k + 3) J3.out)) ?_
              clear hK K
              try simp only [Act.put, List.setIfInBounds_toArray, List.set_cons_zero, List.set_cons_succ]
              obtain ⟨X3, hX3⟩ : ∃ X3, X3 = wb.alloc (.cells #[.int .i64 x1, .int .i64 x2] 40) := ⟨_, rfl⟩
              have N3 : Hid (X3.cell? ⟨wb.heap.size, 0, none⟩ = some (.int .i64 x1) ∧ X3.cell? ⟨wb.heap.size, 1, none⟩ = some (.int .i64 x2)) := by rw [hX3]; exact ⟨by simp, by simp⟩
              rw [← hX3] at J3 ⊢
              have bs3 : Hid (B + 1 ≤ X3.heap.size) := J3.out.bu.lt
              clear hX3
              refine butLast_one (i := 10) rfl (by kernel_rfl) (fun K hK => ?_)
              refine step_append1Wt X3 (by rfl) _ _ (by rfl) (B + 1) _ q ⟨x1, x2⟩ wb.heap.size n J3.out.ln (by rfl) J3.out.ow (by rfl) N3.out.1 N3.out.2 (by have := HB8.out; omega) bs3.out ?_
              intro g5 vc5 w7 h41 h42 h43
              have HL5 : (q ++ [(⟨x1, x2⟩ : Wt)]).length = n + 1 := by rw [List.length_append, J3.out.ln]; rfl
              obtain ⟨l5, hl5⟩ : ∃ l5, q ++ [(⟨x1, x2⟩ : Wt)] = l5 := ⟨_, rfl⟩
              rw [hl5] at HL5 h41
              clear hl5
              have JQ := rulW (J3.out.push h41 HL5 h42)
              clear h41 h42 h43 HL5 J3 JP JA AA AP N3 bs3
              refine hK _ _ (.inr (HKD.out _ JQ.out.2)) ?_
              clear hK K
              try simp only [Act.put, List.setIfInBounds_toArray, List.set_cons_zero, List.set_cons_succ]
              refine butLast_one (i := 11) rfl (by kernel_rfl) (fun K hK => ?_)
              go_simp
              refine hK _ _ (.inr (HKD.out _ JQ.out.2)) ?_
              clear hK K
              try simp only [Act.put, List.setIfInBounds_toArray, List.set_cons_zero, List.set_cons_succ]
              obtain ⟨b0, b1, bf, _⟩ := JQ.out.2
              have bf1 := bf 1
              clear bf
              refine butLast_one (i := 12) rfl (by kernel_rfl) (fun K hK => ?_)
              go_simp
              refine hK _ _ (.inl rfl) ?_
              clear hK K
              refine butLast_end (by kernel_rfl) ?_
              go_wp2_with fail
              go_meet
              exact ⟨_, _, _, _, _, n + 1, vc5, l5, k + 3, by have := HB8.out; omega, by omega, JQ.out.1⟩
            · go_simp
              refine hK _ _ (.inr ?_) ?_
              · (with_reducible refine HKC.out _ (k + 1) ?_); (repeat (first | with_reducible exact JP.out | with_reducible exact JA.out | with_reducible exact JR.out | with_reducible refine DL.al ?_ | with_reducible refine DL.drw ?_))
              clear hK K
              try simp only [Act.put, List.setIfInBounds_toArray, List.set_cons_zero, List.set_cons_succ]
              refine butLast_one (i := 4) rfl (by kernel_rfl) (fun K hK => ?_)
              go_simp
              refine (HP1.out _ _ ?_ ?_).mono ?_
              · (repeat (first | with_reducible exact JP.out | with_reducible exact JA.out | with_reducible exact JR.out | with_reducible refine DL.al ?_ | with_reducible refine DL.drw ?_))
              · (repeat (first | with_reducible exact LCN.new _ _ | with_reducible exact LCN.new1 _ _ _ | with_reducible refine LCN.ap AP.out ?_ (by first | (have := SR.out; omega) | (have := SA.out; have := SR.out; omega) | (have := SP.out; have := SR.out; omega) | (have := SE.out; have := SR.out; omega)) | with_reducible refine LCN.ap AA.out ?_ (by first | (have := SR.out; omega) | (have := SA.out; have := SR.out; omega) | (have := SP.out; have := SR.out; omega) | (have := SE.out; have := SR.out; omega)) | with_reducible refine LCN.al ?_ | with_reducible refine LCN.drw ?_))
              rintro r wa ⟨⟨x1, rfl⟩, jd, ja⟩
              have JA := rulW jd
              have AA := rulW ja
              have SA := rulW jd.bu.lt
              clear jd ja
              refine hK _ _ (.inr (HKC.out _ (k + 2) JA.out)) ?_
              clear hK K
              try simp only [Act.put, List.setIfInBounds_toArray, List.set_cons_zero, List.set_cons_succ]
              refine butLast_one (i := 7) rfl (by kernel_rfl) (fun K hK => ?_)
              go_simp
              refine (HP2.out _ _ ?_ ?_).mono ?_
              · (repeat (first | with_reducible exact JP.out | with_reducible exact JA.out | with_reducible exact JR.out | with_reducible refine DL.al ?_ | with_reducible refine DL.drw ?_))
              · (repeat (first | with_reducible exact LCN.new _ _ | with_reducible exact LCN.new1 _ _ _ | with_reducible refine LCN.ap AP.out ?_ (by first | (have := SR.out; omega) | (have := SA.out; have := SR.out; omega) | (have := SP.out; have := SR.out; omega) | (have := SE.out; have := SR.out; omega)) | with_reducible refine LCN.ap AA.out ?_ (by first | (have := SR.out; omega) | (have := SA.out; have := SR.out; omega) | (have := SP.out; have := SR.out; omega) | (have := SE.out; have := SR.out; omega)) | with_reducible refine LCN.al ?_ | with_reducible refine LCN.drw ?_))
              rintro r wb ⟨⟨x2, rfl⟩, jd, ja⟩
              have JP := rulW jd
              have AP := rulW ja
              have SP := rulW jd.bu.lt
              clear jd ja
              refine hK _ _ (.inr (HKC.out _ (k + 3) JP.out)) ?_
              clear hK K
              try simp only [Act.put, List.setIfInBounds_toArray, List.set_cons_zero, List.set_cons_succ]
              refine butLast_one (i := 8) rfl (by kernel_rfl) (fun K hK => ?_)
              go_simp
              refine hK _ _ (.inr ?_) ?_
              · (with_reducible refine HKC.out _ (k + 3) ?_); (repeat (first | with_reducible exact JP.out | with_reducible exact JA.out | with_reducible exact JR.out | with_reducible refine DL.al ?_ | with_reducible refine DL.drw ?_))
              clear hK K
              try simp only [Act.put, List.setIfInBounds_toArray, List.set_cons_zero, List.set_cons_succ]
              refine butLast_one (i := 9) rfl (by kernel_rfl) (fun K hK => ?_)
              go_simp
              have J3 := rulW (JP.out.al (o := .cells #[.int .i64 x1, .int .i64 x2] 40))
              refine hK _ _ (.inr (HKC.out _ (k + 3) J3.out)) ?_
              clear hK K
              try simp only [Act.put, List.setIfInBounds_toArray, List.set_cons_zero, List.set_cons_succ]
              obtain ⟨X3, hX3⟩ : ∃ X3, X3 = wb.alloc (.cells #[.int .i64 x1, .int .i64 x2] 40) := ⟨_, rfl⟩
              have N3 : Hid (X3.cell? ⟨wb.heap.size, 0, none⟩ = some (.int .i64 x1) ∧ X3.cell? ⟨wb.heap.size, 1, none⟩ = some (.int .i64 x2)) := by rw [hX3]; exact ⟨by simp, by simp⟩
              rw [← hX3] at J3 ⊢
              have bs3 : Hid (B + 1 ≤ X3.heap.size) := J3.out.bu.lt
              clear hX3
              refine butLast_one (i := 10) rfl (by kernel_rfl) (fun K hK => ?_)
              refine step_append1Wt X3 (by rfl) _ _ (by rfl) (B + 1) _ q ⟨x1, x2⟩ wb.heap.size n J3.out.ln (by rfl) J3.out.ow (by rfl) N3.out.1 N3.out.2 (by have := HB8.out; omega) bs3.out ?_
              intro g5 vc5 w7 h41 h42 h43
              have HL5 : (q ++ [(⟨x1, x2⟩ : Wt)]).length = n + 1 := by rw [List.length_append, J3.out.ln]; rfl
              obtain ⟨l5, hl5⟩ : ∃ l5, q ++ [(⟨x1, x2⟩ : Wt)] = l5 := ⟨_, rfl⟩
              rw [hl5] at HL5 h41
              clear hl5
              have JQ := rulW (J3.out.push h41 HL5 h42)
              clear h41 h42 h43 HL5 J3 JP JA AA AP N3 bs3
              refine hK _ _ (.inr (HKD.out _ JQ.out.2)) ?_
              clear hK K
              try simp only [Act.put, List.setIfInBounds_toArray, List.set_cons_zero, List.set_cons_succ]
              refine butLast_one (i := 11) rfl (by kernel_rfl) (fun K hK => ?_)
              go_simp
              refine hK _ _ (.inr (HKD.out _ JQ.out.2)) ?_
              clear hK K
              try simp only [Act.put, List.setIfInBounds_toArray, List.set_cons_zero, List.set_cons_succ]
              obtain ⟨b0, b1, bf, _⟩ := JQ.out.2
              have bf1 := bf 1
              clear bf
              refine butLast_one (i := 12) rfl (by kernel_rfl) (fun K hK => ?_)
              go_simp
              refine hK _ _ (.inl rfl) ?_
              clear hK K
              refine butLast_end (by kernel_rfl) ?_
              go_wp2_with fail
              go_meet
              exact ⟨_, _, _, _, _, n + 1, vc5, l5, k + 3, by have := HB8.out; omega, by omega, JQ.out.1⟩
          · go_simp
            refine hK _ _ (.inr ?_) ?_
            · (with_reducible refine HKC.out _ (k + 1) ?_); (repeat (first | with_reducible exact JP.out | with_reducible exact JA.out | with_reducible exact JR.out | with_reducible refine DL.al ?_ | with_reducible refine DL.drw ?_))
            clear hK K
            try simp only [Act.put, List.setIfInBounds_toArray, List.set_cons_zero, List.set_cons_succ]
            refine butLast_one (i := 3) rfl (by kernel_rfl) (fun K hK => ?_)
            go_simp
            refine hK _ _ (.inr ?_) ?_
            · (with_reducible refine HKC.out _ (k + 1) ?_); (repeat (first | with_reducible exact JP.out | with_reducible exact JA.out | with_reducible exact JR.out | with_reducible refine DL.al ?_ | with_reducible refine DL.drw ?_))
            clear hK K
            try simp only [Act.put, List.setIfInBounds_toArray, List.set_cons_zero, List.set_cons_succ]
            refine butLast_one (i := 4) rfl (by kernel_rfl) (fun K hK => ?_)
            go_simp
            refine (HP1.out _ _ ?_ ?_).mono ?_
            · (repeat (first | with_reducible exact JP.out | with_reducible exact JA.out | with_reducible exact JR.out | with_reducible refine DL.al ?_ | with_reducible refine DL.drw ?_))
            · (repeat (first | with_reducible exact LCN.new _ _ | with_reducible exact LCN.new1 _ _ _ | with_reducible refine LCN.ap AP.out ?_ (by first | (have := SR.out; omega) | (have := SA.out; have := SR.out; omega) | (have := SP.out; have := SR.out; omega) | (have := SE.out; have := SR.out; omega)) | with_reducible refine LCN.ap AA.out ?_ (by first | (have := SR.out; omega) | (have := SA.out; have := SR.out; omega) | (have := SP.out; have := SR.out; omega) | (have := SE.out; have := SR.out; omega)) | with_reducible refine LCN.al ?_ | with_reducible refine LCN.drw ?_))
            rintro r wa ⟨⟨x1, rfl⟩, jd, ja⟩
            have JA := rulW jd
            have AA := rulW ja
            have SA := rulW jd.bu.lt
            clear jd ja
            refine hK _ _ (.inr (HKC.out _ (k + 2) JA.out)) ?_
            clear hK K
            try simp only [Act.put, List.setIfInBounds_toArray, List.set_cons_zero, List.set_cons_succ]
            refine butLast_one (i := 7) rfl (by kernel_rfl) (fun K hK => ?_)
            go_simp
            refine (HP2.out _ _ ?_ ?_).mono ?_
            · (repeat (first | with_reducible exact JP.out | with_reducible exact JA.out | with_reducible exact JR.out | with_reducible refine DL.al ?_ | with_reducible refine DL.drw ?_))
            · (repeat (first | with_reducible exact LCN.new _ _ | with_reducible exact LCN.new1 _ _ _ | with_reducible refine LCN.ap AP.out ?_ (by first | (have := SR.out; omega) | (have := SA.out; have := SR.out; omega) | (have := SP.out; have := SR.out; omega) | (have := SE.out; have := SR.out; omega)) | with_reducible refine LCN.ap AA.out ?_ (by first | (have := SR.out; omega) | (have := SA.out; have := SR.out; omega) | (have := SP.out; have := SR.out; omega) | (have := SE.out; have := SR.out; omega)) | with_reducible refine LCN.al ?_ | with_reducible refine LCN.drw ?_))
            rintro r wb ⟨⟨x2, rfl⟩, jd, ja⟩
            have JP := rulW jd
            have AP := rulW ja
            have SP := rulW jd.bu.lt
            clear jd ja
            refine hK _ _ (.inr (HKC.out _ (k + 3) JP.out)) ?_
            clear hK K
            try simp only [Act.put, List.setIfInBounds_toArray, List.set_cons_zero, List.set_cons_succ]
            refine butLast_one (i := 8) rfl (by kernel_rfl) (fun K hK => ?_)
            go_simp
            refine hK _ _ (.inr ?_) ?_
            · (with_reducible refine HKC.out _ (k + 3) ?_); (repeat (first | with_reducible exact JP.out | with_reducible exact JA.out | with_reducible exact JR.out | with_reducible refine DL.al ?_ | with_reducible refine DL.drw ?_))
            clear hK K
            try simp only [Act.put, List.setIfInBounds_toArray, List.set_cons_zero, List.set_cons_succ]
            refine butLast_one (i := 9) rfl (by kernel_rfl) (fun K hK => ?_)
            go_simp
            have J3 := rulW (JP.out.al (o := .cells #[.int .i64 x1, .int .i64 x2] 40))
            refine hK _ _ (.inr (HKC.out _ (k + 3) J3.out)) ?_
            clear hK K
            try simp only [Act.put, List.setIfInBounds_toArray, List.set_cons_zero, List.set_cons_succ]
            obtain ⟨X3, hX3⟩ : ∃ X3, X3 = wb.alloc (.cells #[.int .i64 x1, .int .i64 x2] 40) := ⟨_, rfl⟩
            have N3 : Hid (X3.cell? ⟨wb.heap.size, 0, none⟩ = some (.int .i64 x1) ∧ X3.cell? ⟨wb.heap.size, 1, none⟩ = some (.int .i64 x2)) := by rw [hX3]; exact ⟨by simp, by simp⟩
            rw [← hX3] at J3 ⊢
            have bs3 : Hid (B + 1 ≤ X3.heap.size) := J3.out.bu.lt
            clear hX3
            refine butLast_one (i := 10) rfl (by kernel_rfl) (fun K hK => ?_)
            refine step_append1Wt X3 (by rfl) _ _ (by rfl) (B + 1) _ q ⟨x1, x2⟩ wb.heap.size n J3.out.ln (by rfl) J3.out.ow (by rfl) N3.out.1 N3.out.2 (by have := HB8.out; omega) bs3.out ?_
            intro g5 vc5 w7 h41 h42 h43
            have HL5 : (q ++ [(⟨x1, x2⟩ : Wt)]).length = n + 1 := by rw [List.length_append, J3.out.ln]; rfl
            obtain ⟨l5, hl5⟩ : ∃ l5, q ++ [(⟨x1, x2⟩ : Wt)] = l5 := ⟨_, rfl⟩
            rw [hl5] at HL5 h41
            clear hl5
            have JQ := rulW (J3.out.push h41 HL5 h42)
            clear h41 h42 h43 HL5 J3 JP JA AA AP N3 bs3
            refine hK _ _ (.inr (HKD.out _ JQ.out.2)) ?_
            clear hK K
            try simp only [Act.put, List.setIfInBounds_toArray, List.set_cons_zero, List.set_cons_succ]
            refine butLast_one (i := 11) rfl (by kernel_rfl) (fun K hK => ?_)
            go_simp
            refine hK _ _ (.inr (HKD.out _ JQ.out.2)) ?_
            clear hK K
            try simp only [Act.put, List.setIfInBounds_toArray, List.set_cons_zero, List.set_cons_succ]
            obtain ⟨b0, b1, bf, _⟩ := JQ.out.2
            have bf1 := bf 1
            clear bf
            refine butLast_one (i := 12) rfl (by kernel_rfl) (fun K hK => ?_)
            go_simp
            refine hK _ _ (.inl rfl) ?_
            clear hK K
            refine butLast_end (by kernel_rfl) ?_
            go_wp2_with fail
            go_meet
            exact ⟨_, _, _, _, _, n + 1, vc5, l5, k + 3, by have := HB8.out; omega, by omega, JQ.out.1⟩
        by_cases hv2 : v = 2
        · subst hv2
          have z0 := n0 (by omega)
          have z1 := n1 (by omega)
          clear n0 n1 n2
          obtain ⟨X7, hX7⟩ : ∃ X, X = w5.alloc (.cells #[.int .u8 2] 5) := ⟨_, rfl⟩
          have B1 : Hid (Below w5.heap.size w5 X7) := by show Below _ _ _; rw [hX7]; exact (Below.refl _ _).alloc (Nat.le_refl _) _
          have O1 : Hid (X7.ownsRow w5.heap.size 5 1 (.slice (some ⟨w5.heap.size, 0, none⟩) 1 1) 1 [.int .u8 2]) := by
            show World.ownsRow _ _ _ _ _ _ _
            rw [hX7]
            exact ⟨by simp, .inr ⟨w5.heap.size, 1, #[.int .u8 2], rfl, Nat.le_refl _, heap_alloc_new _ _, Nat.le_refl _, by unfold maxLen; omega, by simp, by simp⟩⟩
          have J4 := rulW (J1.out.keep B1.out)
          obtain ⟨lc, hlc, hin⟩ := bytesW_of_code J4.out.sr.row
          have HIN := rulW (dBytes_in hin)
          have HLN : Hid ((dBytes lc).length = len * 1) := by show _ = _; unfold dBytes; simp [hlc]
          have HL1 : Hid ((2 :: lc).length = 1 + len) := by show _ = _; simp [hlc]; omega
          have HDB : Hid ([Value.int .u8 2] ++ dBytes lc = dBytes (2 :: lc)) := by show _ = _; simp [dBytes]
          have HX7 := rulW hX7
          have HLC := rulW hlc
          clear hX7 hin hlc
          go_wp2_with (at_builtin; rw [← HX7.out]; refine wpList_plain rfl fun _ hK => wp_append_in X7 (.tmp 68) (.tmp 69) 22 5 rfl i0 _ 1 1 Try.underlying22 HI0.out HZ0.out HZ1.out HZ2.out rfl (by omega) w5.heap.size (.slice (some ⟨w5.heap.size, 0, none⟩) 1 1) 1 [.int .u8 2] (by rfl) O1.out a cap len (dBytes lc) (by rfl) HLN.out (by rw [← HLC.out]; exact HIN.out) (dOneB lc) (by unfold maxLen; omega) (by omega) B1.out.size (fun v' w8 h1 h2 _ => hK _ _ ?_); obtain ⟨vr, vq, rfl, _⟩ := row_form h1; rw [HDB.out] at h1; have HCR := rulW (codeW_of_row HL1.out h1); have J5 := rulW (J1.out.keep (B1.out.trans h2)); clear h1 h2)
          refine (drawLanes_any _ vr (1 + len) vq HCR.out (by omega)).mono ?_
          rintro r w9 ⟨⟨b0, b1, b2, rfl⟩, hb9⟩
          have J6 := rulW (J5.out.keep hb9)
          clear hb9 J5 J4 J1 HCR
          obtain ⟨r0, r1, r2, rf, _⟩ := J6.out.la
          have rf0 := rf 0
          have rf1 := rf 1
          have rf2 := rf 2
          clear rf
          have J7 := rulW (DL.lset (x0 := b0) (x1 := b1) (x2 := b2) J6.out)
          go_wp2_with fail
          go_meet
          exact ⟨_, _, _, _, va, n, vc, q, k + 1, by have := HB8.out; omega, by omega, J7.out⟩
        have z0 := n0 hv0
        have z1 := n1 hv1
        have z2 := n2 hv2
        clear n0 n1 n2
        go_wp2_with fail
        go_meet
        exact ⟨_, _, _, _, va, n, vc, q, k + 1, by have := HB8.out; omega, by omega, J1.out⟩
      case rest =>
        obtain ⟨s2, c2, t2, y2, va2, n2, vc2, q2, k2, hn3, hk2, hJ⟩ := hcut
        have J2 := rulW hJ
        clear hJ J1 HB8
        generalize wc = w6 at *
        have e2 := HSB.out
        subst e2
        obtain ⟨p0, p1, pf, _⟩ := J2.out.q0
        obtain ⟨x0, x1, x2, xf, _⟩ := J2.out.q1
        have pf0 := pf 0
        have pf1 := pf 1
        have xf0 := xf 0
        have xf1 := xf 1
        have xf2 := xf 2
        clear pf xf
        have HF := rulW (J2.out.fin HC.out)
        have HLN2 := rulW J2.out.ln
        have hRN : ¬ N = B ∧ ¬ N = L ∧ ¬ N + 1 = B ∧ ¬ N + 1 = L := by have := J2.out.lt; omega
        have HS0 : Hid (SBL w6 B L y2 va2 n2 vc2 s2 c2 t2) := ⟨J2.out.bu.c0, J2.out.bu.c1, J2.out.la.c0, J2.out.la.c1, J2.out.la.c2⟩
        have HKS : Hid (∀ Z i y, SBL Z B L y2 va2 n2 vc2 s2 c2 t2 → SBL (Z.setCell ⟨N, i, none⟩ y) B L y2 va2 n2 vc2 s2 c2 t2) := fun Z i y h => h.off hRN.1 hRN.2.1
        have HKT : Hid (∀ Z i y, SBL Z B L y2 va2 n2 vc2 s2 c2 t2 → SBL (Z.setCell ⟨N + 1, i, none⟩ y) B L y2 va2 n2 vc2 s2 c2 t2) := fun Z i y h => h.off hRN.2.2.1 hRN.2.2.2
        have HKD : Hid (∀ Z, SBL Z B L y2 va2 n2 vc2 s2 c2 t2 → SBL Z.drew B L y2 va2 n2 vc2 s2 c2 t2) := fun Z h => h
        have HKC : Hid (∀ Z, SBL Z B L y2 va2 n2 vc2 s2 c2 t2 → Z.cell? ⟨B, 0, none⟩ = some (.int .i64 y2) ∧ Z.cell? ⟨B, 1, none⟩ = some (.slice va2 n2 vc2) ∧ Z.cell? ⟨L, 0, none⟩ = some (.int .i64 s2) ∧ Z.cell? ⟨L, 1, none⟩ = some (.int .i64 c2) ∧ Z.cell? ⟨L, 2, none⟩ = some (.int .i64 t2)) := fun Z h => h
        clear J2 hRN
        go_wp2_with fail
        go_region_held3 (fun Z => Z.cell? ⟨B, 0, none⟩ = some (.int .i64 y2) ∧ Z.cell? ⟨B, 1, none⟩ = some (.slice va2 n2 vc2) ∧ Z.cell? ⟨L, 0, none⟩ = some (.int .i64 s2) ∧ Z.cell? ⟨L, 1, none⟩ = some (.int .i64 c2) ∧ Z.cell? ⟨L, 2, none⟩ = some (.int .i64 t2))
          (first | ((with_reducible refine HKC.out _ ?_); (repeat (first | with_reducible exact HS0.out | with_reducible refine HKS.out _ _ _ ?_ | with_reducible refine HKT.out _ _ _ ?_ | with_reducible refine HKD.out _ ?_))))
          (fail)
        all_goals
          go_wp2_with fail
          exact bodyPost_ret (v := .tuple #[.agg #[.int .i64 y2, .slice va2 n2 vc2], .agg #[.int .i64 s2, .int .i64 c2, .int .i64 t2], .pointer (some ⟨N + 2, 0, none⟩)]) (by simp [results, Try.results38, go_sem, p0, p1, x0, x1, x2]) rfl (BentL.mk HLN2.out hn3 (by omega : k2 ≤ 100) (by repeat (first | with_reducible exact HF.out | with_reducible refine FinL.set ?_ (by omega) | with_reducible refine FinL.drw ?_)))
end Go.Proofs.Ytmgidcigihpbeaa
/-
  The draw of one who enters a bulkhead.
-/
namespace Go.Proofs.Ytmgidcigihpbeaa
open Go.ChangeShapes Go.WideShapes Go.ChangeAt Go.RowKit Go.Sort
set_option linter.unusedVariables false
/-- Those who wait in a row of one's own, and all that was there ahead of the call as it was. -/
structure EndL (w X : World) (N base : Nat) (va : Option Addr) (n vc : Nat) (q : List Wt) : Prop where
  ow : OwnWt X base (.slice va n vc) q
  lo : Below N w X
  hb : N + 2 ≤ base
theorem EndL.in {w X : World} {N base : Nat} {va : Option Addr} {n vc : Nat} {q : List Wt} (h : EndL w X N base va n vc q) : WtIn X va q ∧ n ≤ vc := by
  obtain ⟨x, y, e, h2, hin⟩ := h.ow.in
  simp only [Value.slice.injEq] at e
  rw [e.1]
  exact ⟨hin, h.ow.cap⟩
theorem FinL.in {w X : World} {N SB : Nat} {a : Option Addr} {len cap k : Nat} {va : Option Addr} {n vc : Nat} {q : List Wt} (h : FinL w X N SB a len cap k va n vc q) (hN : w.heap.size = N) : EndL w X w.heap.size (w.heap.size + 2) va n vc q := by
  rw [hN]
  exact ⟨h.ow.lower (by have := h.hN; omega), h.lo, Nat.le_refl _⟩
theorem FinL.keep {w X Y : World} {N SB : Nat} {a : Option Addr} {len cap k : Nat} {va : Option Addr} {n vc : Nat} {q : List Wt} (h : FinL w X N SB a len cap k va n vc q) (hb : Below X.heap.size X Y) : FinL w Y N SB a len cap k va n vc q :=
  ⟨h.ow.below hb, h.sr.below (hb.mono h.sr.lt), h.lo.trans (hb.mono (by have := h.sr.lt; have := h.hN; omega)), h.cr, h.hN⟩
theorem FinL.step {w X Y : World} {N SB : Nat} {a : Option Addr} {len cap k k' : Nat} {va : Option Addr} {n vc : Nat} {q : List Wt} (h : FinL w X N SB a len cap k va n vc q) (hs : Src Y SB a len cap k') (hb : Below SB X Y) (ha : ApartH SB X Y) : FinL w Y N SB a len cap k' va n vc q :=
  ⟨h.ow.apart ha (Nat.lt_succ_self _), hs, h.lo.trans (hb.mono (by have := h.hN; omega)), h.cr, h.hN⟩
theorem SBL.step {X Y : World} {SB B L : Nat} {y : Int} {va : Option Addr} {n vc : Nat} {s c t : Int} (h : SBL X B L y va n vc s c t) (ha : ApartH SB X Y) (hB : B ≠ SB) (hR : L ≠ SB) : SBL Y B L y va n vc s c t := by
  obtain ⟨c0, c1, r0, r1, r2⟩ := h
  have hc := ha.cells
  exact ⟨by rw [hc.cell _ _ (block_lt_of_cell c0) hB]; exact c0, by rw [hc.cell _ _ (block_lt_of_cell c0) hB]; exact c1, by rw [hc.cell _ _ (block_lt_of_cell r0) hR]; exact r0, by rw [hc.cell _ _ (block_lt_of_cell r0) hR]; exact r1, by rw [hc.cell _ _ (block_lt_of_cell r0) hR]; exact r2⟩
theorem SBL.keep {X Y : World} {B L : Nat} {y : Int} {va : Option Addr} {n vc : Nat} {s c t : Int} (h : SBL X B L y va n vc s c t) (hb : Below X.heap.size X Y) : SBL Y B L y va n vc s c t := by
  obtain ⟨c0, c1, r0, r1, r2⟩ := h
  have k : ∀ (b i : Nat) (v : Value), X.cell? ⟨b, i, none⟩ = some v → Y.cell? ⟨b, i, none⟩ = some v := fun b i v h => by rw [hb.cell (block_lt_of_cell h)]; exact h
  exact ⟨k _ _ _ c0, k _ _ _ c1, k _ _ _ r0, k _ _ _ r1, k _ _ _ r2⟩
/-- What is held while a draw is told. -/
structure GQL (w X : World) (N SB B L : Nat) (a : Option Addr) (len cap k : Nat) (y : Int) (va : Option Addr) (n vc : Nat) (s c t : Int) (q : List Wt) : Prop where
  fin : FinL w X N SB a len cap k va n vc q
  sb : SBL X B L y va n vc s c t
  q0 : D2 X N (.int .i64 0) (.slice none 0 0)
  q1 : D3 X (N + 1) (.int .i64 0) (.int .i64 0) (.int .i64 0)
  lt : SB < B ∧ SB < L
section
variable {w X Y : World} {N SB B L : Nat} {a : Option Addr} {len cap k : Nat} {y : Int} {va : Option Addr} {n vc : Nat} {s c t : Int} {q : List Wt}
theorem GQL.keep (h : GQL w X N SB B L a len cap k y va n vc s c t q) (hb : Below X.heap.size X Y) : GQL w Y N SB B L a len cap k y va n vc s c t q := ⟨h.fin.keep hb, h.sb.keep hb, h.q0.keep hb, h.q1.keep hb, h.lt⟩
theorem GQL.al {o : Obj} (h : GQL w X N SB B L a len cap k y va n vc s c t q) : GQL w (X.alloc o) N SB B L a len cap k y va n vc s c t q := h.keep ((Below.refl _ _).alloc (Nat.le_refl _) _)
theorem GQL.drw (h : GQL w X N SB B L a len cap k y va n vc s c t q) : GQL w X.drew N SB B L a len cap k y va n vc s c t q := h.keep (Below.refl _ _).drew
theorem GQL.step {k' : Nat} (h : GQL w X N SB B L a len cap k y va n vc s c t q) (hs : Src Y SB a len cap k') (hb : Below SB X Y) (ha : ApartH SB X Y) : GQL w Y N SB B L a len cap k' y va n vc s c t q := by
  have h1 := h.fin.hN
  have h2 := h.lt
  exact ⟨h.fin.step hs hb ha, h.sb.step ha (by omega) (by omega), h.q0.ah ha (by omega), h.q1.ah ha (by omega), h.lt⟩
/-- A pick out of a list that was laid. -/
theorem GQL.pick {M : Nat} {vs : Array Value} (h : GQL w X N SB B L a len cap k y va n vc s c t q) (xs : List Int) (hl : LCN X M vs) (e : vs = (xs.map (Value.int .i64)).toArray) (m : Nat) (hm : xs.length = m) (hpos : 0 < m) (hm2 : m ≤ 100) (hk : k ≤ 1000) (hl2 : len ≤ 1048577) :
    Calls Try.prog 39 #[.pointer (some ⟨SB, 0, none⟩), .slice (some ⟨M, 0, none⟩) m m] X fun e w' => (∃ v : Int, v ∈ xs ∧ e = .returned (.int .i64 v)) ∧ GQL w w' N SB B L a len cap (k + 1) y va n vc s c t q ∧ ApartH SB X w' := by
  have hMS : M ≠ SB := fun e2 => by
    have h0 := h.fin.sr.c0
    have h1 := hl.cells xs e 0 xs[0] (List.getElem?_eq_getElem (by omega))
    rw [e2, h0] at h1
    cases h1
  refine (l1Pick_any X SB a len cap k h.fin.sr M xs hMS m hm (hl.cells xs e) hpos (by omega) (by omega) hl2).mono fun _ w' ⟨h1, h2⟩ => ?_
  obtain ⟨hs, hb⟩ := h.fin.sr.stepped h2
  exact ⟨h1, h.step hs hb (ApartH.stepped h2), ApartH.stepped h2⟩
end
def AskE (w w' : World) (e : Ending) : Prop := ∃ (y s c t id now : Int) (va : Option Addr) (n vc : Nat) (q : List Wt), e = .returned (.tuple #[.agg #[.int .i64 y, .slice va n vc], .agg #[.int .i64 s, .int .i64 c, .int .i64 t], .int .i64 id, .int .i64 now]) ∧ q.length = n ∧ n ≤ 9 ∧ EndL w w' w.heap.size (w.heap.size + 2) va n vc q
theorem AskE.mk {w w' : World} {y s c t id now : Int} {va : Option Addr} {n vc : Nat} {q : List Wt} (h1 : q.length = n) (h2 : n ≤ 9) (h4 : EndL w w' w.heap.size (w.heap.size + 2) va n vc q) : AskE w w' (.returned (.tuple #[.agg #[.int .i64 y, .slice va n vc], .agg #[.int .i64 s, .int .i64 c, .int .i64 t], .int .i64 id, .int .i64 now])) := ⟨y, s, c, t, id, now, va, n, vc, q, rfl, h1, h2, h4⟩
set_option linter.unusedSimpArgs false in
set_option maxRecDepth 100000 in
set_option maxHeartbeats 32000000 in
theorem drawEnter_any (w : World) (a : Option Addr) (len cap : Nat) (N : Nat) (hN : w.heap.size = N) (hc : CodeRow w N a len) (hl3 : len ≤ 1048576) :
    Calls Try.prog 8 #[.slice a len cap] w fun e w' => AskE w w' e := by
  have hl2 : len ≤ 1048577 := by omega
  have HC := rulW hc
  obtain ⟨V1, hV1⟩ : ∃ V, V = w.alloc (.cells #[.int .i64 0, .slice none 0 0] 26) := ⟨_, rfl⟩
  obtain ⟨V2, hV2⟩ : ∃ V, V = V1.alloc (.cells #[.int .i64 0, .int .i64 0, .int .i64 0] 28) := ⟨_, rfl⟩
  have z1 : V1.heap.size = N + 1 := by rw [hV1, ← hN]; simp
  have z2 : V2.heap.size = N + 2 := by rw [hV2]; simp [z1]
  have b1 : Below w.heap.size w V1 := by rw [hV1]; exact (Below.refl _ _).alloc (Nat.le_refl _) _
  have b2 : Below V1.heap.size V1 V2 := by rw [hV2]; exact (Below.refl _ _).alloc (Nat.le_refl _) _
  have b12 : Below N w V2 := by rw [← hN]; exact b1.trans (b2.mono b1.size)
  have q0 : D2 V2 N (.int .i64 0) (.slice none 0 0) := by
    have := D2.new w (.int .i64 0) (.slice none 0 0) 26
    rw [← hV1, hN] at this
    exact this.keep b2
  have q1 : D3 V2 (N + 1) (.int .i64 0) (.int .i64 0) (.int .i64 0) := by
    have := D3.new V1 (.int .i64 0) (.int .i64 0) (.int .i64 0) 28
    rw [← hV2, z1] at this
    exact this
  have HB := rulW b12
  have HQ := rulW (show D2 V2 N (.int .i64 0) (.slice none 0 0) ∧ D3 V2 (N + 1) (.int .i64 0) (.int .i64 0) (.int .i64 0) from ⟨q0, q1⟩)
  have HBE : Hid (Calls Try.prog 38 #[.slice a len cap] V2 fun e w' => BentL V2 w' (N + 2) a len cap e) := l11Bent_any V2 a len cap (N + 2) z2 ((hc.below b12).mono (by omega)) hl3
  have HV1 := rulW hV1
  have HV2 := rulW hV2
  clear b1 b2 b12 q0 q1 hV1 hV2 hc z1 z2
  go_enter Try.func8, Try.ntmps8
  go_upto_region 1 with fail
  rw [← HV1.out, ← HV2.out]
  clear HV1 HV2
  go_wp2_with fail
  refine HBE.out.mono ?_
  rintro r w1 ⟨y, s, c, t, va, n, vc, q, k, rfl, hln, hn9, hk, hf⟩
  obtain ⟨W2, hW2⟩ : ∃ W, W = (w1.alloc (.cells #[.int .i64 y, .slice va n vc] 26)).alloc (.cells #[.int .i64 s, .int .i64 c, .int .i64 t] 28) := ⟨_, rfl⟩
  obtain ⟨B, hB⟩ : ∃ B, w1.heap.size = B := ⟨_, rfl⟩
  have hBN : N + 4 < B := by rw [← hB]; exact hf.sr.lt
  have JR : Hid (GQL w W2 N (N + 4) B (B + 1) a len cap k y va n vc s c t q) := by
    have bA : Below w1.heap.size w1 (w1.alloc (.cells #[.int .i64 y, .slice va n vc] 26)) := (Below.refl _ _).alloc (Nat.le_refl _) _
    have bB : Below (w1.alloc (.cells #[.int .i64 y, .slice va n vc] 26)).heap.size (w1.alloc (.cells #[.int .i64 y, .slice va n vc] 26)) W2 := by rw [hW2]; exact (Below.refl _ _).alloc (Nat.le_refl _) _
    have b2 : Below w1.heap.size w1 W2 := bA.trans (bB.mono bA.size)
    have sA := D2.new w1 (.int .i64 y) (.slice va n vc) 26
    have sB := D3.new (w1.alloc (.cells #[.int .i64 y, .slice va n vc] 26)) (.int .i64 s) (.int .i64 c) (.int .i64 t) 28
    rw [show (w1.alloc (.cells #[.int .i64 y, .slice va n vc] 26)).heap.size = B + 1 by rw [← hB]; simp, ← hW2] at sB
    rw [hB] at sA
    have sA2 := sA.keep bB
    have HF1 : FinL w w1 N (N + 4) a len cap k va n vc q := ⟨hf.ow, hf.sr, HB.out.trans (hf.lo.mono (by omega)), HC.out, by omega⟩
    exact ⟨HF1.keep b2, ⟨sA2.c0, sA2.c1, sB.c0, sB.c1, sB.c2⟩, (HQ.out.1.low hf.lo (by omega)).keep b2, (HQ.out.2.low hf.lo (by omega)).keep b2, by omega, by omega⟩
  have SR := rulW (show N + 4 < W2.heap.size from JR.out.fin.sr.lt)
  have HW2 := rulW hW2
  have HN := rulW hN
  have HLN := rulW hln
  clear hW2 hf HBE HB HQ hln
  go_upto_region 2 with fail
  try simp only [hB]
  rw [← HW2.out]
  clear HW2 hB
  rw [show N + 2 + 2 = N + 4 from rfl]
  have HP1 : Hid (∀ X M, GQL w X N (N + 4) B (B + 1) a len cap k y va n vc s c t q → LCN X M #[.int .i64 3, .int .i64 5, .int .i64 12, .int .i64 99, .int .i64 20, .int .i64 (-1)] → Calls Try.prog 39 #[.pointer (some ⟨N + 4, 0, none⟩), .slice (some ⟨M, 0, none⟩) 6 6] X fun e w' => (∃ v : Int, v ∈ ([3, 5, 12, 99, 20, -1] : List Int) ∧ e = .returned (.int .i64 v)) ∧ GQL w w' N (N + 4) B (B + 1) a len cap (k + 1) y va n vc s c t q ∧ ApartH (N + 4) X w') := fun X M h hl => h.pick [3, 5, 12, 99, 20, -1] hl rfl 6 rfl (by omega) (by omega) (by omega) hl2
  have HP2 : Hid (∀ X M, GQL w X N (N + 4) B (B + 1) a len cap (k + 1) y va n vc s c t q → LCN X M #[.int .i64 0, .int .i64 1000, .int .i64 1000000000000000, .int .i64 (-1), .int .i64 77, .int .i64 78] → Calls Try.prog 39 #[.pointer (some ⟨N + 4, 0, none⟩), .slice (some ⟨M, 0, none⟩) 6 6] X fun e w' => (∃ v : Int, v ∈ ([0, 1000, 1000000000000000, -1, 77, 78] : List Int) ∧ e = .returned (.int .i64 v)) ∧ GQL w w' N (N + 4) B (B + 1) a len cap ((k + 1) + 1) y va n vc s c t q ∧ ApartH (N + 4) X w') := fun X M h hl => h.pick [0, 1000, 1000000000000000, -1, 77, 78] hl rfl 6 rfl (by omega) (by omega) (by omega) hl2
  have HKC : Hid (∀ Z kk, GQL w Z N (N + 4) B (B + 1) a len cap kk y va n vc s c t q → SBL Z B (B + 1) y va n vc s c t) := fun Z kk h => h.sb
  have HKD : Hid (∀ Z, SBL Z B (B + 1) y va n vc s c t → Z.cell? ⟨B, 0, none⟩ = some (.int .i64 y) ∧ Z.cell? ⟨B, 1, none⟩ = some (.slice va n vc) ∧ Z.cell? ⟨B + 1, 0, none⟩ = some (.int .i64 s) ∧ Z.cell? ⟨B + 1, 1, none⟩ = some (.int .i64 c) ∧ Z.cell? ⟨B + 1, 2, none⟩ = some (.int .i64 t)) := fun Z h => h
  have HKS : Hid (∀ Z i z, SBL Z B (B + 1) y va n vc s c t → SBL (Z.setCell ⟨N, i, none⟩ z) B (B + 1) y va n vc s c t) := fun Z i z h => h.off (by omega) (by omega)
  have HKT : Hid (∀ Z i z, SBL Z B (B + 1) y va n vc s c t → SBL (Z.setCell ⟨N + 1, i, none⟩ z) B (B + 1) y va n vc s c t) := fun Z i z h => h.off (by omega) (by omega)
  go_region_held3 (fun Z => Z.cell? ⟨B, 0, none⟩ = some (.int .i64 y) ∧ Z.cell? ⟨B, 1, none⟩ = some (.slice va n vc) ∧ Z.cell? ⟨B + 1, 0, none⟩ = some (.int .i64 s) ∧ Z.cell? ⟨B + 1, 1, none⟩ = some (.int .i64 c) ∧ Z.cell? ⟨B + 1, 2, none⟩ = some (.int .i64 t))
    (first | ((with_reducible refine HKD.out _ ?_); (with_reducible refine HKC.out _ k ?_); (repeat (first | with_reducible exact JP.out | with_reducible exact JA.out | with_reducible exact JR.out | with_reducible refine GQL.al ?_ | with_reducible refine GQL.drw ?_)); done) | ((with_reducible refine HKD.out _ ?_); (with_reducible refine HKC.out _ (k + 1) ?_); (repeat (first | with_reducible exact JP.out | with_reducible exact JA.out | with_reducible exact JR.out | with_reducible refine GQL.al ?_ | with_reducible refine GQL.drw ?_)); done) | ((with_reducible refine HKD.out _ ?_); (with_reducible refine HKC.out _ (k + 2) ?_); (repeat (first | with_reducible exact JP.out | with_reducible exact JA.out | with_reducible exact JR.out | with_reducible refine GQL.al ?_ | with_reducible refine GQL.drw ?_)); done) | ((with_reducible refine HKD.out _ ?_); (repeat (first | with_reducible exact HSP.out | with_reducible refine HKS.out _ _ _ ?_ | with_reducible refine HKT.out _ _ _ ?_)); done))
    (first
    | (go_at_call 39; first
      | ((with_reducible refine (HP2.out _ _ ?_ ?_).mono ?_); (with_reducible exact JA.out); (repeat (first | with_reducible exact LCN.new _ _ | with_reducible exact LCN.new1 _ _ _ | with_reducible refine LCN.ap AP.out ?_ (by first | (have := SR.out; omega) | (have := SA.out; omega) | (have := SP.out; omega)) | with_reducible refine LCN.ap AA.out ?_ (by first | (have := SR.out; omega) | (have := SA.out; omega) | (have := SP.out; omega)) | with_reducible refine LCN.al ?_ | with_reducible refine LCN.drw ?_)); rintro r wb ⟨⟨x2v, m2, rfl⟩, jd, ja⟩; have JP := rulW jd; clear jd ja m2; obtain ⟨p0, p1, pf, _⟩ := JP.out.q0; obtain ⟨x0, x1, x2, xf, _⟩ := JP.out.q1; have pf0 := pf 0; have pf1 := pf 1; have xf0 := xf 0; have xf1 := xf 1; have xf2 := xf 2; clear pf xf; have GF := rulW JP.out.fin; have HSP := rulW JP.out.sb)
      | ((with_reducible refine (HP2.out _ _ ?_ ?_).mono ?_); (with_reducible refine GQL.drw ?_); (with_reducible refine GQL.al ?_); (with_reducible exact JA.out); (repeat (first | with_reducible exact LCN.new _ _ | with_reducible exact LCN.new1 _ _ _ | with_reducible refine LCN.ap AP.out ?_ (by first | (have := SR.out; omega) | (have := SA.out; omega) | (have := SP.out; omega)) | with_reducible refine LCN.ap AA.out ?_ (by first | (have := SR.out; omega) | (have := SA.out; omega) | (have := SP.out; omega)) | with_reducible refine LCN.al ?_ | with_reducible refine LCN.drw ?_)); rintro r wb ⟨⟨x2v, m2, rfl⟩, jd, ja⟩; have JP := rulW jd; clear jd ja m2; obtain ⟨p0, p1, pf, _⟩ := JP.out.q0; obtain ⟨x0, x1, x2, xf, _⟩ := JP.out.q1; have pf0 := pf 0; have pf1 := pf 1; have xf0 := xf 0; have xf1 := xf 1; have xf2 := xf 2; clear pf xf; have GF := rulW JP.out.fin; have HSP := rulW JP.out.sb)
      | ((with_reducible refine (HP2.out _ _ ?_ ?_).mono ?_); (with_reducible refine GQL.al ?_); (with_reducible exact JA.out); (repeat (first | with_reducible exact LCN.new _ _ | with_reducible exact LCN.new1 _ _ _ | with_reducible refine LCN.ap AP.out ?_ (by first | (have := SR.out; omega) | (have := SA.out; omega) | (have := SP.out; omega)) | with_reducible refine LCN.ap AA.out ?_ (by first | (have := SR.out; omega) | (have := SA.out; omega) | (have := SP.out; omega)) | with_reducible refine LCN.al ?_ | with_reducible refine LCN.drw ?_)); rintro r wb ⟨⟨x2v, m2, rfl⟩, jd, ja⟩; have JP := rulW jd; clear jd ja m2; obtain ⟨p0, p1, pf, _⟩ := JP.out.q0; obtain ⟨x0, x1, x2, xf, _⟩ := JP.out.q1; have pf0 := pf 0; have pf1 := pf 1; have xf0 := xf 0; have xf1 := xf 1; have xf2 := xf 2; clear pf xf; have GF := rulW JP.out.fin; have HSP := rulW JP.out.sb)
      | ((with_reducible refine (HP1.out _ _ ?_ ?_).mono ?_); (repeat (first | with_reducible exact JP.out | with_reducible exact JA.out | with_reducible exact JR.out | with_reducible refine GQL.al ?_ | with_reducible refine GQL.drw ?_)); (repeat (first | with_reducible exact LCN.new _ _ | with_reducible exact LCN.new1 _ _ _ | with_reducible refine LCN.ap AP.out ?_ (by first | (have := SR.out; omega) | (have := SA.out; omega) | (have := SP.out; omega)) | with_reducible refine LCN.ap AA.out ?_ (by first | (have := SR.out; omega) | (have := SA.out; omega) | (have := SP.out; omega)) | with_reducible refine LCN.al ?_ | with_reducible refine LCN.drw ?_)); rintro r wa ⟨⟨x1v, m1, rfl⟩, jd, ja⟩; have JA := rulW jd; have AA := rulW ja; have SA := rulW jd.fin.sr.lt; clear jd ja m1)))
  all_goals
    go_wp2_with fail
    exact bodyPost_ret (v := .tuple #[.agg #[.int .i64 y, .slice va n vc], .agg #[.int .i64 s, .int .i64 c, .int .i64 t], .int .i64 x1v, .int .i64 x2v]) (by simp [results, Try.results8, go_sem, p0, p1, x0, x1, x2]) rfl (AskE.mk HLN.out (by omega) (FinL.in (SB := N + 4) (a := a) (len := len) (cap := cap) (k := k + 1 + 1) (n := n) (vc := vc) (by repeat (first | with_reducible exact GF.out | with_reducible refine FinL.set ?_ (by omega) | with_reducible refine FinL.drw ?_)) HN.out))
end Go.Proofs.Ytmgidcigihpbeaa
/-
  The draws of a bulkhead whose time goes by, and of one who is called off.
-/
namespace Go.Proofs.Ytmgidcigihpbeaa
open Go.ChangeShapes Go.WideShapes Go.ChangeAt Go.RowKit Go.Sort
set_option linter.unusedVariables false
def AskX (w w' : World) (e : Ending) : Prop := ∃ (y s c t now : Int) (va : Option Addr) (n vc : Nat) (q : List Wt), e = .returned (.tuple #[.agg #[.int .i64 y, .slice va n vc], .agg #[.int .i64 s, .int .i64 c, .int .i64 t], .int .i64 now]) ∧ q.length = n ∧ n ≤ 9 ∧ EndL w w' w.heap.size (w.heap.size + 2) va n vc q
theorem AskX.mk {w w' : World} {y s c t now : Int} {va : Option Addr} {n vc : Nat} {q : List Wt} (h1 : q.length = n) (h2 : n ≤ 9) (h4 : EndL w w' w.heap.size (w.heap.size + 2) va n vc q) : AskX w w' (.returned (.tuple #[.agg #[.int .i64 y, .slice va n vc], .agg #[.int .i64 s, .int .i64 c, .int .i64 t], .int .i64 now])) := ⟨y, s, c, t, now, va, n, vc, q, rfl, h1, h2, h4⟩
set_option linter.unusedSimpArgs false in
set_option maxRecDepth 100000 in
set_option maxHeartbeats 32000000 in
theorem drawExpire_any (w : World) (a : Option Addr) (len cap : Nat) (N : Nat) (hN : w.heap.size = N) (hc : CodeRow w N a len) (hl3 : len ≤ 1048576) :
    Calls Try.prog 17 #[.slice a len cap] w fun e w' => AskX w w' e := by
  have hl2 : len ≤ 1048577 := by omega
  have HC := rulW hc
  obtain ⟨V1, hV1⟩ : ∃ V, V = w.alloc (.cells #[.int .i64 0, .slice none 0 0] 26) := ⟨_, rfl⟩
  obtain ⟨V2, hV2⟩ : ∃ V, V = V1.alloc (.cells #[.int .i64 0, .int .i64 0, .int .i64 0] 28) := ⟨_, rfl⟩
  have z1 : V1.heap.size = N + 1 := by rw [hV1, ← hN]; simp
  have z2 : V2.heap.size = N + 2 := by rw [hV2]; simp [z1]
  have b1 : Below w.heap.size w V1 := by rw [hV1]; exact (Below.refl _ _).alloc (Nat.le_refl _) _
  have b2 : Below V1.heap.size V1 V2 := by rw [hV2]; exact (Below.refl _ _).alloc (Nat.le_refl _) _
  have b12 : Below N w V2 := by rw [← hN]; exact b1.trans (b2.mono b1.size)
  have q0 : D2 V2 N (.int .i64 0) (.slice none 0 0) := by
    have := D2.new w (.int .i64 0) (.slice none 0 0) 26
    rw [← hV1, hN] at this
    exact this.keep b2
  have q1 : D3 V2 (N + 1) (.int .i64 0) (.int .i64 0) (.int .i64 0) := by
    have := D3.new V1 (.int .i64 0) (.int .i64 0) (.int .i64 0) 28
    rw [← hV2, z1] at this
    exact this
  have HB := rulW b12
  have HQ := rulW (show D2 V2 N (.int .i64 0) (.slice none 0 0) ∧ D3 V2 (N + 1) (.int .i64 0) (.int .i64 0) (.int .i64 0) from ⟨q0, q1⟩)
  have HBE : Hid (Calls Try.prog 38 #[.slice a len cap] V2 fun e w' => BentL V2 w' (N + 2) a len cap e) := l11Bent_any V2 a len cap (N + 2) z2 ((hc.below b12).mono (by omega)) hl3
  have HV1 := rulW hV1
  have HV2 := rulW hV2
  clear b1 b2 b12 q0 q1 hV1 hV2 hc z1 z2
  go_enter Try.func17, Try.ntmps17
  go_upto_region 1 with fail
  rw [← HV1.out, ← HV2.out]
  clear HV1 HV2
  go_wp2_with fail
  refine HBE.out.mono ?_
  rintro r w1 ⟨y, s, c, t, va, n, vc, q, k, rfl, hln, hn9, hk, hf⟩
  obtain ⟨W2, hW2⟩ : ∃ W, W = (w1.alloc (.cells #[.int .i64 y, .slice va n vc] 26)).alloc (.cells #[.int .i64 s, .int .i64 c, .int .i64 t] 28) := ⟨_, rfl⟩
  obtain ⟨B, hB⟩ : ∃ B, w1.heap.size = B := ⟨_, rfl⟩
  have hBN : N + 4 < B := by rw [← hB]; exact hf.sr.lt
  have JR : Hid (GQL w W2 N (N + 4) B (B + 1) a len cap k y va n vc s c t q) := by
    have bA : Below w1.heap.size w1 (w1.alloc (.cells #[.int .i64 y, .slice va n vc] 26)) := (Below.refl _ _).alloc (Nat.le_refl _) _
    have bB : Below (w1.alloc (.cells #[.int .i64 y, .slice va n vc] 26)).heap.size (w1.alloc (.cells #[.int .i64 y, .slice va n vc] 26)) W2 := by rw [hW2]; exact (Below.refl _ _).alloc (Nat.le_refl _) _
    have b2 : Below w1.heap.size w1 W2 := bA.trans (bB.mono bA.size)
    have sA := D2.new w1 (.int .i64 y) (.slice va n vc) 26
    have sB := D3.new (w1.alloc (.cells #[.int .i64 y, .slice va n vc] 26)) (.int .i64 s) (.int .i64 c) (.int .i64 t) 28
    rw [show (w1.alloc (.cells #[.int .i64 y, .slice va n vc] 26)).heap.size = B + 1 by rw [← hB]; simp, ← hW2] at sB
    rw [hB] at sA
    have sA2 := sA.keep bB
    have HF1 : FinL w w1 N (N + 4) a len cap k va n vc q := ⟨hf.ow, hf.sr, HB.out.trans (hf.lo.mono (by omega)), HC.out, by omega⟩
    exact ⟨HF1.keep b2, ⟨sA2.c0, sA2.c1, sB.c0, sB.c1, sB.c2⟩, (HQ.out.1.low hf.lo (by omega)).keep b2, (HQ.out.2.low hf.lo (by omega)).keep b2, by omega, by omega⟩
  have SR := rulW (show N + 4 < W2.heap.size from JR.out.fin.sr.lt)
  have HW2 := rulW hW2
  have HN := rulW hN
  have HLN := rulW hln
  clear hW2 hf HBE HB HQ hln
  go_upto_region 2 with fail
  try simp only [hB]
  rw [← HW2.out]
  clear HW2 hB
  rw [show N + 2 + 2 = N + 4 from rfl]
  have HP1 : Hid (∀ X M, GQL w X N (N + 4) B (B + 1) a len cap k y va n vc s c t q → LCN X M #[.int .i64 0, .int .i64 500, .int .i64 600, .int .i64 900, .int .i64 2900, .int .i64 (-1), .int .i64 1400] → Calls Try.prog 39 #[.pointer (some ⟨N + 4, 0, none⟩), .slice (some ⟨M, 0, none⟩) 7 7] X fun e w' => (∃ v : Int, v ∈ ([0, 500, 600, 900, 2900, -1, 1400] : List Int) ∧ e = .returned (.int .i64 v)) ∧ GQL w w' N (N + 4) B (B + 1) a len cap (k + 1) y va n vc s c t q ∧ ApartH (N + 4) X w') := fun X M h hl => h.pick [0, 500, 600, 900, 2900, -1, 1400] hl rfl 7 rfl (by omega) (by omega) (by omega) hl2
  have HKC : Hid (∀ Z kk, GQL w Z N (N + 4) B (B + 1) a len cap kk y va n vc s c t q → SBL Z B (B + 1) y va n vc s c t) := fun Z kk h => h.sb
  have HKD : Hid (∀ Z, SBL Z B (B + 1) y va n vc s c t → Z.cell? ⟨B, 0, none⟩ = some (.int .i64 y) ∧ Z.cell? ⟨B, 1, none⟩ = some (.slice va n vc) ∧ Z.cell? ⟨B + 1, 0, none⟩ = some (.int .i64 s) ∧ Z.cell? ⟨B + 1, 1, none⟩ = some (.int .i64 c) ∧ Z.cell? ⟨B + 1, 2, none⟩ = some (.int .i64 t)) := fun Z h => h
  have HKS : Hid (∀ Z i z, SBL Z B (B + 1) y va n vc s c t → SBL (Z.setCell ⟨N, i, none⟩ z) B (B + 1) y va n vc s c t) := fun Z i z h => h.off (by omega) (by omega)
  have HKT : Hid (∀ Z i z, SBL Z B (B + 1) y va n vc s c t → SBL (Z.setCell ⟨N + 1, i, none⟩ z) B (B + 1) y va n vc s c t) := fun Z i z h => h.off (by omega) (by omega)
  go_region_held3 (fun Z => Z.cell? ⟨B, 0, none⟩ = some (.int .i64 y) ∧ Z.cell? ⟨B, 1, none⟩ = some (.slice va n vc) ∧ Z.cell? ⟨B + 1, 0, none⟩ = some (.int .i64 s) ∧ Z.cell? ⟨B + 1, 1, none⟩ = some (.int .i64 c) ∧ Z.cell? ⟨B + 1, 2, none⟩ = some (.int .i64 t))
    (first | ((with_reducible refine HKD.out _ ?_); (with_reducible refine HKC.out _ k ?_); (repeat (first | with_reducible exact JP.out | with_reducible exact JA.out | with_reducible exact JR.out | with_reducible refine GQL.al ?_ | with_reducible refine GQL.drw ?_)); done) | ((with_reducible refine HKD.out _ ?_); (with_reducible refine HKC.out _ (k + 1) ?_); (repeat (first | with_reducible exact JP.out | with_reducible exact JA.out | with_reducible exact JR.out | with_reducible refine GQL.al ?_ | with_reducible refine GQL.drw ?_)); done) | ((with_reducible refine HKD.out _ ?_); (with_reducible refine HKC.out _ (k + 2) ?_); (repeat (first | with_reducible exact JP.out | with_reducible exact JA.out | with_reducible exact JR.out | with_reducible refine GQL.al ?_ | with_reducible refine GQL.drw ?_)); done) | ((with_reducible refine HKD.out _ ?_); (repeat (first | with_reducible exact HSP.out | with_reducible refine HKS.out _ _ _ ?_ | with_reducible refine HKT.out _ _ _ ?_)); done))
    (first
    | (go_at_call 39; (with_reducible refine (HP1.out _ _ ?_ ?_).mono ?_); (repeat (first | with_reducible exact JP.out | with_reducible exact JA.out | with_reducible exact JR.out | with_reducible refine GQL.al ?_ | with_reducible refine GQL.drw ?_)); (repeat (first | with_reducible exact LCN.new _ _ | with_reducible exact LCN.new1 _ _ _ | with_reducible refine LCN.ap AP.out ?_ (by first | (have := SR.out; omega) | (have := SA.out; omega) | (have := SP.out; omega)) | with_reducible refine LCN.ap AA.out ?_ (by first | (have := SR.out; omega) | (have := SA.out; omega) | (have := SP.out; omega)) | with_reducible refine LCN.al ?_ | with_reducible refine LCN.drw ?_)); rintro r wa ⟨⟨x1v, m1, rfl⟩, jd, ja⟩; have JA := rulW jd; clear jd ja m1; obtain ⟨p0, p1, pf, _⟩ := JA.out.q0; obtain ⟨x0, x1, x2, xf, _⟩ := JA.out.q1; have pf0 := pf 0; have pf1 := pf 1; have xf0 := xf 0; have xf1 := xf 1; have xf2 := xf 2; clear pf xf; have GF := rulW JA.out.fin; have HSP := rulW JA.out.sb))
  all_goals
    go_wp2_with fail
    exact bodyPost_ret (v := .tuple #[.agg #[.int .i64 y, .slice va n vc], .agg #[.int .i64 s, .int .i64 c, .int .i64 t], .int .i64 x1v]) (by simp [results, Try.results17, go_sem, p0, p1, x0, x1, x2]) rfl (AskX.mk HLN.out (by omega) (FinL.in (SB := N + 4) (a := a) (len := len) (cap := cap) (k := k + 1) (n := n) (vc := vc) (by repeat (first | with_reducible exact GF.out | with_reducible refine FinL.set ?_ (by omega) | with_reducible refine FinL.drw ?_)) HN.out))
set_option linter.unusedSimpArgs false in
set_option maxRecDepth 100000 in
set_option maxHeartbeats 32000000 in
theorem drawCancel_any (w : World) (a : Option Addr) (len cap : Nat) (N : Nat) (hN : w.heap.size = N) (hc : CodeRow w N a len) (hl3 : len ≤ 1048576) :
    Calls Try.prog 19 #[.slice a len cap] w fun e w' => AskX w w' e := by
  have hl2 : len ≤ 1048577 := by omega
  have HC := rulW hc
  obtain ⟨V1, hV1⟩ : ∃ V, V = w.alloc (.cells #[.int .i64 0, .slice none 0 0] 26) := ⟨_, rfl⟩
  obtain ⟨V2, hV2⟩ : ∃ V, V = V1.alloc (.cells #[.int .i64 0, .int .i64 0, .int .i64 0] 28) := ⟨_, rfl⟩
  have z1 : V1.heap.size = N + 1 := by rw [hV1, ← hN]; simp
  have z2 : V2.heap.size = N + 2 := by rw [hV2]; simp [z1]
  have b1 : Below w.heap.size w V1 := by rw [hV1]; exact (Below.refl _ _).alloc (Nat.le_refl _) _
  have b2 : Below V1.heap.size V1 V2 := by rw [hV2]; exact (Below.refl _ _).alloc (Nat.le_refl _) _
  have b12 : Below N w V2 := by rw [← hN]; exact b1.trans (b2.mono b1.size)
  have q0 : D2 V2 N (.int .i64 0) (.slice none 0 0) := by
    have := D2.new w (.int .i64 0) (.slice none 0 0) 26
    rw [← hV1, hN] at this
    exact this.keep b2
  have q1 : D3 V2 (N + 1) (.int .i64 0) (.int .i64 0) (.int .i64 0) := by
    have := D3.new V1 (.int .i64 0) (.int .i64 0) (.int .i64 0) 28
    rw [← hV2, z1] at this
    exact this
  have HB := rulW b12
  have HQ := rulW (show D2 V2 N (.int .i64 0) (.slice none 0 0) ∧ D3 V2 (N + 1) (.int .i64 0) (.int .i64 0) (.int .i64 0) from ⟨q0, q1⟩)
  have HBE : Hid (Calls Try.prog 38 #[.slice a len cap] V2 fun e w' => BentL V2 w' (N + 2) a len cap e) := l11Bent_any V2 a len cap (N + 2) z2 ((hc.below b12).mono (by omega)) hl3
  have HV1 := rulW hV1
  have HV2 := rulW hV2
  clear b1 b2 b12 q0 q1 hV1 hV2 hc z1 z2
  go_enter Try.func19, Try.ntmps19
  go_upto_region 1 with fail
  rw [← HV1.out, ← HV2.out]
  clear HV1 HV2
  go_wp2_with fail
  refine HBE.out.mono ?_
  rintro r w1 ⟨y, s, c, t, va, n, vc, q, k, rfl, hln, hn9, hk, hf⟩
  obtain ⟨W2, hW2⟩ : ∃ W, W = (w1.alloc (.cells #[.int .i64 y, .slice va n vc] 26)).alloc (.cells #[.int .i64 s, .int .i64 c, .int .i64 t] 28) := ⟨_, rfl⟩
  obtain ⟨B, hB⟩ : ∃ B, w1.heap.size = B := ⟨_, rfl⟩
  have hBN : N + 4 < B := by rw [← hB]; exact hf.sr.lt
  have JR : Hid (GQL w W2 N (N + 4) B (B + 1) a len cap k y va n vc s c t q) := by
    have bA : Below w1.heap.size w1 (w1.alloc (.cells #[.int .i64 y, .slice va n vc] 26)) := (Below.refl _ _).alloc (Nat.le_refl _) _
    have bB : Below (w1.alloc (.cells #[.int .i64 y, .slice va n vc] 26)).heap.size (w1.alloc (.cells #[.int .i64 y, .slice va n vc] 26)) W2 := by rw [hW2]; exact (Below.refl _ _).alloc (Nat.le_refl _) _
    have b2 : Below w1.heap.size w1 W2 := bA.trans (bB.mono bA.size)
    have sA := D2.new w1 (.int .i64 y) (.slice va n vc) 26
    have sB := D3.new (w1.alloc (.cells #[.int .i64 y, .slice va n vc] 26)) (.int .i64 s) (.int .i64 c) (.int .i64 t) 28
    rw [show (w1.alloc (.cells #[.int .i64 y, .slice va n vc] 26)).heap.size = B + 1 by rw [← hB]; simp, ← hW2] at sB
    rw [hB] at sA
    have sA2 := sA.keep bB
    have HF1 : FinL w w1 N (N + 4) a len cap k va n vc q := ⟨hf.ow, hf.sr, HB.out.trans (hf.lo.mono (by omega)), HC.out, by omega⟩
    exact ⟨HF1.keep b2, ⟨sA2.c0, sA2.c1, sB.c0, sB.c1, sB.c2⟩, (HQ.out.1.low hf.lo (by omega)).keep b2, (HQ.out.2.low hf.lo (by omega)).keep b2, by omega, by omega⟩
  have SR := rulW (show N + 4 < W2.heap.size from JR.out.fin.sr.lt)
  have HW2 := rulW hW2
  have HN := rulW hN
  have HLN := rulW hln
  clear hW2 hf HBE HB HQ hln
  go_upto_region 2 with fail
  try simp only [hB]
  rw [← HW2.out]
  clear HW2 hB
  rw [show N + 2 + 2 = N + 4 from rfl]
  obtain ⟨e0, e1, _, _, _⟩ := JR.out.sb
  by_cases hn0 : n = 0
  · have hd0 : decide ((0 : Int) < (n : Int)) = false := by simp; omega
    go_upto_region 4 with fail
    clear e0 e1
    subst hn0
    have HP1 : Hid (∀ X M, GQL w X N (N + 4) B (B + 1) a len cap k y va 0 vc s c t q → LCN X M #[.int .i64 3, .int .i64 (-1)] → Calls Try.prog 39 #[.pointer (some ⟨N + 4, 0, none⟩), .slice (some ⟨M, 0, none⟩) 2 2] X fun e w' => (∃ v : Int, v ∈ ([3, -1] : List Int) ∧ e = .returned (.int .i64 v)) ∧ GQL w w' N (N + 4) B (B + 1) a len cap (k + 1) y va 0 vc s c t q ∧ ApartH (N + 4) X w') := fun X M h hl => h.pick [3, -1] hl rfl 2 rfl (by omega) (by omega) (by omega) hl2
    have HKC : Hid (∀ Z kk, GQL w Z N (N + 4) B (B + 1) a len cap kk y va 0 vc s c t q → SBL Z B (B + 1) y va 0 vc s c t) := fun Z kk h => h.sb
    have HKD : Hid (∀ Z, SBL Z B (B + 1) y va 0 vc s c t → Z.cell? ⟨B, 0, none⟩ = some (.int .i64 y) ∧ Z.cell? ⟨B, 1, none⟩ = some (.slice va 0 vc) ∧ Z.cell? ⟨B + 1, 0, none⟩ = some (.int .i64 s) ∧ Z.cell? ⟨B + 1, 1, none⟩ = some (.int .i64 c) ∧ Z.cell? ⟨B + 1, 2, none⟩ = some (.int .i64 t)) := fun Z h => h
    have HKS : Hid (∀ Z i z, SBL Z B (B + 1) y va 0 vc s c t → SBL (Z.setCell ⟨N, i, none⟩ z) B (B + 1) y va 0 vc s c t) := fun Z i z h => h.off (by omega) (by omega)
    have HKT : Hid (∀ Z i z, SBL Z B (B + 1) y va 0 vc s c t → SBL (Z.setCell ⟨N + 1, i, none⟩ z) B (B + 1) y va 0 vc s c t) := fun Z i z h => h.off (by omega) (by omega)
    go_region_held3 (fun Z => Z.cell? ⟨B, 0, none⟩ = some (.int .i64 y) ∧ Z.cell? ⟨B, 1, none⟩ = some (.slice va 0 vc) ∧ Z.cell? ⟨B + 1, 0, none⟩ = some (.int .i64 s) ∧ Z.cell? ⟨B + 1, 1, none⟩ = some (.int .i64 c) ∧ Z.cell? ⟨B + 1, 2, none⟩ = some (.int .i64 t))
      (first | ((with_reducible refine HKD.out _ ?_); (with_reducible refine HKC.out _ k ?_); (repeat (first | with_reducible exact JP.out | with_reducible exact JA.out | with_reducible exact JR.out | with_reducible refine GQL.al ?_ | with_reducible refine GQL.drw ?_)); done) | ((with_reducible refine HKD.out _ ?_); (with_reducible refine HKC.out _ (k + 1) ?_); (repeat (first | with_reducible exact JP.out | with_reducible exact JA.out | with_reducible exact JR.out | with_reducible refine GQL.al ?_ | with_reducible refine GQL.drw ?_)); done) | ((with_reducible refine HKD.out _ ?_); (with_reducible refine HKC.out _ (k + 2) ?_); (repeat (first | with_reducible exact JP.out | with_reducible exact JA.out | with_reducible exact JR.out | with_reducible refine GQL.al ?_ | with_reducible refine GQL.drw ?_)); done) | ((with_reducible refine HKD.out _ ?_); (repeat (first | with_reducible exact HSP.out | with_reducible refine HKS.out _ _ _ ?_ | with_reducible refine HKT.out _ _ _ ?_)); done))
      (first
      | (go_at_call 39; (with_reducible refine (HP1.out _ _ ?_ ?_).mono ?_); (repeat (first | with_reducible exact JP.out | with_reducible exact JA.out | with_reducible exact JR.out | with_reducible refine GQL.al ?_ | with_reducible refine GQL.drw ?_)); (repeat (first | with_reducible exact LCN.new _ _ | with_reducible exact LCN.new1 _ _ _ | with_reducible refine LCN.ap AP.out ?_ (by first | (have := SR.out; omega) | (have := SA.out; omega) | (have := SP.out; omega)) | with_reducible refine LCN.ap AA.out ?_ (by first | (have := SR.out; omega) | (have := SA.out; omega) | (have := SP.out; omega)) | with_reducible refine LCN.al ?_ | with_reducible refine LCN.drw ?_)); rintro r wa ⟨⟨x1v, m1, rfl⟩, jd, ja⟩; have JA := rulW jd; clear jd ja m1; obtain ⟨p0, p1, pf, _⟩ := JA.out.q0; obtain ⟨x0, x1, x2, xf, _⟩ := JA.out.q1; have pf0 := pf 0; have pf1 := pf 1; have xf0 := xf 0; have xf1 := xf 1; have xf2 := xf 2; clear pf xf; have GF := rulW JA.out.fin; have HSP := rulW JA.out.sb))
    all_goals
      go_wp2_with fail
      exact bodyPost_ret (v := .tuple #[.agg #[.int .i64 y, .slice va 0 vc], .agg #[.int .i64 s, .int .i64 c, .int .i64 t], .int .i64 x1v]) (by simp [results, Try.results19, go_sem, p0, p1, x0, x1, x2]) rfl (AskX.mk HLN.out (by omega) (FinL.in (SB := N + 4) (a := a) (len := len) (cap := cap) (k := k + 1) (n := 0) (vc := vc) (by repeat (first | with_reducible exact GF.out | with_reducible refine FinL.set ?_ (by omega) | with_reducible refine FinL.drw ?_)) HN.out))
  have hd0 : decide ((0 : Int) < (n : Int)) = true := by simp; omega
  go_wp2_with fail
  refine (l1Chance_h _ (N + 4) a len cap k 4 JR.out.fin.sr (by omega) (by omega) (by omega) hl2).mono ?_
  rintro r W3 ⟨⟨b4, rfl⟩, hs1, hb1, ha1⟩
  have JR2 := rulW (JR.out.step hs1 hb1 ha1)
  clear hs1 hb1 ha1 e0 e1 SR JR
  have JR := rulW JR2.out
  have SR := rulW (show N + 4 < W3.heap.size from JR.out.fin.sr.lt)
  clear JR2
  generalize W3 = W2 at *
  cases b4
  rotate_left
  · go_upto_region 4 with fail
    have HP1 : Hid (∀ X M, GQL w X N (N + 4) B (B + 1) a len cap (k + 1) y va n vc s c t q → LCN X M #[.int .i64 3, .int .i64 (-1)] → Calls Try.prog 39 #[.pointer (some ⟨N + 4, 0, none⟩), .slice (some ⟨M, 0, none⟩) 2 2] X fun e w' => (∃ v : Int, v ∈ ([3, -1] : List Int) ∧ e = .returned (.int .i64 v)) ∧ GQL w w' N (N + 4) B (B + 1) a len cap ((k + 1) + 1) y va n vc s c t q ∧ ApartH (N + 4) X w') := fun X M h hl => h.pick [3, -1] hl rfl 2 rfl (by omega) (by omega) (by omega) hl2
    have HKC : Hid (∀ Z kk, GQL w Z N (N + 4) B (B + 1) a len cap kk y va n vc s c t q → SBL Z B (B + 1) y va n vc s c t) := fun Z kk h => h.sb
    have HKD : Hid (∀ Z, SBL Z B (B + 1) y va n vc s c t → Z.cell? ⟨B, 0, none⟩ = some (.int .i64 y) ∧ Z.cell? ⟨B, 1, none⟩ = some (.slice va n vc) ∧ Z.cell? ⟨B + 1, 0, none⟩ = some (.int .i64 s) ∧ Z.cell? ⟨B + 1, 1, none⟩ = some (.int .i64 c) ∧ Z.cell? ⟨B + 1, 2, none⟩ = some (.int .i64 t)) := fun Z h => h
    have HKS : Hid (∀ Z i z, SBL Z B (B + 1) y va n vc s c t → SBL (Z.setCell ⟨N, i, none⟩ z) B (B + 1) y va n vc s c t) := fun Z i z h => h.off (by omega) (by omega)
    have HKT : Hid (∀ Z i z, SBL Z B (B + 1) y va n vc s c t → SBL (Z.setCell ⟨N + 1, i, none⟩ z) B (B + 1) y va n vc s c t) := fun Z i z h => h.off (by omega) (by omega)
    go_region_held3 (fun Z => Z.cell? ⟨B, 0, none⟩ = some (.int .i64 y) ∧ Z.cell? ⟨B, 1, none⟩ = some (.slice va n vc) ∧ Z.cell? ⟨B + 1, 0, none⟩ = some (.int .i64 s) ∧ Z.cell? ⟨B + 1, 1, none⟩ = some (.int .i64 c) ∧ Z.cell? ⟨B + 1, 2, none⟩ = some (.int .i64 t))
      (first | ((with_reducible refine HKD.out _ ?_); (with_reducible refine HKC.out _ k ?_); (repeat (first | with_reducible exact JP.out | with_reducible exact JA.out | with_reducible exact JR.out | with_reducible refine GQL.al ?_ | with_reducible refine GQL.drw ?_)); done) | ((with_reducible refine HKD.out _ ?_); (with_reducible refine HKC.out _ (k + 1) ?_); (repeat (first | with_reducible exact JP.out | with_reducible exact JA.out | with_reducible exact JR.out | with_reducible refine GQL.al ?_ | with_reducible refine GQL.drw ?_)); done) | ((with_reducible refine HKD.out _ ?_); (with_reducible refine HKC.out _ (k + 2) ?_); (repeat (first | with_reducible exact JP.out | with_reducible exact JA.out | with_reducible exact JR.out | with_reducible refine GQL.al ?_ | with_reducible refine GQL.drw ?_)); done) | ((with_reducible refine HKD.out _ ?_); (repeat (first | with_reducible exact HSP.out | with_reducible refine HKS.out _ _ _ ?_ | with_reducible refine HKT.out _ _ _ ?_)); done))
      (first
      | (go_at_call 39; (with_reducible refine (HP1.out _ _ ?_ ?_).mono ?_); (repeat (first | with_reducible exact JP.out | with_reducible exact JA.out | with_reducible exact JR.out | with_reducible refine GQL.al ?_ | with_reducible refine GQL.drw ?_)); (repeat (first | with_reducible exact LCN.new _ _ | with_reducible exact LCN.new1 _ _ _ | with_reducible refine LCN.ap AP.out ?_ (by first | (have := SR.out; omega) | (have := SA.out; omega) | (have := SP.out; omega)) | with_reducible refine LCN.ap AA.out ?_ (by first | (have := SR.out; omega) | (have := SA.out; omega) | (have := SP.out; omega)) | with_reducible refine LCN.al ?_ | with_reducible refine LCN.drw ?_)); rintro r wa ⟨⟨x1v, m1, rfl⟩, jd, ja⟩; have JA := rulW jd; clear jd ja m1; obtain ⟨p0, p1, pf, _⟩ := JA.out.q0; obtain ⟨x0, x1, x2, xf, _⟩ := JA.out.q1; have pf0 := pf 0; have pf1 := pf 1; have xf0 := xf 0; have xf1 := xf 1; have xf2 := xf 2; clear pf xf; have GF := rulW JA.out.fin; have HSP := rulW JA.out.sb))
    all_goals
      go_wp2_with fail
      exact bodyPost_ret (v := .tuple #[.agg #[.int .i64 y, .slice va n vc], .agg #[.int .i64 s, .int .i64 c, .int .i64 t], .int .i64 x1v]) (by simp [results, Try.results19, go_sem, p0, p1, x0, x1, x2]) rfl (AskX.mk HLN.out (by omega) (FinL.in (SB := N + 4) (a := a) (len := len) (cap := cap) (k := k + 1 + 1) (n := n) (vc := vc) (by repeat (first | with_reducible exact GF.out | with_reducible refine FinL.set ?_ (by omega) | with_reducible refine FinL.drw ?_)) HN.out))
  · go_upto_region 3 with fail
    obtain ⟨g, off, hva, hat⟩ : ∃ g off, va = some ⟨g, off, none⟩ ∧ WtAt W2 g off q := by
      obtain ⟨x, z, e, h2, hin⟩ := JR.out.fin.ow.in
      simp only [Value.slice.injEq] at e
      rcases hin with h | ⟨g, off, e2, h3⟩
      · exact absurd (by rw [← HLN.out, h]; rfl) hn0
      · exact ⟨g, off, by rw [e.1, e2], h3⟩
    subst hva
    have hg5 : N + 5 ≤ g := row_ge JR.out.fin.ow g rfl
    have hgW : g < W2.heap.size := (World.ownsRow.lt JR.out.fin.ow g rfl).2
    obtain ⟨fw, hfw⟩ : ∃ fw : Nat → Int, fw = fun i => (q.getD i ⟨0, 0⟩).wi := ⟨_, rfl⟩
    have HQW : Hid (∀ X kk, GQL w X N (N + 4) B (B + 1) a len cap kk y (some ⟨g, off, none⟩) n vc s c t q → ∀ i : Nat, i < n → X.cell? ⟨g, off + i * 2, none⟩ = some (.int .i64 (fw i))) := fun X kk h i hi => by
      obtain ⟨x, z, e, h2, hin⟩ := h.fin.ow.in
      simp only [Value.slice.injEq] at e
      have hil : i < q.length := by rw [HLN.out]; exact hi
      rcases hin with h3 | ⟨g3, off3, e2, h3⟩
      · rw [h3] at hil; simp at hil
      · rw [← e.1] at e2
        simp only [Option.some.injEq, Addr.mk.injEq, and_true] at e2
        obtain ⟨rfl, rfl⟩ := e2
        have h4 := (h3 i _ (List.getElem?_eq_getElem hil)).1
        rw [h4, hfw]
        simp [List.getD_eq_getElem?_getD, List.getElem?_eq_getElem hil]
    clear hat hfw
    have HNX : Hid (∀ X, GQL w X N (N + 4) B (B + 1) a len cap (k + 1) y (some ⟨g, off, none⟩) n vc s c t q → Calls Try.prog 57 #[.pointer (some ⟨N + 4, 0, none⟩), .int .i64 (n : Int)] X fun e w' => (∃ u : Nat, u < n ∧ e = .returned (.int .i64 (u : Int))) ∧ GQL w w' N (N + 4) B (B + 1) a len cap (k + 2) y (some ⟨g, off, none⟩) n vc s c t q) := fun X h => (l1Next_h X (N + 4) a len cap (k + 1) n h.fin.sr (by omega) (by omega) (by omega) hl2).mono fun _ _ ⟨⟨v, v0, v1, h1⟩, h2, h3, h4⟩ => by
      obtain ⟨u, rfl⟩ := Int.eq_ofNat_of_zero_le v0
      exact ⟨⟨u, by omega, h1⟩, h.step h2 h3 h4⟩
    have HKC : Hid (∀ Z kk, GQL w Z N (N + 4) B (B + 1) a len cap kk y (some ⟨g, off, none⟩) n vc s c t q → SBL Z B (B + 1) y (some ⟨g, off, none⟩) n vc s c t ∧ ∀ i : Nat, i < n → Z.cell? ⟨g, off + i * 2, none⟩ = some (.int .i64 (fw i))) := fun Z kk h => ⟨h.sb, HQW.out Z kk h⟩
    have HKD : Hid (∀ Z, (SBL Z B (B + 1) y (some ⟨g, off, none⟩) n vc s c t ∧ ∀ i : Nat, i < n → Z.cell? ⟨g, off + i * 2, none⟩ = some (.int .i64 (fw i))) → Z.cell? ⟨B, 0, none⟩ = some (.int .i64 y) ∧ Z.cell? ⟨B, 1, none⟩ = some (.slice (some ⟨g, off, none⟩) n vc) ∧ Z.cell? ⟨B + 1, 0, none⟩ = some (.int .i64 s) ∧ Z.cell? ⟨B + 1, 1, none⟩ = some (.int .i64 c) ∧ Z.cell? ⟨B + 1, 2, none⟩ = some (.int .i64 t) ∧ ∀ i : Nat, i < n → Z.cell? ⟨g, off + i * 2, none⟩ = some (.int .i64 (fw i))) := fun Z h => ⟨h.1.1, h.1.2.1, h.1.2.2.1, h.1.2.2.2.1, h.1.2.2.2.2, h.2⟩
    have HKS : Hid (∀ (Z : World) b i z, (b = N ∨ b = N + 1) → (SBL Z B (B + 1) y (some ⟨g, off, none⟩) n vc s c t ∧ ∀ i : Nat, i < n → Z.cell? ⟨g, off + i * 2, none⟩ = some (.int .i64 (fw i))) → SBL (Z.setCell ⟨b, i, none⟩ z) B (B + 1) y (some ⟨g, off, none⟩) n vc s c t ∧ ∀ j : Nat, j < n → (Z.setCell ⟨b, i, none⟩ z).cell? ⟨g, off + j * 2, none⟩ = some (.int .i64 (fw j))) := fun Z b i z hb h => ⟨h.1.off (by omega) (by omega), fun j hj => by rw [World.cell?_setCell_other _ _ _ _ (fun e => by have := congrArg Addr.block e; simp at this; omega)]; exact h.2 j hj⟩
    clear hg5 HQW
    go_region_held3 (fun Z => Z.cell? ⟨B, 0, none⟩ = some (.int .i64 y) ∧ Z.cell? ⟨B, 1, none⟩ = some (.slice (some ⟨g, off, none⟩) n vc) ∧ Z.cell? ⟨B + 1, 0, none⟩ = some (.int .i64 s) ∧ Z.cell? ⟨B + 1, 1, none⟩ = some (.int .i64 c) ∧ Z.cell? ⟨B + 1, 2, none⟩ = some (.int .i64 t) ∧ ∀ i : Nat, i < n → Z.cell? ⟨g, off + i * 2, none⟩ = some (.int .i64 (fw i)))
      (first | ((with_reducible refine HKD.out _ ?_); (with_reducible refine HKC.out _ (k + 1) ?_); (repeat (first | with_reducible exact JP.out | with_reducible exact JA.out | with_reducible exact JR.out | with_reducible refine GQL.al ?_ | with_reducible refine GQL.drw ?_)); done) | ((with_reducible refine HKD.out _ ?_); (with_reducible refine HKC.out _ (k + 2) ?_); (repeat (first | with_reducible exact JP.out | with_reducible exact JA.out | with_reducible exact JR.out | with_reducible refine GQL.al ?_ | with_reducible refine GQL.drw ?_)); done) | ((with_reducible refine HKD.out _ ?_); (repeat (first | with_reducible exact HSP.out | with_reducible refine HKS.out _ _ _ _ (by omega) ?_)); done))
      (first
      | (go_at_call 57; (with_reducible refine (HNX.out _ ?_).mono ?_); (repeat (first | with_reducible exact JP.out | with_reducible exact JA.out | with_reducible exact JR.out | with_reducible refine GQL.al ?_ | with_reducible refine GQL.drw ?_)); rintro r wa ⟨⟨u, hu, rfl⟩, jd⟩; have JA := rulW jd; clear jd; have hui : (u : Int) < (n : Int) := (by omega); have hu0 : (0 : Int) ≤ (u : Int) := (by omega); obtain ⟨p0, p1, pf, _⟩ := JA.out.q0; obtain ⟨x0, x1, x2, xf, _⟩ := JA.out.q1; have pf0 := pf 0; have pf1 := pf 1; have xf0 := xf 0; have xf1 := xf 1; have xf2 := xf 2; clear pf xf; have GF := rulW JA.out.fin; have HSP := rulW (HKC.out _ _ JA.out); have hcu := HSP.out.2 u hu))
    all_goals
      go_wp2_with fail
      exact bodyPost_ret (v := .tuple #[.agg #[.int .i64 y, .slice (some ⟨g, off, none⟩) n vc], .agg #[.int .i64 s, .int .i64 c, .int .i64 t], .int .i64 (fw u)]) (by simp [results, Try.results19, go_sem, p0, p1, x0, x1, x2]) rfl (AskX.mk HLN.out (by omega) (FinL.in (SB := N + 4) (a := a) (len := len) (cap := cap) (k := k + 2) (n := n) (vc := vc) (by repeat (first | with_reducible exact GF.out | with_reducible refine FinL.set ?_ (by omega) | with_reducible refine FinL.drw ?_)) HN.out))
end Go.Proofs.Ytmgidcigihpbeaa
