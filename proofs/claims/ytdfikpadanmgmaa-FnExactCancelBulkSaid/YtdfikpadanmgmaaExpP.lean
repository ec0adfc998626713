/-
  Who goes, in plain words; two rows that grow.
-/
import Derived.Test.YtdfikpadanmgmaaEnterP
import Derived.Test.YtdfikpadanmgmaaNwList
namespace Go.Proofs.Ytdfikpadanmgmaa
open Go.ChangeShapes Go.WideShapes Go.ChangeAt Go.RowKit Go.Sort
structure ExQ where
  c : Int
  y : Int
  l : List Wt
  i : List Int
/-- Where the two lists of an answer lie. -/
structure R4 where
  a : Option Addr
  c : Nat
  i : Option Addr
  k : Nat
/-- Two lists of one's own, in blocks of their own. -/
def XN (w : World) (base : Nat) (r : R4) (m : Nat) (ql : List Wt) (mi : Nat) (qi : List Int) : Prop := WtNew w base (.slice r.a m r.c) ql ∧ NsNew w base (.slice r.i mi r.k) qi ∧ ∀ g h, (Value.slice r.a m r.c).ownBlock = some g → (Value.slice r.i mi r.k).ownBlock = some h → ql = [] ∨ qi = [] ∨ g ≠ h
def ExRes (w : World) (base : Nat) (q : ExQ) (e : Ending) : Prop := ∃ r : R4, e = .returned (.agg #[.int .i64 q.c, .int .i64 q.y, .slice r.a q.l.length r.c, .slice r.i q.i.length r.k]) ∧ XN w base r q.l.length q.l q.i.length q.i ∧ q.l.length ≤ r.c
theorem ExRes.mk {w : World} {base : Nat} {q : ExQ} {c0 y : Int} {a i : Option Addr} {n cp m k : Nat} {l : List Wt} {ii : List Int} (h : q = ⟨c0, y, l, ii⟩) (hn : l.length = n) (hm : ii.length = m) (hx : XN w base ⟨a, cp, i, k⟩ n l m ii) (hc : n ≤ cp) : ExRes w base q (.returned (.agg #[.int .i64 c0, .int .i64 y, .slice a n cp, .slice i m k])) := by
  subst h; subst hn; subst hm
  exact ⟨⟨a, cp, i, k⟩, rfl, hx, hc⟩
theorem XN.nil (w : World) (base : Nat) : XN w base ⟨none, 0, none, 0⟩ 0 [] 0 [] := ⟨WtNew.nil _ _ _ _, NsNew.nil _ _ _ _, fun _ _ _ _ => .inl rfl⟩
theorem XN.keep {w w' : World} {base : Nat} {r : R4} {m mi : Nat} {ql : List Wt} {qi : List Int} (h : XN w base r m ql mi qi) (hb : Below w.heap.size w w') : XN w' base r m ql mi qi := ⟨h.1.keep hb, h.2.1.keep hb, h.2.2⟩
theorem XN.lower {w : World} {b0 base : Nat} {r : R4} {m mi : Nat} {ql : List Wt} {qi : List Int} (h : XN w base r m ql mi qi) (hb : b0 ≤ base) : XN w b0 r m ql mi qi := ⟨h.1.lower hb, h.2.1.lower hb, h.2.2⟩
theorem XN.gw2 {g : Nat} {w w' : World} {base : Nat} {r : R4} {m mi : Nat} {ql : List Wt} {qi : List Int} (h : XN w base r m ql mi qi) (k : w.grownBy w' (some g)) (hg : g < base) : XN w' base r m ql mi qi := ⟨h.1.gw2 k hg, h.2.1.gb2 k hg, h.2.2⟩
def goneW (now : Int) (l : List Wt) : List Int := (l.filter fun r => decide (r.du ≤ now)).map Wt.wi
def leftW (now : Int) (l : List Wt) : List Wt := l.filter fun r => !decide (r.du ≤ now)
def withoutW (l : List Wt) (ids : List Int) : List Wt := l.filter fun r => !(ids.any fun x => decide (r.wi = x))
theorem goneW_take {now : Int} {l : List Wt} {k : Nat} {r : Wt} (hr : l[k]? = some r) : goneW now (l.take (k + 1)) = goneW now (l.take k) ++ (if r.du ≤ now then [r.wi] else []) := by
  obtain ⟨hk, rfl⟩ := List.getElem?_eq_some_iff.1 hr
  rw [List.take_succ_eq_append_getElem hk, goneW, goneW, List.filter_append, List.map_append]
  by_cases h : l[k].du ≤ now <;> simp [List.filter, h]
theorem leftW_take {now : Int} {l : List Wt} {k : Nat} {r : Wt} (hr : l[k]? = some r) : leftW now (l.take (k + 1)) = leftW now (l.take k) ++ (if r.du ≤ now then [] else [r]) := by
  obtain ⟨hk, rfl⟩ := List.getElem?_eq_some_iff.1 hr
  rw [List.take_succ_eq_append_getElem hk, leftW, leftW, List.filter_append]
  by_cases h : l[k].du ≤ now <;> simp [List.filter, h]
theorem withoutW_take {l : List Wt} {ids : List Int} {k : Nat} {r : Wt} (hr : l[k]? = some r) : withoutW (l.take (k + 1)) ids = withoutW (l.take k) ids ++ (if (ids.any fun x => decide (r.wi = x)) = true then [] else [r]) := by
  obtain ⟨hk, rfl⟩ := List.getElem?_eq_some_iff.1 hr
  rw [List.take_succ_eq_append_getElem hk, withoutW, withoutW, List.filter_append]
  cases h : (ids.any fun x => decide (l[k].wi = x)) <;> simp [List.filter, h]
theorem goneW_len (now : Int) (l : List Wt) : (goneW now l).length ≤ l.length := by rw [goneW, List.length_map]; exact List.length_filter_le _ _
theorem leftW_len (now : Int) (l : List Wt) : (leftW now l).length ≤ l.length := List.length_filter_le _ _
theorem withoutW_len (l : List Wt) (ids : List Int) : (withoutW l ids).length ≤ l.length := List.length_filter_le _ _
theorem nodupW_same {l : List Wt} (h : nodupW l = true) {r q : Wt} (hr : r ∈ l) (hq : q ∈ l) (e : r.wi = q.wi) : r = q := by
  obtain ⟨i, hi⟩ := List.getElem?_of_mem hr
  obtain ⟨j, hj⟩ := List.getElem?_of_mem hq
  rcases Nat.lt_trichotomy i j with h1 | h1 | h1
  · exact absurd e.symm ((nodupW_iff l).1 h j i q r h1 hj hi)
  · subst h1; rw [hi] at hj; exact Option.some.inj hj
  · exact absurd e ((nodupW_iff l).1 h i j r q h1 hi hj)
/-- Nobody has the number of somebody who goes and stays. -/
theorem without_gone {l : List Wt} (h : nodupW l = true) (now : Int) : withoutW l (goneW now l) = leftW now l := by
  unfold withoutW leftW
  apply List.filter_congr
  intro r hr
  congr 1
  by_cases hd : r.du ≤ now
  · rw [show decide (r.du ≤ now) = true by simpa using hd, List.any_eq_true]
    exact ⟨r.wi, List.mem_map.2 ⟨r, List.mem_filter.2 ⟨hr, by simpa using hd⟩, rfl⟩, by simp⟩
  · rw [show decide (r.du ≤ now) = false by simpa using hd, List.any_eq_false]
    intro x hx
    obtain ⟨q, hq, rfl⟩ := List.mem_map.1 hx
    obtain ⟨hq1, hq2⟩ := List.mem_filter.1 hq
    simp only [decide_eq_true_eq] at hq2 ⊢
    intro e
    rw [nodupW_same h hr hq1 e] at hd
    exact hd hq2
def expireR (y : Int) (l : List Wt) (s c t now : Int) : ExQ :=
  if blkC y l s c t = 0 then (if timeB now = true then ⟨0, y, leftW now l, goneW now l⟩ else ⟨3, 0, [], []⟩) else ⟨blkC y l s c t, 0, [], []⟩
def cancelR (y : Int) (l : List Wt) (s c t x : Int) : ExQ :=
  if blkC y l s c t = 0 then (if hasW l x = true then ⟨0, y, withoutW l [x], [x]⟩ else ⟨4, 0, [], []⟩) else ⟨blkC y l s c t, 0, [], []⟩
section
variable {y s c t now x : Int} {l : List Wt}
theorem expire_bad (h : ¬ blkC y l s c t = 0) : expireR y l s c t now = ⟨blkC y l s c t, 0, [], []⟩ := by rw [expireR, if_neg h]
theorem expire_range (h : blkC y l s c t = 0) (h1 : timeB now = false) : expireR y l s c t now = ⟨3, 0, [], []⟩ := by rw [expireR, if_pos h, if_neg (by rw [h1]; decide)]
theorem expire_ok (h : blkC y l s c t = 0) (h1 : timeB now = true) : expireR y l s c t now = ⟨0, y, leftW now l, goneW now l⟩ := by rw [expireR, if_pos h, if_pos h1]
theorem cancel_bad (h : ¬ blkC y l s c t = 0) : cancelR y l s c t x = ⟨blkC y l s c t, 0, [], []⟩ := by rw [cancelR, if_neg h]
theorem cancel_none (h : blkC y l s c t = 0) (h1 : hasW l x = false) : cancelR y l s c t x = ⟨4, 0, [], []⟩ := by rw [cancelR, if_pos h, if_neg (by rw [h1]; decide)]
theorem cancel_ok (h : blkC y l s c t = 0) (h1 : hasW l x = true) : cancelR y l s c t x = ⟨0, y, withoutW l [x], [x]⟩ := by rw [cancelR, if_pos h, if_pos h1]
theorem expireR_len (h : l.length ≤ 1048576) : (expireR y l s c t now).l.length ≤ 1048576 ∧ (expireR y l s c t now).i.length ≤ 1048576 := by
  have h1 := leftW_len now l
  have h2 := goneW_len now l
  unfold expireR
  split
  · split
    · exact ⟨by simp only; omega, by simp only; omega⟩
    · simp
  · simp
theorem cancelR_len (h : l.length ≤ 1048576) : (cancelR y l s c t x).l.length ≤ 1048576 ∧ (cancelR y l s c t x).i.length ≤ 1048576 := by
  have h1 := withoutW_len l [x]
  unfold cancelR
  split
  · split
    · exact ⟨by simp only; omega, by simp⟩
    · simp
  · simp
end
theorem wpList_appendGWt {ops : Array Oper} {rest : List Oper} {o : Oper} {a : Act} {Q : Exit → Act → World → Prop} (w : World) (hgd : o.guard = none) (s x : Operand)
    (ho : o.op = .call { callee := .builtin .append, args := #[s, x], argTypes := #[33, 33] }) (base : Nat) (v : Value) (l : List Wt) (r : Wt)
    (hs : a.eval s = v) (hx : a.eval x = .slice (some ⟨w.heap.size, 0, none⟩) 1 1) (hown : OwnWt w base v l) (hl : l.length ≤ 2000000) (hbase : base ≤ w.heap.size)
    (h : ∀ g cap w', OwnWt w' base (.slice (some ⟨g, 0, none⟩) (l.length + 1) cap) (l ++ [r]) → w.grownBy w' v.ownBlock → (v.ownBlock = some g ∨ w.heap.size ≤ g) → wpList Try.prog ops Q rest (a.put o.dst (.slice (some ⟨g, 0, none⟩) (l.length + 1) cap)) w') :
    wpList Try.prog ops Q (o :: rest) a (w.alloc (.cells #[.int .i64 r.wi, .int .i64 r.du] 64)) := by
  obtain ⟨i0, hi, hz0, hz1, hz2⟩ := info_parts infoWt
  refine wpList_append_lies _ hgd s x 33 ho base 64 i0 (.agg #[.int .i64 0, .int .i64 0]) 2 16 Try.underlying33 hi hz0 hz1 hz2 rfl (by decide) v l.length (wWt l) hs (World.ownsRow.alloc hown _) ⟨w.heap.size, 0, none⟩ 1 1 (cellWt r) hx rfl ?_ ?_ (by decide) ?_ ?_ ?_ _ rfl ?_
  · intro j u hj
    match j, hj with
    | 0, hj => simp [cellWt] at hj; subst hj; simp [Addr.add]
    | 1, hj => simp [cellWt] at hj; subst hj; simp [Addr.add]
  · intro u hu; simp [cellWt] at hu; rcases hu with rfl | rfl <;> rfl
  · unfold maxLen; omega
  · omega
  · simp; omega
  · intro g cap w' h1 h2 h3 _
    refine h g cap w' ?_ ?_ ?_
    · unfold OwnWt
      rw [List.length_append, show wWt (l ++ [r]) = wWt l ++ cellWt r by simp [wWt]]
      exact h1
    · have hb := (Below.refl w.heap.size w).alloc (Nat.le_refl _) (.cells #[.int .i64 r.wi, .int .i64 r.du] 64)
      exact ⟨h2.os.trans hb.os, h2.tape.trans hb.tape, h2.output.trans hb.output, Nat.le_trans hb.size h2.size, fun q hq hn => (h2.block q (Nat.lt_of_lt_of_le hq hb.size) hn).trans (hb.block q hq)⟩
    · rcases h3 with h3 | h3
      · exact .inl h3
      · right; rw [h3]; simp
/-- Two rows of one's own that grow, and boxes ahead of them. -/
structure XJ (w0 w : World) (base : Nat) (vl vi : Value) (L : List Wt) (I : List Int) : Prop where
  ol : OwnWt w base vl L
  oi : OwnNs w base vi I
  ap : ∀ q, vl.ownBlock = some q → vi.ownBlock ≠ some q
  lo : Below base w0 w
theorem XJ.tellL {w0 w w' : World} {base g cap n : Nat} {vl vi : Value} {L : List Wt} {I : List Int} {r : Wt} (h : XJ w0 w base vl vi L I) (hb : base ≤ w.heap.size) (h1 : OwnWt w' base (.slice (some ⟨g, 0, none⟩) n cap) (L ++ [r])) (h2 : w.grownBy w' vl.ownBlock) (h3 : vl.ownBlock = some g ∨ w.heap.size ≤ g) : XJ w0 w' base (.slice (some ⟨g, 0, none⟩) n cap) vi (L ++ [r]) I := by
  refine ⟨h1, ?_, ?_, h.lo.trans ⟨h2.os, h2.tape, h2.output, h2.size, fun k hk => h2.block k (by omega) (fun e => by have := row_ge h.ol k e.symm; omega)⟩⟩
  · refine OwnNs.kept h.oi h2 ?_
    cases e : vi.ownBlock with
    | none => exact .inl rfl
    | some q => right; intro e2; exact h.ap q e2.symm e
  · intro q hq e
    simp only [Value.ownBlock, Option.some.injEq] at hq
    subst hq
    rcases h3 with h3 | h3
    · exact h.ap _ h3 e
    · have := World.ownsRow.lt h.oi _ e; omega
theorem XJ.tellI {w0 w w' : World} {base g cap n : Nat} {vl vi : Value} {L : List Wt} {I : List Int} {x : Int} (h : XJ w0 w base vl vi L I) (hb : base ≤ w.heap.size) (h1 : OwnNs w' base (.slice (some ⟨g, 0, none⟩) n cap) (I ++ [x])) (h2 : w.grownBy w' vi.ownBlock) (h3 : vi.ownBlock = some g ∨ w.heap.size ≤ g) : XJ w0 w' base vl (.slice (some ⟨g, 0, none⟩) n cap) L (I ++ [x]) := by
  refine ⟨?_, h1, ?_, h.lo.trans ⟨h2.os, h2.tape, h2.output, h2.size, fun k hk => h2.block k (by omega) (fun e => by have := row_ge h.oi k e.symm; omega)⟩⟩
  · refine World.ownsRow.kept h.ol h2 ?_
    cases e : vl.ownBlock with
    | none => exact .inl rfl
    | some q => right; intro e2; exact h.ap q e e2.symm
  · intro q hq e
    simp only [Value.ownBlock, Option.some.injEq] at e
    subst e
    rcases h3 with h3 | h3
    · exact h.ap _ hq h3
    · have := World.ownsRow.lt h.ol _ hq; omega
end Go.Proofs.Ytdfikpadanmgmaa
