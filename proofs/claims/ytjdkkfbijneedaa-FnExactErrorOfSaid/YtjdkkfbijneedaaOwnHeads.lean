/-
  Head lines that the call itself grows.
-/
import Derived.Test.YtjdkkfbijneedaaHeadsLaws
import Derived.Test.YtjdkkfbijneedaaStrRow
namespace Go.Proofs.Ytjdkkfbijneedaa
open Go.ChangeShapes Go.WideShapes Go.ChangeAt Go.RowKit
def hdrW (r : Hdr) : List Value := [.string r.name, .string r.value]
def hdrsW (l : List Hdr) : List Value := l.flatMap hdrW
theorem hdrsW_len (l : List Hdr) : (hdrsW l).length = l.length * 2 := by
  induction l with
  | nil => rfl
  | cons r l ih => simp only [hdrsW, List.flatMap_cons, List.length_append, List.length_cons] at ih ⊢; rw [ih]; simp [hdrW]; omega
theorem hdrsW_at (l : List Hdr) : ∀ (i : Nat) r, l[i]? = some r → (hdrsW l)[i * 2]? = some (.string r.name) ∧ (hdrsW l)[i * 2 + 1]? = some (.string r.value) := by
  induction l with
  | nil => intro i r hr; simp at hr
  | cons x l ih =>
    intro i r hr
    have e : hdrsW (x :: l) = .string x.name :: .string x.value :: hdrsW l := by simp [hdrsW, hdrW]
    rw [e]
    cases i with
    | zero => simp at hr; subst hr; simp
    | succ i =>
      have := ih i r (by simpa using hr)
      rw [show (i + 1) * 2 = i * 2 + 1 + 1 from by omega]
      simpa using this
/-- v, nil or not, holds the items l in a row of the call's own, from block base on. -/
def OwnH (w : World) (base : Nat) (v : Value) (l : List Hdr) : Prop := w.ownsRow base 35 2 v l.length (hdrsW l)
theorem OwnH.nil (w : World) (base : Nat) : OwnH w base (.slice none 0 0) [] := World.ownsRow_nil _ _ _ _
theorem OwnH.made0 (w : World) (base : Nat) (hb : base ≤ w.heap.size) : OwnH (w.alloc (.cells #[] 35)) base (.slice (some ⟨w.heap.size, 0, none⟩) 0 0) [] := World.ownsRow_made w #[] 0 hb (by unfold maxLen; omega) rfl
theorem OwnH.below {w w' : World} {base : Nat} {v : Value} {l : List Hdr} (h : OwnH w base v l) (hb : Below w.heap.size w w') : OwnH w' base v l := by
  obtain ⟨h1, h2⟩ := h
  refine ⟨h1, ?_⟩
  rcases h2 with h2 | ⟨g, c, cur, e, hg, hh, hrest⟩
  · exact .inl h2
  · exact .inr ⟨g, c, cur, e, hg, by rw [hb.block g (Array.getElem?_eq_some_iff.1 hh).1]; exact hh, hrest⟩
theorem OwnH.lower {w : World} {b0 base : Nat} {v : Value} {l : List Hdr} (h : OwnH w base v l) (hb : b0 ≤ base) : OwnH w b0 v l := by
  obtain ⟨h1, h2⟩ := h
  refine ⟨h1, ?_⟩
  rcases h2 with h2 | ⟨g, c, cur, e, hg, hrest⟩
  · exact .inl h2
  · exact .inr ⟨g, c, cur, e, by omega, hrest⟩
theorem OwnH.at {w : World} {base : Nat} {v : Value} {l : List Hdr} (h : OwnH w base v l) : ∃ a c, v = .slice a l.length c ∧ HdsIn w a l := by
  have h0 := h
  obtain ⟨_, h1 | ⟨g, c, cur, rfl, _⟩⟩ := h
  · have e : l = [] := List.eq_nil_of_length_eq_zero h1.2
    exact ⟨none, 0, by rw [h1.1, e]; rfl, .inl e⟩
  · refine ⟨_, c, rfl, .inr ⟨g, 0, rfl, fun i r hr => ?_⟩⟩
    have hi := (List.getElem?_eq_some_iff.1 hr).1
    obtain ⟨a1, a3⟩ := hdrsW_at l i r hr
    have c1 := World.ownsRow.cellAt h0 (i * 2) (by omega)
    have c3 := World.ownsRow.cellAt h0 (i * 2 + 1) (by omega)
    exact ⟨by rw [Nat.zero_add, c1, a1], by rw [Nat.zero_add, c3, a3]⟩
theorem own_geH {w : World} {base : Nat} {e : TypeId} {size : Nat} {v : Value} {n : Nat} {xs : List Value} (h : w.ownsRow base e size v n xs) (q : Nat) (hq : v.ownBlock = some q) : base ≤ q := by
  obtain ⟨_, h | ⟨g, c, cur, rfl, hg, _⟩⟩ := h
  · rw [h.1] at hq; cases hq
  · simp only [Value.ownBlock, Option.some.injEq] at hq; omega
theorem own_apartH {w : World} {base base' : Nat} {v pv : Value} {l : List Hdr} {L : List ByteArray} (hp : OwnS w base' pv L) (hv : OwnH w base v l) : pv.ownBlock = none ∨ pv.ownBlock ≠ v.ownBlock := by
  obtain ⟨_, hp | ⟨g, c, cur, rfl, _, hh, _⟩⟩ := hp
  · left; rw [hp.1]; rfl
  · right
    obtain ⟨_, hv | ⟨g2, c2, cur2, rfl, _, hh2, _⟩⟩ := hv
    · rw [hv.1]; simp [Value.ownBlock]
    · simp only [Value.ownBlock, ne_eq, Option.some.injEq]
      rintro rfl
      rw [hh] at hh2
      simp at hh2
theorem wpList_append_hdr {ops : Array Oper} {rest : List Oper} {o : Oper} {a : Act} {Q : Exit → Act → World → Prop} (w : World) (hgd : o.guard = none) (s x : Operand)
    (ho : o.op = .call { callee := .builtin .append, args := #[s, x], argTypes := #[22, 22] }) (base : Nat) (v : Value) (l : List Hdr) (n : ByteArray) (z : ByteArray)
    (hs : a.eval s = v) (hx : a.eval x = .slice (some ⟨w.heap.size, 0, none⟩) 1 1) (hown : OwnH w base v l) (hl : l.length ≤ 1000000) (hbase : base ≤ w.heap.size)
    (h : ∀ v' w', OwnH w' base v' (l ++ [⟨n, z⟩]) → Below base w w' → w.heap.size ≤ w'.heap.size → (∀ base' pv L, OwnS w base' pv L → OwnS w' base' pv L) → wpList Try.prog ops Q rest (a.put o.dst v') w') :
    wpList Try.prog ops Q (o :: rest) a (w.alloc (.cells #[.string n, .string z] 35)) := by
  obtain ⟨i0, hi, hz0, hz1, hz2⟩ := info_parts infoHeader
  refine wpList_append_own _ hgd s x 22 ho base 35 i0 (.agg #[.string ⟨#[]⟩, .string ⟨#[]⟩]) 2 32 Try.underlying22 hi hz0 hz1 hz2 rfl (by decide) v l.length (hdrsW l) hs (World.ownsRow.alloc hown _) ⟨w.heap.size, 0, none⟩ 1 1 [.string n, .string z] hx rfl ?_ ?_ ?_ ?_ ?_ ?_
  · intro j u hj
    match j, hj with
    | 0, hj => simp at hj; subst hj; simp [Addr.add]
    | 1, hj => simp at hj; subst hj; simp [Addr.add]
  · intro u hu; simp at hu; rcases hu with rfl | rfl <;> rfl
  · unfold maxLen; omega
  · omega
  · simp; omega
  · intro v' w' h1 h2 h3
    have e : hdrsW (l ++ [⟨n, z⟩]) = hdrsW l ++ [.string n, .string z] := by simp [hdrsW, hdrW]
    refine h v' w' (by unfold OwnH; rw [e, List.length_append]; exact h1) ?_ ?_ ?_
    · exact ((Below.refl base w).alloc hbase _).grown h2 (by simp; omega) (fun q hq => own_geH hown q hq)
    · have hb := ((Below.refl 0 w).alloc (Nat.zero_le _) (.cells #[.string n, .string z] 35)).grown h2 (Nat.zero_le _) (fun q _ => Nat.zero_le _)
      exact hb.size
    · intro base' pv L hp
      exact World.ownsRow.kept (World.ownsRow.alloc hp _) h2 (own_apartH hp hown)
end Go.Proofs.Ytjdkkfbijneedaa
