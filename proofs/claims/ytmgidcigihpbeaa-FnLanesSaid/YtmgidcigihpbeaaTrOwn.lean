/-
  A list in a row of one's own: what is appended; new lists.
-/
import Derived.Test.YtmgidcigihpbeaaTrTo
import Derived.Test.YtmgidcigihpbeaaRowApp
import Derived.Test.YtmgidcigihpbeaaOneB
namespace Go.Proofs.Ytmgidcigihpbeaa
open Go.ChangeShapes Go.WideShapes Go.ChangeAt Go.RowKit Go.Sort
def cellTr (r : Tr) : List Value := [.int .i64 r.tm, .bool r.ak, .bool r.gd]
def wTr (l : List Tr) : List Value := l.flatMap cellTr
theorem wTr_len (l : List Tr) : (wTr l).length = l.length * 3 := by
  induction l with
  | nil => rfl
  | cons r l ih => simp only [wTr, List.flatMap_cons, List.length_append, List.length_cons] at ih ⊢; rw [ih]; simp [cellTr]; omega
theorem wTr_at (l : List Tr) : ∀ (i : Nat) r, l[i]? = some r → (wTr l)[i * 3]? = some (.int .i64 r.tm) ∧ (wTr l)[i * 3 + 1]? = some (.bool r.ak) ∧ (wTr l)[i * 3 + 2]? = some (.bool r.gd) := by
  induction l with
  | nil => intro i r hr; simp at hr
  | cons x l ih =>
    intro i r hr
    have e : wTr (x :: l) = .int .i64 x.tm :: .bool x.ak :: .bool x.gd :: wTr l := by simp [wTr, cellTr]
    rw [e]
    cases i with
    | zero => simp at hr; subst hr; simp
    | succ i =>
      have := ih i r (by simpa using hr)
      rw [show (i + 1) * 3 = i * 3 + 3 from by omega]
      simpa using this
theorem wTr_one (l : List Tr) : ∀ u ∈ wTr l, u.oneCell' = true := by
  intro u hu
  simp only [wTr, List.mem_flatMap] at hu
  obtain ⟨r, _, hr⟩ := hu
  simp only [cellTr, List.mem_cons, List.not_mem_nil, or_false] at hr
  rcases hr with rfl | rfl | rfl <;> rfl
theorem addTr (b off j : Nat) : (⟨b, off, none⟩ : Addr).add j = ⟨b, off + j, none⟩ := by unfold Addr.add; split <;> simp_all
theorem wTr_in {w : World} {a : Option Addr} {l : List Tr} (h : TrIn w a l) : l.length = 0 ∨ ∃ ad, a = some ad ∧ ∀ j u, (wTr l)[j]? = some u → w.cell? (ad.add j) = some u := by
  rcases h with rfl | ⟨b, off, rfl, h⟩
  · exact .inl rfl
  · refine .inr ⟨_, rfl, fun j u hj => ?_⟩
    rw [addTr]
    have hlt : j < (wTr l).length := (List.getElem?_eq_some_iff.1 hj).1
    rw [wTr_len] at hlt
    obtain ⟨r, hr⟩ : ∃ r, l[j / 3]? = some r := ⟨l[j / 3]'(by omega), List.getElem?_eq_getElem _⟩
    obtain ⟨e0, e1, e2⟩ := wTr_at l (j / 3) r hr
    obtain ⟨c0, c1, c2⟩ := h (j / 3) r hr
    obtain hm | hm | hm : j % 3 = 0 ∨ j % 3 = 1 ∨ j % 3 = 2 := by omega
    · have ej : j / 3 * 3 = j := by omega
      rw [ej] at e0 c0
      rw [e0] at hj
      rw [← hj]; exact c0
    · have ej : j / 3 * 3 + 1 = j := by omega
      rw [ej] at e1
      rw [Nat.add_assoc, ej] at c1
      rw [e1] at hj
      rw [← hj]; exact c1
    · have ej : j / 3 * 3 + 2 = j := by omega
      rw [ej] at e2
      rw [Nat.add_assoc, ej] at c2
      rw [e2] at hj
      rw [← hj]; exact c2
/-- v holds l in a block of its own, from base on. -/
def TrNew (w : World) (base : Nat) (v : Value) (l : List Tr) : Prop := (l = [] ∧ ∃ a c, v = .slice a 0 c) ∨ ∃ g off cap, v = .slice (some ⟨g, off, none⟩) l.length cap ∧ base ≤ g ∧ g < w.heap.size ∧ TrAt w g off l ∧ ∀ o, w.frozen? ⟨g, o, none⟩ = false
theorem TrNew.in {w : World} {base : Nat} {v : Value} {l : List Tr} (h : TrNew w base v l) : ∃ a c, v = .slice a l.length c ∧ TrIn w a l := by
  rcases h with ⟨rfl, a, c, rfl⟩ | ⟨g, off, cap, rfl, _, _, h, _⟩
  · exact ⟨a, c, rfl, .inl rfl⟩
  · exact ⟨_, _, rfl, .inr ⟨g, off, rfl, h⟩⟩
theorem TrNew.keep {w w' : World} {base : Nat} {v : Value} {l : List Tr} (h : TrNew w base v l) (hb : Below w.heap.size w w') : TrNew w' base v l := by
  rcases h with h | ⟨g, off, cap, e, h1, h2, h3, h4⟩
  · exact .inl h
  · exact .inr ⟨g, off, cap, e, h1, Nat.lt_of_lt_of_le h2 hb.size, h3.keep hb, fun o => by rw [hb.frozen (p := ⟨g, o, none⟩) h2]; exact h4 o⟩
theorem TrNew.lower {w : World} {b0 base : Nat} {v : Value} {l : List Tr} (h : TrNew w base v l) (hb : b0 ≤ base) : TrNew w b0 v l := by
  rcases h with h | ⟨g, off, cap, e, h1, h2⟩
  · exact .inl h
  · exact .inr ⟨g, off, cap, e, by omega, h2⟩
theorem TrNew.nil (w : World) (base : Nat) (a : Option Addr) (c : Nat) : TrNew w base (.slice a 0 c) [] := .inl ⟨rfl, a, c, rfl⟩
theorem TrAt.one {g G off : Nat} {w w' : World} {l : List Tr} (h : TrAt w G off l) (k : OneB g w w') (hne : G ≠ g) : TrAt w' G off l := by
  intro i r hr
  obtain ⟨p0, p1, p2⟩ := h i r hr
  exact ⟨by rw [k.cell _ hne]; exact p0, by rw [k.cell _ hne]; exact p1, by rw [k.cell _ hne]; exact p2⟩
theorem TrNew.one {g : Nat} {w w' : World} {base : Nat} {v : Value} {l : List Tr} (h : TrNew w base v l) (k : OneB g w w') (hne : ∀ G, v.ownBlock = some G → G ≠ g) : TrNew w' base v l := by
  rcases h with h | ⟨G, off, cap, rfl, h1, h2, h3, h4⟩
  · exact .inl h
  · have hn := hne G rfl
    exact .inr ⟨G, off, cap, rfl, h1, by rw [k.size]; exact h2, h3.one k hn, fun o => by rw [k.frozen _ hn]; exact h4 o⟩
theorem TrNew.spot {w : World} {base : Nat} {a : Option Addr} {n c : Nat} {l : List Tr} (h : TrNew w base (.slice a n c) l) : ∃ g off, base ≤ g ∧ (l = [] ∨ (a = some ⟨g, off, none⟩ ∧ TrAt w g off l ∧ ∀ o, o < off + l.length * 3 → w.frozen? ⟨g, o, none⟩ = false)) ∧ (l = [] ∨ g < w.heap.size) := by
  rcases h with ⟨e, _⟩ | ⟨g, off, cap, e, h1, h2, h3, h4⟩
  · exact ⟨base, 0, Nat.le_refl _, .inl e, .inl e⟩
  · simp only [Value.slice.injEq] at e
    obtain ⟨rfl, rfl, rfl⟩ := e
    exact ⟨g, off, h1, .inr ⟨rfl, h3, fun o _ => h4 o⟩, .inr h2⟩
end Go.Proofs.Ytmgidcigihpbeaa
