/-
  A list that came in, opened.
-/
import Derived.Test.YtnepafpaimoadaaTrAt
namespace Go.Proofs.Ytnepafpaimoadaa
open Go.ChangeShapes Go.WideShapes Go.ChangeAt Go.RowKit Go.Deep
theorem cellsTr : Try.prog.cellsOf 121 = 3 := by kernel_rfl
theorem oneTrb : Try.prog.cellsOf 4 = 1 := by kernel_rfl
theorem oneTri : Try.prog.cellsOf 2 = 1 := by kernel_rfl
theorem ofTr {H : Type} {enc : TypeId × Value → H} {w : World} {base : Nat} {spare : Nat → Bool} {held : Bool} {fuel : Nat} {cs : List Value} {x : DataW H × List MemPlace}
    (h : DataW.trod enc Try.prog w base spare held fuel 121 cs = some x) : ∃ r : Tr, cs = [.int .i64 r.tm, .bool r.ak, .bool r.gd] := by
  obtain ⟨y0, y1, y2, n, _, hl, h0, h1, h2⟩ := trod_struct3 Try.underlying121 h
  rw [cellsTr] at hl
  simp only [oneTrb, oneTri] at h0 h1 h2
  obtain ⟨s0, e0, _⟩ := DataW.trod_int Try.underlying2 h0
  obtain ⟨s1, e1, _⟩ := DataW.trod_bool Try.underlying4 h1
  obtain ⟨s2, e2, _⟩ := DataW.trod_bool Try.underlying4 h2
  match cs, hl with
  | [c0, c1, c2], _ =>
    simp only [List.drop_zero, List.take_succ_cons, List.take_zero, List.drop_succ_cons, List.cons.injEq, and_true] at e0 e1 e2
    exact ⟨⟨s0, s1, s2⟩, by rw [e0, e1, e2]⟩
theorem openTr {H : Type} {enc : TypeId × Value → H} {w : World} {base : Nat} {spare : Nat → Bool} {held : Bool} {fuel : Nat} {a : Option Addr} {len cap : Nat} {x : DataW H × List MemPlace}
    (h : DataW.trod enc Try.prog w base spare held fuel 73 [.slice a len cap] = some x) :
    ∃ l : List Tr, l.length = len ∧ len ≤ maxLen ∧ TrIn w a l := by
  rcases open_slice Try.underlying73 h with ⟨hcs, _⟩ | ⟨A, len', cap', m, n, D, Pl, hcs, _, hl, hm, hmm, _, hel⟩
  · simp only [List.cons.injEq, Value.slice.injEq, and_true] at hcs
    obtain ⟨_, rfl, _⟩ := hcs
    exact ⟨[], rfl, by unfold maxLen; omega, .inl rfl⟩
  · simp only [List.cons.injEq, Value.slice.injEq, and_true] at hcs
    obtain ⟨rfl, rfl, rfl⟩ := hcs
    have hlm : len ≤ m := by rw [hmm]; split <;> omega
    have hrec : ∀ i, i < len → ∃ r : Tr, w.cells? base (A.add (i * 3)) 3 = some [.int .i64 r.tm, .bool r.ak, .bool r.gd] := by
      intro i hi
      obtain ⟨cs', hc, ht⟩ := hel i (by omega)
      rw [cellsTr] at hc
      obtain ⟨r, rfl⟩ := ofTr ht
      exact ⟨r, hc⟩
    obtain ⟨f, hf⟩ : ∃ f : Nat → Tr, ∀ i, i < len → w.cells? base (A.add (i * 3)) 3 = some [.int .i64 (f i).tm, .bool (f i).ak, .bool (f i).gd] := by
      classical
      refine ⟨fun i => if hi : i < len then (hrec i hi).choose else ⟨0, false, false⟩, fun i hi => ?_⟩
      simp only [dif_pos hi]
      exact (hrec i hi).choose_spec
    refine ⟨(List.range len).map f, by simp, by omega, ?_⟩
    by_cases h0 : len = 0
    · subst h0; exact .inl rfl
    · obtain ⟨b, off, spot⟩ := A
      have cells : ∀ i, i < len → ∀ j, j < 3 → w.cell? ((⟨b, off, spot⟩ : Addr).add (i * 3 + j)) = ([.int .i64 (f i).tm, .bool (f i).ak, .bool (f i).gd] : List Value)[j]? := by
        intro i hi j hj
        have c := (World.cells?_some (hf i hi)).2.2 j hj
        rw [add_add] at c
        exact c
      have hs : spot = none := by
        have c := cells 0 (by omega) 0 (by omega)
        simp only [Nat.zero_mul, Nat.add_zero, List.getElem?_cons_zero] at c
        simpa [Addr.add] using World.cell?_spot c
      subst hs
      have hadd : ∀ i, (⟨b, off, none⟩ : Addr).add i = ⟨b, off + i, none⟩ := fun i => by unfold Addr.add; split <;> simp_all
      refine .inr ⟨b, off, rfl, fun i r hr => ?_⟩
      rw [List.getElem?_map] at hr
      obtain ⟨j, hj, rfl⟩ := Option.map_eq_some_iff.1 hr
      obtain ⟨hlt, rfl⟩ := List.getElem?_eq_some_iff.1 hj
      simp only [List.length_range] at hlt
      simp only [List.getElem_range]
      have q0 := cells i hlt 0 (by omega)
      have q1 := cells i hlt 1 (by omega)
      have q2 := cells i hlt 2 (by omega)
      rw [hadd] at q0 q1 q2
      exact ⟨by simpa using q0, by simpa [Nat.add_assoc] using q1, by simpa [Nat.add_assoc] using q2⟩
end Go.Proofs.Ytnepafpaimoadaa
