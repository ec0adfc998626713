/-
  A list that came in, opened.
-/
import Derived.Test.YtdfikpadanmgmaaWtAt
namespace Go.Proofs.Ytdfikpadanmgmaa
open Go.ChangeShapes Go.WideShapes Go.ChangeAt Go.RowKit Go.Deep
theorem cellsWt : Try.prog.cellsOf 157 = 2 := by kernel_rfl
theorem oneWti : Try.prog.cellsOf 2 = 1 := by kernel_rfl
theorem ofWt {H : Type} {enc : TypeId × Value → H} {w : World} {base : Nat} {spare : Nat → Bool} {held : Bool} {fuel : Nat} {cs : List Value} {x : DataW H × List MemPlace}
    (h : DataW.trod enc Try.prog w base spare held fuel 157 cs = some x) : ∃ r : Wt, cs = [.int .i64 r.wi, .int .i64 r.du] := by
  obtain ⟨y0, y1, n, _, hl, h0, h1⟩ := trod_struct2 Try.underlying157 h
  rw [cellsWt] at hl
  simp only [oneWti] at h0 h1
  obtain ⟨s0, e0, _⟩ := DataW.trod_int Try.underlying2 h0
  obtain ⟨s1, e1, _⟩ := DataW.trod_int Try.underlying2 h1
  match cs, hl with
  | [c0, c1], _ =>
    simp only [List.drop_zero, List.take_succ_cons, List.take_zero, List.drop_succ_cons, List.cons.injEq, and_true] at e0 e1
    exact ⟨⟨s0, s1⟩, by rw [e0, e1]⟩
theorem openWt {H : Type} {enc : TypeId × Value → H} {w : World} {base : Nat} {spare : Nat → Bool} {held : Bool} {fuel : Nat} {a : Option Addr} {len cap : Nat} {x : DataW H × List MemPlace}
    (h : DataW.trod enc Try.prog w base spare held fuel 28 [.slice a len cap] = some x) :
    ∃ l : List Wt, l.length = len ∧ len ≤ maxLen ∧ WtIn w a l := by
  rcases open_slice Try.underlying28 h with ⟨hcs, _⟩ | ⟨A, len', cap', m, n, D, Pl, hcs, _, hl, hm, hmm, _, hel⟩
  · simp only [List.cons.injEq, Value.slice.injEq, and_true] at hcs
    obtain ⟨_, rfl, _⟩ := hcs
    exact ⟨[], rfl, by unfold maxLen; omega, .inl rfl⟩
  · simp only [List.cons.injEq, Value.slice.injEq, and_true] at hcs
    obtain ⟨rfl, rfl, rfl⟩ := hcs
    have hlm : len ≤ m := by rw [hmm]; split <;> omega
    have hrec : ∀ i, i < len → ∃ r : Wt, w.cells? base (A.add (i * 2)) 2 = some [.int .i64 r.wi, .int .i64 r.du] := by
      intro i hi
      obtain ⟨cs', hc, ht⟩ := hel i (by omega)
      rw [cellsWt] at hc
      obtain ⟨r, rfl⟩ := ofWt ht
      exact ⟨r, hc⟩
    obtain ⟨f, hf⟩ : ∃ f : Nat → Wt, ∀ i, i < len → w.cells? base (A.add (i * 2)) 2 = some [.int .i64 (f i).wi, .int .i64 (f i).du] := by
      classical
      refine ⟨fun i => if hi : i < len then (hrec i hi).choose else ⟨0, 0⟩, fun i hi => ?_⟩
      simp only [dif_pos hi]
      exact (hrec i hi).choose_spec
    refine ⟨(List.range len).map f, by simp, by omega, ?_⟩
    by_cases h0 : len = 0
    · subst h0; exact .inl rfl
    · obtain ⟨b, off, spot⟩ := A
      have cells : ∀ i, i < len → ∀ j, j < 2 → w.cell? ((⟨b, off, spot⟩ : Addr).add (i * 2 + j)) = ([.int .i64 (f i).wi, .int .i64 (f i).du] : List Value)[j]? := by
        intro i hi j hj
        have c := (World.cells?_some (hf i hi)).2.2 j hj
        rw [add_add] at c
        exact c
      have hs : spot = none := by
        have c := cells 0 (by omega) 0 (by omega)
        simp only [Nat.zero_mul, Nat.add_zero, List.getElem?_cons_zero] at c
        simpa [Addr.add] using World.cell?_spot c
      subst hs
      have hadd : ∀ i, (⟨b, off, none⟩ : Addr).add i = ⟨b, off + i, none⟩ := fun i => by unfold Addr.add; split <;> simp_all
      refine .inr ⟨b, off, rfl, fun i r hr => ?_⟩
      rw [List.getElem?_map] at hr
      obtain ⟨j, hj, rfl⟩ := Option.map_eq_some_iff.1 hr
      obtain ⟨hlt, rfl⟩ := List.getElem?_eq_some_iff.1 hj
      simp only [List.length_range] at hlt
      simp only [List.getElem_range]
      have q0 := cells i hlt 0 (by omega)
      have q1 := cells i hlt 1 (by omega)
      rw [hadd] at q0 q1
      exact ⟨by simpa using q0, by simpa [Nat.add_assoc] using q1⟩
end Go.Proofs.Ytdfikpadanmgmaa
