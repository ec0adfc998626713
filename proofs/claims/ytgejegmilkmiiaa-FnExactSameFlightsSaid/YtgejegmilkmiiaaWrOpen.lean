/-
  A list that came in, opened.
-/
import Derived.Test.YtgejegmilkmiiaaWrAt
namespace Go.Proofs.Ytgejegmilkmiiaa
open Go.ChangeShapes Go.WideShapes Go.ChangeAt Go.RowKit Go.Deep
theorem cellsWr : Try.prog.cellsOf 66 = 4 := by kernel_rfl
theorem oneWrb : Try.prog.cellsOf 4 = 1 := by kernel_rfl
theorem oneWri : Try.prog.cellsOf 2 = 1 := by kernel_rfl
theorem ofWr {H : Type} {enc : TypeId × Value → H} {w : World} {base : Nat} {spare : Nat → Bool} {held : Bool} {fuel : Nat} {cs : List Value} {x : DataW H × List MemPlace}
    (h : DataW.trod enc Try.prog w base spare held fuel 66 cs = some x) : ∃ r : Wr, cs = [.int .i64 r.rq, .bool r.hd, .int .i64 r.du, .bool r.lt] := by
  obtain ⟨xs, n, _, _, hl, hlen, hf⟩ := DataW.trod_struct Try.underlying66 h
  rw [cellsWr] at hl
  match xs, hlen with
  | [y0, y1, y2, y3], _ =>
    have h0 : DataW.trod enc Try.prog w base spare held n 2 ((cs.drop 0).take (Try.prog.cellsOf 2)) = some y0 := hf 0 _ rfl
    have h1 : DataW.trod enc Try.prog w base spare held n 4 ((cs.drop 1).take (Try.prog.cellsOf 4)) = some y1 := hf 1 _ rfl
    have h2 : DataW.trod enc Try.prog w base spare held n 2 ((cs.drop 2).take (Try.prog.cellsOf 2)) = some y2 := hf 2 _ rfl
    have h3 : DataW.trod enc Try.prog w base spare held n 4 ((cs.drop 3).take (Try.prog.cellsOf 4)) = some y3 := hf 3 _ rfl
    rw [oneWri] at h0 h2
    rw [oneWrb] at h1 h3
    obtain ⟨s0, e0, _⟩ := DataW.trod_int Try.underlying2 h0
    obtain ⟨s1, e1, _⟩ := DataW.trod_bool Try.underlying4 h1
    obtain ⟨s2, e2, _⟩ := DataW.trod_int Try.underlying2 h2
    obtain ⟨s3, e3, _⟩ := DataW.trod_bool Try.underlying4 h3
    match cs, hl with
    | [c0, c1, c2, c3], _ =>
      simp only [List.drop_zero, List.take_succ_cons, List.take_zero, List.drop_succ_cons, List.cons.injEq, and_true] at e0 e1 e2 e3
      exact ⟨⟨s0, s1, s2, s3⟩, by rw [e0, e1, e2, e3]⟩
theorem openWr {H : Type} {enc : TypeId × Value → H} {w : World} {base : Nat} {spare : Nat → Bool} {held : Bool} {fuel : Nat} {a : Option Addr} {len cap : Nat} {x : DataW H × List MemPlace}
    (h : DataW.trod enc Try.prog w base spare held fuel 32 [.slice a len cap] = some x) :
    ∃ l : List Wr, l.length = len ∧ len ≤ maxLen ∧ WrIn w a l := by
  rcases open_slice Try.underlying32 h with ⟨hcs, _⟩ | ⟨A, len', cap', m, n, D, Pl, hcs, _, hl, hm, hmm, _, hel⟩
  · simp only [List.cons.injEq, Value.slice.injEq, and_true] at hcs
    obtain ⟨_, rfl, _⟩ := hcs
    exact ⟨[], rfl, by unfold maxLen; omega, .inl rfl⟩
  · simp only [List.cons.injEq, Value.slice.injEq, and_true] at hcs
    obtain ⟨rfl, rfl, rfl⟩ := hcs
    have hlm : len ≤ m := by rw [hmm]; split <;> omega
    have hrec : ∀ i, i < len → ∃ r : Wr, w.cells? base (A.add (i * 4)) 4 = some [.int .i64 r.rq, .bool r.hd, .int .i64 r.du, .bool r.lt] := by
      intro i hi
      obtain ⟨cs', hc, ht⟩ := hel i (by omega)
      rw [cellsWr] at hc
      obtain ⟨r, rfl⟩ := ofWr ht
      exact ⟨r, hc⟩
    obtain ⟨f, hf⟩ : ∃ f : Nat → Wr, ∀ i, i < len → w.cells? base (A.add (i * 4)) 4 = some [.int .i64 (f i).rq, .bool (f i).hd, .int .i64 (f i).du, .bool (f i).lt] := by
      classical
      refine ⟨fun i => if hi : i < len then (hrec i hi).choose else ⟨0, false, 0, false⟩, fun i hi => ?_⟩
      simp only [dif_pos hi]
      exact (hrec i hi).choose_spec
    refine ⟨(List.range len).map f, by simp, by omega, ?_⟩
    by_cases h0 : len = 0
    · subst h0; exact .inl rfl
    · obtain ⟨b, off, spot⟩ := A
      have cells : ∀ i, i < len → ∀ j, j < 4 → w.cell? ((⟨b, off, spot⟩ : Addr).add (i * 4 + j)) = ([.int .i64 (f i).rq, .bool (f i).hd, .int .i64 (f i).du, .bool (f i).lt] : List Value)[j]? := by
        intro i hi j hj
        have c := (World.cells?_some (hf i hi)).2.2 j hj
        rw [add_add] at c
        exact c
      have hs : spot = none := by
        have c := cells 0 (by omega) 0 (by omega)
        simp only [Nat.zero_mul, Nat.add_zero, List.getElem?_cons_zero] at c
        simpa [Addr.add] using World.cell?_spot c
      subst hs
      have hadd : ∀ i, (⟨b, off, none⟩ : Addr).add i = ⟨b, off + i, none⟩ := fun i => by unfold Addr.add; split <;> simp_all
      refine .inr ⟨b, off, rfl, fun i r hr => ?_⟩
      rw [List.getElem?_map] at hr
      obtain ⟨j, hj, rfl⟩ := Option.map_eq_some_iff.1 hr
      obtain ⟨hlt, rfl⟩ := List.getElem?_eq_some_iff.1 hj
      simp only [List.length_range] at hlt
      simp only [List.getElem_range]
      have q0 := cells i hlt 0 (by omega)
      have q1 := cells i hlt 1 (by omega)
      have q2 := cells i hlt 2 (by omega)
      have q3 := cells i hlt 3 (by omega)
      rw [hadd] at q0 q1 q2 q3
      exact ⟨by simpa using q0, by simpa [Nat.add_assoc] using q1, by simpa [Nat.add_assoc] using q2, by simpa [Nat.add_assoc] using q3⟩
end Go.Proofs.Ytgejegmilkmiiaa
