/-
  A list of texts that came in, opened.
-/
import Derived.Test.YtelbddgdaibolaaDoorMsgOpen
import Derived.Test.YtelbddgdaibolaaDoorTextRows
namespace Go.Proofs.YtelbddgdaibolaaDoor
open Go.ChangeShapes Go.WideShapes Go.ChangeAt Go.RowKit Go.Deep
theorem textOne : Tryd.prog.cellsOf 9 = 1 := by kernel_rfl
theorem open_texts {H : Type} {enc : TypeId × Value → H} {w : World} {base : Nat} {spare : Nat → Bool} {held : Bool} {fuel : Nat} {a : Option Addr} {len cap : Nat} {x : DataW H × List MemPlace}
    (h : DataW.trod enc Tryd.prog w base spare held fuel 26 [.slice a len cap] = some x) : ∃ l : List ByteArray, l.length = len ∧ len ≤ maxLen ∧ (∀ x ∈ l, x.size ≤ maxLen) ∧ TIn w a l := by
  rcases open_slice Tryd.underlying26 h with ⟨hcs, _⟩ | ⟨A, len', cap', m, n, D, Pl, hcs, _, hl, hm, hmm, _, hel⟩
  · simp only [List.cons.injEq, Value.slice.injEq, and_true] at hcs
    obtain ⟨_, rfl, _⟩ := hcs
    exact ⟨[], rfl, by unfold maxLen; omega, (fun x hx => by cases hx), .inl rfl⟩
  · simp only [List.cons.injEq, Value.slice.injEq, and_true] at hcs
    obtain ⟨rfl, rfl, rfl⟩ := hcs
    have hlm : len ≤ m := by rw [hmm]; split <;> omega
    have hrec : ∀ i, i < len → ∃ r : ByteArray, w.cells? base (A.add (i * 1)) 1 = some [.string r] ∧ r.size ≤ maxLen := by
      intro i hi
      obtain ⟨cs', hc, ht⟩ := hel i (by omega)
      rw [textOne] at hc
      obtain ⟨r, e, _, z⟩ := DataW.trod_string Tryd.underlying9 ht
      exact ⟨r, by rw [hc, e], z⟩
    obtain ⟨f, hf⟩ : ∃ f : Nat → ByteArray, ∀ i, i < len → w.cells? base (A.add (i * 1)) 1 = some [.string (f i)] ∧ (f i).size ≤ maxLen := by
      classical
      refine ⟨fun i => if hi : i < len then (hrec i hi).choose else .empty, fun i hi => ?_⟩
      simp only [dif_pos hi]
      exact (hrec i hi).choose_spec
    refine ⟨(List.range len).map f, by simp, by omega, ?_, ?_⟩
    · intro x hx
      obtain ⟨i, hi, rfl⟩ := List.mem_map.1 hx
      exact (hf i (by simpa using hi)).2
    · by_cases h0 : len = 0
      · subst h0; exact .inl rfl
      · obtain ⟨b, off, spot⟩ := A
        have cells : ∀ i, i < len → w.cell? ((⟨b, off, spot⟩ : Addr).add i) = some (.string (f i)) := by
          intro i hi
          have c := (World.cells?_some (hf i hi).1).2.2 0 (by omega)
          rw [add_add] at c
          simpa using c
        have hs : spot = none := by
          have c := cells 0 (by omega)
          simpa [Addr.add] using World.cell?_spot c
        subst hs
        have hadd : ∀ i, (⟨b, off, none⟩ : Addr).add i = ⟨b, off + i, none⟩ := fun i => by unfold Addr.add; split <;> simp_all
        refine .inr ⟨b, off, rfl, fun i r hr => ?_⟩
        rw [List.getElem?_map] at hr
        obtain ⟨j, hj, rfl⟩ := Option.map_eq_some_iff.1 hr
        obtain ⟨hlt, rfl⟩ := List.getElem?_eq_some_iff.1 hj
        simp only [List.length_range] at hlt
        simp only [List.getElem_range]
        have q0 := cells i hlt
        rw [hadd] at q0
        exact q0
end Go.Proofs.YtelbddgdaibolaaDoor
