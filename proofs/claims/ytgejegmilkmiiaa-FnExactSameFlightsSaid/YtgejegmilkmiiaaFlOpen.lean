/-
  A flight that came in, and flights, opened.
-/
import Derived.Test.YtgejegmilkmiiaaFlAt
import Derived.Test.YtgejegmilkmiiaaHeadsOpen
import Derived.Test.YtgejegmilkmiiaaMsgOpen
import Derived.Test.YtgejegmilkmiiaaWrOpen
namespace Go.Proofs.Ytgejegmilkmiiaa
open Go.ChangeShapes Go.WideShapes Go.ChangeAt Go.RowKit Go.Deep
theorem flCells : Try.prog.cellsOf 34 = 11 := by kernel_rfl
theorem fOneS : Try.prog.cellsOf 9 = 1 := by kernel_rfl
theorem fOneI : Try.prog.cellsOf 2 = 1 := by kernel_rfl
theorem fOneB : Try.prog.cellsOf 4 = 1 := by kernel_rfl
theorem fOneH : Try.prog.cellsOf 29 = 1 := by kernel_rfl
theorem fOneW : Try.prog.cellsOf 32 = 1 := by kernel_rfl
theorem fOneR : Try.prog.cellsOf 31 = 4 := by kernel_rfl
theorem slice_cap {H : Type} {enc : TypeId × Value → H} {P : Program} {w : World} {base : Nat} {spare : Nat → Bool} {held : Bool} {fuel : Nat} {t e : TypeId} {a : Option Addr} {n c : Nat} {x : DataW H × List MemPlace} (ht : P.underlying t = some (.slice e))
    (h : DataW.trod enc P w base spare held fuel t [.slice a n c] = some x) : n ≤ c := by
  rcases open_slice ht h with ⟨hcs, _⟩ | ⟨A, len', cap', m, n', D, Pl, hcs, _, hl, _⟩
  · simp only [List.cons.injEq, Value.slice.injEq, and_true] at hcs
    omega
  · simp only [List.cons.injEq, Value.slice.injEq, and_true] at hcs
    omega
set_option maxRecDepth 100000 in
theorem req_cs {H : Type} {enc : TypeId × Value → H} {w : World} {base : Nat} {spare : Nat → Bool} {held : Bool} {fuel : Nat} {cs : List Value} {x : DataW H × List MemPlace}
    (h : DataW.trod enc Try.prog w base spare held fuel 31 cs = some x) : ∃ (m h p : ByteArray) (ha : Option Addr) (hc : Nat) (hs : List Hdr), cs = [.string m, .string h, .string p, .slice ha hs.length hc] ∧ m.size ≤ maxLen ∧ h.size ≤ maxLen ∧ p.size ≤ maxLen ∧ hs.length ≤ maxLen ∧ SmallHdrs hs ∧ HdsIn w ha hs ∧ hs.length ≤ hc := by
  obtain ⟨xs, n, _, _, hl, hlen, hf⟩ := DataW.trod_struct Try.underlying31 h
  match xs, hlen with
  | [y0, y1, y2, y3], _ =>
    have h0 : DataW.trod enc Try.prog w base spare held n 9 ((cs.drop 0).take (Try.prog.cellsOf 9)) = some y0 := hf 0 _ rfl
    have h1 : DataW.trod enc Try.prog w base spare held n 9 ((cs.drop 1).take (Try.prog.cellsOf 9)) = some y1 := hf 1 _ rfl
    have h2 : DataW.trod enc Try.prog w base spare held n 9 ((cs.drop 2).take (Try.prog.cellsOf 9)) = some y2 := hf 2 _ rfl
    have h3 : DataW.trod enc Try.prog w base spare held n 29 ((cs.drop 3).take (Try.prog.cellsOf 29)) = some y3 := hf 3 _ rfl
    rw [fOneS] at h0 h1 h2
    rw [fOneH] at h3
    obtain ⟨s0, e0, _, z0⟩ := DataW.trod_string Try.underlying9 h0
    obtain ⟨s1, e1, _, z1⟩ := DataW.trod_string Try.underlying9 h1
    obtain ⟨s2, e2, _, z2⟩ := DataW.trod_string Try.underlying9 h2
    obtain ⟨ha, hn, hc, e3⟩ := slice_cs Try.underlying29 h3
    rw [e3] at h3
    obtain ⟨l, rfl, m3, sm3, o3⟩ := open_headers h3
    refine ⟨s0, s1, s2, ha, hc, l, ?_, z0, z1, z2, m3, sm3, o3, slice_cap Try.underlying29 h3⟩
    rw [fOneR] at hl
    match cs, hl with
    | [c0, c1, c2, c3], _ =>
      simp only [List.drop_zero, List.take_succ_cons, List.take_zero, List.drop_succ_cons, List.cons.injEq, and_true] at e0 e1 e2 e3
      rw [e0, e1, e2, e3]
set_option maxRecDepth 100000 in
theorem fl_of {H : Type} {enc : TypeId × Value → H} {w : World} {base : Nat} {spare : Nat → Bool} {held : Bool} {fuel : Nat} {cs : List Value} {x : DataW H × List MemPlace}
    (h : DataW.trod enc Try.prog w base spare held fuel 34 cs = some x) : ∃ (q : Fl) (r : FlR), cs = flW q r ∧ FlIn w q r ∧ FlSm q := by
  obtain ⟨xs, n, _, _, hl, hlen, hf⟩ := DataW.trod_struct Try.underlying34 h
  match xs, hlen with
  | [y0, y1, y2, y3, y4, y5, y6, y7], _ =>
    have h0 : DataW.trod enc Try.prog w base spare held n 2 ((cs.drop 0).take (Try.prog.cellsOf 2)) = some y0 := hf 0 _ rfl
    have h1 : DataW.trod enc Try.prog w base spare held n 9 ((cs.drop 1).take (Try.prog.cellsOf 9)) = some y1 := hf 1 _ rfl
    have h2 : DataW.trod enc Try.prog w base spare held n 4 ((cs.drop 2).take (Try.prog.cellsOf 4)) = some y2 := hf 2 _ rfl
    have h3 : DataW.trod enc Try.prog w base spare held n 4 ((cs.drop 3).take (Try.prog.cellsOf 4)) = some y3 := hf 3 _ rfl
    have h4 : DataW.trod enc Try.prog w base spare held n 2 ((cs.drop 4).take (Try.prog.cellsOf 2)) = some y4 := hf 4 _ rfl
    have h5 : DataW.trod enc Try.prog w base spare held n 4 ((cs.drop 5).take (Try.prog.cellsOf 4)) = some y5 := hf 5 _ rfl
    have h6 : DataW.trod enc Try.prog w base spare held n 31 ((cs.drop 6).take (Try.prog.cellsOf 31)) = some y6 := hf 6 _ rfl
    have h7 : DataW.trod enc Try.prog w base spare held n 32 ((cs.drop 10).take (Try.prog.cellsOf 32)) = some y7 := hf 7 _ rfl
    rw [fOneI] at h0 h4
    rw [fOneS] at h1
    rw [fOneB] at h2 h3 h5
    rw [fOneR] at h6
    rw [fOneW] at h7
    obtain ⟨s0, e0, _⟩ := DataW.trod_int Try.underlying2 h0
    obtain ⟨s1, e1, _, z1⟩ := DataW.trod_string Try.underlying9 h1
    obtain ⟨s2, e2, _⟩ := DataW.trod_bool Try.underlying4 h2
    obtain ⟨s3, e3, _⟩ := DataW.trod_bool Try.underlying4 h3
    obtain ⟨s4, e4, _⟩ := DataW.trod_int Try.underlying2 h4
    obtain ⟨s5, e5, _⟩ := DataW.trod_bool Try.underlying4 h5
    obtain ⟨m, ho, p, ha, hc, l, e6, q1, q2, q3, q4, q5, q6, q7⟩ := req_cs h6
    obtain ⟨wa, wn, wc, e7⟩ := slice_cs Try.underlying32 h7
    rw [e7] at h7
    obtain ⟨ws, rfl, m7, o7⟩ := openWr h7
    refine ⟨⟨s0, s1, s2, s3, s4, s5, m, ho, p, l, ws⟩, ⟨ha, hc, wa, wc⟩, ?_, ⟨q6, o7, q7, slice_cap Try.underlying32 h7⟩, ⟨z1, q1, q2, q3, q4, q5, m7⟩⟩
    rw [flCells] at hl
    match cs, hl with
    | [c0, c1, c2, c3, c4, c5, c6, c7, c8, c9, c10], _ =>
      simp only [List.drop_zero, List.take_succ_cons, List.take_zero, List.drop_succ_cons, List.cons.injEq, and_true] at e0 e1 e2 e3 e4 e5 e6 e7
      obtain ⟨f6, f7, f8, f9⟩ := e6
      rw [e0, e1, e2, e3, e4, e5, f6, f7, f8, f9, e7]
      rfl
set_option maxRecDepth 100000 in
theorem open_flight {H : Type} {enc : TypeId × Value → H} {w : World} {r : Reach} {b0 base : Nat} {spare : Nat → Bool} {held : Bool} {v : Value} {d : DataW H} {p : List MemPlace}
    (hv : Value.okWide Try.prog w r b0 34 v) (h : DataW.Trod enc Try.prog w base spare held 34 v d p) : ∃ (q : Fl) (r : FlR), v = flV q r ∧ FlIn w q r ∧ FlSm q := by
  obtain ⟨cs, rfl, hsz⟩ := okWide_struct Try.underlying34 hv
  obtain ⟨fuel, hf0⟩ := h
  obtain ⟨q, r, e, h1, h2⟩ := fl_of hf0
  refine ⟨q, r, ?_, h1, h2⟩
  simp only [Value.cells] at e
  show Value.agg cs = .agg _
  congr 1
  exact Array.toList_inj.1 e
set_option maxRecDepth 100000 in
theorem open_flights {H : Type} {enc : TypeId × Value → H} {w : World} {base : Nat} {spare : Nat → Bool} {held : Bool} {fuel : Nat} {a : Option Addr} {len cap : Nat} {x : DataW H × List MemPlace}
    (h : DataW.trod enc Try.prog w base spare held fuel 22 [.slice a len cap] = some x) :
    ∃ l : List (Fl × FlR), l.length = len ∧ len ≤ maxLen ∧ len ≤ cap ∧ (∀ q ∈ l, FlSm q.1) ∧ FlsIn w a l := by
  have hcap := slice_cap Try.underlying22 h
  rcases open_slice Try.underlying22 h with ⟨hcs, _⟩ | ⟨A, len', cap', m, n, D, Pl, hcs, _, hl, hm, hmm, _, hel⟩
  · simp only [List.cons.injEq, Value.slice.injEq, and_true] at hcs
    obtain ⟨_, rfl, _⟩ := hcs
    exact ⟨[], rfl, by unfold maxLen; omega, hcap, fun q hq => by simp at hq, .inl rfl⟩
  · simp only [List.cons.injEq, Value.slice.injEq, and_true] at hcs
    obtain ⟨rfl, rfl, rfl⟩ := hcs
    have hlm : len ≤ m := by rw [hmm]; split <;> omega
    have hrec : ∀ i, i < len → ∃ q : Fl × FlR, w.cells? base (A.add (i * 11)) 11 = some (flW q.1 q.2) ∧ FlIn w q.1 q.2 ∧ FlSm q.1 := by
      intro i hi
      obtain ⟨cs', hc, ht⟩ := hel i (by omega)
      rw [flCells] at hc
      obtain ⟨q, r, rfl, z⟩ := fl_of ht
      exact ⟨(q, r), hc, z⟩
    obtain ⟨f, hf⟩ : ∃ f : Nat → Fl × FlR, ∀ i, i < len → w.cells? base (A.add (i * 11)) 11 = some (flW (f i).1 (f i).2) ∧ FlIn w (f i).1 (f i).2 ∧ FlSm (f i).1 := by
      classical
      refine ⟨fun i => if hi : i < len then (hrec i hi).choose else (⟨0, .empty, false, false, 0, false, .empty, .empty, .empty, [], []⟩, ⟨none, 0, none, 0⟩), fun i hi => ?_⟩
      simp only [dif_pos hi]
      exact (hrec i hi).choose_spec
    refine ⟨(List.range len).map f, by simp, by omega, hcap, ?_, ?_⟩
    · intro q hq
      obtain ⟨i, hi, rfl⟩ := List.mem_map.1 hq
      exact (hf i (by simpa using hi)).2.2
    · by_cases h0 : len = 0
      · subst h0; exact .inl rfl
      · obtain ⟨b, off, spot⟩ := A
        have cells : ∀ i, i < len → ∀ j, j < 11 → w.cell? ((⟨b, off, spot⟩ : Addr).add (i * 11 + j)) = (flW (f i).1 (f i).2)[j]? := by
          intro i hi j hj
          have c := (World.cells?_some (hf i hi).1).2.2 j hj
          rw [add_add] at c
          exact c
        have hs : spot = none := by
          have c := cells 0 (by omega) 0 (by omega)
          simp only [Nat.zero_mul, Nat.add_zero, flW, List.getElem?_cons_zero] at c
          simpa [Addr.add] using World.cell?_spot c
        subst hs
        have hadd : ∀ i, (⟨b, off, none⟩ : Addr).add i = ⟨b, off + i, none⟩ := fun i => by unfold Addr.add; split <;> simp_all
        refine .inr ⟨b, off, rfl, fun i q hq => ?_⟩
        rw [List.getElem?_map] at hq
        obtain ⟨j, hj, rfl⟩ := Option.map_eq_some_iff.1 hq
        obtain ⟨hlt, rfl⟩ := List.getElem?_eq_some_iff.1 hj
        simp only [List.length_range] at hlt
        simp only [List.getElem_range]
        refine ⟨fun j hj => ?_, (hf i hlt).2.1⟩
        have q0 := cells i hlt j hj
        rw [hadd, ← Nat.add_assoc] at q0
        exact q0
end Go.Proofs.Ytgejegmilkmiiaa
