/-
  Texts of one claim, one behind the other.
-/
import Derived.ChangeArms
import Derived.Test.YtjfjfhoihhmbgaaGreatDoorMgE
/-
  Head lines that came in, opened.
-/
namespace Go.Proofs.YtjfjfhoihhmbgaaGreatDoor
open Go.ChangeShapes Go.WideShapes Go.ChangeAt Go.RowKit Go.Deep
theorem headerCells : Tryz.prog.cellsOf 161 = 2 := by kernel_rfl
theorem hOneS : Tryz.prog.cellsOf 9 = 1 := by kernel_rfl
theorem hdr_of {H : Type} {enc : TypeId × Value → H} {w : World} {base : Nat} {spare : Nat → Bool} {held : Bool} {fuel : Nat} {cs : List Value} {x : DataW H × List MemPlace}
    (h : DataW.trod enc Tryz.prog w base spare held fuel 161 cs = some x) : ∃ r : Hdr, cs = [.string r.name, .string r.value] ∧ r.name.size ≤ maxLen ∧ r.value.size ≤ maxLen := by
  obtain ⟨y0, y1, n, _, hl, h0, h2⟩ := trod_struct2 Tryz.underlying161 h
  rw [headerCells] at hl
  simp only [hOneS] at h0 h2
  obtain ⟨s0, e0, _, z0⟩ := DataW.trod_string Tryz.underlying9 h0
  obtain ⟨s2, e2, _, z2⟩ := DataW.trod_string Tryz.underlying9 h2
  match cs, hl with
  | [c0, c2], _ =>
    simp only [List.drop_zero, List.take_succ_cons, List.take_zero, List.drop_succ_cons, List.cons.injEq, and_true] at e0 e2
    exact ⟨⟨s0, s2⟩, by rw [e0, e2], z0, z2⟩
theorem open_headers {H : Type} {enc : TypeId × Value → H} {w : World} {base : Nat} {spare : Nat → Bool} {held : Bool} {fuel : Nat} {a : Option Addr} {len cap : Nat} {x : DataW H × List MemPlace}
    (h : DataW.trod enc Tryz.prog w base spare held fuel 38 [.slice a len cap] = some x) :
    ∃ l : List Hdr, l.length = len ∧ len ≤ maxLen ∧ SmallHdrs l ∧ (l = [] ∨ ∃ b off, a = some ⟨b, off, none⟩ ∧ HeadsAt w b off l) := by
  rcases open_slice Tryz.underlying38 h with ⟨hcs, _⟩ | ⟨A, len', cap', m, n, D, Pl, hcs, _, hl, hm, hmm, _, hel⟩
  · simp only [List.cons.injEq, Value.slice.injEq, and_true] at hcs
    obtain ⟨_, rfl, _⟩ := hcs
    exact ⟨[], rfl, by unfold maxLen; omega, fun i r hr => by simp at hr, .inl rfl⟩
  · simp only [List.cons.injEq, Value.slice.injEq, and_true] at hcs
    obtain ⟨rfl, rfl, rfl⟩ := hcs
    have hlm : len ≤ m := by rw [hmm]; split <;> omega
    have hrec : ∀ i, i < len → ∃ r : Hdr, w.cells? base (A.add (i * 2)) 2 = some [.string r.name, .string r.value] ∧ r.name.size ≤ maxLen ∧ r.value.size ≤ maxLen := by
      intro i hi
      obtain ⟨cs', hc, ht⟩ := hel i (by omega)
      rw [headerCells] at hc
      obtain ⟨r, rfl, z⟩ := hdr_of ht
      exact ⟨r, hc, z⟩
    obtain ⟨f, hf⟩ : ∃ f : Nat → Hdr, ∀ i, i < len → w.cells? base (A.add (i * 2)) 2 = some [.string (f i).name, .string (f i).value] ∧ (f i).name.size ≤ maxLen ∧ (f i).value.size ≤ maxLen := by
      classical
      refine ⟨fun i => if hi : i < len then (hrec i hi).choose else ⟨.empty, .empty⟩, fun i hi => ?_⟩
      simp only [dif_pos hi]
      exact (hrec i hi).choose_spec
    refine ⟨(List.range len).map f, by simp, by omega, ?_, ?_⟩
    · intro i r hr
      rw [List.getElem?_map] at hr
      obtain ⟨j, hj, rfl⟩ := Option.map_eq_some_iff.1 hr
      obtain ⟨hlt, rfl⟩ := List.getElem?_eq_some_iff.1 hj
      simp at hlt
      simpa using (hf i hlt).2
    · by_cases h0 : len = 0
      · subst h0; exact .inl rfl
      · obtain ⟨b, off, spot⟩ := A
        have cells : ∀ i, i < len → ∀ j, j < 2 → w.cell? ((⟨b, off, spot⟩ : Addr).add (i * 2 + j)) = ([.string (f i).name, .string (f i).value] : List Value)[j]? := by
          intro i hi j hj
          have c := (World.cells?_some (hf i hi).1).2.2 j hj
          rw [add_add] at c
          exact c
        have hs : spot = none := by
          have c := cells 0 (by omega) 0 (by omega)
          simp only [Nat.zero_mul, Nat.add_zero, List.getElem?_cons_zero] at c
          simpa [Addr.add] using World.cell?_spot c
        subst hs
        have hadd : ∀ i, (⟨b, off, none⟩ : Addr).add i = ⟨b, off + i, none⟩ := fun i => by unfold Addr.add; split <;> simp_all
        refine .inr ⟨b, off, rfl, fun i r hr => ?_⟩
        rw [List.getElem?_map] at hr
        obtain ⟨j, hj, rfl⟩ := Option.map_eq_some_iff.1 hr
        obtain ⟨hlt, rfl⟩ := List.getElem?_eq_some_iff.1 hj
        simp only [List.length_range] at hlt
        simp only [List.getElem_range]
        have q0 := cells i hlt 0 (by omega)
        have q1 := cells i hlt 1 (by omega)
        rw [hadd] at q0 q1
        exact ⟨by simpa using q0, by simpa [Nat.add_assoc] using q1⟩
end Go.Proofs.YtjfjfhoihhmbgaaGreatDoor
/-
  A request and a response that came in by value, opened.
-/
namespace Go.Proofs.YtjfjfhoihhmbgaaGreatDoor
open Go.ChangeShapes Go.WideShapes Go.ChangeAt Go.RowKit Go.Deep
theorem headsOne : Tryz.prog.cellsOf 38 = 1 := by kernel_rfl
theorem slice_cs {H : Type} {enc : TypeId × Value → H} {w : World} {base : Nat} {spare : Nat → Bool} {held : Bool} {fuel : Nat} {cs : List Value} {t e : TypeId} {x : DataW H × List MemPlace}
    (hu : Tryz.prog.underlying t = some (.slice e)) (h : DataW.trod enc Tryz.prog w base spare held fuel t cs = some x) : ∃ a len cap, cs = [.slice a len cap] := by
  rcases open_slice hu h with ⟨hcs, _⟩ | ⟨A, len', cap', m, n, D, Pl, hcs, _⟩
  · exact ⟨_, _, _, hcs⟩
  · exact ⟨_, _, _, hcs⟩
end Go.Proofs.YtjfjfhoihhmbgaaGreatDoor
/-
  A response, a row of bytes, a list of texts that came in, opened.
-/
namespace Go.Proofs.YtjfjfhoihhmbgaaGreatDoor
open Go.ChangeShapes Go.WideShapes Go.ChangeAt Go.RowKit Go.Deep
theorem bytesOne : Tryz.prog.cellsOf 5 = 1 := by kernel_rfl
theorem open_bytes {H : Type} {enc : TypeId × Value → H} {w : World} {base : Nat} {spare : Nat → Bool} {held : Bool} {fuel : Nat} {a : Option Addr} {len cap : Nat} {x : DataW H × List MemPlace}
    (h : DataW.trod enc Tryz.prog w base spare held fuel 39 [.slice a len cap] = some x) : ∃ l : List UInt8, l.length = len ∧ len ≤ maxLen ∧ BIn w a l := by
  rcases open_ints Tryz.underlying39 Tryz.underlying5 bytesOne h with ⟨hcs, _⟩ | ⟨A, l', c', zs, hcs, _, hl, hm, hz, _, hcell, hwz⟩
  · simp only [List.cons.injEq, Value.slice.injEq, and_true] at hcs
    obtain ⟨_, rfl, _⟩ := hcs
    exact ⟨[], rfl, by unfold maxLen; omega, .inl rfl⟩
  · simp only [List.cons.injEq, Value.slice.injEq, and_true] at hcs
    obtain ⟨rfl, rfl, rfl⟩ := hcs
    have hlz : len ≤ zs.length := by rw [hz]; split <;> omega
    refine ⟨(zs.take len).map fun z => UInt8.ofNat z.toNat, by simp; omega, by omega, ?_⟩
    by_cases h0 : len = 0
    · subst h0; exact .inl rfl
    · obtain ⟨b, off, spot⟩ := A
      have hc := hcell 0 (by omega)
      have hspot : spot = none := by simpa [Addr.add] using World.cell?_spot hc
      subst hspot
      have hadd : ∀ i, (⟨b, off, none⟩ : Addr).add i = ⟨b, off + i, none⟩ := fun i => by unfold Addr.add; split <;> simp_all
      refine .inr ⟨b, off, rfl, fun i c hr => ?_⟩
      rw [List.getElem?_map] at hr
      obtain ⟨z, hz1, rfl⟩ := Option.map_eq_some_iff.1 hr
      have hi : i < len := by have := (List.getElem?_eq_some_iff.1 hz1).1; simp at this; omega
      rw [List.getElem?_take_of_lt hi] at hz1
      have h1 := hcell i (by omega)
      rw [hadd, List.getD_eq_getElem?_getD, hz1] at h1
      rw [h1]
      have hw := hwz z (List.mem_of_getElem? hz1)
      simp only [Lit.wf, Bool.and_eq_true, decide_eq_true_eq] at hw
      have w1 : 0 ≤ z := hw.1
      have w2 : z ≤ 255 := hw.2
      have e : ((UInt8.ofNat z.toNat).toNat : Int) = z := by
        rw [UInt8.toNat_ofNat']
        omega
      rw [e]; rfl
theorem byteSOne : Tryz.prog.cellsOf 39 = 1 := by kernel_rfl
theorem intOne : Tryz.prog.cellsOf 2 = 1 := by kernel_rfl
end Go.Proofs.YtjfjfhoihhmbgaaGreatDoor
/-
  A list of texts that came in, opened.
-/
namespace Go.Proofs.YtjfjfhoihhmbgaaGreatDoor
open Go.ChangeShapes Go.WideShapes Go.ChangeAt Go.RowKit Go.Deep
theorem textOne : Tryz.prog.cellsOf 9 = 1 := by kernel_rfl
theorem open_texts {H : Type} {enc : TypeId × Value → H} {w : World} {base : Nat} {spare : Nat → Bool} {held : Bool} {fuel : Nat} {a : Option Addr} {len cap : Nat} {x : DataW H × List MemPlace}
    (h : DataW.trod enc Tryz.prog w base spare held fuel 42 [.slice a len cap] = some x) : ∃ l : List ByteArray, l.length = len ∧ len ≤ maxLen ∧ (∀ x ∈ l, x.size ≤ maxLen) ∧ TIn w a l := by
  rcases open_slice Tryz.underlying42 h with ⟨hcs, _⟩ | ⟨A, len', cap', m, n, D, Pl, hcs, _, hl, hm, hmm, _, hel⟩
  · simp only [List.cons.injEq, Value.slice.injEq, and_true] at hcs
    obtain ⟨_, rfl, _⟩ := hcs
    exact ⟨[], rfl, by unfold maxLen; omega, (fun x hx => by cases hx), .inl rfl⟩
  · simp only [List.cons.injEq, Value.slice.injEq, and_true] at hcs
    obtain ⟨rfl, rfl, rfl⟩ := hcs
    have hlm : len ≤ m := by rw [hmm]; split <;> omega
    have hrec : ∀ i, i < len → ∃ r : ByteArray, w.cells? base (A.add (i * 1)) 1 = some [.string r] ∧ r.size ≤ maxLen := by
      intro i hi
      obtain ⟨cs', hc, ht⟩ := hel i (by omega)
      rw [textOne] at hc
      obtain ⟨r, e, _, z⟩ := DataW.trod_string Tryz.underlying9 ht
      exact ⟨r, by rw [hc, e], z⟩
    obtain ⟨f, hf⟩ : ∃ f : Nat → ByteArray, ∀ i, i < len → w.cells? base (A.add (i * 1)) 1 = some [.string (f i)] ∧ (f i).size ≤ maxLen := by
      classical
      refine ⟨fun i => if hi : i < len then (hrec i hi).choose else .empty, fun i hi => ?_⟩
      simp only [dif_pos hi]
      exact (hrec i hi).choose_spec
    refine ⟨(List.range len).map f, by simp, by omega, ?_, ?_⟩
    · intro x hx
      obtain ⟨i, hi, rfl⟩ := List.mem_map.1 hx
      exact (hf i (by simpa using hi)).2
    · by_cases h0 : len = 0
      · subst h0; exact .inl rfl
      · obtain ⟨b, off, spot⟩ := A
        have cells : ∀ i, i < len → w.cell? ((⟨b, off, spot⟩ : Addr).add i) = some (.string (f i)) := by
          intro i hi
          have c := (World.cells?_some (hf i hi).1).2.2 0 (by omega)
          rw [add_add] at c
          simpa using c
        have hs : spot = none := by
          have c := cells 0 (by omega)
          simpa [Addr.add] using World.cell?_spot c
        subst hs
        have hadd : ∀ i, (⟨b, off, none⟩ : Addr).add i = ⟨b, off + i, none⟩ := fun i => by unfold Addr.add; split <;> simp_all
        refine .inr ⟨b, off, rfl, fun i r hr => ?_⟩
        rw [List.getElem?_map] at hr
        obtain ⟨j, hj, rfl⟩ := Option.map_eq_some_iff.1 hr
        obtain ⟨hlt, rfl⟩ := List.getElem?_eq_some_iff.1 hj
        simp only [List.length_range] at hlt
        simp only [List.getElem_range]
        have q0 := cells i hlt
        rw [hadd] at q0
        exact q0
end Go.Proofs.YtjfjfhoihhmbgaaGreatDoor
/-
  What is kept with an answer, as it came in by value, opened.
-/
namespace Go.Proofs.YtjfjfhoihhmbgaaGreatDoor
open Go.ChangeShapes Go.WideShapes Go.ChangeAt Go.RowKit
theorem metaCells : Tryz.prog.cellsOf 41 = 7 := by kernel_rfl
theorem oneIm : Tryz.prog.cellsOf 2 = 1 := by kernel_rfl
theorem oneBm : Tryz.prog.cellsOf 4 = 1 := by kernel_rfl
set_option maxRecDepth 100000 in
theorem open_meta {H : Type} {enc : TypeId × Value → H} {w : World} {r : Reach} {b0 base : Nat} {spare : Nat → Bool} {held : Bool} {v : Value} {d : DataW H} {p : List MemPlace}
    (hv : Value.okWide Tryz.prog w r b0 41 v) (h : DataW.Trod enc Tryz.prog w base spare held 41 v d p) :
    ∃ (u : Int × Int × Int × Int × Int) (t : Bool × Bool), v = .agg #[.int .i64 u.1, .int .i64 u.2.1, .int .i64 u.2.2.1, .int .i64 u.2.2.2.1, .int .i64 u.2.2.2.2, .bool t.1, .bool t.2] := by
  obtain ⟨cs, rfl, hsz⟩ := okWide_struct Tryz.underlying41 hv
  obtain ⟨fuel, hf0⟩ := h
  obtain ⟨xs, n, _, _, hl, hlen, hf⟩ := DataW.trod_struct Tryz.underlying41 hf0
  match xs, hlen with
  | [y0, y1, y2, y3, y4, y5, y6], _ =>
    have h0 : DataW.trod enc Tryz.prog w base spare held n 2 (((Value.agg cs).cells.toList.drop 0).take (Tryz.prog.cellsOf 2)) = some y0 := hf 0 _ rfl
    have h1 : DataW.trod enc Tryz.prog w base spare held n 2 (((Value.agg cs).cells.toList.drop 1).take (Tryz.prog.cellsOf 2)) = some y1 := hf 1 _ rfl
    have h2 : DataW.trod enc Tryz.prog w base spare held n 2 (((Value.agg cs).cells.toList.drop 2).take (Tryz.prog.cellsOf 2)) = some y2 := hf 2 _ rfl
    have h3 : DataW.trod enc Tryz.prog w base spare held n 2 (((Value.agg cs).cells.toList.drop 3).take (Tryz.prog.cellsOf 2)) = some y3 := hf 3 _ rfl
    have h4 : DataW.trod enc Tryz.prog w base spare held n 2 (((Value.agg cs).cells.toList.drop 4).take (Tryz.prog.cellsOf 2)) = some y4 := hf 4 _ rfl
    have h5 : DataW.trod enc Tryz.prog w base spare held n 4 (((Value.agg cs).cells.toList.drop 5).take (Tryz.prog.cellsOf 4)) = some y5 := hf 5 _ rfl
    have h6 : DataW.trod enc Tryz.prog w base spare held n 4 (((Value.agg cs).cells.toList.drop 6).take (Tryz.prog.cellsOf 4)) = some y6 := hf 6 _ rfl
    rw [oneIm] at h0 h1 h2 h3 h4
    rw [oneBm] at h5 h6
    obtain ⟨s0, e0, _⟩ := DataW.trod_int Tryz.underlying2 h0
    obtain ⟨s1, e1, _⟩ := DataW.trod_int Tryz.underlying2 h1
    obtain ⟨s2, e2, _⟩ := DataW.trod_int Tryz.underlying2 h2
    obtain ⟨s3, e3, _⟩ := DataW.trod_int Tryz.underlying2 h3
    obtain ⟨s4, e4, _⟩ := DataW.trod_int Tryz.underlying2 h4
    obtain ⟨s5, e5, _⟩ := DataW.trod_bool Tryz.underlying4 h5
    obtain ⟨s6, e6, _⟩ := DataW.trod_bool Tryz.underlying4 h6
    refine ⟨(s0, s1, s2, s3, s4), (s5, s6), ?_⟩
    have e : cs.toList = [.int .i64 s0, .int .i64 s1, .int .i64 s2, .int .i64 s3, .int .i64 s4, .bool s5, .bool s6] := by
      simp only [Value.cells] at e0 e1 e2 e3 e4 e5 e6 hl
      rw [metaCells] at hl
      match hc : cs.toList, hl with
      | [c0, c1, c2, c3, c4, c5, c6], _ =>
        rw [hc] at e0 e1 e2 e3 e4 e5 e6
        simp only [List.drop_zero, List.take_succ_cons, List.take_zero, List.drop_succ_cons, List.cons.injEq, and_true] at e0 e1 e2 e3 e4 e5 e6
        rw [e0, e1, e2, e3, e4, e5, e6]
    congr 1
    exact Array.toList_inj.1 e
end Go.Proofs.YtjfjfhoihhmbgaaGreatDoor
/-
  An entry that came in, and entries, opened.
-/
namespace Go.Proofs.YtjfjfhoihhmbgaaGreatDoor
open Go.ChangeShapes Go.WideShapes Go.ChangeAt Go.RowKit Go.Deep
theorem entCells : Tryz.prog.cellsOf 44 = 13 := by kernel_rfl
theorem eOneS : Tryz.prog.cellsOf 9 = 1 := by kernel_rfl
theorem eOneI : Tryz.prog.cellsOf 2 = 1 := by kernel_rfl
theorem eOneB : Tryz.prog.cellsOf 4 = 1 := by kernel_rfl
theorem eOneH : Tryz.prog.cellsOf 38 = 1 := by kernel_rfl
theorem eOneU : Tryz.prog.cellsOf 39 = 1 := by kernel_rfl
theorem eOneT : Tryz.prog.cellsOf 42 = 1 := by kernel_rfl
theorem eMeta : Tryz.prog.cellsOf 41 = 7 := by kernel_rfl
theorem slice_cap {H : Type} {enc : TypeId × Value → H} {P : Program} {w : World} {base : Nat} {spare : Nat → Bool} {held : Bool} {fuel : Nat} {t e : TypeId} {a : Option Addr} {n c : Nat} {x : DataW H × List MemPlace} (ht : P.underlying t = some (.slice e))
    (h : DataW.trod enc P w base spare held fuel t [.slice a n c] = some x) : n ≤ c := by
  rcases open_slice ht h with ⟨hcs, _⟩ | ⟨A, len', cap', m, n', D, Pl, hcs, _, hl, _⟩
  · simp only [List.cons.injEq, Value.slice.injEq, and_true] at hcs
    omega
  · simp only [List.cons.injEq, Value.slice.injEq, and_true] at hcs
    omega
set_option maxRecDepth 100000 in
theorem meta_cs {H : Type} {enc : TypeId × Value → H} {w : World} {base : Nat} {spare : Nat → Bool} {held : Bool} {fuel : Nat} {cs : List Value} {x : DataW H × List MemPlace}
    (h : DataW.trod enc Tryz.prog w base spare held fuel 41 cs = some x) : ∃ (t g l s e : Int) (b1 b2 : Bool), cs = [.int .i64 t, .int .i64 g, .int .i64 l, .int .i64 s, .int .i64 e, .bool b1, .bool b2] := by
  obtain ⟨xs, n, _, _, hl, hlen, hf⟩ := DataW.trod_struct Tryz.underlying41 h
  match xs, hlen with
  | [y0, y1, y2, y3, y4, y5, y6], _ =>
    have h0 : DataW.trod enc Tryz.prog w base spare held n 2 ((cs.drop 0).take (Tryz.prog.cellsOf 2)) = some y0 := hf 0 _ rfl
    have h1 : DataW.trod enc Tryz.prog w base spare held n 2 ((cs.drop 1).take (Tryz.prog.cellsOf 2)) = some y1 := hf 1 _ rfl
    have h2 : DataW.trod enc Tryz.prog w base spare held n 2 ((cs.drop 2).take (Tryz.prog.cellsOf 2)) = some y2 := hf 2 _ rfl
    have h3 : DataW.trod enc Tryz.prog w base spare held n 2 ((cs.drop 3).take (Tryz.prog.cellsOf 2)) = some y3 := hf 3 _ rfl
    have h4 : DataW.trod enc Tryz.prog w base spare held n 2 ((cs.drop 4).take (Tryz.prog.cellsOf 2)) = some y4 := hf 4 _ rfl
    have h5 : DataW.trod enc Tryz.prog w base spare held n 4 ((cs.drop 5).take (Tryz.prog.cellsOf 4)) = some y5 := hf 5 _ rfl
    have h6 : DataW.trod enc Tryz.prog w base spare held n 4 ((cs.drop 6).take (Tryz.prog.cellsOf 4)) = some y6 := hf 6 _ rfl
    rw [eOneI] at h0 h1 h2 h3 h4
    rw [eOneB] at h5 h6
    obtain ⟨s0, e0, _⟩ := DataW.trod_int Tryz.underlying2 h0
    obtain ⟨s1, e1, _⟩ := DataW.trod_int Tryz.underlying2 h1
    obtain ⟨s2, e2, _⟩ := DataW.trod_int Tryz.underlying2 h2
    obtain ⟨s3, e3, _⟩ := DataW.trod_int Tryz.underlying2 h3
    obtain ⟨s4, e4, _⟩ := DataW.trod_int Tryz.underlying2 h4
    obtain ⟨s5, e5, _⟩ := DataW.trod_bool Tryz.underlying4 h5
    obtain ⟨s6, e6, _⟩ := DataW.trod_bool Tryz.underlying4 h6
    refine ⟨s0, s1, s2, s3, s4, s5, s6, ?_⟩
    rw [eMeta] at hl
    match cs, hl with
    | [c0, c1, c2, c3, c4, c5, c6], _ =>
      simp only [List.drop_zero, List.take_succ_cons, List.take_zero, List.drop_succ_cons, List.cons.injEq, and_true] at e0 e1 e2 e3 e4 e5 e6
      rw [e0, e1, e2, e3, e4, e5, e6]
set_option maxRecDepth 100000 in
theorem ent_of {H : Type} {enc : TypeId × Value → H} {w : World} {base : Nat} {spare : Nat → Bool} {held : Bool} {fuel : Nat} {cs : List Value} {x : DataW H × List MemPlace}
    (h : DataW.trod enc Tryz.prog w base spare held fuel 44 cs = some x) : ∃ (q : Ent) (r : EntR), cs = entW q r ∧ EntIn w q r ∧ EntSm q := by
  obtain ⟨xs, n, _, _, hl, hlen, hf⟩ := DataW.trod_struct Tryz.underlying44 h
  match xs, hlen with
  | [y0, y1, y2, y3, y4, y5, y6], _ =>
    have h0 : DataW.trod enc Tryz.prog w base spare held n 9 ((cs.drop 0).take (Tryz.prog.cellsOf 9)) = some y0 := hf 0 _ rfl
    have h1 : DataW.trod enc Tryz.prog w base spare held n 2 ((cs.drop 1).take (Tryz.prog.cellsOf 2)) = some y1 := hf 1 _ rfl
    have h2 : DataW.trod enc Tryz.prog w base spare held n 38 ((cs.drop 2).take (Tryz.prog.cellsOf 38)) = some y2 := hf 2 _ rfl
    have h3 : DataW.trod enc Tryz.prog w base spare held n 39 ((cs.drop 3).take (Tryz.prog.cellsOf 39)) = some y3 := hf 3 _ rfl
    have h4 : DataW.trod enc Tryz.prog w base spare held n 41 ((cs.drop 4).take (Tryz.prog.cellsOf 41)) = some y4 := hf 4 _ rfl
    have h5 : DataW.trod enc Tryz.prog w base spare held n 42 ((cs.drop 11).take (Tryz.prog.cellsOf 42)) = some y5 := hf 5 _ rfl
    have h6 : DataW.trod enc Tryz.prog w base spare held n 2 ((cs.drop 12).take (Tryz.prog.cellsOf 2)) = some y6 := hf 6 _ rfl
    rw [eOneS] at h0
    rw [eOneI] at h1 h6
    rw [eOneH] at h2
    rw [eOneU] at h3
    rw [eMeta] at h4
    rw [eOneT] at h5
    obtain ⟨s0, e0, _, z0⟩ := DataW.trod_string Tryz.underlying9 h0
    obtain ⟨s1, e1, _⟩ := DataW.trod_int Tryz.underlying2 h1
    obtain ⟨ha, hn, hc, e2⟩ := slice_cs Tryz.underlying38 h2
    rw [e2] at h2
    obtain ⟨l, rfl, m2, sm2, o2⟩ := open_headers h2
    obtain ⟨ba, bn, bc, e3⟩ := slice_cs Tryz.underlying39 h3
    rw [e3] at h3
    obtain ⟨bl, rfl, m3, o3⟩ := open_bytes h3
    obtain ⟨t, g, li, s, e, b1, b2, e4⟩ := meta_cs h4
    obtain ⟨ta, tn, tc, e5⟩ := slice_cs Tryz.underlying42 h5
    rw [e5] at h5
    obtain ⟨ts, rfl, m5, sm5, o5⟩ := open_texts h5
    obtain ⟨s6, e6, _⟩ := DataW.trod_int Tryz.underlying2 h6
    refine ⟨⟨s0, s1, l, bl, t, g, li, s, e, b1, b2, ts, s6⟩, ⟨ha, hc, ba, bc, ta, tc⟩, ?_, ⟨o2, o3, o5, slice_cap Tryz.underlying38 h2, slice_cap Tryz.underlying39 h3, slice_cap Tryz.underlying42 h5⟩, ⟨z0, m2, sm2, m3, m5, sm5⟩⟩
    rw [entCells] at hl
    match cs, hl with
    | [c0, c1, c2, c3, c4, c5, c6, c7, c8, c9, c10, c11, c12], _ =>
      simp only [List.drop_zero, List.take_succ_cons, List.take_zero, List.drop_succ_cons, List.cons.injEq, and_true] at e0 e1 e2 e3 e4 e5 e6
      obtain ⟨f4, f5, f6, f7, f8, f9, f10⟩ := e4
      rw [e0, e1, e2, e3, f4, f5, f6, f7, f8, f9, f10, e5, e6]
      rfl
set_option maxRecDepth 100000 in
theorem open_entry {H : Type} {enc : TypeId × Value → H} {w : World} {r : Reach} {b0 base : Nat} {spare : Nat → Bool} {held : Bool} {v : Value} {d : DataW H} {p : List MemPlace}
    (hv : Value.okWide Tryz.prog w r b0 44 v) (h : DataW.Trod enc Tryz.prog w base spare held 44 v d p) : ∃ (q : Ent) (r : EntR), v = entV q r ∧ EntIn w q r ∧ EntSm q := by
  obtain ⟨cs, rfl, hsz⟩ := okWide_struct Tryz.underlying44 hv
  obtain ⟨fuel, hf0⟩ := h
  obtain ⟨q, r, e, h1, h2⟩ := ent_of hf0
  refine ⟨q, r, ?_, h1, h2⟩
  simp only [Value.cells] at e
  show Value.agg cs = .agg _
  congr 1
  exact Array.toList_inj.1 e
set_option maxRecDepth 100000 in
theorem open_entries {H : Type} {enc : TypeId × Value → H} {w : World} {base : Nat} {spare : Nat → Bool} {held : Bool} {fuel : Nat} {a : Option Addr} {len cap : Nat} {x : DataW H × List MemPlace}
    (h : DataW.trod enc Tryz.prog w base spare held fuel 22 [.slice a len cap] = some x) :
    ∃ l : List (Ent × EntR), l.length = len ∧ len ≤ maxLen ∧ len ≤ cap ∧ (∀ q ∈ l, EntSm q.1) ∧ EntsIn w a l := by
  have hcap := slice_cap Tryz.underlying22 h
  rcases open_slice Tryz.underlying22 h with ⟨hcs, _⟩ | ⟨A, len', cap', m, n, D, Pl, hcs, _, hl, hm, hmm, _, hel⟩
  · simp only [List.cons.injEq, Value.slice.injEq, and_true] at hcs
    obtain ⟨_, rfl, _⟩ := hcs
    exact ⟨[], rfl, by unfold maxLen; omega, hcap, fun q hq => by simp at hq, .inl rfl⟩
  · simp only [List.cons.injEq, Value.slice.injEq, and_true] at hcs
    obtain ⟨rfl, rfl, rfl⟩ := hcs
    have hlm : len ≤ m := by rw [hmm]; split <;> omega
    have hrec : ∀ i, i < len → ∃ q : Ent × EntR, w.cells? base (A.add (i * 13)) 13 = some (entW q.1 q.2) ∧ EntIn w q.1 q.2 ∧ EntSm q.1 := by
      intro i hi
      obtain ⟨cs', hc, ht⟩ := hel i (by omega)
      rw [entCells] at hc
      obtain ⟨q, r, rfl, z⟩ := ent_of ht
      exact ⟨(q, r), hc, z⟩
    obtain ⟨f, hf⟩ : ∃ f : Nat → Ent × EntR, ∀ i, i < len → w.cells? base (A.add (i * 13)) 13 = some (entW (f i).1 (f i).2) ∧ EntIn w (f i).1 (f i).2 ∧ EntSm (f i).1 := by
      classical
      refine ⟨fun i => if hi : i < len then (hrec i hi).choose else (⟨.empty, 0, [], [], 0, 0, 0, 0, 0, false, false, [], 0⟩, ⟨none, 0, none, 0, none, 0⟩), fun i hi => ?_⟩
      simp only [dif_pos hi]
      exact (hrec i hi).choose_spec
    refine ⟨(List.range len).map f, by simp, by omega, hcap, ?_, ?_⟩
    · intro q hq
      obtain ⟨i, hi, rfl⟩ := List.mem_map.1 hq
      exact (hf i (by simpa using hi)).2.2
    · by_cases h0 : len = 0
      · subst h0; exact .inl rfl
      · obtain ⟨b, off, spot⟩ := A
        have cells : ∀ i, i < len → ∀ j, j < 13 → w.cell? ((⟨b, off, spot⟩ : Addr).add (i * 13 + j)) = (entW (f i).1 (f i).2)[j]? := by
          intro i hi j hj
          have c := (World.cells?_some (hf i hi).1).2.2 j hj
          rw [add_add] at c
          exact c
        have hs : spot = none := by
          have c := cells 0 (by omega) 0 (by omega)
          simp only [Nat.zero_mul, Nat.add_zero, entW, List.getElem?_cons_zero] at c
          simpa [Addr.add] using World.cell?_spot c
        subst hs
        have hadd : ∀ i, (⟨b, off, none⟩ : Addr).add i = ⟨b, off + i, none⟩ := fun i => by unfold Addr.add; split <;> simp_all
        refine .inr ⟨b, off, rfl, fun i q hq => ?_⟩
        rw [List.getElem?_map] at hq
        obtain ⟨j, hj, rfl⟩ := Option.map_eq_some_iff.1 hq
        obtain ⟨hlt, rfl⟩ := List.getElem?_eq_some_iff.1 hj
        simp only [List.length_range] at hlt
        simp only [List.getElem_range]
        refine ⟨fun j hj => ?_, (hf i hlt).2.1⟩
        have q0 := cells i hlt j hj
        rw [hadd, ← Nat.add_assoc] at q0
        exact q0
end Go.Proofs.YtjfjfhoihhmbgaaGreatDoor
/-
  A store that came in, opened.
-/
namespace Go.Proofs.YtjfjfhoihhmbgaaGreatDoor
open Go.ChangeShapes Go.WideShapes Go.ChangeAt Go.RowKit Go.Deep
theorem stoCells : Tryz.prog.cellsOf 24 = 4 := by kernel_rfl
theorem eOneE : Tryz.prog.cellsOf 22 = 1 := by kernel_rfl
set_option maxRecDepth 100000 in
theorem open_store {H : Type} {enc : TypeId × Value → H} {w : World} {r : Reach} {b0 base : Nat} {spare : Nat → Bool} {held : Bool} {v : Value} {d : DataW H} {p : List MemPlace}
    (hv : Value.okWide Tryz.prog w r b0 24 v) (h : DataW.Trod enc Tryz.prog w base spare held 24 v d p) : ∃ (bu gu : Int) (ta ka : Option Addr) (tc kc : Nat) (tl kl : List (Ent × EntR)), v = .agg #[.int .i64 bu, .int .i64 gu, .slice ta tl.length tc, .slice ka kl.length kc] ∧ StoArg w ta ka tl kl := by
  obtain ⟨cs, rfl, hsz⟩ := okWide_struct Tryz.underlying24 hv
  obtain ⟨fuel, hf0⟩ := h
  obtain ⟨xs, n, _, _, hl, hlen, hf⟩ := DataW.trod_struct Tryz.underlying24 hf0
  match xs, hlen with
  | [y0, y1, y2, y3], _ =>
    have h0 : DataW.trod enc Tryz.prog w base spare held n 2 ((cs.toList.drop 0).take (Tryz.prog.cellsOf 2)) = some y0 := hf 0 _ rfl
    have h1 : DataW.trod enc Tryz.prog w base spare held n 2 ((cs.toList.drop 1).take (Tryz.prog.cellsOf 2)) = some y1 := hf 1 _ rfl
    have h2 : DataW.trod enc Tryz.prog w base spare held n 22 ((cs.toList.drop 2).take (Tryz.prog.cellsOf 22)) = some y2 := hf 2 _ rfl
    have h3 : DataW.trod enc Tryz.prog w base spare held n 22 ((cs.toList.drop 3).take (Tryz.prog.cellsOf 22)) = some y3 := hf 3 _ rfl
    rw [eOneI] at h0 h1
    rw [eOneE] at h2 h3
    obtain ⟨s0, e0, _⟩ := DataW.trod_int Tryz.underlying2 h0
    obtain ⟨s1, e1, _⟩ := DataW.trod_int Tryz.underlying2 h1
    obtain ⟨ta, tn, tc, e2⟩ := slice_cs Tryz.underlying22 h2
    rw [e2] at h2
    obtain ⟨tl, rfl, m2, _, sm2, o2⟩ := open_entries h2
    obtain ⟨ka, kn, kc, e3⟩ := slice_cs Tryz.underlying22 h3
    rw [e3] at h3
    obtain ⟨kl, rfl, m3, _, sm3, o3⟩ := open_entries h3
    refine ⟨s0, s1, ta, ka, tc, kc, tl, kl, ?_, ⟨o2, o3, m2, m3, sm2, sm3⟩⟩
    have hl' : cs.toList.length = 4 := by rw [stoCells] at hl; exact hl
    have key : cs.toList = [.int .i64 s0, .int .i64 s1, .slice ta tl.length tc, .slice ka kl.length kc] := by
      generalize cs.toList = c at *
      match c, hl' with
      | [c0, c1, c2, c3], _ =>
        simp only [List.drop_zero, List.take_succ_cons, List.take_zero, List.drop_succ_cons, List.cons.injEq, and_true] at e0 e1 e2 e3
        rw [e0, e1, e2, e3]
    show Value.agg cs = .agg _
    congr 1
    exact Array.toList_inj.1 key
end Go.Proofs.YtjfjfhoihhmbgaaGreatDoor
