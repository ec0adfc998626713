/-
  Texts of one claim, one behind the other.
-/
import Derived.MakeChecks
import Derived.Stop.LaidErr
import Derived.Test.YtojcjpdgjohldaaGreatDoorPrB
/-
  A response, a row of bytes, a list of texts that came in, opened.
-/
namespace Go.Proofs.YtojcjpdgjohldaaGreatDoor
open Go.ChangeShapes Go.WideShapes Go.ChangeAt Go.RowKit Go.Deep
theorem bytesOne : Tryz.prog.cellsOf 5 = 1 := by kernel_rfl
theorem open_bytes {H : Type} {enc : TypeId × Value → H} {w : World} {base : Nat} {spare : Nat → Bool} {held : Bool} {fuel : Nat} {a : Option Addr} {len cap : Nat} {x : DataW H × List MemPlace}
    (h : DataW.trod enc Tryz.prog w base spare held fuel 22 [.slice a len cap] = some x) : ∃ l : List UInt8, l.length = len ∧ len ≤ maxLen ∧ BIn w a l := by
  rcases open_ints Tryz.underlying22 Tryz.underlying5 bytesOne h with ⟨hcs, _⟩ | ⟨A, l', c', zs, hcs, _, hl, hm, hz, _, hcell, hwz⟩
  · simp only [List.cons.injEq, Value.slice.injEq, and_true] at hcs
    obtain ⟨_, rfl, _⟩ := hcs
    exact ⟨[], rfl, by unfold maxLen; omega, .inl rfl⟩
  · simp only [List.cons.injEq, Value.slice.injEq, and_true] at hcs
    obtain ⟨rfl, rfl, rfl⟩ := hcs
    have hlz : len ≤ zs.length := by rw [hz]; split <;> omega
    refine ⟨(zs.take len).map fun z => UInt8.ofNat z.toNat, by simp; omega, by omega, ?_⟩
    by_cases h0 : len = 0
    · subst h0; exact .inl rfl
    · obtain ⟨b, off, spot⟩ := A
      have hc := hcell 0 (by omega)
      have hspot : spot = none := by simpa [Addr.add] using World.cell?_spot hc
      subst hspot
      have hadd : ∀ i, (⟨b, off, none⟩ : Addr).add i = ⟨b, off + i, none⟩ := fun i => by unfold Addr.add; split <;> simp_all
      refine .inr ⟨b, off, rfl, fun i c hr => ?_⟩
      rw [List.getElem?_map] at hr
      obtain ⟨z, hz1, rfl⟩ := Option.map_eq_some_iff.1 hr
      have hi : i < len := by have := (List.getElem?_eq_some_iff.1 hz1).1; simp at this; omega
      rw [List.getElem?_take_of_lt hi] at hz1
      have h1 := hcell i (by omega)
      rw [hadd, List.getD_eq_getElem?_getD, hz1] at h1
      rw [h1]
      have hw := hwz z (List.mem_of_getElem? hz1)
      simp only [Lit.wf, Bool.and_eq_true, decide_eq_true_eq] at hw
      have w1 : 0 ≤ z := hw.1
      have w2 : z ≤ 255 := hw.2
      have e : ((UInt8.ofNat z.toNat).toNat : Int) = z := by
        rw [UInt8.toNat_ofNat']
        omega
      rw [e]; rfl
theorem responseCells : Tryz.prog.cellsOf 73 = 3 := by kernel_rfl
theorem byteSOne : Tryz.prog.cellsOf 22 = 1 := by kernel_rfl
theorem intOne : Tryz.prog.cellsOf 2 = 1 := by kernel_rfl
set_option maxRecDepth 100000 in
theorem open_response {H : Type} {enc : TypeId × Value → H} {w : World} {r : Reach} {b0 base : Nat} {spare : Nat → Bool} {held : Bool} {v : Value} {d : DataW H} {p : List MemPlace}
    (hv : Value.okWide Tryz.prog w r b0 73 v) (h : DataW.Trod enc Tryz.prog w base spare held 73 v d p) :
    ∃ (z : Int) (a : Option Addr) (cap : Nat) (l : List Hdr) (b : Option Addr) (bc : Nat) (bl : List UInt8), v = .agg #[.int .i64 z, .slice a l.length cap, .slice b bl.length bc] ∧ l.length ≤ maxLen ∧ SmallHdrs l ∧ (l = [] ∨ ∃ b off, a = some ⟨b, off, none⟩ ∧ HeadsAt w b off l) ∧ bl.length ≤ maxLen ∧ BIn w b bl := by
  obtain ⟨cs, rfl, hsz⟩ := okWide_struct Tryz.underlying73 hv
  obtain ⟨fuel, hf0⟩ := h
  obtain ⟨xs, n, _, _, hl, hlen, hf⟩ := DataW.trod_struct Tryz.underlying73 hf0
  match xs, hlen with
  | [y0, y1, y2], _ =>
    have h0 : DataW.trod enc Tryz.prog w base spare held n 2 (((Value.agg cs).cells.toList.drop 0).take (Tryz.prog.cellsOf 2)) = some y0 := hf 0 _ rfl
    have h1 : DataW.trod enc Tryz.prog w base spare held n 54 (((Value.agg cs).cells.toList.drop 1).take (Tryz.prog.cellsOf 54)) = some y1 := hf 1 _ rfl
    have h2 : DataW.trod enc Tryz.prog w base spare held n 22 (((Value.agg cs).cells.toList.drop 2).take (Tryz.prog.cellsOf 22)) = some y2 := hf 2 _ rfl
    rw [intOne] at h0
    rw [headsOne] at h1
    rw [byteSOne] at h2
    obtain ⟨s0, e0, _⟩ := DataW.trod_int Tryz.underlying2 h0
    obtain ⟨a, len, cap, e1⟩ := slice_cs Tryz.underlying54 h1
    rw [e1] at h1
    obtain ⟨l, rfl, m3, s3, o3⟩ := open_headers h1
    obtain ⟨b, bn, bc, e2⟩ := slice_cs Tryz.underlying22 h2
    rw [e2] at h2
    obtain ⟨bl, rfl, m4, o4⟩ := open_bytes h2
    refine ⟨s0, a, cap, l, b, bc, bl, ?_, m3, s3, o3, m4, o4⟩
    have e : cs.toList = [.int .i64 s0, .slice a l.length cap, .slice b bl.length bc] := by
      simp only [Value.cells] at e0 e1 e2 hl
      rw [responseCells] at hl
      match hc : cs.toList, hl with
      | [c0, c1, c2], _ =>
        rw [hc] at e0 e1 e2
        simp only [List.drop_zero, List.take_succ_cons, List.take_zero, List.drop_succ_cons, List.cons.injEq, and_true] at e0 e1 e2
        rw [e0, e1, e2]
    congr 1
    exact Array.toList_inj.1 e
end Go.Proofs.YtojcjpdgjohldaaGreatDoor
/-
  What the row's list gives of the table of powers of ten.
-/
namespace Go.Proofs.YtojcjpdgjohldaaGreatDoor
namespace num
theorem powType : (Tryz.prog.globals[6]?).map (·.type) = some 236 := by kernel_rfl
theorem powTab {H : Type} : (Rows.laid_internal_strconv_uint64pow10 : DataW H) = Lib.tabData .u64 Lib.pow10Tab := by kernel_rfl
theorem pow_of {w : World} {rest : List (String × DataW Unit)} (h : laidMet Tryz.prog (("internal/strconv.uint64pow10", Rows.laid_internal_strconv_uint64pow10) :: rest) w) : PowIs w := by
  rw [powTab] at h
  exact Lib.tabIs_of_head powNamed powType Tryz.underlying236 Tryz.underlying197 (by kernel_rfl) (by kernel_rfl) h
end num
end Go.Proofs.YtojcjpdgjohldaaGreatDoor
/-
  As many variables are read as are named.
-/
namespace Go.Proofs.YtojcjpdgjohldaaGreatDoor
theorem trodVars_len {H : Type} {enc : TypeId × Value → H} {P : Program} {W : World} {sp : Nat → Bool} : ∀ {ns : List String} {gs : List (DataW H)} {ps : List MemPlace}, DataW.TrodVars enc P W sp ns gs ps → gs.length = ns.length
  | [], [], _, _ => rfl
  | [], _ :: _, _, h => h.elim
  | _ :: _, [], _, h => h.elim
  | n :: ns, d :: ds, ps, h => by
    obtain ⟨g, t, cs, fuel, p, q, h1, h2, h3, h4, hs, e⟩ := h
    simp [trodVars_len hs]
end Go.Proofs.YtojcjpdgjohldaaGreatDoor
