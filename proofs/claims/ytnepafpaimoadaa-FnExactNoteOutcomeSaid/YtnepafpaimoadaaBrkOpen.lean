/-
  Breaker, as it came in by value, opened.
-/
import Derived.Test.YtnepafpaimoadaaMkOpen
import Derived.ChangeArms
namespace Go.Proofs.Ytnepafpaimoadaa
open Go.ChangeShapes Go.WideShapes Go.ChangeAt Go.RowKit Go.Deep
theorem cellsBrk : Try.prog.cellsOf 61 = 4 := by kernel_rfl
theorem oneBrki : Try.prog.cellsOf 2 = 1 := by kernel_rfl
theorem sliceBrk {H : Type} {enc : TypeId × Value → H} {w : World} {base : Nat} {spare : Nat → Bool} {held : Bool} {fuel : Nat} {cs : List Value} {t e : TypeId} {x : DataW H × List MemPlace}
    (hu : Try.prog.underlying t = some (.slice e)) (h : DataW.trod enc Try.prog w base spare held fuel t cs = some x) : ∃ a len cap, cs = [.slice a len cap] := by
  rcases open_slice hu h with ⟨hcs, _⟩ | ⟨A, len', cap', m, n, D, Pl, hcs, _⟩
  · exact ⟨_, _, _, hcs⟩
  · exact ⟨_, _, _, hcs⟩
theorem listBrkMark : Try.prog.cellsOf 59 = 1 := by kernel_rfl
set_option maxRecDepth 100000 in
theorem openBrk {H : Type} {enc : TypeId × Value → H} {w : World} {r : Reach} {b0 base : Nat} {spare : Nat → Bool} {held : Bool} {v : Value} {d : DataW H} {p : List MemPlace}
    (hv : Value.okWide Try.prog w r b0 61 v) (h : DataW.Trod enc Try.prog w base spare held 61 v d p) :
    ∃ (s0 : Int) (s1 : Int) (s2 : Int) (a3 : Option Addr) (c3 : Nat) (l3 : List Mk), v = .agg #[.int .i64 s0, .int .i64 s1, .int .i64 s2, .slice a3 l3.length c3] ∧ l3.length ≤ maxLen ∧ MkIn w a3 l3 := by
  obtain ⟨cs, rfl, hsz⟩ := okWide_struct Try.underlying61 hv
  obtain ⟨fuel, hf0⟩ := h
  obtain ⟨xs, n, _, _, hl, hlen, hf⟩ := DataW.trod_struct Try.underlying61 hf0
  match xs, hlen with
  | [y0, y1, y2, y3], _ =>
    have h0 : DataW.trod enc Try.prog w base spare held n 2 (((Value.agg cs).cells.toList.drop 0).take (Try.prog.cellsOf 2)) = some y0 := hf 0 _ rfl
    have h1 : DataW.trod enc Try.prog w base spare held n 2 (((Value.agg cs).cells.toList.drop 1).take (Try.prog.cellsOf 2)) = some y1 := hf 1 _ rfl
    have h2 : DataW.trod enc Try.prog w base spare held n 2 (((Value.agg cs).cells.toList.drop 2).take (Try.prog.cellsOf 2)) = some y2 := hf 2 _ rfl
    have h3 : DataW.trod enc Try.prog w base spare held n 59 (((Value.agg cs).cells.toList.drop 3).take (Try.prog.cellsOf 59)) = some y3 := hf 3 _ rfl
    rw [oneBrki] at h0
    obtain ⟨s0, e0, _⟩ := DataW.trod_int Try.underlying2 h0
    rw [oneBrki] at h1
    obtain ⟨s1, e1, _⟩ := DataW.trod_int Try.underlying2 h1
    rw [oneBrki] at h2
    obtain ⟨s2, e2, _⟩ := DataW.trod_int Try.underlying2 h2
    rw [listBrkMark] at h3
    obtain ⟨a3, len3, c3, e3⟩ := sliceBrk Try.underlying59 h3
    rw [e3] at h3
    obtain ⟨l3, rfl, m3, o3⟩ := openMk h3
    refine ⟨s0, s1, s2, a3, c3, l3, ?_, m3, o3⟩
    have e : cs.toList = [.int .i64 s0, .int .i64 s1, .int .i64 s2, .slice a3 l3.length c3] := by
      simp only [Value.cells] at e0 e1 e2 e3 hl
      rw [cellsBrk] at hl
      match hc : cs.toList, hl with
      | [q0, q1, q2, q3], _ =>
        rw [hc] at e0 e1 e2 e3
        simp only [List.drop_zero, List.take_succ_cons, List.take_zero, List.drop_succ_cons, List.cons.injEq, and_true] at e0 e1 e2 e3
        rw [e0, e1, e2, e3]
    congr 1
    exact Array.toList_inj.1 e
end Go.Proofs.Ytnepafpaimoadaa
