/-
  Lanes, as it came in by value, opened.
-/
import Derived.Test.YtdfikpadanmgmaaWtAt
import Derived.ChangeArms
namespace Go.Proofs.Ytdfikpadanmgmaa
open Go.ChangeShapes Go.WideShapes Go.ChangeAt Go.RowKit Go.Deep
theorem cellsLan : Try.prog.cellsOf 23 = 3 := by kernel_rfl
theorem oneLani : Try.prog.cellsOf 2 = 1 := by kernel_rfl
set_option maxRecDepth 100000 in
theorem openLan {H : Type} {enc : TypeId × Value → H} {w : World} {r : Reach} {b0 base : Nat} {spare : Nat → Bool} {held : Bool} {v : Value} {d : DataW H} {p : List MemPlace}
    (hv : Value.okWide Try.prog w r b0 23 v) (h : DataW.Trod enc Try.prog w base spare held 23 v d p) :
    ∃ (s0 : Int) (s1 : Int) (s2 : Int), v = .agg #[.int .i64 s0, .int .i64 s1, .int .i64 s2] := by
  obtain ⟨cs, rfl, hsz⟩ := okWide_struct Try.underlying23 hv
  obtain ⟨fuel, hf0⟩ := h
  obtain ⟨xs, n, _, _, hl, hlen, hf⟩ := DataW.trod_struct Try.underlying23 hf0
  match xs, hlen with
  | [y0, y1, y2], _ =>
    have h0 : DataW.trod enc Try.prog w base spare held n 2 (((Value.agg cs).cells.toList.drop 0).take (Try.prog.cellsOf 2)) = some y0 := hf 0 _ rfl
    have h1 : DataW.trod enc Try.prog w base spare held n 2 (((Value.agg cs).cells.toList.drop 1).take (Try.prog.cellsOf 2)) = some y1 := hf 1 _ rfl
    have h2 : DataW.trod enc Try.prog w base spare held n 2 (((Value.agg cs).cells.toList.drop 2).take (Try.prog.cellsOf 2)) = some y2 := hf 2 _ rfl
    rw [oneLani] at h0
    obtain ⟨s0, e0, _⟩ := DataW.trod_int Try.underlying2 h0
    rw [oneLani] at h1
    obtain ⟨s1, e1, _⟩ := DataW.trod_int Try.underlying2 h1
    rw [oneLani] at h2
    obtain ⟨s2, e2, _⟩ := DataW.trod_int Try.underlying2 h2
    refine ⟨s0, s1, s2, ?_⟩
    have e : cs.toList = [.int .i64 s0, .int .i64 s1, .int .i64 s2] := by
      simp only [Value.cells] at e0 e1 e2 hl
      rw [cellsLan] at hl
      match hc : cs.toList, hl with
      | [q0, q1, q2], _ =>
        rw [hc] at e0 e1 e2
        simp only [List.drop_zero, List.take_succ_cons, List.take_zero, List.drop_succ_cons, List.cons.injEq, and_true] at e0 e1 e2
        rw [e0, e1, e2]
    congr 1
    exact Array.toList_inj.1 e
end Go.Proofs.Ytdfikpadanmgmaa
