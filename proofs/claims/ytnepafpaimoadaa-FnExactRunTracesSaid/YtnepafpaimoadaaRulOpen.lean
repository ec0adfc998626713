/-
  Rules, as it came in by value, opened.
-/
import Derived.Test.YtnepafpaimoadaaMkAt
import Derived.ChangeArms
namespace Go.Proofs.Ytnepafpaimoadaa
open Go.ChangeShapes Go.WideShapes Go.ChangeAt Go.RowKit Go.Deep
theorem cellsRul : Try.prog.cellsOf 56 = 5 := by kernel_rfl
theorem oneRuli : Try.prog.cellsOf 2 = 1 := by kernel_rfl
set_option maxRecDepth 100000 in
theorem openRul {H : Type} {enc : TypeId × Value → H} {w : World} {r : Reach} {b0 base : Nat} {spare : Nat → Bool} {held : Bool} {v : Value} {d : DataW H} {p : List MemPlace}
    (hv : Value.okWide Try.prog w r b0 56 v) (h : DataW.Trod enc Try.prog w base spare held 56 v d p) :
    ∃ (s0 : Int) (s1 : Int) (s2 : Int) (s3 : Int) (s4 : Int), v = .agg #[.int .i64 s0, .int .i64 s1, .int .i64 s2, .int .i64 s3, .int .i64 s4] := by
  obtain ⟨cs, rfl, hsz⟩ := okWide_struct Try.underlying56 hv
  obtain ⟨fuel, hf0⟩ := h
  obtain ⟨xs, n, _, _, hl, hlen, hf⟩ := DataW.trod_struct Try.underlying56 hf0
  match xs, hlen with
  | [y0, y1, y2, y3, y4], _ =>
    have h0 : DataW.trod enc Try.prog w base spare held n 2 (((Value.agg cs).cells.toList.drop 0).take (Try.prog.cellsOf 2)) = some y0 := hf 0 _ rfl
    have h1 : DataW.trod enc Try.prog w base spare held n 2 (((Value.agg cs).cells.toList.drop 1).take (Try.prog.cellsOf 2)) = some y1 := hf 1 _ rfl
    have h2 : DataW.trod enc Try.prog w base spare held n 2 (((Value.agg cs).cells.toList.drop 2).take (Try.prog.cellsOf 2)) = some y2 := hf 2 _ rfl
    have h3 : DataW.trod enc Try.prog w base spare held n 2 (((Value.agg cs).cells.toList.drop 3).take (Try.prog.cellsOf 2)) = some y3 := hf 3 _ rfl
    have h4 : DataW.trod enc Try.prog w base spare held n 2 (((Value.agg cs).cells.toList.drop 4).take (Try.prog.cellsOf 2)) = some y4 := hf 4 _ rfl
    rw [oneRuli] at h0
    obtain ⟨s0, e0, _⟩ := DataW.trod_int Try.underlying2 h0
    rw [oneRuli] at h1
    obtain ⟨s1, e1, _⟩ := DataW.trod_int Try.underlying2 h1
    rw [oneRuli] at h2
    obtain ⟨s2, e2, _⟩ := DataW.trod_int Try.underlying2 h2
    rw [oneRuli] at h3
    obtain ⟨s3, e3, _⟩ := DataW.trod_int Try.underlying2 h3
    rw [oneRuli] at h4
    obtain ⟨s4, e4, _⟩ := DataW.trod_int Try.underlying2 h4
    refine ⟨s0, s1, s2, s3, s4, ?_⟩
    have e : cs.toList = [.int .i64 s0, .int .i64 s1, .int .i64 s2, .int .i64 s3, .int .i64 s4] := by
      simp only [Value.cells] at e0 e1 e2 e3 e4 hl
      rw [cellsRul] at hl
      match hc : cs.toList, hl with
      | [q0, q1, q2, q3, q4], _ =>
        rw [hc] at e0 e1 e2 e3 e4
        simp only [List.drop_zero, List.take_succ_cons, List.take_zero, List.drop_succ_cons, List.cons.injEq, and_true] at e0 e1 e2 e3 e4
        rw [e0, e1, e2, e3, e4]
    congr 1
    exact Array.toList_inj.1 e
end Go.Proofs.Ytnepafpaimoadaa
