/-
  Bulk, as it came in by value, opened.
-/
import Derived.Test.YtdfikpadanmgmaaWtOpen
import Derived.ChangeArms
namespace Go.Proofs.Ytdfikpadanmgmaa
open Go.ChangeShapes Go.WideShapes Go.ChangeAt Go.RowKit Go.Deep
theorem cellsBlk : Try.prog.cellsOf 30 = 2 := by kernel_rfl
theorem oneBlki : Try.prog.cellsOf 2 = 1 := by kernel_rfl
theorem sliceBlk {H : Type} {enc : TypeId × Value → H} {w : World} {base : Nat} {spare : Nat → Bool} {held : Bool} {fuel : Nat} {cs : List Value} {t e : TypeId} {x : DataW H × List MemPlace}
    (hu : Try.prog.underlying t = some (.slice e)) (h : DataW.trod enc Try.prog w base spare held fuel t cs = some x) : ∃ a len cap, cs = [.slice a len cap] := by
  rcases open_slice hu h with ⟨hcs, _⟩ | ⟨A, len', cap', m, n, D, Pl, hcs, _⟩
  · exact ⟨_, _, _, hcs⟩
  · exact ⟨_, _, _, hcs⟩
theorem listBlkWait : Try.prog.cellsOf 28 = 1 := by kernel_rfl
set_option maxRecDepth 100000 in
theorem openBlk {H : Type} {enc : TypeId × Value → H} {w : World} {r : Reach} {b0 base : Nat} {spare : Nat → Bool} {held : Bool} {v : Value} {d : DataW H} {p : List MemPlace}
    (hv : Value.okWide Try.prog w r b0 30 v) (h : DataW.Trod enc Try.prog w base spare held 30 v d p) :
    ∃ (s0 : Int) (a1 : Option Addr) (c1 : Nat) (l1 : List Wt), v = .agg #[.int .i64 s0, .slice a1 l1.length c1] ∧ l1.length ≤ maxLen ∧ WtIn w a1 l1 := by
  obtain ⟨cs, rfl, hsz⟩ := okWide_struct Try.underlying30 hv
  obtain ⟨fuel, hf0⟩ := h
  obtain ⟨xs, n, _, _, hl, hlen, hf⟩ := DataW.trod_struct Try.underlying30 hf0
  match xs, hlen with
  | [y0, y1], _ =>
    have h0 : DataW.trod enc Try.prog w base spare held n 2 (((Value.agg cs).cells.toList.drop 0).take (Try.prog.cellsOf 2)) = some y0 := hf 0 _ rfl
    have h1 : DataW.trod enc Try.prog w base spare held n 28 (((Value.agg cs).cells.toList.drop 1).take (Try.prog.cellsOf 28)) = some y1 := hf 1 _ rfl
    rw [oneBlki] at h0
    obtain ⟨s0, e0, _⟩ := DataW.trod_int Try.underlying2 h0
    rw [listBlkWait] at h1
    obtain ⟨a1, len1, c1, e1⟩ := sliceBlk Try.underlying28 h1
    rw [e1] at h1
    obtain ⟨l1, rfl, m1, o1⟩ := openWt h1
    refine ⟨s0, a1, c1, l1, ?_, m1, o1⟩
    have e : cs.toList = [.int .i64 s0, .slice a1 l1.length c1] := by
      simp only [Value.cells] at e0 e1 hl
      rw [cellsBlk] at hl
      match hc : cs.toList, hl with
      | [q0, q1], _ =>
        rw [hc] at e0 e1
        simp only [List.drop_zero, List.take_succ_cons, List.take_zero, List.drop_succ_cons, List.cons.injEq, and_true] at e0 e1
        rw [e0, e1]
    congr 1
    exact Array.toList_inj.1 e
end Go.Proofs.Ytdfikpadanmgmaa
