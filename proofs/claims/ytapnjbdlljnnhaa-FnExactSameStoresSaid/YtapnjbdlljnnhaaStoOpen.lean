/-
  A store that came in, opened.
-/
import Derived.Test.YtapnjbdlljnnhaaEntOpen
import Derived.Test.YtapnjbdlljnnhaaStoLaw
namespace Go.Proofs.Ytapnjbdlljnnhaa
open Go.ChangeShapes Go.WideShapes Go.ChangeAt Go.RowKit Go.Deep
theorem stoCells : Try.prog.cellsOf 24 = 4 := by kernel_rfl
theorem eOneE : Try.prog.cellsOf 22 = 1 := by kernel_rfl
set_option maxRecDepth 100000 in
theorem open_store {H : Type} {enc : TypeId × Value → H} {w : World} {r : Reach} {b0 base : Nat} {spare : Nat → Bool} {held : Bool} {v : Value} {d : DataW H} {p : List MemPlace}
    (hv : Value.okWide Try.prog w r b0 24 v) (h : DataW.Trod enc Try.prog w base spare held 24 v d p) : ∃ (bu gu : Int) (ta ka : Option Addr) (tc kc : Nat) (tl kl : List (Ent × EntR)), v = .agg #[.int .i64 bu, .int .i64 gu, .slice ta tl.length tc, .slice ka kl.length kc] ∧ StoArg w ta ka tl kl := by
  obtain ⟨cs, rfl, hsz⟩ := okWide_struct Try.underlying24 hv
  obtain ⟨fuel, hf0⟩ := h
  obtain ⟨xs, n, _, _, hl, hlen, hf⟩ := DataW.trod_struct Try.underlying24 hf0
  match xs, hlen with
  | [y0, y1, y2, y3], _ =>
    have h0 : DataW.trod enc Try.prog w base spare held n 2 ((cs.toList.drop 0).take (Try.prog.cellsOf 2)) = some y0 := hf 0 _ rfl
    have h1 : DataW.trod enc Try.prog w base spare held n 2 ((cs.toList.drop 1).take (Try.prog.cellsOf 2)) = some y1 := hf 1 _ rfl
    have h2 : DataW.trod enc Try.prog w base spare held n 22 ((cs.toList.drop 2).take (Try.prog.cellsOf 22)) = some y2 := hf 2 _ rfl
    have h3 : DataW.trod enc Try.prog w base spare held n 22 ((cs.toList.drop 3).take (Try.prog.cellsOf 22)) = some y3 := hf 3 _ rfl
    rw [eOneI] at h0 h1
    rw [eOneE] at h2 h3
    obtain ⟨s0, e0, _⟩ := DataW.trod_int Try.underlying2 h0
    obtain ⟨s1, e1, _⟩ := DataW.trod_int Try.underlying2 h1
    obtain ⟨ta, tn, tc, e2⟩ := slice_cs Try.underlying22 h2
    rw [e2] at h2
    obtain ⟨tl, rfl, m2, _, sm2, o2⟩ := open_entries h2
    obtain ⟨ka, kn, kc, e3⟩ := slice_cs Try.underlying22 h3
    rw [e3] at h3
    obtain ⟨kl, rfl, m3, _, sm3, o3⟩ := open_entries h3
    refine ⟨s0, s1, ta, ka, tc, kc, tl, kl, ?_, ⟨o2, o3, m2, m3, sm2, sm3⟩⟩
    have hl' : cs.toList.length = 4 := by rw [stoCells] at hl; exact hl
    have key : cs.toList = [.int .i64 s0, .int .i64 s1, .slice ta tl.length tc, .slice ka kl.length kc] := by
      generalize cs.toList = c at *
      match c, hl' with
      | [c0, c1, c2, c3], _ =>
        simp only [List.drop_zero, List.take_succ_cons, List.take_zero, List.drop_succ_cons, List.cons.injEq, and_true] at e0 e1 e2 e3
        rw [e0, e1, e2, e3]
    show Value.agg cs = .agg _
    congr 1
    exact Array.toList_inj.1 key
end Go.Proofs.Ytapnjbdlljnnhaa
