/-
  The law of LanesFault.
-/
import Derived.Test.YtdfikpadanmgmaaBlkIn
namespace Go.Proofs.Ytdfikpadanmgmaa
open Go.ChangeShapes Go.WideShapes Go.ChangeAt Go.RowKit Go.Sort
set_option maxHeartbeats 4000000 in
theorem lawLanesFault (s c t : Int) (w : World) :
    Calls Try.prog 3 #[.agg #[.int .i64 s, .int .i64 c, .int .i64 t]] w fun r w' => r = .returned (.bool true) ∧ Below w.heap.size w w' := by
  have HT : Hid (∀ w, Calls Try.prog 16 #[.agg #[.int .i64 s, .int .i64 c, .int .i64 t]] w fun r w' => r = .returned (.agg #[.int .i64 s, .int .i64 c, .int .i64 t]) ∧ Below w.heap.size w w') := toLanes_any s c t
  have HS : Hid (∀ w, Calls Try.prog 15 #[.agg #[.int .i64 s, .int .i64 c, .int .i64 t]] w fun r w' => r = .returned (.int .i64 (lanesC s c t)) ∧ Below w.heap.size w w') := specLanes_any s c t
  have HI : Hid (∀ w, Calls Try.prog 17 #[.agg #[.int .i64 s, .int .i64 c, .int .i64 t]] w fun r w' => r = .returned (.int .i64 (lanesC s c t)) ∧ Below w.heap.size w w') := implLanes_any s c t
  generalize lanesC s c t = q at *
  go_enter Try.func3, Try.ntmps3
  go_wp2_with fail
  refine (HT.out _).mono ?_
  rintro r w1 ⟨rfl, hb1⟩
  have K1 : Hid (Below w.heap.size w w1 ∧ D3 w1 w.heap.size (.int .i64 s) (.int .i64 c) (.int .i64 t)) := ⟨((Below.refl _ _).alloc (Nat.le_refl _) _).trans (hb1.mono (by simp)), (D3.new w _ _ _ 23).keep hb1⟩
  clear hb1
  go_wp2_with fail
  refine (HS.out _).mono ?_
  rintro r w2 ⟨rfl, hb2⟩
  have K2 : Hid (Below w.heap.size w w2 ∧ D3 w2 w.heap.size (.int .i64 s) (.int .i64 c) (.int .i64 t)) := ⟨K1.out.1.trans (hb2.mono K1.out.1.size), K1.out.2.keep hb2⟩
  clear hb2 K1
  obtain ⟨c0, c1, c2, fr, _⟩ := K2.out.2
  go_wp2_with fail
  refine (HT.out _).mono ?_
  rintro r w3 ⟨rfl, hb3⟩
  have K3 : Hid (Below w.heap.size w w3) := K2.out.1.trans (hb3.mono K2.out.1.size)
  clear hb3 K2 c0 c1 c2 fr
  go_wp2_with fail
  refine (HI.out _).mono ?_
  rintro r w4 ⟨rfl, hb4⟩
  have K4 : Hid (Below w.heap.size w w4) := K3.out.trans (hb4.mono K3.out.size)
  clear hb4 K3
  go_wp2
  go_ret
  exact ⟨rfl, K4.out⟩
end Go.Proofs.Ytdfikpadanmgmaa
