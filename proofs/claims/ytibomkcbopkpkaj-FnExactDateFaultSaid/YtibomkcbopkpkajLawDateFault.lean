/-
  The law of DateFault.
-/
import Derived.Test.YtibomkcbopkpkajDateFault
import Derived.Test.YtibomkcbopkpkajLawToDate
import Derived.Test.YtibomkcbopkpkajDateRoom
namespace Go.Proofs.Ytibomkcbopkpkaj
open Go.ChangeShapes Go.WideShapes Go.ChangeAt Go.RowKit
set_option maxHeartbeats 1000000 in
theorem lawDateFault (y m d h i s : Int) (w : World) :
    Calls Try.prog 4 #[.agg #[.int .i64 y, .int .i64 m, .int .i64 d, .int .i64 h, .int .i64 i, .int .i64 s]] w fun e w' => e = .returned (.bool true) ∧ Below w.heap.size w w' := by
  have HT : Hid (∀ w, Calls Try.prog 15 #[.agg #[.int .i64 y, .int .i64 m, .int .i64 d, .int .i64 h, .int .i64 i, .int .i64 s]] w fun e w' => e = .returned (.agg #[.int .i64 y, .int .i64 m, .int .i64 d, .int .i64 h, .int .i64 i, .int .i64 s]) ∧ Below w.heap.size w w') := toDate_any y m d h i s
  have HS : Hid (∀ w, Calls Try.prog 14 #[.agg #[.int .i64 y, .int .i64 m, .int .i64 d, .int .i64 h, .int .i64 i, .int .i64 s]] w fun e w' => e = .returned (.int .i64 (dfC y m d h i s)) ∧ Below w.heap.size w w') := specFault_any y m d h i s
  have HI : Hid (∀ w, Calls Try.prog 16 #[.agg #[.int .i64 y, .int .i64 m, .int .i64 d, .int .i64 h, .int .i64 i, .int .i64 s]] w fun e w' => e = .returned (.int .i64 (dfC y m d h i s)) ∧ Below w.heap.size w w') := implFault_any y m d h i s
  generalize dfC y m d h i s = c at *
  go_enter Try.func4, Try.ntmps4
  go_wp2_with fail
  refine (HT.out _).mono ?_
  rintro e w1 ⟨rfl, hb1⟩
  have K1 : Hid (Below w.heap.size w w1 ∧ DateAtB w1 w.heap.size y m d h i s) := ⟨((Below.refl _ _).alloc (Nat.le_refl _) _).trans (hb1.mono (by simp)), (dateAtB_new w y m d h i s 29).keep hb1⟩
  clear hb1
  go_wp2_with fail
  refine (HS.out _).mono ?_
  rintro e w2 ⟨rfl, hb2⟩
  have K2 : Hid (Below w.heap.size w w2 ∧ DateAtB w2 w.heap.size y m d h i s) := ⟨K1.out.1.trans (hb2.mono K1.out.1.size), K1.out.2.keep hb2⟩
  clear hb2 K1
  obtain ⟨c0, c1, c2, c3, c4, c5, fr⟩ := K2.out.2
  go_wp2_with fail
  refine (HT.out _).mono ?_
  rintro e w3 ⟨rfl, hb3⟩
  have K3 : Hid (Below w.heap.size w w3) := K2.out.1.trans (hb3.mono K2.out.1.size)
  clear hb3 K2 c0 c1 c2 c3 c4 c5 fr
  go_wp2_with fail
  refine (HI.out _).mono ?_
  rintro e w4 ⟨rfl, hb4⟩
  have K4 : Hid (Below w.heap.size w w4) := K3.out.trans (hb4.mono K3.out.size)
  clear hb4 K3
  go_wp2
  go_ret
  exact ⟨rfl, K4.out⟩
end Go.Proofs.Ytibomkcbopkpkaj
