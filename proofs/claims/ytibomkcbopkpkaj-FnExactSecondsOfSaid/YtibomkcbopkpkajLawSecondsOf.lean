/-
  The law of SecondsOf.
-/
import Derived.Test.YtibomkcbopkpkajDateSecs
import Derived.Test.YtibomkcbopkpkajLawToDate
import Derived.Test.YtibomkcbopkpkajDateRoom
namespace Go.Proofs.Ytibomkcbopkpkaj
open Go.ChangeShapes Go.WideShapes Go.ChangeAt Go.RowKit
namespace lawSecondsOf
set_option maxHeartbeats 400000 in
theorem eq_same (c v : Int) (w : World) :
    Calls Try.prog 19 #[.agg #[.int .i64 c, .int .i64 v], .agg #[.int .i64 c, .int .i64 v]] w fun e w' => e = .returned (.bool true) ∧ Below w.heap.size w w' := by
  go_enter Try.func19, Try.ntmps19
  go_wp2
  go_ret
  exact ⟨rfl, ((Below.refl _ _).alloc (Nat.le_refl _) _).alloc (by simp) _⟩
set_option maxHeartbeats 1000000 in
theorem law (y m d h i s : Int) (c v : Int) (w : World)
    (h10 : Hid (∀ w, Calls Try.prog 20 #[.agg #[.int .i64 y, .int .i64 m, .int .i64 d, .int .i64 h, .int .i64 i, .int .i64 s]] w fun e w' => e = .returned (.agg #[.int .i64 c, .int .i64 v]) ∧ Below w.heap.size w w'))
    (h11 : Hid (∀ w, Calls Try.prog 21 #[.agg #[.int .i64 y, .int .i64 m, .int .i64 d, .int .i64 h, .int .i64 i, .int .i64 s]] w fun e w' => e = .returned (.agg #[.int .i64 c, .int .i64 v]) ∧ Below w.heap.size w w')) :
    Calls Try.prog 6 #[.agg #[.int .i64 y, .int .i64 m, .int .i64 d, .int .i64 h, .int .i64 i, .int .i64 s]] w fun e w' => e = .returned (.bool true) ∧ Below w.heap.size w w' := by
  have HT : Hid (∀ w, Calls Try.prog 15 #[.agg #[.int .i64 y, .int .i64 m, .int .i64 d, .int .i64 h, .int .i64 i, .int .i64 s]] w fun e w' => e = .returned (.agg #[.int .i64 y, .int .i64 m, .int .i64 d, .int .i64 h, .int .i64 i, .int .i64 s]) ∧ Below w.heap.size w w') := toDate_any y m d h i s
  go_enter Try.func6, Try.ntmps6
  go_wp2_with fail
  refine (HT.out _).mono ?_
  rintro e w1 ⟨rfl, hb1⟩
  have K1 : Hid (Below w.heap.size w w1 ∧ DateAtB w1 w.heap.size y m d h i s) := ⟨((Below.refl _ _).alloc (Nat.le_refl _) _).trans (hb1.mono (by simp)), (dateAtB_new w y m d h i s 29).keep hb1⟩
  clear hb1
  go_wp2_with fail
  refine (h10.out _).mono ?_
  rintro e w2 ⟨rfl, hb2⟩
  have K2 : Hid (Below w.heap.size w w2 ∧ DateAtB w2 w.heap.size y m d h i s) := ⟨K1.out.1.trans (hb2.mono K1.out.1.size), K1.out.2.keep hb2⟩
  clear hb2 K1
  obtain ⟨c0, c1, c2, c3, c4, c5, fr⟩ := K2.out.2
  have hlt := block_lt_of_cell c0
  go_wp2_with fail
  refine (HT.out _).mono ?_
  rintro e w3 ⟨rfl, hb3⟩
  have K3 : Hid (Below w.heap.size w w3 ∧ Room2 w3 w2.heap.size c v) := ⟨(K2.out.1.alloc K2.out.1.size _).trans (hb3.mono (by have := K2.out.1.size; simp; omega)), (room2_new w2 c v 35).keep hb3⟩
  clear hb3 K2 c0 c1 c2 c3 c4 c5 fr
  generalize w2.heap.size = L2 at *
  clear w2
  go_wp2_with fail
  refine (h11.out _).mono ?_
  rintro e w4 ⟨rfl, hb4⟩
  have K4 : Hid (Below w.heap.size w w4 ∧ Room2 w4 L2 c v) := ⟨K3.out.1.trans (hb4.mono K3.out.1.size), K3.out.2.keep hb4⟩
  clear hb4 K3
  obtain ⟨r0, r1, rf0, rf1⟩ := K4.out.2
  have hl4 : L2 < w4.heap.size := block_lt_of_cell r0
  go_wp2_with fail
  refine (eq_same _ _ _).mono ?_
  rintro e w5 ⟨rfl, hb5⟩
  have K5 : Hid (Below w.heap.size w w5) := (K4.out.1.alloc K4.out.1.size _).trans (hb5.mono (by have := K4.out.1.size; simp; omega))
  clear hb5 K4
  go_wp2
  go_ret
  exact ⟨rfl, K5.out⟩
end lawSecondsOf
end Go.Proofs.Ytibomkcbopkpkaj
