/-
  The law of MayServe.
-/
import Derived.Test.YtnbbbmhfmjkhbaaToMeta
import Derived.Test.YtnbbbmhfmjkhbaaMetaMay
import Derived.Deep.CutRange
namespace Go.Proofs.Ytnbbbmhfmjkhbaa
open Go.ChangeShapes Go.WideShapes Go.ChangeAt Go.RowKit Go.Sort
set_option maxHeartbeats 4000000 in
theorem lawMayServe (t g l s e : Int) (b1 b2 : Bool) (n : Int) (f : Bool) (w : World) :
    Calls Try.prog 9 #[.agg #[.int .i64 t, .int .i64 g, .int .i64 l, .int .i64 s, .int .i64 e, .bool b1, .bool b2], .int .i64 n, .bool f] w fun r w' => r = .returned (.bool true) ∧ Below w.heap.size w w' := by
  have HT : Hid (∀ w, Calls Try.prog 28 #[.agg #[.int .i64 t, .int .i64 g, .int .i64 l, .int .i64 s, .int .i64 e, .bool b1, .bool b2]] w fun r w' => r = .returned (.agg #[.int .i64 t, .int .i64 g, .int .i64 l, .int .i64 s, .int .i64 e, .bool b1, .bool b2]) ∧ Below w.heap.size w w') := toMeta_any t g l s e b1 b2
  have HS : Hid (∀ w, Calls Try.prog 32 #[.agg #[.int .i64 t, .int .i64 g, .int .i64 l, .int .i64 s, .int .i64 e, .bool b1, .bool b2], .int .i64 n, .bool f] w fun r w' => r = .returned (.bool (mayV (phaseA t g l s e b1 b2 n) f)) ∧ Below w.heap.size w w') := specMay_any t g l s e b1 b2 n f
  have HI : Hid (∀ w, Calls Try.prog 19 #[.agg #[.int .i64 t, .int .i64 g, .int .i64 l, .int .i64 s, .int .i64 e, .bool b1, .bool b2], .int .i64 n, .bool f] w fun r w' => r = .returned (.bool (mayV (phaseA t g l s e b1 b2 n) f)) ∧ Below w.heap.size w w') := implMay_any t g l s e b1 b2 n f
  generalize mayV (phaseA t g l s e b1 b2 n) f = z at *
  have hz : (z != z) = false := by simp
  go_enter Try.func9, Try.ntmps9
  go_wp2_with fail
  refine (HT.out _).mono ?_
  rintro r w1 ⟨rfl, hb1⟩
  have K1 : Hid (Below w.heap.size w w1 ∧ MetaAt w1 w.heap.size t g l s e b1 b2) := ⟨((Below.refl _ _).alloc (Nat.le_refl _) _).trans (hb1.mono (by simp)), (MetaAt.new w t g l s e b1 b2 45).keep hb1⟩
  clear hb1
  go_wp2_with fail
  refine (HS.out _).mono ?_
  rintro r w2 ⟨rfl, hb2⟩
  have K2 : Hid (Below w.heap.size w w2 ∧ MetaAt w2 w.heap.size t g l s e b1 b2) := ⟨K1.out.1.trans (hb2.mono K1.out.1.size), K1.out.2.keep hb2⟩
  clear hb2 K1
  obtain ⟨c0, c1, c2, c3, c4, c5, c6, fr, _⟩ := K2.out.2
  go_wp2_with fail
  refine (HT.out _).mono ?_
  rintro r w3 ⟨rfl, hb3⟩
  have K3 : Hid (Below w.heap.size w w3) := K2.out.1.trans (hb3.mono K2.out.1.size)
  clear hb3 K2 c0 c1 c2 c3 c4 c5 c6 fr
  go_wp2_with fail
  refine (HI.out _).mono ?_
  rintro r w4 ⟨rfl, hb4⟩
  have K4 : Hid (Below w.heap.size w w4) := K3.out.trans (hb4.mono K3.out.size)
  clear hb4 K3
  go_wp2
  go_ret
  exact ⟨rfl, K4.out⟩
end Go.Proofs.Ytnbbbmhfmjkhbaa
