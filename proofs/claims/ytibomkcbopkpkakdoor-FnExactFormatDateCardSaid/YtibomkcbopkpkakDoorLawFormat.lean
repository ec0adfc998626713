/-
  The law of FormatDate.
-/
import Derived.Test.YtibomkcbopkpkakDoorLawFormatDate
namespace Go.Proofs.YtibomkcbopkpkakDoor
open Go.ChangeShapes Go.WideShapes Go.ChangeAt Go.RowKit
open num
namespace lawFormatDate
set_option maxHeartbeats 400000 in
theorem eq_same (c : Int) (r : ByteArray) (w : World) :
    Calls Tryd.prog 7 #[.agg #[.int .i64 c, .string r], .agg #[.int .i64 c, .string r]] w fun e w' => e = .returned (.bool true) ∧ Below w.heap.size w w' := by
  go_enter Tryd.func7, Tryd.ntmps7
  go_wp2
  go_ret
  exact ⟨rfl, ((Below.refl _ _).alloc (Nat.le_refl _) _).alloc (by simp) _⟩
set_option maxHeartbeats 1000000 in
theorem law (n : Int) (w : World) (hp : PowIs w) :
    Calls Tryd.prog 3 #[.int .i64 n] w fun e w' => e = .returned (.bool true) ∧ Below w.heap.size w w' := by
  have h10 : Hid (∀ w, Calls Tryd.prog 5 #[.int .i64 n] w fun e w' => e = .returned (.agg #[.int .i64 (kC n), .string (fdT n)]) ∧ Below w.heap.size w w') := specFormatDate n
  have h11 : Hid (∀ w, PowIs w → Calls Tryd.prog 6 #[.int .i64 n] w fun e w' => e = .returned (.agg #[.int .i64 (kC n), .string (fdT n)]) ∧ Below w.heap.size w w') := implFormatDate n
  have HP : Hid (PowIs w) := hp
  clear hp
  generalize kC n = c at *
  generalize fdT n = r at *
  go_enter Tryd.func3, Tryd.ntmps3
  go_wp2_with fail
  refine (h10.out _).mono ?_
  rintro e w1 ⟨rfl, hb1⟩
  have K1 : Hid (Below w.heap.size w w1) := hb1
  clear hb1
  go_wp2_with fail
  refine (h11.out _ (HP.out.below (K1.out.alloc K1.out.size _))).mono ?_
  rintro e w2 ⟨rfl, hb2⟩
  have hz2 := hb2.size
  obtain ⟨hc2, hf2⟩ := bcell hb2
  simp only [World.size_alloc] at hz2
  have hz3 : w1.heap.size < w2.heap.size := by omega
  have K2 : Hid (Below w.heap.size w w2) := (K1.out.alloc K1.out.size _).trans (hb2.mono (by have := K1.out.size; simp; omega))
  clear hb2
  go_wp2_with fail
  refine (eq_same _ _ _).mono ?_
  rintro e w3 ⟨rfl, hb3⟩
  have hz4 := hb3.size
  simp only [World.size_alloc] at hz4
  have K3 : Hid (Below w.heap.size w w3) := (K2.out.alloc K2.out.size _).trans (hb3.mono (by have := K2.out.size; simp; omega))
  clear hb3
  go_wp2
  go_ret
  exact ⟨rfl, K3.out⟩
end lawFormatDate
end Go.Proofs.YtibomkcbopkpkakDoor
