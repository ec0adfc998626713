/-
  The law of ParseDate.
-/
import Derived.Test.YtibomkcbopkpkakDoorDateParD
namespace Go.Proofs.YtibomkcbopkpkakDoor
open Go.ChangeShapes Go.WideShapes Go.ChangeAt Go.RowKit
open num
namespace lawParseDate
set_option maxHeartbeats 400000 in
theorem eq_same (c v : Int) (w : World) :
    Calls Tryd.prog 10 #[.agg #[.int .i64 c, .int .i64 v], .agg #[.int .i64 c, .int .i64 v]] w fun e w' => e = .returned (.bool true) ∧ Below w.heap.size w w' := by
  go_enter Tryd.func10, Tryd.ntmps10
  go_wp2
  go_ret
  exact ⟨rfl, ((Below.refl _ _).alloc (Nat.le_refl _) _).alloc (by simp) _⟩
set_option maxHeartbeats 1000000 in
theorem law (s : ByteArray) (w : World) (hp : PowIs w) :
    Calls Tryd.prog 4 #[.string s] w fun e w' => e = .returned (.bool true) ∧ Below w.heap.size w w' := by
  have h10 : Hid (∀ w, Calls Tryd.prog 8 #[.string s] w fun e w' => e = .returned (.agg #[.int .i64 (pdC s), .int .i64 (pdV s)]) ∧ Below w.heap.size w w') := specParseDate s
  have h11 : Hid (∀ w, PowIs w → Calls Tryd.prog 9 #[.string s] w fun e w' => e = .returned (.agg #[.int .i64 (pdC s), .int .i64 (pdV s)]) ∧ Below w.heap.size w w') := implParseDate s
  have HP : Hid (PowIs w) := hp
  clear hp
  generalize pdC s = c at *
  generalize pdV s = r at *
  by_cases hbig : (1048576 : Int) < s.size
  · go_enter Tryd.func4, Tryd.ntmps4
    go_wp2
    go_ret
    exact ⟨rfl, Below.refl _ _⟩
  go_enter Tryd.func4, Tryd.ntmps4
  go_wp2_with fail
  refine (h10.out _).mono ?_
  rintro e w1 ⟨rfl, hb1⟩
  have K1 : Hid (Below w.heap.size w w1) := hb1
  clear hb1
  go_wp2_with fail
  refine (h11.out _ (HP.out.below (K1.out.alloc K1.out.size _))).mono ?_
  rintro e w2 ⟨rfl, hb2⟩
  have hz2 := hb2.size
  obtain ⟨hc2, hf2⟩ := bcell hb2
  simp only [World.size_alloc] at hz2
  have hz3 : w1.heap.size < w2.heap.size := by omega
  have K2 : Hid (Below w.heap.size w w2) := (K1.out.alloc K1.out.size _).trans (hb2.mono (by have := K1.out.size; simp; omega))
  clear hb2
  go_wp2_with fail
  refine (eq_same _ _ _).mono ?_
  rintro e w3 ⟨rfl, hb3⟩
  have hz4 := hb3.size
  simp only [World.size_alloc] at hz4
  have K3 : Hid (Below w.heap.size w w3) := (K2.out.alloc K2.out.size _).trans (hb3.mono (by have := K2.out.size; simp; omega))
  clear hb3
  go_wp2
  go_ret
  exact ⟨rfl, K3.out⟩
end lawParseDate
end Go.Proofs.YtibomkcbopkpkakDoor
