/-
  The law of TrimText out of contracts of its two sides.
-/
import Derived.Test.YtgnlpjdndhciaahDoorTrimImpl
namespace Go.Proofs.YtgnlpjdndhciaahDoor
open Go.ChangeShapes Go.WideShapes Go.ChangeAt Go.RowKit
set_option maxHeartbeats 400000 in
theorem eqText_same (c : Int) (s : ByteArray) (w : World) :
    Calls Tryd.prog 7 #[.agg #[.int .i64 c, .string s], .agg #[.int .i64 c, .string s]] w fun e w' => e = .returned (.bool true) ∧ Below w.heap.size w w' := by
  go_enter Tryd.func7, Tryd.ntmps7
  go_wp2
  go_ret
  exact ⟨rfl, ((Below.refl _ _).alloc (Nat.le_refl _) _).alloc (by simp) _⟩
set_option maxHeartbeats 400000 in
theorem trimLaw_of (s r : ByteArray) (c : Int) (w : World)
    (h10 : Hid (∀ w, Calls Tryd.prog 5 #[.string s] w fun e w' => e = .returned (.agg #[.int .i64 c, .string r]) ∧ Below w.heap.size w w'))
    (h11 : Hid (∀ w, Calls Tryd.prog 6 #[.string s] w fun e w' => e = .returned (.agg #[.int .i64 c, .string r]) ∧ Below w.heap.size w w')) :
    Calls Tryd.prog 3 #[.string s] w fun e w' => e = .returned (.bool true) ∧ Below w.heap.size w w' := by
  by_cases hbig : (1048576 : Int) < s.size
  · go_enter Tryd.func3, Tryd.ntmps3
    go_wp2
    go_ret
    exact ⟨rfl, Below.refl _ _⟩
  go_enter Tryd.func3, Tryd.ntmps3
  go_wp2_with fail
  refine (h10.out _).mono ?_
  rintro e w1 ⟨rfl, hb1⟩
  have hz1 := hb1.size
  go_wp2_with fail
  refine (h11.out _).mono ?_
  rintro e w2 ⟨rfl, hb2⟩
  have hz2 := hb2.size
  obtain ⟨hc2, hf2⟩ := bcell hb2
  simp only [World.size_alloc] at hz2
  have hz3 : w1.heap.size < w2.heap.size := by omega
  go_wp2_with fail
  refine (eqText_same _ _ _).mono ?_
  rintro e w3 ⟨rfl, hb3⟩
  have hz4 := hb3.size
  simp only [World.size_alloc] at hz4
  go_wp2
  go_ret
  refine ⟨rfl, ?_⟩
  have k1 : Below w.heap.size w (w1.alloc (.cells #[.int .i64 c, .string r] 23)) := hb1.alloc hz1 _
  have k2 : Below w.heap.size w w2 := k1.trans (hb2.mono (by simp; omega))
  have k3 : Below w.heap.size w (w2.alloc (.cells #[.int .i64 c, .string r] 23)) := k2.alloc (by omega) _
  exact k3.trans (hb3.mono (by simp; omega))
theorem trimLaw (s : ByteArray) (w : World) :
    Calls Tryd.prog 3 #[.string s] w fun e w' => e = .returned (.bool true) ∧ Below w.heap.size w w' := by
  by_cases h : 1000 < s.size
  · exact trimLaw_of s ⟨#[]⟩ 2 w (fun w => specTrim_long s w h) (fun w => implTrim_long s w h)
  · exact trimLaw_of s (trimT s) 0 w (fun w => specTrim_any s w (by omega)) (fun w => implTrim_any s w (by omega))
end Go.Proofs.YtgnlpjdndhciaahDoor
