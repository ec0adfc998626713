/-
  The law of NumberText out of contracts of its two sides; what the row's list gives.
-/
import Derived.Test.YtgnlpjdndhciaahDoorNumImpl
import Derived.MakeChecks
import Derived.Stop.LaidErr
namespace Go.Proofs.YtgnlpjdndhciaahDoor
open Go.ChangeShapes Go.WideShapes Go.ChangeAt Go.RowKit
namespace num
set_option maxHeartbeats 400000 in
theorem eqText_same (c : Int) (s : ByteArray) (w : World) :
    Calls Tryd.prog 7 #[.agg #[.int .i64 c, .string s], .agg #[.int .i64 c, .string s]] w fun e w' => e = .returned (.bool true) ∧ Below w.heap.size w w' := by
  go_enter Tryd.func7, Tryd.ntmps7
  go_wp2
  go_ret
  exact ⟨rfl, ((Below.refl _ _).alloc (Nat.le_refl _) _).alloc (by simp) _⟩
set_option maxHeartbeats 400000 in
theorem numLaw_of (n : Int) (r : ByteArray) (c : Int) (w : World) (hp : PowIs w)
    (h10 : Hid (∀ w, Calls Tryd.prog 8 #[.int .i64 n] w fun e w' => e = .returned (.agg #[.int .i64 c, .string r]) ∧ Below w.heap.size w w'))
    (h11 : Hid (∀ w, PowIs w → Calls Tryd.prog 9 #[.int .i64 n] w fun e w' => e = .returned (.agg #[.int .i64 c, .string r]) ∧ Below w.heap.size w w')) :
    Calls Tryd.prog 4 #[.int .i64 n] w fun e w' => e = .returned (.bool true) ∧ Below w.heap.size w w' := by
  have HP : Hid (PowIs w) := hp
  clear hp
  go_enter Tryd.func4, Tryd.ntmps4
  go_wp2_with fail
  refine (h10.out _).mono ?_
  rintro e w1 ⟨rfl, hb1⟩
  have hz1 := hb1.size
  have HQ : Hid (PowIs (w1.alloc (.cells #[.int .i64 c, .string r] 23))) := HP.out.below (hb1.alloc hz1 _)
  go_wp2_with fail
  refine (h11.out _ HQ.out).mono ?_
  rintro e w2 ⟨rfl, hb2⟩
  have hz2 := hb2.size
  obtain ⟨hc2, hf2⟩ := bcell hb2
  simp only [World.size_alloc] at hz2
  have hz3 : w1.heap.size < w2.heap.size := by omega
  go_wp2_with fail
  refine (eqText_same _ _ _).mono ?_
  rintro e w3 ⟨rfl, hb3⟩
  have hz4 := hb3.size
  simp only [World.size_alloc] at hz4
  go_wp2
  go_ret
  refine ⟨rfl, ?_⟩
  have k1 : Below w.heap.size w (w1.alloc (.cells #[.int .i64 c, .string r] 23)) := hb1.alloc hz1 _
  have k2 : Below w.heap.size w w2 := k1.trans (hb2.mono (by simp; omega))
  have k3 : Below w.heap.size w (w2.alloc (.cells #[.int .i64 c, .string r] 23)) := k2.alloc (by omega) _
  exact k3.trans (hb3.mono (by simp; omega))
theorem numLaw (n : Int) (w : World) (hp : PowIs w) :
    Calls Tryd.prog 4 #[.int .i64 n] w fun e w' => e = .returned (.bool true) ∧ Below w.heap.size w w' := by
  by_cases h : n < 0 ∨ 1000000000000000 < n
  · exact numLaw_of n ⟨#[]⟩ 3 w hp (fun w => specNum_bad n w h) (fun w _ => implNum_bad n w h)
  · exact numLaw_of n (numT n) 0 w hp (fun w => specNum_any n w (by omega) (by omega)) (fun w => implNum_any n w (by omega) (by omega))
theorem powType : (Tryd.prog.globals[0]?).map (·.type) = some 59 := by kernel_rfl
theorem powTab {H : Type} : (Rows.laid_internal_strconv_uint64pow10 : DataW H) = Lib.tabData .u64 Lib.pow10Tab := by kernel_rfl
theorem pow_of {w : World} {rest : List (String × DataW Unit)} (h : laidMet Tryd.prog (("internal/strconv.uint64pow10", Rows.laid_internal_strconv_uint64pow10) :: rest) w) : PowIs w := by
  rw [powTab] at h
  exact Lib.tabIs_of_head powNamed powType Tryd.underlying59 Tryd.underlying51 (by kernel_rfl) (by kernel_rfl) h
end num
end Go.Proofs.YtgnlpjdndhciaahDoor
