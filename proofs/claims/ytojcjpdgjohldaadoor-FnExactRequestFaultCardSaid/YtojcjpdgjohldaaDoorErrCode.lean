/-
  codeOf and headError.
-/
import Derived.Test.YtojcjpdgjohldaaDoorErrLaid
namespace Go.Proofs.YtojcjpdgjohldaaDoor
open Go.ChangeShapes Go.WideShapes Go.ChangeAt Go.RowKit
set_option maxHeartbeats 1000000 in
theorem codeOf_any (E : Errs) (c : Int) (w : World) (hE : ErrsIs w E) (hc : c = 0 ∨ c = 2 ∨ c = 3 ∨ c = 5 ∨ c = 6) :
    Calls Tryd.prog 21 #[errV E c] w fun e w' => e = .returned (.int .i64 c) ∧ w' = w := by
  obtain ⟨gU, gM, gB, gD, ⟨n1, n2, n3, n4, n5, n6⟩, ⟨cu, tu, hU⟩, ⟨cm, tm, hM⟩, ⟨cb, tb, hB⟩, ⟨cd, td, hD⟩⟩ := hE
  rcases hc with rfl | rfl | rfl | rfl | rfl
  · rw [errV0]
    go_enter Tryd.func21, Tryd.ntmps21
    go_wp2_with fail
    go_ret
    exact ⟨rfl, rfl⟩
  · rw [errV2]
    have I1 := is_same E.m w
    go_enter Tryd.func21, Tryd.ntmps21
    go_wp2_with fail
    refine I1.mono ?_
    rintro e w' ⟨rfl, rfl⟩
    go_wp2_with fail
    go_ret
    exact ⟨rfl, rfl⟩
  · rw [errV3]
    have I1 := is_other E.b E.m cb cm tb tm w (Ne.symm n4) hB hM
    have I2 := is_same E.b w
    go_enter Tryd.func21, Tryd.ntmps21
    go_wp2_with fail
    refine I1.mono ?_
    rintro e w' ⟨rfl, rfl⟩
    go_wp2_with fail
    refine I2.mono ?_
    rintro e w' ⟨rfl, rfl⟩
    go_wp2_with fail
    go_ret
    exact ⟨rfl, rfl⟩
  · rw [errV5]
    have I1 := is_other E.u E.m cu cm tu tm w n1 hU hM
    have I2 := is_other E.u E.b cu cb tu tb w n2 hU hB
    have I3 := is_other E.u E.d cu cd tu td w n3 hU hD
    go_enter Tryd.func21, Tryd.ntmps21
    go_wp2_with fail
    refine I1.mono ?_
    rintro e w' ⟨rfl, rfl⟩
    go_wp2_with fail
    refine I2.mono ?_
    rintro e w' ⟨rfl, rfl⟩
    go_wp2_with fail
    refine I3.mono ?_
    rintro e w' ⟨rfl, rfl⟩
    go_wp2_with fail
    go_ret
    exact ⟨rfl, rfl⟩
  · rw [errV6]
    have I1 := is_other E.d E.m cd cm td tm w (Ne.symm n5) hD hM
    have I2 := is_other E.d E.b cd cb td tb w (Ne.symm n6) hD hB
    have I3 := is_same E.d w
    go_enter Tryd.func21, Tryd.ntmps21
    go_wp2_with fail
    refine I1.mono ?_
    rintro e w' ⟨rfl, rfl⟩
    go_wp2_with fail
    refine I2.mono ?_
    rintro e w' ⟨rfl, rfl⟩
    go_wp2_with fail
    refine I3.mono ?_
    rintro e w' ⟨rfl, rfl⟩
    go_wp2_with fail
    go_ret
    exact ⟨rfl, rfl⟩
set_option maxHeartbeats 1000000 in
theorem headError_any (E : Errs) (c : Int) (w : World) (hE : ErrsIs w E) (hc : c = 0 ∨ c = 2 ∨ c = 5) :
    Calls Tryd.prog 39 #[.int .i64 c] w fun e w' => e = .returned (errV E c) ∧ w' = w := by
  have gM := hE.gM
  have gU := hE.gU
  rcases hc with rfl | rfl | rfl
  · rw [errV0]
    go_enter Tryd.func39, Tryd.ntmps39
    go_wp2
    go_ret
    exact ⟨rfl, rfl⟩
  · rw [errV2]
    go_enter Tryd.func39, Tryd.ntmps39
    go_wp2
    go_ret
    exact ⟨rfl, rfl⟩
  · rw [errV5]
    go_enter Tryd.func39, Tryd.ntmps39
    go_wp2
    go_ret
    exact ⟨rfl, rfl⟩
end Go.Proofs.YtojcjpdgjohldaaDoor
