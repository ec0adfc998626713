/-
  FormatDate on both sides, and its law.
-/
import Derived.Test.YtibomkcbopkpkaaDoorDateFmtI
import Derived.Test.YtibomkcbopkpkaaDoorDateFmtS
namespace Go.Proofs.YtibomkcbopkpkaaDoor
open Go.ChangeShapes Go.WideShapes Go.ChangeAt Go.RowKit
open num
noncomputable def fdT (n : Int) : ByteArray := if knownB n = true then fmtT n else ⟨#[]⟩
theorem fdT_yes {n : Int} (h : knownB n = true) : fdT n = fmtT n := by simp [fdT, h]
theorem fdT_no {n : Int} (h : knownB n = false) : fdT n = ⟨#[]⟩ := by simp [fdT, h]
set_option maxHeartbeats 1000000 in
theorem specFormatDate (n : Int) (w : World) :
    Calls Tryd.prog 92 #[.int .i64 n] w fun e w' => e = .returned (.agg #[.int .i64 (kC n), .string (fdT n)]) ∧ Below w.heap.size w w' := by
  have H : Hid (∀ w, Calls Tryd.prog 98 #[.int .i64 n] w fun e w' => e = .returned (.bool (knownB n)) ∧ w' = w) := specKnown_any n
  cases hk : knownB n
  · rw [kC_no hk, fdT_no hk]
    rw [hk] at H
    clear hk
    go_enter Tryd.func92, Tryd.ntmps92
    go_wp2_with fail
    refine (H.out _).mono ?_
    rintro e w1 ⟨rfl, rfl⟩
    go_wp2
    exact bodyPost_ret (v := .agg #[.int .i64 3, .string ⟨#[]⟩]) (by simp [results, Tryd.results92, go_sem]) rfl ⟨rfl, (Below.refl _ _).alloc (Nat.le_refl _) _⟩
  · rw [kC_yes hk, fdT_yes hk]
    rw [hk] at H
    obtain ⟨h0, h1⟩ := knownB_yes hk
    have H2 : Hid (∀ w, Calls Tryd.prog 131 #[.int .i64 n] w fun e w' => e = .returned (.string (fmtT n)) ∧ Below w.heap.size w w') := fun w => l3Format_any n w h0 h1
    generalize fmtT n = R at *
    clear hk
    go_enter Tryd.func92, Tryd.ntmps92
    go_wp2_with fail
    refine (H.out _).mono ?_
    rintro e w1 ⟨rfl, rfl⟩
    go_wp2_with fail
    refine (H2.out _).mono ?_
    rintro e w2 ⟨rfl, hb2⟩
    have KT : Hid (TRoom w2 w.heap.size 0 ⟨#[]⟩) := (troom_new w 0 ⟨#[]⟩ 26).keep hb2
    have KB : Hid (Below w.heap.size w w2) := ((Below.refl _ _).alloc (Nat.le_refl _) _).trans (hb2.mono (by simp))
    clear hb2
    obtain ⟨e0, e1, f0, f1⟩ := KT.out
    obtain ⟨z0, z1⟩ := two_set (v0 := .int .i64 0) (v1 := .string R) e0 e1
    go_wp2
    exact bodyPost_ret (v := .agg #[.int .i64 0, .string R]) (by simp [results, Tryd.results92, go_sem, z0, z1]) rfl ⟨rfl, (KB.out.setCell (Nat.le_refl _) _).setCell (Nat.le_refl _) _⟩
set_option maxHeartbeats 1000000 in
theorem implFormatDate (n : Int) (w : World) (hp : PowIs w) :
    Calls Tryd.prog 48 #[.int .i64 n] w fun e w' => e = .returned (.agg #[.int .i64 (kC n), .string (fdT n)]) ∧ Below w.heap.size w w' := by
  cases hk : knownB n
  · have H : Hid (∀ w, Calls Tryd.prog 88 #[.int .i64 n] w fun e w' => e = .returned (.bool (knownB n)) ∧ w' = w) := implKnown_any n
    rw [kC_no hk, fdT_no hk]
    rw [hk] at H
    clear hk hp
    go_enter Tryd.func48, Tryd.ntmps48
    go_wp2_with fail
    refine (H.out _).mono ?_
    rintro e w1 ⟨rfl, rfl⟩
    go_wp2
    exact bodyPost_ret (v := .agg #[.int .i64 3, .string ⟨#[]⟩]) (by simp [results, Tryd.results48, go_sem]) rfl ⟨rfl, (Below.refl _ _).alloc (Nat.le_refl _) _⟩
  · rw [kC_yes hk, fdT_yes hk]
    obtain ⟨h0, h1⟩ := knownB_yes hk
    exact implFormat_any n w h0 h1 hp
end Go.Proofs.YtibomkcbopkpkaaDoor
