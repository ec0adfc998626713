/-
  The text of known seconds, on the program's side: its parts.
-/
import Derived.Test.YtibomkcbopkpkaaDoorDateTwo
import Derived.Test.YtibomkcbopkpkaaDoorDateFmtS
import Derived.Test.YtibomkcbopkpkaaDoorDateRoom
import Derived.Test.YtibomkcbopkpkaaDoorNumImpl
import Derived.Lib.QuietBelow
import Derived.Deep.RegionWith
import Derived.BigQuiet
namespace Go.Proofs.YtibomkcbopkpkaaDoor
open Go.ChangeShapes Go.WideShapes Go.ChangeAt Go.RowKit Go.Sort
open num
set_option maxHeartbeats 1000000 in
theorem nameAt_day (x : Int) (h0 : 0 ≤ x) (h1 : x < 7) (w : World) :
    Calls Tryd.prog 101 #[.string dayNames, .int .i64 x] w fun e w' => e = .returned (.string (wdT x)) ∧ w' = w := by
  have hs := day_slice x h0 h1
  generalize dayNames = N at *
  generalize wdT x = r at *
  go_enter Tryd.func101, Tryd.ntmps101
  go_wp2_with fail
  go_ret
  exact ⟨rfl, rfl⟩
theorem mon_slice0 (p : Int) (h0 : 0 ≤ p) (h1 : p ≤ 11) (w : World) :
    (Instr.slice 9 (.string monNames) (some (.int .i64 (3 * p))) (some (.int .i64 (3 * p + 3))) none).run Tryd.prog w = .ok (.string (moT (p + 1))) w := by
  have := run_slice_string (P := Tryd.prog) w 9 monNames .i64 .i64 (3 * p) (3 * p + 3) Tryd.underlying9 (by omega) (by omega) (by show (3 * p + 3) ≤ ((36 : Nat) : Int); omega)
  rw [this]
  unfold moT
  rw [show 3 * (p + 1) - 3 = 3 * p by omega, show 3 * (p + 1) = 3 * p + 3 by omega]
set_option maxHeartbeats 1000000 in
theorem nameAt_mon (p : Int) (h0 : 0 ≤ p) (h1 : p ≤ 11) (w : World) :
    Calls Tryd.prog 101 #[.string monNames, .int .i64 p] w fun e w' => e = .returned (.string (moT (p + 1))) ∧ w' = w := by
  have hs := mon_slice0 p h0 h1
  generalize monNames = N at *
  generalize moT (p + 1) = r at *
  go_enter Tryd.func101, Tryd.ntmps101
  go_wp2_with fail
  go_ret
  exact ⟨rfl, rfl⟩
set_option maxHeartbeats 1000000 in
theorem twoDigits_any (n : Int) (h0 : 0 ≤ n) (h1 : n < 100) (w : World) (hp : PowIs w) :
    Calls Tryd.prog 102 #[.int .i64 n] w fun e w' => e = .returned (.string (two n)) ∧ Below w.heap.size w w' := by
  have HL := format_lib n h0 (by omega) w hp
  by_cases c : n < 10
  · have hz := numTx_size h0 (by omega)
    have E : Hid ((⟨#[48]⟩ : ByteArray) ++ numT n = two n) := num_one h0 c
    have hz2 : (numT n).size ≤ 4 := hz
    clear hz
    generalize numT n = q at *
    have hadd := fun w => run_string_add_sum (P := Tryd.prog) (w := w) (⟨#[48]⟩ : ByteArray) q (by have : (⟨#[48]⟩ : ByteArray).size = 1 := rfl; omega)
    rw [E.out] at hadd
    generalize two n = r at *
    go_enter Tryd.func102, Tryd.ntmps102
    go_wp2_with fail
    refine HL.mono ?_
    rintro e w1 ⟨rfl, hb⟩
    have KB : Hid (Below w.heap.size w w1) := hb
    clear hb HL
    go_wp2_with fail
    go_ret
    exact ⟨rfl, KB.out⟩
  · have E : Hid (numT n = two n) := num_two (by omega) h1
    rw [E.out] at HL
    go_enter Tryd.func102, Tryd.ntmps102
    go_wp2_with fail
    refine HL.mono ?_
    rintro e w1 ⟨rfl, hb⟩
    have KB : Hid (Below w.heap.size w w1) := hb
    clear hb HL
    go_wp2_with fail
    go_ret
    exact ⟨rfl, KB.out⟩
def clockT (h i s : Int) : ByteArray := two h ++ ⟨#[58]⟩ ++ two i ++ ⟨#[58]⟩ ++ two s
theorem clockT_size (h i s : Int) : (clockT h i s).size = 8 := by
  unfold clockT
  simp only [ByteArray.size_append, two_size]
  rfl
set_option maxRecDepth 100000 in
set_option maxHeartbeats 4000000 in
theorem clockText_any (y m d h i s : Int) (h0 : 0 ≤ h) (h1 : h < 100) (i0 : 0 ≤ i) (i1 : i < 100) (s0 : 0 ≤ s) (s1 : s < 100) (w : World) (hp : PowIs w) :
    Calls Tryd.prog 103 #[.agg #[.int .i64 y, .int .i64 m, .int .i64 d, .int .i64 h, .int .i64 i, .int .i64 s]] w fun e w' => e = .returned (.string (clockT h i s)) ∧ Below w.heap.size w w' := by
  have HE : Hid (clockT h i s = two h ++ ⟨#[58]⟩ ++ two i ++ ⟨#[58]⟩ ++ two s) := rfl
  have zh := two_size h
  have zi := two_size i
  have zs := two_size s
  have zk : (⟨#[58]⟩ : ByteArray).size = 1 := rfl
  obtain ⟨c1, E1, z1, r1⟩ := add_step (two h) ⟨#[58]⟩ (by omega)
  obtain ⟨c2, E2, z2, r2⟩ := add_step c1 (two i) (by omega)
  obtain ⟨c3, E3, z3, r3⟩ := add_step c2 ⟨#[58]⟩ (by omega)
  obtain ⟨c4, E4, z4, r4⟩ := add_step c3 (two s) (by omega)
  clear z1 z2 z3 z4 zh zi zs zk
  have HP : Hid (PowIs w) := hp
  clear hp
  go_enter Tryd.func103, Tryd.ntmps103
  go_wp2_with fail
  obtain ⟨W, hW⟩ : ∃ W, W = w.alloc (.cells #[.int .i64 y, .int .i64 m, .int .i64 d, .int .i64 h, .int .i64 i, .int .i64 s] 48) := ⟨_, rfl⟩
  rw [← hW]
  have KD : Hid (DateAtB W w.heap.size y m d h i s) := by subst hW; exact dateAtB_new w y m d h i s _
  have KB : Hid (Below w.heap.size w W) := by subst hW; exact (Below.refl _ _).alloc (Nat.le_refl _) _
  have KP : Hid (PowIs W) := HP.out.below KB.out
  clear hW
  have q3 := cell_regrown KD.out.c3
  have q4 := cell_regrown KD.out.c4
  have q5 := cell_regrown KD.out.c5
  clear KD
  have cT : ∀ v d' os, 0 ≤ v → v < 100 → Calls Tryd.prog 102 #[.int .i64 v] (grow (redrawn W d') os) fun e w'' => e = .returned (.string (two v)) ∧ ∃ p : Regrown, w'' = grow (redrawn W p.d) p.os := fun v d' os a b => Calls.regrown_of (twoDigits_any v a b _ (KP.out.below (below_regrown W d' os)))
  refine wp_region_quiet_below (by kernel_rfl) (by kernel_rfl) ?_
  repeat (go_big_quiet_step (first | (go_at_call 102; exact cT _ _ _ (by omega) (by omega))))
  refine wpQuiet_nil ?_
  intro W2 hW2
  have KB2 : Hid (Below w.heap.size w W2) := by
    obtain ⟨⟨d, os⟩, rfl⟩ := hW2
    exact KB.out.trans ((below_regrown W d os).mono KB.out.size)
  clear hW2 cT q3 q4 q5
  go_wp2_with fail
  go_ret
  exact ⟨ret_str (by rw [HE.out, E4.out, E3.out, E2.out, E1.out]), KB2.out⟩
end Go.Proofs.YtibomkcbopkpkaaDoor
