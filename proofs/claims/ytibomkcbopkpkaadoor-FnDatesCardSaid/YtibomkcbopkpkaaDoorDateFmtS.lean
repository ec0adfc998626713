/-
  The text of known seconds, on the model's side.
-/
import Derived.Test.YtibomkcbopkpkaaDoorDateTwo
import Derived.Test.YtibomkcbopkpkaaDoorDateAtS
import Derived.Test.YtibomkcbopkpkaaDoorDateRoom
import Derived.Lib.QuietBelow
import Derived.Deep.RegionWith
import Derived.BigQuiet
namespace Go.Proofs.YtibomkcbopkpkaaDoor
open Go.ChangeShapes Go.WideShapes Go.ChangeAt Go.RowKit Go.Sort
theorem day_slice (x : Int) (h0 : 0 ≤ x) (h1 : x < 7) (w : World) :
    (Instr.slice 9 (.string dayNames) (some (.int .i64 (3 * x))) (some (.int .i64 (3 * x + 3))) none).run Tryd.prog w = .ok (.string (wdT x)) w :=
  run_slice_string (P := Tryd.prog) w 9 dayNames .i64 .i64 (3 * x) (3 * x + 3) Tryd.underlying9 (by omega) (by omega) (by show (3 * x + 3) ≤ ((21 : Nat) : Int); omega)
theorem mon_slice (m : Int) (h0 : 1 ≤ m) (h1 : m ≤ 12) (w : World) :
    (Instr.slice 9 (.string monNames) (some (.int .i64 (3 * m - 3))) (some (.int .i64 (3 * m))) none).run Tryd.prog w = .ok (.string (moT m)) w :=
  run_slice_string (P := Tryd.prog) w 9 monNames .i64 .i64 (3 * m - 3) (3 * m) Tryd.underlying9 (by omega) (by omega) (by show 3 * m ≤ ((36 : Nat) : Int); omega)
set_option maxRecDepth 100000 in
set_option maxHeartbeats 8000000 in
theorem l3Format_any (n : Int) (w : World) (h0 : 0 ≤ n) (h1 : n ≤ 253402300799) :
    Calls Tryd.prog 131 #[.int .i64 n] w fun e w' => e = .returned (.string (fmtT n)) ∧ Below w.heap.size w w' := by
  have HAT := specAt_any n w h0 h1
  have hk := date_ok h0 h1
  obtain ⟨⟨hy0, hy1, hm0, hm1, hd0, hd1⟩, hh0, hh1, hi0, hi1, hs0, hs1⟩ := hk
  have hd2 := (mlen_bd (dY n) (dM n)).2
  have HF : Hid (fmtT n = dateText ((n / 86400 + 4) % 7) (dY n) (dM n) (dD n) (dH n) (dI n) (dS n)) := rfl
  obtain ⟨x, hx, hx0, hx1⟩ : ∃ x : Int, Hid ((n / 86400 + 4) % 7 = x) ∧ 0 ≤ x ∧ x < 7 := ⟨_, rfl, by omega, by omega⟩
  rw [hx.out] at HF
  have hd3 : dD n ≤ 31 := by omega
  clear hd1 hd2
  generalize dY n = y at *
  generalize dM n = m at *
  generalize dD n = d at *
  generalize dH n = h at *
  generalize dI n = i at *
  generalize dS n = s at *
  have HE : Hid (dateText x y m d h i s = wdT x ++ ⟨#[44, 32]⟩ ++ two d ++ ⟨#[32]⟩ ++ moT m ++ ⟨#[32]⟩ ++ two (y / 100) ++ two y ++ ⟨#[32]⟩ ++ two h ++ ⟨#[58]⟩ ++ two i ++ ⟨#[58]⟩ ++ two s ++ ⟨#[32, 71, 77, 84]⟩) := rfl
  have hsd := day_slice x hx0 hx1
  have hsm := mon_slice m hm0 hm1
  have ztx := wdT_size hx0 hx1
  have ztm := moT_size hm0 hm1
  have ztD := two_size d
  have ztC := two_size (y / 100)
  have ztY := two_size y
  have ztH := two_size h
  have ztI := two_size i
  have ztS := two_size s
  have HT : Hid (∀ v w, 0 ≤ v → v ≤ 9999 → Calls Tryd.prog 154 #[.int .i64 v] w fun e w' => e = .returned (.string (two v)) ∧ Below w.heap.size w w') := fun v w a b => l3Two_any v a b w
  generalize wdT x = tx at *
  generalize moT m = tm at *
  have zkc1 : (⟨#[44, 32]⟩ : ByteArray).size = 2 := rfl
  obtain ⟨c1, Ec1, zc1, rc1⟩ := add_step tx ⟨#[44, 32]⟩ (by omega)
  obtain ⟨c2, Ec2, zc2, rc2⟩ := add_step c1 (two d) (by omega)
  have zkc3 : (⟨#[32]⟩ : ByteArray).size = 1 := rfl
  obtain ⟨c3, Ec3, zc3, rc3⟩ := add_step c2 ⟨#[32]⟩ (by omega)
  obtain ⟨c4, Ec4, zc4, rc4⟩ := add_step c3 tm (by omega)
  have zkc5 : (⟨#[32]⟩ : ByteArray).size = 1 := rfl
  obtain ⟨c5, Ec5, zc5, rc5⟩ := add_step c4 ⟨#[32]⟩ (by omega)
  obtain ⟨c6, Ec6, zc6, rc6⟩ := add_step c5 (two (y / 100)) (by omega)
  obtain ⟨c7, Ec7, zc7, rc7⟩ := add_step c6 (two y) (by omega)
  have zkc8 : (⟨#[32]⟩ : ByteArray).size = 1 := rfl
  obtain ⟨c8, Ec8, zc8, rc8⟩ := add_step c7 ⟨#[32]⟩ (by omega)
  obtain ⟨c9, Ec9, zc9, rc9⟩ := add_step c8 (two h) (by omega)
  have zkc10 : (⟨#[58]⟩ : ByteArray).size = 1 := rfl
  obtain ⟨c10, Ec10, zc10, rc10⟩ := add_step c9 ⟨#[58]⟩ (by omega)
  obtain ⟨c11, Ec11, zc11, rc11⟩ := add_step c10 (two i) (by omega)
  have zkc12 : (⟨#[58]⟩ : ByteArray).size = 1 := rfl
  obtain ⟨c12, Ec12, zc12, rc12⟩ := add_step c11 ⟨#[58]⟩ (by omega)
  obtain ⟨c13, Ec13, zc13, rc13⟩ := add_step c12 (two s) (by omega)
  have zkc14 : (⟨#[32, 71, 77, 84]⟩ : ByteArray).size = 4 := rfl
  obtain ⟨c14, Ec14, zc14, rc14⟩ := add_step c13 ⟨#[32, 71, 77, 84]⟩ (by omega)
  clear zkc1 zkc3 zkc5 zkc8 zkc10 zkc12 zkc14 zc1 zc2 zc3 zc4 zc5 zc6 zc7 zc8 zc9 zc10 zc11 zc12 zc13 zc14 ztx ztm ztD ztC ztY ztH ztI ztS
  go_enter Tryd.func131, Tryd.ntmps131
  go_wp2_with fail
  refine HAT.mono ?_
  rintro e w1 ⟨rfl, hb1⟩
  obtain ⟨W, hW⟩ : ∃ W, W = w1.alloc (.cells #[.int .i64 y, .int .i64 m, .int .i64 d, .int .i64 h, .int .i64 i, .int .i64 s] 48) := ⟨_, rfl⟩
  have KD : Hid (DateAtB W w1.heap.size y m d h i s) := by subst hW; exact dateAtB_new w1 y m d h i s _
  have KB : Hid (Below w.heap.size w W) := by subst hW; exact hb1.alloc hb1.size _
  have HWW : Hid (W = w1.alloc (.cells #[.int .i64 y, .int .i64 m, .int .i64 d, .int .i64 h, .int .i64 i, .int .i64 s] 48)) := hW
  clear hW hb1 HAT
  go_wp2_with fail
  rw [← HWW.out, hx.out]
  clear HWW
  unfold dayNames at hsd
  unfold monNames at hsm
  generalize (⟨#[83, 117, 110, 77, 111, 110, 84, 117, 101, 87, 101, 100, 84, 104, 117, 70, 114, 105, 83, 97, 116]⟩ : ByteArray) = DN at *
  generalize (⟨#[74, 97, 110, 70, 101, 98, 77, 97, 114, 65, 112, 114, 77, 97, 121, 74, 117, 110, 74, 117, 108, 65, 117, 103, 83, 101, 112, 79, 99, 116, 78, 111, 118, 68, 101, 99]⟩ : ByteArray) = MN at *
  generalize w1.heap.size = B at *
  clear w1
  have q0 := cell_regrown KD.out.c0
  have q1 := cell_regrown KD.out.c1
  have q2 := cell_regrown KD.out.c2
  have q3 := cell_regrown KD.out.c3
  have q4 := cell_regrown KD.out.c4
  have q5 := cell_regrown KD.out.c5
  clear KD
  have cT : ∀ v d' os, 0 ≤ v → v ≤ 9999 → Calls Tryd.prog 154 #[.int .i64 v] (grow (redrawn W d') os) fun e w'' => e = .returned (.string (two v)) ∧ ∃ p : Regrown, w'' = grow (redrawn W p.d) p.os := fun v d' os a b => Calls.regrown_of (HT.out v _ a b)
  refine wp_region_quiet_below (by kernel_rfl) (by kernel_rfl) ?_
  repeat (go_big_quiet_step (first | (go_at_call 154; exact cT _ _ _ (by omega) (by omega))))
  refine wpQuiet_nil ?_
  intro W2 hW2
  have KB2 : Hid (Below w.heap.size w W2) := by
    obtain ⟨⟨d, os⟩, rfl⟩ := hW2
    exact KB.out.trans ((below_regrown W d os).mono KB.out.size)
  clear hW2 cT q0 q1 q2 q3 q4 q5
  go_wp2_with fail
  go_ret
  exact ⟨ret_str (by rw [HF.out, HE.out, Ec14.out, Ec13.out, Ec12.out, Ec11.out, Ec10.out, Ec9.out, Ec8.out, Ec7.out, Ec6.out, Ec5.out, Ec4.out, Ec3.out, Ec2.out, Ec1.out]), KB2.out⟩
end Go.Proofs.YtibomkcbopkpkaaDoor
