/-
  The text of known seconds, on the program's side.
-/
import Derived.Test.YtibomkcbopkpkaaDoorDateClock
import Derived.Test.YtibomkcbopkpkaaDoorDateAtI
import Derived.Test.YtibomkcbopkpkaaDoorDateWeek
namespace Go.Proofs.YtibomkcbopkpkaaDoor
open Go.ChangeShapes Go.WideShapes Go.ChangeAt Go.RowKit Go.Sort
open num
theorem dfield_date (c y m d h i s : Int) (w : World) : (Instr.field 52 (.agg #[.int .i64 c, .int .i64 y, .int .i64 m, .int .i64 d, .int .i64 h, .int .i64 i, .int .i64 s]) 1).run Tryd.prog w = .ok (.agg #[.int .i64 y, .int .i64 m, .int .i64 d, .int .i64 h, .int .i64 i, .int .i64 s]) w := by kernel_rfl
/-- The room for a text. -/
structure TRoom (w : World) (b : Nat) (c : Int) (t : ByteArray) : Prop where
  c0 : w.cell? ⟨b, 0, none⟩ = some (.int .i64 c)
  c1 : w.cell? ⟨b, 1, none⟩ = some (.string t)
  f0 : w.frozen? ⟨b, 0, none⟩ = false
  f1 : w.frozen? ⟨b, 1, none⟩ = false
theorem TRoom.keep {w w' : World} {b : Nat} {c : Int} {t : ByteArray} (h : TRoom w b c t) (hb : Below w.heap.size w w') : TRoom w' b c t :=
  ⟨by rw [hb.cell (p := ⟨b, 0, none⟩) (block_lt_of_cell h.c0), h.c0], by rw [hb.cell (p := ⟨b, 1, none⟩) (block_lt_of_cell h.c1), h.c1], by rw [hb.frozen (p := ⟨b, 0, none⟩) (block_lt_of_cell h.c0), h.f0], by rw [hb.frozen (p := ⟨b, 1, none⟩) (block_lt_of_cell h.c1), h.f1]⟩
theorem troom_new (w : World) (c : Int) (s : ByteArray) (t : TypeId) : TRoom (w.alloc (.cells #[.int .i64 c, .string s] t)) w.heap.size c s := ⟨by simp, by simp, by simp, by simp⟩
theorem known_true {n : Int} (h0 : 0 ≤ n) (h1 : n ≤ 253402300799) (w : World) : Calls Tryd.prog 88 #[.int .i64 n] w fun e w' => e = .returned (.bool true) ∧ w' = w := by
  have := implKnown_any n w
  rw [knownB_of h0 h1] at this
  exact this
theorem week_known {n : Int} (h0 : 0 ≤ n) (h1 : n ≤ 253402300799) (w : World) : Calls Tryd.prog 49 #[.int .i64 n] w fun e w' => e = .returned (.agg #[.int .i64 0, .int .i64 ((n / 86400 + 4) % 7)]) ∧ Below w.heap.size w w' := by
  have := implWeek_any n w
  rw [kC_yes (knownB_of h0 h1), wdV_yes (knownB_of h0 h1)] at this
  exact this
theorem text_glue (x y m d h i s : Int) : wdT x ++ ⟨#[44, 32]⟩ ++ two d ++ ⟨#[32]⟩ ++ moT m ++ ⟨#[32]⟩ ++ (two (y / 100) ++ two y) ++ ⟨#[32]⟩ ++ clockT h i s ++ ⟨#[32, 71, 77, 84]⟩ = dateText x y m d h i s := by
  unfold dateText clockT
  simp only [ByteArray.append_assoc]
set_option maxRecDepth 100000 in
set_option maxHeartbeats 8000000 in
theorem implFormat_any (n : Int) (w : World) (h0 : 0 ≤ n) (h1 : n ≤ 253402300799) (hp : PowIs w) :
    Calls Tryd.prog 48 #[.int .i64 n] w fun e w' => e = .returned (.agg #[.int .i64 0, .string (fmtT n)]) ∧ Below w.heap.size w w' := by
  have HK := fun w => known_true h0 h1 w
  have HAT := fun w => implAt_any n w h0 h1
  have HW := fun w => week_known h0 h1 w
  have hk := date_ok h0 h1
  obtain ⟨⟨hy0, hy1, hm0, hm1, hd0, hd1⟩, hh0, hh1, hi0, hi1, hs0, hs1⟩ := hk
  have hd2 := (mlen_bd (dY n) (dM n)).2
  have HF : Hid (dateText ((n / 86400 + 4) % 7) (dY n) (dM n) (dD n) (dH n) (dI n) (dS n) = fmtT n) := rfl
  obtain ⟨x, hx, hx0, hx1⟩ : ∃ x : Int, (n / 86400 + 4) % 7 = x ∧ 0 ≤ x ∧ x < 7 := ⟨_, rfl, by omega, by omega⟩
  rw [hx] at HF HW
  have hd3 : dD n ≤ 31 := by omega
  clear hd1 hd2 hx
  generalize dY n = y at *
  generalize dM n = m at *
  generalize dD n = d at *
  generalize dH n = h at *
  generalize dI n = i at *
  generalize dS n = s at *
  generalize fmtT n = R at *
  have HE : Hid (wdT x ++ ⟨#[44, 32]⟩ ++ two d ++ ⟨#[32]⟩ ++ moT m ++ ⟨#[32]⟩ ++ (two (y / 100) ++ two y) ++ ⟨#[32]⟩ ++ clockT h i s ++ ⟨#[32, 71, 77, 84]⟩ = R) := by
    show _ = _
    rw [text_glue, HF.out]
  clear HF
  have HK2 : Hid (∀ w, Calls Tryd.prog 88 #[.int .i64 n] w fun e w' => e = .returned (.bool true) ∧ w' = w) := HK
  have HAT2 : Hid (∀ w, Calls Tryd.prog 41 #[.int .i64 n] w fun e w' => e = .returned (.agg #[.int .i64 0, .int .i64 y, .int .i64 m, .int .i64 d, .int .i64 h, .int .i64 i, .int .i64 s]) ∧ Below w.heap.size w w') := HAT
  have HW2 : Hid (∀ w, Calls Tryd.prog 49 #[.int .i64 n] w fun e w' => e = .returned (.agg #[.int .i64 0, .int .i64 x]) ∧ Below w.heap.size w w') := HW
  have HND : Hid (∀ w, Calls Tryd.prog 101 #[.string dayNames, .int .i64 x] w fun e w' => e = .returned (.string (wdT x)) ∧ w' = w) := nameAt_day x hx0 hx1
  have HNM : Hid (∀ w, Calls Tryd.prog 101 #[.string monNames, .int .i64 (m - 1)] w fun e w' => e = .returned (.string (moT m)) ∧ w' = w) := by
    have := nameAt_mon (m - 1) (by omega) (by omega)
    rw [show m - 1 + 1 = m by omega] at this
    exact this
  have HY : Hid (∀ w, PowIs w → Calls Tryd.prog 67 #[.int .i64 y, .int .i64 10] w fun e w' => e = .returned (.string (two (y / 100) ++ two y)) ∧ Below w.heap.size w w') := by
    intro w hp
    have := format_lib y (by omega) (by omega) w hp
    rw [show numT y = two (y / 100) ++ two y from num_year (by omega) (by omega)] at this
    exact this
  have HTW : Hid (∀ w, PowIs w → Calls Tryd.prog 102 #[.int .i64 d] w fun e w' => e = .returned (.string (two d)) ∧ Below w.heap.size w w') := fun w hp => twoDigits_any d (by omega) (by omega) w hp
  have HCL : Hid (∀ w, PowIs w → Calls Tryd.prog 103 #[.agg #[.int .i64 y, .int .i64 m, .int .i64 d, .int .i64 h, .int .i64 i, .int .i64 s]] w fun e w' => e = .returned (.string (clockT h i s)) ∧ Below w.heap.size w w') := fun w hp => clockText_any y m d h i s (by omega) (by omega) (by omega) (by omega) (by omega) (by omega) w hp
  clear HK HAT HW
  have zx := wdT_size hx0 hx1
  have zm := moT_size hm0 hm1
  have zd := two_size d
  have zy : (two (y / 100) ++ two y).size = 4 := by rw [ByteArray.size_append, two_size, two_size]
  have zc := clockT_size h i s
  generalize wdT x = tx at *
  generalize moT m = tm at *
  generalize two d = td at *
  generalize two (y / 100) ++ two y = ty at *
  generalize clockT h i s = tc at *
  have k1 : (⟨#[44, 32]⟩ : ByteArray).size = 2 := rfl
  have k2 : (⟨#[32]⟩ : ByteArray).size = 1 := rfl
  have k3 : (⟨#[32, 71, 77, 84]⟩ : ByteArray).size = 4 := rfl
  obtain ⟨c1, E1, z1, r1⟩ := add_step tx ⟨#[44, 32]⟩ (by omega)
  obtain ⟨c2, E2, z2, r2⟩ := add_step c1 td (by omega)
  obtain ⟨c3, E3, z3, r3⟩ := add_step c2 ⟨#[32]⟩ (by omega)
  obtain ⟨c4, E4, z4, r4⟩ := add_step c3 tm (by omega)
  obtain ⟨c5, E5, z5, r5⟩ := add_step c4 ⟨#[32]⟩ (by omega)
  obtain ⟨c6, E6, z6, r6⟩ := add_step c5 ty (by omega)
  obtain ⟨c7, E7, z7, r7⟩ := add_step c6 ⟨#[32]⟩ (by omega)
  obtain ⟨c8, E8, z8, r8⟩ := add_step c7 tc (by omega)
  obtain ⟨c9, E9, z9, r9⟩ := add_step c8 ⟨#[32, 71, 77, 84]⟩ (by omega)
  have HR : Hid (c9 = R) := by
    show _ = _
    rw [← HE.out, E9.out, E8.out, E7.out, E6.out, E5.out, E4.out, E3.out, E2.out, E1.out]
  clear z1 z2 z3 z4 z5 z6 z7 z8 z9 zx zm zd zy zc k1 k2 k3 HE E1 E2 E3 E4 E5 E6 E7 E8 E9
  have HP : Hid (PowIs w) := hp
  clear hp
  have hfd := dfield_date
  have hfv := ifield_val
  unfold dayNames at HND
  unfold monNames at HNM
  go_enter Tryd.func48, Tryd.ntmps48
  go_wp2_with fail
  refine (HK2.out _).mono ?_
  rintro e w0 ⟨rfl, rfl⟩
  go_wp2_with fail
  refine (HAT2.out _).mono ?_
  rintro e w1 ⟨rfl, hb1⟩
  have K1 : Hid (Below w.heap.size w w1 ∧ TRoom w1 w.heap.size 0 ⟨#[]⟩) := ⟨((Below.refl _ _).alloc (Nat.le_refl _) _).trans (hb1.mono (by simp)), (troom_new w 0 ⟨#[]⟩ 26).keep hb1⟩
  clear hb1
  go_wp2_with fail
  refine (HW2.out _).mono ?_
  rintro e w2 ⟨rfl, hb2⟩
  have K2 : Hid (Below w.heap.size w w2 ∧ TRoom w2 w.heap.size 0 ⟨#[]⟩ ∧ DateAtB w2 w1.heap.size y m d h i s) := ⟨(K1.out.1.alloc K1.out.1.size _).trans (hb2.mono (by have := K1.out.1.size; simp; omega)), (K1.out.2.keep ((Below.refl _ _).alloc (Nat.le_refl _) _)).keep hb2, (dateAtB_new w1 y m d h i s 48).keep hb2⟩
  have hwl : w.heap.size < w1.heap.size := block_lt_of_cell K1.out.2.c0
  clear hb2 K1
  generalize w1.heap.size = B at *
  clear w1
  go_wp2_with fail
  refine (HND.out _).mono ?_
  rintro e w3 ⟨rfl, rfl⟩
  obtain ⟨c0, cc1, cc2, cc3, cc4, cc5, fr⟩ := K2.out.2.2
  go_wp2_with fail
  refine (HNM.out _).mono ?_
  rintro e w4 ⟨rfl, rfl⟩
  go_wp2_with fail
  refine (HY.out _ (HP.out.below K2.out.1)).mono ?_
  rintro e w5 ⟨rfl, hb5⟩
  have K5 : Hid (Below w.heap.size w w5 ∧ TRoom w5 w.heap.size 0 ⟨#[]⟩ ∧ DateAtB w5 B y m d h i s) := ⟨K2.out.1.trans (hb5.mono K2.out.1.size), K2.out.2.1.keep hb5, K2.out.2.2.keep hb5⟩
  clear hb5 K2 c0 cc1 cc2 cc3 cc4 cc5 fr HK2 HAT2 HW2 HND HNM HY hfd hfv
  obtain ⟨c0, cc1, cc2, cc3, cc4, cc5, fr⟩ := K5.out.2.2
  obtain ⟨t0, t1, u0, u1⟩ := K5.out.2.1
  have hs5 := K5.out.1.size
  have PW : Hid (∀ W, Below w5.heap.size w5 W → PowIs W) := fun W hb => HP.out.below (K5.out.1.trans (hb.mono K5.out.1.size))
  go_wp2_with fail
  go_region_with (first
    | (go_at_call 102; refine (HTW.out _ (PW.out _ ((Below.refl w5.heap.size w5).drew))).mono ?_; rintro e wa ⟨rfl, hba⟩; have BA : Hid (Below w5.heap.size w5 wa) := ((Below.refl w5.heap.size w5).drew).trans hba; clear hba; obtain ⟨a0, a1, a2, a3, a4, a5, af⟩ := K5.out.2.2.keep BA.out; clear af)
    | (go_at_call 103; refine (HCL.out _ (PW.out _ BA.out)).mono ?_; rintro e wb ⟨rfl, hbb⟩; have BB : Hid (Below w5.heap.size w5 wb) := BA.out.trans (hbb.mono BA.out.size); clear hbb; obtain ⟨e0, e1, f0, f1⟩ := K5.out.2.1.keep BB.out))
  all_goals
    (go_wp2_with fail
     obtain ⟨z0, z1⟩ := two_set (v0 := .int .i64 0) (v1 := .string c9) e0 e1
     exact bodyPost_ret (v := .agg #[.int .i64 0, .string c9]) (by simp [results, Tryd.results48, go_sem, z0, z1]) rfl ⟨by rw [HR.out], ((K5.out.1.trans (BB.out.mono K5.out.1.size)).setCell (Nat.le_refl _) _).setCell (Nat.le_refl _) _⟩)
end Go.Proofs.YtibomkcbopkpkaaDoor
