/-
  The law of head lines, out of contracts.
-/
import Derived.Test.YthlenlijdlfdeaaDoorFnHeadsKit
import Derived.Deep.CutRange
import Derived.Deep.RegionHeld3
import Derived.BigQuiet
import Derived.Lib.QuietBelow
namespace Go.Proofs.YthlenlijdlfdeaaDoor
open Go.ChangeShapes Go.WideShapes Go.ChangeAt Go.RowKit Go.Sort
namespace heads
set_option maxRecDepth 100000 in
set_option maxHeartbeats 16000000 in
theorem fnHeads_walk (w : World) (a : Option Addr) (len cap : Nat) (hc : CodeRow w w.heap.size a len) (hset : SetIs w) (hmax : MaxIs w) :
    Calls Tryd.prog 3 #[.slice a len cap] w fun e w' => e = .returned (.bool true) ∧ Below w.heap.size w w' := by
  have HC : Hid (∀ W, Below w.heap.size w W → CodeRow W W.heap.size a len) := fun W hb => (hc.below hb).mono hb.size
  have HSET : Hid (∀ W, Below w.heap.size w W → SetIs W) := fun W hb => hset.below hb
  have HMAX : Hid (∀ W, Below w.heap.size w W → MaxIs W) := fun W hb => hmax.below hb
  clear hc hset hmax
  by_cases hbig : (1048576 : Int) < len
  · go_enter Tryd.func3, Tryd.ntmps3
    go_wp2
    go_ret
    exact ⟨rfl, Below.refl _ _⟩
  have hl2 : len ≤ 1048576 := by omega
  go_enter Tryd.func3, Tryd.ntmps3
  go_wp2_with (go_at_call 10; go_in)
  refine (drawSetHeader_any w a len cap (HC.out _ (Below.refl _ _)) hl2).mono ?_
  rintro e w1 ⟨⟨la, lc, L, name, value, rfl, ho1, hL, _, hnz, hvz⟩, hb1⟩
  generalize hn1 : L.length = ln at *
  have O1 : Hid (OwnH w1 0 (.slice la ln lc) L) := ho1.lower (Nat.zero_le _)
  have B1 : Hid (Below w.heap.size w w1) := hb1
  have hLL : L.length ≤ 1048576 := by omega
  clear ho1 hb1 hn1
  have HP1 := iPack w1 la ln lc L O1.out hLL (HSET.out _ B1.out)
  obtain ⟨pc, hpc⟩ : ∃ c, Hid (headsC L = c) := ⟨_, rfl⟩
  obtain ⟨pt, hpt⟩ : ∃ t, Hid (packT L = t) := ⟨_, rfl⟩
  rw [hpc.out, hpt.out] at HP1
  go_wp2_with fail
  refine HP1.mono ?_
  rintro e w2 ⟨rfl, hb2⟩
  have B2 : Hid (Below w.heap.size w w2) := B1.out.trans (hb2.mono B1.out.size)
  have O2 : Hid (OwnH w2 0 (.slice la ln lc) L) := O1.out.below hb2
  clear hb2 B1 O1 HP1
  clear w1
  have al2 : Below w2.heap.size w2 (w2.alloc (.cells #[.int .i64 pc, .string pt] 28)) := (Below.refl _ _).alloc (Nat.le_refl _) _
  obtain ⟨v2, hv2⟩ : ∃ X, X = w2.alloc (.cells #[.int .i64 pc, .string pt] 28) := ⟨_, rfl⟩
  have BV2 : Hid (Below w.heap.size w v2) := by rw [hv2]; exact B2.out.trans (al2.mono B2.out.size)
  have OV2 : Hid (OwnH v2 0 (.slice la ln lc) L) := by rw [hv2]; exact O2.out.below al2
  have TV2 : Hid (TR v2 w2.heap.size pc pt) := by rw [hv2]; exact tr_new w2 pc pt _
  have HV2 : Hid (v2 = w2.alloc (.cells #[.int .i64 pc, .string pt] 28)) := hv2
  have HP2 := iSet v2 la ln lc L name value OV2.out hLL hnz hvz (HSET.out _ BV2.out)
  obtain ⟨sc, hsc⟩ : ∃ c, Hid (setC L ⟨name, value⟩ = c) := ⟨_, rfl⟩
  rw [hsc.out] at HP2
  clear al2 hv2 B2 O2
  go_wp2_with fail
  rw [← HV2.out]
  clear HV2
  refine HP2.mono ?_
  rintro e w3 ⟨⟨sa, sn, sk, rfl, ho3⟩, hb3⟩
  generalize w2.heap.size = Lp at *
  clear w2
  have B3 : Hid (Below w.heap.size w w3) := BV2.out.trans (hb3.mono BV2.out.size)
  have O3 : Hid (OwnH w3 0 (.slice la ln lc) L) := OV2.out.below hb3
  have T3 : Hid (TR w3 Lp pc pt) := TV2.out.keep hb3
  have S3 : Hid (OwnH w3 0 (.slice sa sn sk) (setL L ⟨name, value⟩)) := ho3
  clear hb3 ho3 BV2 OV2 TV2 HP2
  clear v2
  have al3 : Below w3.heap.size w3 (w3.alloc (.cells #[.int .i64 sc, .slice sa sn sk] 31)) := (Below.refl _ _).alloc (Nat.le_refl _) _
  obtain ⟨v3, hv3⟩ : ∃ X, X = w3.alloc (.cells #[.int .i64 sc, .slice sa sn sk] 31) := ⟨_, rfl⟩
  have BV3 : Hid (Below w.heap.size w v3) := by rw [hv3]; exact B3.out.trans (al3.mono B3.out.size)
  have OV3 : Hid (OwnH v3 0 (.slice la ln lc) L) := by rw [hv3]; exact O3.out.below al3
  have TV3 : Hid (TR v3 Lp pc pt) := by rw [hv3]; exact T3.out.keep al3
  have SV3 : Hid (OwnH v3 0 (.slice sa sn sk) (setL L ⟨name, value⟩)) := by rw [hv3]; exact S3.out.below al3
  have PV3 : Hid (PR v3 w3.heap.size sc (.slice sa sn sk)) := by rw [hv3]; exact pr_new w3 sc sa sn sk _
  have HV3 : Hid (v3 = w3.alloc (.cells #[.int .i64 sc, .slice sa sn sk] 31)) := hv3
  have HP3 := iDrop v3 la ln lc L name OV3.out hLL (HSET.out _ BV3.out)
  obtain ⟨dc, hdc⟩ : ∃ c, Hid (askC L name = c) := ⟨_, rfl⟩
  rw [hdc.out] at HP3
  clear al3 hv3 B3 O3 T3 S3
  go_wp2_with fail
  rw [← HV3.out]
  clear HV3
  refine HP3.mono ?_
  rintro e w4 ⟨⟨da, dn, dk, rfl, ho4⟩, hb4⟩
  generalize w3.heap.size = Ls at *
  clear w3
  have B4 : Hid (Below w.heap.size w w4) := BV3.out.trans (hb4.mono BV3.out.size)
  have O4 : Hid (OwnH w4 0 (.slice la ln lc) L) := OV3.out.below hb4
  have T4 : Hid (TR w4 Lp pc pt) := TV3.out.keep hb4
  have S4 : Hid (OwnH w4 0 (.slice sa sn sk) (setL L ⟨name, value⟩)) := SV3.out.below hb4
  have P4 : Hid (PR w4 Ls sc (.slice sa sn sk)) := PV3.out.keep hb4
  have D4 : Hid (OwnH w4 0 (.slice da dn dk) (dropL L name)) := ho4
  clear hb4 ho4 BV3 OV3 TV3 SV3 PV3 HP3
  clear v3
  have al4 : Below w4.heap.size w4 (w4.alloc (.cells #[.int .i64 dc, .slice da dn dk] 31)) := (Below.refl _ _).alloc (Nat.le_refl _) _
  obtain ⟨v4, hv4⟩ : ∃ X, X = w4.alloc (.cells #[.int .i64 dc, .slice da dn dk] 31) := ⟨_, rfl⟩
  have BV4 : Hid (Below w.heap.size w v4) := by rw [hv4]; exact B4.out.trans (al4.mono B4.out.size)
  have OV4 : Hid (OwnH v4 0 (.slice la ln lc) L) := by rw [hv4]; exact O4.out.below al4
  have TV4 : Hid (TR v4 Lp pc pt) := by rw [hv4]; exact T4.out.keep al4
  have SV4 : Hid (OwnH v4 0 (.slice sa sn sk) (setL L ⟨name, value⟩)) := by rw [hv4]; exact S4.out.below al4
  have PV4 : Hid (PR v4 Ls sc (.slice sa sn sk)) := by rw [hv4]; exact P4.out.keep al4
  have DV4 : Hid (OwnH v4 0 (.slice da dn dk) (dropL L name)) := by rw [hv4]; exact D4.out.below al4
  have QV4 : Hid (PR v4 w4.heap.size dc (.slice da dn dk)) := by rw [hv4]; exact pr_new w4 dc da dn dk _
  have HV4 : Hid (v4 = w4.alloc (.cells #[.int .i64 dc, .slice da dn dk] 31)) := hv4
  have HP4 := drawReadHeaders_any v4 a len cap (HC.out _ BV4.out) hl2
  clear al4 hv4 B4 O4 T4 S4 P4 D4 HC
  go_wp2_with fail
  rw [← HV4.out]
  clear HV4
  refine HP4.mono ?_
  rintro e w5 ⟨⟨s, rfl⟩, hb5⟩
  generalize w4.heap.size = Ld at *
  clear w4
  have B5 : Hid (Below w.heap.size w w5) := BV4.out.trans (hb5.mono BV4.out.size)
  have O5 : Hid (OwnH w5 0 (.slice la ln lc) L) := OV4.out.below hb5
  have T5 : Hid (TR w5 Lp pc pt) := TV4.out.keep hb5
  have S5 : Hid (OwnH w5 0 (.slice sa sn sk) (setL L ⟨name, value⟩)) := SV4.out.below hb5
  have P5 : Hid (PR w5 Ls sc (.slice sa sn sk)) := PV4.out.keep hb5
  have D5 : Hid (OwnH w5 0 (.slice da dn dk) (dropL L name)) := DV4.out.below hb5
  have Q5 : Hid (PR w5 Ld dc (.slice da dn dk)) := QV4.out.keep hb5
  clear hb5 BV4 OV4 TV4 SV4 PV4 DV4 QV4 HP4
  clear v4
  have HP5 := iRead w5 s (HSET.out _ B5.out) (HMAX.out _ B5.out)
  obtain ⟨rc, hrc⟩ : ∃ c, Hid (readHC s = c) := ⟨_, rfl⟩
  rw [hrc.out] at HP5
  go_wp2_with fail
  refine HP5.mono ?_
  rintro e w6 ⟨⟨ra, rn, rk, rfl, ho6⟩, hb6⟩
  obtain ⟨W, hW⟩ : ∃ X, X = w6.alloc (.cells #[.int .i64 rc, .slice ra rn rk] 31) := ⟨_, rfl⟩
  have K : Hid (FH w la ln lc L sa sn sk (setL L ⟨name, value⟩) da dn dk (dropL L name) ra rn rk (readHL s) Lp Ls Ld w6.heap.size pc sc dc rc pt W) := by
    have al : Below w6.heap.size w6 W := by subst hW; exact (Below.refl _ _).alloc (Nat.le_refl _) _
    have b6 := B5.out.trans (hb6.mono B5.out.size)
    refine ⟨b6.trans (al.mono b6.size), (O5.out.below hb6).below al, (S5.out.below hb6).below al, (D5.out.below hb6).below al, ho6.below al, (T5.out.keep hb6).keep al, (P5.out.keep hb6).keep al, (Q5.out.keep hb6).keep al, ?_⟩
    subst hW
    exact pr_new w6 rc ra rn rk _
  have HWW : Hid (W = w6.alloc (.cells #[.int .i64 rc, .slice ra rn rk] 31)) := hW
  clear hW hb6 ho6 B5 O5 T5 S5 P5 D5 Q5 HP5
  go_wp2_with fail
  rw [← HWW.out]
  clear HWW
  generalize w6.heap.size = Lr at *
  clear w6 w5
  have HK : Hid (∀ X, Below W.heap.size W X → FH w la ln lc L sa sn sk (setL L ⟨name, value⟩) da dn dk (dropL L name) ra rn rk (readHL s) Lp Ls Ld Lr pc sc dc rc pt X) := fun X hb => K.out.keep hb
  have HSL : Hid ((setL L ⟨name, value⟩).length ≤ 1048576) := Nat.le_trans (setL_len L ⟨name, value⟩) (by omega)
  have HDL : Hid ((dropL L name).length ≤ 1048576) := Nat.le_trans (dropL_le L name) hLL
  have HRL : Hid ((readHL s).length ≤ 1048576) := Nat.le_trans (readHL_len s) (by omega)
  clear K
  go_cut [71] from 33 to 71 (fun s71 wx => s71 = .bool false ∧ Below W.heap.size W wx)
  case first =>
    have HKS : Hid (∀ X, Below W.heap.size W X → X.cell? ⟨Lp, 0, none⟩ = some (.int .i64 pc) ∧ X.cell? ⟨Ls, 0, none⟩ = some (.int .i64 sc) ∧ X.cell? ⟨Ld, 0, none⟩ = some (.int .i64 dc) ∧ X.cell? ⟨Lr, 0, none⟩ = some (.int .i64 rc)) := fun X hb => ⟨(HK.out X hb).p.c0, (HK.out X hb).s.c0, (HK.out X hb).d.c0, (HK.out X hb).r.c0⟩
    have B0 : Hid (Below W.heap.size W W.drew) := (Below.refl _ _).drew
    have hf1 := pfield_code
    go_region_held3 (fun X => X.cell? ⟨Lp, 0, none⟩ = some (.int .i64 pc) ∧ X.cell? ⟨Ls, 0, none⟩ = some (.int .i64 sc) ∧ X.cell? ⟨Ld, 0, none⟩ = some (.int .i64 dc) ∧ X.cell? ⟨Lr, 0, none⟩ = some (.int .i64 rc))
      (first | exact HKS.out _ BE.out | exact HKS.out _ BD.out | exact HKS.out _ BC.out | exact HKS.out _ BB.out | exact HKS.out _ BA.out | exact HKS.out _ B0.out)
      (first
      | (go_at_call 17; refine (sFault _ la ln lc L (HK.out _ B0.out).ol hLL).mono ?_; rintro e wa ⟨rfl, hba⟩; rw [hpc.out]; have BA : Hid (Below W.heap.size W wa) := B0.out.trans (hba.mono B0.out.size); clear hba)
      | (go_at_call 18; refine (iFault _ la ln lc L (HK.out _ BA.out).ol hLL (HSET.out _ (HK.out _ BA.out).b)).mono ?_; rintro e wb ⟨rfl, hbb⟩; rw [hpc.out]; have BB : Hid (Below W.heap.size W wb) := BA.out.trans (hbb.mono BA.out.size); clear hbb)
      | (go_at_call 19; refine (sSet _ la ln lc L name value (HK.out _ BB.out).ol hLL).mono ?_; rintro e wd ⟨⟨xa, xn, xk, rfl, _⟩, hbd⟩; rw [hsc.out]; have BC : Hid (Below W.heap.size W wd) := BB.out.trans (hbd.mono BB.out.size); clear hbd)
      | (go_at_call 20; refine (sDrop _ la ln lc L name (HK.out _ BC.out).ol hLL).mono ?_; rintro e we ⟨⟨ya, yn, yk, rfl, _⟩, hbe⟩; rw [hdc.out]; have BD : Hid (Below W.heap.size W we) := BC.out.trans (hbe.mono BC.out.size); clear hbe)
      | (go_at_call 21; refine (sRead _ s).mono ?_; rintro e wf ⟨⟨za, zn, zk, rfl, _⟩, hbf⟩; rw [hrc.out]; have BE : Hid (Below W.heap.size W wf) := BD.out.trans (hbf.mono BD.out.size); clear hbf))
    all_goals (go_wp2_with fail; go_meet; exact ⟨rfl, BE.out⟩)
  case rest =>
  obtain ⟨rfl, hbx⟩ := hcut
  have X1 : Hid (Below W.heap.size W wc) := hbx
  clear hbx
  go_wp2_with fail
  generalize wc = w1 at *
  go_cut [92] from 72 to 92 (fun s92 wx => s92 = .bool false ∧ Below W.heap.size W wx)
  case first =>
    have HKS : Hid (∀ X, Below W.heap.size W X → X.cell? ⟨Lr, 0, none⟩ = some (.int .i64 rc) ∧ X.cell? ⟨Lr, 1, none⟩ = some (.slice ra rn rk)) := fun X hb => ⟨(HK.out X hb).r.c0, (HK.out X hb).r.c1⟩
    have B0 : Hid (Below W.heap.size W w1.drew) := X1.out.trans ((Below.refl _ _).drew)
    by_cases h0 : rc = 0
    · subst h0
      have HZ : Hid (headsC (readHL s) = 0) := read_heads hrc.out
      obtain ⟨q, hq⟩ : ∃ t, Hid (packT (readHL s) = t) := ⟨_, rfl⟩
      have HPR : Hid (readHC q = 0 ∧ readHL q = readHL s) := by
        have := pack_read HZ.out
        rw [hq.out] at this
        exact this
      have hf1 := tfield_text
      have hf2 := pfield_items
      go_region_held3 (fun X => X.cell? ⟨Lr, 0, none⟩ = some (.int .i64 0) ∧ X.cell? ⟨Lr, 1, none⟩ = some (.slice ra rn rk))
        (first | exact HKS.out _ BD.out | exact HKS.out _ BC.out | exact HKS.out _ BB.out | exact HKS.out _ BA.out | exact HKS.out _ B0.out)
        (first
        | (go_at_call 18; refine (iFault _ ra rn rk (readHL s) (HK.out _ B0.out).or HRL.out (HSET.out _ (HK.out _ B0.out).b)).mono ?_; rintro e wa ⟨rfl, hba⟩; rw [HZ.out]; have BA : Hid (Below W.heap.size W wa) := B0.out.trans (hba.mono B0.out.size); clear hba)
        | (go_at_call 12; refine (iPack _ ra rn rk (readHL s) (HK.out _ BA.out).or HRL.out (HSET.out _ (HK.out _ BA.out).b)).mono ?_; rintro e wb ⟨rfl, hbb⟩; rw [HZ.out, hq.out]; have BB : Hid (Below W.heap.size W wb) := BA.out.trans (hbb.mono BA.out.size); clear hbb)
        | (go_at_call 16; refine (iRead _ q (HSET.out _ (HK.out _ BB.out).b) (HMAX.out _ (HK.out _ BB.out).b)).mono ?_; rintro e wd ⟨⟨xa, xn, xk, rfl, hox⟩, hbd⟩; rw [HPR.out.1]; rw [HPR.out.2] at hox; have OX : Hid (OwnH wd 0 (.slice xa xn xk) (readHL s)) := hox; have BC : Hid (Below W.heap.size W wd) := BB.out.trans (hbd.mono BB.out.size); clear hbd hox)
        | (go_at_call 22; refine (iSame _ xa xn xk (readHL s) ra rn rk OX.out (HK.out _ BC.out).or HRL.out).mono ?_; rintro e we ⟨rfl, hbe⟩; have BD : Hid (Below W.heap.size W we) := BC.out.trans (hbe.mono BC.out.size); clear hbe))
      all_goals (go_wp2_with fail; go_meet; exact ⟨rfl, BD.out⟩)
    · have hn0 : (rc == 0) = false := by simpa using h0
      have r0 := cell_regrown (HKS.out _ X1.out).1
      have hn1 : decide (rc = 0) = false := by simpa using h0
      refine wp_region_quiet_below (by kernel_rfl) (by kernel_rfl) ?_
      repeat (go_big_quiet_step (first | fail))
      refine wpQuiet_nil ?_
      intro W3 hW3
      have hbW : Below w1.heap.size w1 W3 := by
        obtain ⟨⟨d', os⟩, rfl⟩ := hW3
        exact below_regrown w1 d' os
      have BW : Hid (Below W.heap.size W W3) := X1.out.trans (hbW.mono X1.out.size)
      clear hW3 hbW r0
      go_wp2_with fail
      go_meet
      exact ⟨rfl, BW.out⟩
  case rest =>
  obtain ⟨rfl, hbx⟩ := hcut
  have X2 : Hid (Below W.heap.size W wc) := hbx
  clear hbx X1
  clear w1
  go_upto_region 13 with fail
  generalize wc = w2 at *
  go_cut [111] from 93 to 111 (fun s111 wx => s111 = .bool false ∧ Below W.heap.size W wx)
  case first =>
    have HKS : Hid (∀ X, Below W.heap.size W X → X.cell? ⟨Lp, 0, none⟩ = some (.int .i64 pc) ∧ X.cell? ⟨Lp, 1, none⟩ = some (.string pt)) := fun X hb => ⟨(HK.out X hb).p.c0, (HK.out X hb).p.c1⟩
    obtain ⟨p0, p1⟩ := HKS.out _ X2.out
    by_cases h0 : pc = 0
    · subst h0
      have HPR : Hid (readHC pt = 0 ∧ readHL pt = L) := by
        have := pack_read hpc.out
        rw [hpt.out] at this
        exact this
      have hf1 := pfield_code
      have hf2 := pfield_items
      go_wp2_with fail
      refine (iRead _ pt (HSET.out _ (HK.out _ X2.out).b) (HMAX.out _ (HK.out _ X2.out).b)).mono ?_
      rintro e wa ⟨⟨xa, xn, xk, rfl, _⟩, hba⟩
      rw [HPR.out.1]
      have BA : Hid (Below W.heap.size W wa) := X2.out.trans (hba.mono X2.out.size)
      clear hba p0 p1
      obtain ⟨p0, p1⟩ := HKS.out _ BA.out
      go_wp2_with fail
      refine (iRead _ pt (HSET.out _ (HK.out _ BA.out).b) (HMAX.out _ (HK.out _ BA.out).b)).mono ?_
      rintro e wb ⟨⟨ya, yn, yk, rfl, hoy⟩, hbb⟩
      rw [HPR.out.1]
      rw [HPR.out.2] at hoy
      have OY : Hid (OwnH wb 0 (.slice ya yn yk) L) := hoy
      have BB : Hid (Below W.heap.size W wb) := BA.out.trans (hbb.mono BA.out.size)
      clear hbb hoy p0 p1
      go_wp2_with fail
      refine (iSame _ ya yn yk L la ln lc OY.out (HK.out _ BB.out).ol hLL).mono ?_
      rintro e wd ⟨rfl, hbd⟩
      have BC : Hid (Below W.heap.size W wd) := BB.out.trans (hbd.mono BB.out.size)
      clear hbd
      go_wp2_with fail
      go_meet
      exact ⟨rfl, BC.out⟩
    · have hn0 : (pc == 0) = false := by simpa using h0
      go_wp2_with fail
      go_meet
      exact ⟨rfl, X2.out⟩
  case rest =>
  obtain ⟨rfl, hbx⟩ := hcut
  have X3 : Hid (Below W.heap.size W wc) := hbx
  clear hbx X2
  clear w2
  go_upto_region 15 with fail
  generalize wc = w3 at *
  go_cut [122] from 112 to 122 (fun s122 wx => s122 = .bool false ∧ Below W.heap.size W wx)
  case first =>
    have d0 := (HK.out _ X3.out).d.c0
    have d1 := (HK.out _ X3.out).d.c1
    by_cases h0 : dc = 0
    · subst h0
      have HJ := iJoin w3 da dn dk (dropL L name) name (HK.out _ X3.out).od HDL.out (HSET.out _ (HK.out _ X3.out).b)
      rw [drop_join hdc.out] at HJ
      have hf1 := tfield_code
      generalize joinT (dropL L name) name = jt at *
      go_wp2_with fail
      refine HJ.mono ?_
      rintro e wa ⟨rfl, hba⟩
      have BA : Hid (Below W.heap.size W wa) := X3.out.trans (hba.mono X3.out.size)
      clear hba d0 d1
      go_wp2_with fail
      go_meet
      exact ⟨rfl, BA.out⟩
    · have hn0 : (dc == 0) = false := by simpa using h0
      go_wp2_with fail
      go_meet
      exact ⟨rfl, X3.out⟩
  case rest =>
  obtain ⟨rfl, hbx⟩ := hcut
  have X4 : Hid (Below W.heap.size W wc) := hbx
  clear hbx X3
  clear w3
  generalize wc = w4 at *
  have q0 := (HK.out _ X4.out).s.c0
  have q1 := (HK.out _ X4.out).s.c1
  by_cases h0 : sc = 0
  · subst h0
    have HJ := iJoin w4 sa sn sk (setL L ⟨name, value⟩) name (HK.out _ X4.out).os HSL.out (HSET.out _ (HK.out _ X4.out).b)
    rw [(set_join hsc.out).1, (set_join hsc.out).2] at HJ
    have HSD : Hid (askC (setL L ⟨name, value⟩) name = 0 ∧ dropL (setL L ⟨name, value⟩) name = dropL L name) := ⟨(set_dropL hsc.out).1, (set_dropL hsc.out).2.1⟩
    go_wp2_with fail
    refine HJ.mono ?_
    rintro e w5 ⟨rfl, hb5⟩
    have al5 : Below w5.heap.size w5 (w5.alloc (.cells #[.int .i64 0, .string value] 28)) := (Below.refl _ _).alloc (Nat.le_refl _) _
    obtain ⟨V, hV⟩ : ∃ X, X = w5.alloc (.cells #[.int .i64 0, .string value] 28) := ⟨_, rfl⟩
    have X5 : Hid (Below W.heap.size W V) := by
      rw [hV]
      have b5 := X4.out.trans (hb5.mono X4.out.size)
      exact b5.trans (al5.mono b5.size)
    have TV : Hid (TR V w5.heap.size 0 value) := by rw [hV]; exact tr_new w5 0 value _
    have HV : Hid (V = w5.alloc (.cells #[.int .i64 0, .string value] 28)) := hV
    clear al5 hV hb5 q0 q1 HJ X4
    go_wp2_with fail
    rw [← HV.out]
    clear HV
    generalize w5.heap.size = Lj at *
    clear w5 w4
    have HKS : Hid (∀ X, Below V.heap.size V X → X.cell? ⟨Lj, 0, none⟩ = some (.int .i64 0) ∧ X.cell? ⟨Lj, 1, none⟩ = some (.string value) ∧ X.cell? ⟨Ls, 1, none⟩ = some (.slice sa sn sk) ∧ X.cell? ⟨Ld, 1, none⟩ = some (.slice da dn dk)) := fun X hb => by
      have hb2 := X5.out.trans (hb.mono X5.out.size)
      exact ⟨(TV.out.keep hb).c0, (TV.out.keep hb).c1, (HK.out X hb2).s.c1, (HK.out X hb2).d.c1⟩
    have HKV : Hid (∀ X, Below V.heap.size V X → FH w la ln lc L sa sn sk (setL L ⟨name, value⟩) da dn dk (dropL L name) ra rn rk (readHL s) Lp Ls Ld Lr pc 0 dc rc pt X) := fun X hb => HK.out X (X5.out.trans (hb.mono X5.out.size))
    have B0 : Hid (Below V.heap.size V V.drew) := (Below.refl _ _).drew
    have hf1 := pfield_items
    go_region_held3 (fun X => X.cell? ⟨Lj, 0, none⟩ = some (.int .i64 0) ∧ X.cell? ⟨Lj, 1, none⟩ = some (.string value) ∧ X.cell? ⟨Ls, 1, none⟩ = some (.slice sa sn sk) ∧ X.cell? ⟨Ld, 1, none⟩ = some (.slice da dn dk))
      (first | exact HKS.out _ BD.out | exact HKS.out _ BC.out | exact HKS.out _ BB.out | exact HKS.out _ BA.out | exact HKS.out _ B0.out)
      (first
      | (go_at_call 24; refine (sSame _ ya yn yk (dropL L name) da dn dk OY.out (HKV.out _ BC.out).od HDL.out).mono ?_; rintro e we ⟨rfl, hbe⟩; have BD : Hid (Below V.heap.size V we) := BC.out.trans (hbe.mono BC.out.size); clear hbe)
      | (go_at_call 14; refine (iDrop _ sa sn sk (setL L ⟨name, value⟩) name (HKV.out _ BB.out).os HSL.out (HSET.out _ (HKV.out _ BB.out).b)).mono ?_; rintro e wd ⟨⟨ya, yn, yk, rfl, hoy⟩, hbd⟩; rw [HSD.out.1]; rw [HSD.out.2] at hoy; have OY : Hid (OwnH wd 0 (.slice ya yn yk) (dropL L name)) := hoy; have BC : Hid (Below V.heap.size V wd) := BB.out.trans (hbd.mono BB.out.size); clear hbd hoy)
      | (go_at_call 22; refine (iSame _ xa xn xk (dropL L name) da dn dk OX.out (HKV.out _ BA.out).od HDL.out).mono ?_; rintro e wb ⟨rfl, hbb⟩; have BB : Hid (Below V.heap.size V wb) := BA.out.trans (hbb.mono BA.out.size); clear hbb)
      | (go_at_call 14; refine (iDrop _ sa sn sk (setL L ⟨name, value⟩) name (HKV.out _ B0.out).os HSL.out (HSET.out _ (HKV.out _ B0.out).b)).mono ?_; rintro e wa ⟨⟨xa, xn, xk, rfl, hox⟩, hba⟩; rw [HSD.out.1]; rw [HSD.out.2] at hox; have OX : Hid (OwnH wa 0 (.slice xa xn xk) (dropL L name)) := hox; have BA : Hid (Below V.heap.size V wa) := B0.out.trans (hba.mono B0.out.size); clear hba hox))
    all_goals (go_wp2_with fail; go_ret; exact ⟨rfl, (HKV.out _ BD.out).b⟩)
  · have hn0 : (sc == 0) = false := by simpa using h0
    go_wp2_with fail
    go_ret
    exact ⟨rfl, (HK.out _ X4.out).b⟩
end heads
end Go.Proofs.YthlenlijdlfdeaaDoor
