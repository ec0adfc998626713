/-
  Texts of one claim, one behind the other.
-/
import Derived.BigQuiet
import Derived.ChangeArms
import Derived.Deep.RegionHeld3
import Derived.Deep.RegionWith
import Derived.Lib.QuietBelow
import Derived.Stop.LaidErr
import Derived.Test.YtojcjpdgjohldaaGreatDoorRpC
/-
  What responseIn answers.
-/
namespace Go.Proofs.YtojcjpdgjohldaaGreatDoor
open Go.ChangeShapes Go.WideShapes Go.ChangeAt Go.RowKit
theorem mcutC_yes (l : List UInt8) (w : World) (hm : MaxIs w) (hl : l.length ≤ 20000) (h : ccAt l < l.length) :
    Calls Tryz.prog 95 #[.string (hmk l), .string ⟨#[13, 10, 13, 10]⟩] w fun e w' => e = .returned (.tuple #[.string (hmk (l.take (ccAt l))), .string (hmk (bodyP l)), .bool true]) ∧ Below w.heap.size w w' := by
  obtain ⟨m, hm⟩ := hm
  have := Any.strings_Cut Tryz.laysM145.ton145 (hmk l) ⟨#[13, 10, 13, 10]⟩ m w (by rw [hmk_size]; omega) hm
  rw [hmk_list, show (⟨#[13, 10, 13, 10]⟩ : ByteArray).data.toList = ccL from rfl, cut_pat (by simp [ccL]) h] at this
  exact this.mono fun e w' ⟨h1, n, h2⟩ => ⟨h1, h2 ▸ below_drewN w n⟩
theorem mcutC_no (l : List UInt8) (w : World) (hm : MaxIs w) (hl : l.length ≤ 20000) (h : ¬ ccAt l < l.length) :
    Calls Tryz.prog 95 #[.string (hmk l), .string ⟨#[13, 10, 13, 10]⟩] w fun e w' => e = .returned (.tuple #[.string (hmk l), .string ⟨#[]⟩, .bool false]) ∧ Below w.heap.size w w' := by
  obtain ⟨m, hm⟩ := hm
  have := Any.strings_Cut Tryz.laysM145.ton145 (hmk l) ⟨#[13, 10, 13, 10]⟩ m w (by rw [hmk_size]; omega) hm
  rw [hmk_list, show (⟨#[13, 10, 13, 10]⟩ : ByteArray).data.toList = ccL from rfl, cut_pat_no (by simp [ccL]) h] at this
  exact this.mono fun e w' ⟨h1, n, h2⟩ => ⟨h1, h2 ▸ below_drewN w n⟩
/-- What responseIn hands back: a response (of its own, where there is no error), and the error of a code. -/
def PIn (E : Errs) (c : Int) (q : Rp) (base : Nat) (e : Ending) (w : World) : Prop := ∃ s a n k b bn bk, e = .returned (.tuple #[.agg #[.int .i64 s, .slice a n k, .slice b bn bk], errV E c]) ∧ (c = 0 → q.s = s ∧ OwnH w base (.slice a n k) q.l ∧ BOwn w base (.slice b bn bk) q.b)
theorem PIn.bad {E : Errs} {c : Int} {q : Rp} {base : Nat} {s : Int} {a b : Option Addr} {n k bn bk : Nat} {w : World} {ev : Value} (h0 : ¬ c = 0) (he : ev = errV E c) : PIn E c q base (.returned (.tuple #[.agg #[.int .i64 s, .slice a n k, .slice b bn bk], ev])) w := ⟨s, a, n, k, b, bn, bk, by rw [he], fun h => absurd h h0⟩
/-- What lies in memory while a response that was read is asked for its error. -/
structure PQS (w : World) (st : Int) (sl sb : Value) (B8 : Nat) (H : List Hdr) (BL : List UInt8) (B : Nat) (X : World) : Prop where
  b : Below w.heap.size w X
  three : Three X B (.int .i64 st) sl sb
  own : OwnH X B8 sl H
  ownb : BOwn X B8 sb BL
  lt8 : w.heap.size < B8
  ltB : w.heap.size < B
  res : ∃ u0 u1 u2, Three X w.heap.size u0 u1 u2
theorem PQS.keep {w : World} {st : Int} {sl sb : Value} {B8 : Nat} {H : List Hdr} {BL : List UInt8} {B : Nat} {X X' : World} (h : PQS w st sl sb B8 H BL B X) (hb : Below X.heap.size X X') : PQS w st sl sb B8 H BL B X' := by
  obtain ⟨u0, u1, u2, hr⟩ := h.res
  exact ⟨h.b.trans (hb.mono h.b.size), h.three.keep hb, h.own.below hb, h.ownb.keep hb, h.lt8, h.ltB, ⟨u0, u1, u2, hr.keep hb⟩⟩
theorem PQS.put {w : World} {st : Int} {sl sb : Value} {B8 : Nat} {H : List Hdr} {BL : List UInt8} {B : Nat} {X : World} (h : PQS w st sl sb B8 H BL B X) (v0 v1 v2 : Value) : PQS w st sl sb B8 H BL B (put3 X w.heap.size v0 v1 v2) ∧ Three (put3 X w.heap.size v0 v1 v2) w.heap.size v0 v1 v2 := by
  obtain ⟨u0, u1, u2, hr⟩ := h.res
  have h4 := three_put (v0 := v0) (v1 := v1) (v2 := v2) hr
  have hlt := h.ltB
  have ot : ∀ (Y : World) (i j : Nat) (v : Value), (Y.setCell ⟨w.heap.size, i, none⟩ v).cell? ⟨B, j, none⟩ = Y.cell? ⟨B, j, none⟩ := fun Y i j v => World.cell?_setCell_other _ _ _ _ (fun e => by have := congrArg Addr.block e; simp only at this; omega)
  refine ⟨⟨Below.put3 h.b (Nat.le_refl _), ⟨?_, ?_, ?_, ?_, ?_⟩, ownH_put3 h.own h.lt8, bown_put3 h.ownb h.lt8, h.lt8, h.ltB, ⟨_, _, _, h4⟩⟩, h4⟩
  · unfold put3; rw [ot, ot, ot]; exact h.three.c0
  · unfold put3; rw [ot, ot, ot]; exact h.three.c1
  · unfold put3; rw [ot, ot, ot]; exact h.three.c2
  · intro o; unfold put3; simp only [World.frozen?_setCell]; exact h.three.fr o
  · unfold put3; simpa using h.three.lt
set_option maxRecDepth 100000 in
set_option maxHeartbeats 16000000 in
theorem implRespIn_any (E : Errs) (w : World) (d : List UInt8) (h8 : ¬ 10000 < d.length) (hset : SetIs w) (hE : ErrsIs w E) (hmx : MaxIs w) :
    Calls Tryz.prog 77 #[.string (hmk d)] w fun e w' => PIn E (readP d).1 (readP d).2 w.heap.size e w' ∧ Below w.heap.size w w' := by
  obtain ⟨W, hW⟩ : ∃ W, W = w.alloc (.cells #[.int .i64 0, .slice none 0 0, .slice none 0 0] 32) := ⟨_, rfl⟩
  have HW : Hid (W = w.alloc (.cells #[.int .i64 0, .slice none 0 0, .slice none 0 0] 32)) := hW
  have bW : Below w.heap.size w W := by rw [hW]; exact (Below.refl _ _).alloc (Nat.le_refl _) _
  have f0 : Three W w.heap.size (.int .i64 0) (.slice none 0 0) (.slice none 0 0) := by rw [hW]; exact Three.new _ _ _ _ _
  have K0 : Hid (Below w.heap.size w W ∧ Three W w.heap.size (.int .i64 0) (.slice none 0 0) (.slice none 0 0)) := ⟨bW, f0⟩
  obtain ⟨R, hR⟩ : ∃ R, R = readP d := ⟨_, rfl⟩
  have HRR : Hid (R = readP d) := hR
  rw [← hR]
  have HE0 : Hid (∀ X, Below w.heap.size w X → ErrsIs X E) := fun X hb => hE.below hb
  have h3 : 3 < w.heap.size := block_lt_of_cell hE.gU
  have hne : ∀ (X : World) (i : Nat) (v : Value), (X.setCell ⟨w.heap.size, i, none⟩ v).cell? ⟨3, 0, none⟩ = X.cell? ⟨3, 0, none⟩ := fun X i v => World.cell?_setCell_other _ _ _ _ (fun e => by have := congrArg Addr.block e; simp only at this; omega)
  have HS : Hid (∀ X, Below w.heap.size w X → SetIs X ∧ MaxIs X) := fun X hb => ⟨hset.below hb, hmx.below hb⟩
  have H8 : Hid (¬ 10000 < d.length) := h8
  clear hR bW f0 hset hE hmx hW
  by_cases hcc : ccAt d < d.length
  · have C := mcutC_yes d W (HS.out W K0.out.1).2 (by omega) hcc
    have hr4 := (ccAt_room hcc).1
    have HCL : Hid (ccAt d < d.length) := hcc
    have hadd : ∀ X, (Op.stringOp .add (hmk (d.take (ccAt d))) ⟨#[13, 10]⟩).run Tryz.prog X = .ok (.string (hmk (headB d))) X := fun X => by
      have e : hmk (headB d) = hmk (d.take (ccAt d)) ++ ⟨#[13, 10]⟩ := by rw [headB, ← hmk_add]; rfl
      rw [e]
      exact run_string_add_sum X _ _ (by rw [hmk_size, List.length_take, show (⟨#[13, 10]⟩ : ByteArray).size = 2 from rfl]; omega)
    have HC2 : Hid (∀ X, MaxIs X → Calls Tryz.prog 95 #[.string (hmk (headB d)), .string ⟨#[13, 10]⟩] X fun e w' => e = .returned (.tuple #[.string (hmk (lnP d)), .string (hmk (restP d)), .bool true]) ∧ Below X.heap.size X w') := fun X hX => by
      have hl : (headB d).length ≤ 20000 := by unfold headB; simp only [List.length_append, List.length_take, List.length_cons, List.length_nil]; omega
      have hlt : crAt (headB d) < (headB d).length := by
        have := (crAt_app (d.take (ccAt d)) []).1
        unfold headB
        simp only [List.length_append, List.length_cons, List.length_nil] at this ⊢
        omega
      exact mcut_yes (headB d) X hX hl hlt
    have hbl : (hmk (bodyP d)).size ≤ 10000 := by rw [hmk_size, bodyP, List.length_drop]; omega
    have HBT : Hid ((hmk (bodyP d)).data.toList = bodyP d) := hmk_list _
    have hlens := lnP_len (d := d)
    obtain ⟨ln, hln⟩ : ∃ ln, lnP d = ln := ⟨_, rfl⟩
    have HLN : Hid (lnP d = ln) := hln
    obtain ⟨rest, hrs⟩ : ∃ rest, restP d = rest := ⟨_, rfl⟩
    have HRS : Hid (restP d = rest) := hrs
    rw [hln, hrs] at HC2
    clear hln hrs hcc h8 hlens hr4
    generalize hmk (d.take (ccAt d)) = hdt at *
    generalize hmk (headB d) = hbt at *
    obtain ⟨bt, hbt2⟩ : ∃ bt, hmk (bodyP d) = bt := ⟨_, rfl⟩
    rw [hbt2] at C hbl HBT
    clear hbt2
    generalize hmk d = t at *
    go_enter Tryz.func77, Tryz.ntmps77
    go_wp2_with fail
    rw [← HW.out]
    refine C.mono ?_
    rintro e w1 ⟨rfl, hb1⟩
    have K1 : Hid (Below w.heap.size w w1 ∧ Three w1 w.heap.size (.int .i64 0) (.slice none 0 0) (.slice none 0 0)) := ⟨K0.out.1.trans (hb1.mono K0.out.1.size), K0.out.2.keep hb1⟩
    have C2 := HC2.out w1 (HS.out w1 K1.out.1).2
    clear C hb1 K0 HW HC2
    go_wp2_with fail
    refine C2.mono ?_
    rintro e w2 ⟨rfl, hb2⟩
    have K2 : Hid (Below w.heap.size w w2 ∧ Three w2 w.heap.size (.int .i64 0) (.slice none 0 0) (.slice none 0 0)) := ⟨K1.out.1.trans (hb2.mono K1.out.1.size), K1.out.2.keep hb2⟩
    have C3 := implRead_any (hmk rest) w2 (HS.out w2 K2.out.1).1 (HS.out w2 K2.out.1).2
    clear C2 hb2 K1 hadd
    try clear w1
    go_wp2_with fail
    refine C3.mono ?_
    rintro e w3 ⟨⟨v, rfl, ho⟩, hb3⟩
    obtain ⟨a6, c6, rfl, hi6⟩ := ho.at
    obtain ⟨H, hH⟩ : ∃ H, readHL (hmk rest) = H := ⟨_, rfl⟩
    obtain ⟨hc, hhc⟩ : ∃ hc, readHC (hmk rest) = hc := ⟨_, rfl⟩
    have HHC : Hid (readHC (hmk rest) = hc ∧ readHL (hmk rest) = H) := ⟨hhc, hH⟩
    have hcodes := readHC_codes (hmk rest)
    rw [hhc] at hcodes
    rw [hH] at ho hi6 ⊢
    rw [hhc] at ⊢
    obtain ⟨V2, hV2⟩ : ∃ V, V = w3.alloc (.cells #[.int .i64 hc, .slice a6 H.length c6] 109) := ⟨_, rfl⟩
    have HV2 : Hid (V2 = w3.alloc (.cells #[.int .i64 hc, .slice a6 H.length c6] 109)) := hV2
    have aV : Below w3.heap.size w3 V2 := by rw [hV2]; exact (Below.refl _ _).alloc (Nat.le_refl _) _
    have tV : Two V2 w3.heap.size (.int .i64 hc) (.slice a6 H.length c6) := by rw [hV2]; exact Two.new _ _ _ _
    have b3 := K2.out.1.trans (hb3.mono K2.out.1.size)
    have K3 : Hid (Below w.heap.size w V2 ∧ Three V2 w.heap.size (.int .i64 0) (.slice none 0 0) (.slice none 0 0) ∧ Two V2 w3.heap.size (.int .i64 hc) (.slice a6 H.length c6) ∧ OwnH V2 w2.heap.size (.slice a6 H.length c6) H ∧ w.heap.size < w2.heap.size) := ⟨b3.trans (aV.mono b3.size), (K2.out.2.keep hb3).keep aV, tV, ho.below aV, K2.out.2.lt⟩
    have C4 := headError_any E hc V2 (HE0.out V2 K3.out.1) hcodes
    clear C3 hb3 K2 ho hi6 aV tV b3 hV2 hH hhc
    generalize w2.heap.size = B8 at *
    try clear w2
    obtain ⟨t0, t1, _, _⟩ := K3.out.2.2.1
    rw [HV2.out] at t0 t1
    by_cases h0 : hc = 0
    · subst h0
      rw [errV0] at C4
      have HH0 : Hid (headsC H = 0) := by
        have := read_okH HHC.out.1
        rw [HHC.out.2] at this
        exact this
      obtain ⟨h20, hsz⟩ := heads_sizes HH0.out
      clear hsz hcodes
      have HRD : Hid (readHC (hmk (restP d)) = 0 ∧ readHL (hmk (restP d)) = H) := by
        have := HHC.out
        rw [← HRS.out] at this
        exact this
      have C5 := statusIn_any E ln V2 (HE0.out V2 K3.out.1)
      cases hlk : lineOk ln with
      | false =>
        have HE : Hid (R = (5, rp0)) := by show _ = _; rw [HRR.out]; exact readP_line H8.out HCL.out HRD.out.1 (by rw [HLN.out]; exact hlk)
        have e1 : stV ln = 0 := by unfold stV; rw [if_neg (by rw [hlk]; decide)]
        have e2 : errV E (stC ln) = .iface 261 (.pointer (some E.u)) := by unfold stC; rw [if_neg (by rw [hlk]; decide)]; rfl
        rw [e1, e2] at C5
        clear HRR HHC HRD HRS HLN hlk e1 e2
        go_wp2_with fail
        rw [← HV2.out]
        refine C4.mono ?_
        rintro e w4 ⟨rfl, hw⟩
        obtain rfl := hw.symm
        clear hw C4 t0 t1 HV2
        go_wp2_with fail
        refine C5.mono ?_
        rintro e w5 ⟨rfl, hb5⟩
        have K5 : Hid (Below w.heap.size w w5 ∧ Three w5 w.heap.size (.int .i64 0) (.slice none 0 0) (.slice none 0 0)) := ⟨K3.out.1.trans (hb5.mono K3.out.1.size), K3.out.2.1.keep hb5⟩
        clear C5 hb5 K3
        obtain ⟨r0, r1, r2, rf, _⟩ := K5.out.2
        have rf0 := rf 0
        have rf1 := rf 1
        have rf2 := rf 2
        clear rf
        go_wp2_with fail
        have T2 := three_put (v0 := .int .i64 0) (v1 := .slice none 0 0) (v2 := .slice none 0 0) K5.out.2
        have BZ := Below.put3 (v0 := .int .i64 0) (v1 := .slice none 0 0) (v2 := .slice none 0 0) K5.out.1 (Nat.le_refl _)
        unfold put3 at T2
        exact bodyPost_ret (v := .tuple #[.agg #[.int .i64 0, .slice none 0 0, .slice none 0 0], .iface 261 (.pointer (some E.u))]) (by simp [results, Tryz.results77, go_sem, T2.c0, T2.c1, T2.c2]) rfl ⟨by rw [HE.out]; exact PIn.bad (by decide) rfl, BZ⟩
      | true =>
        have e1 : stV ln = valD (ln.drop 9) := by unfold stV; rw [if_pos hlk]
        have e2 : errV E (stC ln) = .nilIface := by unfold stC; rw [if_pos hlk]; rfl
        rw [e1, e2] at C5
        have er : respOf d = ⟨valD (ln.drop 9), H, bodyP d⟩ := by rw [respOf, HRD.out.2, HLN.out]
        obtain ⟨st, hst⟩ : ∃ st, valD (ln.drop 9) = st := ⟨_, rfl⟩
        have HG : Hid ((rpC ⟨st, H, bodyP d⟩ = 0 → R = (0, ⟨st, H, bodyP d⟩)) ∧ (¬ rpC ⟨st, H, bodyP d⟩ = 0 → R = (rpC ⟨st, H, bodyP d⟩, rp0))) := by
          rw [hst] at er
          refine ⟨fun hq => ?_, fun hq => ?_⟩
          · rw [HRR.out, readP_ok H8.out HCL.out HRD.out.1 (by rw [HLN.out]; exact hlk) (by rw [er]; exact hq), er]
          · rw [HRR.out, readP_fault H8.out HCL.out HRD.out.1 (by rw [HLN.out]; exact hlk) (by rw [er]; exact hq), er]
        rw [hst] at C5
        clear HRR HHC HRD HRS HLN hlk e1 e2 er hst
        go_wp2_with fail
        rw [← HV2.out]
        refine C4.mono ?_
        rintro e w4 ⟨rfl, hw⟩
        obtain rfl := hw.symm
        clear hw C4 t0 t1 HV2
        go_wp2_with fail
        refine C5.mono ?_
        rintro e w5 ⟨rfl, hb5⟩
        have K5 : Hid (Below w.heap.size w w5 ∧ Three w5 w.heap.size (.int .i64 0) (.slice none 0 0) (.slice none 0 0) ∧ Two w5 w3.heap.size (.int .i64 0) (.slice a6 H.length c6) ∧ OwnH w5 B8 (.slice a6 H.length c6) H ∧ w.heap.size < B8) := ⟨K3.out.1.trans (hb5.mono K3.out.1.size), K3.out.2.1.keep hb5, K3.out.2.2.1.keep hb5, K3.out.2.2.2.1.below hb5, K3.out.2.2.2.2⟩
        clear C5 hb5 K3
        generalize w3.heap.size = B3 at *
        try clear V2
        try clear w3
        obtain ⟨Cc, bk, hcv, hbm⟩ := bytes_of_text w5 bt
        obtain ⟨X, hX⟩ : ∃ X, X = w5.drew.alloc (.cells Cc 5 (Cc.size, Cc.size + 1)) := ⟨_, rfl⟩
        have aX : Below w5.heap.size w5 X := by rw [hX]; exact ((Below.refl _ _).drew).alloc (Nat.le_refl _) _
        rw [← hX] at hcv hbm
        rw [HBT.out] at hbm
        obtain ⟨g, hg⟩ : ∃ g, w5.heap.size = g := ⟨_, rfl⟩
        obtain ⟨bn, hbn⟩ : ∃ bn, bt.size = bn := ⟨_, rfl⟩
        have HBN : Hid ((bodyP d).length = bn) := by show _ = _; rw [← hbn, ← HBT.out, hsize_list]
        obtain ⟨hn, hhn⟩ : ∃ hn, H.length = hn := ⟨_, rfl⟩
        have HHN : Hid (H.length = hn) := hhn
        have K6 : Hid (Below w.heap.size w X ∧ Three X w.heap.size (.int .i64 0) (.slice none 0 0) (.slice none 0 0) ∧ OwnH X B8 (.slice a6 hn c6) H ∧ BMine X g (bodyP d) ∧ w.heap.size < B8 ∧ w.heap.size < g) := ⟨K5.out.1.trans (aX.mono K5.out.1.size), K5.out.2.1.keep aX, by rw [← hhn]; exact K5.out.2.2.2.1.below aX, by rw [← hg]; exact hbm, K5.out.2.2.2.2, by rw [← hg]; exact K5.out.2.1.lt⟩
        obtain ⟨t0, t1, _, _⟩ := K5.out.2.2.1
        rw [hhn] at t1 ⊢
        rw [hg, hbn] at hcv
        clear hbm hX aX hbn hhn
        go_wp2_with fail
        obtain ⟨Y, hY⟩ : ∃ Y, Y = X.alloc (.cells #[.int .i64 st, .slice a6 hn c6, .slice (some ⟨g, 0, none⟩) bn bk] 32) := ⟨_, rfl⟩
        have HY : Hid (Y = X.alloc (.cells #[.int .i64 st, .slice a6 hn c6, .slice (some ⟨g, 0, none⟩) bn bk] 32)) := hY
        have aY : Below X.heap.size X Y := by rw [hY]; exact (Below.refl _ _).alloc (Nat.le_refl _) _
        have f6 : Three Y X.heap.size (.int .i64 st) (.slice a6 hn c6) (.slice (some ⟨g, 0, none⟩) bn bk) := by rw [hY]; exact Three.new _ _ _ _ _
        have hB8 : w.heap.size + 1 ≤ B8 := K6.out.2.2.2.2.1
        have KS : Hid (PQS w st (.slice a6 hn c6) (.slice (some ⟨g, 0, none⟩) bn bk) (w.heap.size + 1) H (bodyP d) X.heap.size Y) := ⟨K6.out.1.trans (aY.mono K6.out.1.size), f6, (K6.out.2.2.1.below aY).lower hB8, .inr ⟨g, bk, by rw [HBN.out], K6.out.2.2.2.2.2, K6.out.2.2.2.1.keep aY⟩, Nat.lt_succ_self _, K6.out.2.1.lt, ⟨_, _, _, K6.out.2.1.keep aY⟩⟩
        have HRE : Hid (∀ Z, PQS w st (.slice a6 hn c6) (.slice (some ⟨g, 0, none⟩) bn bk) (w.heap.size + 1) H (bodyP d) X.heap.size Z → Calls Tryz.prog 74 #[.agg #[.int .i64 st, .slice a6 hn c6, .slice (some ⟨g, 0, none⟩) bn bk]] Z fun e w' => e = .returned (errV E (respC st H bn)) ∧ Below Z.heap.size Z w') := fun Z h => by
          have := implRespE_any E Z st a6 c6 H (some ⟨g, 0, none⟩) bn bk (by omega) (by rw [← HBN.out, ← HBT.out, hsize_list]; omega) (HS.out Z h.b).1 (HE0.out Z h.b) (own_in h.own).2
          rw [HHN.out] at this
          exact this
        have HG2 : Hid ((respC st H bn = 0 → R = (0, ⟨st, H, bodyP d⟩)) ∧ (¬ respC st H bn = 0 → R = (respC st H bn, rp0))) := by
          have hg2 := HG.out
          have e : rpC ⟨st, H, bodyP d⟩ = respC st H bn := by rw [← HBN.out]; rfl
          rw [e] at hg2
          exact hg2
        have HKS : Hid (∀ Z, PQS w st (.slice a6 hn c6) (.slice (some ⟨g, 0, none⟩) bn bk) (w.heap.size + 1) H (bodyP d) X.heap.size Z → Z.cell? ⟨X.heap.size, 0, none⟩ = some (.int .i64 st) ∧ Z.cell? ⟨X.heap.size, 1, none⟩ = some (.slice a6 hn c6) ∧ Z.cell? ⟨X.heap.size, 2, none⟩ = some (.slice (some ⟨g, 0, none⟩) bn bk)) := fun Z h => ⟨h.three.c0, h.three.c1, h.three.c2⟩
        have HPUT : Hid (∀ Z, PQS w st (.slice a6 hn c6) (.slice (some ⟨g, 0, none⟩) bn bk) (w.heap.size + 1) H (bodyP d) X.heap.size Z → PQS w st (.slice a6 hn c6) (.slice (some ⟨g, 0, none⟩) bn bk) (w.heap.size + 1) H (bodyP d) X.heap.size (put3 Z w.heap.size (.int .i64 st) (.slice a6 hn c6) (.slice (some ⟨g, 0, none⟩) bn bk)) ∧ Three (put3 Z w.heap.size (.int .i64 st) (.slice a6 hn c6) (.slice (some ⟨g, 0, none⟩) bn bk)) w.heap.size (.int .i64 st) (.slice a6 hn c6) (.slice (some ⟨g, 0, none⟩) bn bk)) := fun Z h => h.put _ _ _
        have HRC : Hid (∀ Z, PQS w st (.slice a6 hn c6) (.slice (some ⟨g, 0, none⟩) bn bk) (w.heap.size + 1) H (bodyP d) X.heap.size Z → ∃ u0 u1 u2, Three Z w.heap.size u0 u1 u2) := fun Z h => h.res
        obtain ⟨cq, hcq⟩ : ∃ cq, respC st H bn = cq := ⟨_, rfl⟩
        rw [hcq] at HRE HG2
        obtain ⟨ev, hev⟩ : ∃ ev, errV E cq = ev := ⟨_, rfl⟩
        have HEV : Hid (errV E cq = ev) := hev
        rw [hev] at HRE
        rw [← HY.out]
        clear K5 K6 hY aY f6 HG hcq hev HY hcv t0 t1 hg
        generalize X.heap.size = B12 at *
        try clear X
        have B0 : Hid (PQS w st (.slice a6 hn c6) (.slice (some ⟨g, 0, none⟩) bn bk) (w.heap.size + 1) H (bodyP d) B12 Y.drew) := KS.out.keep (Below.refl _ _).drew
        obtain ⟨u0, u1, u2, hu⟩ := HRC.out Y KS.out
        obtain ⟨s0, s1, s2, sf, _⟩ := hu
        have sf0 := sf 0
        have sf1 := sf 1
        have sf2 := sf 2
        clear sf KS
        go_wp2_with fail
        go_region_held3 (fun Z => Z.cell? ⟨B12, 0, none⟩ = some (.int .i64 st) ∧ Z.cell? ⟨B12, 1, none⟩ = some (.slice a6 hn c6) ∧ Z.cell? ⟨B12, 2, none⟩ = some (.slice (some ⟨g, 0, none⟩) bn bk))
          (first | exact HKS.out _ (HPUT.out _ BA.out).1 | exact HKS.out _ (HPUT.out _ B0.out).1 | exact HKS.out _ BA.out | exact HKS.out _ B0.out)
          (first
          | (go_at_call 74; (first | refine (HRE.out _ B0.out).mono ?_ | refine (HRE.out _ (HPUT.out _ B0.out).1).mono ?_); rintro e wa ⟨rfl, hba⟩; have BA : Hid (PQS w st (.slice a6 hn c6) (.slice (some ⟨g, 0, none⟩) bn bk) (w.heap.size + 1) H (bodyP d) B12 wa) := B0.out.keep hba; clear hba; obtain ⟨k0, k1, k2, hk⟩ := HRC.out wa BA.out; obtain ⟨n0, n1, n2, nf, _⟩ := hk; have nf0 := nf 0; have nf1 := nf 1; have nf2 := nf 2; clear nf))
        go_wp2_with fail
        have HP := HPUT.out _ BA.out
        have T2 := HP.2
        unfold put3 at T2
        refine bodyPost_ret (v := .tuple #[.agg #[.int .i64 st, .slice a6 hn c6, .slice (some ⟨g, 0, none⟩) bn bk], ev]) (by simp [results, Tryz.results77, go_sem, T2.c0, T2.c1, T2.c2]) rfl ⟨?_, HP.1.b⟩
        by_cases hq : cq = 0
        · rw [HG2.out.1 hq]
          exact ⟨st, a6, hn, c6, some ⟨g, 0, none⟩, bn, bk, by rw [← HEV.out, hq], fun _ => ⟨rfl, HP.1.own.lower (Nat.le_succ _), HP.1.ownb.lower (Nat.le_succ _)⟩⟩
        · rw [HG2.out.2 hq]
          exact PIn.bad hq HEV.out.symm
    · have HE : Hid (R = (hc, rp0)) := by
        show _ = _
        rw [HRR.out, readP_heads H8.out HCL.out (by rw [HRS.out, HHC.out.1]; exact h0), HRS.out, HHC.out.1]
      obtain ⟨ep, hep⟩ := errV_iface E hc h0
      have HEP : Hid (.iface 261 (.pointer (some ep)) = errV E hc) := hep.symm
      rw [hep] at C4
      clear HRR H8 HHC hep hcodes HRS HLN
      go_wp2_with fail
      rw [← HV2.out]
      refine C4.mono ?_
      rintro e w4 ⟨rfl, hw⟩
      obtain rfl := hw.symm
      clear hw C4
      obtain ⟨r0, r1, r2, rf, _⟩ := K3.out.2.1
      have rf0 := rf 0
      have rf1 := rf 1
      have rf2 := rf 2
      clear rf
      go_wp2_with fail
      have T2 := three_put (v0 := .int .i64 0) (v1 := .slice none 0 0) (v2 := .slice none 0 0) K3.out.2.1
      have BZ := Below.put3 (v0 := .int .i64 0) (v1 := .slice none 0 0) (v2 := .slice none 0 0) K3.out.1 (Nat.le_refl _)
      unfold put3 at T2
      exact bodyPost_ret (v := .tuple #[.agg #[.int .i64 0, .slice none 0 0, .slice none 0 0], .iface 261 (.pointer (some ep))]) (by simp [results, Tryz.results77, go_sem, T2.c0, T2.c1, T2.c2]) rfl ⟨by rw [HE.out]; exact PIn.bad h0 HEP.out, BZ⟩
  · have HE : Hid (R = (5, rp0)) := by show _ = _; rw [HRR.out]; exact readP_none h8 hcc
    have C := mcutC_no d W (HS.out W K0.out.1).2 (by omega) hcc
    clear HRR HS h8 hcc
    generalize hmk d = t at *
    go_enter Tryz.func77, Tryz.ntmps77
    go_wp2_with fail
    rw [← HW.out]
    refine C.mono ?_
    rintro e w1 ⟨rfl, hb1⟩
    have K1 : Hid (Below w.heap.size w w1 ∧ Three w1 w.heap.size (.int .i64 0) (.slice none 0 0) (.slice none 0 0)) := ⟨K0.out.1.trans (hb1.mono K0.out.1.size), K0.out.2.keep hb1⟩
    clear C hb1 K0 HW
    obtain ⟨r0, r1, r2, rf, _⟩ := K1.out.2
    have rf0 := rf 0
    have rf1 := rf 1
    have rf2 := rf 2
    clear rf
    have gU := (HE0.out w1 K1.out.1).gU
    go_wp2_with fail
    go_region
    have T2 := (three_put (v0 := .int .i64 0) (v1 := .slice none 0 0) (v2 := .slice none 0 0) K1.out.2).keep (Below.refl _ _).drew
    have BZ := (Below.put3 (v0 := .int .i64 0) (v1 := .slice none 0 0) (v2 := .slice none 0 0) K1.out.1 (Nat.le_refl _)).drew
    unfold put3 at T2
    go_wp2_with fail
    exact bodyPost_ret (v := .tuple #[.agg #[.int .i64 0, .slice none 0 0, .slice none 0 0], .iface 261 (.pointer (some E.u))]) (by simp [results, Tryz.results77, go_sem, T2.c0, T2.c1, T2.c2]) rfl ⟨by rw [HE.out]; exact PIn.bad (by decide) rfl, BZ⟩
end Go.Proofs.YtojcjpdgjohldaaGreatDoor
/-
  What ReadResponse answers.
-/
namespace Go.Proofs.YtojcjpdgjohldaaGreatDoor
open Go.ChangeShapes Go.WideShapes Go.ChangeAt Go.RowKit
theorem readP_codes (d : List UInt8) : (readP d).1 = 0 ∨ (readP d).1 = 2 ∨ (readP d).1 = 3 ∨ (readP d).1 = 5 ∨ (readP d).1 = 6 := by
  unfold readP
  split
  · simp
  · split
    · have h1 := readHC_codes (hmk (restP d))
      split
      · split
        · have h2 := respC_codes (respOf d).s (respOf d).l (respOf d).b.length
          split
          · simp
          · show rpC _ = 0 ∨ rpC _ = 2 ∨ rpC _ = 3 ∨ rpC _ = 5 ∨ rpC _ = 6
            unfold rpC
            omega
        · simp
      · show readHC _ = 0 ∨ readHC _ = 2 ∨ readHC _ = 3 ∨ readHC _ = 5 ∨ readHC _ = 6
        omega
    · simp
theorem readP_zero {d : List UInt8} (h : ¬ (readP d).1 = 0) : (readP d).2 = rp0 := by
  unfold readP at *
  split
  · rfl
  · rename_i h8
    rw [if_neg h8] at h
    split
    · rename_i hx
      rw [if_pos hx] at h
      split
      · rename_i h1
        rw [if_pos h1] at h
        split
        · rename_i h2
          rw [if_pos h2] at h
          split
          · rename_i h3
            rw [if_pos h3] at h
            exact absurd rfl h
          · rfl
        · rfl
      · rfl
    · rfl
set_option maxRecDepth 100000 in
set_option maxHeartbeats 8000000 in
theorem implReadP_any (E : Errs) (w : World) (a : Option Addr) (cap : Nat) (d : List UInt8) (hd : d.length ≤ 1048576) (hset : SetIs w) (hE : ErrsIs w E) (hmx : MaxIs w) (hi : BIn w a d) :
    Calls Tryz.prog 23 #[.slice a d.length cap] w fun e w' => PGot (readP d).1 (readP d).2 w.heap.size e w' ∧ Below w.heap.size w w' := by
  obtain ⟨W, hW⟩ : ∃ W, W = w.alloc (.cells #[.int .i64 0, .int .i64 0, .slice none 0 0, .slice none 0 0] 42) := ⟨_, rfl⟩
  have HW : Hid (W = w.alloc (.cells #[.int .i64 0, .int .i64 0, .slice none 0 0, .slice none 0 0] 42)) := hW
  have bW : Below w.heap.size w W := by rw [hW]; exact (Below.refl _ _).alloc (Nat.le_refl _) _
  have f0 : Four W w.heap.size (.int .i64 0) (.int .i64 0) (.slice none 0 0) (.slice none 0 0) := by rw [hW]; exact Four.new _ _ _ _ _ _
  have hcv : (convert 22 9 (.slice a d.length cap)).run Tryz.prog W = .ok (.string (hmk d)) W := bytes_text cap (hi.keep bW)
  have K0 : Hid (Below w.heap.size w W ∧ Four W w.heap.size (.int .i64 0) (.int .i64 0) (.slice none 0 0) (.slice none 0 0)) := ⟨bW, f0⟩
  have HE0 : Hid (∀ X, Below w.heap.size w X → ErrsIs X E) := fun X hb => hE.below hb
  have HIN : Hid (¬ 10000 < d.length → Calls Tryz.prog 77 #[.string (hmk d)] W fun e w' => PIn E (readP d).1 (readP d).2 W.heap.size e w' ∧ Below W.heap.size W w') := fun h8 => implRespIn_any E W d h8 (hset.below bW) (hE.below bW) (hmx.below bW)
  have hcodes := readP_codes d
  have HZ : Hid (¬ (readP d).1 = 0 → (readP d).2 = rp0) := readP_zero
  have HLO : Hid (10000 < d.length → readP d = (2, rp0)) := readP_long
  obtain ⟨R, hR⟩ : ∃ R, R = readP d := ⟨_, rfl⟩
  rw [← hR] at hcodes HZ HIN HLO ⊢
  clear hR bW f0 hi hset hE hmx
  rw [hW] at hcv
  clear hW
  by_cases h8 : 10000 < d.length
  · have HE : Hid (R = (2, rp0)) := HLO.out h8
    have g8 : (10000 : Int) < d.length := by omega
    clear hcv K0 HZ HIN HLO hcodes
    generalize d.length = n at *
    go_enter Tryz.func23, Tryz.ntmps23
    go_wp2_with fail
    exact bodyPost_ret (v := .agg #[.int .i64 2, .int .i64 0, .slice none 0 0, .slice none 0 0]) (by simp [results, Tryz.results23, go_sem]) rfl ⟨by rw [HE.out]; exact PGot.zero _ _ _, (Below.refl _ _).alloc (Nat.le_refl _) _⟩
  · have g8 : ¬ (10000 : Int) < d.length := by omega
    have C := HIN.out h8
    clear HIN HLO h8
    generalize hmk d = t at *
    generalize d.length = n at *
    go_enter Tryz.func23, Tryz.ntmps23
    go_wp2_with fail
    rw [← HW.out]
    refine C.mono ?_
    rintro e w1 ⟨⟨s, a1, n1, k1, b1, m1, l1, rfl, hq⟩, hb1⟩
    have HQ : Hid (R.1 = 0 → R.2.s = s ∧ OwnH w1 W.heap.size (.slice a1 n1 k1) R.2.l ∧ BOwn w1 W.heap.size (.slice b1 m1 l1) R.2.b) := hq
    obtain ⟨V, hV⟩ : ∃ V, V = w1.alloc (.cells #[.int .i64 s, .slice a1 n1 k1, .slice b1 m1 l1] 32) := ⟨_, rfl⟩
    have HV : Hid (V = w1.alloc (.cells #[.int .i64 s, .slice a1 n1 k1, .slice b1 m1 l1] 32)) := hV
    have aV : Below w1.heap.size w1 V := by rw [hV]; exact (Below.refl _ _).alloc (Nat.le_refl _) _
    have fV : Three V w1.heap.size (.int .i64 s) (.slice a1 n1 k1) (.slice b1 m1 l1) := by rw [hV]; exact Three.new _ _ _ _ _
    have bb1 := K0.out.1.trans (hb1.mono K0.out.1.size)
    have K1 : Hid (Below w.heap.size w V ∧ Four V w.heap.size (.int .i64 0) (.int .i64 0) (.slice none 0 0) (.slice none 0 0) ∧ Three V w1.heap.size (.int .i64 s) (.slice a1 n1 k1) (.slice b1 m1 l1) ∧ Below w1.heap.size w1 V ∧ w.heap.size < W.heap.size) := ⟨bb1.trans (aV.mono bb1.size), (K0.out.2.keep hb1).keep aV, fV, aV, K0.out.2.lt⟩
    clear C hb1 K0 HW hcv hq hV aV fV bb1
    obtain ⟨r0, r1, r2, r3, rf, _⟩ := K1.out.2.1
    have rf0 := rf 0
    have rf1 := rf 1
    have rf2 := rf 2
    have rf3 := rf 3
    clear rf
    obtain ⟨c, hc⟩ : ∃ c, R.1 = c := ⟨_, rfl⟩
    have HC : Hid (R.1 = c) := hc
    rw [hc] at HZ HQ hcodes ⊢
    clear hc
    by_cases h0 : c = 0
    · subst h0
      rw [errV0]
      obtain ⟨e1, e4, e5⟩ := HQ.out rfl
      have HRE : Hid (R.1 = 0 ∧ R.2.s = s ∧ OwnH V W.heap.size (.slice a1 n1 k1) R.2.l ∧ BOwn V W.heap.size (.slice b1 m1 l1) R.2.b) := ⟨HC.out, e1, e4.below K1.out.2.2.2.1, e5.keep K1.out.2.2.2.1⟩
      obtain ⟨q0, q1, q2, _, _⟩ := K1.out.2.2.1
      rw [HV.out] at r0 r1 r2 r3 rf0 rf1 rf2 rf3 q0 q1 q2
      clear HZ HQ HC hcodes e1 e4 e5
      go_wp2_with fail
      rw [← HV.out]
      have T2 := four_put (v0 := .int .i64 0) (v1 := .int .i64 s) (v2 := .slice a1 n1 k1) (v3 := .slice b1 m1 l1) K1.out.2.1
      have HO := ownH_put4 (v0 := .int .i64 0) (v1 := .int .i64 s) (v2 := .slice a1 n1 k1) (v3 := .slice b1 m1 l1) HRE.out.2.2.1 K1.out.2.2.2.2
      have HP := bown_put4 (v0 := .int .i64 0) (v1 := .int .i64 s) (v2 := .slice a1 n1 k1) (v3 := .slice b1 m1 l1) HRE.out.2.2.2 K1.out.2.2.2.2
      unfold put4 at T2
      exact bodyPost_ret (v := .agg #[.int .i64 0, .int .i64 s, .slice a1 n1 k1, .slice b1 m1 l1]) (by simp [results, Tryz.results23, go_sem, T2.c0, T2.c1, T2.c2, T2.c3]) rfl ⟨⟨_, _, _, _, _, _, by rw [HRE.out.1, HRE.out.2.1], HO.lower (Nat.le_of_lt K1.out.2.2.2.2), HP.lower (Nat.le_of_lt K1.out.2.2.2.2)⟩, Below.put4 K1.out.1 (Nat.le_refl _)⟩
    · have C2 := codeOf_any E c V (HE0.out V K1.out.1) hcodes
      have HRE : Hid (R = (c, rp0)) := by
        show _ = _
        rw [← HC.out, ← HZ.out h0]
      obtain ⟨ep, hep⟩ := errV_iface E c h0
      rw [hep] at C2 ⊢
      rw [HV.out] at r0 r1 r2 r3 rf0 rf1 rf2 rf3
      clear HZ HQ HC hcodes hep
      go_wp2_with fail
      rw [← HV.out]
      refine C2.mono ?_
      rintro e w2 ⟨rfl, hw⟩
      obtain rfl := hw.symm
      rw [← HV.out] at r0 r1 r2 r3 rf0 rf1 rf2 rf3
      clear hw C2 HV
      go_wp2_with fail
      have T2 := four_put (v0 := .int .i64 c) (v1 := .int .i64 0) (v2 := .slice none 0 0) (v3 := .slice none 0 0) K1.out.2.1
      unfold put4 at T2
      exact bodyPost_ret (v := .agg #[.int .i64 c, .int .i64 0, .slice none 0 0, .slice none 0 0]) (by simp [results, Tryz.results23, go_sem, T2.c0, T2.c1, T2.c2, T2.c3]) rfl ⟨by rw [HRE.out]; exact PGot.zero _ _ _, Below.put4 K1.out.1 (Nat.le_refl _)⟩
end Go.Proofs.YtojcjpdgjohldaaGreatDoor
/-
  markText: a text of its own for each number.
-/
namespace Go.Proofs.YtojcjpdgjohldaaGreatDoor
open Go.ChangeShapes Go.WideShapes Go.ChangeAt Go.RowKit
def mkD (k : Nat) (o : ByteArray) : ByteArray := if _h : k = 0 then o else mkD (k / 10) ((⟨#[UInt8.ofNat (48 + k % 10)]⟩ : ByteArray) ++ o)
termination_by k
decreasing_by omega
theorem mkD_zero (o : ByteArray) : mkD 0 o = o := by rw [mkD]; simp
theorem mkD_more {k : Nat} (h : k ≠ 0) (o : ByteArray) : mkD k o = mkD (k / 10) ((⟨#[UInt8.ofNat (48 + k % 10)]⟩ : ByteArray) ++ o) := by rw [mkD, dif_neg h]
def mkT (k : Nat) : ByteArray := (⟨#[109]⟩ : ByteArray) ++ mkD k ⟨#[]⟩
theorem one_byteM (c : Int) (x : UInt8) (hx : (x.toNat : Int) = c) (W : World) (B cap : Nat) (hc : W.cell? ⟨B, 0, none⟩ = some (.int .u8 c)) :
    (convert 22 9 (.slice (some ⟨B, 0, none⟩) 1 cap)).run Tryz.prog W = .ok (.string ⟨#[x]⟩) W := by
  have := run_convert_bytes_back (P := Tryz.prog) W 22 9 5 ⟨B, 0, none⟩ cap [x] Tryz.underlying22 Tryz.underlying5 Tryz.underlying9 (fun j hj => by
    obtain rfl : j = 0 := by simp at hj; omega
    simp [Addr.add, hc, hx])
  simpa using this
set_option maxHeartbeats 2000000 in
theorem markText_any (k : Nat) (h0 : 1 ≤ k) (h1 : k ≤ 10000000) (w : World) :
    Calls Tryz.prog 149 #[.int .i64 (k : Int)] w fun e w' => e = .returned (.string (mkT k)) ∧ Below w.heap.size w w' := by
  have HT : Hid (mkT k = (⟨#[109]⟩ : ByteArray) ++ mkD k ⟨#[]⟩) := rfl
  have g : ¬ (k : Int) ≤ 0 := by omega
  go_enter Tryz.func149, Tryz.ntmps149
  go_wp2
  go_loopw [0, 3] (fun x v wr => ∃ (j : Nat) (o : ByteArray), j ≤ k ∧ x = .int .i64 (j : Int) ∧ v = .string o ∧ mkD k ⟨#[]⟩ = mkD j o ∧ o.size + j ≤ k ∧ Below w.heap.size w wr) (fun x _ _ => (intOf x).toNat)
  case atStart => exact ⟨k, ⟨#[]⟩, Nat.le_refl _, rfl, rfl, rfl, by simp [ByteArray.size], Below.refl _ _⟩
  case round =>
    obtain ⟨j, o, hj, rfl, rfl, he, hs, hb⟩ := hrel
    have HE : Hid (mkD k ⟨#[]⟩ = mkD j o) := he
    have KB : Hid (Below w.heap.size w wr) := hb
    clear he hb
    by_cases hj0 : j = 0
    · subst hj0
      have HX : Hid (mkD k ⟨#[]⟩ = o) := by show _ = _; rw [HE.out, mkD_zero]
      have zk : (⟨#[109]⟩ : ByteArray).size = 1 := rfl
      have hadd := fun w => run_string_add_sum (P := Tryz.prog) (w := w) (⟨#[109]⟩ : ByteArray) o (by omega)
      clear zk
      go_wp2_with fail
      go_ret
      exact ⟨ret_str (by rw [HT.out, HX.out]), KB.out⟩
    · have HX : Hid (mkD k ⟨#[]⟩ = mkD (j / 10) ((⟨#[UInt8.ofNat (48 + j % 10)]⟩ : ByteArray) ++ o)) := by show _ = _; rw [HE.out, mkD_more hj0]
      have hcv := one_byteM (48 + (j : Int) % 10) (UInt8.ofNat (48 + j % 10)) (by rw [UInt8.toNat_ofNat_of_lt' (by show 48 + j % 10 < 256; omega)]; omega)
      have zr : (⟨#[UInt8.ofNat (48 + j % 10)]⟩ : ByteArray).size = 1 := rfl
      generalize (⟨#[UInt8.ofNat (48 + j % 10)]⟩ : ByteArray) = r at *
      have zq : (r ++ o).size = 1 + o.size := by rw [ByteArray.size_append, zr]
      have hadd := fun w => run_string_add_sum (P := Tryz.prog) (w := w) r o (by omega)
      generalize r ++ o = q at *
      have g1 : (0 : Int) < (j : Int) := by omega
      have e2 : IntKind.u8.wrap (48 + (j : Int) % 10) = 48 + (j : Int) % 10 := by rw [IntKind.wrap_u8]; omega
      have hj9 : (j : Int) ≤ 10000000 := by omega
      go_wp2_with fail
      go_roundw
      case rel => exact ⟨j / 10, q, by omega, by go_num, rfl, HX.out, by omega, KB.out.alloc KB.out.size _⟩
      case measure => simp [intOf]; omega
end Go.Proofs.YtojcjpdgjohldaaGreatDoor
/-
  All that was there, but for one block, is as it was.
-/
namespace Go.Proofs.YtojcjpdgjohldaaGreatDoor
open Go.ChangeShapes Go.WideShapes Go.ChangeAt Go.RowKit
/-- All that was there, but for block B, is as it was. -/
structure Apart (B : Nat) (w w' : World) : Prop where
  size : w.heap.size ≤ w'.heap.size
  cell : ∀ b o, b < w.heap.size → b ≠ B → w'.cell? ⟨b, o, none⟩ = w.cell? ⟨b, o, none⟩
  frozen : ∀ b o, b < w.heap.size → b ≠ B → w'.frozen? ⟨b, o, none⟩ = w.frozen? ⟨b, o, none⟩
theorem Apart.refl (B : Nat) (w : World) : Apart B w w := ⟨Nat.le_refl _, fun _ _ _ _ => rfl, fun _ _ _ _ => rfl⟩
theorem Apart.trans {B : Nat} {w w1 w2 : World} (h : Apart B w w1) (k : Apart B w1 w2) : Apart B w w2 :=
  ⟨Nat.le_trans h.size k.size, fun b o hb hn => by rw [k.cell b o (Nat.lt_of_lt_of_le hb h.size) hn, h.cell b o hb hn], fun b o hb hn => by rw [k.frozen b o (Nat.lt_of_lt_of_le hb h.size) hn, h.frozen b o hb hn]⟩
theorem Apart.below {B : Nat} {w w' : World} (h : Below w.heap.size w w') : Apart B w w' :=
  ⟨h.size, fun b o hb _ => h.cell (p := ⟨b, o, none⟩) hb, fun b o hb _ => h.frozen (p := ⟨b, o, none⟩) hb⟩
theorem Apart.alloc (B : Nat) (w : World) (o : Obj) : Apart B w (w.alloc o) := .below ((Below.refl _ _).alloc (Nat.le_refl _) _)
theorem Apart.set (B o : Nat) (w : World) (v : Value) : Apart B w (w.setCell ⟨B, o, none⟩ v) := by
  refine ⟨by simp, fun b o' _ hn => ?_, fun b o' _ hn => ?_⟩
  · rw [World.cell?_setCell_other _ _ _ _ (by intro h; have := congrArg Addr.block h; simp at this; omega)]
  · rw [World.frozen?_setCell]
end Go.Proofs.YtojcjpdgjohldaaGreatDoor
/-
  markHeaderS and heldHeaderS: marks laid into head lines, and found again.
-/
namespace Go.Proofs.YtojcjpdgjohldaaGreatDoor
open Go.ChangeShapes Go.WideShapes Go.ChangeAt Go.RowKit Go.Sort
def mkHR (k : Nat) (j : Nat) : Hdr := ⟨mkT (k + 2 * j), mkT (k + 2 * j + 1)⟩
def mkHL (k n : Nat) : List Hdr := (List.range n).map (mkHR k)
theorem mkHL_len (k n : Nat) : (mkHL k n).length = n := by simp [mkHL]
theorem mkHL_get {k n i : Nat} (h : i < n) : (mkHL k n)[i]? = some (mkHR k i) := by simp [mkHL, h]
theorem hcell_set_same {w : World} {g o : Nat} {u v : Value} (h : w.cell? ⟨g, o, none⟩ = some u) : (w.setCell ⟨g, o, none⟩ v).cell? ⟨g, o, none⟩ = some v := World.cell?_setCell_same _ _ _ h
theorem hcell_set_off {w : World} {g o o' : Nat} {v : Value} (h : o ≠ o') : (w.setCell ⟨g, o', none⟩ v).cell? ⟨g, o, none⟩ = w.cell? ⟨g, o, none⟩ :=
  World.cell?_setCell_other _ _ _ _ (by intro e; have := congrArg Addr.off e; simp at this; omega)
/-- One field of one line written. -/
theorem hput_name {w : World} {g off i : Nat} {L : List Hdr} {r : Hdr} (h : HeadsAt w g off L) (hr : L[i]? = some r) (n : ByteArray) :
    HeadsAt (w.setCell ⟨g, off + i * 2, none⟩ (.string n)) g off (L.set i { r with name := n }) := by
  intro j q hq
  by_cases e : j = i
  · subst e
    have hl := (List.getElem?_eq_some_iff.1 hr).1
    rw [List.getElem?_set_self hl] at hq
    obtain rfl := Option.some.inj hq
    obtain ⟨a, c⟩ := h j r hr
    exact ⟨hcell_set_same a, by rw [hcell_set_off (by omega)]; exact c⟩
  · rw [List.getElem?_set_ne (fun k => e k.symm)] at hq
    obtain ⟨a, c⟩ := h j q hq
    exact ⟨by rw [hcell_set_off (by omega)]; exact a, by rw [hcell_set_off (by omega)]; exact c⟩
theorem hput_value {w : World} {g off i : Nat} {L : List Hdr} {r : Hdr} (h : HeadsAt w g off L) (hr : L[i]? = some r) (n : ByteArray) :
    HeadsAt (w.setCell ⟨g, off + i * 2 + 1, none⟩ (.string n)) g off (L.set i { r with value := n }) := by
  intro j q hq
  by_cases e : j = i
  · subst e
    have hl := (List.getElem?_eq_some_iff.1 hr).1
    rw [List.getElem?_set_self hl] at hq
    obtain rfl := Option.some.inj hq
    obtain ⟨a, c⟩ := h j r hr
    exact ⟨by rw [hcell_set_off (by omega)]; exact a, hcell_set_same c⟩
  · rw [List.getElem?_set_ne (fun k => e k.symm)] at hq
    obtain ⟨a, c⟩ := h j q hq
    exact ⟨by rw [hcell_set_off (by omega)]; exact a, by rw [hcell_set_off (by omega)]; exact c⟩
/-- The state of the marking loop: j lines are marked. -/
structure HMarked (w : World) (g off : Nat) (k n j : Nat) (L : List Hdr) (W : World) : Prop where
  len : L.length = n
  done : ∀ i, i < j → L[i]? = some (mkHR k i)
  items : HeadsAt W g off L
  thaw : ∀ o, W.frozen? ⟨g, o, none⟩ = false
  apart : Apart g w W
  low : Below g w W
  lt : g < W.heap.size
theorem HMarked.below {w : World} {g off k n j : Nat} {L : List Hdr} {W W' : World} (h : HMarked w g off k n j L W) (hb : Below W.heap.size W W') : HMarked w g off k n j L W' :=
  ⟨h.len, h.done, h.items.keep hb, fun o => by rw [hb.frozen (p := ⟨g, o, none⟩) h.lt, h.thaw], h.apart.trans (.below hb), h.low.trans (hb.mono (Nat.le_of_lt h.lt)), Nat.lt_of_lt_of_le h.lt hb.size⟩
theorem HMarked.set {w : World} {g off k n j o : Nat} {L L' : List Hdr} {W : World} {v : Value} (h : HMarked w g off k n j L W) (hl : L'.length = L.length) (hd : ∀ i, i < j → L'[i]? = L[i]?) (hi : HeadsAt (W.setCell ⟨g, o, none⟩ v) g off L') : HMarked w g off k n j L' (W.setCell ⟨g, o, none⟩ v) :=
  ⟨hl.trans h.len, fun i hi => (hd i hi).trans (h.done i hi), hi, fun o => by rw [World.frozen?_setCell, h.thaw], h.apart.trans (.set _ _ _ _), h.low.setCell (Nat.le_refl _) _, by simpa using h.lt⟩
end Go.Proofs.YtojcjpdgjohldaaGreatDoor
/-
  markHeaderS and heldHeaderS.
-/
namespace Go.Proofs.YtojcjpdgjohldaaGreatDoor
open Go.ChangeShapes Go.WideShapes Go.ChangeAt Go.RowKit Go.Sort
set_option maxRecDepth 100000 in
set_option maxHeartbeats 4000000 in
theorem markHeaderS_any (w : World) (g off cap n k : Nat) (l : List Hdr) (hn : l.length = n) (hn2 : n ≤ 1048576) (hk0 : 1 ≤ k) (hk1 : k ≤ 1000) (hi : HeadsAt w g off l) (hf : ∀ o, w.frozen? ⟨g, o, none⟩ = false) (hg : g < w.heap.size) :
    Calls Tryz.prog 102 #[.slice (some ⟨g, off, none⟩) n cap, .int .i64 (k : Int)] w fun e w' => e = .returned (.int .i64 ((k + 2 * n : Nat) : Int)) ∧ HeadsAt w' g off (mkHL k n) ∧ Apart g w w' ∧ Below g w w' ∧ ∀ o, w'.frozen? ⟨g, o, none⟩ = false := by
  have HST : Hid (HMarked w g off k n 0 l w) := ⟨hn, fun i h => by omega, hi, hf, .refl _ _, Below.refl _ _, hg⟩
  clear hi hf hg hn
  go_enter Tryz.func102, Tryz.ntmps102
  go_wp2_with fail
  go_loopw [1, 5] (fun x i wr => ∃ (j : Nat) (L : List Hdr), j ≤ n ∧ i = .int .i64 (j : Int) ∧ x = .int .i64 ((k + 2 * j : Nat) : Int) ∧ HMarked w g off k n j L wr) (fun _ i _ => n - (intOf i).toNat)
  case atStart => exact ⟨0, l, Nat.zero_le _, rfl, rfl, HST.out⟩
  case round =>
    obtain ⟨j, L, hj, rfl, rfl, hm⟩ := hrel
    have HM : Hid (HMarked w g off k n j L wr) := hm
    clear hm HST
    by_cases hlt : j < n
    · obtain ⟨r, hr⟩ : ∃ r, L[j]? = some r := ⟨L[j]'(by have := HM.out.len; omega), List.getElem?_eq_getElem _⟩
      have HR : Hid (L[j]? = some r) := hr
      clear hr
      have g0 : (0 : Int) ≤ j := by omega
      have g1 : (j : Int) < n := by omega
      have HT1 : Hid (∀ w, Calls Tryz.prog 149 #[.int .i64 ((k + 2 * j : Nat) : Int)] w fun e w' => e = .returned (.string (mkT (k + 2 * j))) ∧ Below w.heap.size w w') := markText_any (k + 2 * j) (by omega) (by omega)
      go_wp2_with fail
      refine (HT1.out _).mono ?_
      rintro e w1 ⟨rfl, hb1⟩
      have HM1 : Hid (HMarked w g off k n j L w1) := HM.out.below hb1
      clear hb1 HM
      obtain ⟨p1, p3⟩ := HM1.out.items j r HR.out
      have f1 := HM1.out.thaw (off + j * 2)
      have HT2 : Hid (∀ w, Calls Tryz.prog 149 #[.int .i64 ((k : Int) + 2 * j + 1)] w fun e w' => e = .returned (.string (mkT (k + 2 * j + 1))) ∧ Below w.heap.size w w') := by
        have := markText_any (k + 2 * j + 1) (by omega) (by omega)
        rw [show ((k + 2 * j + 1 : Nat) : Int) = (k : Int) + 2 * j + 1 by omega] at this
        exact this
      have hl : Hid (j < L.length) := (List.getElem?_eq_some_iff.1 HR.out).1
      have HM2 := HM1.out.set (L' := L.set j { r with name := mkT (k + 2 * j) }) (by simp) (fun i hi => by rw [List.getElem?_set_ne (by omega)]) (hput_name HM1.out.items HR.out (mkT (k + 2 * j)))
      have HM4 : Hid _ := HM2
      clear HM2 HM1
      go_wp2_with fail
      refine (HT2.out _).mono ?_
      rintro e w2 ⟨rfl, hb2⟩
      have HM5 : Hid (HMarked w g off k n j (L.set j { r with name := mkT (k + 2 * j) }) w2) := HM4.out.below hb2
      clear hb2 HM4 p1 p3 f1
      have hr5 : (L.set j { r with name := mkT (k + 2 * j) })[j]? = some { r with name := mkT (k + 2 * j) } := List.getElem?_set_self hl.out
      obtain ⟨p1, p3⟩ := HM5.out.items j _ hr5
      have f3 := HM5.out.thaw (off + j * 2 + 1)
      have HM6 := HM5.out.set (L' := (L.set j { r with name := mkT (k + 2 * j) }).set j (mkHR k j)) (by simp) (fun i hi => by rw [List.getElem?_set_ne (by omega)]) (by
        have := hput_value HM5.out.items hr5 (mkT (k + 2 * j + 1))
        exact this)
      have HM7 : Hid _ := HM6
      clear HM6 hr5 HM5
      go_wp2_with fail
      go_roundw
      case rel => exact ⟨j + 1, _, by omega, by go_num, by congr 1, HM7.out.len, fun i hi => by
        by_cases e : i = j
        · subst e; exact List.getElem?_set_self (by simpa using hl.out)
        · exact HM7.out.done i (by omega), HM7.out.items, HM7.out.thaw, HM7.out.apart, HM7.out.low, HM7.out.lt⟩
      case measure => simp [intOf]; omega
    · obtain rfl : j = n := by omega
      have HX : Hid (HeadsAt wr g off (mkHL k j)) := by
        have e : L = mkHL k j := by
          apply List.ext_getElem?
          intro i
          by_cases hi : i < j
          · rw [HM.out.done i hi, mkHL_get hi]
          · rw [List.getElem?_eq_none (by have := HM.out.len; omega), List.getElem?_eq_none (by rw [mkHL_len]; omega)]
        show HeadsAt _ _ _ _
        rw [← e]
        exact HM.out.items
      go_wp2_with fail
      go_ret
      exact ⟨rfl, HX.out, HM.out.apart, HM.out.low, HM.out.thaw⟩
set_option maxRecDepth 100000 in
set_option maxHeartbeats 4000000 in
theorem heldHeaderS_any (w : World) (g off cap n k : Nat) (hn2 : n ≤ 1048576) (hk0 : 1 ≤ k) (hk1 : k ≤ 1000) (hi : HeadsAt w g off (mkHL k n)) :
    Calls Tryz.prog 150 #[.slice (some ⟨g, off, none⟩) n cap, .int .i64 (k : Int)] w fun e w' => e = .returned (.int .i64 ((k + 2 * n : Nat) : Int)) ∧ Below w.heap.size w w' := by
  have HI : Hid (HeadsAt w g off (mkHL k n)) := hi
  clear hi
  go_enter Tryz.func150, Tryz.ntmps150
  go_wp2_with fail
  go_loopw [1, 5] (fun x i wr => ∃ (j : Nat), j ≤ n ∧ i = .int .i64 (j : Int) ∧ x = .int .i64 ((k + 2 * j : Nat) : Int) ∧ Below w.heap.size w wr) (fun _ i _ => n - (intOf i).toNat)
  case atStart => exact ⟨0, Nat.zero_le _, rfl, rfl, Below.refl _ _⟩
  case round =>
    obtain ⟨j, hj, rfl, rfl, hb⟩ := hrel
    have KB : Hid (Below w.heap.size w wr) := hb
    clear hb
    by_cases hlt : j < n
    · obtain ⟨p1, p3⟩ := (HI.out.keep KB.out) j _ (mkHL_get hlt)
      have q1 : wr.cell? ⟨g, off + j * 2, none⟩ = some (.string (mkT (k + 2 * j))) := p1
      have q3 : wr.cell? ⟨g, off + j * 2 + 1, none⟩ = some (.string (mkT (k + 2 * j + 1))) := p3
      clear p1 p3
      have g0 : (0 : Int) ≤ j := by omega
      have g1 : (j : Int) < n := by omega
      have HT1 : Hid (∀ w, Calls Tryz.prog 149 #[.int .i64 ((k : Int) + 2 * j)] w fun e w' => e = .returned (.string (mkT (k + 2 * j))) ∧ Below w.heap.size w w') := by
        have := markText_any (k + 2 * j) (by omega) (by omega)
        rw [show ((k + 2 * j : Nat) : Int) = (k : Int) + 2 * j by omega] at this
        exact this
      have HT2 : Hid (∀ w, Calls Tryz.prog 149 #[.int .i64 ((k : Int) + 2 * j + 1)] w fun e w' => e = .returned (.string (mkT (k + 2 * j + 1))) ∧ Below w.heap.size w w') := by
        have := markText_any (k + 2 * j + 1) (by omega) (by omega)
        rw [show ((k + 2 * j + 1 : Nat) : Int) = (k : Int) + 2 * j + 1 by omega] at this
        exact this
      have KC : Hid (wr.cell? ⟨g, off + j * 2 + 1, none⟩ = some (.string (mkT (k + 2 * j + 1)))) := q3
      clear q3
      generalize mkT (k + 2 * j) = t1 at *
      generalize mkT (k + 2 * j + 1) = t2 at *
      have x1 := cell_regrown q1
      clear q1
      have cE : ∀ d os, Calls Tryz.prog 149 #[.int .i64 ((k : Int) + 2 * j)] (grow (redrawn wr d) os) fun e w'' => e = .returned (.string t1) ∧ ∃ p : Regrown, w'' = grow (redrawn wr p.d) p.os := fun d os => Calls.regrown_of (HT1.out _)
      go_wp2_with fail
      refine wp_region_quiet_below (by kernel_rfl) (by kernel_rfl) ?_
      repeat (go_big_quiet_step ((go_at_call 149; exact cE _ _)))
      refine wpQuiet_nil ?_
      intro w2 hw2
      have hb2 : Below wr.heap.size wr w2 := by
        obtain ⟨⟨d, os⟩, rfl⟩ := hw2
        exact below_regrown wr d os
      have KB2 : Hid (Below w.heap.size w w2) := KB.out.trans (hb2.mono KB.out.size)
      have y3 : w2.cell? ⟨g, off + j * 2 + 1, none⟩ = some (.string t2) := by rw [hb2.cell (block_lt_of_cell KC.out), KC.out]
      have x3 := cell_regrown y3
      clear x1 cE hw2 hb2 KB KC y3
      have cF : ∀ d os, Calls Tryz.prog 149 #[.int .i64 ((k : Int) + 2 * j + 1)] (grow (redrawn w2 d) os) fun e w'' => e = .returned (.string t2) ∧ ∃ p : Regrown, w'' = grow (redrawn w2 p.d) p.os := fun d os => Calls.regrown_of (HT2.out _)
      go_wp2_with fail
      refine wp_region_quiet_below (by kernel_rfl) (by kernel_rfl) ?_
      repeat (go_big_quiet_step ((go_at_call 149; exact cF _ _)))
      refine wpQuiet_nil ?_
      intro w3 hw3
      have KB3 : Hid (Below w.heap.size w w3) := by
        obtain ⟨⟨d, os⟩, rfl⟩ := hw3
        exact KB2.out.trans ((below_regrown w2 d os).mono KB2.out.size)
      clear x3 cF hw3 KB2
      go_wp2_with fail
      go_roundw
      case rel => exact ⟨j + 1, by omega, by go_num, by congr 1, KB3.out⟩
      case measure => simp [intOf]; omega
    · obtain rfl : j = n := by omega
      go_wp2_with fail
      go_ret
      exact ⟨rfl, KB.out⟩
end Go.Proofs.YtojcjpdgjohldaaGreatDoor
/-
  Head lines as a value: compared, marked, held.
-/
namespace Go.Proofs.YtojcjpdgjohldaaGreatDoor
open Go.ChangeShapes Go.WideShapes Go.ChangeAt Go.RowKit Go.Sort
def HLV (w : World) (v : Value) (l : List Hdr) : Prop :=
  (v = .slice none 0 0 ∧ l = []) ∨ ∃ g cap, v = .slice (some ⟨g, 0, none⟩) l.length cap ∧ g < w.heap.size ∧ HeadsAt w g 0 l ∧ ∀ o, w.frozen? ⟨g, o, none⟩ = false
theorem OwnH.lv {w : World} {base : Nat} {v : Value} {l : List Hdr} (h : OwnH w base v l) : HLV w v l ∧ ∀ b, v.ownBlock = some b → base ≤ b := by
  have h0 := h
  obtain ⟨_, h1 | ⟨g, c, cur, rfl, hg, hh, _⟩⟩ := h
  · have e : l = [] := List.eq_nil_of_length_eq_zero h1.2
    exact ⟨.inl ⟨h1.1, e⟩, fun b hb => by rw [h1.1] at hb; cases hb⟩
  · refine ⟨.inr ⟨g, c, rfl, (Array.getElem?_eq_some_iff.1 hh).1, ?_, fun o => ?_⟩, fun b hb => ?_⟩
    · obtain ⟨a, c', e, hi⟩ := h0.at
      rcases hi with rfl | ⟨b, off, rfl, hat⟩
      · intro i r hr; simp at hr
      · simp only [Value.slice.injEq, Option.some.injEq] at e
        obtain ⟨e, _⟩ := e
        have e1 := congrArg Addr.block e
        have e2 := congrArg Addr.off e
        simp only at e1 e2
        rw [e1, e2]
        exact hat
    · simp [World.frozen?, hh]
    · simp only [Value.ownBlock, Option.some.injEq] at hb; omega
theorem HLV.below {w w' : World} {v : Value} {l : List Hdr} (h : HLV w v l) (hb : Below w.heap.size w w') : HLV w' v l := by
  rcases h with h | ⟨g, c, e, hg, hi, hf⟩
  · exact .inl h
  · exact .inr ⟨g, c, e, Nat.lt_of_lt_of_le hg hb.size, hi.keep hb, fun o => by rw [hb.frozen (p := ⟨g, o, none⟩) hg, hf]⟩
/-- All that was there, but for the memory of v, is as it was. -/
structure HAV (v : Value) (w w' : World) : Prop where
  size : w.heap.size ≤ w'.heap.size
  cell : ∀ b o, b < w.heap.size → v.ownBlock ≠ some b → w'.cell? ⟨b, o, none⟩ = w.cell? ⟨b, o, none⟩
  frozen : ∀ b o, b < w.heap.size → v.ownBlock ≠ some b → w'.frozen? ⟨b, o, none⟩ = w.frozen? ⟨b, o, none⟩
theorem HAV.below {v : Value} {w w' : World} (h : Below w.heap.size w w') : HAV v w w' :=
  ⟨h.size, fun b o hb _ => h.cell (p := ⟨b, o, none⟩) hb, fun b o hb _ => h.frozen (p := ⟨b, o, none⟩) hb⟩
theorem HLV.av {w w' : World} {v v1 : Value} {l : List Hdr} (h : HLV w v1 l) (k : HAV v w w') (hne : ∀ b, v1.ownBlock = some b → v.ownBlock ≠ some b) : HLV w' v1 l := by
  rcases h with h | ⟨g, c, rfl, hg, hi, hf⟩
  · exact .inl h
  · have hn := hne g rfl
    exact .inr ⟨g, c, rfl, Nat.lt_of_lt_of_le hg k.size, fun i r hr => by rw [k.cell g _ hg hn, k.cell g _ hg hn]; exact hi i r hr, fun o => by rw [k.frozen g o hg hn, hf]⟩
set_option maxHeartbeats 1000000 in
theorem eqHeaderS_nil (w : World) (a b : Option Addr) (c d : Nat) :
    Calls Tryz.prog 101 #[.slice a 0 c, .slice b 0 d] w fun e w' => e = .returned (.bool true) ∧ Below w.heap.size w w' := by
  go_enter Tryz.func101, Tryz.ntmps101
  go_wp2_with fail
  go_loop [5] (fun i => i = .int .i64 0) (fun _ => 0)
  case atStart => rfl
  case round =>
    obtain rfl := hrel
    go_wp2_with fail
    go_ret
    exact ⟨rfl, Below.refl _ _⟩
theorem eqHeaderS_lv (w : World) (v1 v2 : Value) (l : List Hdr) (hl : l.length ≤ 1048576) (h1 : HLV w v1 l) (h2 : HLV w v2 l) :
    Calls Tryz.prog 101 #[v1, v2] w fun e w' => e = .returned (.bool true) ∧ Below w.heap.size w w' := by
  rcases h1 with ⟨rfl, rfl⟩ | ⟨g, c, rfl, _, hi, _⟩
  · rcases h2 with ⟨rfl, _⟩ | ⟨g, c, rfl, _, _, _⟩
    · exact eqHeaderS_nil w _ _ _ _
    · exact eqHeaderS_nil w _ _ _ _
  · rcases h2 with ⟨rfl, rfl⟩ | ⟨g', c', rfl, _, hi', _⟩
    · exact eqHeaderS_nil w _ _ _ _
    · exact eqHeaderS_same w g 0 g' 0 c c' l hl hi hi'
set_option maxHeartbeats 1000000 in
theorem markHeaderS_nil (w : World) (a : Option Addr) (c k : Nat) :
    Calls Tryz.prog 102 #[.slice a 0 c, .int .i64 (k : Int)] w fun e w' => e = .returned (.int .i64 (k : Int)) ∧ Below w.heap.size w w' := by
  go_enter Tryz.func102, Tryz.ntmps102
  go_wp2_with fail
  go_loop [1, 5] (fun x i => x = .int .i64 (k : Int) ∧ i = .int .i64 0) (fun _ _ => 0)
  case atStart => exact ⟨rfl, rfl⟩
  case round =>
    obtain ⟨rfl, rfl⟩ := hrel
    go_wp2_with fail
    go_ret
    exact ⟨rfl, Below.refl _ _⟩
set_option maxHeartbeats 1000000 in
theorem heldHeaderS_nil (w : World) (a : Option Addr) (c k : Nat) :
    Calls Tryz.prog 150 #[.slice a 0 c, .int .i64 (k : Int)] w fun e w' => e = .returned (.int .i64 (k : Int)) ∧ Below w.heap.size w w' := by
  go_enter Tryz.func150, Tryz.ntmps150
  go_wp2_with fail
  go_loop [1, 5] (fun x i => x = .int .i64 (k : Int) ∧ i = .int .i64 0) (fun _ _ => 0)
  case atStart => exact ⟨rfl, rfl⟩
  case round =>
    obtain ⟨rfl, rfl⟩ := hrel
    go_wp2_with fail
    go_ret
    exact ⟨rfl, Below.refl _ _⟩
theorem markHeaderS_lv (w : World) (v : Value) (l : List Hdr) (hl : l.length ≤ 1048576) (h : HLV w v l) (base : Nat) (hb : ∀ b, v.ownBlock = some b → base ≤ b) (hbs : base ≤ w.heap.size) :
    Calls Tryz.prog 102 #[v, .int .i64 1] w fun e w' => e = .returned (.int .i64 ((1 + 2 * l.length : Nat) : Int)) ∧ HLV w' v (mkHL 1 l.length) ∧ HAV v w w' ∧ Below base w w' := by
  rcases h with ⟨rfl, rfl⟩ | ⟨g, c, rfl, hg, hi, hf⟩
  · exact (markHeaderS_nil w none 0 1).mono fun _ _ ⟨h1, h2⟩ => ⟨h1, .inl ⟨rfl, rfl⟩, .below h2, h2.mono hbs⟩
  · refine (markHeaderS_any w g 0 c l.length 1 l rfl hl (by omega) (by omega) hi hf hg).mono ?_
    rintro e w' ⟨h1, h2, h3, h4, h5⟩
    have hne : ∀ b, (Value.slice (some ⟨g, 0, none⟩) l.length c).ownBlock ≠ some b → b ≠ g := fun b hb e => hb (by subst e; rfl)
    refine ⟨h1, ?_, ⟨h3.size, fun b o hb hn => h3.cell b o hb (hne b hn), fun b o hb hn => h3.frozen b o hb (hne b hn)⟩, h4.mono (hb g rfl)⟩
    exact .inr ⟨g, c, by rw [mkHL_len], Nat.lt_of_lt_of_le hg h3.size, h2, h5⟩
theorem heldHeaderS_lv (w : World) (v : Value) (n : Nat) (hl : n ≤ 1048576) (h : HLV w v (mkHL 1 n)) :
    Calls Tryz.prog 150 #[v, .int .i64 1] w fun e w' => e = .returned (.int .i64 ((1 + 2 * n : Nat) : Int)) ∧ Below w.heap.size w w' := by
  rcases h with ⟨rfl, h0⟩ | ⟨g, c, rfl, _, hi, _⟩
  · have e := congrArg List.length h0
    rw [mkHL_len] at e
    simp at e
    subst e
    exact heldHeaderS_nil w none 0 1
  · rw [mkHL_len]
    exact heldHeaderS_any w g 0 c n 1 hl (by omega) (by omega) hi
end Go.Proofs.YtojcjpdgjohldaaGreatDoor
/-
  Results of head lines: compared, marked, held.
-/
namespace Go.Proofs.YtojcjpdgjohldaaGreatDoor
open Go.ChangeShapes Go.WideShapes Go.ChangeAt Go.RowKit Go.Sort
/-- A result in a variable. -/
structure HHRoom (w : World) (b : Nat) (c : Int) (v : Value) : Prop where
  c0 : w.cell? ⟨b, 0, none⟩ = some (.int .i64 c)
  c1 : w.cell? ⟨b, 1, none⟩ = some v
theorem HHRoom.lt {w : World} {b : Nat} {c : Int} {v : Value} (h : HHRoom w b c v) : b < w.heap.size := block_lt_of_cell h.c0
theorem HHRoom.keep {w w' : World} {b : Nat} {c : Int} {v : Value} (h : HHRoom w b c v) (hb : Below w.heap.size w w') : HHRoom w' b c v :=
  ⟨by rw [hb.cell (p := ⟨b, 0, none⟩) h.lt, h.c0], by rw [hb.cell (p := ⟨b, 1, none⟩) h.lt, h.c1]⟩
theorem HHRoom.av {w w' : World} {b : Nat} {c : Int} {v u : Value} (h : HHRoom w b c v) (k : HAV u w w') (hn : u.ownBlock ≠ some b) : HHRoom w' b c v :=
  ⟨by rw [k.cell b 0 h.lt hn, h.c0], by rw [k.cell b 1 h.lt hn, h.c1]⟩
theorem hroom_new (w : World) (c : Int) (a : Option Addr) (n cap : Nat) (t : TypeId) : HHRoom (w.alloc (.cells #[.int .i64 c, .slice a n cap] t)) w.heap.size c (.slice a n cap) := ⟨by simp, by simp⟩
theorem HLV.block_lt {w : World} {v : Value} {l : List Hdr} (h : HLV w v l) : ∀ b, v.ownBlock = some b → b < w.heap.size := by
  rcases h with ⟨rfl, _⟩ | ⟨g, c, rfl, hg, _⟩
  · intro b hb; cases hb
  · intro b hb; simp only [Value.ownBlock, Option.some.injEq] at hb; omega
/-- What a call hands back: head lines in memory of its own. -/
structure HGot (L : List Hdr) (base : Nat) (a : Option Addr) (n cap : Nat) (w : World) : Prop where
  len : n = L.length
  lv : HLV w (.slice a n cap) L
  ge : ∀ b, (Value.slice a n cap).ownBlock = some b → base ≤ b
theorem HRes.got {c : Int} {L : List Hdr} {base : Nat} {e : Ending} {w : World} (h : HRes c L base e w) : ∃ a n cap, e = .returned (.agg #[.int .i64 c, .slice a n cap]) ∧ HGot L base a n cap w := by
  obtain ⟨v, rfl, ho⟩ := h
  obtain ⟨a, c, rfl, _⟩ := ho.at
  exact ⟨a, _, c, rfl, rfl, ho.lv.1, ho.lv.2⟩
structure HMarkedR (w : World) (base : Nat) (a : Option Addr) (n ca : Nat) (w' : World) : Prop where
  lv : HLV w' (.slice a n ca) (mkHL 1 n)
  av : HAV (.slice a n ca) w w'
  low : Below base w w'
/-- Two results in variables, and their lines. -/
structure HKK (w : World) (X1 X2 : Nat) (c : Int) (v1 v2 : Value) (L1 L2 : List Hdr) (W : World) : Prop where
  b : Below w.heap.size w W
  r1 : HHRoom W X1 c v1
  r2 : HHRoom W X2 c v2
  l1 : HLV W v1 L1
  l2 : HLV W v2 L2
theorem HKK.keep {w : World} {X1 X2 : Nat} {c : Int} {v1 v2 : Value} {L1 L2 : List Hdr} {W W' : World} (h : HKK w X1 X2 c v1 v2 L1 L2 W) (hb : Below W.heap.size W W') : HKK w X1 X2 c v1 v2 L1 L2 W' :=
  ⟨h.b.trans (hb.mono h.b.size), h.r1.keep hb, h.r2.keep hb, h.l1.below hb, h.l2.below hb⟩
theorem HKK.av {w : World} {X1 X2 : Nat} {c : Int} {v1 v2 u : Value} {L1 L2 : List Hdr} {W W' : World} (h : HKK w X1 X2 c v1 v2 L1 L2 W) (k : HAV u W W') (hb : Below w.heap.size W W') (h1 : u.ownBlock ≠ some X1) (h2 : u.ownBlock ≠ some X2) (h3 : ∀ b, v1.ownBlock = some b → u.ownBlock ≠ some b) (h4 : ∀ b, v2.ownBlock = some b → u.ownBlock ≠ some b) : HKK w X1 X2 c v1 v2 L1 L2 W' :=
  ⟨h.b.trans hb, h.r1.av k h1, h.r2.av k h2, h.l1.av k h3, h.l2.av k h4⟩
/-- Lines of the law's own, that may be written. -/
structure HMine (W : World) (B : Nat) (l : List Hdr) : Prop where
  at0 : HeadsAt W B 0 l
  free : ∀ o, W.frozen? ⟨B, o, none⟩ = false
  lt : B < W.heap.size
theorem HMine.keep {W W' : World} {B : Nat} {l : List Hdr} (h : HMine W B l) (hb : Below W.heap.size W W') : HMine W' B l :=
  ⟨h.at0.keep hb, fun o => by rw [hb.frozen (p := ⟨B, o, none⟩) h.lt]; exact h.free o, Nat.lt_of_lt_of_le h.lt hb.size⟩
theorem HMine.mark {W : World} {B base : Nat} {l : List Hdr} (h : HMine W B l) (hl : l.length ≤ 1048576) (hb : base ≤ B) : ∃ q : Int, ¬ q < 0 ∧ Calls Tryz.prog 102 #[.slice (some ⟨B, 0, none⟩) l.length l.length, .int .i64 1] W fun e w' => e = .returned (.int .i64 q) ∧ HAV (.slice (some ⟨B, 0, none⟩) l.length l.length) W w' ∧ Below base W w' :=
  ⟨((1 + 2 * l.length : Nat) : Int), by omega, (markHeaderS_lv W (.slice (some ⟨B, 0, none⟩) l.length l.length) l hl (.inr ⟨B, _, rfl, h.lt, h.at0, h.free⟩) base (fun q hq => by simp only [Value.ownBlock, Option.some.injEq] at hq; omega) (by have := h.lt; omega)).mono fun _ _ ⟨h1, _, h3, h4⟩ => ⟨h1, h3, h4⟩⟩
end Go.Proofs.YtojcjpdgjohldaaGreatDoor
/-
  Results that hold bytes: compared, marked, held.
-/
namespace Go.Proofs.YtojcjpdgjohldaaGreatDoor
open Go.ChangeShapes Go.WideShapes Go.ChangeAt Go.RowKit Go.Sort
set_option maxHeartbeats 2000000 in
theorem eqBytesResult_own (W : World) (c : Int) (a1 a2 : Option Addr) (n1 n2 k1 k2 b1 b2 : Nat) (l : List UInt8) (hl : l.length ≤ 1048576) (h1 : BOwn W b1 (.slice a1 n1 k1) l) (h2 : BOwn W b2 (.slice a2 n2 k2) l) :
    Calls Tryz.prog 38 #[.agg #[.int .i64 c, .slice a1 n1 k1], .agg #[.int .i64 c, .slice a2 n2 k2]] W fun e w' => e = .returned (.bool true) ∧ Below W.heap.size W w' := by
  obtain ⟨x1, y1, e1, i1⟩ := h1.shape
  obtain ⟨x2, y2, e2, i2⟩ := h2.shape
  simp only [Value.slice.injEq] at e1 e2
  obtain ⟨rfl, rfl, rfl⟩ := e1
  obtain ⟨rfl, rfl, rfl⟩ := e2
  have bV : Below W.heap.size W ((W.alloc (.cells #[.int .i64 c, .slice a1 l.length k1] 29)).alloc (.cells #[.int .i64 c, .slice a2 l.length k2] 29)) := ((Below.refl _ _).alloc (Nat.le_refl _) _).alloc (by simp) _
  have C := eqByteS_same _ a1 a2 k1 k2 l hl (i1.keep bV) (i2.keep bV)
  have HB : Hid (Below W.heap.size W _) := bV
  clear bV i1 i2 h1 h2
  generalize l.length = n at *
  go_enter Tryz.func38, Tryz.ntmps38
  go_wp2_with fail
  refine C.mono ?_
  rintro e w1 ⟨rfl, hb1⟩
  have HB1 : Hid (Below W.heap.size W w1) := HB.out.trans (hb1.mono HB.out.size)
  clear hb1 C HB
  go_wp2_with fail
  go_ret
  exact ⟨rfl, HB1.out⟩
/-- All that was there, but for the memory of v, is as it was. -/
structure BAV (v : Value) (w w' : World) : Prop where
  size : w'.heap.size = w.heap.size
  cell : ∀ b o, b < w.heap.size → v.ownBlock ≠ some b → w'.cell? ⟨b, o, none⟩ = w.cell? ⟨b, o, none⟩
  frozen : ∀ b o, w'.frozen? ⟨b, o, none⟩ = w.frozen? ⟨b, o, none⟩
/-- v holds the marks from k on. -/
def MarkB (w : World) (v : Value) (k n : Nat) : Prop := n = 0 ∨ ∃ g c, v = .slice (some ⟨g, 0, none⟩) n c ∧ g < w.heap.size ∧ ∀ i, i < n → w.cell? ⟨g, i, none⟩ = some (.int .u8 (((k + i : Nat) : Int) % 256))
theorem MarkB.keep {w w' : World} {v : Value} {k n : Nat} (h : MarkB w v k n) (hb : Below w.heap.size w w') : MarkB w' v k n := by
  rcases h with h | ⟨g, c, e, hg, hc⟩
  · exact .inl h
  · exact .inr ⟨g, c, e, Nat.lt_of_lt_of_le hg hb.size, fun i hi => by rw [hb.cell (p := ⟨g, i, none⟩) hg]; exact hc i hi⟩
theorem MarkB.av {w w' : World} {v u : Value} {k n : Nat} (h : MarkB w v k n) (ha : BAV u w w') (hne : ∀ b, v.ownBlock = some b → u.ownBlock ≠ some b) : MarkB w' v k n := by
  rcases h with h | ⟨g, c, rfl, hg, hc⟩
  · exact .inl h
  · exact .inr ⟨g, c, rfl, by rw [ha.size]; exact hg, fun i hi => by rw [ha.cell g i hg (hne g rfl)]; exact hc i hi⟩
set_option maxHeartbeats 2000000 in
theorem markByteS_row (W : World) (g n cap k base : Nat) (hn : n ≤ 1048576) (hk : k ≤ 10000000) (hbase : base ≤ g) (hg : g < W.heap.size) (hm : HRoom W g n) :
    Calls Tryz.prog 46 #[.slice (some ⟨g, 0, none⟩) n cap, .int .i64 (k : Int)] W fun e w' => e = .returned (.int .i64 ((k + n : Nat) : Int)) ∧ (MarkB w' (.slice (some ⟨g, 0, none⟩) n cap) k n ∧ BAV (.slice (some ⟨g, 0, none⟩) n cap) W w' ∧ Below base W w') := by
  have HM : Hid (HRoom W g n) := hm
  clear hm
  go_enter Tryz.func46, Tryz.ntmps46
  go_wp2_with fail
  go_loopw [1, 5] (fun x i wr => ∃ j : Nat, j ≤ n ∧ i = .int .i64 (j : Int) ∧ x = .int .i64 ((k + j : Nat) : Int) ∧ HRoom wr g n ∧ (∀ q, q < j → wr.cell? ⟨g, q, none⟩ = some (.int .u8 (((k + q : Nat) : Int) % 256))) ∧ BAV (.slice (some ⟨g, 0, none⟩) n cap) W wr ∧ Below base W wr) (fun _ i _ => n - (intOf i).toNat)
  case atStart => exact ⟨0, Nat.zero_le _, rfl, rfl, HM.out, fun q hq => absurd hq (by omega), ⟨rfl, fun _ _ _ _ => rfl, fun _ _ => rfl⟩, Below.refl _ _⟩
  case round =>
    obtain ⟨j, hj, rfl, rfl, hroom, hcells, hav, hb⟩ := hrel
    clear HM
    by_cases hlt : j < n
    · obtain ⟨⟨u, hu⟩, hf⟩ := hroom j hlt
      have H1 : Hid (HRoom wr g n ∧ (∀ q, q < j → wr.cell? ⟨g, q, none⟩ = some (.int .u8 (((k + q : Nat) : Int) % 256))) ∧ BAV (.slice (some ⟨g, 0, none⟩) n cap) W wr ∧ Below base W wr) := ⟨hroom, hcells, hav, hb⟩
      have hw : IntKind.i64.wrap ((k + j : Nat) + 1 : Int) = ((k + (j + 1) : Nat) : Int) := by
        rw [show (((k + j : Nat) : Int) + 1) = ((k + (j + 1) : Nat) : Int) from by omega]
        unfold IntKind.wrap; simp [IntKind.signed, IntKind.bits]; omega
      have g1 : (j : Int) < n := by omega
      have HJ : Hid (((k + (j + 1) : Nat) : Int) = ((k + (j + 1) : Nat) : Int)) := rfl
      clear hroom hcells hav hb
      obtain ⟨K, hK⟩ : ∃ K : Int, K = ((k + j : Nat) : Int) := ⟨_, rfl⟩
      have HK : Hid (K = ((k + j : Nat) : Int)) := hK
      rw [← hK] at hw ⊢
      clear hK
      go_wp2_with fail
      refine ⟨⟨j + 1, by omega, by congr 1, by congr 1, ?_⟩, by simp [intOf]; omega⟩
      obtain ⟨hroom, hcells, hav, hb⟩ := H1.out
      rw [HK.out]
      refine ⟨hroom.set _ _, fun q hq => ?_, ⟨by simpa using hav.size, fun b o hb0 hne => ?_, fun b o => by rw [World.frozen?_setCell]; exact hav.frozen b o⟩, hb.setCell hbase _⟩
      · by_cases e : q = j
        · subst e; exact World.cell?_setCell_same _ _ _ hu
        · rw [World.cell?_setCell_other _ _ _ _ (hoff_ne (by omega))]; exact hcells q (by omega)
      · have hbg : b ≠ g := fun e => hne (by subst e; rfl)
        rw [World.cell?_setCell_other _ _ _ _ (fun e => hbg (congrArg Addr.block e).symm)]
        exact hav.cell b o hb0 hne
    · have ej : j = n := by omega
      subst ej
      have HF : Hid (MarkB wr (.slice (some ⟨g, 0, none⟩) j cap) k j ∧ BAV (.slice (some ⟨g, 0, none⟩) j cap) W wr ∧ Below base W wr) := ⟨.inr ⟨g, cap, rfl, by rw [hav.size]; exact hg, hcells⟩, hav, hb⟩
      clear hcells hav hb hroom
      obtain ⟨K, hK⟩ : ∃ K : Int, K = ((k + j : Nat) : Int) := ⟨_, rfl⟩
      have HK : Hid (K = ((k + j : Nat) : Int)) := hK
      rw [← hK]
      clear hK
      go_wp2_with fail
      go_ret
      exact ⟨ret_int (by rw [HK.out]), HF.out⟩
set_option maxHeartbeats 2000000 in
theorem heldByteS_row (W : World) (g n cap k : Nat) (hn : n ≤ 1048576) (hk : k ≤ 10000000) (hc : ∀ i, i < n → W.cell? ⟨g, i, none⟩ = some (.int .u8 (((k + i : Nat) : Int) % 256))) :
    Calls Tryz.prog 103 #[.slice (some ⟨g, 0, none⟩) n cap, .int .i64 (k : Int)] W fun e w' => e = .returned (.int .i64 ((k + n : Nat) : Int)) ∧ w' = W := by
  have HC : Hid (∀ i, i < n → W.cell? ⟨g, i, none⟩ = some (.int .u8 (((k + i : Nat) : Int) % 256))) := hc
  clear hc
  go_enter Tryz.func103, Tryz.ntmps103
  go_wp2_with fail
  go_loop [1, 5] (fun x i => ∃ j : Nat, j ≤ n ∧ i = .int .i64 (j : Int) ∧ x = .int .i64 ((k + j : Nat) : Int)) (fun _ i => n - (intOf i).toNat)
  case atStart => exact ⟨0, Nat.zero_le _, rfl, rfl⟩
  case round =>
    obtain ⟨j, hj, rfl, rfl⟩ := hrel
    by_cases hlt : j < n
    · have hu := HC.out j hlt
      have hw : IntKind.i64.wrap ((k + j : Nat) + 1 : Int) = ((k + (j + 1) : Nat) : Int) := by
        rw [show (((k + j : Nat) : Int) + 1) = ((k + (j + 1) : Nat) : Int) from by omega]
        unfold IntKind.wrap; simp [IntKind.signed, IntKind.bits]; omega
      have g1 : (j : Int) < n := by omega
      obtain ⟨K, hK⟩ : ∃ K : Int, K = ((k + j : Nat) : Int) := ⟨_, rfl⟩
      rw [← hK] at hw hu ⊢
      clear hK
      go_wp2_with fail
      exact ⟨⟨j + 1, by omega, by congr 1, by congr 1⟩, by simp [intOf]; omega⟩
    · have ej : j = n := by omega
      subst ej
      clear HC
      obtain ⟨K, hK⟩ : ∃ K : Int, K = ((k + j : Nat) : Int) := ⟨_, rfl⟩
      have HK : Hid (K = ((k + j : Nat) : Int)) := hK
      rw [← hK]
      clear hK
      go_wp2_with fail
      go_ret
      exact ⟨ret_int (by rw [HK.out]; omega), rfl⟩
/-! ### as results -/
set_option maxHeartbeats 2000000 in
theorem markBytesResult_own (W : World) (c : Int) (a : Option Addr) (n k b base : Nat) (l : List UInt8) (hl : l.length ≤ 1048576) (h : BOwn W b (.slice a n k) l) (hbb : base ≤ b) (hbW : base ≤ W.heap.size) :
    Calls Tryz.prog 41 #[.agg #[.int .i64 c, .slice a n k], .int .i64 1] W fun e w' => e = .returned (.int .i64 ((1 + n : Nat) : Int)) ∧ (MarkB w' (.slice a n k) 1 n ∧ (∀ b' o, b' < W.heap.size → (Value.slice a n k).ownBlock ≠ some b' → w'.cell? ⟨b', o, none⟩ = W.cell? ⟨b', o, none⟩ ∧ w'.frozen? ⟨b', o, none⟩ = W.frozen? ⟨b', o, none⟩) ∧ W.heap.size ≤ w'.heap.size ∧ Below base W w') := by
  obtain ⟨V, hV⟩ : ∃ V, V = W.alloc (.cells #[.int .i64 c, .slice a n k] 29) := ⟨_, rfl⟩
  have HV : Hid (V = W.alloc (.cells #[.int .i64 c, .slice a n k] 29)) := hV
  have bV : Below W.heap.size W V := by rw [hV]; exact (Below.refl _ _).alloc (Nat.le_refl _) _
  have C : Calls Tryz.prog 46 #[.slice a n k, .int .i64 1] V fun e w' => e = .returned (.int .i64 ((1 + n : Nat) : Int)) ∧ (MarkB w' (.slice a n k) 1 n ∧ BAV (.slice a n k) V w' ∧ Below base V w') := by
    rcases h with ⟨e, rfl⟩ | ⟨g, k', e, hg, hm⟩
    · simp only [Value.slice.injEq] at e
      obtain ⟨rfl, rfl, rfl⟩ := e
      clear hV HV
      go_enter Tryz.func46, Tryz.ntmps46
      go_wp2_with fail
      go_loop [1, 5] (fun x i => i = .int .i64 0 ∧ x = .int .i64 1) (fun _ _ => 0)
      case atStart => exact ⟨rfl, rfl⟩
      case round =>
        obtain ⟨rfl, rfl⟩ := hrel
        go_wp2_with fail
        go_ret
        exact ⟨rfl, .inl rfl, ⟨rfl, fun _ _ _ _ => rfl, fun _ _ => rfl⟩, Below.refl _ _⟩
    · simp only [Value.slice.injEq] at e
      obtain ⟨rfl, rfl, rfl⟩ := e
      have hm' := hm.keep bV
      refine markByteS_row V g l.length k 1 base hl (by omega) (by omega) hm'.lt ?_
      intro j hj
      have := hm'.at0 j l[j] (List.getElem?_eq_getElem hj)
      rw [Nat.zero_add] at this
      exact ⟨⟨_, this⟩, hm'.free j hj⟩
  have HB : Hid (Below W.heap.size W V) := bV
  have HBW : Hid (base ≤ W.heap.size) := hbW
  clear bV h hV
  go_enter Tryz.func41, Tryz.ntmps41
  go_wp2_with fail
  rw [← HV.out]
  refine C.mono ?_
  rintro e w1 ⟨rfl, hm1, hav, hb1⟩
  have HF : Hid (MarkB w1 (.slice a n k) 1 n ∧ (∀ b' o, b' < W.heap.size → (Value.slice a n k).ownBlock ≠ some b' → w1.cell? ⟨b', o, none⟩ = W.cell? ⟨b', o, none⟩ ∧ w1.frozen? ⟨b', o, none⟩ = W.frozen? ⟨b', o, none⟩) ∧ W.heap.size ≤ w1.heap.size ∧ Below base W w1) :=
    ⟨hm1, fun b' o hb hne => ⟨by rw [hav.cell b' o (Nat.lt_of_lt_of_le hb HB.out.size) hne, HB.out.cell (p := ⟨b', o, none⟩) hb], by rw [hav.frozen b' o, HB.out.frozen (p := ⟨b', o, none⟩) hb]⟩, by rw [hav.size]; exact HB.out.size, (HB.out.mono HBW.out).trans hb1⟩
  clear hm1 hav hb1 C HV HB HBW
  obtain ⟨K, hK⟩ : ∃ K : Int, K = ((1 + n : Nat) : Int) := ⟨_, rfl⟩
  have HK : Hid (K = ((1 + n : Nat) : Int)) := hK
  rw [← hK]
  clear hK
  go_wp2_with fail
  go_ret
  exact ⟨ret_int (by rw [HK.out]), HF.out⟩
set_option maxHeartbeats 2000000 in
theorem heldBytesResult_own (W : World) (c : Int) (a : Option Addr) (n k : Nat) (hn : n ≤ 1048576) (h : MarkB W (.slice a n k) 1 n) :
    Calls Tryz.prog 42 #[.agg #[.int .i64 c, .slice a n k], .int .i64 1] W fun e w' => e = .returned (.int .i64 ((1 + n : Nat) : Int)) ∧ Below W.heap.size W w' := by
  obtain ⟨V, hV⟩ : ∃ V, V = W.alloc (.cells #[.int .i64 c, .slice a n k] 29) := ⟨_, rfl⟩
  have HV : Hid (V = W.alloc (.cells #[.int .i64 c, .slice a n k] 29)) := hV
  have bV : Below W.heap.size W V := by rw [hV]; exact (Below.refl _ _).alloc (Nat.le_refl _) _
  have C : Calls Tryz.prog 103 #[.slice a n k, .int .i64 1] V fun e w' => e = .returned (.int .i64 ((1 + n : Nat) : Int)) ∧ w' = V := by
    rcases h.keep bV with rfl | ⟨g, k', e, hg, hm⟩
    · clear hV HV
      go_enter Tryz.func103, Tryz.ntmps103
      go_wp2_with fail
      go_loop [1, 5] (fun x i => i = .int .i64 0 ∧ x = .int .i64 1) (fun _ _ => 0)
      case atStart => exact ⟨rfl, rfl⟩
      case round =>
        obtain ⟨rfl, rfl⟩ := hrel
        go_wp2_with fail
        go_ret
        exact ⟨rfl, rfl⟩
    · simp only [Value.slice.injEq] at e
      obtain ⟨rfl, _, rfl⟩ := e
      exact heldByteS_row V g n k 1 hn (by omega) hm
  have HB : Hid (Below W.heap.size W V) := bV
  clear bV h hV
  obtain ⟨K, hK⟩ : ∃ K : Int, K = ((1 + n : Nat) : Int) := ⟨_, rfl⟩
  have HK : Hid (K = ((1 + n : Nat) : Int)) := hK
  rw [← hK] at C
  have hK0 : ¬ K < 0 := by omega
  clear hK
  go_enter Tryz.func42, Tryz.ntmps42
  go_wp2_with fail
  rw [← HV.out]
  refine C.mono ?_
  rintro e w1 ⟨rfl, hw⟩
  obtain rfl := hw.symm
  clear C HV hw
  go_wp2_with fail
  go_ret
  exact ⟨ret_int (by rw [HK.out]), HB.out⟩
end Go.Proofs.YtojcjpdgjohldaaGreatDoor
/-
  What a marking leaves as it was; requests marked.
-/
namespace Go.Proofs.YtojcjpdgjohldaaGreatDoor
open Go.ChangeShapes Go.WideShapes Go.ChangeAt Go.RowKit
/-- All that was there, but for the memory of v, is as it was. -/
structure OutV (v : Value) (W W' : World) : Prop where
  size : W.heap.size ≤ W'.heap.size
  cell : ∀ b o, b < W.heap.size → v.ownBlock ≠ some b → W'.cell? ⟨b, o, none⟩ = W.cell? ⟨b, o, none⟩
  frozen : ∀ b o, b < W.heap.size → v.ownBlock ≠ some b → W'.frozen? ⟨b, o, none⟩ = W.frozen? ⟨b, o, none⟩
theorem Four.out {v : Value} {W W' : World} {B : Nat} {v0 v1 v2 v3 : Value} (h : Four W B v0 v1 v2 v3) (k : OutV v W W') (hne : v.ownBlock ≠ some B) : Four W' B v0 v1 v2 v3 :=
  ⟨by rw [k.cell B 0 h.lt hne]; exact h.c0, by rw [k.cell B 1 h.lt hne]; exact h.c1, by rw [k.cell B 2 h.lt hne]; exact h.c2, by rw [k.cell B 3 h.lt hne]; exact h.c3, fun o => by rw [k.frozen B o h.lt hne]; exact h.fr o, Nat.lt_of_lt_of_le h.lt k.size⟩
theorem Two.out {v : Value} {W W' : World} {B : Nat} {v0 v1 : Value} (h : Two W B v0 v1) (k : OutV v W W') (hne : v.ownBlock ≠ some B) : Two W' B v0 v1 :=
  ⟨by rw [k.cell B 0 h.lt hne]; exact h.c0, by rw [k.cell B 1 h.lt hne]; exact h.c1, fun o => by rw [k.frozen B o h.lt hne]; exact h.fr o, Nat.lt_of_lt_of_le h.lt k.size⟩
theorem BOwn.out {v u : Value} {W W' : World} {base : Nat} {l : List UInt8} (h : BOwn W base u l) (k : OutV v W W') (hne : ∀ b, u.ownBlock = some b → v.ownBlock ≠ some b) : BOwn W' base u l := by
  rcases h with h | ⟨g, c, rfl, hg, hm⟩
  · exact .inl h
  · have hn := hne g rfl
    exact .inr ⟨g, c, rfl, hg, fun i x hx => by rw [k.cell g _ hm.lt hn]; exact hm.at0 i x hx, fun o ho => by rw [k.frozen g o hm.lt hn]; exact hm.free o ho, Nat.lt_of_lt_of_le hm.lt k.size⟩
theorem QMine.out {v : Value} {W W' : World} {B : Nat} {l : List Hdr} (h : QMine W B l) (k : OutV v W W') (hne : v.ownBlock ≠ some B) : QMine W' B l :=
  ⟨fun i r hr => by rw [k.cell B _ h.lt hne, k.cell B _ h.lt hne]; exact h.at0 i r hr, fun o => by rw [k.frozen B o h.lt hne]; exact h.free o, Nat.lt_of_lt_of_le h.lt k.size⟩
set_option maxHeartbeats 2000000 in
theorem markRequest_any (W : World) (m h p : ByteArray) (B base : Nat) (l : List Hdr) (hl : l.length ≤ 1048576) (hq : QMine W B l) (hb : base ≤ B) (hbW : base ≤ W.heap.size) :
    ∃ q : Int, ¬ q < 0 ∧ Calls Tryz.prog 40 #[.agg #[.string m, .string h, .string p, .slice (some ⟨B, 0, none⟩) l.length l.length], .int .i64 1] W fun e w' => e = .returned (.int .i64 q) ∧ (OutV (.slice (some ⟨B, 0, none⟩) l.length l.length) W w' ∧ Below base W w') := by
  obtain ⟨V, hV⟩ : ∃ V, V = W.alloc (.cells #[.string m, .string h, .string p, .slice (some ⟨B, 0, none⟩) l.length l.length] 26) := ⟨_, rfl⟩
  have HV : Hid (V = W.alloc (.cells #[.string m, .string h, .string p, .slice (some ⟨B, 0, none⟩) l.length l.length] 26)) := hV
  have bV : Below W.heap.size W V := by rw [hV]; exact (Below.refl _ _).alloc (Nat.le_refl _) _
  have hq' := hq.keep bV
  obtain ⟨q, hq0, C⟩ := HMine.mark (base := base) (⟨hq'.at0, hq'.free, hq'.lt⟩ : HMine V B l) hl hb
  refine ⟨q, hq0, ?_⟩
  have HB : Hid (Below W.heap.size W V ∧ base ≤ W.heap.size) := ⟨bV, hbW⟩
  clear bV hV hq hq'
  generalize l.length = n at *
  go_enter Tryz.func40, Tryz.ntmps40
  go_wp2_with fail
  rw [← HV.out]
  refine C.mono ?_
  rintro e w1 ⟨rfl, hav, hb1⟩
  have HF : Hid (OutV (.slice (some ⟨B, 0, none⟩) n n) W w1 ∧ Below base W w1) := ⟨⟨Nat.le_trans HB.out.1.size hav.size, fun b o hb0 hne => by rw [hav.cell b o (Nat.lt_of_lt_of_le hb0 HB.out.1.size) hne, HB.out.1.cell (p := ⟨b, o, none⟩) hb0], fun b o hb0 hne => by rw [hav.frozen b o (Nat.lt_of_lt_of_le hb0 HB.out.1.size) hne, HB.out.1.frozen (p := ⟨b, o, none⟩) hb0]⟩, (HB.out.1.mono HB.out.2).trans hb1⟩
  clear hav hb1 C HV HB
  go_wp2_with fail
  go_ret
  exact ⟨rfl, HF.out⟩
end Go.Proofs.YtojcjpdgjohldaaGreatDoor
/-
  Results that hold a request: compared, marked, held.
-/
namespace Go.Proofs.YtojcjpdgjohldaaGreatDoor
open Go.ChangeShapes Go.WideShapes Go.ChangeAt Go.RowKit
theorem HAV.after {v : Value} {w V w' : World} (hV : Below w.heap.size w V) (h : HAV v V w') : HAV v w w' :=
  ⟨Nat.le_trans hV.size h.size, fun b o hb hn => by rw [h.cell b o (Nat.lt_of_lt_of_le hb hV.size) hn]; exact hV.cell (p := ⟨b, o, none⟩) hb, fun b o hb hn => by rw [h.frozen b o (Nat.lt_of_lt_of_le hb hV.size) hn]; exact hV.frozen (p := ⟨b, o, none⟩) hb⟩
theorem HAV.then {v : Value} {w w1 w2 : World} (h : HAV v w w1) (hb : Below w1.heap.size w1 w2) : HAV v w w2 :=
  ⟨Nat.le_trans h.size hb.size, fun b o h1 h2 => by rw [hb.cell (p := ⟨b, o, none⟩) (Nat.lt_of_lt_of_le h1 h.size)]; exact h.cell b o h1 h2, fun b o h1 h2 => by rw [hb.frozen (p := ⟨b, o, none⟩) (Nat.lt_of_lt_of_le h1 h.size)]; exact h.frozen b o h1 h2⟩
theorem Five.av {v : Value} {W W' : World} {B : Nat} {v0 v1 v2 v3 v4 : Value} (h : Five W B v0 v1 v2 v3 v4) (k : HAV v W W') (hne : v.ownBlock ≠ some B) : Five W' B v0 v1 v2 v3 v4 :=
  ⟨by rw [k.cell B 0 h.lt hne]; exact h.c0, by rw [k.cell B 1 h.lt hne]; exact h.c1, by rw [k.cell B 2 h.lt hne]; exact h.c2, by rw [k.cell B 3 h.lt hne]; exact h.c3, by rw [k.cell B 4 h.lt hne]; exact h.c4, fun o => by rw [k.frozen B o h.lt hne]; exact h.fr o, Nat.lt_of_lt_of_le h.lt k.size⟩
set_option maxHeartbeats 2000000 in
theorem eqRequest_lv (W : World) (m h p : ByteArray) (a b : Option Addr) (n k ca cb : Nat) (l : List Hdr) (hl : l.length ≤ 1048576) (h1 : HLV W (.slice a n ca) l) (h2 : HLV W (.slice b k cb) l) :
    Calls Tryz.prog 39 #[.agg #[.string m, .string h, .string p, .slice a n ca], .agg #[.string m, .string h, .string p, .slice b k cb]] W fun e w' => e = .returned (.bool true) ∧ Below W.heap.size W w' := by
  obtain ⟨V, hV⟩ : ∃ V, V = (W.alloc (.cells #[.string m, .string h, .string p, .slice a n ca] 26)).alloc (.cells #[.string m, .string h, .string p, .slice b k cb] 26) := ⟨_, rfl⟩
  have HV : Hid (V = (W.alloc (.cells #[.string m, .string h, .string p, .slice a n ca] 26)).alloc (.cells #[.string m, .string h, .string p, .slice b k cb] 26)) := hV
  have bV : Below W.heap.size W V := by rw [hV]; exact ((Below.refl _ _).alloc (Nat.le_refl _) _).alloc (by simp) _
  have C := eqHeaderS_lv V _ _ l hl (h1.below bV) (h2.below bV)
  have HB : Hid (Below W.heap.size W V) := bV
  clear bV h1 h2 hV hl
  go_enter Tryz.func39, Tryz.ntmps39
  go_wp2_with fail
  rw [← HV.out]
  refine C.mono ?_
  rintro e w1 ⟨rfl, hb1⟩
  have KB : Hid (Below W.heap.size W w1) := HB.out.trans (hb1.mono HB.out.size)
  clear hb1 C HB HV
  go_wp2_with fail
  go_ret
  exact ⟨rfl, KB.out⟩
set_option maxHeartbeats 2000000 in
theorem eqRequestResult_lv (W : World) (c : Int) (m h p : ByteArray) (a b : Option Addr) (n k ca cb : Nat) (l : List Hdr) (hl : l.length ≤ 1048576) (h1 : HLV W (.slice a n ca) l) (h2 : HLV W (.slice b k cb) l) :
    Calls Tryz.prog 44 #[.agg #[.int .i64 c, .string m, .string h, .string p, .slice a n ca], .agg #[.int .i64 c, .string m, .string h, .string p, .slice b k cb]] W fun e w' => e = .returned (.bool true) ∧ Below W.heap.size W w' := by
  obtain ⟨V, hV⟩ : ∃ V, V = (W.alloc (.cells #[.int .i64 c, .string m, .string h, .string p, .slice a n ca] 38)).alloc (.cells #[.int .i64 c, .string m, .string h, .string p, .slice b k cb] 38) := ⟨_, rfl⟩
  have HV : Hid (V = (W.alloc (.cells #[.int .i64 c, .string m, .string h, .string p, .slice a n ca] 38)).alloc (.cells #[.int .i64 c, .string m, .string h, .string p, .slice b k cb] 38)) := hV
  have bV : Below W.heap.size W V := by rw [hV]; exact ((Below.refl _ _).alloc (Nat.le_refl _) _).alloc (by simp) _
  have C := eqRequest_lv V m h p a b n k ca cb l hl (h1.below bV) (h2.below bV)
  have HB : Hid (Below W.heap.size W V) := bV
  clear bV h1 h2 hV hl
  go_enter Tryz.func44, Tryz.ntmps44
  go_wp2_with fail
  rw [← HV.out]
  refine C.mono ?_
  rintro e w1 ⟨rfl, hb1⟩
  have KB : Hid (Below W.heap.size W w1) := HB.out.trans (hb1.mono HB.out.size)
  clear hb1 C HB HV
  go_wp2_with fail
  go_ret
  exact ⟨rfl, KB.out⟩
/-- Head lines marked: what holds behind it. -/
structure MkQ (base : Nat) (a : Option Addr) (n ca : Nat) (w w' : World) : Prop where
  lv : HLV w' (.slice a n ca) (mkHL 1 n)
  av : HAV (.slice a n ca) w w'
  low : Below base w w'
theorem MkQ.after {base : Nat} {a : Option Addr} {n ca : Nat} {w V w' : World} (hV : Below w.heap.size w V) (hb : base ≤ w.heap.size) (h : MkQ base a n ca V w') : MkQ base a n ca w w' :=
  ⟨h.lv, h.av.after hV, (hV.mono hb).trans h.low⟩
set_option maxRecDepth 100000 in
set_option maxHeartbeats 2000000 in
theorem markRequest_lv (w : World) (m h p : ByteArray) (a : Option Addr) (n ca : Nat) (l : List Hdr) (hn : n = l.length) (hl : l.length ≤ 1000) (hv : HLV w (.slice a n ca) l) (base : Nat) (hb : ∀ b, (Value.slice a n ca).ownBlock = some b → base ≤ b) (hbs : base ≤ w.heap.size) (q : Int) (hq : ((1 + 2 * n : Nat) : Int) = q) :
    Calls Tryz.prog 40 #[.agg #[.string m, .string h, .string p, .slice a n ca], .int .i64 1] w fun e w' => e = .returned (.int .i64 q) ∧ MkQ base a n ca w w' := by
  obtain ⟨V, hV⟩ : ∃ V, V = w.alloc (.cells #[.string m, .string h, .string p, .slice a n ca] 26) := ⟨_, rfl⟩
  have HV : Hid (V = w.alloc (.cells #[.string m, .string h, .string p, .slice a n ca] 26)) := hV
  have bV : Below w.heap.size w V := by rw [hV]; exact (Below.refl _ _).alloc (Nat.le_refl _) _
  have C : Calls Tryz.prog 102 #[.slice a n ca, .int .i64 1] V fun e w' => e = .returned (.int .i64 q) ∧ MkQ base a n ca w w' := by
    have := markHeaderS_lv V (.slice a n ca) l (by omega) (hv.below bV) base hb (Nat.le_trans hbs bV.size)
    rw [← hn, hq] at this
    exact this.mono fun e w1 ⟨he, h1, h2, h3⟩ => ⟨he, MkQ.after bV hbs ⟨h1, h2, h3⟩⟩
  clear bV hV hv hn hl hb hbs hq
  go_enter Tryz.func40, Tryz.ntmps40
  go_wp2_with fail
  rw [← HV.out]
  refine C.mono ?_
  rintro e w1 ⟨rfl, hk⟩
  have K : Hid (MkQ base a n ca w w1) := hk
  clear hk C HV
  go_wp2_with fail
  go_ret
  exact ⟨rfl, K.out⟩
set_option maxRecDepth 100000 in
set_option maxHeartbeats 2000000 in
theorem markRequestResult_lv (w : World) (c : Int) (m h p : ByteArray) (a : Option Addr) (n ca : Nat) (l : List Hdr) (hn : n = l.length) (hl : l.length ≤ 1000) (hv : HLV w (.slice a n ca) l) (base : Nat) (hb : ∀ b, (Value.slice a n ca).ownBlock = some b → base ≤ b) (hbs : base ≤ w.heap.size) (q : Int) (hq : ((1 + 2 * n : Nat) : Int) = q) :
    Calls Tryz.prog 47 #[.agg #[.int .i64 c, .string m, .string h, .string p, .slice a n ca], .int .i64 1] w fun e w' => e = .returned (.int .i64 q) ∧ MkQ base a n ca w w' := by
  obtain ⟨V, hV⟩ : ∃ V, V = w.alloc (.cells #[.int .i64 c, .string m, .string h, .string p, .slice a n ca] 38) := ⟨_, rfl⟩
  have HV : Hid (V = w.alloc (.cells #[.int .i64 c, .string m, .string h, .string p, .slice a n ca] 38)) := hV
  have bV : Below w.heap.size w V := by rw [hV]; exact (Below.refl _ _).alloc (Nat.le_refl _) _
  have C : Calls Tryz.prog 40 #[.agg #[.string m, .string h, .string p, .slice a n ca], .int .i64 1] V fun e w' => e = .returned (.int .i64 q) ∧ MkQ base a n ca w w' :=
    (markRequest_lv V m h p a n ca l hn hl (hv.below bV) base hb (Nat.le_trans hbs bV.size) q hq).mono fun e w1 ⟨he, h1⟩ => ⟨he, MkQ.after bV hbs h1⟩
  clear bV hV hv hn hl hb hbs hq
  go_enter Tryz.func47, Tryz.ntmps47
  go_wp2_with fail
  rw [← HV.out]
  refine C.mono ?_
  rintro e w1 ⟨rfl, hk⟩
  have K : Hid (MkQ base a n ca w w1) := hk
  clear hk C HV
  go_wp2_with fail
  go_ret
  exact ⟨rfl, K.out⟩
set_option maxHeartbeats 2000000 in
theorem heldRequest_lv (w : World) (m h p : ByteArray) (a : Option Addr) (n ca : Nat) (hl : n ≤ 1000) (hv : HLV w (.slice a n ca) (mkHL 1 n)) (q : Int) (hq : ((1 + 2 * n : Nat) : Int) = q) :
    Calls Tryz.prog 104 #[.agg #[.string m, .string h, .string p, .slice a n ca], .int .i64 1] w fun e w' => e = .returned (.int .i64 q) ∧ Below w.heap.size w w' := by
  have HE := heldHeaderS_lv (w.alloc (.cells #[.string m, .string h, .string p, .slice a n ca] 26)) (.slice a n ca) n (by omega) (hv.below ((Below.refl _ _).alloc (Nat.le_refl _) _))
  have g : ¬ q < 0 := by omega
  rw [hq] at HE
  clear hv hq
  go_enter Tryz.func104, Tryz.ntmps104
  go_wp2_with fail
  refine HE.mono ?_
  rintro e w1 ⟨rfl, hb⟩
  have KB : Hid (Below w.heap.size w w1) := ((Below.refl _ _).alloc (Nat.le_refl _) _).trans (hb.mono (by simp))
  clear hb HE
  go_wp2_with fail
  go_ret
  exact ⟨rfl, KB.out⟩
set_option maxHeartbeats 2000000 in
theorem heldRequestResult_lv (w : World) (c : Int) (m h p : ByteArray) (a : Option Addr) (n ca : Nat) (hl : n ≤ 1000) (hv : HLV w (.slice a n ca) (mkHL 1 n)) (q : Int) (hq : ((1 + 2 * n : Nat) : Int) = q) :
    Calls Tryz.prog 48 #[.agg #[.int .i64 c, .string m, .string h, .string p, .slice a n ca], .int .i64 1] w fun e w' => e = .returned (.int .i64 q) ∧ Below w.heap.size w w' := by
  have HE := heldRequest_lv (w.alloc (.cells #[.int .i64 c, .string m, .string h, .string p, .slice a n ca] 38)) m h p a n ca hl (hv.below ((Below.refl _ _).alloc (Nat.le_refl _) _)) q hq
  have g : ¬ q < 0 := by omega
  clear hv hq
  go_enter Tryz.func48, Tryz.ntmps48
  go_wp2_with fail
  refine HE.mono ?_
  rintro e w1 ⟨rfl, hb⟩
  have KB : Hid (Below w.heap.size w w1) := ((Below.refl _ _).alloc (Nat.le_refl _) _).trans (hb.mono (by simp))
  clear hb HE
  go_wp2_with fail
  go_ret
  exact ⟨rfl, KB.out⟩
end Go.Proofs.YtojcjpdgjohldaaGreatDoor
/-
  Results that hold a response: compared, marked, held.
-/
namespace Go.Proofs.YtojcjpdgjohldaaGreatDoor
open Go.ChangeShapes Go.WideShapes Go.ChangeAt Go.RowKit
theorem Four.av {v : Value} {W W' : World} {B : Nat} {v0 v1 v2 v3 : Value} (h : Four W B v0 v1 v2 v3) (k : HAV v W W') (hne : v.ownBlock ≠ some B) : Four W' B v0 v1 v2 v3 :=
  h.out ⟨k.size, k.cell, k.frozen⟩ hne
theorem BOwn.av {v u : Value} {W W' : World} {base : Nat} {l : List UInt8} (h : BOwn W base u l) (k : HAV v W W') (hne : ∀ b, u.ownBlock = some b → v.ownBlock ≠ some b) : BOwn W' base u l :=
  h.out ⟨k.size, k.cell, k.frozen⟩ hne
set_option maxHeartbeats 2000000 in
theorem eqResponse_lv (W : World) (s : Int) (a b : Option Addr) (n k ca cb : Nat) (x y : Option Addr) (m q cx cy bx bY : Nat) (l : List Hdr) (t : List UInt8) (hl : l.length ≤ 1048576) (ht : t.length ≤ 1048576) (h1 : HLV W (.slice a n ca) l) (h2 : HLV W (.slice b k cb) l) (h3 : BOwn W bx (.slice x m cx) t) (h4 : BOwn W bY (.slice y q cy) t) :
    Calls Tryz.prog 57 #[.agg #[.int .i64 s, .slice a n ca, .slice x m cx], .agg #[.int .i64 s, .slice b k cb, .slice y q cy]] W fun e w' => e = .returned (.bool true) ∧ Below W.heap.size W w' := by
  obtain ⟨V, hV⟩ : ∃ V, V = (W.alloc (.cells #[.int .i64 s, .slice a n ca, .slice x m cx] 32)).alloc (.cells #[.int .i64 s, .slice b k cb, .slice y q cy] 32) := ⟨_, rfl⟩
  have HV : Hid (V = (W.alloc (.cells #[.int .i64 s, .slice a n ca, .slice x m cx] 32)).alloc (.cells #[.int .i64 s, .slice b k cb, .slice y q cy] 32)) := hV
  have bV : Below W.heap.size W V := by rw [hV]; exact ((Below.refl _ _).alloc (Nat.le_refl _) _).alloc (by simp) _
  have aV : Below (W.heap.size + 1) (W.alloc (.cells #[.int .i64 s, .slice a n ca, .slice x m cx] 32)) V := by rw [hV]; exact (Below.refl _ _).alloc (by simp) _
  have f1 : Three V W.heap.size (.int .i64 s) (.slice a n ca) (.slice x m cx) := (Three.new W (.int .i64 s) (.slice a n ca) (.slice x m cx) 32).keep (by rw [show (W.alloc (.cells #[.int .i64 s, .slice a n ca, .slice x m cx] 32)).heap.size = W.heap.size + 1 from by simp]; exact aV)
  have f2 : Three V (W.heap.size + 1) (.int .i64 s) (.slice b k cb) (.slice y q cy) := by
    have := Three.new (W.alloc (.cells #[.int .i64 s, .slice a n ca, .slice x m cx] 32)) (.int .i64 s) (.slice b k cb) (.slice y q cy) 32
    rw [← hV, show (W.alloc (.cells #[.int .i64 s, .slice a n ca, .slice x m cx] 32)).heap.size = W.heap.size + 1 from by simp] at this
    exact this
  have C := eqHeaderS_lv V _ _ l hl (h1.below bV) (h2.below bV)
  obtain ⟨x1, y1, e1, i1⟩ := h3.shape
  obtain ⟨x2, y2, e2, i2⟩ := h4.shape
  simp only [Value.slice.injEq] at e1 e2
  obtain ⟨rfl, rfl, rfl⟩ := e1
  obtain ⟨rfl, rfl, rfl⟩ := e2
  have HC2 : Hid (∀ X, Below W.heap.size W X → Calls Tryz.prog 45 #[.slice x t.length cx, .slice y t.length cy] X fun e w' => e = .returned (.bool true) ∧ Below X.heap.size X w') := fun X hb => eqByteS_same X _ _ _ _ t ht (i1.keep hb) (i2.keep hb)
  have HB : Hid (Below W.heap.size W V ∧ Three V W.heap.size (.int .i64 s) (.slice a n ca) (.slice x t.length cx) ∧ Three V (W.heap.size + 1) (.int .i64 s) (.slice b k cb) (.slice y t.length cy)) := ⟨bV, f1, f2⟩
  clear bV h1 h2 h3 h4 hV hl i1 i2 aV f1 f2 ht
  generalize t.length = m at *
  go_enter Tryz.func57, Tryz.ntmps57
  go_wp2_with fail
  rw [← HV.out]
  refine C.mono ?_
  rintro e w1 ⟨rfl, hb1⟩
  have KB : Hid (Below W.heap.size W w1) := HB.out.1.trans (hb1.mono HB.out.1.size)
  have C2 := HC2.out w1 KB.out
  obtain ⟨p0, p1, p2, _, _⟩ := HB.out.2.1.keep hb1
  obtain ⟨s0, s1, s2, _, _⟩ := HB.out.2.2.keep hb1
  clear hb1 C HB HV HC2
  go_wp2_with fail
  refine C2.mono ?_
  rintro e w2 ⟨rfl, hb2⟩
  have KC : Hid (Below W.heap.size W w2) := KB.out.trans (hb2.mono KB.out.size)
  clear hb2 C2 KB p0 p1 p2 s0 s1 s2
  go_wp2_with fail
  go_ret
  exact ⟨rfl, KC.out⟩
set_option maxHeartbeats 2000000 in
theorem eqResponseResult_lv (W : World) (c s : Int) (a b : Option Addr) (n k ca cb : Nat) (x y : Option Addr) (m q cx cy bx bY : Nat) (l : List Hdr) (t : List UInt8) (hl : l.length ≤ 1048576) (ht : t.length ≤ 1048576) (h1 : HLV W (.slice a n ca) l) (h2 : HLV W (.slice b k cb) l) (h3 : BOwn W bx (.slice x m cx) t) (h4 : BOwn W bY (.slice y q cy) t) :
    Calls Tryz.prog 59 #[.agg #[.int .i64 c, .int .i64 s, .slice a n ca, .slice x m cx], .agg #[.int .i64 c, .int .i64 s, .slice b k cb, .slice y q cy]] W fun e w' => e = .returned (.bool true) ∧ Below W.heap.size W w' := by
  obtain ⟨V, hV⟩ : ∃ V, V = (W.alloc (.cells #[.int .i64 c, .int .i64 s, .slice a n ca, .slice x m cx] 42)).alloc (.cells #[.int .i64 c, .int .i64 s, .slice b k cb, .slice y q cy] 42) := ⟨_, rfl⟩
  have HV : Hid (V = (W.alloc (.cells #[.int .i64 c, .int .i64 s, .slice a n ca, .slice x m cx] 42)).alloc (.cells #[.int .i64 c, .int .i64 s, .slice b k cb, .slice y q cy] 42)) := hV
  have bV : Below W.heap.size W V := by rw [hV]; exact ((Below.refl _ _).alloc (Nat.le_refl _) _).alloc (by simp) _
  have C := eqResponse_lv V s a b n k ca cb x y m q cx cy bx bY l t hl ht (h1.below bV) (h2.below bV) (h3.keep bV) (h4.keep bV)
  have HB : Hid (Below W.heap.size W V) := bV
  clear bV h1 h2 h3 h4 hV hl ht
  go_enter Tryz.func59, Tryz.ntmps59
  go_wp2_with fail
  rw [← HV.out]
  refine C.mono ?_
  rintro e w1 ⟨rfl, hb1⟩
  have KB : Hid (Below W.heap.size W w1) := HB.out.trans (hb1.mono HB.out.size)
  clear hb1 C HB HV
  go_wp2_with fail
  go_ret
  exact ⟨rfl, KB.out⟩
/-- All that was there, but for the memory of v and of u, is as it was. -/
structure HAV2 (v u : Value) (w w' : World) : Prop where
  size : w.heap.size ≤ w'.heap.size
  cell : ∀ b o, b < w.heap.size → v.ownBlock ≠ some b → u.ownBlock ≠ some b → w'.cell? ⟨b, o, none⟩ = w.cell? ⟨b, o, none⟩
  frozen : ∀ b o, b < w.heap.size → v.ownBlock ≠ some b → u.ownBlock ≠ some b → w'.frozen? ⟨b, o, none⟩ = w.frozen? ⟨b, o, none⟩
theorem HAV2.after {v u : Value} {w V w' : World} (hV : Below w.heap.size w V) (h : HAV2 v u V w') : HAV2 v u w w' :=
  ⟨Nat.le_trans hV.size h.size, fun b o hb hn h2 => by rw [h.cell b o (Nat.lt_of_lt_of_le hb hV.size) hn h2]; exact hV.cell (p := ⟨b, o, none⟩) hb, fun b o hb hn h2 => by rw [h.frozen b o (Nat.lt_of_lt_of_le hb hV.size) hn h2]; exact hV.frozen (p := ⟨b, o, none⟩) hb⟩
theorem HAV2.of {v u : Value} {w w1 w2 : World} (h : HAV v w w1) (k : HAV u w1 w2) : HAV2 v u w w2 :=
  ⟨Nat.le_trans h.size k.size, fun b o hb h1 h2 => by rw [k.cell b o (Nat.lt_of_lt_of_le hb h.size) h2]; exact h.cell b o hb h1, fun b o hb h1 h2 => by rw [k.frozen b o (Nat.lt_of_lt_of_le hb h.size) h2]; exact h.frozen b o hb h1⟩
theorem Four.av2 {v u : Value} {W W' : World} {B : Nat} {v0 v1 v2 v3 : Value} (h : Four W B v0 v1 v2 v3) (k : HAV2 v u W W') (hne : v.ownBlock ≠ some B) (h2 : u.ownBlock ≠ some B) : Four W' B v0 v1 v2 v3 :=
  ⟨by rw [k.cell B 0 h.lt hne h2]; exact h.c0, by rw [k.cell B 1 h.lt hne h2]; exact h.c1, by rw [k.cell B 2 h.lt hne h2]; exact h.c2, by rw [k.cell B 3 h.lt hne h2]; exact h.c3, fun o => by rw [k.frozen B o h.lt hne h2]; exact h.fr o, Nat.lt_of_lt_of_le h.lt k.size⟩
theorem BOwn.av2 {v u x : Value} {W W' : World} {base : Nat} {l : List UInt8} (h : BOwn W base x l) (k : HAV2 v u W W') (hne : ∀ b, x.ownBlock = some b → v.ownBlock ≠ some b) (h2 : ∀ b, x.ownBlock = some b → u.ownBlock ≠ some b) : BOwn W' base x l := by
  rcases h with h | ⟨g, c, rfl, hg, hm⟩
  · exact .inl h
  · have hn := hne g rfl
    have hn2 := h2 g rfl
    exact .inr ⟨g, c, rfl, hg, fun i x hx => by rw [k.cell g _ hm.lt hn hn2]; exact hm.at0 i x hx, fun o ho => by rw [k.frozen g o hm.lt hn hn2]; exact hm.free o ho, Nat.lt_of_lt_of_le hm.lt k.size⟩
theorem HLV.av2 {w w' : World} {v u v1 : Value} {l : List Hdr} (h : HLV w v1 l) (k : HAV2 v u w w') (hne : ∀ b, v1.ownBlock = some b → v.ownBlock ≠ some b) (h2 : ∀ b, v1.ownBlock = some b → u.ownBlock ≠ some b) : HLV w' v1 l := by
  rcases h with h | ⟨g, c, rfl, hg, hi, hf⟩
  · exact .inl h
  · have hn := hne g rfl
    have hn2 := h2 g rfl
    refine .inr ⟨g, c, rfl, Nat.lt_of_lt_of_le hg k.size, ?_, fun o => by rw [k.frozen g o hg hn hn2]; exact hf o⟩
    intro i r hr
    rw [k.cell g _ hg hn hn2, k.cell g _ hg hn hn2]
    exact hi i r hr
/-- Head lines and bytes never lie in one block, but where one of the two is empty. -/
theorem heads_bytes_apart {w : World} {v u : Value} {base : Nat} {l : List Hdr} {t : List UInt8} (h : HLV w v l) (k : BOwn w base u t) : l = [] ∨ t = [] ∨ ∀ b, u.ownBlock = some b → v.ownBlock ≠ some b := by
  rcases h with ⟨_, h⟩ | ⟨g, c, rfl, hg, hi, _⟩
  · exact .inl h
  · rcases k with ⟨_, k⟩ | ⟨g', c', rfl, _, hm⟩
    · exact .inr (.inl k)
    · by_cases e : g' = g
      · subst e
        cases l with
        | nil => exact .inl rfl
        | cons r l =>
          cases t with
          | nil => exact .inr (.inl rfl)
          | cons x t =>
            exfalso
            have h1 := (hi 0 r rfl).1
            have h2 := hm.at0 0 x rfl
            simp only [Nat.add_zero] at h1 h2
            rw [h1] at h2
            cases h2
      · refine .inr (.inr fun b hb hc => e ?_)
        simp only [Value.ownBlock, Option.some.injEq] at hb hc
        omega
set_option maxHeartbeats 2000000 in
theorem markByteS_none (w : World) (a : Option Addr) (c : Nat) (k : Int) :
    Calls Tryz.prog 46 #[.slice a 0 c, .int .i64 k] w fun e w' => e = .returned (.int .i64 k) ∧ w' = w := by
  go_enter Tryz.func46, Tryz.ntmps46
  go_wp2_with fail
  go_loop [1, 5] (fun x i => i = .int .i64 0 ∧ x = .int .i64 k) (fun _ _ => 0)
  case atStart => exact ⟨rfl, rfl⟩
  case round =>
    obtain ⟨rfl, rfl⟩ := hrel
    go_wp2_with fail
    go_ret
    exact ⟨rfl, rfl⟩
set_option maxHeartbeats 2000000 in
theorem heldByteS_none (w : World) (a : Option Addr) (c : Nat) (k : Int) :
    Calls Tryz.prog 103 #[.slice a 0 c, .int .i64 k] w fun e w' => e = .returned (.int .i64 k) ∧ w' = w := by
  go_enter Tryz.func103, Tryz.ntmps103
  go_wp2_with fail
  go_loop [1, 5] (fun x i => i = .int .i64 0 ∧ x = .int .i64 k) (fun _ _ => 0)
  case atStart => exact ⟨rfl, rfl⟩
  case round =>
    obtain ⟨rfl, rfl⟩ := hrel
    go_wp2_with fail
    go_ret
    exact ⟨rfl, rfl⟩
/-- Head lines and bytes marked: what holds behind it. -/
structure MkP (base : Nat) (v : Value) (n : Nat) (u : Value) (m : Nat) (w w' : World) : Prop where
  lv : HLV w' v (mkHL 1 n)
  mb : MarkB w' u (1 + 2 * n) m
  av : HAV2 v u w w'
  low : Below base w w'
theorem MkP.after {base n m : Nat} {v u : Value} {w V w' : World} (hV : Below w.heap.size w V) (hb : base ≤ w.heap.size) (h : MkP base v n u m V w') : MkP base v n u m w w' :=
  ⟨h.lv, h.mb, h.av.after hV, (hV.mono hb).trans h.low⟩
/-- The bytes marked behind the head lines. -/
theorem markB_behind {w W : World} {a b : Option Addr} {n ca m cb base bb : Nat} {l : List Hdr} {t : List UInt8} (hn : n = l.length) (hl : l.length ≤ 1000) (ht : t.length ≤ 1048576) (h0 : HLV w (.slice a n ca) l) (hk : BOwn w bb (.slice b m cb) t) (hbb : base ≤ bb)
    (hw : HLV W (.slice a n ca) (mkHL 1 n)) (hav : HAV (.slice a n ca) w W) (hlow : Below base w W) (hnil : n = 0 → Below w.heap.size w W) :
    Calls Tryz.prog 46 #[.slice b m cb, .int .i64 ((1 + 2 * n : Nat) : Int)] W fun e w' => e = .returned (.int .i64 ((1 + 2 * n + m : Nat) : Int)) ∧ MkP base (.slice a n ca) n (.slice b m cb) m w w' := by
  by_cases hm0 : m = 0
  · subst hm0
    refine (markByteS_none W b cb _).mono ?_
    rintro e w' ⟨rfl, rfl⟩
    exact ⟨rfl, hw, .inl rfl, HAV2.of hav (HAV.below (Below.refl _ _)), hlow⟩
  · have hW : BOwn W bb (.slice b m cb) t := by
      rcases heads_bytes_apart h0 hk with e | e | e
      · exact hk.keep (hnil (by rw [hn, e]; rfl))
      · obtain ⟨x, y, e1, _⟩ := hk.shape
        simp only [Value.slice.injEq] at e1
        exact absurd (by rw [e1.2.1, e]; rfl) hm0
      · exact hk.av hav e
    have hap := heads_bytes_apart hw hW
    rcases hW with ⟨e, _⟩ | ⟨g, c', e, hg, hmm⟩
    · simp only [Value.slice.injEq] at e
      exact absurd e.2.1 hm0
    · simp only [Value.slice.injEq] at e
      obtain ⟨rfl, rfl, rfl⟩ := e
      have C := markByteS_row W g t.length cb (1 + 2 * n) base ht (by omega) (by omega) hmm.lt (fun j hj => ⟨⟨_, by have := hmm.at0 j t[j] (List.getElem?_eq_getElem hj); rwa [Nat.zero_add] at this⟩, hmm.free j hj⟩)
      refine C.mono ?_
      rintro e w' ⟨rfl, h1, h2, h3⟩
      have hv2 : HAV (.slice (some ⟨g, 0, none⟩) t.length cb) W w' := ⟨by rw [h2.size]; exact Nat.le_refl _, fun b o hb hn => h2.cell b o hb hn, fun b o _ _ => h2.frozen b o⟩
      refine ⟨rfl, ?_, h1, HAV2.of hav hv2, hlow.trans h3⟩
      rcases hap with e | e | e
      · rcases hw with hw | ⟨g1, c1, e1, hg1, hi1, hf1⟩
        · exact .inl hw
        · refine .inr ⟨g1, c1, e1, by rw [h2.size]; exact hg1, ?_, fun o => by rw [h2.frozen]; exact hf1 o⟩
          rw [e]
          intro i r hr
          cases hr
      · exact absurd (by rw [e]; rfl) hm0
      · exact hw.av hv2 fun b hb hc => e b hc hb
theorem Three.av {v : Value} {W W' : World} {B : Nat} {v0 v1 v2 : Value} (h : Three W B v0 v1 v2) (k : HAV v W W') (hne : v.ownBlock ≠ some B) : Three W' B v0 v1 v2 :=
  ⟨by rw [k.cell B 0 h.lt hne]; exact h.c0, by rw [k.cell B 1 h.lt hne]; exact h.c1, by rw [k.cell B 2 h.lt hne]; exact h.c2, fun o => by rw [k.frozen B o h.lt hne]; exact h.fr o, Nat.lt_of_lt_of_le h.lt k.size⟩
theorem markHeaderS_lv0 (w : World) (a : Option Addr) (n ca : Nat) (l : List Hdr) (hn : n = l.length) (hl : l.length ≤ 1000) (h : HLV w (.slice a n ca) l) (base : Nat) (hb : ∀ b, (Value.slice a n ca).ownBlock = some b → base ≤ b) (hbs : base ≤ w.heap.size) :
    Calls Tryz.prog 102 #[.slice a n ca, .int .i64 1] w fun e w' => e = .returned (.int .i64 ((1 + 2 * n : Nat) : Int)) ∧ (HLV w' (.slice a n ca) (mkHL 1 n) ∧ HAV (.slice a n ca) w w' ∧ Below base w w' ∧ (n = 0 → Below w.heap.size w w')) := by
  by_cases h0 : n = 0
  · subst h0
    have : l = [] := List.eq_nil_of_length_eq_zero hn.symm
    subst this
    exact (markHeaderS_nil w a ca 1).mono fun e w' ⟨h1, h2⟩ => ⟨h1, h.below h2, .below h2, h2.mono hbs, fun _ => h2⟩
  · have := markHeaderS_lv w (.slice a n ca) l (by omega) h base hb hbs
    rw [← hn] at this
    exact this.mono fun e w' ⟨h1, h2, h3, h4⟩ => ⟨h1, h2, h3, h4, fun e => absurd e h0⟩
set_option maxRecDepth 100000 in
set_option maxHeartbeats 4000000 in
theorem markResponse_lv (w : World) (s : Int) (a : Option Addr) (n ca : Nat) (b : Option Addr) (m cb bb : Nat) (l : List Hdr) (t : List UInt8) (hn : n = l.length) (hl : l.length ≤ 1000) (ht : t.length ≤ 1048576) (hv : HLV w (.slice a n ca) l) (hk : BOwn w bb (.slice b m cb) t) (base : Nat) (hb : ∀ b, (Value.slice a n ca).ownBlock = some b → base ≤ b) (hbb : base ≤ bb) (hbs : base ≤ w.heap.size) (q : Int) (hq : ((1 + 2 * n + m : Nat) : Int) = q) :
    Calls Tryz.prog 58 #[.agg #[.int .i64 s, .slice a n ca, .slice b m cb], .int .i64 1] w fun e w' => e = .returned (.int .i64 q) ∧ MkP base (.slice a n ca) n (.slice b m cb) m w w' := by
  obtain ⟨V, hV⟩ : ∃ V, V = w.alloc (.cells #[.int .i64 s, .slice a n ca, .slice b m cb] 32) := ⟨_, rfl⟩
  have HV : Hid (V = w.alloc (.cells #[.int .i64 s, .slice a n ca, .slice b m cb] 32)) := hV
  have bV : Below w.heap.size w V := by rw [hV]; exact (Below.refl _ _).alloc (Nat.le_refl _) _
  have fV : Three V w.heap.size (.int .i64 s) (.slice a n ca) (.slice b m cb) := by rw [hV]; exact Three.new _ _ _ _ _
  have hne : (Value.slice a n ca).ownBlock ≠ some w.heap.size := fun e => Nat.lt_irrefl _ (hv.block_lt _ e)
  obtain ⟨r, hr⟩ : ∃ r : Int, ((1 + 2 * n : Nat) : Int) = r := ⟨_, rfl⟩
  have C := markHeaderS_lv0 V a n ca l hn hl (hv.below bV) base hb (Nat.le_trans hbs bV.size)
  have HM : Hid (∀ X, HLV X (.slice a n ca) (mkHL 1 n) → HAV (.slice a n ca) V X → Below base V X → (n = 0 → Below V.heap.size V X) → Calls Tryz.prog 46 #[.slice b m cb, .int .i64 r] X fun e w' => e = .returned (.int .i64 q) ∧ MkP base (.slice a n ca) n (.slice b m cb) m w w') := by
    intro X h1 h2 h3 h4
    have := markB_behind hn hl ht (hv.below bV) (hk.keep bV) hbb h1 h2 h3 h4
    rw [hr, hq] at this
    exact this.mono fun e w1 ⟨he, h⟩ => ⟨he, MkP.after bV hbs h⟩
  rw [hr] at C
  have HT : Hid (Three V w.heap.size (.int .i64 s) (.slice a n ca) (.slice b m cb) ∧ (Value.slice a n ca).ownBlock ≠ some w.heap.size) := ⟨fV, hne⟩
  clear bV hV hv hk hn hl ht hb hbb hbs hq fV hne hr
  go_enter Tryz.func58, Tryz.ntmps58
  go_wp2_with fail
  rw [← HV.out]
  refine C.mono ?_
  rintro e w1 ⟨rfl, h1, h2, h3, h4⟩
  have C2 := HM.out w1 h1 h2 h3 h4
  obtain ⟨p0, p1, p2, _, _⟩ := HT.out.1.av h2 HT.out.2
  clear h1 h2 h3 h4 C HM HT HV
  go_wp2_with fail
  refine C2.mono ?_
  rintro e w2 ⟨rfl, hk⟩
  have K : Hid (MkP base (.slice a n ca) n (.slice b m cb) m w w2) := hk
  clear hk C2 p0 p1 p2
  go_wp2_with fail
  go_ret
  exact ⟨rfl, K.out⟩
set_option maxRecDepth 100000 in
set_option maxHeartbeats 2000000 in
theorem markResponseResult_lv (w : World) (c s : Int) (a : Option Addr) (n ca : Nat) (b : Option Addr) (m cb bb : Nat) (l : List Hdr) (t : List UInt8) (hn : n = l.length) (hl : l.length ≤ 1000) (ht : t.length ≤ 1048576) (hv : HLV w (.slice a n ca) l) (hk : BOwn w bb (.slice b m cb) t) (base : Nat) (hb : ∀ b, (Value.slice a n ca).ownBlock = some b → base ≤ b) (hbb : base ≤ bb) (hbs : base ≤ w.heap.size) (q : Int) (hq : ((1 + 2 * n + m : Nat) : Int) = q) :
    Calls Tryz.prog 60 #[.agg #[.int .i64 c, .int .i64 s, .slice a n ca, .slice b m cb], .int .i64 1] w fun e w' => e = .returned (.int .i64 q) ∧ MkP base (.slice a n ca) n (.slice b m cb) m w w' := by
  obtain ⟨V, hV⟩ : ∃ V, V = w.alloc (.cells #[.int .i64 c, .int .i64 s, .slice a n ca, .slice b m cb] 42) := ⟨_, rfl⟩
  have HV : Hid (V = w.alloc (.cells #[.int .i64 c, .int .i64 s, .slice a n ca, .slice b m cb] 42)) := hV
  have bV : Below w.heap.size w V := by rw [hV]; exact (Below.refl _ _).alloc (Nat.le_refl _) _
  have C := markResponse_lv V s a n ca b m cb bb l t hn hl ht (hv.below bV) (hk.keep bV) base hb hbb (Nat.le_trans hbs bV.size) q hq
  have HM : Hid (∀ X, MkP base (.slice a n ca) n (.slice b m cb) m V X → MkP base (.slice a n ca) n (.slice b m cb) m w X) := fun X h => MkP.after bV hbs h
  clear bV hV hv hk hn hl ht hb hbb hbs hq
  go_enter Tryz.func60, Tryz.ntmps60
  go_wp2_with fail
  rw [← HV.out]
  refine C.mono ?_
  rintro e w1 ⟨rfl, hk⟩
  have K : Hid (MkP base (.slice a n ca) n (.slice b m cb) m w w1) := HM.out w1 hk
  clear hk C HV HM
  go_wp2_with fail
  go_ret
  exact ⟨rfl, K.out⟩
theorem heldB_behind {w : World} {b : Option Addr} {m cb k : Nat} (hm : m ≤ 1048576) (hk : k ≤ 10000000) (h : MarkB w (.slice b m cb) k m) :
    Calls Tryz.prog 103 #[.slice b m cb, .int .i64 (k : Int)] w fun e w' => e = .returned (.int .i64 ((k + m : Nat) : Int)) ∧ w' = w := by
  by_cases h0 : m = 0
  · subst h0
    exact heldByteS_none w b cb _
  · rcases h with h | ⟨g, c, e, hg, hc⟩
    · exact absurd h h0
    · simp only [Value.slice.injEq] at e
      obtain ⟨rfl, _, rfl⟩ := e
      exact heldByteS_row w g m cb k hm hk hc
set_option maxHeartbeats 2000000 in
theorem heldResponse_lv (w : World) (s : Int) (a : Option Addr) (n ca : Nat) (b : Option Addr) (m cb : Nat) (hl : n ≤ 1000) (hm : m ≤ 1048576) (hv : HLV w (.slice a n ca) (mkHL 1 n)) (hk : MarkB w (.slice b m cb) (1 + 2 * n) m) (q : Int) (hq : ((1 + 2 * n + m : Nat) : Int) = q) :
    Calls Tryz.prog 108 #[.agg #[.int .i64 s, .slice a n ca, .slice b m cb], .int .i64 1] w fun e w' => e = .returned (.int .i64 q) ∧ Below w.heap.size w w' := by
  obtain ⟨V, hV⟩ : ∃ V, V = w.alloc (.cells #[.int .i64 s, .slice a n ca, .slice b m cb] 32) := ⟨_, rfl⟩
  have HV : Hid (V = w.alloc (.cells #[.int .i64 s, .slice a n ca, .slice b m cb] 32)) := hV
  have bV : Below w.heap.size w V := by rw [hV]; exact (Below.refl _ _).alloc (Nat.le_refl _) _
  have fV : Three V w.heap.size (.int .i64 s) (.slice a n ca) (.slice b m cb) := by rw [hV]; exact Three.new _ _ _ _ _
  have HE := heldHeaderS_lv V (.slice a n ca) n (by omega) (hv.below bV)
  obtain ⟨r, hr⟩ : ∃ r : Int, ((1 + 2 * n : Nat) : Int) = r := ⟨_, rfl⟩
  have HM : Hid (∀ X, Below V.heap.size V X → Calls Tryz.prog 103 #[.slice b m cb, .int .i64 r] X fun e w' => e = .returned (.int .i64 q) ∧ w' = X) := by
    intro X hX
    have := heldB_behind hm (by omega) ((hk.keep bV).keep hX)
    rwa [hr, hq] at this
  have g : ¬ r < 0 := by omega
  have g2 : ¬ q < 0 := by omega
  rw [hr] at HE
  have HT : Hid (Three V w.heap.size (.int .i64 s) (.slice a n ca) (.slice b m cb) ∧ Below w.heap.size w V) := ⟨fV, bV⟩
  clear hv hk hq hr bV fV hl hm hV
  go_enter Tryz.func108, Tryz.ntmps108
  go_wp2_with fail
  rw [← HV.out]
  refine HE.mono ?_
  rintro e w1 ⟨rfl, hb⟩
  have C2 := HM.out w1 hb
  obtain ⟨p0, p1, p2, _, _⟩ := HT.out.1.keep hb
  have KB : Hid (Below w.heap.size w w1) := HT.out.2.trans (hb.mono HT.out.2.size)
  clear hb HE HM HT HV
  go_wp2_with fail
  refine C2.mono ?_
  rintro e w2 ⟨rfl, hw⟩
  obtain rfl := hw.symm
  clear hw C2 p0 p1 p2
  go_wp2_with fail
  go_ret
  exact ⟨rfl, KB.out⟩
set_option maxHeartbeats 2000000 in
theorem heldResponseResult_lv (w : World) (c s : Int) (a : Option Addr) (n ca : Nat) (b : Option Addr) (m cb : Nat) (hl : n ≤ 1000) (hm : m ≤ 1048576) (hv : HLV w (.slice a n ca) (mkHL 1 n)) (hk : MarkB w (.slice b m cb) (1 + 2 * n) m) (q : Int) (hq : ((1 + 2 * n + m : Nat) : Int) = q) :
    Calls Tryz.prog 61 #[.agg #[.int .i64 c, .int .i64 s, .slice a n ca, .slice b m cb], .int .i64 1] w fun e w' => e = .returned (.int .i64 q) ∧ Below w.heap.size w w' := by
  have bV : Below w.heap.size w (w.alloc (.cells #[.int .i64 c, .int .i64 s, .slice a n ca, .slice b m cb] 42)) := (Below.refl _ _).alloc (Nat.le_refl _) _
  have HE := heldResponse_lv (w.alloc (.cells #[.int .i64 c, .int .i64 s, .slice a n ca, .slice b m cb] 42)) s a n ca b m cb hl hm (hv.below bV) (hk.keep bV) q hq
  have g : ¬ q < 0 := by omega
  clear hv hk hq bV hl hm
  go_enter Tryz.func61, Tryz.ntmps61
  go_wp2_with fail
  refine HE.mono ?_
  rintro e w1 ⟨rfl, hb⟩
  have KB : Hid (Below w.heap.size w w1) := ((Below.refl _ _).alloc (Nat.le_refl _) _).trans (hb.mono (by simp))
  clear hb HE
  go_wp2_with fail
  go_ret
  exact ⟨rfl, KB.out⟩
end Go.Proofs.YtojcjpdgjohldaaGreatDoor
/-
  The law of ReadResponse.
-/
namespace Go.Proofs.YtojcjpdgjohldaaGreatDoor
open Go.ChangeShapes Go.WideShapes Go.ChangeAt Go.RowKit
/-- What a call hands back: head lines and bytes in memory of its own. -/
structure PHas (q : Rp) (base : Nat) (a : Option Addr) (n k : Nat) (b : Option Addr) (m l : Nat) (w : World) : Prop where
  len : n = q.l.length
  lenb : m = q.b.length
  hlv : HLV w (.slice a n k) q.l
  hown : BOwn w base (.slice b m l) q.b
  ge : ∀ b, (Value.slice a n k).ownBlock = some b → base ≤ b ∧ b < w.heap.size
theorem PHas.lv {q : Rp} {base : Nat} {a : Option Addr} {n k : Nat} {b : Option Addr} {m l : Nat} {w : World} (h : PHas q base a n k b m l w) : HLV w (.slice a n k) q.l ∧ BOwn w 0 (.slice b m l) q.b := ⟨h.hlv, h.hown.lower (Nat.zero_le _)⟩
theorem PHas.lvAt {q : Rp} {base : Nat} {a : Option Addr} {n k : Nat} {b : Option Addr} {m l : Nat} {w : World} (h : PHas q base a n k b m l w) {b0 : Nat} (hb : b0 ≤ base) : HLV w (.slice a n k) q.l ∧ BOwn w b0 (.slice b m l) q.b := ⟨h.hlv, h.hown.lower hb⟩
theorem PGot.has {c : Int} {q : Rp} {base : Nat} {e : Ending} {w : World} (h : PGot c q base e w) : ∃ a n k b m l, e = .returned (.agg #[.int .i64 c, .int .i64 q.s, .slice a n k, .slice b m l]) ∧ PHas q base a n k b m l w := by
  obtain ⟨a, n, k, b, m, l, rfl, ho, hp⟩ := h
  obtain ⟨a', c', e, _⟩ := ho.at
  obtain ⟨a2, c2, e2, _⟩ := hp.shape
  simp only [Value.slice.injEq] at e e2
  exact ⟨a, n, k, b, m, l, rfl, e.2.1, e2.2.1, ho.lv.1, hp, fun b hb => ⟨ho.lv.2 b hb, ho.lv.1.block_lt b hb⟩⟩
theorem readP_len (d : List UInt8) : (readP d).2.l.length ≤ 20 ∧ (readP d).2.b.length ≤ 10000 := by
  have z : rp0.l.length ≤ 20 ∧ rp0.b.length ≤ 10000 := ⟨Nat.zero_le _, Nat.zero_le _⟩
  unfold readP
  split
  · exact z
  · split
    · split
      · split
        · split
          · refine ⟨readHL_len (hmk (restP d)), ?_⟩
            show (d.drop (ccAt d + 4)).length ≤ 10000
            rw [List.length_drop]
            omega
          · exact z
        · exact z
      · exact z
    · exact z
/-- What lies in memory while the law goes on. -/
structure RPL (w : World) (c s : Int) (L : List Hdr) (BL : List UInt8) (X1 : Nat) (a1 : Option Addr) (n1 k1 : Nat) (b1 : Option Addr) (m1 l1 X2 : Nat) (a2 : Option Addr) (n2 k2 : Nat) (b2 : Option Addr) (m2 l2 : Nat) (X : World) : Prop where
  b : Below w.heap.size w X
  r1 : Four X X1 (.int .i64 c) (.int .i64 s) (.slice a1 n1 k1) (.slice b1 m1 l1)
  l1 : (HLV X (.slice a1 n1 k1) L ∧ BOwn X 0 (.slice b1 m1 l1) BL)
  r2 : Four X X2 (.int .i64 c) (.int .i64 s) (.slice a2 n2 k2) (.slice b2 m2 l2)
theorem RPL.keep {w : World} {c s : Int} {L : List Hdr} {BL : List UInt8} {X1 : Nat} {a1 : Option Addr} {n1 k1 : Nat} {b1 : Option Addr} {m1 l1 X2 : Nat} {a2 : Option Addr} {n2 k2 : Nat} {b2 : Option Addr} {m2 l2 : Nat} {X X' : World} (k : RPL w c s L BL X1 a1 n1 k1 b1 m1 l1 X2 a2 n2 k2 b2 m2 l2 X) (hb : Below X.heap.size X X') : RPL w c s L BL X1 a1 n1 k1 b1 m1 l1 X2 a2 n2 k2 b2 m2 l2 X' :=
  ⟨k.b.trans (hb.mono k.b.size), k.r1.keep hb, (⟨(k.l1).1.below hb, (k.l1).2.keep hb⟩ : _ ∧ _), k.r2.keep hb⟩
theorem RPL.av {w : World} {c s : Int} {L : List Hdr} {BL : List UInt8} {X1 : Nat} {a1 : Option Addr} {n1 k1 : Nat} {b1 : Option Addr} {m1 l1 X2 : Nat} {a2 : Option Addr} {n2 k2 : Nat} {b2 : Option Addr} {m2 l2 : Nat} {X X' : World} {v : Value} (k : RPL w c s L BL X1 a1 n1 k1 b1 m1 l1 X2 a2 n2 k2 b2 m2 l2 X) (ho : HAV v X X') (hb : Below w.heap.size X X') (e1 : v.ownBlock ≠ some X1) (e2 : ∀ b, (Value.slice a1 n1 k1).ownBlock = some b → v.ownBlock ≠ some b) (e4 : ∀ b, (Value.slice b1 m1 l1).ownBlock = some b → v.ownBlock ≠ some b) (e3 : v.ownBlock ≠ some X2) : RPL w c s L BL X1 a1 n1 k1 b1 m1 l1 X2 a2 n2 k2 b2 m2 l2 X' :=
  ⟨k.b.trans hb, k.r1.av ho e1, ⟨k.l1.1.av ho e2, k.l1.2.av ho e4⟩, k.r2.av ho e3⟩
set_option maxRecDepth 100000 in
set_option maxHeartbeats 32000000 in
theorem lawReadResponse (E : Errs) (w : World) (a : Option Addr) (cap : Nat) (d : List UInt8) (hset : SetIs w) (hE : ErrsIs w E) (hmx : MaxIs w) (hi : BIn w a d) :
    Calls Tryz.prog 11 #[.slice a d.length cap] w fun e w' => e = .returned (.bool true) ∧ Below w.heap.size w w' := by
  by_cases hbig : (1048576 : Int) < d.length
  · clear hi
    generalize d.length = n at *
    go_enter Tryz.func11, Tryz.ntmps11
    go_wp2
    go_ret
    exact ⟨rfl, Below.refl _ _⟩
  have hd1 : d.length ≤ 1048576 := by omega
  have HT : Hid (∀ X, Below w.heap.size w X → Calls Tryz.prog 43 #[.slice a d.length cap] X fun e w' => e = .returned (.slice (some ⟨X.heap.size, 0, none⟩) d.length d.length) ∧ BMine w' X.heap.size d ∧ Below X.heap.size X w') := fun X hb => toByteS_any X a cap d hd1 (hi.keep hb)
  have HF : Hid (∀ X g, BMine X g d → Calls Tryz.prog 29 #[.slice (some ⟨g, 0, none⟩) d.length d.length] X fun e w' => (∃ a n k b m l, e = .returned (.agg #[.int .i64 (readP d).1, .int .i64 (readP d).2.s, .slice a n k, .slice b m l]) ∧ PHas (readP d).2 X.heap.size a n k b m l w') ∧ Below X.heap.size X w') := fun X g hg => (specReadP_any X _ _ d hd1 (Nat.le_refl _) hg.in).mono fun e w' ⟨h1, h2⟩ => ⟨PGot.has h1, h2⟩
  have HG : Hid (∀ X g, Below w.heap.size w X → BMine X g d → Calls Tryz.prog 23 #[.slice (some ⟨g, 0, none⟩) d.length d.length] X fun e w' => (∃ a n k b m l, e = .returned (.agg #[.int .i64 (readP d).1, .int .i64 (readP d).2.s, .slice a n k, .slice b m l]) ∧ PHas (readP d).2 X.heap.size a n k b m l w') ∧ Below X.heap.size X w') := fun X g hb hg => (implReadP_any E X _ _ d hd1 (hset.below hb) (hE.below hb) (hmx.below hb) hg.in).mono fun e w' ⟨h1, h2⟩ => ⟨PGot.has h1, h2⟩
  have HQ : Hid (∀ X g1 g2, BMine X g1 d → BMine X g2 d → Calls Tryz.prog 45 #[.slice (some ⟨g1, 0, none⟩) d.length d.length, .slice (some ⟨g2, 0, none⟩) d.length d.length] X fun e w' => e = .returned (.bool true) ∧ Below X.heap.size X w') := fun X g1 g2 h1 h2 => eqByteS_same X _ _ _ _ d hd1 h1.in h2.in
  have HMB : Hid (∀ X g, BMine X g d → w.heap.size ≤ g → ∃ q : Int, ¬ q < 0 ∧ Calls Tryz.prog 46 #[.slice (some ⟨g, 0, none⟩) d.length d.length, .int .i64 1] X fun e w' => e = .returned (.int .i64 q) ∧ (HAV (.slice (some ⟨g, 0, none⟩) d.length d.length) X w' ∧ Below w.heap.size X w')) := fun X g hg hb => by
    refine ⟨((1 + d.length : Nat) : Int), by omega, ?_⟩
    have := markByteS_row X g d.length d.length 1 w.heap.size hd1 (by omega) hb hg.lt (fun j hj => ⟨⟨_, by have := hg.at0 j d[j] (List.getElem?_eq_getElem hj); rwa [Nat.zero_add] at this⟩, hg.free j hj⟩)
    exact this.mono fun e w' ⟨h1, _, h3, h4⟩ => ⟨h1, ⟨by rw [h3.size]; exact Nat.le_refl _, fun b o hb hn => h3.cell b o hb hn, fun b o _ _ => h3.frozen b o⟩, h4⟩
  have hL := readP_len d
  clear hset hE hmx hi
  obtain ⟨R, hR⟩ : ∃ R, readP d = R := ⟨_, rfl⟩
  rw [hR] at HF HG hL
  clear hR
  obtain ⟨c, s, L, BL⟩ := R
  simp only at HF HG hL
  generalize d.length = n at *
  go_enter Tryz.func11, Tryz.ntmps11
  have C0 := HT.out w (Below.refl _ _)
  go_wp2_with fail
  refine C0.mono ?_
  rintro e w1 ⟨rfl, hm1, hb1⟩
  have K1 : Hid (Below w.heap.size w w1) := hb1
  have C1 := HF.out w1 _ hm1
  clear C0 hm1 hb1 HF
  go_wp2_with fail
  refine C1.mono ?_
  rintro e w2 ⟨⟨a1, n1, k1, b1, m1, l1, rfl, g1⟩, hb2⟩
  obtain ⟨V, hV⟩ : ∃ V, V = w2.alloc (.cells #[.int .i64 c, .int .i64 s, .slice a1 n1 k1, .slice b1 m1 l1] 42) := ⟨_, rfl⟩
  have HV : Hid (V = w2.alloc (.cells #[.int .i64 c, .int .i64 s, .slice a1 n1 k1, .slice b1 m1 l1] 42)) := hV
  have aV : Below w2.heap.size w2 V := by rw [hV]; exact (Below.refl _ _).alloc (Nat.le_refl _) _
  have tV : Four V w2.heap.size (.int .i64 c) (.int .i64 s) (.slice a1 n1 k1) (.slice b1 m1 l1) := by rw [hV]; exact Four.new _ _ _ _ _ _
  have b2 := K1.out.trans (hb2.mono K1.out.size)
  have K2 : Hid (Below w.heap.size w V ∧ Four V w2.heap.size (.int .i64 c) (.int .i64 s) (.slice a1 n1 k1) (.slice b1 m1 l1) ∧ (HLV V (.slice a1 n1 k1) L ∧ BOwn V 0 (.slice b1 m1 l1) BL) ∧ ((∀ b, (Value.slice a1 n1 k1).ownBlock = some b → b < w2.heap.size) ∧ (∀ b, (Value.slice b1 m1 l1).ownBlock = some b → b < w2.heap.size)) ∧ w.heap.size ≤ w2.heap.size ∧ w2.heap.size < V.heap.size) := ⟨b2.trans (aV.mono b2.size), tV, (⟨(g1.lv).1.below aV, (g1.lv).2.keep aV⟩ : _ ∧ _), ⟨fun b hb => (g1.ge b hb).2, fun b hb => (g1.hown.block b hb).2⟩, b2.size, tV.lt⟩
  clear C1 hb2 hV aV tV b2 K1 g1
  have C2 := HT.out V K2.out.1
  go_wp2_with fail
  rw [← HV.out]
  refine C2.mono ?_
  rintro e w3 ⟨rfl, hm3, hb3⟩
  have K3 : Hid (Below w.heap.size w w3 ∧ Four w3 w2.heap.size (.int .i64 c) (.int .i64 s) (.slice a1 n1 k1) (.slice b1 m1 l1) ∧ (HLV w3 (.slice a1 n1 k1) L ∧ BOwn w3 0 (.slice b1 m1 l1) BL) ∧ BMine w3 V.heap.size d) := ⟨K2.out.1.trans (hb3.mono K2.out.1.size), K2.out.2.1.keep hb3, (⟨(K2.out.2.2.1).1.below hb3, (K2.out.2.2.1).2.keep hb3⟩ : _ ∧ _), hm3⟩
  have O3 : Hid (((∀ b, (Value.slice a1 n1 k1).ownBlock = some b → b < w2.heap.size) ∧ (∀ b, (Value.slice b1 m1 l1).ownBlock = some b → b < w2.heap.size)) ∧ w.heap.size ≤ w2.heap.size ∧ w2.heap.size < V.heap.size ∧ V.heap.size < w3.heap.size) := ⟨K2.out.2.2.2.1, K2.out.2.2.2.2.1, K2.out.2.2.2.2.2, hm3.lt⟩
  clear C2 hm3 hb3 K2 HV
  generalize w2.heap.size = X1 at *
  generalize V.heap.size = gx at *
  try clear V
  try clear w2
  have C3 := HG.out w3 gx K3.out.1 K3.out.2.2.2
  go_wp2_with fail
  refine C3.mono ?_
  rintro e w4 ⟨⟨a2, n2, k2, b2, m2, l2, rfl, g2⟩, hb4⟩
  obtain ⟨Y, hY⟩ : ∃ Y, Y = w4.alloc (.cells #[.int .i64 c, .int .i64 s, .slice a2 n2 k2, .slice b2 m2 l2] 42) := ⟨_, rfl⟩
  have HY : Hid (Y = w4.alloc (.cells #[.int .i64 c, .int .i64 s, .slice a2 n2 k2, .slice b2 m2 l2] 42)) := hY
  have aY : Below w4.heap.size w4 Y := by rw [hY]; exact (Below.refl _ _).alloc (Nat.le_refl _) _
  have tY : Four Y w4.heap.size (.int .i64 c) (.int .i64 s) (.slice a2 n2 k2) (.slice b2 m2 l2) := by rw [hY]; exact Four.new _ _ _ _ _ _
  have b4 := K3.out.1.trans (hb4.mono K3.out.1.size)
  have K5 : Hid (RPL w c s L BL X1 a1 n1 k1 b1 m1 l1 w4.heap.size a2 n2 k2 b2 m2 l2 Y ∧ (HLV Y (.slice a2 n2 k2) L ∧ BOwn Y w.heap.size (.slice b2 m2 l2) BL) ∧ BMine Y gx d) := ⟨⟨b4.trans (aY.mono b4.size), (K3.out.2.1.keep hb4).keep aY, (⟨((⟨(K3.out.2.2.1).1.below hb4, (K3.out.2.2.1).2.keep hb4⟩ : _ ∧ _)).1.below aY, ((⟨(K3.out.2.2.1).1.below hb4, (K3.out.2.2.1).2.keep hb4⟩ : _ ∧ _)).2.keep aY⟩ : _ ∧ _), tY⟩, (⟨(g2.lvAt K3.out.1.size).1.below aY, (g2.lvAt K3.out.1.size).2.keep aY⟩ : _ ∧ _), (K3.out.2.2.2.keep hb4).keep aY⟩
  have O5 : Hid (((∀ b, (Value.slice a2 n2 k2).ownBlock = some b → w3.heap.size ≤ b ∧ b < w4.heap.size) ∧ (∀ b, (Value.slice b2 m2 l2).ownBlock = some b → w3.heap.size ≤ b ∧ b < w4.heap.size)) ∧ w3.heap.size ≤ w4.heap.size ∧ n2 = L.length ∧ m2 = BL.length) := ⟨⟨fun b hb => g2.ge b hb, fun b hb => g2.hown.block b hb⟩, hb4.size, g2.len, g2.lenb⟩
  clear C3 hb4 hY aY tY b4 K3 g2
  have C5 := eqResponseResult_lv Y c s a2 a1 n2 n1 k2 k1 b2 b1 m2 m1 l2 l1 _ _ L BL (by omega) (by omega) (K5.out.2.1).1 (K5.out.1.l1).1 (K5.out.2.1).2 (K5.out.1.l1).2
  obtain ⟨p0, p1, p2, p3, _, _⟩ := K5.out.1.r1
  rw [HY.out] at p0 p1 p2 p3
  go_wp2_with fail
  rw [← HY.out]
  refine C5.mono ?_
  rintro e w5 ⟨rfl, hb5⟩
  have K6 : Hid (RPL w c s L BL X1 a1 n1 k1 b1 m1 l1 w4.heap.size a2 n2 k2 b2 m2 l2 w5 ∧ (HLV w5 (.slice a2 n2 k2) L ∧ BOwn w5 w.heap.size (.slice b2 m2 l2) BL) ∧ BMine w5 gx d) := ⟨K5.out.1.keep hb5, (⟨(K5.out.2.1).1.below hb5, (K5.out.2.1).2.keep hb5⟩ : _ ∧ _), K5.out.2.2.keep hb5⟩
  clear p0 p1 p2 p3 HY C5 K5 hb5
  try clear Y
  generalize w4.heap.size = X2 at *
  generalize w3.heap.size = y3 at *
  try clear w4
  try clear w3
  have C6 := HT.out w5 K6.out.1.b
  go_wp2_with fail
  refine C6.mono ?_
  rintro e w6 ⟨rfl, hm6, hb6⟩
  have K7 : Hid (RPL w c s L BL X1 a1 n1 k1 b1 m1 l1 X2 a2 n2 k2 b2 m2 l2 w6 ∧ (HLV w6 (.slice a2 n2 k2) L ∧ BOwn w6 w.heap.size (.slice b2 m2 l2) BL) ∧ BMine w6 gx d) := ⟨K6.out.1.keep hb6, (⟨(K6.out.2.1).1.below hb6, (K6.out.2.1).2.keep hb6⟩ : _ ∧ _), K6.out.2.2.keep hb6⟩
  have C7 := HQ.out w6 gx _ K7.out.2.2 hm6
  clear C6 hm6 hb6 K6 HQ
  go_wp2_with fail
  refine C7.mono ?_
  rintro e w7 ⟨rfl, hb7⟩
  have K8 : Hid (RPL w c s L BL X1 a1 n1 k1 b1 m1 l1 X2 a2 n2 k2 b2 m2 l2 w7 ∧ (HLV w7 (.slice a2 n2 k2) L ∧ BOwn w7 w.heap.size (.slice b2 m2 l2) BL) ∧ BMine w7 gx d) := ⟨K7.out.1.keep hb7, (⟨(K7.out.2.1).1.below hb7, (K7.out.2.1).2.keep hb7⟩ : _ ∧ _), K7.out.2.2.keep hb7⟩
  clear C7 hb7 K7
  try clear w6
  try clear w5
  obtain ⟨qx, hqx, C8⟩ := HMB.out w7 gx K8.out.2.2 (by have := O3.out; omega)
  clear HMB
  go_wp2_with fail
  refine C8.mono ?_
  rintro e w8 ⟨rfl, hov, hb8⟩
  have K9 : Hid (RPL w c s L BL X1 a1 n1 k1 b1 m1 l1 X2 a2 n2 k2 b2 m2 l2 w8 ∧ (HLV w8 (.slice a2 n2 k2) L ∧ BOwn w8 w.heap.size (.slice b2 m2 l2) BL)) := by
    have o3 := O3.out
    have o5 := O5.out
    refine ⟨K8.out.1.av hov hb8 (fun e => ?_) (fun b hb e => ?_) (fun b hb e => ?_) (fun e => ?_), ⟨(K8.out.2.1).1.av hov fun b hb e => ?_, (K8.out.2.1).2.av hov fun b hb e => ?_⟩⟩
    all_goals (simp only [Value.ownBlock, Option.some.injEq] at e; first | (have := o3.1.1 b hb; omega) | (have := o3.1.2 b hb; omega) | (have := o5.1.1 b hb; omega) | (have := o5.1.2 b hb; omega) | omega)
  clear hov hb8 C8 K8
  try clear w7
  have hqd : decide (qx < 0) = false := by simpa using hqx
  have C9 := eqResponseResult_lv w8 c s a2 a1 n2 n1 k2 k1 b2 b1 m2 m1 l2 l1 _ _ L BL (by omega) (by omega) (K9.out.2).1 (K9.out.1.l1).1 (K9.out.2).2 (K9.out.1.l1).2
  obtain ⟨p0, p1, p2, p3, _, _⟩ := K9.out.1.r1
  obtain ⟨s0, s1, s2, s3, _, _⟩ := K9.out.1.r2
  go_wp2_with fail
  refine C9.mono ?_
  rintro e w9 ⟨rfl, hb9⟩
  have K10 : Hid (RPL w c s L BL X1 a1 n1 k1 b1 m1 l1 X2 a2 n2 k2 b2 m2 l2 w9 ∧ (HLV w9 (.slice a2 n2 k2) L ∧ BOwn w9 w.heap.size (.slice b2 m2 l2) BL)) := ⟨K9.out.1.keep hb9, (⟨(K9.out.2).1.below hb9, (K9.out.2).2.keep hb9⟩ : _ ∧ _)⟩
  clear C9 hb9 p0 p1 p2 p3 s0 s1 s2 s3 hqd K9
  try clear w8
  obtain ⟨q, hq⟩ : ∃ q : Int, ((1 + 2 * n2 + m2 : Nat) : Int) = q := ⟨_, rfl⟩
  have HQQ : Hid (((1 + 2 * n2 + m2 : Nat) : Int) = q) := hq
  have hq0 : ¬ q < 0 := by omega
  have C10 := markResponseResult_lv w9 c s a2 n2 k2 b2 m2 l2 w.heap.size L BL O5.out.2.2.1 (by omega) (by omega) K10.out.2.1 K10.out.2.2 w.heap.size (fun b hb => by have := O5.out.1.1 b hb; have := O3.out; omega) (Nat.le_refl _) K10.out.1.b.size q hq
  clear hq
  obtain ⟨s0, s1, s2, s3, _, _⟩ := K10.out.1.r2
  go_wp2_with fail
  refine C10.mono ?_
  rintro e w10 ⟨rfl, hmk⟩
  have K11 : Hid (RPL w c s L BL X1 a1 n1 k1 b1 m1 l1 X2 a2 n2 k2 b2 m2 l2 w10 ∧ (HLV w10 (.slice a2 n2 k2) (mkHL 1 n2) ∧ MarkB w10 (.slice b2 m2 l2) (1 + 2 * n2) m2)) := by
    have o3 := O3.out
    have o5 := O5.out
    refine ⟨⟨K10.out.1.b.trans hmk.low, K10.out.1.r1.av2 hmk.av (fun e => ?_) (fun e => ?_), ⟨K10.out.1.l1.1.av2 hmk.av (fun b hb e => ?_) (fun b hb e => ?_), K10.out.1.l1.2.av2 hmk.av (fun b hb e => ?_) (fun b hb e => ?_)⟩, K10.out.1.r2.av2 hmk.av (fun e => ?_) (fun e => ?_)⟩, hmk.lv, hmk.mb⟩
    · have := o5.1.1 _ e; omega
    · have := o5.1.2 _ e; omega
    · have := o5.1.1 _ e; have := o3.1.1 b hb; omega
    · have := o5.1.2 _ e; have := o3.1.1 b hb; omega
    · have := o5.1.1 _ e; have := o3.1.2 b hb; omega
    · have := o5.1.2 _ e; have := o3.1.2 b hb; omega
    · have := o5.1.1 _ e; omega
    · have := o5.1.2 _ e; omega
  clear hmk C10 K10 s0 s1 s2 s3
  try clear w9
  have hn2 : n2 ≤ 1000 := by rw [O5.out.2.2.1]; omega
  have hm2 : m2 ≤ 1048576 := by rw [O5.out.2.2.2]; omega
  have HHD : Hid (∀ X, (HLV X (.slice a2 n2 k2) (mkHL 1 n2) ∧ MarkB X (.slice b2 m2 l2) (1 + 2 * n2) m2) → Calls Tryz.prog 61 #[.agg #[.int .i64 c, .int .i64 s, .slice a2 n2 k2, .slice b2 m2 l2], .int .i64 1] X fun e w' => e = .returned (.int .i64 q) ∧ Below X.heap.size X w') := fun X hm => heldResponseResult_lv X c s a2 n2 k2 b2 m2 l2 hn2 hm2 hm.1 hm.2 q HQQ.out
  have C11 := HHD.out w10 K11.out.2
  obtain ⟨s0, s1, s2, s3, _, _⟩ := K11.out.1.r2
  go_wp2_with fail
  refine C11.mono ?_
  rintro e w11 ⟨rfl, hb11⟩
  have K12 : Hid (RPL w c s L BL X1 a1 n1 k1 b1 m1 l1 X2 a2 n2 k2 b2 m2 l2 w11 ∧ (HLV w11 (.slice a2 n2 k2) (mkHL 1 n2) ∧ MarkB w11 (.slice b2 m2 l2) (1 + 2 * n2) m2)) := ⟨K11.out.1.keep hb11, (⟨(K11.out.2).1.below hb11, (K11.out.2).2.keep hb11⟩ : _ ∧ _)⟩
  clear C11 hb11 K11 s0 s1 s2 s3
  try clear w10
  have C12 := HT.out w11 K12.out.1.b
  go_wp2_with fail
  refine C12.mono ?_
  rintro e w12 ⟨rfl, hm12, hb12⟩
  have K13 : Hid (RPL w c s L BL X1 a1 n1 k1 b1 m1 l1 X2 a2 n2 k2 b2 m2 l2 w12 ∧ (HLV w12 (.slice a2 n2 k2) (mkHL 1 n2) ∧ MarkB w12 (.slice b2 m2 l2) (1 + 2 * n2) m2)) := ⟨K12.out.1.keep hb12, (⟨(K12.out.2).1.below hb12, (K12.out.2).2.keep hb12⟩ : _ ∧ _)⟩
  have C13 := HG.out w12 _ K13.out.1.b hm12
  clear C12 hm12 hb12 K12 HT HG
  go_wp2_with fail
  refine C13.mono ?_
  rintro e w13 ⟨⟨a3, n3, k3, b3, m3, l3, rfl, g3⟩, hb13⟩
  obtain ⟨Z, hZ⟩ : ∃ Z, Z = w13.alloc (.cells #[.int .i64 c, .int .i64 s, .slice a3 n3 k3, .slice b3 m3 l3] 42) := ⟨_, rfl⟩
  have HZ : Hid (Z = w13.alloc (.cells #[.int .i64 c, .int .i64 s, .slice a3 n3 k3, .slice b3 m3 l3] 42)) := hZ
  have aZ : Below w13.heap.size w13 Z := by rw [hZ]; exact (Below.refl _ _).alloc (Nat.le_refl _) _
  have K14 : Hid (RPL w c s L BL X1 a1 n1 k1 b1 m1 l1 X2 a2 n2 k2 b2 m2 l2 Z ∧ (HLV Z (.slice a2 n2 k2) (mkHL 1 n2) ∧ MarkB Z (.slice b2 m2 l2) (1 + 2 * n2) m2)) := ⟨(K13.out.1.keep hb13).keep aZ, (⟨((⟨(K13.out.2).1.below hb13, (K13.out.2).2.keep hb13⟩ : _ ∧ _)).1.below aZ, ((⟨(K13.out.2).1.below hb13, (K13.out.2).2.keep hb13⟩ : _ ∧ _)).2.keep aZ⟩ : _ ∧ _)⟩
  have C14 := eqResponseResult_lv Z c s a3 a1 n3 n1 k3 k1 b3 b1 m3 m1 l3 l1 _ _ L BL (by omega) (by omega) ((⟨(g3.lv).1.below aZ, (g3.lv).2.keep aZ⟩ : _ ∧ _)).1 (K14.out.1.l1).1 ((⟨(g3.lv).1.below aZ, (g3.lv).2.keep aZ⟩ : _ ∧ _)).2 (K14.out.1.l1).2
  obtain ⟨p0, p1, p2, p3, _, _⟩ := K14.out.1.r1
  rw [HZ.out] at p0 p1 p2 p3
  clear C13 hb13 g3 hZ aZ K13
  go_wp2_with fail
  rw [← HZ.out]
  refine C14.mono ?_
  rintro e w14 ⟨rfl, hb14⟩
  have K15 : Hid (RPL w c s L BL X1 a1 n1 k1 b1 m1 l1 X2 a2 n2 k2 b2 m2 l2 w14 ∧ (HLV w14 (.slice a2 n2 k2) (mkHL 1 n2) ∧ MarkB w14 (.slice b2 m2 l2) (1 + 2 * n2) m2)) := ⟨K14.out.1.keep hb14, (⟨(K14.out.2).1.below hb14, (K14.out.2).2.keep hb14⟩ : _ ∧ _)⟩
  clear C14 hb14 p0 p1 p2 p3 HZ K14
  try clear Z
  have C15 := HHD.out w14 K15.out.2
  obtain ⟨s0, s1, s2, s3, _, _⟩ := K15.out.1.r2
  go_wp2_with fail
  refine C15.mono ?_
  rintro e w15 ⟨rfl, hb15⟩
  have KF : Hid (Below w.heap.size w w15) := K15.out.1.b.trans (hb15.mono K15.out.1.b.size)
  clear C15 hb15 K15 s0 s1 s2 s3 HHD
  go_wp2_with fail
  go_ret
  exact ⟨rfl, KF.out⟩
end Go.Proofs.YtojcjpdgjohldaaGreatDoor
/-
  Head lines that came in, opened.
-/
namespace Go.Proofs.YtojcjpdgjohldaaGreatDoor
open Go.ChangeShapes Go.WideShapes Go.ChangeAt Go.RowKit Go.Deep
theorem headerCells : Tryz.prog.cellsOf 168 = 2 := by kernel_rfl
theorem hOneS : Tryz.prog.cellsOf 9 = 1 := by kernel_rfl
theorem hdr_of {H : Type} {enc : TypeId × Value → H} {w : World} {base : Nat} {spare : Nat → Bool} {held : Bool} {fuel : Nat} {cs : List Value} {x : DataW H × List MemPlace}
    (h : DataW.trod enc Tryz.prog w base spare held fuel 168 cs = some x) : ∃ r : Hdr, cs = [.string r.name, .string r.value] ∧ r.name.size ≤ maxLen ∧ r.value.size ≤ maxLen := by
  obtain ⟨y0, y1, n, _, hl, h0, h2⟩ := trod_struct2 Tryz.underlying168 h
  rw [headerCells] at hl
  simp only [hOneS] at h0 h2
  obtain ⟨s0, e0, _, z0⟩ := DataW.trod_string Tryz.underlying9 h0
  obtain ⟨s2, e2, _, z2⟩ := DataW.trod_string Tryz.underlying9 h2
  match cs, hl with
  | [c0, c2], _ =>
    simp only [List.drop_zero, List.take_succ_cons, List.take_zero, List.drop_succ_cons, List.cons.injEq, and_true] at e0 e2
    exact ⟨⟨s0, s2⟩, by rw [e0, e2], z0, z2⟩
theorem open_headers {H : Type} {enc : TypeId × Value → H} {w : World} {base : Nat} {spare : Nat → Bool} {held : Bool} {fuel : Nat} {a : Option Addr} {len cap : Nat} {x : DataW H × List MemPlace}
    (h : DataW.trod enc Tryz.prog w base spare held fuel 54 [.slice a len cap] = some x) :
    ∃ l : List Hdr, l.length = len ∧ len ≤ maxLen ∧ SmallHdrs l ∧ (l = [] ∨ ∃ b off, a = some ⟨b, off, none⟩ ∧ HeadsAt w b off l) := by
  rcases open_slice Tryz.underlying54 h with ⟨hcs, _⟩ | ⟨A, len', cap', m, n, D, Pl, hcs, _, hl, hm, hmm, _, hel⟩
  · simp only [List.cons.injEq, Value.slice.injEq, and_true] at hcs
    obtain ⟨_, rfl, _⟩ := hcs
    exact ⟨[], rfl, by unfold maxLen; omega, fun i r hr => by simp at hr, .inl rfl⟩
  · simp only [List.cons.injEq, Value.slice.injEq, and_true] at hcs
    obtain ⟨rfl, rfl, rfl⟩ := hcs
    have hlm : len ≤ m := by rw [hmm]; split <;> omega
    have hrec : ∀ i, i < len → ∃ r : Hdr, w.cells? base (A.add (i * 2)) 2 = some [.string r.name, .string r.value] ∧ r.name.size ≤ maxLen ∧ r.value.size ≤ maxLen := by
      intro i hi
      obtain ⟨cs', hc, ht⟩ := hel i (by omega)
      rw [headerCells] at hc
      obtain ⟨r, rfl, z⟩ := hdr_of ht
      exact ⟨r, hc, z⟩
    obtain ⟨f, hf⟩ : ∃ f : Nat → Hdr, ∀ i, i < len → w.cells? base (A.add (i * 2)) 2 = some [.string (f i).name, .string (f i).value] ∧ (f i).name.size ≤ maxLen ∧ (f i).value.size ≤ maxLen := by
      classical
      refine ⟨fun i => if hi : i < len then (hrec i hi).choose else ⟨.empty, .empty⟩, fun i hi => ?_⟩
      simp only [dif_pos hi]
      exact (hrec i hi).choose_spec
    refine ⟨(List.range len).map f, by simp, by omega, ?_, ?_⟩
    · intro i r hr
      rw [List.getElem?_map] at hr
      obtain ⟨j, hj, rfl⟩ := Option.map_eq_some_iff.1 hr
      obtain ⟨hlt, rfl⟩ := List.getElem?_eq_some_iff.1 hj
      simp at hlt
      simpa using (hf i hlt).2
    · by_cases h0 : len = 0
      · subst h0; exact .inl rfl
      · obtain ⟨b, off, spot⟩ := A
        have cells : ∀ i, i < len → ∀ j, j < 2 → w.cell? ((⟨b, off, spot⟩ : Addr).add (i * 2 + j)) = ([.string (f i).name, .string (f i).value] : List Value)[j]? := by
          intro i hi j hj
          have c := (World.cells?_some (hf i hi).1).2.2 j hj
          rw [add_add] at c
          exact c
        have hs : spot = none := by
          have c := cells 0 (by omega) 0 (by omega)
          simp only [Nat.zero_mul, Nat.add_zero, List.getElem?_cons_zero] at c
          simpa [Addr.add] using World.cell?_spot c
        subst hs
        have hadd : ∀ i, (⟨b, off, none⟩ : Addr).add i = ⟨b, off + i, none⟩ := fun i => by unfold Addr.add; split <;> simp_all
        refine .inr ⟨b, off, rfl, fun i r hr => ?_⟩
        rw [List.getElem?_map] at hr
        obtain ⟨j, hj, rfl⟩ := Option.map_eq_some_iff.1 hr
        obtain ⟨hlt, rfl⟩ := List.getElem?_eq_some_iff.1 hj
        simp only [List.length_range] at hlt
        simp only [List.getElem_range]
        have q0 := cells i hlt 0 (by omega)
        have q1 := cells i hlt 1 (by omega)
        rw [hadd] at q0 q1
        exact ⟨by simpa using q0, by simpa [Nat.add_assoc] using q1⟩
end Go.Proofs.YtojcjpdgjohldaaGreatDoor
/-
  A request and a response that came in by value, opened.
-/
namespace Go.Proofs.YtojcjpdgjohldaaGreatDoor
open Go.ChangeShapes Go.WideShapes Go.ChangeAt Go.RowKit Go.Deep
theorem requestCells : Tryz.prog.cellsOf 56 = 4 := by kernel_rfl
theorem headsOne : Tryz.prog.cellsOf 54 = 1 := by kernel_rfl
theorem slice_cs {H : Type} {enc : TypeId × Value → H} {w : World} {base : Nat} {spare : Nat → Bool} {held : Bool} {fuel : Nat} {cs : List Value} {t e : TypeId} {x : DataW H × List MemPlace}
    (hu : Tryz.prog.underlying t = some (.slice e)) (h : DataW.trod enc Tryz.prog w base spare held fuel t cs = some x) : ∃ a len cap, cs = [.slice a len cap] := by
  rcases open_slice hu h with ⟨hcs, _⟩ | ⟨A, len', cap', m, n, D, Pl, hcs, _⟩
  · exact ⟨_, _, _, hcs⟩
  · exact ⟨_, _, _, hcs⟩
set_option maxRecDepth 100000 in
theorem open_request {H : Type} {enc : TypeId × Value → H} {w : World} {r : Reach} {b0 base : Nat} {spare : Nat → Bool} {held : Bool} {v : Value} {d : DataW H} {p : List MemPlace}
    (hv : Value.okWide Tryz.prog w r b0 56 v) (h : DataW.Trod enc Tryz.prog w base spare held 56 v d p) :
    ∃ (m h p : ByteArray) (a : Option Addr) (cap : Nat) (l : List Hdr), v = .agg #[.string m, .string h, .string p, .slice a l.length cap] ∧ m.size ≤ maxLen ∧ h.size ≤ maxLen ∧ p.size ≤ maxLen ∧ l.length ≤ maxLen ∧ SmallHdrs l ∧ (l = [] ∨ ∃ b off, a = some ⟨b, off, none⟩ ∧ HeadsAt w b off l) := by
  obtain ⟨cs, rfl, hsz⟩ := okWide_struct Tryz.underlying56 hv
  obtain ⟨fuel, hf0⟩ := h
  obtain ⟨xs, n, _, _, hl, hlen, hf⟩ := DataW.trod_struct Tryz.underlying56 hf0
  match xs, hlen with
  | [y0, y1, y2, y3], _ =>
    have h0 : DataW.trod enc Tryz.prog w base spare held n 9 (((Value.agg cs).cells.toList.drop 0).take (Tryz.prog.cellsOf 9)) = some y0 := hf 0 _ rfl
    have h1 : DataW.trod enc Tryz.prog w base spare held n 9 (((Value.agg cs).cells.toList.drop 1).take (Tryz.prog.cellsOf 9)) = some y1 := hf 1 _ rfl
    have h2 : DataW.trod enc Tryz.prog w base spare held n 9 (((Value.agg cs).cells.toList.drop 2).take (Tryz.prog.cellsOf 9)) = some y2 := hf 2 _ rfl
    have h3 : DataW.trod enc Tryz.prog w base spare held n 54 (((Value.agg cs).cells.toList.drop 3).take (Tryz.prog.cellsOf 54)) = some y3 := hf 3 _ rfl
    rw [hOneS] at h0 h1 h2
    rw [headsOne] at h3
    obtain ⟨s0, e0, _, z0⟩ := DataW.trod_string Tryz.underlying9 h0
    obtain ⟨s1, e1, _, z1⟩ := DataW.trod_string Tryz.underlying9 h1
    obtain ⟨s2, e2, _, z2⟩ := DataW.trod_string Tryz.underlying9 h2
    obtain ⟨a, len, cap, e3⟩ := slice_cs Tryz.underlying54 h3
    rw [e3] at h3
    obtain ⟨l, rfl, m3, s3, o3⟩ := open_headers h3
    refine ⟨s0, s1, s2, a, cap, l, ?_, z0, z1, z2, m3, s3, o3⟩
    have e : cs.toList = [.string s0, .string s1, .string s2, .slice a l.length cap] := by
      simp only [Value.cells] at e0 e1 e2 e3 hl
      rw [requestCells] at hl
      match hc : cs.toList, hl with
      | [c0, c1, c2, c3], _ =>
        rw [hc] at e0 e1 e2 e3
        simp only [List.drop_zero, List.take_succ_cons, List.take_zero, List.drop_succ_cons, List.cons.injEq, and_true] at e0 e1 e2 e3
        rw [e0, e1, e2, e3]
    congr 1
    exact Array.toList_inj.1 e
end Go.Proofs.YtojcjpdgjohldaaGreatDoor
/-
  A response, a row of bytes, a list of texts that came in, opened.
-/
namespace Go.Proofs.YtojcjpdgjohldaaGreatDoor
open Go.ChangeShapes Go.WideShapes Go.ChangeAt Go.RowKit Go.Deep
theorem bytesOne : Tryz.prog.cellsOf 5 = 1 := by kernel_rfl
theorem open_bytes {H : Type} {enc : TypeId × Value → H} {w : World} {base : Nat} {spare : Nat → Bool} {held : Bool} {fuel : Nat} {a : Option Addr} {len cap : Nat} {x : DataW H × List MemPlace}
    (h : DataW.trod enc Tryz.prog w base spare held fuel 22 [.slice a len cap] = some x) : ∃ l : List UInt8, l.length = len ∧ len ≤ maxLen ∧ BIn w a l := by
  rcases open_ints Tryz.underlying22 Tryz.underlying5 bytesOne h with ⟨hcs, _⟩ | ⟨A, l', c', zs, hcs, _, hl, hm, hz, _, hcell, hwz⟩
  · simp only [List.cons.injEq, Value.slice.injEq, and_true] at hcs
    obtain ⟨_, rfl, _⟩ := hcs
    exact ⟨[], rfl, by unfold maxLen; omega, .inl rfl⟩
  · simp only [List.cons.injEq, Value.slice.injEq, and_true] at hcs
    obtain ⟨rfl, rfl, rfl⟩ := hcs
    have hlz : len ≤ zs.length := by rw [hz]; split <;> omega
    refine ⟨(zs.take len).map fun z => UInt8.ofNat z.toNat, by simp; omega, by omega, ?_⟩
    by_cases h0 : len = 0
    · subst h0; exact .inl rfl
    · obtain ⟨b, off, spot⟩ := A
      have hc := hcell 0 (by omega)
      have hspot : spot = none := by simpa [Addr.add] using World.cell?_spot hc
      subst hspot
      have hadd : ∀ i, (⟨b, off, none⟩ : Addr).add i = ⟨b, off + i, none⟩ := fun i => by unfold Addr.add; split <;> simp_all
      refine .inr ⟨b, off, rfl, fun i c hr => ?_⟩
      rw [List.getElem?_map] at hr
      obtain ⟨z, hz1, rfl⟩ := Option.map_eq_some_iff.1 hr
      have hi : i < len := by have := (List.getElem?_eq_some_iff.1 hz1).1; simp at this; omega
      rw [List.getElem?_take_of_lt hi] at hz1
      have h1 := hcell i (by omega)
      rw [hadd, List.getD_eq_getElem?_getD, hz1] at h1
      rw [h1]
      have hw := hwz z (List.mem_of_getElem? hz1)
      simp only [Lit.wf, Bool.and_eq_true, decide_eq_true_eq] at hw
      have w1 : 0 ≤ z := hw.1
      have w2 : z ≤ 255 := hw.2
      have e : ((UInt8.ofNat z.toNat).toNat : Int) = z := by
        rw [UInt8.toNat_ofNat']
        omega
      rw [e]; rfl
theorem responseCells : Tryz.prog.cellsOf 73 = 3 := by kernel_rfl
theorem byteSOne : Tryz.prog.cellsOf 22 = 1 := by kernel_rfl
theorem intOne : Tryz.prog.cellsOf 2 = 1 := by kernel_rfl
set_option maxRecDepth 100000 in
theorem open_response {H : Type} {enc : TypeId × Value → H} {w : World} {r : Reach} {b0 base : Nat} {spare : Nat → Bool} {held : Bool} {v : Value} {d : DataW H} {p : List MemPlace}
    (hv : Value.okWide Tryz.prog w r b0 73 v) (h : DataW.Trod enc Tryz.prog w base spare held 73 v d p) :
    ∃ (z : Int) (a : Option Addr) (cap : Nat) (l : List Hdr) (b : Option Addr) (bc : Nat) (bl : List UInt8), v = .agg #[.int .i64 z, .slice a l.length cap, .slice b bl.length bc] ∧ l.length ≤ maxLen ∧ SmallHdrs l ∧ (l = [] ∨ ∃ b off, a = some ⟨b, off, none⟩ ∧ HeadsAt w b off l) ∧ bl.length ≤ maxLen ∧ BIn w b bl := by
  obtain ⟨cs, rfl, hsz⟩ := okWide_struct Tryz.underlying73 hv
  obtain ⟨fuel, hf0⟩ := h
  obtain ⟨xs, n, _, _, hl, hlen, hf⟩ := DataW.trod_struct Tryz.underlying73 hf0
  match xs, hlen with
  | [y0, y1, y2], _ =>
    have h0 : DataW.trod enc Tryz.prog w base spare held n 2 (((Value.agg cs).cells.toList.drop 0).take (Tryz.prog.cellsOf 2)) = some y0 := hf 0 _ rfl
    have h1 : DataW.trod enc Tryz.prog w base spare held n 54 (((Value.agg cs).cells.toList.drop 1).take (Tryz.prog.cellsOf 54)) = some y1 := hf 1 _ rfl
    have h2 : DataW.trod enc Tryz.prog w base spare held n 22 (((Value.agg cs).cells.toList.drop 2).take (Tryz.prog.cellsOf 22)) = some y2 := hf 2 _ rfl
    rw [intOne] at h0
    rw [headsOne] at h1
    rw [byteSOne] at h2
    obtain ⟨s0, e0, _⟩ := DataW.trod_int Tryz.underlying2 h0
    obtain ⟨a, len, cap, e1⟩ := slice_cs Tryz.underlying54 h1
    rw [e1] at h1
    obtain ⟨l, rfl, m3, s3, o3⟩ := open_headers h1
    obtain ⟨b, bn, bc, e2⟩ := slice_cs Tryz.underlying22 h2
    rw [e2] at h2
    obtain ⟨bl, rfl, m4, o4⟩ := open_bytes h2
    refine ⟨s0, a, cap, l, b, bc, bl, ?_, m3, s3, o3, m4, o4⟩
    have e : cs.toList = [.int .i64 s0, .slice a l.length cap, .slice b bl.length bc] := by
      simp only [Value.cells] at e0 e1 e2 hl
      rw [responseCells] at hl
      match hc : cs.toList, hl with
      | [c0, c1, c2], _ =>
        rw [hc] at e0 e1 e2
        simp only [List.drop_zero, List.take_succ_cons, List.take_zero, List.drop_succ_cons, List.cons.injEq, and_true] at e0 e1 e2
        rw [e0, e1, e2]
    congr 1
    exact Array.toList_inj.1 e
end Go.Proofs.YtojcjpdgjohldaaGreatDoor
/-
  As many variables are read as are named.
-/
namespace Go.Proofs.YtojcjpdgjohldaaGreatDoor
theorem trodVars_len {H : Type} {enc : TypeId × Value → H} {P : Program} {W : World} {sp : Nat → Bool} : ∀ {ns : List String} {gs : List (DataW H)} {ps : List MemPlace}, DataW.TrodVars enc P W sp ns gs ps → gs.length = ns.length
  | [], [], _, _ => rfl
  | [], _ :: _, _, h => h.elim
  | _ :: _, [], _, h => h.elim
  | n :: ns, d :: ds, ps, h => by
    obtain ⟨g, t, cs, fuel, p, q, h1, h2, h3, h4, hs, e⟩ := h
    simp [trodVars_len hs]
end Go.Proofs.YtojcjpdgjohldaaGreatDoor
