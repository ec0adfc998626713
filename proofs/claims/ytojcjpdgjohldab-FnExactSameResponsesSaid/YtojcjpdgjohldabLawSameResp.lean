/-
  The law of SameResponses.
-/
import Derived.Test.YtojcjpdgjohldabRespLaws
import Derived.Test.YtojcjpdgjohldabSameResp
import Derived.Deep.CutRange
import Derived.Deep.RegionHeld3
namespace Go.Proofs.Ytojcjpdgjohldab
open Go.ChangeShapes Go.WideShapes Go.ChangeAt Go.RowKit
set_option maxRecDepth 100000 in
set_option maxHeartbeats 16000000 in
theorem lawSameResponses (w : World) (s : Int) (a : Option Addr) (cap : Nat) (l : List Hdr) (c : Option Addr) (cc : Nat) (bl : List UInt8) (s' : Int) (b : Option Addr) (cbp : Nat) (l' : List Hdr) (d : Option Addr) (cd : Nat) (bl' : List UInt8)
    (hl : l.length ≤ maxLen) (hz : SmallHdrs l) (hi : HdsIn w a l) (hbl : bl.length ≤ maxLen) (hib : BIn w c bl) (hl' : l'.length ≤ maxLen) (hz' : SmallHdrs l') (hi' : HdsIn w b l') (hbl' : bl'.length ≤ maxLen) (hib' : BIn w d bl') :
    Calls Try.prog 3 #[.agg #[.int .i64 s, .slice a l.length cap, .slice c bl.length cc], .agg #[.int .i64 s', .slice b l'.length cbp, .slice d bl'.length cd]] w fun e w' => e = .returned (.bool true) ∧ Below w.heap.size w w' := by
  obtain ⟨W, hW⟩ : ∃ W, W = ((w.alloc (.cells #[.int .i64 s, .slice a l.length cap, .slice c bl.length cc] 25)).alloc (.cells #[.int .i64 s', .slice b l'.length cbp, .slice d bl'.length cd] 25)) := ⟨_, rfl⟩
  have HW : Hid (W = ((w.alloc (.cells #[.int .i64 s, .slice a l.length cap, .slice c bl.length cc] 25)).alloc (.cells #[.int .i64 s', .slice b l'.length cbp, .slice d bl'.length cd] 25))) := hW
  have bW : Below w.heap.size w W := by rw [hW]; exact ((Below.refl _ _).alloc (Nat.le_refl _) _).alloc (by simp) _
  have f1 : Three W w.heap.size (.int .i64 s) (.slice a l.length cap) (.slice c bl.length cc) := by rw [hW]; exact (Three.new _ _ _ _ _).keep ((Below.refl _ _).alloc (Nat.le_refl _) _)
  have f2 : Three W (w.heap.size + 1) (.int .i64 s') (.slice b l'.length cbp) (.slice d bl'.length cd) := by
    rw [hW]
    have := Three.new (w.alloc (.cells #[.int .i64 s, .slice a l.length cap, .slice c bl.length cc] 25)) (.int .i64 s') (.slice b l'.length cbp) (.slice d bl'.length cd) 25
    simpa using this
  have K0 : Hid (Below w.heap.size w W ∧ Three W w.heap.size (.int .i64 s) (.slice a l.length cap) (.slice c bl.length cc) ∧ Three W (w.heap.size + 1) (.int .i64 s') (.slice b l'.length cbp) (.slice d bl'.length cd)) := ⟨bW, f1, f2⟩
  have HZ := szResponse_any W s a cap l c bl.length cc hl hz (hi.keep bW) hbl 1048576 (by omega) (by omega)
  have HR : Hid (¬ szP 1048576 l bl.length < 0 → l.length ≤ 1048576 ∧ bl.length ≤ 1048576 ∧ szP 1048576 l bl.length ≤ 1048576) := szP_room (by omega)
  have HY : Hid (∀ X, Below w.heap.size w X → ∀ z : Int, 0 ≤ z → z ≤ 1048576 → Calls Try.prog 4 #[.agg #[.int .i64 s', .slice b l'.length cbp, .slice d bl'.length cd], .int .i64 z] X fun e w' => e = .returned (.int .i64 (szP z l' bl'.length)) ∧ Below X.heap.size X w') := fun X hb z h0 h1 => szResponse_any X s' b cbp l' d bl'.length cd hl' hz' (hi'.keep hb) hbl' z h0 h1
  have HR2 : Hid (∀ z : Int, z ≤ 1048576 → ¬ szP z l' bl'.length < 0 → l'.length ≤ 1048576 ∧ bl'.length ≤ 1048576) := fun z hz h => ⟨(szP_room hz h).1, (szP_room hz h).2.1⟩
  have HI : Hid (∀ X, Below w.heap.size w X → (HdsIn X a l ∧ HdsIn X b l') ∧ BIn X c bl ∧ BIn X d bl') := fun X hb => ⟨⟨hi.keep hb, hi'.keep hb⟩, hib.keep hb, hib'.keep hb⟩
  generalize szP 1048576 l bl.length = z at *
  clear hW bW f1 f2 hi hi' hz hz' hl hl' hbl hbl' hib hib'
  go_enter Try.func3, Try.ntmps3
  go_wp2_with fail
  rw [← HW.out]
  refine HZ.mono ?_
  rintro e w1 ⟨rfl, hb1⟩
  have K1 : Hid (Below w.heap.size w w1 ∧ Three w1 w.heap.size (.int .i64 s) (.slice a l.length cap) (.slice c bl.length cc) ∧ Three w1 (w.heap.size + 1) (.int .i64 s') (.slice b l'.length cbp) (.slice d bl'.length cd)) := ⟨K0.out.1.trans (hb1.mono K0.out.1.size), K0.out.2.1.keep hb1, K0.out.2.2.keep hb1⟩
  clear HZ HW hb1 K0
  by_cases cz : z < 0
  · have KB : Hid (Below w.heap.size w w1) := K1.out.1
    clear K1 HR HI HY HR2
    go_wp2_with fail
    go_ret
    exact ⟨rfl, KB.out⟩
  obtain ⟨y4, y7, y5⟩ := HR.out (by omega)
  have C1 := HY.out w1 K1.out.1 z (by omega) y5
  have HR3 : Hid (¬ szP z l' bl'.length < 0 → l'.length ≤ 1048576 ∧ bl'.length ≤ 1048576) := fun h => HR2.out z y5 (by omega)
  generalize szP z l' bl'.length = z2 at *
  obtain ⟨q0, q1, q2, _, _⟩ := K1.out.2.2
  clear HR HY HR2
  go_wp2_with fail
  refine C1.mono ?_
  rintro e w2 ⟨rfl, hb2⟩
  have K2 : Hid (Below w.heap.size w w2 ∧ Three w2 w.heap.size (.int .i64 s) (.slice a l.length cap) (.slice c bl.length cc) ∧ Three w2 (w.heap.size + 1) (.int .i64 s') (.slice b l'.length cbp) (.slice d bl'.length cd)) := ⟨K1.out.1.trans (hb2.mono K1.out.1.size), K1.out.2.1.keep hb2, K1.out.2.2.keep hb2⟩
  clear C1 hb2 K1 q0 q1 q2
  by_cases cz2 : z2 < 0
  · have KB : Hid (Below w.heap.size w w2) := K2.out.1
    clear K2 HI HR3
    go_wp2_with fail
    go_ret
    exact ⟨rfl, KB.out⟩
  obtain ⟨y6, y8⟩ := HR3.out (by omega)
  have HT : Hid (∀ X, Below w.heap.size w X → Calls Try.prog 6 #[.agg #[.int .i64 s, .slice a l.length cap, .slice c bl.length cc]] X fun e w' => (∃ B, e = .returned (.agg #[.int .i64 s, .slice (some ⟨X.heap.size + 3, 0, none⟩) l.length l.length, .slice (some ⟨B, 0, none⟩) bl.length bl.length]) ∧ QMine w' (X.heap.size + 3) l ∧ BMine w' B bl ∧ X.heap.size + 3 < B) ∧ Below X.heap.size X w') := fun X hb => toResponse_any X s a cap l c cc bl y4 y7 (HI.out X hb).1.1 (HI.out X hb).2.1
  have HT2 : Hid (∀ X, Below w.heap.size w X → Calls Try.prog 6 #[.agg #[.int .i64 s', .slice b l'.length cbp, .slice d bl'.length cd]] X fun e w' => (∃ B, e = .returned (.agg #[.int .i64 s', .slice (some ⟨X.heap.size + 3, 0, none⟩) l'.length l'.length, .slice (some ⟨B, 0, none⟩) bl'.length bl'.length]) ∧ QMine w' (X.heap.size + 3) l' ∧ BMine w' B bl' ∧ X.heap.size + 3 < B) ∧ Below X.heap.size X w') := fun X hb => toResponse_any X s' b cbp l' d cd bl' y6 y8 (HI.out X hb).1.2 (HI.out X hb).2.2
  have HF : Hid (∀ X k1 k2 d1 d2, QMine X k1 l → QMine X k2 l' → BMine X d1 bl → BMine X d2 bl' → Calls Try.prog 5 #[.agg #[.int .i64 s, .slice (some ⟨k1, 0, none⟩) l.length l.length, .slice (some ⟨d1, 0, none⟩) bl.length bl.length], .agg #[.int .i64 s', .slice (some ⟨k2, 0, none⟩) l'.length l'.length, .slice (some ⟨d2, 0, none⟩) bl'.length bl'.length]] X fun e w' => e = .returned (.bool (sameP s l bl s' l' bl')) ∧ Below X.heap.size X w') := fun X k1 k2 d1 d2 q1 q2 q3 q4 => specSameP_any X s _ _ l _ _ bl s' _ _ l' _ _ bl' y4 (.inr ⟨k1, 0, rfl, q1.at0⟩) (.inr ⟨k2, 0, rfl, q2.at0⟩) q3.in q4.in
  have HG : Hid (∀ X k1 k2 d1 d2, QMine X k1 l → QMine X k2 l' → BMine X d1 bl → BMine X d2 bl' → Calls Try.prog 7 #[.agg #[.int .i64 s, .slice (some ⟨k1, 0, none⟩) l.length l.length, .slice (some ⟨d1, 0, none⟩) bl.length bl.length], .agg #[.int .i64 s', .slice (some ⟨k2, 0, none⟩) l'.length l'.length, .slice (some ⟨d2, 0, none⟩) bl'.length bl'.length]] X fun e w' => e = .returned (.bool (sameP s l bl s' l' bl')) ∧ Below X.heap.size X w') := fun X k1 k2 d1 d2 q1 q2 q3 q4 => implSameP_any X s _ _ l _ _ bl s' _ _ l' _ _ bl' y4 (.inr ⟨k1, 0, rfl, q1.at0⟩) (.inr ⟨k2, 0, rfl, q2.at0⟩) q3.in q4.in
  have HQ : Hid (∀ X k1 k2 d1 d2, QMine X k1 l → QMine X k2 l → BMine X d1 bl → BMine X d2 bl → Calls Try.prog 8 #[.agg #[.int .i64 s, .slice (some ⟨k1, 0, none⟩) l.length l.length, .slice (some ⟨d1, 0, none⟩) bl.length bl.length], .agg #[.int .i64 s, .slice (some ⟨k2, 0, none⟩) l.length l.length, .slice (some ⟨d2, 0, none⟩) bl.length bl.length]] X fun e w' => e = .returned (.bool true) ∧ Below X.heap.size X w') := fun X k1 k2 d1 d2 h1 h2 h3 h4 => eqResponse_same X s k1 k2 l d1 d2 bl y4 y7 h1.at0 h2.at0 h3 h4
  have HQ2 : Hid (∀ X k1 k2 d1 d2, QMine X k1 l' → QMine X k2 l' → BMine X d1 bl' → BMine X d2 bl' → Calls Try.prog 8 #[.agg #[.int .i64 s', .slice (some ⟨k1, 0, none⟩) l'.length l'.length, .slice (some ⟨d1, 0, none⟩) bl'.length bl'.length], .agg #[.int .i64 s', .slice (some ⟨k2, 0, none⟩) l'.length l'.length, .slice (some ⟨d2, 0, none⟩) bl'.length bl'.length]] X fun e w' => e = .returned (.bool true) ∧ Below X.heap.size X w') := fun X k1 k2 d1 d2 h1 h2 h3 h4 => eqResponse_same X s' k1 k2 l' d1 d2 bl' y6 y8 h1.at0 h2.at0 h3 h4
  clear HI HR3 y5
  generalize sameP s l bl s' l' bl' = f at *
  generalize l.length = n at *
  generalize l'.length = n' at *
  generalize bl.length = k at *
  generalize bl'.length = k' at *
  go_wp2_with fail
  try clear w1
  have KX : Hid (∀ X, Below w2.heap.size w2 X → Below w.heap.size w X ∧ Three X w.heap.size (.int .i64 s) (.slice a n cap) (.slice c k cc) ∧ Three X (w.heap.size + 1) (.int .i64 s') (.slice b n' cbp) (.slice d k' cd)) := fun X hb => ⟨K2.out.1.trans (hb.mono K2.out.1.size), K2.out.2.1.keep hb, K2.out.2.2.keep hb⟩
  clear K2
  have B0 : Hid (Below w2.heap.size w2 w2.drew) := (Below.refl _ _).drew
  have HKS : Hid (∀ X, Below w2.heap.size w2 X → (X.cell? ⟨w.heap.size, 0, none⟩ = some (.int .i64 s) ∧ X.cell? ⟨w.heap.size, 1, none⟩ = some (.slice a n cap) ∧ X.cell? ⟨w.heap.size, 2, none⟩ = some (.slice c k cc)) ∧ X.cell? ⟨w.heap.size + 1, 0, none⟩ = some (.int .i64 s') ∧ X.cell? ⟨w.heap.size + 1, 1, none⟩ = some (.slice b n' cbp) ∧ X.cell? ⟨w.heap.size + 1, 2, none⟩ = some (.slice d k' cd)) := fun X hb => ⟨⟨(KX.out X hb).2.1.c0, (KX.out X hb).2.1.c1, (KX.out X hb).2.1.c2⟩, (KX.out X hb).2.2.c0, (KX.out X hb).2.2.c1, (KX.out X hb).2.2.c2⟩
  go_cut [6] from 20 to 24 (fun s6 wx => s6 = .bool f ∧ Below w2.heap.size w2 wx)
  case first =>
    go_region_held3 (fun X => (X.cell? ⟨w.heap.size, 0, none⟩ = some (.int .i64 s) ∧ X.cell? ⟨w.heap.size, 1, none⟩ = some (.slice a n cap) ∧ X.cell? ⟨w.heap.size, 2, none⟩ = some (.slice c k cc)) ∧ X.cell? ⟨w.heap.size + 1, 0, none⟩ = some (.int .i64 s') ∧ X.cell? ⟨w.heap.size + 1, 1, none⟩ = some (.slice b n' cbp) ∧ X.cell? ⟨w.heap.size + 1, 2, none⟩ = some (.slice d k' cd))
      (first | exact HKS.out _ BC.out | exact HKS.out _ BB.out | exact HKS.out _ BA.out | exact HKS.out _ B0.out)
      (first
      | (go_at_call 6; refine (HT2.out _ (KX.out _ BA.out).1).mono ?_; rintro e wb ⟨⟨db, rfl, hmb, hdb, _⟩, hbb⟩; have MB : Hid ((QMine wb _ l' ∧ QMine wb _ l) ∧ BMine wb db bl' ∧ BMine wb da bl) := ⟨⟨hmb, MA.out.1.keep hbb⟩, hdb, MA.out.2.keep hbb⟩; have BB : Hid (Below w2.heap.size w2 wb) := BA.out.trans (hbb.mono BA.out.size); clear hbb hmb hdb)
      | (go_at_call 6; refine (HT.out _ (KX.out _ B0.out).1).mono ?_; rintro e wa ⟨⟨da, rfl, hma, hda, _⟩, hba⟩; have MA : Hid (QMine wa _ l ∧ BMine wa da bl) := ⟨hma, hda⟩; have BA : Hid (Below w2.heap.size w2 wa) := B0.out.trans (hba.mono B0.out.size); clear hba hma hda)
      | (go_at_call 5; refine (HF.out _ _ _ _ _ MB.out.1.2 MB.out.1.1 MB.out.2.2 MB.out.2.1).mono ?_; rintro e wc ⟨rfl, hbc⟩; have BC : Hid (Below w2.heap.size w2 wc) := BB.out.trans (hbc.mono BB.out.size); clear hbc))
    all_goals (go_wp2_with fail; go_meet; exact ⟨rfl, BC.out⟩)
  case rest =>
  obtain ⟨rfl, hbx⟩ := hcut
  have K3 : Hid (Below w.heap.size w wc ∧ Three wc w.heap.size (.int .i64 s) (.slice a n cap) (.slice c k cc) ∧ Three wc (w.heap.size + 1) (.int .i64 s') (.slice b n' cbp) (.slice d k' cd)) := KX.out _ hbx
  clear hbx KX HKS B0 HF
  generalize wc = w3 at *
  try clear w2
  have C3 := HT.out w3 K3.out.1
  obtain ⟨q0, q1, q2, _, _⟩ := K3.out.2.1
  go_wp2_with fail
  refine C3.mono ?_
  rintro e w4 ⟨⟨d4, rfl, hm4, hd4, _⟩, hb4⟩
  obtain ⟨V, hV⟩ : ∃ V, V = w4.alloc (.cells #[.int .i64 s, .slice (some ⟨w3.heap.size + 3, 0, none⟩) n n, .slice (some ⟨d4, 0, none⟩) k k] 30) := ⟨_, rfl⟩
  have HV : Hid (V = w4.alloc (.cells #[.int .i64 s, .slice (some ⟨w3.heap.size + 3, 0, none⟩) n n, .slice (some ⟨d4, 0, none⟩) k k] 30)) := hV
  have aV : Below w4.heap.size w4 V := by rw [hV]; exact (Below.refl _ _).alloc (Nat.le_refl _) _
  have fV : Three V w4.heap.size (.int .i64 s) (.slice (some ⟨w3.heap.size + 3, 0, none⟩) n n) (.slice (some ⟨d4, 0, none⟩) k k) := by rw [hV]; exact Three.new _ _ _ _ _
  have b4 := K3.out.1.trans (hb4.mono K3.out.1.size)
  have K4 : Hid (Below w.heap.size w V ∧ (Three V w.heap.size (.int .i64 s) (.slice a n cap) (.slice c k cc) ∧ Three V (w.heap.size + 1) (.int .i64 s') (.slice b n' cbp) (.slice d k' cd)) ∧ Three V w4.heap.size (.int .i64 s) (.slice (some ⟨w3.heap.size + 3, 0, none⟩) n n) (.slice (some ⟨d4, 0, none⟩) k k) ∧ (QMine V (w3.heap.size + 3) l ∧ BMine V d4 bl)) := ⟨b4.trans (aV.mono b4.size), ⟨(K3.out.2.1.keep hb4).keep aV, (K3.out.2.2.keep hb4).keep aV⟩, fV, hm4.keep aV, hd4.keep aV⟩
  clear K3 C3 q0 q1 q2 hb4 hm4 hd4 hV aV fV b4
  have C4 := HT2.out V K4.out.1
  obtain ⟨q0, q1, q2, _, _⟩ := K4.out.2.1.2
  rw [HV.out] at q0 q1 q2
  go_wp2_with fail
  rw [← HV.out]
  refine C4.mono ?_
  rintro e w5 ⟨⟨d5, rfl, hm5, hd5, _⟩, hb5⟩
  clear HV q0 q1 q2
  generalize w3.heap.size + 3 = bx at *
  generalize w4.heap.size = bq at *
  obtain ⟨V5, hV5⟩ : ∃ V5, V5 = w5.alloc (.cells #[.int .i64 s', .slice (some ⟨V.heap.size + 3, 0, none⟩) n' n', .slice (some ⟨d5, 0, none⟩) k' k'] 30) := ⟨_, rfl⟩
  have HV5 : Hid (V5 = w5.alloc (.cells #[.int .i64 s', .slice (some ⟨V.heap.size + 3, 0, none⟩) n' n', .slice (some ⟨d5, 0, none⟩) k' k'] 30)) := hV5
  have aV : Below w5.heap.size w5 V5 := by rw [hV5]; exact (Below.refl _ _).alloc (Nat.le_refl _) _
  have fV : Three V5 w5.heap.size (.int .i64 s') (.slice (some ⟨V.heap.size + 3, 0, none⟩) n' n') (.slice (some ⟨d5, 0, none⟩) k' k') := by rw [hV5]; exact Three.new _ _ _ _ _
  have b5 := K4.out.1.trans (hb5.mono K4.out.1.size)
  have K5 : Hid (Below w.heap.size w V5 ∧ (Three V5 w.heap.size (.int .i64 s) (.slice a n cap) (.slice c k cc) ∧ Three V5 (w.heap.size + 1) (.int .i64 s') (.slice b n' cbp) (.slice d k' cd)) ∧ (Three V5 bq (.int .i64 s) (.slice (some ⟨bx, 0, none⟩) n n) (.slice (some ⟨d4, 0, none⟩) k k) ∧ QMine V5 bx l ∧ BMine V5 d4 bl) ∧ Three V5 w5.heap.size (.int .i64 s') (.slice (some ⟨V.heap.size + 3, 0, none⟩) n' n') (.slice (some ⟨d5, 0, none⟩) k' k') ∧ QMine V5 (V.heap.size + 3) l' ∧ BMine V5 d5 bl') := ⟨b5.trans (aV.mono b5.size), ⟨(K4.out.2.1.1.keep hb5).keep aV, (K4.out.2.1.2.keep hb5).keep aV⟩, ⟨(K4.out.2.2.1.keep hb5).keep aV, (K4.out.2.2.2.1.keep hb5).keep aV, (K4.out.2.2.2.2.keep hb5).keep aV⟩, fV, hm5.keep aV, hd5.keep aV⟩
  clear K4 C4 hb5 hm5 hd5 hV5 aV fV b5
  have C5 := HG.out V5 _ _ _ _ K5.out.2.2.1.2.1 K5.out.2.2.2.2.1 K5.out.2.2.1.2.2 K5.out.2.2.2.2.2
  obtain ⟨q0, q1, q2, _, _⟩ := K5.out.2.2.1.1
  rw [HV5.out] at q0 q1 q2
  go_wp2_with fail
  rw [← HV5.out]
  refine C5.mono ?_
  rintro e w6 ⟨rfl, hb6⟩
  clear HV5 q0 q1 q2 C5
  generalize V.heap.size + 3 = by' at *
  generalize w5.heap.size = bk at *
  have KX : Hid (∀ X, Below w6.heap.size w6 X → Below w.heap.size w X ∧ (Three X w.heap.size (.int .i64 s) (.slice a n cap) (.slice c k cc) ∧ Three X (w.heap.size + 1) (.int .i64 s') (.slice b n' cbp) (.slice d k' cd)) ∧ (Three X bq (.int .i64 s) (.slice (some ⟨bx, 0, none⟩) n n) (.slice (some ⟨d4, 0, none⟩) k k) ∧ QMine X bx l ∧ BMine X d4 bl) ∧ Three X bk (.int .i64 s') (.slice (some ⟨by', 0, none⟩) n' n') (.slice (some ⟨d5, 0, none⟩) k' k') ∧ QMine X by' l' ∧ BMine X d5 bl') := fun X hb => by
    obtain ⟨k1, ⟨k2, k3⟩, ⟨k4, k5, k8⟩, k6, k7, k9⟩ := K5.out
    have b6 := k1.trans (hb6.mono k1.size)
    exact ⟨b6.trans (hb.mono b6.size), ⟨(k2.keep hb6).keep hb, (k3.keep hb6).keep hb⟩, ⟨(k4.keep hb6).keep hb, (k5.keep hb6).keep hb, (k8.keep hb6).keep hb⟩, (k6.keep hb6).keep hb, (k7.keep hb6).keep hb, (k9.keep hb6).keep hb⟩
  clear K5 HG hb6
  try clear V5
  try clear w5
  try clear V
  try clear w4
  try clear w3
  go_wp2_with fail
  have B0 : Hid (Below w6.heap.size w6 w6.drew) := (Below.refl _ _).drew
  have HKS : Hid (∀ X, Below w6.heap.size w6 X → (X.cell? ⟨w.heap.size, 0, none⟩ = some (.int .i64 s) ∧ X.cell? ⟨w.heap.size, 1, none⟩ = some (.slice a n cap) ∧ X.cell? ⟨w.heap.size, 2, none⟩ = some (.slice c k cc)) ∧ X.cell? ⟨bq, 0, none⟩ = some (.int .i64 s) ∧ X.cell? ⟨bq, 1, none⟩ = some (.slice (some ⟨bx, 0, none⟩) n n) ∧ X.cell? ⟨bq, 2, none⟩ = some (.slice (some ⟨d4, 0, none⟩) k k)) := fun X hb => ⟨⟨(KX.out X hb).2.1.1.c0, (KX.out X hb).2.1.1.c1, (KX.out X hb).2.1.1.c2⟩, (KX.out X hb).2.2.1.1.c0, (KX.out X hb).2.2.1.1.c1, (KX.out X hb).2.2.1.1.c2⟩
  go_cut [39] from 35 to 39 (fun s39 wx => s39 = .bool false ∧ Below w6.heap.size w6 wx)
  case first =>
    go_region_held3 (fun X => (X.cell? ⟨w.heap.size, 0, none⟩ = some (.int .i64 s) ∧ X.cell? ⟨w.heap.size, 1, none⟩ = some (.slice a n cap) ∧ X.cell? ⟨w.heap.size, 2, none⟩ = some (.slice c k cc)) ∧ X.cell? ⟨bq, 0, none⟩ = some (.int .i64 s) ∧ X.cell? ⟨bq, 1, none⟩ = some (.slice (some ⟨bx, 0, none⟩) n n) ∧ X.cell? ⟨bq, 2, none⟩ = some (.slice (some ⟨d4, 0, none⟩) k k))
      (first | exact HKS.out _ BB.out | exact HKS.out _ BA.out | exact HKS.out _ B0.out)
      (first
      | (go_at_call 6; refine (HT.out _ (KX.out _ B0.out).1).mono ?_; rintro e wa ⟨⟨da, rfl, hma, hda, _⟩, hba⟩; have MA : Hid (QMine wa _ l ∧ BMine wa da bl) := ⟨hma, hda⟩; have BA : Hid (Below w6.heap.size w6 wa) := B0.out.trans (hba.mono B0.out.size); clear hba hma hda)
      | (go_at_call 8; refine (HQ.out _ _ _ _ _ (KX.out _ BA.out).2.2.1.2.1 MA.out.1 (KX.out _ BA.out).2.2.1.2.2 MA.out.2).mono ?_; rintro e wb ⟨rfl, hbb⟩; have BB : Hid (Below w6.heap.size w6 wb) := BA.out.trans (hbb.mono BA.out.size); clear hbb))
    all_goals (go_wp2_with fail; go_meet; exact ⟨rfl, BB.out⟩)
  case rest =>
  obtain ⟨rfl, hbx⟩ := hcut
  have X1 : Hid (Below w6.heap.size w6 wc) := hbx
  clear hbx HKS B0 HQ HT
  go_wp2_with fail
  have B0 : Hid (Below w6.heap.size w6 wc.drew) := X1.out.trans ((Below.refl _ _).drew)
  have HKS : Hid (∀ X, Below w6.heap.size w6 X → (X.cell? ⟨w.heap.size + 1, 0, none⟩ = some (.int .i64 s') ∧ X.cell? ⟨w.heap.size + 1, 1, none⟩ = some (.slice b n' cbp) ∧ X.cell? ⟨w.heap.size + 1, 2, none⟩ = some (.slice d k' cd)) ∧ X.cell? ⟨bk, 0, none⟩ = some (.int .i64 s') ∧ X.cell? ⟨bk, 1, none⟩ = some (.slice (some ⟨by', 0, none⟩) n' n') ∧ X.cell? ⟨bk, 2, none⟩ = some (.slice (some ⟨d5, 0, none⟩) k' k')) := fun X hb => ⟨⟨(KX.out X hb).2.1.2.c0, (KX.out X hb).2.1.2.c1, (KX.out X hb).2.1.2.c2⟩, (KX.out X hb).2.2.2.1.c0, (KX.out X hb).2.2.2.1.c1, (KX.out X hb).2.2.2.1.c2⟩
  go_region_held3 (fun X => (X.cell? ⟨w.heap.size + 1, 0, none⟩ = some (.int .i64 s') ∧ X.cell? ⟨w.heap.size + 1, 1, none⟩ = some (.slice b n' cbp) ∧ X.cell? ⟨w.heap.size + 1, 2, none⟩ = some (.slice d k' cd)) ∧ X.cell? ⟨bk, 0, none⟩ = some (.int .i64 s') ∧ X.cell? ⟨bk, 1, none⟩ = some (.slice (some ⟨by', 0, none⟩) n' n') ∧ X.cell? ⟨bk, 2, none⟩ = some (.slice (some ⟨d5, 0, none⟩) k' k'))
    (first | exact HKS.out _ BB.out | exact HKS.out _ BA.out | exact HKS.out _ B0.out)
    (first
    | (go_at_call 6; refine (HT2.out _ (KX.out _ B0.out).1).mono ?_; rintro e wa ⟨⟨da, rfl, hma, hda, _⟩, hba⟩; have MA : Hid (QMine wa _ l' ∧ BMine wa da bl') := ⟨hma, hda⟩; have BA : Hid (Below w6.heap.size w6 wa) := B0.out.trans (hba.mono B0.out.size); clear hba hma hda)
    | (go_at_call 8; refine (HQ2.out _ _ _ _ _ (KX.out _ BA.out).2.2.2.2.1 MA.out.1 (KX.out _ BA.out).2.2.2.2.2 MA.out.2).mono ?_; rintro e wb ⟨rfl, hbb⟩; have BB : Hid (Below w6.heap.size w6 wb) := BA.out.trans (hbb.mono BA.out.size); clear hbb))
  all_goals (go_wp2_with fail; go_ret; exact ⟨rfl, (KX.out _ BB.out).1⟩)
end Go.Proofs.Ytojcjpdgjohldab
