/-
  The law of SameRequests.
-/
import Derived.Test.YtojcjpdgjohldaaMsgLaws
import Derived.Test.YtojcjpdgjohldaaSameReq
import Derived.Deep.CutRange
import Derived.Deep.RegionHeld3
namespace Go.Proofs.Ytojcjpdgjohldaa
open Go.ChangeShapes Go.WideShapes Go.ChangeAt Go.RowKit
set_option maxRecDepth 100000 in
set_option maxHeartbeats 16000000 in
theorem lawSameRequests (w : World) (m h p : ByteArray) (a : Option Addr) (cap : Nat) (l : List Hdr) (m' h' p' : ByteArray) (b : Option Addr) (cbp : Nat) (l' : List Hdr)
    (z1 : m.size ≤ maxLen) (z2 : h.size ≤ maxLen) (z3 : p.size ≤ maxLen) (hl : l.length ≤ maxLen) (hz : SmallHdrs l) (hi : HdsIn w a l)
    (z1' : m'.size ≤ maxLen) (z2' : h'.size ≤ maxLen) (z3' : p'.size ≤ maxLen) (hl' : l'.length ≤ maxLen) (hz' : SmallHdrs l') (hi' : HdsIn w b l') :
    Calls Try.prog 3 #[.agg #[.string m, .string h, .string p, .slice a l.length cap], .agg #[.string m', .string h', .string p', .slice b l'.length cbp]] w fun e w' => e = .returned (.bool true) ∧ Below w.heap.size w w' := by
  obtain ⟨W, hW⟩ : ∃ W, W = ((w.alloc (.cells #[.string m, .string h, .string p, .slice a l.length cap] 24)).alloc (.cells #[.string m', .string h', .string p', .slice b l'.length cbp] 24)) := ⟨_, rfl⟩
  have HW : Hid (W = ((w.alloc (.cells #[.string m, .string h, .string p, .slice a l.length cap] 24)).alloc (.cells #[.string m', .string h', .string p', .slice b l'.length cbp] 24))) := hW
  have bW : Below w.heap.size w W := by rw [hW]; exact ((Below.refl _ _).alloc (Nat.le_refl _) _).alloc (by simp) _
  have f1 : Four W w.heap.size (.string m) (.string h) (.string p) (.slice a l.length cap) := by rw [hW]; exact (Four.new _ _ _ _ _ _).keep ((Below.refl _ _).alloc (Nat.le_refl _) _)
  have f2 : Four W (w.heap.size + 1) (.string m') (.string h') (.string p') (.slice b l'.length cbp) := by
    rw [hW]
    have := Four.new (w.alloc (.cells #[.string m, .string h, .string p, .slice a l.length cap] 24)) (.string m') (.string h') (.string p') (.slice b l'.length cbp) 24
    simpa using this
  have K0 : Hid (Below w.heap.size w W ∧ Four W w.heap.size (.string m) (.string h) (.string p) (.slice a l.length cap) ∧ Four W (w.heap.size + 1) (.string m') (.string h') (.string p') (.slice b l'.length cbp)) := ⟨bW, f1, f2⟩
  have HZ := szRequest_any W m h p a cap l z1 z2 z3 hl hz (hi.keep bW) 1048576 (by omega) (by omega)
  have HR : Hid (¬ szR 1048576 m h p l < 0 → m.size ≤ 1048576 ∧ h.size ≤ 1048576 ∧ p.size ≤ 1048576 ∧ l.length ≤ 1048576 ∧ szR 1048576 m h p l ≤ 1048576) := szR_room (by omega)
  have HY : Hid (∀ X, Below w.heap.size w X → ∀ z : Int, 0 ≤ z → z ≤ 1048576 → Calls Try.prog 4 #[.agg #[.string m', .string h', .string p', .slice b l'.length cbp], .int .i64 z] X fun e w' => e = .returned (.int .i64 (szR z m' h' p' l')) ∧ Below X.heap.size X w') := fun X hb z h0 h1 => szRequest_any X m' h' p' b cbp l' z1' z2' z3' hl' hz' (hi'.keep hb) z h0 h1
  have HR2 : Hid (∀ z : Int, z ≤ 1048576 → ¬ szR z m' h' p' l' < 0 → l'.length ≤ 1048576) := fun z hz h => (szR_room hz h).2.2.2.1
  have HI : Hid (∀ X, Below w.heap.size w X → HdsIn X a l ∧ HdsIn X b l') := fun X hb => ⟨hi.keep hb, hi'.keep hb⟩
  generalize szR 1048576 m h p l = z at *
  clear hW bW f1 f2 hi hi' hz hz' z1 z2 z3 hl z1' z2' z3' hl'
  go_enter Try.func3, Try.ntmps3
  go_wp2_with fail
  rw [← HW.out]
  refine HZ.mono ?_
  rintro e w1 ⟨rfl, hb1⟩
  have K1 : Hid (Below w.heap.size w w1 ∧ Four w1 w.heap.size (.string m) (.string h) (.string p) (.slice a l.length cap) ∧ Four w1 (w.heap.size + 1) (.string m') (.string h') (.string p') (.slice b l'.length cbp)) := ⟨K0.out.1.trans (hb1.mono K0.out.1.size), K0.out.2.1.keep hb1, K0.out.2.2.keep hb1⟩
  clear HZ HW hb1 K0
  by_cases cz : z < 0
  · have KB : Hid (Below w.heap.size w w1) := K1.out.1
    clear K1 HR HI HY HR2
    go_wp2_with fail
    go_ret
    exact ⟨rfl, KB.out⟩
  obtain ⟨_, _, _, y4, y5⟩ := HR.out (by omega)
  have C1 := HY.out w1 K1.out.1 z (by omega) y5
  have HR3 : Hid (¬ szR z m' h' p' l' < 0 → l'.length ≤ 1048576) := fun h => HR2.out z y5 (by omega)
  generalize szR z m' h' p' l' = z2 at *
  obtain ⟨q0, q1, q2, q3, _, _⟩ := K1.out.2.2
  clear HR HY HR2
  go_wp2_with fail
  refine C1.mono ?_
  rintro e w2 ⟨rfl, hb2⟩
  have K2 : Hid (Below w.heap.size w w2 ∧ Four w2 w.heap.size (.string m) (.string h) (.string p) (.slice a l.length cap) ∧ Four w2 (w.heap.size + 1) (.string m') (.string h') (.string p') (.slice b l'.length cbp)) := ⟨K1.out.1.trans (hb2.mono K1.out.1.size), K1.out.2.1.keep hb2, K1.out.2.2.keep hb2⟩
  clear C1 hb2 K1 q0 q1 q2 q3
  by_cases cz2 : z2 < 0
  · have KB : Hid (Below w.heap.size w w2) := K2.out.1
    clear K2 HI HR3
    go_wp2_with fail
    go_ret
    exact ⟨rfl, KB.out⟩
  have y6 := HR3.out (by omega)
  have HT : Hid (∀ X, Below w.heap.size w X → Calls Try.prog 6 #[.agg #[.string m, .string h, .string p, .slice a l.length cap]] X fun e w' => e = .returned (.agg #[.string m, .string h, .string p, .slice (some ⟨X.heap.size + 3, 0, none⟩) l.length l.length]) ∧ QMine w' (X.heap.size + 3) l ∧ Below X.heap.size X w') := fun X hb => toRequest_any X m h p a cap l y4 (HI.out X hb).1
  have HT2 : Hid (∀ X, Below w.heap.size w X → Calls Try.prog 6 #[.agg #[.string m', .string h', .string p', .slice b l'.length cbp]] X fun e w' => e = .returned (.agg #[.string m', .string h', .string p', .slice (some ⟨X.heap.size + 3, 0, none⟩) l'.length l'.length]) ∧ QMine w' (X.heap.size + 3) l' ∧ Below X.heap.size X w') := fun X hb => toRequest_any X m' h' p' b cbp l' y6 (HI.out X hb).2
  have HF : Hid (∀ X k1 k2, QMine X k1 l → QMine X k2 l' → Calls Try.prog 5 #[.agg #[.string m, .string h, .string p, .slice (some ⟨k1, 0, none⟩) l.length l.length], .agg #[.string m', .string h', .string p', .slice (some ⟨k2, 0, none⟩) l'.length l'.length]] X fun e w' => e = .returned (.bool (sameQ m h p l m' h' p' l')) ∧ Below X.heap.size X w') := fun X k1 k2 q1 q2 => specSameQ_any X m h p _ _ l m' h' p' _ _ l' y4 (.inr ⟨k1, 0, rfl, q1.at0⟩) (.inr ⟨k2, 0, rfl, q2.at0⟩)
  have HG : Hid (∀ X k1 k2, QMine X k1 l → QMine X k2 l' → Calls Try.prog 7 #[.agg #[.string m, .string h, .string p, .slice (some ⟨k1, 0, none⟩) l.length l.length], .agg #[.string m', .string h', .string p', .slice (some ⟨k2, 0, none⟩) l'.length l'.length]] X fun e w' => e = .returned (.bool (sameQ m h p l m' h' p' l')) ∧ Below X.heap.size X w') := fun X k1 k2 q1 q2 => implSameQ_any X m h p _ _ l m' h' p' _ _ l' y4 (.inr ⟨k1, 0, rfl, q1.at0⟩) (.inr ⟨k2, 0, rfl, q2.at0⟩)
  have HQ : Hid (∀ X b1 b2, QMine X b1 l → QMine X b2 l → Calls Try.prog 8 #[.agg #[.string m, .string h, .string p, .slice (some ⟨b1, 0, none⟩) l.length l.length], .agg #[.string m, .string h, .string p, .slice (some ⟨b2, 0, none⟩) l.length l.length]] X fun e w' => e = .returned (.bool true) ∧ Below X.heap.size X w') := fun X b1 b2 h1 h2 => eqRequest_same X m h p b1 b2 l y4 h1.at0 h2.at0
  have HQ2 : Hid (∀ X b1 b2, QMine X b1 l' → QMine X b2 l' → Calls Try.prog 8 #[.agg #[.string m', .string h', .string p', .slice (some ⟨b1, 0, none⟩) l'.length l'.length], .agg #[.string m', .string h', .string p', .slice (some ⟨b2, 0, none⟩) l'.length l'.length]] X fun e w' => e = .returned (.bool true) ∧ Below X.heap.size X w') := fun X b1 b2 h1 h2 => eqRequest_same X m' h' p' b1 b2 l' y6 h1.at0 h2.at0
  clear HI HR3 y5
  generalize sameQ m h p l m' h' p' l' = f at *
  generalize l.length = n at *
  generalize l'.length = n' at *
  go_wp2_with fail
  try clear w1
  have KX : Hid (∀ X, Below w2.heap.size w2 X → Below w.heap.size w X ∧ Four X w.heap.size (.string m) (.string h) (.string p) (.slice a n cap) ∧ Four X (w.heap.size + 1) (.string m') (.string h') (.string p') (.slice b n' cbp)) := fun X hb => ⟨K2.out.1.trans (hb.mono K2.out.1.size), K2.out.2.1.keep hb, K2.out.2.2.keep hb⟩
  clear K2
  have B0 : Hid (Below w2.heap.size w2 w2.drew) := (Below.refl _ _).drew
  have HKS : Hid (∀ X, Below w2.heap.size w2 X → (X.cell? ⟨w.heap.size, 0, none⟩ = some (.string m) ∧ X.cell? ⟨w.heap.size, 1, none⟩ = some (.string h) ∧ X.cell? ⟨w.heap.size, 2, none⟩ = some (.string p) ∧ X.cell? ⟨w.heap.size, 3, none⟩ = some (.slice a n cap)) ∧ X.cell? ⟨w.heap.size + 1, 0, none⟩ = some (.string m') ∧ X.cell? ⟨w.heap.size + 1, 1, none⟩ = some (.string h') ∧ X.cell? ⟨w.heap.size + 1, 2, none⟩ = some (.string p') ∧ X.cell? ⟨w.heap.size + 1, 3, none⟩ = some (.slice b n' cbp)) := fun X hb => ⟨⟨(KX.out X hb).2.1.c0, (KX.out X hb).2.1.c1, (KX.out X hb).2.1.c2, (KX.out X hb).2.1.c3⟩, (KX.out X hb).2.2.c0, (KX.out X hb).2.2.c1, (KX.out X hb).2.2.c2, (KX.out X hb).2.2.c3⟩
  go_cut [6] from 20 to 24 (fun s6 wx => s6 = .bool f ∧ Below w2.heap.size w2 wx)
  case first =>
    go_region_held3 (fun X => (X.cell? ⟨w.heap.size, 0, none⟩ = some (.string m) ∧ X.cell? ⟨w.heap.size, 1, none⟩ = some (.string h) ∧ X.cell? ⟨w.heap.size, 2, none⟩ = some (.string p) ∧ X.cell? ⟨w.heap.size, 3, none⟩ = some (.slice a n cap)) ∧ X.cell? ⟨w.heap.size + 1, 0, none⟩ = some (.string m') ∧ X.cell? ⟨w.heap.size + 1, 1, none⟩ = some (.string h') ∧ X.cell? ⟨w.heap.size + 1, 2, none⟩ = some (.string p') ∧ X.cell? ⟨w.heap.size + 1, 3, none⟩ = some (.slice b n' cbp))
      (first | exact HKS.out _ BC.out | exact HKS.out _ BB.out | exact HKS.out _ BA.out | exact HKS.out _ B0.out)
      (first
      | (go_at_call 6; refine (HT2.out _ (KX.out _ BA.out).1).mono ?_; rintro e wb ⟨rfl, hmb, hbb⟩; have MB : Hid (QMine wb _ l' ∧ QMine wb _ l) := ⟨hmb, MA.out.keep hbb⟩; have BB : Hid (Below w2.heap.size w2 wb) := BA.out.trans (hbb.mono BA.out.size); clear hbb hmb)
      | (go_at_call 6; refine (HT.out _ (KX.out _ B0.out).1).mono ?_; rintro e wa ⟨rfl, hma, hba⟩; have MA : Hid (QMine wa _ l) := hma; have BA : Hid (Below w2.heap.size w2 wa) := B0.out.trans (hba.mono B0.out.size); clear hba hma)
      | (go_at_call 5; refine (HF.out _ _ _ MB.out.2 MB.out.1).mono ?_; rintro e wc ⟨rfl, hbc⟩; have BC : Hid (Below w2.heap.size w2 wc) := BB.out.trans (hbc.mono BB.out.size); clear hbc))
    all_goals (go_wp2_with fail; go_meet; exact ⟨rfl, BC.out⟩)
  case rest =>
  obtain ⟨rfl, hbx⟩ := hcut
  have K3 : Hid (Below w.heap.size w wc ∧ Four wc w.heap.size (.string m) (.string h) (.string p) (.slice a n cap) ∧ Four wc (w.heap.size + 1) (.string m') (.string h') (.string p') (.slice b n' cbp)) := KX.out _ hbx
  clear hbx KX HKS B0 HF
  generalize wc = w3 at *
  try clear w2
  have C3 := HT.out w3 K3.out.1
  obtain ⟨q0, q1, q2, q3, _, _⟩ := K3.out.2.1
  go_wp2_with fail
  refine C3.mono ?_
  rintro e w4 ⟨rfl, hm4, hb4⟩
  obtain ⟨V, hV⟩ : ∃ V, V = w4.alloc (.cells #[.string m, .string h, .string p, .slice (some ⟨w3.heap.size + 3, 0, none⟩) n n] 29) := ⟨_, rfl⟩
  have HV : Hid (V = w4.alloc (.cells #[.string m, .string h, .string p, .slice (some ⟨w3.heap.size + 3, 0, none⟩) n n] 29)) := hV
  have aV : Below w4.heap.size w4 V := by rw [hV]; exact (Below.refl _ _).alloc (Nat.le_refl _) _
  have fV : Four V w4.heap.size (.string m) (.string h) (.string p) (.slice (some ⟨w3.heap.size + 3, 0, none⟩) n n) := by rw [hV]; exact Four.new _ _ _ _ _ _
  have b4 := K3.out.1.trans (hb4.mono K3.out.1.size)
  have K4 : Hid (Below w.heap.size w V ∧ (Four V w.heap.size (.string m) (.string h) (.string p) (.slice a n cap) ∧ Four V (w.heap.size + 1) (.string m') (.string h') (.string p') (.slice b n' cbp)) ∧ Four V w4.heap.size (.string m) (.string h) (.string p) (.slice (some ⟨w3.heap.size + 3, 0, none⟩) n n) ∧ QMine V (w3.heap.size + 3) l) := ⟨b4.trans (aV.mono b4.size), ⟨(K3.out.2.1.keep hb4).keep aV, (K3.out.2.2.keep hb4).keep aV⟩, fV, hm4.keep aV⟩
  clear K3 C3 q0 q1 q2 q3 hb4 hm4 hV aV fV b4
  have C4 := HT2.out V K4.out.1
  obtain ⟨q0, q1, q2, q3, _, _⟩ := K4.out.2.1.2
  rw [HV.out] at q0 q1 q2 q3
  go_wp2_with fail
  rw [← HV.out]
  refine C4.mono ?_
  rintro e w5 ⟨rfl, hm5, hb5⟩
  clear HV q0 q1 q2 q3
  generalize w3.heap.size + 3 = bx at *
  generalize w4.heap.size = bl at *
  obtain ⟨V5, hV5⟩ : ∃ V5, V5 = w5.alloc (.cells #[.string m', .string h', .string p', .slice (some ⟨V.heap.size + 3, 0, none⟩) n' n'] 29) := ⟨_, rfl⟩
  have HV5 : Hid (V5 = w5.alloc (.cells #[.string m', .string h', .string p', .slice (some ⟨V.heap.size + 3, 0, none⟩) n' n'] 29)) := hV5
  have aV : Below w5.heap.size w5 V5 := by rw [hV5]; exact (Below.refl _ _).alloc (Nat.le_refl _) _
  have fV : Four V5 w5.heap.size (.string m') (.string h') (.string p') (.slice (some ⟨V.heap.size + 3, 0, none⟩) n' n') := by rw [hV5]; exact Four.new _ _ _ _ _ _
  have b5 := K4.out.1.trans (hb5.mono K4.out.1.size)
  have K5 : Hid (Below w.heap.size w V5 ∧ (Four V5 w.heap.size (.string m) (.string h) (.string p) (.slice a n cap) ∧ Four V5 (w.heap.size + 1) (.string m') (.string h') (.string p') (.slice b n' cbp)) ∧ (Four V5 bl (.string m) (.string h) (.string p) (.slice (some ⟨bx, 0, none⟩) n n) ∧ QMine V5 bx l) ∧ Four V5 w5.heap.size (.string m') (.string h') (.string p') (.slice (some ⟨V.heap.size + 3, 0, none⟩) n' n') ∧ QMine V5 (V.heap.size + 3) l') := ⟨b5.trans (aV.mono b5.size), ⟨(K4.out.2.1.1.keep hb5).keep aV, (K4.out.2.1.2.keep hb5).keep aV⟩, ⟨(K4.out.2.2.1.keep hb5).keep aV, (K4.out.2.2.2.keep hb5).keep aV⟩, fV, hm5.keep aV⟩
  clear K4 C4 hb5 hm5 hV5 aV fV b5
  have C5 := HG.out V5 _ _ K5.out.2.2.1.2 K5.out.2.2.2.2
  obtain ⟨q0, q1, q2, q3, _, _⟩ := K5.out.2.2.1.1
  rw [HV5.out] at q0 q1 q2 q3
  go_wp2_with fail
  rw [← HV5.out]
  refine C5.mono ?_
  rintro e w6 ⟨rfl, hb6⟩
  clear HV5 q0 q1 q2 q3 C5
  generalize V.heap.size + 3 = by' at *
  generalize w5.heap.size = bk at *
  have KX : Hid (∀ X, Below w6.heap.size w6 X → Below w.heap.size w X ∧ (Four X w.heap.size (.string m) (.string h) (.string p) (.slice a n cap) ∧ Four X (w.heap.size + 1) (.string m') (.string h') (.string p') (.slice b n' cbp)) ∧ (Four X bl (.string m) (.string h) (.string p) (.slice (some ⟨bx, 0, none⟩) n n) ∧ QMine X bx l) ∧ Four X bk (.string m') (.string h') (.string p') (.slice (some ⟨by', 0, none⟩) n' n') ∧ QMine X by' l') := fun X hb => by
    obtain ⟨k1, ⟨k2, k3⟩, ⟨k4, k5⟩, k6, k7⟩ := K5.out
    have b6 := k1.trans (hb6.mono k1.size)
    exact ⟨b6.trans (hb.mono b6.size), ⟨(k2.keep hb6).keep hb, (k3.keep hb6).keep hb⟩, ⟨(k4.keep hb6).keep hb, (k5.keep hb6).keep hb⟩, (k6.keep hb6).keep hb, (k7.keep hb6).keep hb⟩
  clear K5 HG hb6
  try clear V5
  try clear w5
  try clear V
  try clear w4
  try clear w3
  go_wp2_with fail
  have B0 : Hid (Below w6.heap.size w6 w6.drew) := (Below.refl _ _).drew
  have HKS : Hid (∀ X, Below w6.heap.size w6 X → (X.cell? ⟨w.heap.size, 0, none⟩ = some (.string m) ∧ X.cell? ⟨w.heap.size, 1, none⟩ = some (.string h) ∧ X.cell? ⟨w.heap.size, 2, none⟩ = some (.string p) ∧ X.cell? ⟨w.heap.size, 3, none⟩ = some (.slice a n cap)) ∧ X.cell? ⟨bl, 0, none⟩ = some (.string m) ∧ X.cell? ⟨bl, 1, none⟩ = some (.string h) ∧ X.cell? ⟨bl, 2, none⟩ = some (.string p) ∧ X.cell? ⟨bl, 3, none⟩ = some (.slice (some ⟨bx, 0, none⟩) n n)) := fun X hb => ⟨⟨(KX.out X hb).2.1.1.c0, (KX.out X hb).2.1.1.c1, (KX.out X hb).2.1.1.c2, (KX.out X hb).2.1.1.c3⟩, (KX.out X hb).2.2.1.1.c0, (KX.out X hb).2.2.1.1.c1, (KX.out X hb).2.2.1.1.c2, (KX.out X hb).2.2.1.1.c3⟩
  go_cut [39] from 35 to 39 (fun s39 wx => s39 = .bool false ∧ Below w6.heap.size w6 wx)
  case first =>
    go_region_held3 (fun X => (X.cell? ⟨w.heap.size, 0, none⟩ = some (.string m) ∧ X.cell? ⟨w.heap.size, 1, none⟩ = some (.string h) ∧ X.cell? ⟨w.heap.size, 2, none⟩ = some (.string p) ∧ X.cell? ⟨w.heap.size, 3, none⟩ = some (.slice a n cap)) ∧ X.cell? ⟨bl, 0, none⟩ = some (.string m) ∧ X.cell? ⟨bl, 1, none⟩ = some (.string h) ∧ X.cell? ⟨bl, 2, none⟩ = some (.string p) ∧ X.cell? ⟨bl, 3, none⟩ = some (.slice (some ⟨bx, 0, none⟩) n n))
      (first | exact HKS.out _ BB.out | exact HKS.out _ BA.out | exact HKS.out _ B0.out)
      (first
      | (go_at_call 6; refine (HT.out _ (KX.out _ B0.out).1).mono ?_; rintro e wa ⟨rfl, hma, hba⟩; have MA : Hid (QMine wa _ l) := hma; have BA : Hid (Below w6.heap.size w6 wa) := B0.out.trans (hba.mono B0.out.size); clear hba hma)
      | (go_at_call 8; refine (HQ.out _ _ _ (KX.out _ BA.out).2.2.1.2 MA.out).mono ?_; rintro e wb ⟨rfl, hbb⟩; have BB : Hid (Below w6.heap.size w6 wb) := BA.out.trans (hbb.mono BA.out.size); clear hbb))
    all_goals (go_wp2_with fail; go_meet; exact ⟨rfl, BB.out⟩)
  case rest =>
  obtain ⟨rfl, hbx⟩ := hcut
  have X1 : Hid (Below w6.heap.size w6 wc) := hbx
  clear hbx HKS B0 HQ HT
  go_wp2_with fail
  have B0 : Hid (Below w6.heap.size w6 wc.drew) := X1.out.trans ((Below.refl _ _).drew)
  have HKS : Hid (∀ X, Below w6.heap.size w6 X → (X.cell? ⟨w.heap.size + 1, 0, none⟩ = some (.string m') ∧ X.cell? ⟨w.heap.size + 1, 1, none⟩ = some (.string h') ∧ X.cell? ⟨w.heap.size + 1, 2, none⟩ = some (.string p') ∧ X.cell? ⟨w.heap.size + 1, 3, none⟩ = some (.slice b n' cbp)) ∧ X.cell? ⟨bk, 0, none⟩ = some (.string m') ∧ X.cell? ⟨bk, 1, none⟩ = some (.string h') ∧ X.cell? ⟨bk, 2, none⟩ = some (.string p') ∧ X.cell? ⟨bk, 3, none⟩ = some (.slice (some ⟨by', 0, none⟩) n' n')) := fun X hb => ⟨⟨(KX.out X hb).2.1.2.c0, (KX.out X hb).2.1.2.c1, (KX.out X hb).2.1.2.c2, (KX.out X hb).2.1.2.c3⟩, (KX.out X hb).2.2.2.1.c0, (KX.out X hb).2.2.2.1.c1, (KX.out X hb).2.2.2.1.c2, (KX.out X hb).2.2.2.1.c3⟩
  go_region_held3 (fun X => (X.cell? ⟨w.heap.size + 1, 0, none⟩ = some (.string m') ∧ X.cell? ⟨w.heap.size + 1, 1, none⟩ = some (.string h') ∧ X.cell? ⟨w.heap.size + 1, 2, none⟩ = some (.string p') ∧ X.cell? ⟨w.heap.size + 1, 3, none⟩ = some (.slice b n' cbp)) ∧ X.cell? ⟨bk, 0, none⟩ = some (.string m') ∧ X.cell? ⟨bk, 1, none⟩ = some (.string h') ∧ X.cell? ⟨bk, 2, none⟩ = some (.string p') ∧ X.cell? ⟨bk, 3, none⟩ = some (.slice (some ⟨by', 0, none⟩) n' n'))
    (first | exact HKS.out _ BB.out | exact HKS.out _ BA.out | exact HKS.out _ B0.out)
    (first
    | (go_at_call 6; refine (HT2.out _ (KX.out _ B0.out).1).mono ?_; rintro e wa ⟨rfl, hma, hba⟩; have MA : Hid (QMine wa _ l') := hma; have BA : Hid (Below w6.heap.size w6 wa) := B0.out.trans (hba.mono B0.out.size); clear hba hma)
    | (go_at_call 8; refine (HQ2.out _ _ _ (KX.out _ BA.out).2.2.2.2 MA.out).mono ?_; rintro e wb ⟨rfl, hbb⟩; have BB : Hid (Below w6.heap.size w6 wb) := BA.out.trans (hbb.mono BA.out.size); clear hbb))
  all_goals (go_wp2_with fail; go_ret; exact ⟨rfl, (KX.out _ BB.out).1⟩)
end Go.Proofs.Ytojcjpdgjohldaa
