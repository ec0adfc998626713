/-
  The law of RequestFault.
-/
import Derived.Test.YtojcjpdgjohldaaDoorMsgLaws
import Derived.Test.YtojcjpdgjohldaaDoorReqFns
import Derived.Deep.RegionHeld3
namespace Go.Proofs.YtojcjpdgjohldaaDoor
open Go.ChangeShapes Go.WideShapes Go.ChangeAt Go.RowKit
set_option maxRecDepth 100000 in
set_option maxHeartbeats 8000000 in
theorem lawRequestFault (E : Errs) (w : World) (m h p : ByteArray) (a : Option Addr) (cap : Nat) (l : List Hdr) (hset : SetIs w) (hE : ErrsIs w E) (z1 : m.size ≤ maxLen) (z2 : h.size ≤ maxLen) (z3 : p.size ≤ maxLen) (hl : l.length ≤ maxLen) (hz : SmallHdrs l) (hi : HdsIn w a l) :
    Calls Tryd.prog 3 #[.agg #[.string m, .string h, .string p, .slice a l.length cap]] w fun e w' => e = .returned (.bool true) ∧ Below w.heap.size w w' := by
  obtain ⟨W, hW⟩ : ∃ W, W = w.alloc (.cells #[.string m, .string h, .string p, .slice a l.length cap] 24) := ⟨_, rfl⟩
  have HW : Hid (W = w.alloc (.cells #[.string m, .string h, .string p, .slice a l.length cap] 24)) := hW
  have bW : Below w.heap.size w W := by rw [hW]; exact (Below.refl _ _).alloc (Nat.le_refl _) _
  have fW : Four W w.heap.size (.string m) (.string h) (.string p) (.slice a l.length cap) := by rw [hW]; exact Four.new _ _ _ _ _ _
  have K0 : Hid (Below w.heap.size w W ∧ Four W w.heap.size (.string m) (.string h) (.string p) (.slice a l.length cap)) := ⟨bW, fW⟩
  have HZ := szRequest_any W m h p a cap l z1 z2 z3 hl hz (hi.keep bW) 1048576 (by omega) (by omega)
  have HR : Hid (¬ szR 1048576 m h p l < 0 → m.size ≤ 1048576 ∧ h.size ≤ 1048576 ∧ p.size ≤ 1048576 ∧ l.length ≤ 1048576 ∧ szR 1048576 m h p l ≤ 1048576) := szR_room (by omega)
  have HI : Hid (∀ X, Below w.heap.size w X → HdsIn X a l) := fun X hb => hi.keep hb
  have HS : Hid (∀ X, Below w.heap.size w X → SetIs X) := fun X hb => hset.below hb
  have HE0 : Hid (∀ X, Below w.heap.size w X → ErrsIs X E) := fun X hb => hE.below hb
  generalize szR 1048576 m h p l = z at *
  clear hW bW fW hi hset hE hz z1 z2 z3 hl
  go_enter Tryd.func3, Tryd.ntmps3
  go_wp2_with fail
  rw [← HW.out]
  refine HZ.mono ?_
  rintro e w1 ⟨rfl, hb1⟩
  have K1 : Hid (Below w.heap.size w w1 ∧ Four w1 w.heap.size (.string m) (.string h) (.string p) (.slice a l.length cap)) := ⟨K0.out.1.trans (hb1.mono K0.out.1.size), K0.out.2.keep hb1⟩
  clear HZ HW hb1 K0
  by_cases cz : z < 0
  · have KB := K1.out.1
    clear K1 HR HI HS HE0
    have KB' : Hid (Below w.heap.size w w1) := KB
    clear KB
    go_wp2_with fail
    go_ret
    exact ⟨rfl, KB'.out⟩
  obtain ⟨y1, y2, y3, y4, y5⟩ := HR.out (by omega)
  have HT : Hid (∀ X, Below w.heap.size w X → Calls Tryd.prog 7 #[.agg #[.string m, .string h, .string p, .slice a l.length cap]] X fun e w' => e = .returned (.agg #[.string m, .string h, .string p, .slice (some ⟨X.heap.size + 3, 0, none⟩) l.length l.length]) ∧ QMine w' (X.heap.size + 3) l ∧ Below X.heap.size X w') := fun X hb => toRequest_any X m h p a cap l y4 (HI.out X hb)
  have HF : Hid (∀ X b, QMine X b l → Calls Tryd.prog 6 #[.agg #[.string m, .string h, .string p, .slice (some ⟨b, 0, none⟩) l.length l.length]] X fun e w' => e = .returned (.int .i64 (reqC m h p l)) ∧ Below X.heap.size X w') := fun X b hq => specReq_any X m h p _ _ l y4 (.inr ⟨b, 0, rfl, hq.at0⟩)
  have HG : Hid (∀ X b, Below w.heap.size w X → QMine X b l → Calls Tryd.prog 8 #[.agg #[.string m, .string h, .string p, .slice (some ⟨b, 0, none⟩) l.length l.length]] X fun e w' => e = .returned (.int .i64 (reqC m h p l)) ∧ Below X.heap.size X w') := fun X b hb hq => implReq_any E X m h p _ _ l y4 (Nat.le_refl _) y3 (HS.out X hb) (HE0.out X hb) (.inr ⟨b, 0, rfl, hq.at0⟩)
  have HQ : Hid (∀ X b1 b2, QMine X b1 l → QMine X b2 l → Calls Tryd.prog 9 #[.agg #[.string m, .string h, .string p, .slice (some ⟨b1, 0, none⟩) l.length l.length], .agg #[.string m, .string h, .string p, .slice (some ⟨b2, 0, none⟩) l.length l.length]] X fun e w' => e = .returned (.bool true) ∧ Below X.heap.size X w') := fun X b1 b2 h1 h2 => eqRequest_same X m h p b1 b2 l y4 h1.at0 h2.at0
  clear HR HI HS HE0 y1 y2 y3 y5
  generalize l.length = n at *
  generalize reqC m h p l = c at *
  have C1 := HT.out w1 K1.out.1
  obtain ⟨q0, q1, q2, q3, _, _⟩ := K1.out.2
  go_wp2_with fail
  refine C1.mono ?_
  rintro e w2 ⟨rfl, hm2, hb2⟩
  have K2 : Hid (Below w.heap.size w w2 ∧ Four w2 w.heap.size (.string m) (.string h) (.string p) (.slice a n cap)) := ⟨K1.out.1.trans (hb2.mono K1.out.1.size), K1.out.2.keep hb2⟩
  have C2 := HF.out w2 _ hm2
  clear K1 C1 q0 q1 q2 q3 hb2 hm2 HF
  go_wp2_with fail
  refine C2.mono ?_
  rintro e w3 ⟨rfl, hb3⟩
  have K3 : Hid (Below w.heap.size w w3 ∧ Four w3 w.heap.size (.string m) (.string h) (.string p) (.slice a n cap)) := ⟨K2.out.1.trans (hb3.mono K2.out.1.size), K2.out.2.keep hb3⟩
  clear K2 C2 hb3
  try clear w2
  try clear w1
  have C3 := HT.out w3 K3.out.1
  obtain ⟨q0, q1, q2, q3, _, _⟩ := K3.out.2
  go_wp2_with fail
  refine C3.mono ?_
  rintro e w4 ⟨rfl, hm4, hb4⟩
  obtain ⟨V, hV⟩ : ∃ V, V = w4.alloc (.cells #[.string m, .string h, .string p, .slice (some ⟨w3.heap.size + 3, 0, none⟩) n n] 29) := ⟨_, rfl⟩
  have HV : Hid (V = w4.alloc (.cells #[.string m, .string h, .string p, .slice (some ⟨w3.heap.size + 3, 0, none⟩) n n] 29)) := hV
  have aV : Below w4.heap.size w4 V := by rw [hV]; exact (Below.refl _ _).alloc (Nat.le_refl _) _
  have fV : Four V w4.heap.size (.string m) (.string h) (.string p) (.slice (some ⟨w3.heap.size + 3, 0, none⟩) n n) := by rw [hV]; exact Four.new _ _ _ _ _ _
  have b4 := K3.out.1.trans (hb4.mono K3.out.1.size)
  have K4 : Hid (Below w.heap.size w V ∧ Four V w.heap.size (.string m) (.string h) (.string p) (.slice a n cap) ∧ Four V w4.heap.size (.string m) (.string h) (.string p) (.slice (some ⟨w3.heap.size + 3, 0, none⟩) n n) ∧ QMine V (w3.heap.size + 3) l) := ⟨b4.trans (aV.mono b4.size), (K3.out.2.keep hb4).keep aV, fV, hm4.keep aV⟩
  clear K3 C3 q0 q1 q2 q3 hb4 hm4 hV aV fV b4
  have C4 := HG.out V _ K4.out.1 K4.out.2.2.2
  go_wp2_with fail
  rw [← HV.out]
  refine C4.mono ?_
  rintro e w5 ⟨rfl, hb5⟩
  have K5 : Hid (Below w.heap.size w w5 ∧ Four w5 w.heap.size (.string m) (.string h) (.string p) (.slice a n cap) ∧ Four w5 w4.heap.size (.string m) (.string h) (.string p) (.slice (some ⟨w3.heap.size + 3, 0, none⟩) n n) ∧ QMine w5 (w3.heap.size + 3) l) := ⟨K4.out.1.trans (hb5.mono K4.out.1.size), K4.out.2.1.keep hb5, K4.out.2.2.1.keep hb5, K4.out.2.2.2.keep hb5⟩
  clear K4 C4 hb5 HV HG
  try clear V
  generalize w3.heap.size + 3 = bx at *
  generalize w4.heap.size = bl at *
  try clear w4
  try clear w3
  go_wp2_with fail
  have HK : Hid (∀ X, Below w5.heap.size w5 X → Below w.heap.size w X ∧ Four X w.heap.size (.string m) (.string h) (.string p) (.slice a n cap) ∧ Four X bl (.string m) (.string h) (.string p) (.slice (some ⟨bx, 0, none⟩) n n) ∧ QMine X bx l) := fun X hb => ⟨K5.out.1.trans (hb.mono K5.out.1.size), K5.out.2.1.keep hb, K5.out.2.2.1.keep hb, K5.out.2.2.2.keep hb⟩
  clear K5
  have B0 : Hid (Below w5.heap.size w5 w5.drew) := (Below.refl _ _).drew
  have HKS : Hid (∀ X, Below w5.heap.size w5 X → (X.cell? ⟨w.heap.size, 0, none⟩ = some (.string m) ∧ X.cell? ⟨w.heap.size, 1, none⟩ = some (.string h) ∧ X.cell? ⟨w.heap.size, 2, none⟩ = some (.string p) ∧ X.cell? ⟨w.heap.size, 3, none⟩ = some (.slice a n cap)) ∧ X.cell? ⟨bl, 0, none⟩ = some (.string m) ∧ X.cell? ⟨bl, 1, none⟩ = some (.string h) ∧ X.cell? ⟨bl, 2, none⟩ = some (.string p) ∧ X.cell? ⟨bl, 3, none⟩ = some (.slice (some ⟨bx, 0, none⟩) n n)) := fun X hb => ⟨⟨(HK.out X hb).2.1.c0, (HK.out X hb).2.1.c1, (HK.out X hb).2.1.c2, (HK.out X hb).2.1.c3⟩, (HK.out X hb).2.2.1.c0, (HK.out X hb).2.2.1.c1, (HK.out X hb).2.2.1.c2, (HK.out X hb).2.2.1.c3⟩
  go_region_held3 (fun X => (X.cell? ⟨w.heap.size, 0, none⟩ = some (.string m) ∧ X.cell? ⟨w.heap.size, 1, none⟩ = some (.string h) ∧ X.cell? ⟨w.heap.size, 2, none⟩ = some (.string p) ∧ X.cell? ⟨w.heap.size, 3, none⟩ = some (.slice a n cap)) ∧ X.cell? ⟨bl, 0, none⟩ = some (.string m) ∧ X.cell? ⟨bl, 1, none⟩ = some (.string h) ∧ X.cell? ⟨bl, 2, none⟩ = some (.string p) ∧ X.cell? ⟨bl, 3, none⟩ = some (.slice (some ⟨bx, 0, none⟩) n n))
    (first | exact HKS.out _ BB.out | exact HKS.out _ BA.out | exact HKS.out _ B0.out)
    (first
    | (go_at_call 7; refine (HT.out _ (HK.out _ B0.out).1).mono ?_; rintro e wa ⟨rfl, hma, hba⟩; have MA : Hid (QMine wa _ l) := hma; have BA : Hid (Below w5.heap.size w5 wa) := B0.out.trans (hba.mono B0.out.size); clear hba hma)
    | (go_at_call 9; refine (HQ.out _ _ _ (HK.out _ BA.out).2.2.2 MA.out).mono ?_; rintro e wb ⟨rfl, hbb⟩; have BB : Hid (Below w5.heap.size w5 wb) := BA.out.trans (hbb.mono BA.out.size); clear hbb))
  all_goals (go_wp2_with fail; go_ret; exact ⟨rfl, (HK.out _ BB.out).1⟩)
end Go.Proofs.YtojcjpdgjohldaaDoor
