/-
  The law of EntryFault, over what the program's own function answers.
-/
import Derived.Test.YtelbddgdaibolaaDoorEntTo
import Derived.Test.YtelbddgdaibolaaDoorEntSpec
import Derived.Deep.RegionHeld3
namespace Go.Proofs.YtelbddgdaibolaaDoor
open Go.ChangeShapes Go.WideShapes Go.ChangeAt Go.RowKit Go.Sort
set_option maxRecDepth 100000 in
set_option maxHeartbeats 16000000 in
theorem lawEntryFault (w : World) (key : ByteArray) (st : Int) (ha : Option Addr) (hc : Nat) (ba : Option Addr) (bc : Nat) (t g l s e : Int) (b1 b2 : Bool) (ta : Option Addr) (tc : Nat) (pins : Int) (hs : List Hdr) (bs : List UInt8) (ts : List ByteArray) (hk : key.size ≤ maxLen) (hhl : hs.length ≤ maxLen) (hsm : SmallHdrs hs) (hbl : bs.length ≤ maxLen) (htl : ts.length ≤ maxLen) (hts : ∀ x ∈ ts, x.size ≤ maxLen) (hH : HdsIn w ha hs) (hB : BIn w ba bs) (hT : TIn w ta ts)
    (HG : Hid (hs.length ≤ 1048576 → bs.length ≤ 1048576 → ts.length ≤ 1048576 → ∀ X k d f, Below w.heap.size w X → QMine X k hs → BMine X d bs → TMine X f ts → Calls Tryd.prog 11 #[.agg #[.string key, .int .i64 st, .slice (some ⟨k, 0, none⟩) hs.length hs.length, .slice (some ⟨d, 0, none⟩) bs.length bs.length, .int .i64 t, .int .i64 g, .int .i64 l, .int .i64 s, .int .i64 e, .bool b1, .bool b2, .slice (some ⟨f, 0, none⟩) ts.length ts.length, .int .i64 pins]] X fun r w' => r = .returned (.int .i64 (entryC key st pins hs bs.length ts.length t g l s e)) ∧ Below X.heap.size X w')) :
    Calls Tryd.prog 3 #[.agg #[.string key, .int .i64 st, .slice ha hs.length hc, .slice ba bs.length bc, .int .i64 t, .int .i64 g, .int .i64 l, .int .i64 s, .int .i64 e, .bool b1, .bool b2, .slice ta ts.length tc, .int .i64 pins]] w fun r w' => r = .returned (.bool true) ∧ Below w.heap.size w w' := by
  obtain ⟨W, hW⟩ : ∃ W, W = w.alloc (.cells #[.string key, .int .i64 st, .slice ha hs.length hc, .slice ba bs.length bc, .int .i64 t, .int .i64 g, .int .i64 l, .int .i64 s, .int .i64 e, .bool b1, .bool b2, .slice ta ts.length tc, .int .i64 pins] 28) := ⟨_, rfl⟩
  have HW : Hid (W = w.alloc (.cells #[.string key, .int .i64 st, .slice ha hs.length hc, .slice ba bs.length bc, .int .i64 t, .int .i64 g, .int .i64 l, .int .i64 s, .int .i64 e, .bool b1, .bool b2, .slice ta ts.length tc, .int .i64 pins] 28)) := hW
  have bW : Below w.heap.size w W := by rw [hW]; exact (Below.refl _ _).alloc (Nat.le_refl _) _
  have fW : E13 W w.heap.size (.string key) (.int .i64 st) (.slice ha hs.length hc) (.slice ba bs.length bc) (.int .i64 t) (.int .i64 g) (.int .i64 l) (.int .i64 s) (.int .i64 e) (.bool b1) (.bool b2) (.slice ta ts.length tc) (.int .i64 pins) := by rw [hW]; exact E13.new w _ _ _ _ _ _ _ _ _ _ _ _ _ _
  have K0 : Hid (Below w.heap.size w W ∧ E13 W w.heap.size (.string key) (.int .i64 st) (.slice ha hs.length hc) (.slice ba bs.length bc) (.int .i64 t) (.int .i64 g) (.int .i64 l) (.int .i64 s) (.int .i64 e) (.bool b1) (.bool b2) (.slice ta ts.length tc) (.int .i64 pins)) := ⟨bW, fW⟩
  have HZ := szEntry_any W key st ha hc ba bc t g l s e b1 b2 ta tc pins hs bs ts 1048576 (by omega) (by omega) hk hhl hsm hbl htl hts (hH.keep bW) (hT.keep bW)
  have HR : Hid (¬ szE 1048576 key hs bs ts < 0 → key.size ≤ 1048576 ∧ hs.length ≤ 1048576 ∧ bs.length ≤ 1048576 ∧ ts.length ≤ 1048576 ∧ szE 1048576 key hs bs ts ≤ 1048576) := szE_room (by omega)
  have HI : Hid (∀ X, Below w.heap.size w X → HdsIn X ha hs ∧ BIn X ba bs ∧ TIn X ta ts) := fun X hb => ⟨hH.keep hb, hB.keep hb, hT.keep hb⟩
  generalize szE 1048576 key hs bs ts = z at *
  clear hW bW fW hH hB hT hsm hts hhl hbl htl
  go_enter Tryd.func3, Tryd.ntmps3
  go_wp2_with fail
  rw [← HW.out]
  refine HZ.mono ?_
  rintro e0 w1 ⟨rfl, hb1⟩
  have K1 : Hid (Below w.heap.size w w1 ∧ E13 w1 w.heap.size (.string key) (.int .i64 st) (.slice ha hs.length hc) (.slice ba bs.length bc) (.int .i64 t) (.int .i64 g) (.int .i64 l) (.int .i64 s) (.int .i64 e) (.bool b1) (.bool b2) (.slice ta ts.length tc) (.int .i64 pins)) := ⟨K0.out.1.trans (hb1.mono K0.out.1.size), K0.out.2.keep hb1⟩
  clear HZ HW hb1 K0
  by_cases cz : z < 0
  · have KB : Hid (Below w.heap.size w w1) := K1.out.1
    clear K1 HR HI HG
    go_wp2_with fail
    go_ret
    exact ⟨rfl, KB.out⟩
  obtain ⟨y1, y2, y3, y4, y5⟩ := HR.out (by omega)
  have HT : Hid (∀ X, Below w.heap.size w X → Calls Tryd.prog 10 #[.agg #[.string key, .int .i64 st, .slice ha hs.length hc, .slice ba bs.length bc, .int .i64 t, .int .i64 g, .int .i64 l, .int .i64 s, .int .i64 e, .bool b1, .bool b2, .slice ta ts.length tc, .int .i64 pins]] X fun r w' => (∃ B2 B3, r = .returned (.agg #[.string key, .int .i64 st, .slice (some ⟨X.heap.size + 3, 0, none⟩) hs.length hs.length, .slice (some ⟨B2, 0, none⟩) bs.length bs.length, .int .i64 t, .int .i64 g, .int .i64 l, .int .i64 s, .int .i64 e, .bool b1, .bool b2, .slice (some ⟨B3, 0, none⟩) ts.length ts.length, .int .i64 pins]) ∧ QMine w' (X.heap.size + 3) hs ∧ BMine w' B2 bs ∧ TMine w' B3 ts ∧ X.heap.size + 3 < B2 ∧ B2 < B3) ∧ Below X.heap.size X w') := fun X hb => toEntry_any X key st ha hc ba bc t g l s e b1 b2 ta tc pins hs bs ts y2 y3 y4 (HI.out X hb).1 (HI.out X hb).2.1 (HI.out X hb).2.2
  have HF : Hid (∀ X k d f, QMine X k hs → Calls Tryd.prog 9 #[.agg #[.string key, .int .i64 st, .slice (some ⟨k, 0, none⟩) hs.length hs.length, .slice (some ⟨d, 0, none⟩) bs.length bs.length, .int .i64 t, .int .i64 g, .int .i64 l, .int .i64 s, .int .i64 e, .bool b1, .bool b2, .slice (some ⟨f, 0, none⟩) ts.length ts.length, .int .i64 pins]] X fun r w' => r = .returned (.int .i64 (entryC key st pins hs bs.length ts.length t g l s e)) ∧ Below X.heap.size X w') := fun X k d f hq => specEntry_any X key st _ _ _ _ t g l s e b1 b2 _ _ pins hs bs.length ts.length hk y2 (by unfold maxLen; omega) (by unfold maxLen; omega) (.inr ⟨k, 0, rfl, hq.at0⟩)
  have HQ : Hid (∀ X k1 k2 d1 d2 f1 f2, QMine X k1 hs → QMine X k2 hs → BMine X d1 bs → BMine X d2 bs → TMine X f1 ts → TMine X f2 ts → Calls Tryd.prog 12 #[.agg #[.string key, .int .i64 st, .slice (some ⟨k1, 0, none⟩) hs.length hs.length, .slice (some ⟨d1, 0, none⟩) bs.length bs.length, .int .i64 t, .int .i64 g, .int .i64 l, .int .i64 s, .int .i64 e, .bool b1, .bool b2, .slice (some ⟨f1, 0, none⟩) ts.length ts.length, .int .i64 pins], .agg #[.string key, .int .i64 st, .slice (some ⟨k2, 0, none⟩) hs.length hs.length, .slice (some ⟨d2, 0, none⟩) bs.length bs.length, .int .i64 t, .int .i64 g, .int .i64 l, .int .i64 s, .int .i64 e, .bool b1, .bool b2, .slice (some ⟨f2, 0, none⟩) ts.length ts.length, .int .i64 pins]] X fun r w' => r = .returned (.bool true) ∧ Below X.heap.size X w') := fun X k1 k2 d1 d2 f1 f2 a b c d e' f => eqEntry_same X key st (some ⟨k1, 0, none⟩) (some ⟨k2, 0, none⟩) _ _ _ _ _ _ t g l s e b1 b2 _ _ _ _ pins hs bs ts y2 y3 y4 (.inr ⟨_, _, rfl, a.at0⟩) (.inr ⟨_, _, rfl, b.at0⟩) c.in d.in e'.in f.in
  have HG2 := HG.out y2 y3 y4
  have HG3 : Hid (∀ X k d f, Below w.heap.size w X → QMine X k hs → BMine X d bs → TMine X f ts → Calls Tryd.prog 11 #[.agg #[.string key, .int .i64 st, .slice (some ⟨k, 0, none⟩) hs.length hs.length, .slice (some ⟨d, 0, none⟩) bs.length bs.length, .int .i64 t, .int .i64 g, .int .i64 l, .int .i64 s, .int .i64 e, .bool b1, .bool b2, .slice (some ⟨f, 0, none⟩) ts.length ts.length, .int .i64 pins]] X fun r w' => r = .returned (.int .i64 (entryC key st pins hs bs.length ts.length t g l s e)) ∧ Below X.heap.size X w') := HG2
  clear HR HI HG HG2 y5
  generalize entryC key st pins hs bs.length ts.length t g l s e = c at *
  generalize hs.length = hl at *
  generalize bs.length = bn at *
  generalize ts.length = tn at *
  have C1 := HT.out w1 K1.out.1
  have q0 := K1.out.2.c0
  have q1 := K1.out.2.c1
  have q2 := K1.out.2.c2
  have q3 := K1.out.2.c3
  have q4 := K1.out.2.c4
  have q5 := K1.out.2.c5
  have q6 := K1.out.2.c6
  have q7 := K1.out.2.c7
  have q8 := K1.out.2.c8
  have q9 := K1.out.2.c9
  have q10 := K1.out.2.c10
  have q11 := K1.out.2.c11
  have q12 := K1.out.2.c12
  go_wp2_with fail
  refine C1.mono ?_
  rintro e0 w2 ⟨⟨d2, f2, rfl, hm2, _, _, _, _⟩, hb2⟩
  have K2 : Hid (Below w.heap.size w w2 ∧ E13 w2 w.heap.size (.string key) (.int .i64 st) (.slice ha hl hc) (.slice ba bn bc) (.int .i64 t) (.int .i64 g) (.int .i64 l) (.int .i64 s) (.int .i64 e) (.bool b1) (.bool b2) (.slice ta tn tc) (.int .i64 pins)) := ⟨K1.out.1.trans (hb2.mono K1.out.1.size), K1.out.2.keep hb2⟩
  have C2 := HF.out w2 _ d2 f2 hm2
  clear K1 C1 q0 q1 q2 q3 q4 q5 q6 q7 q8 q9 q10 q11 q12 hb2 hm2 HF
  go_wp2_with fail
  refine C2.mono ?_
  rintro e0 w3 ⟨rfl, hb3⟩
  have K3 : Hid (Below w.heap.size w w3 ∧ E13 w3 w.heap.size (.string key) (.int .i64 st) (.slice ha hl hc) (.slice ba bn bc) (.int .i64 t) (.int .i64 g) (.int .i64 l) (.int .i64 s) (.int .i64 e) (.bool b1) (.bool b2) (.slice ta tn tc) (.int .i64 pins)) := ⟨K2.out.1.trans (hb3.mono K2.out.1.size), K2.out.2.keep hb3⟩
  clear K2 C2 hb3
  try clear w2
  try clear w1
  have C3 := HT.out w3 K3.out.1
  have q0 := K3.out.2.c0
  have q1 := K3.out.2.c1
  have q2 := K3.out.2.c2
  have q3 := K3.out.2.c3
  have q4 := K3.out.2.c4
  have q5 := K3.out.2.c5
  have q6 := K3.out.2.c6
  have q7 := K3.out.2.c7
  have q8 := K3.out.2.c8
  have q9 := K3.out.2.c9
  have q10 := K3.out.2.c10
  have q11 := K3.out.2.c11
  have q12 := K3.out.2.c12
  go_wp2_with fail
  refine C3.mono ?_
  rintro e0 w4 ⟨⟨d4, f4, rfl, hm4, hd4, hf4, _, _⟩, hb4⟩
  obtain ⟨V, hV⟩ : ∃ V, V = w4.alloc (.cells #[.string key, .int .i64 st, .slice (some ⟨w3.heap.size + 3, 0, none⟩) hl hl, .slice (some ⟨d4, 0, none⟩) bn bn, .int .i64 t, .int .i64 g, .int .i64 l, .int .i64 s, .int .i64 e, .bool b1, .bool b2, .slice (some ⟨f4, 0, none⟩) tn tn, .int .i64 pins] 34) := ⟨_, rfl⟩
  have HV : Hid (V = w4.alloc (.cells #[.string key, .int .i64 st, .slice (some ⟨w3.heap.size + 3, 0, none⟩) hl hl, .slice (some ⟨d4, 0, none⟩) bn bn, .int .i64 t, .int .i64 g, .int .i64 l, .int .i64 s, .int .i64 e, .bool b1, .bool b2, .slice (some ⟨f4, 0, none⟩) tn tn, .int .i64 pins] 34)) := hV
  have aV : Below w4.heap.size w4 V := by rw [hV]; exact (Below.refl _ _).alloc (Nat.le_refl _) _
  have fV : E13 V w4.heap.size (.string key) (.int .i64 st) (.slice (some ⟨w3.heap.size + 3, 0, none⟩) hl hl) (.slice (some ⟨d4, 0, none⟩) bn bn) (.int .i64 t) (.int .i64 g) (.int .i64 l) (.int .i64 s) (.int .i64 e) (.bool b1) (.bool b2) (.slice (some ⟨f4, 0, none⟩) tn tn) (.int .i64 pins) := by rw [hV]; exact E13.new w4 _ _ _ _ _ _ _ _ _ _ _ _ _ _
  have b4 := K3.out.1.trans (hb4.mono K3.out.1.size)
  have K4 : Hid (Below w.heap.size w V ∧ E13 V w.heap.size (.string key) (.int .i64 st) (.slice ha hl hc) (.slice ba bn bc) (.int .i64 t) (.int .i64 g) (.int .i64 l) (.int .i64 s) (.int .i64 e) (.bool b1) (.bool b2) (.slice ta tn tc) (.int .i64 pins) ∧ E13 V w4.heap.size (.string key) (.int .i64 st) (.slice (some ⟨w3.heap.size + 3, 0, none⟩) hl hl) (.slice (some ⟨d4, 0, none⟩) bn bn) (.int .i64 t) (.int .i64 g) (.int .i64 l) (.int .i64 s) (.int .i64 e) (.bool b1) (.bool b2) (.slice (some ⟨f4, 0, none⟩) tn tn) (.int .i64 pins) ∧ QMine V (w3.heap.size + 3) hs ∧ BMine V d4 bs ∧ TMine V f4 ts) := ⟨b4.trans (aV.mono b4.size), (K3.out.2.keep hb4).keep aV, fV, hm4.keep aV, hd4.keep aV, hf4.keep aV⟩
  clear K3 C3 q0 q1 q2 q3 q4 q5 q6 q7 q8 q9 q10 q11 q12 hb4 hm4 hd4 hf4 hV aV fV b4
  have C4 := HG3.out V _ d4 f4 K4.out.1 K4.out.2.2.2.1 K4.out.2.2.2.2.1 K4.out.2.2.2.2.2
  go_wp2_with fail
  rw [← HV.out]
  refine C4.mono ?_
  rintro e0 w5 ⟨rfl, hb5⟩
  have K5 : Hid (Below w.heap.size w w5 ∧ E13 w5 w.heap.size (.string key) (.int .i64 st) (.slice ha hl hc) (.slice ba bn bc) (.int .i64 t) (.int .i64 g) (.int .i64 l) (.int .i64 s) (.int .i64 e) (.bool b1) (.bool b2) (.slice ta tn tc) (.int .i64 pins) ∧ E13 w5 w4.heap.size (.string key) (.int .i64 st) (.slice (some ⟨w3.heap.size + 3, 0, none⟩) hl hl) (.slice (some ⟨d4, 0, none⟩) bn bn) (.int .i64 t) (.int .i64 g) (.int .i64 l) (.int .i64 s) (.int .i64 e) (.bool b1) (.bool b2) (.slice (some ⟨f4, 0, none⟩) tn tn) (.int .i64 pins) ∧ QMine w5 (w3.heap.size + 3) hs ∧ BMine w5 d4 bs ∧ TMine w5 f4 ts) := ⟨K4.out.1.trans (hb5.mono K4.out.1.size), K4.out.2.1.keep hb5, K4.out.2.2.1.keep hb5, K4.out.2.2.2.1.keep hb5, K4.out.2.2.2.2.1.keep hb5, K4.out.2.2.2.2.2.keep hb5⟩
  clear K4 C4 hb5 HV HG3
  try clear V
  generalize w3.heap.size + 3 = bx at *
  generalize w4.heap.size = bk at *
  try clear w4
  try clear w3
  go_wp2_with fail
  have HK : Hid (∀ X, Below w5.heap.size w5 X → Below w.heap.size w X ∧ E13 X w.heap.size (.string key) (.int .i64 st) (.slice ha hl hc) (.slice ba bn bc) (.int .i64 t) (.int .i64 g) (.int .i64 l) (.int .i64 s) (.int .i64 e) (.bool b1) (.bool b2) (.slice ta tn tc) (.int .i64 pins) ∧ E13 X bk (.string key) (.int .i64 st) (.slice (some ⟨bx, 0, none⟩) hl hl) (.slice (some ⟨d4, 0, none⟩) bn bn) (.int .i64 t) (.int .i64 g) (.int .i64 l) (.int .i64 s) (.int .i64 e) (.bool b1) (.bool b2) (.slice (some ⟨f4, 0, none⟩) tn tn) (.int .i64 pins) ∧ QMine X (bx) hs ∧ BMine X d4 bs ∧ TMine X f4 ts) := fun X hb => ⟨K5.out.1.trans (hb.mono K5.out.1.size), K5.out.2.1.keep hb, K5.out.2.2.1.keep hb, K5.out.2.2.2.1.keep hb, K5.out.2.2.2.2.1.keep hb, K5.out.2.2.2.2.2.keep hb⟩
  clear K5
  have B0 : Hid (Below w5.heap.size w5 w5.drew) := (Below.refl _ _).drew
  have HKS : Hid (∀ X, Below w5.heap.size w5 X → (X.cell? ⟨w.heap.size, 0, none⟩ = some (.string key) ∧ X.cell? ⟨w.heap.size, 1, none⟩ = some (.int .i64 st) ∧ X.cell? ⟨w.heap.size, 2, none⟩ = some (.slice ha hl hc) ∧ X.cell? ⟨w.heap.size, 3, none⟩ = some (.slice ba bn bc) ∧ X.cell? ⟨w.heap.size, 4, none⟩ = some (.int .i64 t) ∧ X.cell? ⟨w.heap.size, 5, none⟩ = some (.int .i64 g) ∧ X.cell? ⟨w.heap.size, 6, none⟩ = some (.int .i64 l) ∧ X.cell? ⟨w.heap.size, 7, none⟩ = some (.int .i64 s) ∧ X.cell? ⟨w.heap.size, 8, none⟩ = some (.int .i64 e) ∧ X.cell? ⟨w.heap.size, 9, none⟩ = some (.bool b1) ∧ X.cell? ⟨w.heap.size, 10, none⟩ = some (.bool b2) ∧ X.cell? ⟨w.heap.size, 11, none⟩ = some (.slice ta tn tc) ∧ X.cell? ⟨w.heap.size, 12, none⟩ = some (.int .i64 pins)) ∧ X.cell? ⟨bk, 0, none⟩ = some (.string key) ∧ X.cell? ⟨bk, 1, none⟩ = some (.int .i64 st) ∧ X.cell? ⟨bk, 2, none⟩ = some (.slice (some ⟨bx, 0, none⟩) hl hl) ∧ X.cell? ⟨bk, 3, none⟩ = some (.slice (some ⟨d4, 0, none⟩) bn bn) ∧ X.cell? ⟨bk, 4, none⟩ = some (.int .i64 t) ∧ X.cell? ⟨bk, 5, none⟩ = some (.int .i64 g) ∧ X.cell? ⟨bk, 6, none⟩ = some (.int .i64 l) ∧ X.cell? ⟨bk, 7, none⟩ = some (.int .i64 s) ∧ X.cell? ⟨bk, 8, none⟩ = some (.int .i64 e) ∧ X.cell? ⟨bk, 9, none⟩ = some (.bool b1) ∧ X.cell? ⟨bk, 10, none⟩ = some (.bool b2) ∧ X.cell? ⟨bk, 11, none⟩ = some (.slice (some ⟨f4, 0, none⟩) tn tn) ∧ X.cell? ⟨bk, 12, none⟩ = some (.int .i64 pins)) := fun X hb => ⟨⟨(HK.out X hb).2.1.c0, (HK.out X hb).2.1.c1, (HK.out X hb).2.1.c2, (HK.out X hb).2.1.c3, (HK.out X hb).2.1.c4, (HK.out X hb).2.1.c5, (HK.out X hb).2.1.c6, (HK.out X hb).2.1.c7, (HK.out X hb).2.1.c8, (HK.out X hb).2.1.c9, (HK.out X hb).2.1.c10, (HK.out X hb).2.1.c11, (HK.out X hb).2.1.c12⟩, (HK.out X hb).2.2.1.c0, (HK.out X hb).2.2.1.c1, (HK.out X hb).2.2.1.c2, (HK.out X hb).2.2.1.c3, (HK.out X hb).2.2.1.c4, (HK.out X hb).2.2.1.c5, (HK.out X hb).2.2.1.c6, (HK.out X hb).2.2.1.c7, (HK.out X hb).2.2.1.c8, (HK.out X hb).2.2.1.c9, (HK.out X hb).2.2.1.c10, (HK.out X hb).2.2.1.c11, (HK.out X hb).2.2.1.c12⟩
  go_region_held3 (fun X => (X.cell? ⟨w.heap.size, 0, none⟩ = some (.string key) ∧ X.cell? ⟨w.heap.size, 1, none⟩ = some (.int .i64 st) ∧ X.cell? ⟨w.heap.size, 2, none⟩ = some (.slice ha hl hc) ∧ X.cell? ⟨w.heap.size, 3, none⟩ = some (.slice ba bn bc) ∧ X.cell? ⟨w.heap.size, 4, none⟩ = some (.int .i64 t) ∧ X.cell? ⟨w.heap.size, 5, none⟩ = some (.int .i64 g) ∧ X.cell? ⟨w.heap.size, 6, none⟩ = some (.int .i64 l) ∧ X.cell? ⟨w.heap.size, 7, none⟩ = some (.int .i64 s) ∧ X.cell? ⟨w.heap.size, 8, none⟩ = some (.int .i64 e) ∧ X.cell? ⟨w.heap.size, 9, none⟩ = some (.bool b1) ∧ X.cell? ⟨w.heap.size, 10, none⟩ = some (.bool b2) ∧ X.cell? ⟨w.heap.size, 11, none⟩ = some (.slice ta tn tc) ∧ X.cell? ⟨w.heap.size, 12, none⟩ = some (.int .i64 pins)) ∧ X.cell? ⟨bk, 0, none⟩ = some (.string key) ∧ X.cell? ⟨bk, 1, none⟩ = some (.int .i64 st) ∧ X.cell? ⟨bk, 2, none⟩ = some (.slice (some ⟨bx, 0, none⟩) hl hl) ∧ X.cell? ⟨bk, 3, none⟩ = some (.slice (some ⟨d4, 0, none⟩) bn bn) ∧ X.cell? ⟨bk, 4, none⟩ = some (.int .i64 t) ∧ X.cell? ⟨bk, 5, none⟩ = some (.int .i64 g) ∧ X.cell? ⟨bk, 6, none⟩ = some (.int .i64 l) ∧ X.cell? ⟨bk, 7, none⟩ = some (.int .i64 s) ∧ X.cell? ⟨bk, 8, none⟩ = some (.int .i64 e) ∧ X.cell? ⟨bk, 9, none⟩ = some (.bool b1) ∧ X.cell? ⟨bk, 10, none⟩ = some (.bool b2) ∧ X.cell? ⟨bk, 11, none⟩ = some (.slice (some ⟨f4, 0, none⟩) tn tn) ∧ X.cell? ⟨bk, 12, none⟩ = some (.int .i64 pins))
    (first | exact HKS.out _ BB.out | exact HKS.out _ BA.out | exact HKS.out _ B0.out)
    (first
    | (go_at_call 10; refine (HT.out _ (HK.out _ B0.out).1).mono ?_; rintro e0 wa ⟨⟨da, fa, rfl, hma, hda, hfa, _, _⟩, hba⟩; have MA : Hid (QMine wa _ hs ∧ BMine wa da bs ∧ TMine wa fa ts) := ⟨hma, hda, hfa⟩; have BA : Hid (Below w5.heap.size w5 wa) := B0.out.trans (hba.mono B0.out.size); clear hba hma hda hfa)
    | (go_at_call 12; refine (HQ.out _ _ _ _ _ _ _ (HK.out _ BA.out).2.2.2.1 MA.out.1 (HK.out _ BA.out).2.2.2.2.1 MA.out.2.1 (HK.out _ BA.out).2.2.2.2.2 MA.out.2.2).mono ?_; rintro e0 wb ⟨rfl, hbb⟩; have BB : Hid (Below w5.heap.size w5 wb) := BA.out.trans (hbb.mono BA.out.size); clear hbb))
  all_goals (go_wp2_with fail; go_ret; exact ⟨rfl, (HK.out _ BB.out).1⟩)
end Go.Proofs.YtelbddgdaibolaaDoor
