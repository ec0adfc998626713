/-
  The law of SameHeaders.
-/
import Derived.Test.YthlenlijdlfdeaaSameHFns
namespace Go.Proofs.Ythlenlijdlfdeaa
open Go.ChangeShapes Go.WideShapes Go.ChangeAt Go.RowKit
set_option maxRecDepth 100000 in
set_option maxHeartbeats 2000000 in
theorem lawSameHeaders (w : World) (a : Option Addr) (cap : Nat) (l : List Hdr) (b : Option Addr) (cbp : Nat) (m : List Hdr) (hl : l.length ≤ maxLen) (hz : SmallHdrs l) (hi : HdsIn w a l) (hl2 : m.length ≤ maxLen) (hz2 : SmallHdrs m) (hi2 : HdsIn w b m) :
    Calls Try.prog 3 #[.slice a l.length cap, .slice b m.length cbp] w fun e w' => e = .returned (.bool true) ∧ Below w.heap.size w w' := by
  have HZ := szHeaderS_any w a cap l hl hi hz 1048576 (by omega) (by omega)
  have HR : Hid (¬ szHL 1048576 l < 0 → (l.length : Int) ≤ 1048576 ∧ ∀ (i : Nat) r, l[i]? = some r → r.name.size ≤ 1048576 ∧ r.value.size ≤ 1048576) := szHL_room (by omega)
  have HL : Hid (¬ szHL 1048576 l < 0 → szHL 1048576 l ≤ 1048576) := szHL_le
  have HY : Hid (∀ W, Below w.heap.size w W → ∀ z : Int, 0 ≤ z → z ≤ 1048576 → Calls Try.prog 4 #[.slice b m.length cbp, .int .i64 z] W fun e w' => e = .returned (.int .i64 (szHL z m)) ∧ Below W.heap.size W w') := fun W hb z h0 h1 => szHeaderS_any W b cbp m hl2 (hi2.keep hb) hz2 z h0 h1
  have HR2 : Hid (∀ z : Int, z ≤ 1048576 → ¬ szHL z m < 0 → (m.length : Int) ≤ 1048576) := fun z hz h => (szHL_room hz h).1
  have HI : Hid (HdsIn w a l) := hi
  have HI2 : Hid (HdsIn w b m) := hi2
  generalize szHL 1048576 l = z at *
  clear hz hi hl hz2 hi2 hl2
  go_enter Try.func3, Try.ntmps3
  go_wp2_with fail
  refine HZ.mono ?_
  rintro e w1 ⟨rfl, hb1⟩
  clear HZ
  by_cases c : z < 0
  · go_wp2_with fail
    go_ret
    exact ⟨rfl, hb1⟩
  have hlen := (HR.out (by omega)).1
  have hzl := HL.out (by omega)
  have HB1 : Hid (Below w.heap.size w w1) := hb1
  clear hb1 HR HL
  go_wp2_with fail
  refine (HY.out _ HB1.out z (by omega) hzl).mono ?_
  rintro e w2 ⟨rfl, hb2⟩
  have HB2 : Hid (Below w.heap.size w w2) := HB1.out.trans (hb2.mono HB1.out.size)
  have HR3 := HR2.out z hzl
  generalize szHL z m = z2 at *
  clear hb2 HB1 HR2 HY
  by_cases c2 : z2 < 0
  · go_wp2_with fail
    go_ret
    exact ⟨rfl, HB2.out⟩
  have hlen2 := HR3 (by omega)
  have HT : Hid (∀ W, Below w.heap.size w W → Calls Try.prog 6 #[.slice a l.length cap] W fun e w' => e = .returned (.slice (some ⟨W.heap.size, 0, none⟩) l.length l.length) ∧ HeadsAt w' W.heap.size 0 l ∧ Below W.heap.size W w') := fun W hb => toHeaderS_any W a cap l (by omega) (HI.out.keep hb)
  have HT2 : Hid (∀ W, Below w.heap.size w W → Calls Try.prog 6 #[.slice b m.length cbp] W fun e w' => e = .returned (.slice (some ⟨W.heap.size, 0, none⟩) m.length m.length) ∧ HeadsAt w' W.heap.size 0 m ∧ Below W.heap.size W w') := fun W hb => toHeaderS_any W b cbp m (by omega) (HI2.out.keep hb)
  have HF : Hid (∀ W b1 b2, HeadsAt W b1 0 l → HeadsAt W b2 0 m → Calls Try.prog 5 #[.slice (some ⟨b1, 0, none⟩) l.length l.length, .slice (some ⟨b2, 0, none⟩) m.length m.length] W fun e w' => e = .returned (.bool (sameHs l m)) ∧ Below W.heap.size W w') := fun W b1 b2 h1 h2 => specSameH_any W _ _ _ _ l m (by omega) (.inr ⟨b1, 0, rfl, h1⟩) (.inr ⟨b2, 0, rfl, h2⟩)
  have HG : Hid (∀ W b1 b2, HeadsAt W b1 0 l → HeadsAt W b2 0 m → Calls Try.prog 7 #[.slice (some ⟨b1, 0, none⟩) l.length l.length, .slice (some ⟨b2, 0, none⟩) m.length m.length] W fun e w' => e = .returned (.bool (sameHs l m)) ∧ Below W.heap.size W w') := fun W b1 b2 h1 h2 => implSameH_any W _ _ _ _ l m (by omega) (.inr ⟨b1, 0, rfl, h1⟩) (.inr ⟨b2, 0, rfl, h2⟩)
  have HE : Hid (∀ W b1 b2, HeadsAt W b1 0 l → HeadsAt W b2 0 l → Calls Try.prog 8 #[.slice (some ⟨b1, 0, none⟩) l.length l.length, .slice (some ⟨b2, 0, none⟩) l.length l.length] W fun e w' => e = .returned (.bool true) ∧ Below W.heap.size W w') := fun W b1 b2 h1 h2 => eqHeaderS_same W b1 0 b2 0 _ _ l (by omega) h1 h2
  have HE2 : Hid (∀ W b1 b2, HeadsAt W b1 0 m → HeadsAt W b2 0 m → Calls Try.prog 8 #[.slice (some ⟨b1, 0, none⟩) m.length m.length, .slice (some ⟨b2, 0, none⟩) m.length m.length] W fun e w' => e = .returned (.bool true) ∧ Below W.heap.size W w') := fun W b1 b2 h1 h2 => eqHeaderS_same W b1 0 b2 0 _ _ m (by omega) h1 h2
  clear HI HI2 HR3
  generalize l.length = n at *
  generalize m.length = n2 at *
  generalize sameHs l m = f at *
  go_wp2_with fail
  refine (HT.out _ HB2.out).mono ?_
  rintro e w3 ⟨rfl, hat3, hb3⟩
  have HB3 : Hid (Below w.heap.size w w3) := HB2.out.trans (hb3.mono HB2.out.size)
  clear hb3 HB2
  generalize w2.heap.size = B2 at *
  clear w2
  go_wp2_with fail
  refine (HT2.out _ HB3.out).mono ?_
  rintro e w4 ⟨rfl, hat4, hb4⟩
  have K4 : Hid (Below w.heap.size w w4 ∧ HeadsAt w4 B2 0 l ∧ HeadsAt w4 w3.heap.size 0 m) := ⟨HB3.out.trans (hb4.mono HB3.out.size), hat3.keep hb4, hat4⟩
  clear hb4 HB3 hat3 hat4
  generalize w3.heap.size = B3 at *
  clear w3
  go_wp2_with fail
  refine (HF.out _ _ _ K4.out.2.1 K4.out.2.2).mono ?_
  rintro e w5 ⟨rfl, hb5⟩
  have HB5 : Hid (Below w.heap.size w w5) := K4.out.1.trans (hb5.mono K4.out.1.size)
  clear hb5 K4 HF
  go_wp2_with fail
  refine (HT.out _ HB5.out).mono ?_
  rintro e w6 ⟨rfl, hat6, hb6⟩
  have HB6 : Hid (Below w.heap.size w w6) := HB5.out.trans (hb6.mono HB5.out.size)
  clear hb6 HB5
  generalize w5.heap.size = B5 at *
  clear w5
  go_wp2_with fail
  refine (HT2.out _ HB6.out).mono ?_
  rintro e w7 ⟨rfl, hat7, hb7⟩
  have K7 : Hid (Below w.heap.size w w7 ∧ HeadsAt w7 B5 0 l ∧ HeadsAt w7 w6.heap.size 0 m) := ⟨HB6.out.trans (hb7.mono HB6.out.size), hat6.keep hb7, hat7⟩
  clear hb7 HB6 hat6 hat7
  generalize w6.heap.size = B6 at *
  clear w6
  go_wp2_with fail
  refine (HG.out _ _ _ K7.out.2.1 K7.out.2.2).mono ?_
  rintro e w8 ⟨rfl, hb8⟩
  have K8 : Hid (Below w.heap.size w w8 ∧ HeadsAt w8 B5 0 l ∧ HeadsAt w8 B6 0 m) := ⟨K7.out.1.trans (hb8.mono K7.out.1.size), K7.out.2.1.keep hb8, K7.out.2.2.keep hb8⟩
  clear hb8 K7 HG
  go_wp2_with fail
  refine (HT.out _ K8.out.1).mono ?_
  rintro e w9 ⟨rfl, hat9, hb9⟩
  have K9 : Hid (Below w.heap.size w w9 ∧ HeadsAt w9 B5 0 l ∧ HeadsAt w9 B6 0 m) := ⟨K8.out.1.trans (hb9.mono K8.out.1.size), K8.out.2.1.keep hb9, K8.out.2.2.keep hb9⟩
  clear hb9 K8
  go_wp2_with fail
  refine (HE.out _ _ _ K9.out.2.1 hat9).mono ?_
  rintro e w10 ⟨rfl, hb10⟩
  have K10 : Hid (Below w.heap.size w w10 ∧ HeadsAt w10 B6 0 m) := ⟨K9.out.1.trans (hb10.mono K9.out.1.size), K9.out.2.2.keep hb10⟩
  clear hb10 K9 hat9 HE HT
  go_wp2_with fail
  refine (HT2.out _ K10.out.1).mono ?_
  rintro e w11 ⟨rfl, hat11, hb11⟩
  have K11 : Hid (Below w.heap.size w w11 ∧ HeadsAt w11 B6 0 m) := ⟨K10.out.1.trans (hb11.mono K10.out.1.size), K10.out.2.keep hb11⟩
  clear hb11 K10
  go_wp2_with fail
  refine (HE2.out _ _ _ K11.out.2 hat11).mono ?_
  rintro e w12 ⟨rfl, hb12⟩
  have KB : Hid (Below w.heap.size w w12) := K11.out.1.trans (hb12.mono K11.out.1.size)
  clear hb12 K11 hat11 HE2 HT2
  go_wp2_with fail
  go_ret
  exact ⟨rfl, KB.out⟩
end Go.Proofs.Ythlenlijdlfdeaa
