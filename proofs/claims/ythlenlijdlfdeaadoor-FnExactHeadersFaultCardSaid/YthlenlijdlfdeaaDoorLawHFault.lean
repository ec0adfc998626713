/-
  The law of HeadersFault.
-/
import Derived.Test.YthlenlijdlfdeaaDoorHFaultImpl
import Derived.Test.YthlenlijdlfdeaaDoorHeadsSame
namespace Go.Proofs.YthlenlijdlfdeaaDoor
open Go.ChangeShapes Go.WideShapes Go.ChangeAt Go.RowKit
set_option maxRecDepth 100000 in
set_option maxHeartbeats 2000000 in
theorem lawHeadersFault (w : World) (a : Option Addr) (cap : Nat) (l : List Hdr) (hset : SetIs w) (hl : l.length ≤ maxLen) (hz : SmallHdrs l) (hi : HdsIn w a l) :
    Calls Tryd.prog 4 #[.slice a l.length cap] w fun e w' => e = .returned (.bool true) ∧ Below w.heap.size w w' := by
  have HZ := szHeaderS_any w a cap l hl hi hz 1048576 (by omega) (by omega)
  have HR : Hid (¬ szHL 1048576 l < 0 → (l.length : Int) ≤ 1048576 ∧ ∀ (i : Nat) r, l[i]? = some r → r.name.size ≤ 1048576 ∧ r.value.size ≤ 1048576) := szHL_room (by omega)
  have HI : Hid (HdsIn w a l) := hi
  have HS : Hid (SetIs w) := hset
  generalize szHL 1048576 l = z at *
  clear hz hi hl hset
  go_enter Tryd.func4, Tryd.ntmps4
  go_wp2_with fail
  refine HZ.mono ?_
  rintro e w1 ⟨rfl, hb1⟩
  clear HZ
  by_cases c : z < 0
  · go_wp2_with fail
    go_ret
    exact ⟨rfl, hb1⟩
  have hlen := (HR.out (by omega)).1
  have HT : Hid (∀ W, Below w.heap.size w W → Calls Tryd.prog 26 #[.slice a l.length cap] W fun e w' => e = .returned (.slice (some ⟨W.heap.size, 0, none⟩) l.length l.length) ∧ HeadsAt w' W.heap.size 0 l ∧ Below W.heap.size W w') := fun W hb => toHeaderS_any W a cap l (by omega) (HI.out.keep hb)
  have HF : Hid (∀ W b, HeadsAt W b 0 l → Calls Tryd.prog 17 #[.slice (some ⟨b, 0, none⟩) l.length l.length] W fun e w' => e = .returned (.int .i64 (headsC l)) ∧ Below W.heap.size W w') := fun W b h => specHFault_any W _ _ l (by omega) (.inr ⟨b, 0, rfl, h⟩)
  have HG : Hid (∀ W b, SetIs W → HeadsAt W b 0 l → Calls Tryd.prog 18 #[.slice (some ⟨b, 0, none⟩) l.length l.length] W fun e w' => e = .returned (.int .i64 (headsC l)) ∧ Below W.heap.size W w') := fun W b hs h => implHFault_any W _ _ l (by omega) hs (.inr ⟨b, 0, rfl, h⟩)
  have HE : Hid (∀ W b1 b2, HeadsAt W b1 0 l → HeadsAt W b2 0 l → Calls Tryd.prog 27 #[.slice (some ⟨b1, 0, none⟩) l.length l.length, .slice (some ⟨b2, 0, none⟩) l.length l.length] W fun e w' => e = .returned (.bool true) ∧ Below W.heap.size W w') := fun W b1 b2 h1 h2 => eqHeaderS_same W b1 0 b2 0 _ _ l (by omega) h1 h2
  clear HR HI
  generalize l.length = n at *
  generalize headsC l = fc at *
  have HB1 : Hid (Below w.heap.size w w1) := hb1
  clear hb1
  go_wp2_with fail
  refine (HT.out _ HB1.out).mono ?_
  rintro e w2 ⟨rfl, hat2, hb2⟩
  have HB2 : Hid (Below w.heap.size w w2) := HB1.out.trans (hb2.mono HB1.out.size)
  clear hb2 HB1
  go_wp2_with fail
  refine (HF.out _ _ hat2).mono ?_
  rintro e w3 ⟨rfl, hb3⟩
  have HB3 : Hid (Below w.heap.size w w3) := HB2.out.trans (hb3.mono HB2.out.size)
  clear hb3 HB2 hat2 HF
  go_wp2_with fail
  refine (HT.out _ HB3.out).mono ?_
  rintro e w4 ⟨rfl, hat4, hb4⟩
  have K4 : Hid (Below w.heap.size w w4 ∧ HeadsAt w4 w3.heap.size 0 l) := ⟨HB3.out.trans (hb4.mono HB3.out.size), hat4⟩
  clear hb4 HB3 hat4
  generalize w3.heap.size = B4 at *
  clear w3
  go_wp2_with fail
  refine (HG.out _ _ (HS.out.below K4.out.1) K4.out.2).mono ?_
  rintro e w5 ⟨rfl, hb5⟩
  have K6 : Hid (Below w.heap.size w w5 ∧ HeadsAt w5 B4 0 l) := ⟨K4.out.1.trans (hb5.mono K4.out.1.size), K4.out.2.keep hb5⟩
  clear K4 hb5 HG HS
  go_wp2_with fail
  refine (HT.out _ K6.out.1).mono ?_
  rintro e w7 ⟨rfl, hat7, hb7⟩
  have K7 : Hid (Below w.heap.size w w7 ∧ HeadsAt w7 B4 0 l) := ⟨K6.out.1.trans (hb7.mono K6.out.1.size), K6.out.2.keep hb7⟩
  clear hb7 K6
  go_wp2_with fail
  refine (HE.out _ _ _ K7.out.2 hat7).mono ?_
  rintro e w8 ⟨rfl, hb8⟩
  have KB : Hid (Below w.heap.size w w8) := K7.out.1.trans (hb8.mono K7.out.1.size)
  clear hb8 K7 hat7 HE HT
  go_wp2_with fail
  go_ret
  exact ⟨rfl, KB.out⟩
end Go.Proofs.YthlenlijdlfdeaaDoor
