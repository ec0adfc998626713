/-
  The law of EtagOf.
-/
import Derived.Test.YtbandckkgdnlpaaDoorHeadsSame
import Derived.Test.YtbandckkgdnlpaaDoorHFirst
import Derived.Test.YtbandckkgdnlpaaDoorEqText
namespace Go.Proofs.YtbandckkgdnlpaaDoor
open Go.ChangeShapes Go.WideShapes Go.ChangeAt Go.RowKit
set_option maxRecDepth 100000 in
set_option maxHeartbeats 2000000 in
theorem lawEtagOf (w : World) (a : Option Addr) (cap : Nat) (l : List Hdr) (hset : SetIs w) (hl : l.length ≤ maxLen) (hz : SmallHdrs l) (hi : HdsIn w a l) :
    Calls Tryd.prog 3 #[.slice a l.length cap] w fun e w' => e = .returned (.bool true) ∧ Below w.heap.size w w' := by
  have HZ := szHeaderS_any w a cap l hl hi hz 1048576 (by omega) (by omega)
  have HR : Hid (¬ szHL 1048576 l < 0 → (l.length : Int) ≤ 1048576 ∧ ∀ (i : Nat) r, l[i]? = some r → r.name.size ≤ 1048576 ∧ r.value.size ≤ 1048576) := szHL_room (by omega)
  have HI : Hid (HdsIn w a l) := hi
  have HS : Hid (SetIs w) := hset
  generalize szHL 1048576 l = z at *
  clear hz hi hl hset
  go_enter Tryd.func3, Tryd.ntmps3
  go_wp2_with fail
  refine HZ.mono ?_
  rintro e w1 ⟨rfl, hb1⟩
  clear HZ
  by_cases c : z < 0
  · go_wp2_with fail
    go_ret
    exact ⟨rfl, hb1⟩
  obtain ⟨hlen, hsm⟩ := HR.out (by omega)
  have HT : Hid (∀ W, Below w.heap.size w W → Calls Tryd.prog 8 #[.slice a l.length cap] W fun e w' => e = .returned (.slice (some ⟨W.heap.size, 0, none⟩) l.length l.length) ∧ HeadsAt w' W.heap.size 0 l ∧ Below W.heap.size W w') := fun W hb => toHeaderS_any W a cap l (by omega) (HI.out.keep hb)
  have HF : Hid (∀ W b, HeadsAt W b 0 l → Calls Tryd.prog 7 #[.slice (some ⟨b, 0, none⟩) l.length l.length] W fun e w' => e = .returned (.agg #[.int .i64 (etagC l), .string (etagT l)]) ∧ Below W.heap.size W w') := fun W b h => specEtag_any W _ _ l (by omega) (.inr ⟨b, 0, rfl, h⟩)
  have HG : Hid (∀ W b, SetIs W → HeadsAt W b 0 l → Calls Tryd.prog 9 #[.slice (some ⟨b, 0, none⟩) l.length l.length] W fun e w' => e = .returned (.agg #[.int .i64 (etagC l), .string (etagT l)]) ∧ Below W.heap.size W w') := fun W b hs h => implEtag_any W _ _ l (by omega) hs (.inr ⟨b, 0, rfl, h⟩)
  have HE : Hid (∀ W b1 b2, HeadsAt W b1 0 l → HeadsAt W b2 0 l → Calls Tryd.prog 11 #[.slice (some ⟨b1, 0, none⟩) l.length l.length, .slice (some ⟨b2, 0, none⟩) l.length l.length] W fun e w' => e = .returned (.bool true) ∧ Below W.heap.size W w') := fun W b1 b2 h1 h2 => eqHeaderS_same W b1 0 b2 0 _ _ l (by omega) h1 h2
  clear HR hsm HI
  generalize l.length = n at *
  generalize etagC l = fc at *
  generalize etagT l = fv at *
  have HB1 : Hid (Below w.heap.size w w1) := hb1
  clear hb1
  go_wp2_with fail
  refine (HT.out _ HB1.out).mono ?_
  rintro e w2 ⟨rfl, hat2, hb2⟩
  have HB2 : Hid (Below w.heap.size w w2) := HB1.out.trans (hb2.mono HB1.out.size)
  clear hb2 HB1
  go_wp2_with fail
  refine (HF.out _ _ hat2).mono ?_
  rintro e w3 ⟨rfl, hb3⟩
  have HB3 : Hid (Below w.heap.size w w3) := HB2.out.trans (hb3.mono HB2.out.size)
  clear hb3 HB2 hat2 HF
  obtain ⟨W3, hW3⟩ : ∃ W, W = w3.alloc (.cells #[.int .i64 fc, .string fv] 25) := ⟨_, rfl⟩
  have HW3 : Hid (W3 = w3.alloc (.cells #[.int .i64 fc, .string fv] 25)) := hW3
  have K3 : Hid (Below w.heap.size w W3 ∧ W3.cell? ⟨w3.heap.size, 0, none⟩ = some (.int .i64 fc) ∧ W3.cell? ⟨w3.heap.size, 1, none⟩ = some (.string fv)) := by
    subst hW3
    exact ⟨HB3.out.alloc HB3.out.size _, by simp, by simp⟩
  clear hW3 HB3
  go_wp2_with fail
  rw [← HW3.out]
  clear HW3
  generalize w3.heap.size = B3 at *
  clear w3
  refine (HT.out _ K3.out.1).mono ?_
  rintro e w4 ⟨rfl, hat4, hb4⟩
  have K4 : Hid (Below w.heap.size w w4 ∧ w4.cell? ⟨B3, 0, none⟩ = some (.int .i64 fc) ∧ w4.cell? ⟨B3, 1, none⟩ = some (.string fv) ∧ HeadsAt w4 W3.heap.size 0 l) := ⟨K3.out.1.trans (hb4.mono K3.out.1.size), f_keep hb4 K3.out.2.1, f_keep hb4 K3.out.2.2, hat4⟩
  clear hb4 K3 hat4
  generalize W3.heap.size = B4 at *
  clear W3
  go_wp2_with fail
  refine (HG.out _ _ (HS.out.below K4.out.1) K4.out.2.2.2).mono ?_
  rintro e w5 ⟨rfl, hb5⟩
  obtain ⟨k1, k2, k3, k4⟩ := K4.out
  have b5 := k1.trans (hb5.mono k1.size)
  have d0 := f_keep hb5 k2
  have d1 := f_keep hb5 k3
  have hlt := block_lt_of_cell d0
  simp only at hlt
  have K5 : Hid (Below w.heap.size w (w5.alloc (.cells #[.int .i64 fc, .string fv] 25)) ∧ HeadsAt (w5.alloc (.cells #[.int .i64 fc, .string fv] 25)) B4 0 l) :=
    ⟨b5.alloc b5.size _, (k4.keep hb5).keep ((Below.refl _ _).alloc (Nat.le_refl _) _)⟩
  clear K4 hb5 HG HS k1 k2 k3 k4 b5
  go_wp2_with fail
  refine (eqText_same fc fv _).mono ?_
  rintro e w6 ⟨rfl, hb6⟩
  have K6 : Hid (Below w.heap.size w w6 ∧ HeadsAt w6 B4 0 l) := ⟨K5.out.1.trans (hb6.mono K5.out.1.size), K5.out.2.keep hb6⟩
  clear hb6 K5 d0 d1 hlt
  go_wp2_with fail
  refine (HT.out _ K6.out.1).mono ?_
  rintro e w7 ⟨rfl, hat7, hb7⟩
  have K7 : Hid (Below w.heap.size w w7 ∧ HeadsAt w7 B4 0 l) := ⟨K6.out.1.trans (hb7.mono K6.out.1.size), K6.out.2.keep hb7⟩
  clear hb7 K6
  go_wp2_with fail
  refine (HE.out _ _ _ K7.out.2 hat7).mono ?_
  rintro e w8 ⟨rfl, hb8⟩
  have KB : Hid (Below w.heap.size w w8) := K7.out.1.trans (hb8.mono K7.out.1.size)
  clear hb8 K7 hat7 HE HT
  go_wp2_with fail
  go_ret
  exact ⟨rfl, KB.out⟩
end Go.Proofs.YtbandckkgdnlpaaDoor
