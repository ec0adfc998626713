/-
  Texts of one claim, one behind the other.
-/
import Derived.Test.YtbandckkgdnlpaaDoorTgB
/-
  The law of TagsOf.
-/
namespace Go.Proofs.YtbandckkgdnlpaaDoor
open Go.ChangeShapes Go.WideShapes Go.ChangeAt Go.RowKit Go.Sort
set_option maxRecDepth 100000 in
set_option maxHeartbeats 16000000 in
theorem lawTagsOf (w : World) (a : Option Addr) (cap : Nat) (l : List Hdr) (hset : SetIs w) (hl : l.length ≤ maxLen) (hz : SmallHdrs l) (hi : HdsIn w a l) :
    Calls Tryd.prog 5 #[.slice a l.length cap] w fun e w' => e = .returned (.bool true) ∧ Below w.heap.size w w' := by
  have HZ := szHeaderS_any w a cap l hl hi hz 1048576 (by omega) (by omega)
  have HR : Hid (¬ szHL 1048576 l < 0 → (l.length : Int) ≤ 1048576 ∧ ∀ (i : Nat) r, l[i]? = some r → r.name.size ≤ 1048576 ∧ r.value.size ≤ 1048576) := szHL_room (by omega)
  have HI : Hid (HdsIn w a l) := hi
  have HSet : Hid (SetIs w) := hset
  have hL : (tagsR l).length ≤ 10 := tagsR_len l
  generalize szHL 1048576 l = z at *
  clear hz hi hl hset
  go_enter Tryd.func5, Tryd.ntmps5
  go_wp2_with fail
  refine HZ.mono ?_
  rintro e w1 ⟨rfl, hb1⟩
  clear HZ
  by_cases cz : z < 0
  · go_wp2_with fail
    go_ret
    exact ⟨rfl, hb1⟩
  have hlen := (HR.out (by omega)).1
  have HT : Hid (∀ W, Below w.heap.size w W → Calls Tryd.prog 8 #[.slice a l.length cap] W fun e w' => e = .returned (.slice (some ⟨W.heap.size, 0, none⟩) l.length l.length) ∧ HMine w' W.heap.size l ∧ Below W.heap.size W w') := fun W hb => (toHeaderS_free W a cap l (by omega) (HI.out.keep hb)).mono fun _ _ ⟨h1, h2, h3, h4, h5⟩ => ⟨h1, ⟨h2, h4, h3⟩, h5⟩
  have HS : Hid (∀ W b, HeadsAt W b 0 l → Calls Tryd.prog 17 #[.slice (some ⟨b, 0, none⟩) l.length l.length] W fun e w' => (∃ a n cap, e = .returned (.agg #[.int .i64 (tagsC l), .slice a n cap]) ∧ TGot (tagsR l) W.heap.size a n cap w') ∧ Below W.heap.size W w') := fun W b h => (specTags_any W _ _ l (by omega) (.inr ⟨b, 0, rfl, h⟩)).mono fun _ _ ⟨h1, h2⟩ => ⟨h1.got, h2⟩
  have HP : Hid (∀ W b, Below w.heap.size w W → HeadsAt W b 0 l → Calls Tryd.prog 18 #[.slice (some ⟨b, 0, none⟩) l.length l.length] W fun e w' => (∃ a n cap, e = .returned (.agg #[.int .i64 (tagsC l), .slice a n cap]) ∧ TGot (tagsR l) W.heap.size a n cap w') ∧ Below W.heap.size W w') := fun W b hb h => (implTags_any W _ _ l (by omega) (Nat.le_refl _) (HSet.out.below hb) (.inr ⟨b, 0, rfl, h⟩)).mono fun _ _ ⟨h1, h2⟩ => ⟨h1.got, h2⟩
  have HE : Hid (∀ W b1 b2, HeadsAt W b1 0 l → HeadsAt W b2 0 l → Calls Tryd.prog 11 #[.slice (some ⟨b1, 0, none⟩) l.length l.length, .slice (some ⟨b2, 0, none⟩) l.length l.length] W fun e w' => e = .returned (.bool true) ∧ Below W.heap.size W w') := fun W b1 b2 h1 h2 => eqHeaderS_same W b1 0 b2 0 _ _ l (by omega) h1 h2
  have HX : Hid (∀ W B base, HMine W B l → base ≤ B → ∃ q : Int, ¬ q < 0 ∧ Calls Tryd.prog 20 #[.slice (some ⟨B, 0, none⟩) l.length l.length, .int .i64 1] W fun e w' => e = .returned (.int .i64 q) ∧ HAV (.slice (some ⟨B, 0, none⟩) l.length l.length) W w' ∧ Below base W w') := fun W B base h hb => h.mark (by omega) hb
  clear HR HI HSet
  generalize l.length = n at *
  generalize tagsC l = c at *
  generalize tagsR l = L at *
  have HB1 : Hid (Below w.heap.size w w1) := hb1
  clear hb1
  go_wp2_with fail
  refine (HT.out _ HB1.out).mono ?_
  rintro e w2 ⟨rfl, hm2, hb2⟩
  have HB2 : Hid (Below w.heap.size w w2) := HB1.out.trans (hb2.mono HB1.out.size)
  clear hb2 HB1
  go_wp2_with fail
  refine (HS.out _ _ hm2.at0).mono ?_
  rintro e w3 ⟨⟨a1, n1, k1, rfl, g1⟩, hb3⟩
  have HB3 : Hid (Below w.heap.size w w3) := HB2.out.trans (hb3.mono HB2.out.size)
  clear hb3 HB2 hm2 HS
  obtain ⟨W3, hW3⟩ : ∃ W, W = w3.alloc (.cells #[.int .i64 c, .slice a1 n1 k1] 39) := ⟨_, rfl⟩
  have HW3 : Hid (W3 = w3.alloc (.cells #[.int .i64 c, .slice a1 n1 k1] 39)) := hW3
  have K3 : Hid (Below w.heap.size w W3 ∧ HHRoom W3 w3.heap.size c (.slice a1 n1 k1) ∧ TLV W3 (.slice a1 n1 k1) L ∧ (∀ b, (Value.slice a1 n1 k1).ownBlock = some b → b < w3.heap.size) ∧ w3.heap.size < W3.heap.size ∧ w.heap.size ≤ w3.heap.size) := by
    subst hW3
    exact ⟨HB3.out.alloc HB3.out.size _, hroom_new w3 c a1 n1 k1 _, g1.lv.below ((Below.refl _ _).alloc (Nat.le_refl _) _), g1.lv.block_lt, by simp, HB3.out.size⟩
  clear hW3 HB3 g1
  go_wp2_with fail
  rw [← HW3.out]
  clear HW3
  generalize w3.heap.size = X1 at *
  try clear w3
  refine (HT.out _ K3.out.1).mono ?_
  rintro e w4 ⟨rfl, hm4, hb4⟩
  have K4 : Hid (Below w.heap.size w w4 ∧ HHRoom w4 X1 c (.slice a1 n1 k1) ∧ TLV w4 (.slice a1 n1 k1) L ∧ HMine w4 W3.heap.size l) := ⟨K3.out.1.trans (hb4.mono K3.out.1.size), K3.out.2.1.keep hb4, K3.out.2.2.1.below hb4, hm4⟩
  have O1 : Hid ((∀ b, (Value.slice a1 n1 k1).ownBlock = some b → b < X1) ∧ X1 < W3.heap.size ∧ w.heap.size ≤ X1) := K3.out.2.2.2
  clear hb4 K3 hm4
  generalize W3.heap.size = BX at *
  clear W3
  go_wp2_with fail
  refine (HP.out _ _ K4.out.1 K4.out.2.2.2.at0).mono ?_
  rintro e w5 ⟨⟨a2, n2, k2, rfl, g2⟩, hb5⟩
  obtain ⟨i1, i2, i3, i4⟩ := K4.out
  have K5 : Hid (Below w.heap.size w w5 ∧ HHRoom w5 X1 c (.slice a1 n1 k1) ∧ TLV w5 (.slice a1 n1 k1) L ∧ TLV w5 (.slice a2 n2 k2) L ∧ HMine w5 BX l) := ⟨i1.trans (hb5.mono i1.size), i2.keep hb5, i3.below hb5, g2.lv, i4.keep hb5⟩
  have O2 : Hid ((∀ b, (Value.slice a2 n2 k2).ownBlock = some b → BX < b) ∧ (∀ b, (Value.slice a2 n2 k2).ownBlock = some b → b < w5.heap.size) ∧ n2 = L.length ∧ BX < w5.heap.size) := ⟨fun b hb => Nat.lt_of_lt_of_le i4.lt (g2.ge b hb), g2.lv.block_lt, g2.len, (i4.keep hb5).lt⟩
  clear hb5 g2 K4 i1 i2 i3 i4
  have p0 := K5.out.2.1.c0
  have p1 := K5.out.2.1.c1
  have hx : X1 < w5.heap.size := K5.out.2.1.lt
  have al5 : Below w5.heap.size w5 (w5.alloc (.cells #[.int .i64 c, .slice a2 n2 k2] 39)) := (Below.refl _ _).alloc (Nat.le_refl _) _
  have HQ := eqNamesResult_lv _ c a2 a1 n2 n1 k2 k1 L (by omega) (K5.out.2.2.2.1.below al5) (K5.out.2.2.1.below al5)
  have R2 : Hid (HHRoom (w5.alloc (.cells #[.int .i64 c, .slice a2 n2 k2] 39)) w5.heap.size c (.slice a2 n2 k2)) := hroom_new w5 c a2 n2 k2 _
  have A5 : Hid (Below w5.heap.size w5 (w5.alloc (.cells #[.int .i64 c, .slice a2 n2 k2] 39))) := al5
  clear al5
  go_wp2_with fail
  refine HQ.mono ?_
  rintro e w6 ⟨rfl, hb6⟩
  have A6 : Below w5.heap.size w5 w6 := A5.out.trans (hb6.mono A5.out.size)
  obtain ⟨i1, i2, i3, i4, i5⟩ := K5.out
  have K6 : Hid (TKK w X1 w5.heap.size c (.slice a1 n1 k1) (.slice a2 n2 k2) L L w6) := ⟨i1.trans (A6.mono i1.size), i2.keep A6, R2.out.keep hb6, i3.below A6, i4.below A6⟩
  have M6 : Hid (HMine w6 BX l) := i5.keep A6
  clear hb6 A6 A5 R2 K5 i1 i2 i3 i4 i5 HQ p0 p1 hx
  generalize w5.heap.size = X2 at *
  try clear w5
  go_wp2_with fail
  refine (HT.out _ K6.out.b).mono ?_
  rintro e w7 ⟨rfl, hm7, hb7⟩
  have K7 : Hid (TKK w X1 X2 c (.slice a1 n1 k1) (.slice a2 n2 k2) L L w7) := K6.out.keep hb7
  have M7 : Hid (HMine w7 BX l) := M6.out.keep hb7
  clear hb7 K6 M6
  go_wp2_with fail
  refine (HE.out _ _ _ M7.out.at0 hm7.at0).mono ?_
  rintro e w8 ⟨rfl, hb8⟩
  have K8 : Hid (TKK w X1 X2 c (.slice a1 n1 k1) (.slice a2 n2 k2) L L w8) := K7.out.keep hb8
  have M8 : Hid (HMine w8 BX l) := M7.out.keep hb8
  clear hb8 K7 M7 hm7 HE
  try clear w6
  obtain ⟨qx, hqx, HMC⟩ := HX.out w8 BX w.heap.size M8.out (by have := O1.out; omega)
  clear HX
  go_wp2_with fail
  refine HMC.mono ?_
  rintro e w9 ⟨rfl, hav9, hb9⟩
  have K9 : Hid (TKK w X1 X2 c (.slice a1 n1 k1) (.slice a2 n2 k2) L L w9) := K8.out.av hav9 hb9 (fun e => by simp only [Value.ownBlock, Option.some.injEq] at e; have := O1.out; omega) (fun e => by simp only [Value.ownBlock, Option.some.injEq] at e; have := O2.out.2.2.2; omega) (fun b hb e => by simp only [Value.ownBlock, Option.some.injEq] at e; have := O1.out.1 b hb; have := O1.out.2.1; omega) (fun b hb e => by simp only [Value.ownBlock, Option.some.injEq] at e; have := O2.out.1 b hb; omega)
  clear hav9 hb9 HMC K8 M8
  try clear w7
  try clear w8
  have hqd : decide (qx < 0) = false := by simpa using hqx
  have p0 := K9.out.r1.c0
  have p1 := K9.out.r1.c1
  have q0 := K9.out.r2.c0
  have q1 := K9.out.r2.c1
  have HQ := eqNamesResult_lv w9 c a2 a1 n2 n1 k2 k1 L (by omega) K9.out.l2 K9.out.l1
  go_wp2_with fail
  refine HQ.mono ?_
  rintro e w10 ⟨rfl, hb10⟩
  have K10 : Hid (TKK w X1 X2 c (.slice a1 n1 k1) (.slice a2 n2 k2) L L w10) := K9.out.keep hb10
  clear hb10 HQ K9 p0 p1 q0 q1
  try clear w9
  have q0 := K10.out.r2.c0
  have q1 := K10.out.r2.c1
  have HMK := markNamesResult_lv w10 c a2 n2 k2 L O2.out.2.2.1 (by omega) K10.out.l2 w.heap.size (fun b hb => by have := O2.out.1 b hb; have := O1.out; omega) K10.out.b.size
  go_wp2_with fail
  refine HMK.mono ?_
  rintro e w11 ⟨rfl, hk11⟩
  obtain ⟨hlv11, hav11, hb11⟩ := hk11
  have K11 : Hid (TKK w X1 X2 c (.slice a1 n1 k1) (.slice a2 n2 k2) L (mkTL 1 n2) w11) := ⟨K10.out.b.trans hb11, K10.out.r1.av hav11 (fun e => by have := O2.out.1 _ e; have := O1.out; omega), K10.out.r2.av hav11 (fun e => by have := O2.out.2.1 _ e; omega), K10.out.l1.av hav11 (fun b hb e => by have := O2.out.1 _ e; have := O1.out.1 b hb; have := O1.out; omega), hlv11⟩
  have hn2 : n2 ≤ 1000 := by rw [O2.out.2.2.1]; omega
  clear hlv11 hav11 hb11 HMK K10 q0 q1
  try clear w10
  have HHD : Hid (∀ W, TLV W (.slice a2 n2 k2) (mkTL 1 n2) → Calls Tryd.prog 22 #[.agg #[.int .i64 c, .slice a2 n2 k2], .int .i64 1] W fun e w' => e = .returned (.int .i64 ((1 + n2 : Nat) : Int)) ∧ Below W.heap.size W w') := fun W h => heldNamesResult_lv W c a2 n2 k2 hn2 h
  have hq0 : ¬ ((1 + n2 : Nat) : Int) < 0 := by omega
  generalize ((1 + n2 : Nat) : Int) = q at *
  have q0 := K11.out.r2.c0
  have q1 := K11.out.r2.c1
  go_wp2_with fail
  refine (HHD.out _ K11.out.l2).mono ?_
  rintro e w12 ⟨rfl, hb12⟩
  have K12 : Hid (TKK w X1 X2 c (.slice a1 n1 k1) (.slice a2 n2 k2) L (mkTL 1 n2) w12) := K11.out.keep hb12
  clear hb12 K11 q0 q1
  try clear w11
  go_wp2_with fail
  refine (HT.out _ K12.out.b).mono ?_
  rintro e w13 ⟨rfl, hm13, hb13⟩
  have K13 : Hid (TKK w X1 X2 c (.slice a1 n1 k1) (.slice a2 n2 k2) L (mkTL 1 n2) w13) := K12.out.keep hb13
  clear hb13 K12 HT
  go_wp2_with fail
  refine (HP.out _ _ K13.out.b hm13.at0).mono ?_
  rintro e w14 ⟨⟨a3, n3, k3, rfl, g3⟩, hb14⟩
  have K14 : Hid (TKK w X1 X2 c (.slice a1 n1 k1) (.slice a2 n2 k2) L (mkTL 1 n2) w14) := K13.out.keep hb14
  have V3 : Hid (TLV w14 (.slice a3 n3 k3) L) := g3.lv
  clear hb14 g3 K13 HP hm13
  try clear w12
  try clear w13
  have hx1 : X1 < w14.heap.size := K14.out.r1.lt
  have hx2 : X2 < w14.heap.size := K14.out.r2.lt
  have al14 : Below w14.heap.size w14 (w14.alloc (.cells #[.int .i64 c, .slice a3 n3 k3] 39)) := (Below.refl _ _).alloc (Nat.le_refl _) _
  have HQ := eqNamesResult_lv _ c a3 a1 n3 n1 k3 k1 L (by omega) (V3.out.below al14) (K14.out.l1.below al14)
  have A14 : Hid (Below w14.heap.size w14 (w14.alloc (.cells #[.int .i64 c, .slice a3 n3 k3] 39))) := al14
  clear al14
  have p0 := K14.out.r1.c0
  have p1 := K14.out.r1.c1
  go_wp2_with fail
  refine HQ.mono ?_
  rintro e w15 ⟨rfl, hb15⟩
  have K15 : Hid (TKK w X1 X2 c (.slice a1 n1 k1) (.slice a2 n2 k2) L (mkTL 1 n2) w15) := K14.out.keep (A14.out.trans (hb15.mono A14.out.size))
  clear hb15 A14 HQ K14 V3 p0 p1 hx1 hx2
  generalize w14.heap.size = X3 at *
  try clear w14
  have q0 := K15.out.r2.c0
  have q1 := K15.out.r2.c1
  go_wp2_with fail
  refine (HHD.out _ K15.out.l2).mono ?_
  rintro e w16 ⟨rfl, hb16⟩
  have B16 : Hid (Below w.heap.size w w16) := K15.out.b.trans (hb16.mono K15.out.b.size)
  clear hb16 K15 q0 q1
  go_wp2_with fail
  go_ret
  exact ⟨rfl, B16.out⟩
end Go.Proofs.YtbandckkgdnlpaaDoor
/-
  Head lines that came in, opened.
-/
namespace Go.Proofs.YtbandckkgdnlpaaDoor
open Go.ChangeShapes Go.WideShapes Go.ChangeAt Go.RowKit Go.Deep
theorem headerCells : Tryd.prog.cellsOf 46 = 2 := by kernel_rfl
theorem hOneS : Tryd.prog.cellsOf 9 = 1 := by kernel_rfl
theorem hdr_of {H : Type} {enc : TypeId × Value → H} {w : World} {base : Nat} {spare : Nat → Bool} {held : Bool} {fuel : Nat} {cs : List Value} {x : DataW H × List MemPlace}
    (h : DataW.trod enc Tryd.prog w base spare held fuel 46 cs = some x) : ∃ r : Hdr, cs = [.string r.name, .string r.value] ∧ r.name.size ≤ maxLen ∧ r.value.size ≤ maxLen := by
  obtain ⟨y0, y1, n, _, hl, h0, h2⟩ := trod_struct2 Tryd.underlying46 h
  rw [headerCells] at hl
  simp only [hOneS] at h0 h2
  obtain ⟨s0, e0, _, z0⟩ := DataW.trod_string Tryd.underlying9 h0
  obtain ⟨s2, e2, _, z2⟩ := DataW.trod_string Tryd.underlying9 h2
  match cs, hl with
  | [c0, c2], _ =>
    simp only [List.drop_zero, List.take_succ_cons, List.take_zero, List.drop_succ_cons, List.cons.injEq, and_true] at e0 e2
    exact ⟨⟨s0, s2⟩, by rw [e0, e2], z0, z2⟩
theorem open_headers {H : Type} {enc : TypeId × Value → H} {w : World} {base : Nat} {spare : Nat → Bool} {held : Bool} {fuel : Nat} {a : Option Addr} {len cap : Nat} {x : DataW H × List MemPlace}
    (h : DataW.trod enc Tryd.prog w base spare held fuel 22 [.slice a len cap] = some x) :
    ∃ l : List Hdr, l.length = len ∧ len ≤ maxLen ∧ SmallHdrs l ∧ (l = [] ∨ ∃ b off, a = some ⟨b, off, none⟩ ∧ HeadsAt w b off l) := by
  rcases open_slice Tryd.underlying22 h with ⟨hcs, _⟩ | ⟨A, len', cap', m, n, D, Pl, hcs, _, hl, hm, hmm, _, hel⟩
  · simp only [List.cons.injEq, Value.slice.injEq, and_true] at hcs
    obtain ⟨_, rfl, _⟩ := hcs
    exact ⟨[], rfl, by unfold maxLen; omega, fun i r hr => by simp at hr, .inl rfl⟩
  · simp only [List.cons.injEq, Value.slice.injEq, and_true] at hcs
    obtain ⟨rfl, rfl, rfl⟩ := hcs
    have hlm : len ≤ m := by rw [hmm]; split <;> omega
    have hrec : ∀ i, i < len → ∃ r : Hdr, w.cells? base (A.add (i * 2)) 2 = some [.string r.name, .string r.value] ∧ r.name.size ≤ maxLen ∧ r.value.size ≤ maxLen := by
      intro i hi
      obtain ⟨cs', hc, ht⟩ := hel i (by omega)
      rw [headerCells] at hc
      obtain ⟨r, rfl, z⟩ := hdr_of ht
      exact ⟨r, hc, z⟩
    obtain ⟨f, hf⟩ : ∃ f : Nat → Hdr, ∀ i, i < len → w.cells? base (A.add (i * 2)) 2 = some [.string (f i).name, .string (f i).value] ∧ (f i).name.size ≤ maxLen ∧ (f i).value.size ≤ maxLen := by
      classical
      refine ⟨fun i => if hi : i < len then (hrec i hi).choose else ⟨.empty, .empty⟩, fun i hi => ?_⟩
      simp only [dif_pos hi]
      exact (hrec i hi).choose_spec
    refine ⟨(List.range len).map f, by simp, by omega, ?_, ?_⟩
    · intro i r hr
      rw [List.getElem?_map] at hr
      obtain ⟨j, hj, rfl⟩ := Option.map_eq_some_iff.1 hr
      obtain ⟨hlt, rfl⟩ := List.getElem?_eq_some_iff.1 hj
      simp at hlt
      simpa using (hf i hlt).2
    · by_cases h0 : len = 0
      · subst h0; exact .inl rfl
      · obtain ⟨b, off, spot⟩ := A
        have cells : ∀ i, i < len → ∀ j, j < 2 → w.cell? ((⟨b, off, spot⟩ : Addr).add (i * 2 + j)) = ([.string (f i).name, .string (f i).value] : List Value)[j]? := by
          intro i hi j hj
          have c := (World.cells?_some (hf i hi).1).2.2 j hj
          rw [add_add] at c
          exact c
        have hs : spot = none := by
          have c := cells 0 (by omega) 0 (by omega)
          simp only [Nat.zero_mul, Nat.add_zero, List.getElem?_cons_zero] at c
          simpa [Addr.add] using World.cell?_spot c
        subst hs
        have hadd : ∀ i, (⟨b, off, none⟩ : Addr).add i = ⟨b, off + i, none⟩ := fun i => by unfold Addr.add; split <;> simp_all
        refine .inr ⟨b, off, rfl, fun i r hr => ?_⟩
        rw [List.getElem?_map] at hr
        obtain ⟨j, hj, rfl⟩ := Option.map_eq_some_iff.1 hr
        obtain ⟨hlt, rfl⟩ := List.getElem?_eq_some_iff.1 hj
        simp only [List.length_range] at hlt
        simp only [List.getElem_range]
        have q0 := cells i hlt 0 (by omega)
        have q1 := cells i hlt 1 (by omega)
        rw [hadd] at q0 q1
        exact ⟨by simpa using q0, by simpa [Nat.add_assoc] using q1⟩
end Go.Proofs.YtbandckkgdnlpaaDoor
