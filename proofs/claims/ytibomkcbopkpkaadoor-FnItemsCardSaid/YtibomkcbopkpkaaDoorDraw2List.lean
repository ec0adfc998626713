/-
  The draw of a list for ItemsText.
-/
import Derived.Test.YtibomkcbopkpkaaDoorDraw2Items
namespace Go.Proofs.YtibomkcbopkpkaaDoor
open Go.ChangeShapes Go.WideShapes Go.ChangeAt Go.RowKit
set_option maxRecDepth 100000 in
set_option maxHeartbeats 4000000 in
theorem drawItemsText_any (w : World) (a : Option Addr) (len cap : Nat) (hc : CodeRow w w.heap.size a len) (hl2 : len ≤ 1048576) :
    Calls Tryd.prog 27 #[.slice a len cap] w fun e w' => SomeList w.heap.size 23 e w' ∧ Below w.heap.size w w' := by
  have HC : Hid (∀ W, Below w.heap.size w W → CodeRow W W.heap.size a len) := fun W hb => (hc.below hb).mono hb.size
  clear hc
  go_enter Tryd.func27, Tryd.ntmps27
  go_wp2_with fail
  refine (l1Source_any w a len cap (HC.out _ (Below.refl _ _))).mono ?_
  rintro e w1 ⟨rfl, hs1, hb1⟩
  have HS1 : Hid (Src w1 w.heap.size a len cap 0) := hs1
  have HB1 : Hid (Below w.heap.size w w1) := hb1
  have hlt := hs1.lt
  clear hs1 hb1
  go_wp2_with fail
  refine (drawItems_any w1 w.heap.size a len cap 0 HS1.out (by omega) hl2).mono ?_
  rintro e w2 ⟨⟨v2, L, rfl, ho2, hL2, hr2⟩, ⟨k2, hk2, hs2⟩, hb2, ha2⟩
  obtain ⟨va, vc, rfl, hin2⟩ := ho2.at
  have HO2 : Hid (OwnI w2 w1.heap.size (.slice va L.length vc) L) := ho2
  have HR2 : Hid (SmallR L) := hr2
  have HS2 : Hid (Src w2 w.heap.size a len cap k2) := hs2
  have HB2 : Hid (Below w.heap.size w w2) := HB1.out.trans hb2
  have HX2 : Hid (w1.heap.size ≤ w2.heap.size) := ha2.size
  clear ho2 hr2 hs2 hb2 HS1 HB1 ha2 hin2
  generalize w1.heap.size = X1 at *
  clear w1
  go_wp2_with fail
  refine (l1Chance_h _ w.heap.size a len cap k2 9 HS2.out (by omega) (by omega) (by omega) hl2).mono ?_
  rintro e w3 ⟨⟨b1, rfl⟩, hs3, hb3, ha3⟩
  have HS3 : Hid (Src w3 w.heap.size a len cap (k2 + 1)) := hs3
  have HB3 : Hid (Below w.heap.size w w3) := HB2.out.trans hb3
  have HO3 : Hid (OwnI w3 X1 (.slice va L.length vc) L) := HO2.out.apart ha3 hlt
  have HX3 : Hid (X1 ≤ w3.heap.size) := Nat.le_trans HX2.out ha3.size
  clear hs3 hb3 ha3 HS2 HB2 HO2 HX2
  clear w2
  cases b1
  · go_wp2_with fail
    refine (l1Chance_h _ w.heap.size a len cap (k2 + 1) 20 HS3.out (by omega) (by omega) (by omega) hl2).mono ?_
    rintro e y1 ⟨⟨b2, rfl⟩, hs, hb, ha⟩
    have YZ1 : Hid (X1 ≤ y1.heap.size) := Nat.le_trans HX3.out ha.size
    have YS1 : Hid (Src y1 w.heap.size a len cap ((k2 + 1) + 1)) := hs
    have YB1 : Hid (Below w.heap.size w y1) := HB3.out.trans hb
    have YO1 : Hid (OwnI y1 X1 (.slice va L.length vc) L) := HO3.out.apart ha hlt
    clear hs hb ha HS3 HB3 HO3
    cases b2
    · go_wp2_with fail
      go_ret
      exact ⟨⟨_, L, rfl, YO1.out.lower (by omega), by omega, HR2.out⟩, YB1.out⟩
    have HW := l1Word_h y1 w.heap.size a len cap ((k2 + 1) + 1) YS1.out ([⟨#[97]⟩, ⟨#[98]⟩] : List ByteArray) 2 rfl (by omega) (by omega) (by omega) hl2
    simp only [List.map_cons, List.map_nil] at HW
    go_wp2_with fail
    refine HW.mono ?_
    rintro e y2 ⟨⟨r1, hr1, rfl⟩, hs, hb, ha⟩
    have hr1z : r1.size = 1 := by
      simp only [List.mem_cons, List.not_mem_nil, or_false] at hr1
      rcases hr1 with rfl | rfl <;> rfl
    have YS2 : Hid (Src y2 w.heap.size a len cap ((k2 + 1) + 2)) := hs
    have YB2 : Hid (Below w.heap.size w y2) := YB1.out.trans hb
    have YO2 : Hid (OwnI y2 X1 (.slice va L.length vc) L) := YO1.out.apart ha hlt
    have YZ2 : Hid (X1 ≤ y2.heap.size) := Nat.le_trans YZ1.out ha.size
    clear hs hb ha hr1 HW YS1 YB1 YO1
    go_wp2_with fail
    refine (l1Long_h _ w.heap.size a len cap ((k2 + 1) + 2) YS2.out ⟨#[]⟩ (by decide) (by omega) hl2).mono ?_
    rintro e y3 ⟨⟨r2, hr20, hr21, rfl⟩, ⟨k5, hk5, hs⟩, hb, ha⟩
    have YS3 : Hid (Src y3 w.heap.size a len cap k5) := hs
    have YB3 : Hid (Below w.heap.size w y3) := YB2.out.trans hb
    have YO3 : Hid (OwnI y3 X1 (.slice va L.length vc) L) := YO2.out.apart ha hlt
    have YZ3 : Hid (X1 ≤ y3.heap.size) := Nat.le_trans YZ2.out ha.size
    clear hs hb ha YS2 YB2 YO2
    have HPK := l1Pick_h y3 w.heap.size a len cap k5 YS3.out [990, 999] 2 rfl (by omega) (by omega) (by omega) hl2
    simp only [List.map_cons, List.map_nil] at HPK
    go_wp2_with fail
    refine HPK.mono ?_
    rintro e y4 ⟨⟨p, hp, rfl⟩, hs, hb, ha⟩
    have hpb : 990 ≤ p ∧ p ≤ 999 := by simp at hp; omega
    obtain ⟨hp0, hp1⟩ := hpb
    have YB4 : Hid (Below w.heap.size w y4) := YB3.out.trans hb
    have YO4 : Hid (OwnI y4 X1 (.slice va L.length vc) L) := YO3.out.apart ha hlt
    have hz4 : X1 ≤ y4.heap.size := by have := ha.size; have := YZ3.out; omega
    clear hs hb ha hp HPK YS3 YB3 YO3
    have hq : (r2.extract 0 p.toNat).size ≤ 999 := by rw [ByteArray.size_extract]; omega
    have g5 : p ≤ (r2.size : Int) := by omega
    have hsl := fun w => run_slice_string_h (P := Tryd.prog) w 9 r2 Tryd.underlying9 .i64 p (by omega) g5
    obtain ⟨q, hqe⟩ : ∃ q, r2.extract 0 p.toNat = q := ⟨_, rfl⟩
    have hadd := fun w => run_string_add_sum (P := Tryd.prog) (w := w) r1 (r2.extract 0 p.toNat) (by omega)
    have hzz : (r1 ++ r2.extract 0 p.toNat).size ≤ 2000 := by rw [ByteArray.size_append]; omega
    have YR4 : Hid (SmallR (L ++ [⟨⟨#[113]⟩, true, r1 ++ r2.extract 0 p.toNat⟩])) := HR2.out.snoc (by show (⟨#[113]⟩ : ByteArray).size ≤ 2000; decide) hzz
    clear hqe
    go_wp2_with (at_builtin; refine wpList_append_item _ rfl (.tmp 18) (.tmp 30) rfl X1 _ L ⟨#[113]⟩ true (r1 ++ r2.extract 0 p.toNat) rfl (by simp [go_sem]) YO4.out (by omega) hz4 ?_; intro v6 w6 HO6 hb6 hz6 hk6)
    go_ret
    exact ⟨⟨_, _, rfl, HO6.lower (by omega), by simp; omega, YR4.out⟩, YB4.out.trans (hb6.mono (by omega))⟩
  · go_wp2_with fail
    refine (drawItemFault_any w3 a len cap (HC.out _ HB3.out) hl2).mono ?_
    rintro e w4 ⟨⟨rn, rh, rv, hrn, hrv, rfl⟩, hb4⟩
    have HS4 : Hid (Src w4 w.heap.size a len cap (k2 + 1)) := HS3.out.below (hb4.mono HS3.out.lt)
    have HB4 : Hid (Below w.heap.size w w4) := HB3.out.trans (hb4.mono HB3.out.size)
    have HO4 : Hid (OwnI w4 X1 (.slice va L.length vc) L) := HO3.out.below hb4
    have hz4 : X1 ≤ w4.heap.size := Nat.le_trans HX3.out hb4.size
    have HR4 : Hid (SmallR (L ++ [⟨rn, rh, rv⟩])) := HR2.out.snoc hrn hrv
    clear hb4 hrn hrv HS3 HB3 HO3 HR2
    go_wp2_with (at_builtin; refine wpList_append_item _ rfl (.tmp 11) (.tmp 14) rfl X1 _ L rn rh rv rfl (by simp [go_sem]) HO4.out (by omega) hz4 ?_; intro v5 w5 HO5 hb5 hz5 hk5)
    obtain ⟨M, hM⟩ : ∃ M, M = L ++ [(⟨rn, rh, rv⟩ : Rec)] := ⟨_, rfl⟩
    have hML : M.length ≤ 22 := by rw [hM]; simp; omega
    rw [← hM] at HO5 HR4
    obtain ⟨va5, vc5, rfl, hin5⟩ := HO5.at
    have YO5 : Hid (OwnI w5 X1 (.slice va5 M.length vc5) M) := HO5
    have HS5 : Hid (Src w5 w.heap.size a len cap (k2 + 1)) := HS4.out.below (hb5.mono (by omega))
    have HB5 : Hid (Below w.heap.size w w5) := HB4.out.trans (hb5.mono (by omega))
    have HX5 : Hid (X1 ≤ w5.heap.size) := Nat.le_trans hz4 hz5
    clear HO5 hb5 hz5 hk5 hin5 hM HS4 HB4 HO4 HX3
    refine (l1Chance_h _ w.heap.size a len cap (k2 + 1) 20 HS5.out (by omega) (by omega) (by omega) hl2).mono ?_
    rintro e y1 ⟨⟨b2, rfl⟩, hs, hb, ha⟩
    have YZ1 : Hid (X1 ≤ y1.heap.size) := Nat.le_trans HX5.out ha.size
    have YS1 : Hid (Src y1 w.heap.size a len cap ((k2 + 1) + 1)) := hs
    have YB1 : Hid (Below w.heap.size w y1) := HB5.out.trans hb
    have YO1 : Hid (OwnI y1 X1 (.slice va5 M.length vc5) M) := YO5.out.apart ha hlt
    clear hs hb ha HS5 HB5 YO5
    cases b2
    · go_wp2_with fail
      go_ret
      exact ⟨⟨_, M, rfl, YO1.out.lower (by omega), by omega, HR4.out⟩, YB1.out⟩
    have HW := l1Word_h y1 w.heap.size a len cap ((k2 + 1) + 1) YS1.out ([⟨#[97]⟩, ⟨#[98]⟩] : List ByteArray) 2 rfl (by omega) (by omega) (by omega) hl2
    simp only [List.map_cons, List.map_nil] at HW
    go_wp2_with fail
    refine HW.mono ?_
    rintro e y2 ⟨⟨r1, hr1, rfl⟩, hs, hb, ha⟩
    have hr1z : r1.size = 1 := by
      simp only [List.mem_cons, List.not_mem_nil, or_false] at hr1
      rcases hr1 with rfl | rfl <;> rfl
    have YS2 : Hid (Src y2 w.heap.size a len cap ((k2 + 1) + 2)) := hs
    have YB2 : Hid (Below w.heap.size w y2) := YB1.out.trans hb
    have YO2 : Hid (OwnI y2 X1 (.slice va5 M.length vc5) M) := YO1.out.apart ha hlt
    have YZ2 : Hid (X1 ≤ y2.heap.size) := Nat.le_trans YZ1.out ha.size
    clear hs hb ha hr1 HW YS1 YB1 YO1
    go_wp2_with fail
    refine (l1Long_h _ w.heap.size a len cap ((k2 + 1) + 2) YS2.out ⟨#[]⟩ (by decide) (by omega) hl2).mono ?_
    rintro e y3 ⟨⟨r2, hr20, hr21, rfl⟩, ⟨k5, hk5, hs⟩, hb, ha⟩
    have YS3 : Hid (Src y3 w.heap.size a len cap k5) := hs
    have YB3 : Hid (Below w.heap.size w y3) := YB2.out.trans hb
    have YO3 : Hid (OwnI y3 X1 (.slice va5 M.length vc5) M) := YO2.out.apart ha hlt
    have YZ3 : Hid (X1 ≤ y3.heap.size) := Nat.le_trans YZ2.out ha.size
    clear hs hb ha YS2 YB2 YO2
    have HPK := l1Pick_h y3 w.heap.size a len cap k5 YS3.out [990, 999] 2 rfl (by omega) (by omega) (by omega) hl2
    simp only [List.map_cons, List.map_nil] at HPK
    go_wp2_with fail
    refine HPK.mono ?_
    rintro e y4 ⟨⟨p, hp, rfl⟩, hs, hb, ha⟩
    have hpb : 990 ≤ p ∧ p ≤ 999 := by simp at hp; omega
    obtain ⟨hp0, hp1⟩ := hpb
    have YB4 : Hid (Below w.heap.size w y4) := YB3.out.trans hb
    have YO4 : Hid (OwnI y4 X1 (.slice va5 M.length vc5) M) := YO3.out.apart ha hlt
    have hz4 : X1 ≤ y4.heap.size := by have := ha.size; have := YZ3.out; omega
    clear hs hb ha hp HPK YS3 YB3 YO3
    have hq : (r2.extract 0 p.toNat).size ≤ 999 := by rw [ByteArray.size_extract]; omega
    have g5 : p ≤ (r2.size : Int) := by omega
    have hsl := fun w => run_slice_string_h (P := Tryd.prog) w 9 r2 Tryd.underlying9 .i64 p (by omega) g5
    obtain ⟨q, hqe⟩ : ∃ q, r2.extract 0 p.toNat = q := ⟨_, rfl⟩
    have hadd := fun w => run_string_add_sum (P := Tryd.prog) (w := w) r1 (r2.extract 0 p.toNat) (by omega)
    have hzz : (r1 ++ r2.extract 0 p.toNat).size ≤ 2000 := by rw [ByteArray.size_append]; omega
    have YR4 : Hid (SmallR (M ++ [⟨⟨#[113]⟩, true, r1 ++ r2.extract 0 p.toNat⟩])) := HR4.out.snoc (by show (⟨#[113]⟩ : ByteArray).size ≤ 2000; decide) hzz
    clear hqe
    go_wp2_with (at_builtin; refine wpList_append_item _ rfl (.tmp 18) (.tmp 30) rfl X1 _ M ⟨#[113]⟩ true (r1 ++ r2.extract 0 p.toNat) rfl (by simp [go_sem]) YO4.out (by omega) hz4 ?_; intro v6 w6 HO6 hb6 hz6 hk6)
    go_ret
    exact ⟨⟨_, _, rfl, HO6.lower (by omega), by simp; omega, YR4.out⟩, YB4.out.trans (hb6.mono (by omega))⟩
end Go.Proofs.YtibomkcbopkpkaaDoor
