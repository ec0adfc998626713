/-
  The draws of policies.
-/
import Derived.Test.YtnbbbmhfmjkhbaaDraw7M
import Derived.Test.YtnbbbmhfmjkhbaaPolFault
import Derived.Deep.CutRange
namespace Go.Proofs.Ytnbbbmhfmjkhbaa
open Go.ChangeShapes Go.WideShapes Go.ChangeAt Go.RowKit Go.Sort
theorem PolAt.apart {B : Nat} {w w' : World} {b : Nat} {b0 b1 b2 : Bool} {l s e g : Int} (k : PolAt w b b0 b1 b2 l s e g) (ha : Apart B w w') (hn : b ≠ B) : PolAt w' b b0 b1 b2 l s e g := by
  obtain ⟨c0, c1, c2, c3, c4, c5, c6, fr, hl⟩ := k
  exact ⟨by rw [ha.cell _ _ hl hn, c0], by rw [ha.cell _ _ hl hn, c1], by rw [ha.cell _ _ hl hn, c2], by rw [ha.cell _ _ hl hn, c3], by rw [ha.cell _ _ hl hn, c4], by rw [ha.cell _ _ hl hn, c5], by rw [ha.cell _ _ hl hn, c6], fun o => by rw [ha.frozen _ _ hl hn, fr], Nat.lt_of_lt_of_le hl ha.size⟩
theorem PolAt.offP {w : World} {b B i : Nat} {x : Value} {b0 b1 b2 : Bool} {l s e g : Int} (k : PolAt w b b0 b1 b2 l s e g) (h : B ≠ b) : PolAt (w.setCell ⟨B, i, none⟩ x) b b0 b1 b2 l s e g := by
  have ne : ∀ o : Nat, (⟨B, i, none⟩ : Addr) ≠ ⟨b, o, none⟩ := fun o q => h (congrArg Addr.block q)
  exact ⟨by rw [World.cell?_setCell_other _ _ _ _ (ne _)]; exact k.c0, by rw [World.cell?_setCell_other _ _ _ _ (ne _)]; exact k.c1, by rw [World.cell?_setCell_other _ _ _ _ (ne _)]; exact k.c2, by rw [World.cell?_setCell_other _ _ _ _ (ne _)]; exact k.c3, by rw [World.cell?_setCell_other _ _ _ _ (ne _)]; exact k.c4, by rw [World.cell?_setCell_other _ _ _ _ (ne _)]; exact k.c5, by rw [World.cell?_setCell_other _ _ _ _ (ne _)]; exact k.c6, fun o => by rw [World.frozen?_setCell]; exact k.fr o, by simpa using k.lt⟩
theorem PolAt.put0 {w : World} {b : Nat} {b0 b1 b2 : Bool} {l s e g : Int} (k : PolAt w b b0 b1 b2 l s e g) (y : Bool) : PolAt (w.setCell ⟨b, 0, none⟩ (.bool y)) b y b1 b2 l s e g :=
  ⟨World.cell?_setCell_same _ _ _ k.c0, by rw [World.cell?_setCell_other _ _ _ _ (by intro q; have := congrArg Addr.off q; simp at this)]; exact k.c1, by rw [World.cell?_setCell_other _ _ _ _ (by intro q; have := congrArg Addr.off q; simp at this)]; exact k.c2, by rw [World.cell?_setCell_other _ _ _ _ (by intro q; have := congrArg Addr.off q; simp at this)]; exact k.c3, by rw [World.cell?_setCell_other _ _ _ _ (by intro q; have := congrArg Addr.off q; simp at this)]; exact k.c4, by rw [World.cell?_setCell_other _ _ _ _ (by intro q; have := congrArg Addr.off q; simp at this)]; exact k.c5, by rw [World.cell?_setCell_other _ _ _ _ (by intro q; have := congrArg Addr.off q; simp at this)]; exact k.c6, fun o => by rw [World.frozen?_setCell]; exact k.fr o, by simpa using k.lt⟩
theorem PolAt.put1 {w : World} {b : Nat} {b0 b1 b2 : Bool} {l s e g : Int} (k : PolAt w b b0 b1 b2 l s e g) (y : Bool) : PolAt (w.setCell ⟨b, 1, none⟩ (.bool y)) b b0 y b2 l s e g :=
  ⟨by rw [World.cell?_setCell_other _ _ _ _ (by intro q; have := congrArg Addr.off q; simp at this)]; exact k.c0, World.cell?_setCell_same _ _ _ k.c1, by rw [World.cell?_setCell_other _ _ _ _ (by intro q; have := congrArg Addr.off q; simp at this)]; exact k.c2, by rw [World.cell?_setCell_other _ _ _ _ (by intro q; have := congrArg Addr.off q; simp at this)]; exact k.c3, by rw [World.cell?_setCell_other _ _ _ _ (by intro q; have := congrArg Addr.off q; simp at this)]; exact k.c4, by rw [World.cell?_setCell_other _ _ _ _ (by intro q; have := congrArg Addr.off q; simp at this)]; exact k.c5, by rw [World.cell?_setCell_other _ _ _ _ (by intro q; have := congrArg Addr.off q; simp at this)]; exact k.c6, fun o => by rw [World.frozen?_setCell]; exact k.fr o, by simpa using k.lt⟩
theorem PolAt.put2 {w : World} {b : Nat} {b0 b1 b2 : Bool} {l s e g : Int} (k : PolAt w b b0 b1 b2 l s e g) (y : Bool) : PolAt (w.setCell ⟨b, 2, none⟩ (.bool y)) b b0 b1 y l s e g :=
  ⟨by rw [World.cell?_setCell_other _ _ _ _ (by intro q; have := congrArg Addr.off q; simp at this)]; exact k.c0, by rw [World.cell?_setCell_other _ _ _ _ (by intro q; have := congrArg Addr.off q; simp at this)]; exact k.c1, World.cell?_setCell_same _ _ _ k.c2, by rw [World.cell?_setCell_other _ _ _ _ (by intro q; have := congrArg Addr.off q; simp at this)]; exact k.c3, by rw [World.cell?_setCell_other _ _ _ _ (by intro q; have := congrArg Addr.off q; simp at this)]; exact k.c4, by rw [World.cell?_setCell_other _ _ _ _ (by intro q; have := congrArg Addr.off q; simp at this)]; exact k.c5, by rw [World.cell?_setCell_other _ _ _ _ (by intro q; have := congrArg Addr.off q; simp at this)]; exact k.c6, fun o => by rw [World.frozen?_setCell]; exact k.fr o, by simpa using k.lt⟩
theorem PolAt.put3 {w : World} {b : Nat} {b0 b1 b2 : Bool} {l s e g : Int} (k : PolAt w b b0 b1 b2 l s e g) (y : Int) : PolAt (w.setCell ⟨b, 3, none⟩ (.int .i64 y)) b b0 b1 b2 y s e g :=
  ⟨by rw [World.cell?_setCell_other _ _ _ _ (by intro q; have := congrArg Addr.off q; simp at this)]; exact k.c0, by rw [World.cell?_setCell_other _ _ _ _ (by intro q; have := congrArg Addr.off q; simp at this)]; exact k.c1, by rw [World.cell?_setCell_other _ _ _ _ (by intro q; have := congrArg Addr.off q; simp at this)]; exact k.c2, World.cell?_setCell_same _ _ _ k.c3, by rw [World.cell?_setCell_other _ _ _ _ (by intro q; have := congrArg Addr.off q; simp at this)]; exact k.c4, by rw [World.cell?_setCell_other _ _ _ _ (by intro q; have := congrArg Addr.off q; simp at this)]; exact k.c5, by rw [World.cell?_setCell_other _ _ _ _ (by intro q; have := congrArg Addr.off q; simp at this)]; exact k.c6, fun o => by rw [World.frozen?_setCell]; exact k.fr o, by simpa using k.lt⟩
theorem PolAt.put4 {w : World} {b : Nat} {b0 b1 b2 : Bool} {l s e g : Int} (k : PolAt w b b0 b1 b2 l s e g) (y : Int) : PolAt (w.setCell ⟨b, 4, none⟩ (.int .i64 y)) b b0 b1 b2 l y e g :=
  ⟨by rw [World.cell?_setCell_other _ _ _ _ (by intro q; have := congrArg Addr.off q; simp at this)]; exact k.c0, by rw [World.cell?_setCell_other _ _ _ _ (by intro q; have := congrArg Addr.off q; simp at this)]; exact k.c1, by rw [World.cell?_setCell_other _ _ _ _ (by intro q; have := congrArg Addr.off q; simp at this)]; exact k.c2, by rw [World.cell?_setCell_other _ _ _ _ (by intro q; have := congrArg Addr.off q; simp at this)]; exact k.c3, World.cell?_setCell_same _ _ _ k.c4, by rw [World.cell?_setCell_other _ _ _ _ (by intro q; have := congrArg Addr.off q; simp at this)]; exact k.c5, by rw [World.cell?_setCell_other _ _ _ _ (by intro q; have := congrArg Addr.off q; simp at this)]; exact k.c6, fun o => by rw [World.frozen?_setCell]; exact k.fr o, by simpa using k.lt⟩
theorem PolAt.put5 {w : World} {b : Nat} {b0 b1 b2 : Bool} {l s e g : Int} (k : PolAt w b b0 b1 b2 l s e g) (y : Int) : PolAt (w.setCell ⟨b, 5, none⟩ (.int .i64 y)) b b0 b1 b2 l s y g :=
  ⟨by rw [World.cell?_setCell_other _ _ _ _ (by intro q; have := congrArg Addr.off q; simp at this)]; exact k.c0, by rw [World.cell?_setCell_other _ _ _ _ (by intro q; have := congrArg Addr.off q; simp at this)]; exact k.c1, by rw [World.cell?_setCell_other _ _ _ _ (by intro q; have := congrArg Addr.off q; simp at this)]; exact k.c2, by rw [World.cell?_setCell_other _ _ _ _ (by intro q; have := congrArg Addr.off q; simp at this)]; exact k.c3, by rw [World.cell?_setCell_other _ _ _ _ (by intro q; have := congrArg Addr.off q; simp at this)]; exact k.c4, World.cell?_setCell_same _ _ _ k.c5, by rw [World.cell?_setCell_other _ _ _ _ (by intro q; have := congrArg Addr.off q; simp at this)]; exact k.c6, fun o => by rw [World.frozen?_setCell]; exact k.fr o, by simpa using k.lt⟩
theorem PolAt.put6 {w : World} {b : Nat} {b0 b1 b2 : Bool} {l s e g : Int} (k : PolAt w b b0 b1 b2 l s e g) (y : Int) : PolAt (w.setCell ⟨b, 6, none⟩ (.int .i64 y)) b b0 b1 b2 l s e y :=
  ⟨by rw [World.cell?_setCell_other _ _ _ _ (by intro q; have := congrArg Addr.off q; simp at this)]; exact k.c0, by rw [World.cell?_setCell_other _ _ _ _ (by intro q; have := congrArg Addr.off q; simp at this)]; exact k.c1, by rw [World.cell?_setCell_other _ _ _ _ (by intro q; have := congrArg Addr.off q; simp at this)]; exact k.c2, by rw [World.cell?_setCell_other _ _ _ _ (by intro q; have := congrArg Addr.off q; simp at this)]; exact k.c3, by rw [World.cell?_setCell_other _ _ _ _ (by intro q; have := congrArg Addr.off q; simp at this)]; exact k.c4, by rw [World.cell?_setCell_other _ _ _ _ (by intro q; have := congrArg Addr.off q; simp at this)]; exact k.c5, World.cell?_setCell_same _ _ _ k.c6, fun o => by rw [World.frozen?_setCell]; exact k.fr o, by simpa using k.lt⟩
theorem PolAt.allP {X : World} {b : Nat} {c0 c1 c2 : Bool} {l' s' e' g' : Int} (k : PolAt X b c0 c1 c2 l' s' e' g') (b0 b1 b2 : Bool) (l s e g : Int) : PolAt (((((((X.setCell ⟨b, 0, none⟩ (.bool b0)).setCell ⟨b, 1, none⟩ (.bool b1)).setCell ⟨b, 2, none⟩ (.bool b2)).setCell ⟨b, 3, none⟩ (.int .i64 l)).setCell ⟨b, 4, none⟩ (.int .i64 s)).setCell ⟨b, 5, none⟩ (.int .i64 e)).setCell ⟨b, 6, none⟩ (.int .i64 g)) b b0 b1 b2 l s e g :=
  ((((((k.put0 _).put1 _).put2 _).put3 _).put4 _).put5 _).put6 _
def SomePol (r : Ending) : Prop := ∃ (b0 b1 b2 : Bool) (l s e g : Int), r = .returned (.agg #[.bool b0, .bool b1, .bool b2, .int .i64 l, .int .i64 s, .int .i64 e, .int .i64 g])
set_option maxHeartbeats 8000000 in
theorem l6Draw_any (w : World) (B : Nat) (a : Option Addr) (len cap k : Nat) (hs : Src w B a len cap k) (hk : k ≤ 900) (hl2 : len ≤ 1048576) :
    Calls Try.prog 68 #[.pointer (some ⟨B, 0, none⟩)] w fun e w' => SomePol e ∧ (∃ k', k' ≤ k + 20 ∧ Src w' B a len cap k') ∧ Below B w w' ∧ Apart B w w' := by
  have hlt := hs.lt
  obtain ⟨v, hv⟩ : ∃ X, Hid (X = w.alloc (.cells #[.bool false, .bool false, .bool false, .int .i64 0, .int .i64 0, .int .i64 0, .int .i64 0] 39)) := ⟨_, rfl⟩
  have HS0 : Hid (Src v B a len cap (k)) := by rw [hv.out]; exact hs.alloc _
  have HV : Hid (Below B w v ∧ Apart B w v) := by rw [hv.out]; exact ⟨(Below.refl _ _).alloc (Nat.le_of_lt hlt) _, Apart.alloc _ _ _⟩
  have HM : Hid (PolAt v w.heap.size false false false 0 0 0 0) := by rw [hv.out]; exact PolAt.new w _ _ _ _ _ _ _ _
  have HA0 : Hid (Below B v v ∧ Apart B v v) := ⟨Below.refl _ _, Apart.refl _ _⟩
  clear hs
  go_enter Try.func68, Try.ntmps68
  go_upto_region 1 with fail
  rw [← hv.out]
  clear hv
  go_wp2_with fail
  refine (l1Chance_a _ B a len cap (k) 6 HS0.out (by omega) (by omega) (by omega) hl2).mono ?_
  rintro r w1 ⟨⟨b0, rfl⟩, hs1, hb1, ha1⟩
  have HS1 : Hid (Src w1 B a len cap (k + 1)) := hs1
  have HA1 : Hid (Below B v w1 ∧ Apart B v w1) := ⟨HA0.out.1.trans hb1, HA0.out.2.trans ha1⟩
  clear hs1 hb1 ha1 HS0 HA0
  go_wp2_with fail
  refine (l1Chance_a _ B a len cap (k + 1) 6 HS1.out (by omega) (by omega) (by omega) hl2).mono ?_
  rintro r w2 ⟨⟨b1, rfl⟩, hs2, hb2, ha2⟩
  have HS2 : Hid (Src w2 B a len cap (k + 2)) := hs2
  have HA2 : Hid (Below B v w2 ∧ Apart B v w2) := ⟨HA1.out.1.trans hb2, HA1.out.2.trans ha2⟩
  clear hs2 hb2 ha2 HS1 HA1
  go_wp2_with fail
  refine (l1Chance_a _ B a len cap (k + 2) 6 HS2.out (by omega) (by omega) (by omega) hl2).mono ?_
  rintro r w3 ⟨⟨b2, rfl⟩, hs3, hb3, ha3⟩
  have HS3 : Hid (Src w3 B a len cap (k + 3)) := hs3
  have HA3 : Hid (Below B v w3 ∧ Apart B v w3) := ⟨HA2.out.1.trans hb3, HA2.out.2.trans ha3⟩
  clear hs3 hb3 ha3 HS2 HA2
  go_wp2_with fail
  refine (drawTime_b _ B a len cap (k + 3) HS3.out (by omega) hl2).mono ?_
  rintro r w4 ⟨⟨t1, t10, t11, rfl⟩, hs4, hb4, ha4⟩
  have HS4 : Hid (Src w4 B a len cap (k + 6)) := hs4
  have HA4 : Hid (Below B v w4 ∧ Apart B v w4) := ⟨HA3.out.1.trans hb4, HA3.out.2.trans ha4⟩
  clear hs4 hb4 ha4 HS3 HA3
  go_wp2_with fail
  refine (l1Pick_a _ B a len cap (k + 6) HS4.out [0, 1000, 5000, -1, t1] 5 rfl (by omega) (by omega) (by omega) hl2).mono ?_
  rintro r w5 ⟨⟨l, lm, rfl⟩, hs5, hb5, ha5⟩
  have HS5 : Hid (Src w5 B a len cap (k + 7)) := hs5
  have HA5 : Hid (Below B v w5 ∧ Apart B v w5) := ⟨HA4.out.1.trans hb5, HA4.out.2.trans ha5⟩
  clear hs5 hb5 ha5 HS4 HA4
  clear lm
  go_wp2_with fail
  refine (drawTime_b _ B a len cap (k + 7) HS5.out (by omega) hl2).mono ?_
  rintro r w6 ⟨⟨t2, t20, t21, rfl⟩, hs6, hb6, ha6⟩
  have HS6 : Hid (Src w6 B a len cap (k + 10)) := hs6
  have HA6 : Hid (Below B v w6 ∧ Apart B v w6) := ⟨HA5.out.1.trans hb6, HA5.out.2.trans ha6⟩
  clear hs6 hb6 ha6 HS5 HA5
  go_wp2_with fail
  refine (l1Pick_a _ B a len cap (k + 10) HS6.out [0, 2000, t2] 3 rfl (by omega) (by omega) (by omega) hl2).mono ?_
  rintro r w7 ⟨⟨s, sm, rfl⟩, hs7, hb7, ha7⟩
  have HS7 : Hid (Src w7 B a len cap (k + 11)) := hs7
  have HA7 : Hid (Below B v w7 ∧ Apart B v w7) := ⟨HA6.out.1.trans hb7, HA6.out.2.trans ha7⟩
  clear hs7 hb7 ha7 HS6 HA6
  clear sm
  go_wp2_with fail
  refine (drawTime_b _ B a len cap (k + 11) HS7.out (by omega) hl2).mono ?_
  rintro r w8 ⟨⟨t3, t30, t31, rfl⟩, hs8, hb8, ha8⟩
  have HS8 : Hid (Src w8 B a len cap (k + 14)) := hs8
  have HA8 : Hid (Below B v w8 ∧ Apart B v w8) := ⟨HA7.out.1.trans hb8, HA7.out.2.trans ha8⟩
  clear hs8 hb8 ha8 HS7 HA7
  go_wp2_with fail
  refine (l1Pick_a _ B a len cap (k + 14) HS8.out [0, 3000, t3] 3 rfl (by omega) (by omega) (by omega) hl2).mono ?_
  rintro r w9 ⟨⟨e, em, rfl⟩, hs9, hb9, ha9⟩
  have HS9 : Hid (Src w9 B a len cap (k + 15)) := hs9
  have HA9 : Hid (Below B v w9 ∧ Apart B v w9) := ⟨HA8.out.1.trans hb9, HA8.out.2.trans ha9⟩
  clear hs9 hb9 ha9 HS8 HA8
  clear em
  go_wp2_with fail
  refine (drawTime_b _ B a len cap (k + 15) HS9.out (by omega) hl2).mono ?_
  rintro r w10 ⟨⟨t4, t40, t41, rfl⟩, hs10, hb10, ha10⟩
  have HS10 : Hid (Src w10 B a len cap (k + 18)) := hs10
  have HA10 : Hid (Below B v w10 ∧ Apart B v w10) := ⟨HA9.out.1.trans hb10, HA9.out.2.trans ha10⟩
  clear hs10 hb10 ha10 HS9 HA9
  go_wp2_with fail
  refine (l1Pick_a _ B a len cap (k + 18) HS10.out [0, 0, 1000, t4] 4 rfl (by omega) (by omega) (by omega) hl2).mono ?_
  rintro r w11 ⟨⟨g, gm, rfl⟩, hs11, hb11, ha11⟩
  have HS11 : Hid (Src w11 B a len cap (k + 19)) := hs11
  have HA11 : Hid (Below B v w11 ∧ Apart B v w11) := ⟨HA10.out.1.trans hb11, HA10.out.2.trans ha11⟩
  clear hs11 hb11 ha11 HS10 HA10
  clear gm
  have MZ : PolAt w11 w.heap.size false false false 0 0 0 0 := HM.out.apart HA11.out.2 (by omega)
  have ME : Hid _ := MZ.allP b0 b1 b2 l s e g
  obtain ⟨z0, z1, z2, z3, z4, z5, z6, zf, _⟩ := MZ
  have zf0 := zf 0
  have zf1 := zf 1
  have zf2 := zf 2
  have zf3 := zf 3
  have zf4 := zf 4
  have zf5 := zf 5
  have zf6 := zf 6
  clear zf
  go_wp2_with fail
  have r0 := ME.out.c0
  have r1 := ME.out.c1
  have r2 := ME.out.c2
  have r3 := ME.out.c3
  have r4 := ME.out.c4
  have r5 := ME.out.c5
  have r6 := ME.out.c6
  refine bodyPost_ret (v := .agg #[.bool b0, .bool b1, .bool b2, .int .i64 l, .int .i64 s, .int .i64 e, .int .i64 g]) ?_ rfl ⟨⟨b0, b1, b2, l, s, e, g, rfl⟩, ⟨_, ?_, src_off (src_off (src_off (src_off (src_off (src_off (src_off HS11.out hlt) hlt) hlt) hlt) hlt) hlt) hlt⟩, ?_, ?_⟩
  · simp [results, Try.results68, go_sem, r0, r1, r2, r3, r4, r5, r6]
  · omega
  · have hh := HV.out.1.trans HA11.out.1
    exact ((((((hh.setCell (Nat.le_of_lt hlt) _).setCell (Nat.le_of_lt hlt) _).setCell (Nat.le_of_lt hlt) _).setCell (Nat.le_of_lt hlt) _).setCell (Nat.le_of_lt hlt) _).setCell (Nat.le_of_lt hlt) _).setCell (Nat.le_of_lt hlt) _
  · have hh := HV.out.2.trans HA11.out.2
    exact ((((((hh.off (Nat.le_refl _)).off (Nat.le_refl _)).off (Nat.le_refl _)).off (Nat.le_refl _)).off (Nat.le_refl _)).off (Nat.le_refl _)).off (Nat.le_refl _)
set_option maxHeartbeats 8000000 in
theorem drawPolicy_any (w : World) (a : Option Addr) (len cap : Nat) (hc : CodeRow w w.heap.size a len) (hl2 : len ≤ 1048576) :
    Calls Try.prog 59 #[.slice a len cap] w fun r w' => SomePol r ∧ Below w.heap.size w w' := by
  obtain ⟨v, hv⟩ : ∃ X, Hid (X = w.alloc (.cells #[.bool false, .bool false, .bool false, .int .i64 0, .int .i64 0, .int .i64 0, .int .i64 0] 39)) := ⟨_, rfl⟩
  have bv : Below w.heap.size w v := by rw [hv.out]; exact (Below.refl _ _).alloc (Nat.le_refl _) _
  have HB : Hid (Below w.heap.size w v) := bv
  have HM : Hid (PolAt v w.heap.size false false false 0 0 0 0) := by rw [hv.out]; exact PolAt.new w _ _ _ _ _ _ _ _
  have HC : Hid (CodeRow v v.heap.size a len) := (hc.below bv).mono bv.size
  clear hc bv
  go_enter Try.func59, Try.ntmps59
  go_upto_region 1 with fail
  rw [← hv.out]
  clear hv
  go_wp2_with fail
  refine (l1Source_any v a len cap HC.out).mono ?_
  rintro r w0 ⟨rfl, hs0, hb0⟩
  have hBl : w.heap.size < v.heap.size := HM.out.lt
  have HS0 : Hid (Src w0 v.heap.size a len cap 0) := hs0
  have HB0 : Hid (Below w.heap.size w w0) := HB.out.trans (hb0.mono HB.out.size)
  have HM0 : Hid (PolAt w0 w.heap.size false false false 0 0 0 0) := HM.out.keep hb0
  clear hs0 hb0 HC HB HM
  generalize v.heap.size = B at *
  clear v
  go_wp2_with fail
  refine (l6Draw_any _ B a len cap 0 HS0.out (by omega) hl2).mono ?_
  rintro r w1 ⟨⟨b0, b1, b2, l, s, e, g, rfl⟩, ⟨k1, hk1, hs1⟩, hb1, ha1⟩
  have hl1 : B < w1.heap.size := hs1.lt
  obtain ⟨v1, hv1⟩ : ∃ X, Hid (X = w1.alloc (.cells #[.bool b0, .bool b1, .bool b2, .int .i64 l, .int .i64 s, .int .i64 e, .int .i64 g] 39)) := ⟨_, rfl⟩
  have HV1 : Hid (Src v1 B a len cap k1 ∧ Below w.heap.size w v1 ∧ PolAt v1 w.heap.size false false false 0 0 0 0 ∧ PolAt v1 w1.heap.size b0 b1 b2 l s e g) := by
    rw [hv1.out]
    have q := HB0.out.trans (hb1.mono (Nat.le_of_lt hBl))
    exact ⟨hs1.alloc _, q.trans ((Below.refl _ _).alloc (Nat.le_trans (Nat.le_of_lt hBl) (Nat.le_of_lt hl1)) _), (HM0.out.apart ha1 (by omega)).keep ((Below.refl _ _).alloc (Nat.le_refl _) _), PolAt.new w1 _ _ _ _ _ _ _ _⟩
  clear hs1 hb1 ha1 HS0 HB0 HM0
  go_upto_region 3 with fail
  rw [← hv1.out]
  clear hv1
  generalize w1.heap.size = Q at *
  clear w1
  go_wp2_with fail
  refine (l1Next_a _ B a len cap k1 9 HV1.out.1 (by omega) (by omega) (by omega) hl2).mono ?_
  rintro r w2 ⟨⟨x, x0, x1, rfl⟩, hs2, hb2, ha2⟩
  have F2 : Hid (Src w2 B a len cap (k1 + 1) ∧ Below w.heap.size w w2 ∧ PolAt w2 w.heap.size false false false 0 0 0 0 ∧ PolAt w2 Q b0 b1 b2 l s e g) := by
    obtain ⟨f1, f2, f3, f4⟩ := HV1.out
    exact ⟨hs2, f2.trans (hb2.mono (Nat.le_of_lt hBl)), f3.apart ha2 (by omega), f4.apart ha2 (by omega)⟩
  clear hs2 hb2 ha2 HV1
  have hne : ¬ Q = w.heap.size := by omega
  have hne2 : ¬ w.heap.size = Q := by omega
  by_cases e0 : x = 0
  · subst e0
    go_wp2_with fail
    refine (l1Pick_a _ B a len cap (k1 + 1) F2.out.1 [-2, 1000000000000001] 2 rfl (by omega) (by omega) (by omega) hl2).mono ?_
    rintro r w3 ⟨⟨y, _, rfl⟩, hs3, hb3, ha3⟩
    have F3 : Hid (Src w3 B a len cap (k1 + 1 + 1) ∧ Below w.heap.size w w3 ∧ PolAt w3 w.heap.size false false false 0 0 0 0 ∧ PolAt w3 Q b0 b1 b2 l s e g) := by
      obtain ⟨f1, f2, f3, f4⟩ := F2.out
      exact ⟨hs3, f2.trans (hb3.mono (Nat.le_of_lt hBl)), f3.apart ha3 (by omega), f4.apart ha3 (by omega)⟩
    clear hs3 hb3 ha3 F2
    have ME : Hid (PolAt _ w.heap.size (b0) (b1) (b2) (y) (s) (e) (g)) := (F3.out.2.2.1.offP (B := Q) (i := 3) (x := .int .i64 (y)) (by omega)).allP (b0) (b1) (b2) (y) (s) (e) (g)
    have HF : Hid (Below w.heap.size w (w3.setCell ⟨Q, 3, none⟩ (.int .i64 (y)))) := (F3.out.2.1.setCell (p := ⟨Q, 3, none⟩) (by show w.heap.size ≤ Q; omega) (.int .i64 (y)))
    obtain ⟨z0, z1, z2, z3, z4, z5, z6, zf, _⟩ := F3.out.2.2.1
    obtain ⟨q0, q1, q2, q3, q4, q5, q6, qf, _⟩ := F3.out.2.2.2
    have zf0 := zf 0
    have zf1 := zf 1
    have zf2 := zf 2
    have zf3 := zf 3
    have zf4 := zf 4
    have zf5 := zf 5
    have zf6 := zf 6
    have qf3 := qf 3
    have qf4 := qf 4
    have qf6 := qf 6
    clear zf qf
    go_wp2_with fail
    have r0 := ME.out.c0
    have r1 := ME.out.c1
    have r2 := ME.out.c2
    have r3 := ME.out.c3
    have r4 := ME.out.c4
    have r5 := ME.out.c5
    have r6 := ME.out.c6
    refine bodyPost_ret (v := .agg #[.bool b0, .bool b1, .bool b2, .int .i64 (y), .int .i64 (s), .int .i64 (e), .int .i64 (g)]) ?_ rfl ⟨⟨b0, b1, b2, y, s, e, g, rfl⟩, ?_⟩
    · simp [results, Try.results59, go_sem, r0, r1, r2, r3, r4, r5, r6]
    · exact ((((((HF.out.setCell (Nat.le_refl _) _).setCell (Nat.le_refl _) _).setCell (Nat.le_refl _) _).setCell (Nat.le_refl _) _).setCell (Nat.le_refl _) _).setCell (Nat.le_refl _) _).setCell (Nat.le_refl _) _
  have d0 : (x == 0) = false := by simpa using e0
  by_cases e1 : x = 1
  · subst e1
    clear d0
    have ME : Hid (PolAt _ w.heap.size (b0) (b1) (b2) (l) (-1) (e) (g)) := (F2.out.2.2.1.offP (B := Q) (i := 4) (x := .int .i64 (-1)) (by omega)).allP (b0) (b1) (b2) (l) (-1) (e) (g)
    have HF : Hid (Below w.heap.size w (w2.setCell ⟨Q, 4, none⟩ (.int .i64 (-1)))) := (F2.out.2.1.setCell (p := ⟨Q, 4, none⟩) (by show w.heap.size ≤ Q; omega) (.int .i64 (-1)))
    obtain ⟨z0, z1, z2, z3, z4, z5, z6, zf, _⟩ := F2.out.2.2.1
    obtain ⟨q0, q1, q2, q3, q4, q5, q6, qf, _⟩ := F2.out.2.2.2
    have zf0 := zf 0
    have zf1 := zf 1
    have zf2 := zf 2
    have zf3 := zf 3
    have zf4 := zf 4
    have zf5 := zf 5
    have zf6 := zf 6
    have qf3 := qf 3
    have qf4 := qf 4
    have qf6 := qf 6
    clear zf qf
    go_wp2_with fail
    have r0 := ME.out.c0
    have r1 := ME.out.c1
    have r2 := ME.out.c2
    have r3 := ME.out.c3
    have r4 := ME.out.c4
    have r5 := ME.out.c5
    have r6 := ME.out.c6
    refine bodyPost_ret (v := .agg #[.bool b0, .bool b1, .bool b2, .int .i64 (l), .int .i64 (-1), .int .i64 (e), .int .i64 (g)]) ?_ rfl ⟨⟨b0, b1, b2, l, -1, e, g, rfl⟩, ?_⟩
    · simp [results, Try.results59, go_sem, r0, r1, r2, r3, r4, r5, r6]
    · exact ((((((HF.out.setCell (Nat.le_refl _) _).setCell (Nat.le_refl _) _).setCell (Nat.le_refl _) _).setCell (Nat.le_refl _) _).setCell (Nat.le_refl _) _).setCell (Nat.le_refl _) _).setCell (Nat.le_refl _) _
  have d1 : (x == 1) = false := by simpa using e1
  by_cases e2 : x = 2
  · subst e2
    clear d0 d1
    have ME : Hid (PolAt _ w.heap.size (b0) (b1) (b2) (l) (s) (e) (1000000000000001)) := (F2.out.2.2.1.offP (B := Q) (i := 6) (x := .int .i64 (1000000000000001)) (by omega)).allP (b0) (b1) (b2) (l) (s) (e) (1000000000000001)
    have HF : Hid (Below w.heap.size w (w2.setCell ⟨Q, 6, none⟩ (.int .i64 (1000000000000001)))) := (F2.out.2.1.setCell (p := ⟨Q, 6, none⟩) (by show w.heap.size ≤ Q; omega) (.int .i64 (1000000000000001)))
    obtain ⟨z0, z1, z2, z3, z4, z5, z6, zf, _⟩ := F2.out.2.2.1
    obtain ⟨q0, q1, q2, q3, q4, q5, q6, qf, _⟩ := F2.out.2.2.2
    have zf0 := zf 0
    have zf1 := zf 1
    have zf2 := zf 2
    have zf3 := zf 3
    have zf4 := zf 4
    have zf5 := zf 5
    have zf6 := zf 6
    have qf3 := qf 3
    have qf4 := qf 4
    have qf6 := qf 6
    clear zf qf
    go_wp2_with fail
    have r0 := ME.out.c0
    have r1 := ME.out.c1
    have r2 := ME.out.c2
    have r3 := ME.out.c3
    have r4 := ME.out.c4
    have r5 := ME.out.c5
    have r6 := ME.out.c6
    refine bodyPost_ret (v := .agg #[.bool b0, .bool b1, .bool b2, .int .i64 (l), .int .i64 (s), .int .i64 (e), .int .i64 (1000000000000001)]) ?_ rfl ⟨⟨b0, b1, b2, l, s, e, 1000000000000001, rfl⟩, ?_⟩
    · simp [results, Try.results59, go_sem, r0, r1, r2, r3, r4, r5, r6]
    · exact ((((((HF.out.setCell (Nat.le_refl _) _).setCell (Nat.le_refl _) _).setCell (Nat.le_refl _) _).setCell (Nat.le_refl _) _).setCell (Nat.le_refl _) _).setCell (Nat.le_refl _) _).setCell (Nat.le_refl _) _
  have d2 : (x == 2) = false := by simpa using e2
  have ME : Hid (PolAt _ w.heap.size (b0) (b1) (b2) (l) (s) (e) (g)) := F2.out.2.2.1.allP (b0) (b1) (b2) (l) (s) (e) (g)
  have HF : Hid (Below w.heap.size w w2) := F2.out.2.1
  obtain ⟨z0, z1, z2, z3, z4, z5, z6, zf, _⟩ := F2.out.2.2.1
  obtain ⟨q0, q1, q2, q3, q4, q5, q6, qf, _⟩ := F2.out.2.2.2
  have zf0 := zf 0
  have zf1 := zf 1
  have zf2 := zf 2
  have zf3 := zf 3
  have zf4 := zf 4
  have zf5 := zf 5
  have zf6 := zf 6
  have qf3 := qf 3
  have qf4 := qf 4
  have qf6 := qf 6
  clear zf qf
  go_wp2_with fail
  have r0 := ME.out.c0
  have r1 := ME.out.c1
  have r2 := ME.out.c2
  have r3 := ME.out.c3
  have r4 := ME.out.c4
  have r5 := ME.out.c5
  have r6 := ME.out.c6
  refine bodyPost_ret (v := .agg #[.bool b0, .bool b1, .bool b2, .int .i64 (l), .int .i64 (s), .int .i64 (e), .int .i64 (g)]) ?_ rfl ⟨⟨b0, b1, b2, l, s, e, g, rfl⟩, ?_⟩
  · simp [results, Try.results59, go_sem, r0, r1, r2, r3, r4, r5, r6]
  · exact ((((((HF.out.setCell (Nat.le_refl _) _).setCell (Nat.le_refl _) _).setCell (Nat.le_refl _) _).setCell (Nat.le_refl _) _).setCell (Nat.le_refl _) _).setCell (Nat.le_refl _) _).setCell (Nat.le_refl _) _
end Go.Proofs.Ytnbbbmhfmjkhbaa
