/-
  The draws of what is kept with an answer.
-/
import Derived.Test.YtnbbbmhfmjkhbaaDrawApart
import Derived.Test.YtnbbbmhfmjkhbaaMetaKit
import Derived.Deep.CutRange
namespace Go.Proofs.Ytnbbbmhfmjkhbaa
open Go.ChangeShapes Go.WideShapes Go.ChangeAt Go.RowKit Go.Sort
set_option maxHeartbeats 2000000 in
theorem drawTime_b (w : World) (B : Nat) (a : Option Addr) (len cap k : Nat) (hs : Src w B a len cap k) (hk : k ≤ 1000) (hl2 : len ≤ 1048576) :
    Calls Try.prog 69 #[.pointer (some ⟨B, 0, none⟩)] w fun e w' => (∃ v : Int, 0 ≤ v ∧ v ≤ 1000000000000000 ∧ e = .returned (.int .i64 v)) ∧ Src w' B a len cap (k + 3) ∧ Below B w w' ∧ Apart B w w' := by
  have HS0 : Hid (Src w B a len cap (k)) := hs
  have HA0 : Hid (Below B w w ∧ Apart B w w) := ⟨Below.refl _ _, Apart.refl _ _⟩
  clear hs
  go_enter Try.func69, Try.ntmps69
  go_wp2_with fail
  refine (l1Next_a _ B a len cap (k) 5000 HS0.out (by omega) (by omega) (by omega) hl2).mono ?_
  rintro r w1 ⟨⟨x, x0, x1, rfl⟩, hs1, hb1, ha1⟩
  have HS1 : Hid (Src w1 B a len cap (k + 1)) := hs1
  have HA1 : Hid (Below B w w1 ∧ Apart B w w1) := ⟨HA0.out.1.trans hb1, HA0.out.2.trans ha1⟩
  clear hs1 hb1 ha1 HS0 HA0
  go_wp2_with fail
  refine (l1Next_a _ B a len cap (k + 1) 900000 HS1.out (by omega) (by omega) (by omega) hl2).mono ?_
  rintro r w2 ⟨⟨y, y0, y1, rfl⟩, hs2, hb2, ha2⟩
  have HS2 : Hid (Src w2 B a len cap (k + 2)) := hs2
  have HA2 : Hid (Below B w w2 ∧ Apart B w w2) := ⟨HA1.out.1.trans hb2, HA1.out.2.trans ha2⟩
  clear hs2 hb2 ha2 HS1 HA1
  go_wp2_with fail
  refine (l1Pick_a _ B a len cap (k + 2) HS2.out [0, 1, 1000, x, y, 1000000000000000, 999999999999999, 500000000000000, 500000000000001] 9 rfl (by omega) (by omega) (by omega) hl2).mono ?_
  rintro r w3 ⟨⟨v, vm, rfl⟩, hs3, hb3, ha3⟩
  have HS3 : Hid (Src w3 B a len cap (k + 3)) := hs3
  have HA3 : Hid (Below B w w3 ∧ Apart B w w3) := ⟨HA2.out.1.trans hb3, HA2.out.2.trans ha3⟩
  clear hs3 hb3 ha3 HS2 HA2
  have vB : 0 ≤ v ∧ v ≤ 1000000000000000 := by simp only [List.mem_cons, List.not_mem_nil, or_false] at vm; omega
  clear vm
  obtain ⟨v0, v1⟩ := vB
  go_wp2_with fail
  go_ret
  exact ⟨⟨v, v0, v1, rfl⟩, HS3.out, HA3.out.1, HA3.out.2⟩
theorem MetaAt.apart {B : Nat} {w w' : World} {b : Nat} {t g l s e : Int} {b1 b2 : Bool} (k : MetaAt w b t g l s e b1 b2) (ha : Apart B w w') (hn : b ≠ B) : MetaAt w' b t g l s e b1 b2 := by
  obtain ⟨c0, c1, c2, c3, c4, c5, c6, fr, hl⟩ := k
  exact ⟨by rw [ha.cell _ _ hl hn, c0], by rw [ha.cell _ _ hl hn, c1], by rw [ha.cell _ _ hl hn, c2], by rw [ha.cell _ _ hl hn, c3], by rw [ha.cell _ _ hl hn, c4], by rw [ha.cell _ _ hl hn, c5], by rw [ha.cell _ _ hl hn, c6], fun o => by rw [ha.frozen _ _ hl hn, fr], Nat.lt_of_lt_of_le hl ha.size⟩
theorem MetaAt.set0 {w : World} {b : Nat} {t g l s e : Int} {b1 b2 : Bool} (k : MetaAt w b t g l s e b1 b2) (y : Int) : MetaAt (w.setCell ⟨b, 0, none⟩ (.int .i64 y)) b y g l s e b1 b2 :=
  ⟨World.cell?_setCell_same _ _ _ k.c0, by rw [World.cell?_setCell_other _ _ _ _ (by intro q; have := congrArg Addr.off q; simp at this)]; exact k.c1, by rw [World.cell?_setCell_other _ _ _ _ (by intro q; have := congrArg Addr.off q; simp at this)]; exact k.c2, by rw [World.cell?_setCell_other _ _ _ _ (by intro q; have := congrArg Addr.off q; simp at this)]; exact k.c3, by rw [World.cell?_setCell_other _ _ _ _ (by intro q; have := congrArg Addr.off q; simp at this)]; exact k.c4, by rw [World.cell?_setCell_other _ _ _ _ (by intro q; have := congrArg Addr.off q; simp at this)]; exact k.c5, by rw [World.cell?_setCell_other _ _ _ _ (by intro q; have := congrArg Addr.off q; simp at this)]; exact k.c6, fun o => by rw [World.frozen?_setCell]; exact k.fr o, by simpa using k.lt⟩
theorem MetaAt.set1 {w : World} {b : Nat} {t g l s e : Int} {b1 b2 : Bool} (k : MetaAt w b t g l s e b1 b2) (y : Int) : MetaAt (w.setCell ⟨b, 1, none⟩ (.int .i64 y)) b t y l s e b1 b2 :=
  ⟨by rw [World.cell?_setCell_other _ _ _ _ (by intro q; have := congrArg Addr.off q; simp at this)]; exact k.c0, World.cell?_setCell_same _ _ _ k.c1, by rw [World.cell?_setCell_other _ _ _ _ (by intro q; have := congrArg Addr.off q; simp at this)]; exact k.c2, by rw [World.cell?_setCell_other _ _ _ _ (by intro q; have := congrArg Addr.off q; simp at this)]; exact k.c3, by rw [World.cell?_setCell_other _ _ _ _ (by intro q; have := congrArg Addr.off q; simp at this)]; exact k.c4, by rw [World.cell?_setCell_other _ _ _ _ (by intro q; have := congrArg Addr.off q; simp at this)]; exact k.c5, by rw [World.cell?_setCell_other _ _ _ _ (by intro q; have := congrArg Addr.off q; simp at this)]; exact k.c6, fun o => by rw [World.frozen?_setCell]; exact k.fr o, by simpa using k.lt⟩
theorem MetaAt.set2 {w : World} {b : Nat} {t g l s e : Int} {b1 b2 : Bool} (k : MetaAt w b t g l s e b1 b2) (y : Int) : MetaAt (w.setCell ⟨b, 2, none⟩ (.int .i64 y)) b t g y s e b1 b2 :=
  ⟨by rw [World.cell?_setCell_other _ _ _ _ (by intro q; have := congrArg Addr.off q; simp at this)]; exact k.c0, by rw [World.cell?_setCell_other _ _ _ _ (by intro q; have := congrArg Addr.off q; simp at this)]; exact k.c1, World.cell?_setCell_same _ _ _ k.c2, by rw [World.cell?_setCell_other _ _ _ _ (by intro q; have := congrArg Addr.off q; simp at this)]; exact k.c3, by rw [World.cell?_setCell_other _ _ _ _ (by intro q; have := congrArg Addr.off q; simp at this)]; exact k.c4, by rw [World.cell?_setCell_other _ _ _ _ (by intro q; have := congrArg Addr.off q; simp at this)]; exact k.c5, by rw [World.cell?_setCell_other _ _ _ _ (by intro q; have := congrArg Addr.off q; simp at this)]; exact k.c6, fun o => by rw [World.frozen?_setCell]; exact k.fr o, by simpa using k.lt⟩
theorem MetaAt.set3 {w : World} {b : Nat} {t g l s e : Int} {b1 b2 : Bool} (k : MetaAt w b t g l s e b1 b2) (y : Int) : MetaAt (w.setCell ⟨b, 3, none⟩ (.int .i64 y)) b t g l y e b1 b2 :=
  ⟨by rw [World.cell?_setCell_other _ _ _ _ (by intro q; have := congrArg Addr.off q; simp at this)]; exact k.c0, by rw [World.cell?_setCell_other _ _ _ _ (by intro q; have := congrArg Addr.off q; simp at this)]; exact k.c1, by rw [World.cell?_setCell_other _ _ _ _ (by intro q; have := congrArg Addr.off q; simp at this)]; exact k.c2, World.cell?_setCell_same _ _ _ k.c3, by rw [World.cell?_setCell_other _ _ _ _ (by intro q; have := congrArg Addr.off q; simp at this)]; exact k.c4, by rw [World.cell?_setCell_other _ _ _ _ (by intro q; have := congrArg Addr.off q; simp at this)]; exact k.c5, by rw [World.cell?_setCell_other _ _ _ _ (by intro q; have := congrArg Addr.off q; simp at this)]; exact k.c6, fun o => by rw [World.frozen?_setCell]; exact k.fr o, by simpa using k.lt⟩
theorem MetaAt.set4 {w : World} {b : Nat} {t g l s e : Int} {b1 b2 : Bool} (k : MetaAt w b t g l s e b1 b2) (y : Int) : MetaAt (w.setCell ⟨b, 4, none⟩ (.int .i64 y)) b t g l s y b1 b2 :=
  ⟨by rw [World.cell?_setCell_other _ _ _ _ (by intro q; have := congrArg Addr.off q; simp at this)]; exact k.c0, by rw [World.cell?_setCell_other _ _ _ _ (by intro q; have := congrArg Addr.off q; simp at this)]; exact k.c1, by rw [World.cell?_setCell_other _ _ _ _ (by intro q; have := congrArg Addr.off q; simp at this)]; exact k.c2, by rw [World.cell?_setCell_other _ _ _ _ (by intro q; have := congrArg Addr.off q; simp at this)]; exact k.c3, World.cell?_setCell_same _ _ _ k.c4, by rw [World.cell?_setCell_other _ _ _ _ (by intro q; have := congrArg Addr.off q; simp at this)]; exact k.c5, by rw [World.cell?_setCell_other _ _ _ _ (by intro q; have := congrArg Addr.off q; simp at this)]; exact k.c6, fun o => by rw [World.frozen?_setCell]; exact k.fr o, by simpa using k.lt⟩
theorem MetaAt.set5 {w : World} {b : Nat} {t g l s e : Int} {b1 b2 : Bool} (k : MetaAt w b t g l s e b1 b2) (y : Bool) : MetaAt (w.setCell ⟨b, 5, none⟩ (.bool y)) b t g l s e y b2 :=
  ⟨by rw [World.cell?_setCell_other _ _ _ _ (by intro q; have := congrArg Addr.off q; simp at this)]; exact k.c0, by rw [World.cell?_setCell_other _ _ _ _ (by intro q; have := congrArg Addr.off q; simp at this)]; exact k.c1, by rw [World.cell?_setCell_other _ _ _ _ (by intro q; have := congrArg Addr.off q; simp at this)]; exact k.c2, by rw [World.cell?_setCell_other _ _ _ _ (by intro q; have := congrArg Addr.off q; simp at this)]; exact k.c3, by rw [World.cell?_setCell_other _ _ _ _ (by intro q; have := congrArg Addr.off q; simp at this)]; exact k.c4, World.cell?_setCell_same _ _ _ k.c5, by rw [World.cell?_setCell_other _ _ _ _ (by intro q; have := congrArg Addr.off q; simp at this)]; exact k.c6, fun o => by rw [World.frozen?_setCell]; exact k.fr o, by simpa using k.lt⟩
theorem MetaAt.set6 {w : World} {b : Nat} {t g l s e : Int} {b1 b2 : Bool} (k : MetaAt w b t g l s e b1 b2) (y : Bool) : MetaAt (w.setCell ⟨b, 6, none⟩ (.bool y)) b t g l s e b1 y :=
  ⟨by rw [World.cell?_setCell_other _ _ _ _ (by intro q; have := congrArg Addr.off q; simp at this)]; exact k.c0, by rw [World.cell?_setCell_other _ _ _ _ (by intro q; have := congrArg Addr.off q; simp at this)]; exact k.c1, by rw [World.cell?_setCell_other _ _ _ _ (by intro q; have := congrArg Addr.off q; simp at this)]; exact k.c2, by rw [World.cell?_setCell_other _ _ _ _ (by intro q; have := congrArg Addr.off q; simp at this)]; exact k.c3, by rw [World.cell?_setCell_other _ _ _ _ (by intro q; have := congrArg Addr.off q; simp at this)]; exact k.c4, by rw [World.cell?_setCell_other _ _ _ _ (by intro q; have := congrArg Addr.off q; simp at this)]; exact k.c5, World.cell?_setCell_same _ _ _ k.c6, fun o => by rw [World.frozen?_setCell]; exact k.fr o, by simpa using k.lt⟩
theorem MetaAt.all {X : World} {b : Nat} {t' g' l' s' e' : Int} {c1 c2 : Bool} (k : MetaAt X b t' g' l' s' e' c1 c2) (t g l s e : Int) (b1 b2 : Bool) : MetaAt (((((((X.setCell ⟨b, 0, none⟩ (.int .i64 t)).setCell ⟨b, 1, none⟩ (.int .i64 g)).setCell ⟨b, 2, none⟩ (.int .i64 l)).setCell ⟨b, 3, none⟩ (.int .i64 s)).setCell ⟨b, 4, none⟩ (.int .i64 e)).setCell ⟨b, 5, none⟩ (.bool b1)).setCell ⟨b, 6, none⟩ (.bool b2)) b t g l s e b1 b2 :=
  ((((((k.set0 _).set1 _).set2 _).set3 _).set4 _).set5 _).set6 _
theorem Apart.off {B b o : Nat} {w X : World} {v : Value} (h : Apart B w X) (hb : w.heap.size ≤ b) : Apart B w (X.setCell ⟨b, o, none⟩ v) := by
  refine ⟨by simpa using h.size, fun c o' hc hn => ?_, fun c o' hc hn => ?_⟩
  · rw [World.cell?_setCell_other _ _ _ _ (by intro q; have := congrArg Addr.block q; simp at this; omega)]
    exact h.cell c o' hc hn
  · rw [World.frozen?_setCell]
    exact h.frozen c o' hc hn
theorem Apart.frozen_ok {B : Nat} {w w' : World} (h : Apart B w w') : w.heap.size ≤ w'.heap.size := h.size
theorem src_off {w : World} {B b o : Nat} {a : Option Addr} {len cap k : Nat} {v : Value} (hs : Src w B a len cap k) (hb : B < b) : Src (w.setCell ⟨b, o, none⟩ v) B a len cap k :=
  hs.below ((Below.refl _ _).setCell (by show B + 1 ≤ b; omega) _)
/-- Some numbers that are times, or nearly. -/
def nearB (x : Int) : Prop := -1 ≤ x ∧ x ≤ 1000000000000001
def SomeMeta (r : Ending) : Prop := ∃ (t g l s e : Int) (b1 b2 : Bool), (nearB t ∧ nearB g ∧ nearB l ∧ nearB s ∧ nearB e) ∧ r = .returned (.agg #[.int .i64 t, .int .i64 g, .int .i64 l, .int .i64 s, .int .i64 e, .bool b1, .bool b2])
set_option maxHeartbeats 8000000 in
theorem l7Draw_any (w : World) (B : Nat) (a : Option Addr) (len cap k : Nat) (hs : Src w B a len cap k) (hk : k ≤ 900) (hl2 : len ≤ 1048576) :
    Calls Try.prog 65 #[.pointer (some ⟨B, 0, none⟩)] w fun e w' => SomeMeta e ∧ (∃ k', k' ≤ k + 17 ∧ Src w' B a len cap k') ∧ Below B w w' ∧ Apart B w w' := by
  have hlt := hs.lt
  obtain ⟨v, hv⟩ : ∃ X, Hid (X = w.alloc (.cells #[.int .i64 0, .int .i64 0, .int .i64 0, .int .i64 0, .int .i64 0, .bool false, .bool false] 25)) := ⟨_, rfl⟩
  have HS0 : Hid (Src v B a len cap (k)) := by rw [hv.out]; exact hs.alloc _
  have HV : Hid (Below B w v ∧ Apart B w v) := by rw [hv.out]; exact ⟨(Below.refl _ _).alloc (Nat.le_of_lt hlt) _, Apart.alloc _ _ _⟩
  have HM : Hid (MetaAt v w.heap.size 0 0 0 0 0 false false) := by rw [hv.out]; exact MetaAt.new w _ _ _ _ _ _ _ _
  have HA0 : Hid (Below B v v ∧ Apart B v v) := ⟨Below.refl _ _, Apart.refl _ _⟩
  clear hs
  go_enter Try.func65, Try.ntmps65
  go_upto_region 1 with fail
  rw [← hv.out]
  clear hv
  go_wp2_with fail
  refine (l1Chance_a _ B a len cap (k) 9 HS0.out (by omega) (by omega) (by omega) hl2).mono ?_
  rintro r w1 ⟨⟨c, rfl⟩, hs1, hb1, ha1⟩
  have HS1 : Hid (Src w1 B a len cap (k + 1)) := hs1
  have HA1 : Hid (Below B v w1 ∧ Apart B v w1) := ⟨HA0.out.1.trans hb1, HA0.out.2.trans ha1⟩
  clear hs1 hb1 ha1 HS0 HA0
  cases c
  · skip
    go_wp2_with fail
    refine (l1Next_a _ B a len cap (k + 1) 900 HS1.out (by omega) (by omega) (by omega) hl2).mono ?_
    rintro r w2 ⟨⟨t, t0, t1, rfl⟩, hs2, hb2, ha2⟩
    have HS2 : Hid (Src w2 B a len cap (k + 2)) := hs2
    have HA2 : Hid (Below B v w2 ∧ Apart B v w2) := ⟨HA1.out.1.trans hb2, HA1.out.2.trans ha2⟩
    clear hs2 hb2 ha2 HS1 HA1
    go_wp2_with fail
    refine (l1Pick_a _ B a len cap (k + 2) HS2.out [0, 0, 500, 1000] 4 rfl (by omega) (by omega) (by omega) hl2).mono ?_
    rintro r w3 ⟨⟨g, gm, rfl⟩, hs3, hb3, ha3⟩
    have HS3 : Hid (Src w3 B a len cap (k + 3)) := hs3
    have HA3 : Hid (Below B v w3 ∧ Apart B v w3) := ⟨HA2.out.1.trans hb3, HA2.out.2.trans ha3⟩
    clear hs3 hb3 ha3 HS2 HA2
    have gB : 0 ≤ g ∧ g ≤ 1000 := by simp only [List.mem_cons, List.not_mem_nil, or_false] at gm; omega
    clear gm
    obtain ⟨g0, g1⟩ := gB
    go_wp2_with fail
    refine (l1Pick_a _ B a len cap (k + 3) HS3.out [0, 1000, 2000, 5000] 4 rfl (by omega) (by omega) (by omega) hl2).mono ?_
    rintro r w4 ⟨⟨l, lm, rfl⟩, hs4, hb4, ha4⟩
    have HS4 : Hid (Src w4 B a len cap (k + 4)) := hs4
    have HA4 : Hid (Below B v w4 ∧ Apart B v w4) := ⟨HA3.out.1.trans hb4, HA3.out.2.trans ha4⟩
    clear hs4 hb4 ha4 HS3 HA3
    have lB : 0 ≤ l ∧ l ≤ 5000 := by simp only [List.mem_cons, List.not_mem_nil, or_false] at lm; omega
    clear lm
    obtain ⟨l0, l1⟩ := lB
    go_wp2_with fail
    refine (l1Pick_a _ B a len cap (k + 4) HS4.out [0, 1000, 3000] 3 rfl (by omega) (by omega) (by omega) hl2).mono ?_
    rintro r w5 ⟨⟨s, sm, rfl⟩, hs5, hb5, ha5⟩
    have HS5 : Hid (Src w5 B a len cap (k + 5)) := hs5
    have HA5 : Hid (Below B v w5 ∧ Apart B v w5) := ⟨HA4.out.1.trans hb5, HA4.out.2.trans ha5⟩
    clear hs5 hb5 ha5 HS4 HA4
    have sB : 0 ≤ s ∧ s ≤ 3000 := by simp only [List.mem_cons, List.not_mem_nil, or_false] at sm; omega
    clear sm
    obtain ⟨s0, s1⟩ := sB
    go_wp2_with fail
    refine (l1Pick_a _ B a len cap (k + 5) HS5.out [0, 2000, 4000] 3 rfl (by omega) (by omega) (by omega) hl2).mono ?_
    rintro r w6 ⟨⟨e, em, rfl⟩, hs6, hb6, ha6⟩
    have HS6 : Hid (Src w6 B a len cap (k + 6)) := hs6
    have HA6 : Hid (Below B v w6 ∧ Apart B v w6) := ⟨HA5.out.1.trans hb6, HA5.out.2.trans ha6⟩
    clear hs6 hb6 ha6 HS5 HA5
    have eB : 0 ≤ e ∧ e ≤ 4000 := by simp only [List.mem_cons, List.not_mem_nil, or_false] at em; omega
    clear em
    obtain ⟨e0, e1⟩ := eB
    go_wp2_with fail
    refine (l1Chance_a _ B a len cap (k + 6) 5 HS6.out (by omega) (by omega) (by omega) hl2).mono ?_
    rintro r w7 ⟨⟨b1, rfl⟩, hs7, hb7, ha7⟩
    have HS7 : Hid (Src w7 B a len cap (k + 7)) := hs7
    have HA7 : Hid (Below B v w7 ∧ Apart B v w7) := ⟨HA6.out.1.trans hb7, HA6.out.2.trans ha7⟩
    clear hs7 hb7 ha7 HS6 HA6
    go_wp2_with fail
    refine (l1Chance_a _ B a len cap (k + 7) 6 HS7.out (by omega) (by omega) (by omega) hl2).mono ?_
    rintro r w8 ⟨⟨b2, rfl⟩, hs8, hb8, ha8⟩
    have HS8 : Hid (Src w8 B a len cap (k + 8)) := hs8
    have HA8 : Hid (Below B v w8 ∧ Apart B v w8) := ⟨HA7.out.1.trans hb8, HA7.out.2.trans ha8⟩
    clear hs8 hb8 ha8 HS7 HA7
    have MZ : MetaAt w8 w.heap.size 0 0 0 0 0 false false := HM.out.apart HA8.out.2 (by omega)
    have ME : Hid _ := MZ.all t g l s e b1 b2
    obtain ⟨z0, z1, z2, z3, z4, z5, z6, zf, _⟩ := MZ
    have zf0 := zf 0
    have zf1 := zf 1
    have zf2 := zf 2
    have zf3 := zf 3
    have zf4 := zf 4
    have zf5 := zf 5
    have zf6 := zf 6
    clear zf
    go_wp2_with fail
    have r0 := ME.out.c0
    have r1 := ME.out.c1
    have r2 := ME.out.c2
    have r3 := ME.out.c3
    have r4 := ME.out.c4
    have r5 := ME.out.c5
    have r6 := ME.out.c6
    refine bodyPost_ret (v := .agg #[.int .i64 t, .int .i64 g, .int .i64 l, .int .i64 s, .int .i64 e, .bool b1, .bool b2]) ?_ rfl ⟨⟨t, g, l, s, e, b1, b2, ⟨by unfold nearB; omega, by unfold nearB; omega, by unfold nearB; omega, by unfold nearB; omega, by unfold nearB; omega⟩, rfl⟩, ⟨_, ?_, src_off (src_off (src_off (src_off (src_off (src_off (src_off HS8.out hlt) hlt) hlt) hlt) hlt) hlt) hlt⟩, ?_, ?_⟩
    · simp [results, Try.results65, go_sem, r0, r1, r2, r3, r4, r5, r6]
    · omega
    · have hh := HV.out.1.trans HA8.out.1
      exact ((((((hh.setCell (Nat.le_of_lt hlt) _).setCell (Nat.le_of_lt hlt) _).setCell (Nat.le_of_lt hlt) _).setCell (Nat.le_of_lt hlt) _).setCell (Nat.le_of_lt hlt) _).setCell (Nat.le_of_lt hlt) _).setCell (Nat.le_of_lt hlt) _
    · have hh := HV.out.2.trans HA8.out.2
      exact ((((((hh.off (Nat.le_refl _)).off (Nat.le_refl _)).off (Nat.le_refl _)).off (Nat.le_refl _)).off (Nat.le_refl _)).off (Nat.le_refl _)).off (Nat.le_refl _)
  · skip
    go_wp2_with fail
    refine (drawTime_b _ B a len cap (k + 1) HS1.out (by omega) hl2).mono ?_
    rintro r w2 ⟨⟨t, t0, t1, rfl⟩, hs2, hb2, ha2⟩
    have HS2 : Hid (Src w2 B a len cap (k + 4)) := hs2
    have HA2 : Hid (Below B v w2 ∧ Apart B v w2) := ⟨HA1.out.1.trans hb2, HA1.out.2.trans ha2⟩
    clear hs2 hb2 ha2 HS1 HA1
    go_wp2_with fail
    refine (drawTime_b _ B a len cap (k + 4) HS2.out (by omega) hl2).mono ?_
    rintro r w3 ⟨⟨g, g0, g1, rfl⟩, hs3, hb3, ha3⟩
    have HS3 : Hid (Src w3 B a len cap (k + 7)) := hs3
    have HA3 : Hid (Below B v w3 ∧ Apart B v w3) := ⟨HA2.out.1.trans hb3, HA2.out.2.trans ha3⟩
    clear hs3 hb3 ha3 HS2 HA2
    go_wp2_with fail
    refine (drawTime_b _ B a len cap (k + 7) HS3.out (by omega) hl2).mono ?_
    rintro r w4 ⟨⟨l, l0, l1, rfl⟩, hs4, hb4, ha4⟩
    have HS4 : Hid (Src w4 B a len cap (k + 10)) := hs4
    have HA4 : Hid (Below B v w4 ∧ Apart B v w4) := ⟨HA3.out.1.trans hb4, HA3.out.2.trans ha4⟩
    clear hs4 hb4 ha4 HS3 HA3
    go_wp2_with fail
    refine (drawTime_b _ B a len cap (k + 10) HS4.out (by omega) hl2).mono ?_
    rintro r w5 ⟨⟨s, s0, s1, rfl⟩, hs5, hb5, ha5⟩
    have HS5 : Hid (Src w5 B a len cap (k + 13)) := hs5
    have HA5 : Hid (Below B v w5 ∧ Apart B v w5) := ⟨HA4.out.1.trans hb5, HA4.out.2.trans ha5⟩
    clear hs5 hb5 ha5 HS4 HA4
    go_wp2_with fail
    refine (drawTime_b _ B a len cap (k + 13) HS5.out (by omega) hl2).mono ?_
    rintro r w6 ⟨⟨e, e0, e1, rfl⟩, hs6, hb6, ha6⟩
    have HS6 : Hid (Src w6 B a len cap (k + 16)) := hs6
    have HA6 : Hid (Below B v w6 ∧ Apart B v w6) := ⟨HA5.out.1.trans hb6, HA5.out.2.trans ha6⟩
    clear hs6 hb6 ha6 HS5 HA5
    go_wp2_with fail
    refine (l1Chance_a _ B a len cap (k + 16) 4 HS6.out (by omega) (by omega) (by omega) hl2).mono ?_
    rintro r w7 ⟨⟨b1, rfl⟩, hs7, hb7, ha7⟩
    have HS7 : Hid (Src w7 B a len cap (k + 17)) := hs7
    have HA7 : Hid (Below B v w7 ∧ Apart B v w7) := ⟨HA6.out.1.trans hb7, HA6.out.2.trans ha7⟩
    clear hs7 hb7 ha7 HS6 HA6
    have MZ : MetaAt w7 w.heap.size 0 0 0 0 0 false false := HM.out.apart HA7.out.2 (by omega)
    have ME : Hid _ := MZ.all t g l s e b1 false
    obtain ⟨z0, z1, z2, z3, z4, z5, z6, zf, _⟩ := MZ
    have zf0 := zf 0
    have zf1 := zf 1
    have zf2 := zf 2
    have zf3 := zf 3
    have zf4 := zf 4
    have zf5 := zf 5
    have zf6 := zf 6
    clear zf
    go_wp2_with fail
    have r0 := ME.out.c0
    have r1 := ME.out.c1
    have r2 := ME.out.c2
    have r3 := ME.out.c3
    have r4 := ME.out.c4
    have r5 := ME.out.c5
    have r6 := ME.out.c6
    refine bodyPost_ret (v := .agg #[.int .i64 t, .int .i64 g, .int .i64 l, .int .i64 s, .int .i64 e, .bool b1, .bool false]) ?_ rfl ⟨⟨t, g, l, s, e, b1, false, ⟨by unfold nearB; omega, by unfold nearB; omega, by unfold nearB; omega, by unfold nearB; omega, by unfold nearB; omega⟩, rfl⟩, ⟨_, ?_, src_off (src_off (src_off (src_off (src_off (src_off (src_off HS7.out hlt) hlt) hlt) hlt) hlt) hlt) hlt⟩, ?_, ?_⟩
    · simp [results, Try.results65, go_sem, r0, r1, r2, r3, r4, r5, r6]
    · omega
    · have hh := HV.out.1.trans HA7.out.1
      exact ((((((hh.setCell (Nat.le_of_lt hlt) _).setCell (Nat.le_of_lt hlt) _).setCell (Nat.le_of_lt hlt) _).setCell (Nat.le_of_lt hlt) _).setCell (Nat.le_of_lt hlt) _).setCell (Nat.le_of_lt hlt) _).setCell (Nat.le_of_lt hlt) _
    · have hh := HV.out.2.trans HA7.out.2
      exact ((((((hh.off (Nat.le_refl _)).off (Nat.le_refl _)).off (Nat.le_refl _)).off (Nat.le_refl _)).off (Nat.le_refl _)).off (Nat.le_refl _)).off (Nat.le_refl _)
end Go.Proofs.Ytnbbbmhfmjkhbaa
