/-
  The draws of what is kept with an answer, bent; and of times near to its turns.
-/
import Derived.Test.YtnbbbmhfmjkhbaaDraw7M
import Derived.BigRegion
import Derived.Deep.RegionHeld3
namespace Go.Proofs.Ytnbbbmhfmjkhbaa
open Go.ChangeShapes Go.WideShapes Go.ChangeAt Go.RowKit Go.Sort
theorem MetaAt.off {w : World} {b B i : Nat} {x : Value} {t g l s e : Int} {b1 b2 : Bool} (k : MetaAt w b t g l s e b1 b2) (h : B ≠ b) : MetaAt (w.setCell ⟨B, i, none⟩ x) b t g l s e b1 b2 := by
  have ne : ∀ o : Nat, (⟨B, i, none⟩ : Addr) ≠ ⟨b, o, none⟩ := fun o q => h (congrArg Addr.block q)
  exact ⟨by rw [World.cell?_setCell_other _ _ _ _ (ne _)]; exact k.c0, by rw [World.cell?_setCell_other _ _ _ _ (ne _)]; exact k.c1, by rw [World.cell?_setCell_other _ _ _ _ (ne _)]; exact k.c2, by rw [World.cell?_setCell_other _ _ _ _ (ne _)]; exact k.c3, by rw [World.cell?_setCell_other _ _ _ _ (ne _)]; exact k.c4, by rw [World.cell?_setCell_other _ _ _ _ (ne _)]; exact k.c5, by rw [World.cell?_setCell_other _ _ _ _ (ne _)]; exact k.c6, fun o => by rw [World.frozen?_setCell]; exact k.fr o, by simpa using k.lt⟩
set_option maxHeartbeats 8000000 in
theorem l7Bent_any (w : World) (B : Nat) (a : Option Addr) (len cap k : Nat) (hs : Src w B a len cap k) (hk : k ≤ 800) (hl2 : len ≤ 1048576) :
    Calls Try.prog 53 #[.pointer (some ⟨B, 0, none⟩)] w fun e w' => SomeMeta e ∧ (∃ k', k' ≤ k + 18 ∧ Src w' B a len cap k') ∧ Below B w w' ∧ Apart B w w' := by
  have hlt := hs.lt
  obtain ⟨v, hv⟩ : ∃ X, Hid (X = w.alloc (.cells #[.int .i64 0, .int .i64 0, .int .i64 0, .int .i64 0, .int .i64 0, .bool false, .bool false] 25)) := ⟨_, rfl⟩
  have HS0 : Hid (Src v B a len cap (k)) := by rw [hv.out]; exact hs.alloc _
  have HV : Hid (Below B w v ∧ Apart B w v) := by rw [hv.out]; exact ⟨(Below.refl _ _).alloc (Nat.le_of_lt hlt) _, Apart.alloc _ _ _⟩
  have HM : Hid (MetaAt v w.heap.size 0 0 0 0 0 false false) := by rw [hv.out]; exact MetaAt.new w _ _ _ _ _ _ _ _
  clear hs
  go_enter Try.func53, Try.ntmps53
  go_upto_region 1 with fail
  rw [← hv.out]
  clear hv
  go_wp2_with fail
  refine (l7Draw_any _ B a len cap k HS0.out (by omega) hl2).mono ?_
  rintro r w1 ⟨⟨t, g, l, s, e, b1, b2, hn, rfl⟩, ⟨k1, hk1, hs1⟩, hb1, ha1⟩
  have HN : Hid (nearB t ∧ nearB g ∧ nearB l ∧ nearB s ∧ nearB e) := hn
  have hl1 : B < w1.heap.size := hs1.lt
  obtain ⟨v1, hv1⟩ : ∃ X, Hid (X = w1.alloc (.cells #[.int .i64 t, .int .i64 g, .int .i64 l, .int .i64 s, .int .i64 e, .bool b1, .bool b2] 25)) := ⟨_, rfl⟩
  have HS1 : Hid (Src v1 B a len cap k1) := by rw [hv1.out]; exact hs1.alloc _
  have HV1 : Hid (Below B w v1 ∧ Apart B w v1) := by rw [hv1.out]; exact ⟨(HV.out.1.trans hb1).trans ((Below.refl _ _).alloc (Nat.le_of_lt hl1) _), (HV.out.2.trans ha1).trans (Apart.alloc _ _ _)⟩
  have HM1 : Hid (MetaAt v1 w.heap.size 0 0 0 0 0 false false) := by rw [hv1.out]; exact (HM.out.apart ha1 (by omega)).keep ((Below.refl _ _).alloc (Nat.le_refl _) _)
  have HQ1 : Hid (MetaAt v1 w1.heap.size t g l s e b1 b2) := by rw [hv1.out]; exact MetaAt.new w1 _ _ _ _ _ _ _ _
  have hle : w.heap.size < w1.heap.size := Nat.lt_of_lt_of_le HM.out.lt ha1.size
  clear hn hs1 hb1 ha1 HV HM HS0
  go_upto_region 2 with fail
  rw [← hv1.out]
  clear hv1
  generalize w1.heap.size = Q at *
  clear w1
  go_wp2_with fail
  refine (l1Next_a _ B a len cap k1 20 HS1.out (by omega) (by omega) (by omega) hl2).mono ?_
  rintro r w2 ⟨⟨x, x0, x1, rfl⟩, hs2, hb2, ha2⟩
  have HS2 : Hid (Src w2 B a len cap (k1 + 1)) := hs2
  have HV2 : Hid (Below B w w2 ∧ Apart B w w2) := ⟨HV1.out.1.trans hb2, HV1.out.2.trans ha2⟩
  have HM2 : Hid (MetaAt w2 w.heap.size 0 0 0 0 0 false false) := HM1.out.apart ha2 (by omega)
  have HQ2 : Hid (MetaAt w2 Q t g l s e b1 b2) := HQ1.out.apart ha2 (by omega)
  clear hs2 hb2 ha2 HS1 HV1 HM1 HQ1
  have hne : ¬ Q = w.heap.size := by omega
  have hne2 : ¬ w.heap.size = Q := by omega
  by_cases e0 : x = 0
  · subst e0
    have ME : Hid (MetaAt _ w.heap.size (-1) (g) (l) (s) (e) (b1) (b2)) := (HM2.out.off (B := Q) (i := 0) (x := .int .i64 (-1)) (by omega)).all (-1) (g) (l) (s) (e) (b1) (b2)
    have HF : Hid (Below B w (w2.setCell ⟨Q, 0, none⟩ (.int .i64 (-1))) ∧ Apart B w (w2.setCell ⟨Q, 0, none⟩ (.int .i64 (-1))) ∧ Src (w2.setCell ⟨Q, 0, none⟩ (.int .i64 (-1))) B a len cap (k1 + 1)) := ⟨HV2.out.1.setCell (by show B ≤ Q; omega) _, HV2.out.2.off (by omega), src_off HS2.out (by omega)⟩
    obtain ⟨z0, z1, z2, z3, z4, z5, z6, zf, _⟩ := HM2.out
    obtain ⟨q0, q1, q2, q3, q4, q5, q6, qf, _⟩ := HQ2.out
    have zf0 := zf 0
    have zf1 := zf 1
    have zf2 := zf 2
    have zf3 := zf 3
    have zf4 := zf 4
    have zf5 := zf 5
    have zf6 := zf 6
    have qf0 := qf 0
    have qf1 := qf 1
    have qf4 := qf 4
    clear zf qf
    go_wp2_with fail
    have r0 := ME.out.c0
    have r1 := ME.out.c1
    have r2 := ME.out.c2
    have r3 := ME.out.c3
    have r4 := ME.out.c4
    have r5 := ME.out.c5
    have r6 := ME.out.c6
    refine bodyPost_ret (v := .agg #[.int .i64 (-1), .int .i64 (g), .int .i64 (l), .int .i64 (s), .int .i64 (e), .bool b1, .bool b2]) ?_ rfl ⟨⟨-1, g, l, s, e, b1, b2, ?_, rfl⟩, ⟨k1 + 1, by omega, src_off (src_off (src_off (src_off (src_off (src_off (src_off HF.out.2.2 hlt) hlt) hlt) hlt) hlt) hlt) hlt⟩, ?_, ?_⟩
    · simp [results, Try.results53, go_sem, r0, r1, r2, r3, r4, r5, r6]
    · obtain ⟨n0, n1, n2, n3, n4⟩ := HN.out
      unfold nearB at *
      omega
    · have hh := HF.out.1
      exact ((((((hh.setCell (Nat.le_of_lt hlt) _).setCell (Nat.le_of_lt hlt) _).setCell (Nat.le_of_lt hlt) _).setCell (Nat.le_of_lt hlt) _).setCell (Nat.le_of_lt hlt) _).setCell (Nat.le_of_lt hlt) _).setCell (Nat.le_of_lt hlt) _
    · have hh := HF.out.2.1
      exact ((((((hh.off (Nat.le_refl _)).off (Nat.le_refl _)).off (Nat.le_refl _)).off (Nat.le_refl _)).off (Nat.le_refl _)).off (Nat.le_refl _)).off (Nat.le_refl _)
  have d0 : (x == 0) = false := by simpa using e0
  by_cases e1 : x = 1
  · subst e1
    clear d0
    have ME : Hid (MetaAt _ w.heap.size (t) (1000000000000001) (l) (s) (e) (b1) (b2)) := (HM2.out.off (B := Q) (i := 1) (x := .int .i64 (1000000000000001)) (by omega)).all (t) (1000000000000001) (l) (s) (e) (b1) (b2)
    have HF : Hid (Below B w (w2.setCell ⟨Q, 1, none⟩ (.int .i64 (1000000000000001))) ∧ Apart B w (w2.setCell ⟨Q, 1, none⟩ (.int .i64 (1000000000000001))) ∧ Src (w2.setCell ⟨Q, 1, none⟩ (.int .i64 (1000000000000001))) B a len cap (k1 + 1)) := ⟨HV2.out.1.setCell (by show B ≤ Q; omega) _, HV2.out.2.off (by omega), src_off HS2.out (by omega)⟩
    obtain ⟨z0, z1, z2, z3, z4, z5, z6, zf, _⟩ := HM2.out
    obtain ⟨q0, q1, q2, q3, q4, q5, q6, qf, _⟩ := HQ2.out
    have zf0 := zf 0
    have zf1 := zf 1
    have zf2 := zf 2
    have zf3 := zf 3
    have zf4 := zf 4
    have zf5 := zf 5
    have zf6 := zf 6
    have qf0 := qf 0
    have qf1 := qf 1
    have qf4 := qf 4
    clear zf qf
    go_wp2_with fail
    have r0 := ME.out.c0
    have r1 := ME.out.c1
    have r2 := ME.out.c2
    have r3 := ME.out.c3
    have r4 := ME.out.c4
    have r5 := ME.out.c5
    have r6 := ME.out.c6
    refine bodyPost_ret (v := .agg #[.int .i64 (t), .int .i64 (1000000000000001), .int .i64 (l), .int .i64 (s), .int .i64 (e), .bool b1, .bool b2]) ?_ rfl ⟨⟨t, 1000000000000001, l, s, e, b1, b2, ?_, rfl⟩, ⟨k1 + 1, by omega, src_off (src_off (src_off (src_off (src_off (src_off (src_off HF.out.2.2 hlt) hlt) hlt) hlt) hlt) hlt) hlt⟩, ?_, ?_⟩
    · simp [results, Try.results53, go_sem, r0, r1, r2, r3, r4, r5, r6]
    · obtain ⟨n0, n1, n2, n3, n4⟩ := HN.out
      unfold nearB at *
      omega
    · have hh := HF.out.1
      exact ((((((hh.setCell (Nat.le_of_lt hlt) _).setCell (Nat.le_of_lt hlt) _).setCell (Nat.le_of_lt hlt) _).setCell (Nat.le_of_lt hlt) _).setCell (Nat.le_of_lt hlt) _).setCell (Nat.le_of_lt hlt) _).setCell (Nat.le_of_lt hlt) _
    · have hh := HF.out.2.1
      exact ((((((hh.off (Nat.le_refl _)).off (Nat.le_refl _)).off (Nat.le_refl _)).off (Nat.le_refl _)).off (Nat.le_refl _)).off (Nat.le_refl _)).off (Nat.le_refl _)
  have d1 : (x == 1) = false := by simpa using e1
  by_cases e2 : x = 2
  · subst e2
    clear d0 d1
    have ME : Hid (MetaAt _ w.heap.size (t) (g) (l) (s) (-1) (b1) (b2)) := (HM2.out.off (B := Q) (i := 4) (x := .int .i64 (-1)) (by omega)).all (t) (g) (l) (s) (-1) (b1) (b2)
    have HF : Hid (Below B w (w2.setCell ⟨Q, 4, none⟩ (.int .i64 (-1))) ∧ Apart B w (w2.setCell ⟨Q, 4, none⟩ (.int .i64 (-1))) ∧ Src (w2.setCell ⟨Q, 4, none⟩ (.int .i64 (-1))) B a len cap (k1 + 1)) := ⟨HV2.out.1.setCell (by show B ≤ Q; omega) _, HV2.out.2.off (by omega), src_off HS2.out (by omega)⟩
    obtain ⟨z0, z1, z2, z3, z4, z5, z6, zf, _⟩ := HM2.out
    obtain ⟨q0, q1, q2, q3, q4, q5, q6, qf, _⟩ := HQ2.out
    have zf0 := zf 0
    have zf1 := zf 1
    have zf2 := zf 2
    have zf3 := zf 3
    have zf4 := zf 4
    have zf5 := zf 5
    have zf6 := zf 6
    have qf0 := qf 0
    have qf1 := qf 1
    have qf4 := qf 4
    clear zf qf
    go_wp2_with fail
    have r0 := ME.out.c0
    have r1 := ME.out.c1
    have r2 := ME.out.c2
    have r3 := ME.out.c3
    have r4 := ME.out.c4
    have r5 := ME.out.c5
    have r6 := ME.out.c6
    refine bodyPost_ret (v := .agg #[.int .i64 (t), .int .i64 (g), .int .i64 (l), .int .i64 (s), .int .i64 (-1), .bool b1, .bool b2]) ?_ rfl ⟨⟨t, g, l, s, -1, b1, b2, ?_, rfl⟩, ⟨k1 + 1, by omega, src_off (src_off (src_off (src_off (src_off (src_off (src_off HF.out.2.2 hlt) hlt) hlt) hlt) hlt) hlt) hlt⟩, ?_, ?_⟩
    · simp [results, Try.results53, go_sem, r0, r1, r2, r3, r4, r5, r6]
    · obtain ⟨n0, n1, n2, n3, n4⟩ := HN.out
      unfold nearB at *
      omega
    · have hh := HF.out.1
      exact ((((((hh.setCell (Nat.le_of_lt hlt) _).setCell (Nat.le_of_lt hlt) _).setCell (Nat.le_of_lt hlt) _).setCell (Nat.le_of_lt hlt) _).setCell (Nat.le_of_lt hlt) _).setCell (Nat.le_of_lt hlt) _).setCell (Nat.le_of_lt hlt) _
    · have hh := HF.out.2.1
      exact ((((((hh.off (Nat.le_refl _)).off (Nat.le_refl _)).off (Nat.le_refl _)).off (Nat.le_refl _)).off (Nat.le_refl _)).off (Nat.le_refl _)).off (Nat.le_refl _)
  have d2 : (x == 2) = false := by simpa using e2
  have ME : Hid (MetaAt _ w.heap.size (t) (g) (l) (s) (e) (b1) (b2)) := HM2.out.all (t) (g) (l) (s) (e) (b1) (b2)
  have HF : Hid (Below B w w2 ∧ Apart B w w2 ∧ Src w2 B a len cap (k1 + 1)) := ⟨HV2.out.1, HV2.out.2, HS2.out⟩
  obtain ⟨z0, z1, z2, z3, z4, z5, z6, zf, _⟩ := HM2.out
  obtain ⟨q0, q1, q2, q3, q4, q5, q6, qf, _⟩ := HQ2.out
  have zf0 := zf 0
  have zf1 := zf 1
  have zf2 := zf 2
  have zf3 := zf 3
  have zf4 := zf 4
  have zf5 := zf 5
  have zf6 := zf 6
  have qf0 := qf 0
  have qf1 := qf 1
  have qf4 := qf 4
  clear zf qf
  go_wp2_with fail
  have r0 := ME.out.c0
  have r1 := ME.out.c1
  have r2 := ME.out.c2
  have r3 := ME.out.c3
  have r4 := ME.out.c4
  have r5 := ME.out.c5
  have r6 := ME.out.c6
  refine bodyPost_ret (v := .agg #[.int .i64 (t), .int .i64 (g), .int .i64 (l), .int .i64 (s), .int .i64 (e), .bool b1, .bool b2]) ?_ rfl ⟨⟨t, g, l, s, e, b1, b2, ?_, rfl⟩, ⟨k1 + 1, by omega, src_off (src_off (src_off (src_off (src_off (src_off (src_off HF.out.2.2 hlt) hlt) hlt) hlt) hlt) hlt) hlt⟩, ?_, ?_⟩
  · simp [results, Try.results53, go_sem, r0, r1, r2, r3, r4, r5, r6]
  · obtain ⟨n0, n1, n2, n3, n4⟩ := HN.out
    unfold nearB at *
    omega
  · have hh := HF.out.1
    exact ((((((hh.setCell (Nat.le_of_lt hlt) _).setCell (Nat.le_of_lt hlt) _).setCell (Nat.le_of_lt hlt) _).setCell (Nat.le_of_lt hlt) _).setCell (Nat.le_of_lt hlt) _).setCell (Nat.le_of_lt hlt) _).setCell (Nat.le_of_lt hlt) _
  · have hh := HF.out.2.1
    exact ((((((hh.off (Nat.le_refl _)).off (Nat.le_refl _)).off (Nat.le_refl _)).off (Nat.le_refl _)).off (Nat.le_refl _)).off (Nat.le_refl _)).off (Nat.le_refl _)
end Go.Proofs.Ytnbbbmhfmjkhbaa
