/-
  One trace, by the program.
-/
import Derived.Test.YtglbffjeakcgcaaTrcP
import Derived.Test.YtglbffjeakcgcaaAllowI
import Derived.Test.YtglbffjeakcgcaaNoteI
namespace Go.Proofs.Ytglbffjeakcgcaa
open Go.ChangeShapes Go.WideShapes Go.ChangeAt Go.RowKit Go.Sort
set_option maxRecDepth 100000 in
set_option maxHeartbeats 4000000 in
theorem traced_any (w : World) (b : Bk) (a : Option Addr) (cap : Nat) (a0 a1 a2 a3 a4 : Int) (x : Tr) (hl : b.l.length ≤ 1048576) (hi : MkIn w a b.l) :
    Calls Try.prog 67 #[.agg #[.int .i64 b.s, .int .i64 b.t, .int .i64 b.o, .slice a b.l.length cap], .agg #[.int .i64 a0, .int .i64 a1, .int .i64 a2, .int .i64 a3, .int .i64 a4], .agg #[.int .i64 x.tm, .bool x.ak, .bool x.gd]] w fun e w' => AllowRes w' w.heap.size (stepR b a0 a1 a2 a3 a4 x) e ∧ Below w.heap.size w w' := by
  obtain ⟨W, hW⟩ : ∃ W, W = (((w.alloc (.cells #[.int .i64 b.s, .int .i64 b.t, .int .i64 b.o, .slice a b.l.length cap] 60)).alloc (.cells #[.int .i64 a0, .int .i64 a1, .int .i64 a2, .int .i64 a3, .int .i64 a4] 50)).alloc (.cells #[.int .i64 x.tm, .bool x.ak, .bool x.gd] 62)).alloc (.cells #[.int .i64 0, .int .i64 0, .int .i64 0, .int .i64 0, .slice none 0 0, .bool false] 64) := ⟨_, rfl⟩
  have HW : Hid (W = (((w.alloc (.cells #[.int .i64 b.s, .int .i64 b.t, .int .i64 b.o, .slice a b.l.length cap] 60)).alloc (.cells #[.int .i64 a0, .int .i64 a1, .int .i64 a2, .int .i64 a3, .int .i64 a4] 50)).alloc (.cells #[.int .i64 x.tm, .bool x.ak, .bool x.gd] 62)).alloc (.cells #[.int .i64 0, .int .i64 0, .int .i64 0, .int .i64 0, .slice none 0 0, .bool false] 64)) := hW
  have K0 : Hid (Below w.heap.size w W ∧ C6 W (w.heap.size + 3) (.int .i64 0) (.int .i64 0) (.int .i64 0) (.int .i64 0) (.slice none 0 0) (.bool false) ∧ w.heap.size + 4 = W.heap.size) := by
    refine ⟨by rw [hW]; exact ((((Below.refl _ _).alloc (Nat.le_refl _) _).alloc (by simp) _).alloc (by simp <;> omega) _).alloc (by simp <;> omega) _, ?_, by rw [hW]; simp⟩
    have := C6.new (((w.alloc (.cells #[.int .i64 b.s, .int .i64 b.t, .int .i64 b.o, .slice a b.l.length cap] 60)).alloc (.cells #[.int .i64 a0, .int .i64 a1, .int .i64 a2, .int .i64 a3, .int .i64 a4] 50)).alloc (.cells #[.int .i64 x.tm, .bool x.ak, .bool x.gd] 62)) (.int .i64 0) (.int .i64 0) (.int .i64 0) (.int .i64 0) (.slice none 0 0) (.bool false) 64
    rw [hW]
    simpa using this
  obtain ⟨xt, xk, xg⟩ := x
  simp only at HW ⊢
  have hszW : w.heap.size ≤ W.heap.size := K0.out.1.size
  cases xk
  · have HN : Hid (Calls Try.prog 30 #[.agg #[.int .i64 b.s, .int .i64 b.t, .int .i64 b.o, .slice a b.l.length cap], .agg #[.int .i64 a0, .int .i64 a1, .int .i64 a2, .int .i64 a3, .int .i64 a4], .int .i64 xt, .bool xg] W fun e w' => NoteRes w' W.heap.size (noteR b.s b.t b.o b.l a0 a1 a2 a3 a4 xt xg) e ∧ Below W.heap.size W w') := implNote_any W b.s b.t b.o a cap b.l a0 a1 a2 a3 a4 xt xg hl (hi.keep K0.out.1)
    obtain ⟨q, hq⟩ : ∃ q, noteR b.s b.t b.o b.l a0 a1 a2 a3 a4 xt xg = q := ⟨_, rfl⟩
    have HQ : Hid (stepR b a0 a1 a2 a3 a4 ⟨xt, false, xg⟩ = (q.1, q.2, false)) := by
      show _ = _
      rw [← hq]
      unfold stepR noteR stepC stepB stepA
      split <;> simp
    rw [hq] at HN
    obtain ⟨q0, ⟨q1, q2, q3, ql⟩⟩ := q
    obtain ⟨m, hm⟩ : ∃ m, ql.length = m := ⟨_, rfl⟩
    have HM : Hid (ql.length = m) := hm
    clear hq hi hl hm hW
    generalize stepR b a0 a1 a2 a3 a4 ⟨xt, false, xg⟩ = sr at *
    generalize b.l.length = n at *
    go_enter Try.func67, Try.ntmps67
    go_wp2_with fail
    rw [← HW.out]
    refine HN.out.mono ?_
    rintro e w1 ⟨⟨xa, xc, rfl, mv⟩, hb1⟩
    simp only at mv ⊢
    rw [HM.out] at mv ⊢
    obtain ⟨V, hV⟩ : ∃ V, V = w1.alloc (.cells #[.int .i64 q0, .int .i64 q1, .int .i64 q2, .int .i64 q3, .slice xa m xc] 67) := ⟨_, rfl⟩
    have HV : Hid (V = w1.alloc (.cells #[.int .i64 q0, .int .i64 q1, .int .i64 q2, .int .i64 q3, .slice xa m xc] 67)) := hV
    have aV : Below w1.heap.size w1 V := by rw [hV]; exact (Below.refl _ _).alloc (Nat.le_refl _) _
    have b2 := hb1.trans (aV.mono hb1.size)
    have K1 : Hid (Below w.heap.size w V ∧ C6 V (w.heap.size + 3) (.int .i64 0) (.int .i64 0) (.int .i64 0) (.int .i64 0) (.slice none 0 0) (.bool false) ∧ MkNew V W.heap.size (.slice xa m xc) ql ∧ C5 V w1.heap.size (.int .i64 q0) (.int .i64 q1) (.int .i64 q2) (.int .i64 q3) (.slice xa m xc)) := ⟨K0.out.1.trans (b2.mono K0.out.1.size), K0.out.2.1.keep b2, mv.keep aV, by rw [hV]; exact C5.new w1 _ _ _ _ _ _⟩
    have hX : w.heap.size + 3 < W.heap.size := by have := K0.out.2.2; omega
    clear hb1 mv aV b2 hV HN K0 HW
    obtain ⟨r0, r1, r2, r3, r4, r5, rf, _⟩ := K1.out.2.1
    obtain ⟨e0, e1, e2, e3, e4, ef, _⟩ := K1.out.2.2.2
    rw [HV.out] at r0 r1 r2 r3 r4 r5 rf e0 e1 e2 e3 e4 ef
    have HMM : Hid (∀ x0 x1 x2 x3 x4 x5, MkNew ((((((V.setCell ⟨w.heap.size + 3, 0, none⟩ x0).setCell ⟨w.heap.size + 3, 1, none⟩ x1).setCell ⟨w.heap.size + 3, 2, none⟩ x2).setCell ⟨w.heap.size + 3, 3, none⟩ x3).setCell ⟨w.heap.size + 3, 4, none⟩ x4).setCell ⟨w.heap.size + 3, 5, none⟩ x5) w.heap.size (.slice xa m xc) ql) := fun x0 x1 x2 x3 x4 x5 => by
      refine MkNew.lower ?_ hszW
      exact (((((K1.out.2.2.1.gb2 (gbSet _ _ _ _) hX).gb2 (gbSet _ _ _ _) hX).gb2 (gbSet _ _ _ _) hX).gb2 (gbSet _ _ _ _) hX).gb2 (gbSet _ _ _ _) hX).gb2 (gbSet _ _ _ _) hX
    go_wp2_with fail
    rw [← HV.out] at *
    exact bodyPost_ret (v := .agg #[.int .i64 q0, .int .i64 q1, .int .i64 q2, .int .i64 q3, .slice xa m xc, .bool false]) (by simp [results, Try.results67, go_sem, r0, r1, r2, r3, r4, r5]) rfl ⟨AllowRes.mk HQ.out HM.out (HMM.out _ _ _ _ _ _), (((((K1.out.1.setCell (by simp <;> omega) _).setCell (by simp <;> omega) _).setCell (by simp <;> omega) _).setCell (by simp <;> omega) _).setCell (by simp <;> omega) _).setCell (by simp <;> omega) _⟩
  · have HN : Hid (Calls Try.prog 29 #[.agg #[.int .i64 b.s, .int .i64 b.t, .int .i64 b.o, .slice a b.l.length cap], .agg #[.int .i64 a0, .int .i64 a1, .int .i64 a2, .int .i64 a3, .int .i64 a4], .int .i64 xt] W fun e w' => AllowRes w' W.heap.size (allowR b.s b.t b.o b.l a0 a1 a2 a3 a4 xt) e ∧ Below W.heap.size W w') := implAllow_any W b.s b.t b.o a cap b.l a0 a1 a2 a3 a4 xt hl (hi.keep K0.out.1)
    obtain ⟨q, hq⟩ : ∃ q, allowR b.s b.t b.o b.l a0 a1 a2 a3 a4 xt = q := ⟨_, rfl⟩
    have HQ : Hid (stepR b a0 a1 a2 a3 a4 ⟨xt, true, xg⟩ = q) := by
      show _ = _
      rw [← hq]
      unfold stepR allowR stepC stepB stepA
      simp
    rw [hq] at HN
    obtain ⟨q0, ⟨q1, q2, q3, ql⟩, qb⟩ := q
    obtain ⟨m, hm⟩ : ∃ m, ql.length = m := ⟨_, rfl⟩
    have HM : Hid (ql.length = m) := hm
    clear hq hi hl hm hW
    generalize stepR b a0 a1 a2 a3 a4 ⟨xt, true, xg⟩ = sr at *
    generalize b.l.length = n at *
    go_enter Try.func67, Try.ntmps67
    go_wp2_with fail
    rw [← HW.out]
    refine HN.out.mono ?_
    rintro e w1 ⟨⟨xa, xc, rfl, mv⟩, hb1⟩
    simp only at mv ⊢
    rw [HM.out] at mv ⊢
    have K1 : Hid (Below w.heap.size w w1 ∧ C6 w1 (w.heap.size + 3) (.int .i64 0) (.int .i64 0) (.int .i64 0) (.int .i64 0) (.slice none 0 0) (.bool false) ∧ MkNew w1 W.heap.size (.slice xa m xc) ql) := ⟨K0.out.1.trans (hb1.mono K0.out.1.size), K0.out.2.1.keep hb1, mv⟩
    have hX : w.heap.size + 3 < W.heap.size := by have := K0.out.2.2; omega
    clear hb1 mv HN K0 HW
    obtain ⟨r0, r1, r2, r3, r4, r5, rf, _⟩ := K1.out.2.1
    have HMM : Hid (∀ x0 x1 x2 x3 x4 x5, MkNew ((((((w1.setCell ⟨w.heap.size + 3, 0, none⟩ x0).setCell ⟨w.heap.size + 3, 1, none⟩ x1).setCell ⟨w.heap.size + 3, 2, none⟩ x2).setCell ⟨w.heap.size + 3, 3, none⟩ x3).setCell ⟨w.heap.size + 3, 4, none⟩ x4).setCell ⟨w.heap.size + 3, 5, none⟩ x5) w.heap.size (.slice xa m xc) ql) := fun x0 x1 x2 x3 x4 x5 => by
      refine MkNew.lower ?_ hszW
      exact (((((K1.out.2.2.gb2 (gbSet _ _ _ _) hX).gb2 (gbSet _ _ _ _) hX).gb2 (gbSet _ _ _ _) hX).gb2 (gbSet _ _ _ _) hX).gb2 (gbSet _ _ _ _) hX).gb2 (gbSet _ _ _ _) hX
    go_wp2_with fail
    exact bodyPost_ret (v := .agg #[.int .i64 q0, .int .i64 q1, .int .i64 q2, .int .i64 q3, .slice xa m xc, .bool qb]) (by simp [results, Try.results67, go_sem, r0, r1, r2, r3, r4, r5]) rfl ⟨AllowRes.mk HQ.out HM.out (HMM.out _ _ _ _ _ _), (((((K1.out.1.setCell (by simp <;> omega) _).setCell (by simp <;> omega) _).setCell (by simp <;> omega) _).setCell (by simp <;> omega) _).setCell (by simp <;> omega) _).setCell (by simp <;> omega) _⟩
end Go.Proofs.Ytglbffjeakcgcaa
