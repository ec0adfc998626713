/-
  CancelBulk, by the model.
-/
import Derived.Test.YtdfikpadanmgmaaExpS
namespace Go.Proofs.Ytdfikpadanmgmaa
open Go.ChangeShapes Go.WideShapes Go.ChangeAt Go.RowKit Go.Sort
set_option maxRecDepth 100000 in
set_option maxHeartbeats 16000000 in
theorem specCancel_any (w : World) (y : Int) (a : Option Addr) (cap : Nat) (l : List Wt) (s c t x : Int) (hl : l.length ≤ 1048576) (hi : WtIn w a l) :
    Calls Try.prog 41 #[.agg #[.int .i64 y, .slice a l.length cap], .agg #[.int .i64 s, .int .i64 c, .int .i64 t], .int .i64 x] w fun e w' => ExRes w' w.heap.size (cancelR y l s c t x) e ∧ Below w.heap.size w w' := by
  obtain ⟨W, hW⟩ : ∃ W, W = ((w.alloc (.cells #[.int .i64 y, .slice a l.length cap] 35)).alloc (.cells #[.int .i64 s, .int .i64 c, .int .i64 t] 25)).alloc (.cells #[.int .i64 0, .int .i64 0, .slice none 0 0, .slice none 0 0] 54) := ⟨_, rfl⟩
  have HW : Hid (W = ((w.alloc (.cells #[.int .i64 y, .slice a l.length cap] 35)).alloc (.cells #[.int .i64 s, .int .i64 c, .int .i64 t] 25)).alloc (.cells #[.int .i64 0, .int .i64 0, .slice none 0 0, .slice none 0 0] 54)) := hW
  have K0 : Hid ((Below w.heap.size w W ∧ D2 W w.heap.size (.int .i64 y) (.slice a l.length cap) ∧ D3 W (w.heap.size + 1) (.int .i64 s) (.int .i64 c) (.int .i64 t) ∧ D4 W (w.heap.size + 2) (.int .i64 0) (.int .i64 0) (.slice none 0 0) (.slice none 0 0)) ∧ W.heap.size = w.heap.size + 3) := by
    have h1 := D2.new w (.int .i64 y) (.slice a l.length cap) 35
    obtain ⟨W1, hW1⟩ : ∃ W1, W1 = w.alloc (.cells #[.int .i64 y, .slice a l.length cap] 35) := ⟨_, rfl⟩
    rw [← hW1] at h1 hW
    have e1 : W1.heap.size = w.heap.size + 1 := by rw [hW1]; simp
    have b1 : Below w.heap.size w W1 := by rw [hW1]; exact (Below.refl _ _).alloc (Nat.le_refl _) _
    have h2 := D3.new W1 (.int .i64 s) (.int .i64 c) (.int .i64 t) 25
    obtain ⟨W2, hW2⟩ : ∃ W2, W2 = W1.alloc (.cells #[.int .i64 s, .int .i64 c, .int .i64 t] 25) := ⟨_, rfl⟩
    rw [← hW2] at h2 hW
    have e2 : W2.heap.size = w.heap.size + 2 := by rw [hW2]; simp [e1]
    have b2 : Below W1.heap.size W1 W2 := by rw [hW2]; exact (Below.refl _ _).alloc (Nat.le_refl _) _
    have b3 : Below W2.heap.size W2 W := by rw [hW]; exact (Below.refl _ _).alloc (Nat.le_refl _) _
    have h3 := D4.new W2 (.int .i64 0) (.int .i64 0) (.slice none 0 0) (.slice none 0 0) 54
    rw [← hW] at h3
    rw [e1] at h2
    rw [e2] at h3
    have b13 := b2.trans (b3.mono b2.size)
    exact ⟨⟨b1.trans (b13.mono b1.size), h1.keep b13, h2.keep b3, h3⟩, by rw [hW]; simp [e2]⟩
  have HA : Hid (Calls Try.prog 19 #[.agg #[.int .i64 y, .slice a l.length cap], .agg #[.int .i64 s, .int .i64 c, .int .i64 t]] W fun e w' => e = .returned (.int .i64 (blkC y l s c t)) ∧ Below W.heap.size W w') := specBlk_any y a cap l s c t W (hi.keep K0.out.1.1)
  have HC : Hid (∀ X, (Below w.heap.size w X ∧ D2 X w.heap.size (.int .i64 y) (.slice a l.length cap) ∧ D3 X (w.heap.size + 1) (.int .i64 s) (.int .i64 c) (.int .i64 t) ∧ D4 X (w.heap.size + 2) (.int .i64 0) (.int .i64 0) (.slice none 0 0) (.slice none 0 0)) → Calls Try.prog 74 #[.pointer (some ⟨w.heap.size, 0, none⟩)] X fun e w' => CopyB w' X.heap.size y l e ∧ Below X.heap.size X w') := fun X hX => specCopyB_any X w.heap.size y a cap l hl hX.2.1 (hi.keep hX.1)
  have HFD : Hid (∀ X, (Below w.heap.size w X ∧ D2 X w.heap.size (.int .i64 y) (.slice a l.length cap) ∧ D3 X (w.heap.size + 1) (.int .i64 s) (.int .i64 c) (.int .i64 t) ∧ D4 X (w.heap.size + 2) (.int .i64 0) (.int .i64 0) (.slice none 0 0) (.slice none 0 0)) → Calls Try.prog 73 #[.pointer (some ⟨w.heap.size, 0, none⟩), .int .i64 x] X fun e w' => FindB l x e ∧ w' = X) := fun X hX => specFindB_any X w.heap.size y a cap l x hl hX.2.1 (hi.keep hX.1)
  have HGN : Hid (∀ X O va vc, l.length ≤ 8 → D2 X O (.int .i64 y) (.slice va l.length vc) → WtIn X va l → Calls Try.prog 90 #[.pointer (some ⟨O, 0, none⟩), .int .i64 x] X fun e w' => e = .returned (.tuple #[]) ∧ ∃ va vc, D2 w' O (.int .i64 y) (.slice va (withoutW l [x]).length vc) ∧ OwnWt w' X.heap.size (.slice va (withoutW l [x]).length vc) (withoutW l [x]) ∧ X.grownBy w' (some O)) := fun X O va vc h1 h2 h3 => specCan_any X O y va vc l x h1 h2 h3
  have HG : Hid (blkC y l s c t = 0 → GoodB y l s c t) := goodB_of
  have H1 : Hid (¬ blkC y l s c t = 0 → cancelR y l s c t x = ⟨blkC y l s c t, 0, [], []⟩) := cancel_bad
  have H2 : Hid (blkC y l s c t = 0 → hasW l x = false → cancelR y l s c t x = ⟨4, 0, [], []⟩) := cancel_none
  have H3 : Hid (blkC y l s c t = 0 → hasW l x = true → cancelR y l s c t x = ⟨0, y, withoutW l [x], [x]⟩) := cancel_ok
  clear hi hW
  generalize cancelR y l s c t x = q at *
  generalize blkC y l s c t = qc at *
  generalize hn : l.length = n at *
  have HN : Hid (l.length = n) := hn
  clear hn
  go_enter Try.func41, Try.ntmps41
  go_wp2_with fail
  rw [← HW.out]
  refine HA.out.mono ?_
  rintro e w1 ⟨rfl, hb1⟩
  have K0' : Hid ((Below w.heap.size w W ∧ D2 W w.heap.size (.int .i64 y) (.slice a n cap) ∧ D3 W (w.heap.size + 1) (.int .i64 s) (.int .i64 c) (.int .i64 t) ∧ D4 W (w.heap.size + 2) (.int .i64 0) (.int .i64 0) (.slice none 0 0) (.slice none 0 0)) ∧ w.heap.size + 3 ≤ W.heap.size) := ⟨K0.out.1, Nat.le_of_eq K0.out.2.symm⟩
  have K1 : Hid ((Below w.heap.size w w1 ∧ D2 w1 w.heap.size (.int .i64 y) (.slice a n cap) ∧ D3 w1 (w.heap.size + 1) (.int .i64 s) (.int .i64 c) (.int .i64 t) ∧ D4 w1 (w.heap.size + 2) (.int .i64 0) (.int .i64 0) (.slice none 0 0) (.slice none 0 0)) ∧ w.heap.size + 3 ≤ w1.heap.size) := ⟨⟨K0'.out.1.1.trans (hb1.mono K0'.out.1.1.size), K0'.out.1.2.1.keep hb1, K0'.out.1.2.2.1.keep hb1, K0'.out.1.2.2.2.keep hb1⟩, Nat.le_trans K0'.out.2 hb1.size⟩
  clear hb1 K0 K0' HW HA
  by_cases hc : qc = 0
  rotate_left
  · have n0 : (qc != 0) = true := by simpa using hc
    have HE := hid11 (H1.out hc)
    clear H1 H2 H3 HG HC HFD HGN
    obtain ⟨r0, r1, r2, r3, rf, _⟩ := K1.out.1.2.2.2
    go_wp2_with fail
    exact bodyPost_ret (v := .agg #[.int .i64 qc, .int .i64 0, .slice none 0 0, .slice none 0 0]) (by simp [results, Try.results41, go_sem, r0, r1, r2, r3]) rfl ⟨ExRes.mk HE.out rfl rfl (XN.nil _ _) (by simp), ((((K1.out.1.1.setCell (by simp <;> omega) _).setCell (by simp <;> omega) _).setCell (by simp <;> omega) _).setCell (by simp <;> omega) _)⟩
  subst hc
  have hg := HG.out (by trivial)
  obtain ⟨hs, hcc, ht, hy, hln, _, _⟩ := hg
  rw [HN.out] at hln
  have hn8 : n ≤ 8 := by omega
  clear HG H1
  go_wp2_with fail
  refine (HFD.out _ K1.out.1).mono ?_
  rintro e w3 ⟨hfd, rfl⟩
  clear HFD
  rcases hfd with ⟨k, rfl, hk, hh⟩ | ⟨rfl, hh⟩
  rotate_left
  · have HE := hid11 (H2.out (by trivial) hh)
    clear H2 H3 HC HGN hh
    obtain ⟨r0, r1, r2, r3, rf, _⟩ := K1.out.1.2.2.2
    go_wp2_with fail
    exact bodyPost_ret (v := .agg #[.int .i64 4, .int .i64 0, .slice none 0 0, .slice none 0 0]) (by simp [results, Try.results41, go_sem, r0, r1, r2, r3]) rfl ⟨ExRes.mk HE.out rfl rfl (XN.nil _ _) (by simp), ((((K1.out.1.1.setCell (by simp <;> omega) _).setCell (by simp <;> omega) _).setCell (by simp <;> omega) _).setCell (by simp <;> omega) _)⟩
  have HE := hid11 (H3.out (by trivial) hh)
  have gk : ¬ (k : Int) < 0 := by omega
  clear H2 H3 hh
  go_wp2_with fail
  refine (HC.out _ K1.out.1).mono ?_
  rintro e w4 ⟨⟨va, vc, rfl, ho⟩, hb4⟩
  rw [HN.out] at ho ⊢
  have K2 : Hid ((Below w.heap.size w w4 ∧ D2 w4 w.heap.size (.int .i64 y) (.slice a n cap) ∧ D3 w4 (w.heap.size + 1) (.int .i64 s) (.int .i64 c) (.int .i64 t) ∧ D4 w4 (w.heap.size + 2) (.int .i64 0) (.int .i64 0) (.slice none 0 0) (.slice none 0 0)) ∧ w.heap.size + 3 ≤ w4.heap.size) := ⟨⟨K1.out.1.1.trans (hb4.mono K1.out.1.1.size), K1.out.1.2.1.keep hb4, K1.out.1.2.2.1.keep hb4, K1.out.1.2.2.2.keep hb4⟩, Nat.le_trans K1.out.2 hb4.size⟩
  have HB4 : Hid (w.heap.size + 3 ≤ w4.heap.size) := Nat.le_trans K1.out.2 hb4.size
  have HO := hid11 ho
  clear ho hb4 K1 HC
  obtain ⟨V, hV⟩ : ∃ V, V = w4.alloc (.cells #[.int .i64 y, .slice va n vc] 35) := ⟨_, rfl⟩
  have HV : Hid (V = w4.alloc (.cells #[.int .i64 y, .slice va n vc] 35)) := hV
  have bV : Below w4.heap.size w4 V := by rw [hV]; exact (Below.refl _ _).alloc (Nat.le_refl _) _
  have oV : D2 V w4.heap.size (.int .i64 y) (.slice va n vc) := by rw [hV]; exact D2.new w4 _ _ _
  have K3 : Hid ((Below w.heap.size w V ∧ D2 V w.heap.size (.int .i64 y) (.slice a n cap) ∧ D3 V (w.heap.size + 1) (.int .i64 s) (.int .i64 c) (.int .i64 t) ∧ D4 V (w.heap.size + 2) (.int .i64 0) (.int .i64 0) (.slice none 0 0) (.slice none 0 0)) ∧ w.heap.size + 3 ≤ V.heap.size) := ⟨⟨K2.out.1.1.trans (bV.mono K2.out.1.1.size), K2.out.1.2.1.keep bV, K2.out.1.2.2.1.keep bV, K2.out.1.2.2.2.keep bV⟩, Nat.le_trans K2.out.2 bV.size⟩
  have HOV := hid11 (HO.out.below bV)
  obtain ⟨O, hO⟩ : ∃ b, w4.heap.size = b := ⟨_, rfl⟩
  rw [hO] at oV HB4
  have hvin : WtIn V va l := by
    obtain ⟨a5, c5, e5, _, i5⟩ := HOV.out.in
    simp only [Value.slice.injEq] at e5
    rw [e5.1]; exact i5
  have CGN := hid11 (HGN.out V O va vc hn8 oV hvin)
  clear bV hV K2 HO oV HGN hvin
  go_wp2_with fail
  rw [← HV.out]
  refine CGN.out.mono ?_
  rintro e w5 ⟨rfl, v5, c5, d5, m5, g5⟩
  clear CGN HV hO HOV
  have hnO : ∀ b, b < w.heap.size + 3 → b ≠ O := fun b hb e => by have := HB4.out; omega
  have R5 := K3.out.1.2.2.2.gw g5 (hnO _ (by omega))
  have W5 : Below w.heap.size w w5 := K3.out.1.1.trans ⟨g5.os, g5.tape, g5.output, g5.size, fun k hk => g5.block k (Nat.lt_of_lt_of_le hk K3.out.1.1.size) (fun e => hnO k (by omega) (Option.some.inj e))⟩
  have HW5 := hid11 W5
  have HB6 : Hid (w.heap.size + 3 ≤ V.heap.size) := K3.out.2
  have hv5 : ∀ q, (Value.slice v5 (withoutW l [x]).length c5).ownBlock = some q → q < w5.heap.size := fun q hq => (World.ownsRow.lt m5 q hq).2
  obtain ⟨V6, hV6⟩ : ∃ V6, V6 = w5.alloc (.cells #[.int .i64 x] 2) := ⟨_, rfl⟩
  have HV6 := hid11 hV6
  have b6 : Below w5.heap.size w5 V6 := by rw [hV6]; exact (Below.refl _ _).alloc (Nat.le_refl _) _
  have HX5 : Hid (XN V6 V.heap.size ⟨v5, c5, some ⟨w5.heap.size, 0, none⟩, 1⟩ (withoutW l [x]).length (withoutW l [x]) 1 [x]) := by
    refine ⟨m5.new.keep b6, .inr ⟨w5.heap.size, 0, 1, rfl, g5.size, by rw [hV6]; simp, fun i z hz => ?_, fun o => by rw [hV6]; simp⟩, fun g h hg hh => .inr (.inr fun e => ?_)⟩
    · match i, hz with
      | 0, hz => simp at hz; subst hz; rw [hV6]; simp
    · simp only [Value.ownBlock, Option.some.injEq] at hh
      have := hv5 g hg
      omega
  have HMC := hid11 m5.cap
  have HW6 := hid11 (HW5.out.trans (b6.mono HW5.out.size))
  have D6 := d5.keep b6
  have R6 := R5.keep b6
  generalize withoutW l [x] = l2 at *
  generalize hl2 : l2.length = n2 at *
  have HN2 := hid11 hl2
  obtain ⟨o0, o1, of, _⟩ := d5
  obtain ⟨r0, r1, r2, r3, rf, _⟩ := R6
  rw [hV6] at r0 r1 r2 r3 rf
  have HNW : Hid (∀ y0 y1 y2 y3, XN ((((V6.setCell ⟨w.heap.size + 2, 0, none⟩ y0).setCell ⟨w.heap.size + 2, 1, none⟩ y1).setCell ⟨w.heap.size + 2, 2, none⟩ y2).setCell ⟨w.heap.size + 2, 3, none⟩ y3) w.heap.size ⟨v5, c5, some ⟨w5.heap.size, 0, none⟩, 1⟩ n2 l2 1 [x]) := fun y0 y1 y2 y3 => by
    refine XN.lower ?_ (Nat.le_trans (Nat.le_add_right _ 3) HB6.out)
    refine XN.gw2 (g := w.heap.size + 2) ?_ (gwSet _ _ _ _) (by have := HB6.out; omega)
    refine XN.gw2 (g := w.heap.size + 2) ?_ (gwSet _ _ _ _) (by have := HB6.out; omega)
    refine XN.gw2 (g := w.heap.size + 2) ?_ (gwSet _ _ _ _) (by have := HB6.out; omega)
    exact XN.gw2 (g := w.heap.size + 2) HX5.out (gwSet _ _ _ _) (by have := HB6.out; omega)
  clear m5 g5 W5 K3 HX5 hnO hl2 hv5 b6 D6 R5 hV6
  go_wp2_with fail
  rw [← HV6.out]
  exact bodyPost_ret (v := .agg #[.int .i64 0, .int .i64 y, .slice v5 n2 c5, .slice (some ⟨w5.heap.size, 0, none⟩) 1 1]) (by rw [HV6.out]; simp [results, Try.results41, go_sem, r0, r1, r2, r3]) rfl ⟨ExRes.mk HE.out HN2.out rfl (HNW.out _ _ _ _) HMC.out, ((((HW6.out.setCell (by simp <;> omega) _).setCell (by simp <;> omega) _).setCell (by simp <;> omega) _).setCell (by simp <;> omega) _)⟩
end Go.Proofs.Ytdfikpadanmgmaa
