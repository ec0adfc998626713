/-
  ExpireBulk, by the model.
-/
import Derived.Test.YtdfikpadanmgmaaExpS
namespace Go.Proofs.Ytdfikpadanmgmaa
open Go.ChangeShapes Go.WideShapes Go.ChangeAt Go.RowKit Go.Sort
set_option maxRecDepth 100000 in
set_option maxHeartbeats 16000000 in
theorem specExpire_any (w : World) (y : Int) (a : Option Addr) (cap : Nat) (l : List Wt) (s c t now : Int) (hl : l.length ≤ 1048576) (hi : WtIn w a l) :
    Calls Try.prog 36 #[.agg #[.int .i64 y, .slice a l.length cap], .agg #[.int .i64 s, .int .i64 c, .int .i64 t], .int .i64 now] w fun e w' => ExRes w' w.heap.size (expireR y l s c t now) e ∧ Below w.heap.size w w' := by
  obtain ⟨W, hW⟩ : ∃ W, W = ((w.alloc (.cells #[.int .i64 y, .slice a l.length cap] 35)).alloc (.cells #[.int .i64 s, .int .i64 c, .int .i64 t] 25)).alloc (.cells #[.int .i64 0, .int .i64 0, .slice none 0 0, .slice none 0 0] 54) := ⟨_, rfl⟩
  have HW : Hid (W = ((w.alloc (.cells #[.int .i64 y, .slice a l.length cap] 35)).alloc (.cells #[.int .i64 s, .int .i64 c, .int .i64 t] 25)).alloc (.cells #[.int .i64 0, .int .i64 0, .slice none 0 0, .slice none 0 0] 54)) := hW
  have K0 : Hid ((Below w.heap.size w W ∧ D2 W w.heap.size (.int .i64 y) (.slice a l.length cap) ∧ D3 W (w.heap.size + 1) (.int .i64 s) (.int .i64 c) (.int .i64 t) ∧ D4 W (w.heap.size + 2) (.int .i64 0) (.int .i64 0) (.slice none 0 0) (.slice none 0 0)) ∧ W.heap.size = w.heap.size + 3) := by
    have h1 := D2.new w (.int .i64 y) (.slice a l.length cap) 35
    obtain ⟨W1, hW1⟩ : ∃ W1, W1 = w.alloc (.cells #[.int .i64 y, .slice a l.length cap] 35) := ⟨_, rfl⟩
    rw [← hW1] at h1 hW
    have e1 : W1.heap.size = w.heap.size + 1 := by rw [hW1]; simp
    have b1 : Below w.heap.size w W1 := by rw [hW1]; exact (Below.refl _ _).alloc (Nat.le_refl _) _
    have h2 := D3.new W1 (.int .i64 s) (.int .i64 c) (.int .i64 t) 25
    obtain ⟨W2, hW2⟩ : ∃ W2, W2 = W1.alloc (.cells #[.int .i64 s, .int .i64 c, .int .i64 t] 25) := ⟨_, rfl⟩
    rw [← hW2] at h2 hW
    have e2 : W2.heap.size = w.heap.size + 2 := by rw [hW2]; simp [e1]
    have b2 : Below W1.heap.size W1 W2 := by rw [hW2]; exact (Below.refl _ _).alloc (Nat.le_refl _) _
    have b3 : Below W2.heap.size W2 W := by rw [hW]; exact (Below.refl _ _).alloc (Nat.le_refl _) _
    have h3 := D4.new W2 (.int .i64 0) (.int .i64 0) (.slice none 0 0) (.slice none 0 0) 54
    rw [← hW] at h3
    rw [e1] at h2
    rw [e2] at h3
    have b13 := b2.trans (b3.mono b2.size)
    exact ⟨⟨b1.trans (b13.mono b1.size), h1.keep b13, h2.keep b3, h3⟩, by rw [hW]; simp [e2]⟩
  have HA : Hid (Calls Try.prog 19 #[.agg #[.int .i64 y, .slice a l.length cap], .agg #[.int .i64 s, .int .i64 c, .int .i64 t]] W fun e w' => e = .returned (.int .i64 (blkC y l s c t)) ∧ Below W.heap.size W w') := specBlk_any y a cap l s c t W (hi.keep K0.out.1.1)
  have HC : Hid (∀ X, (Below w.heap.size w X ∧ D2 X w.heap.size (.int .i64 y) (.slice a l.length cap) ∧ D3 X (w.heap.size + 1) (.int .i64 s) (.int .i64 c) (.int .i64 t) ∧ D4 X (w.heap.size + 2) (.int .i64 0) (.int .i64 0) (.slice none 0 0) (.slice none 0 0)) → Calls Try.prog 74 #[.pointer (some ⟨w.heap.size, 0, none⟩)] X fun e w' => CopyB w' X.heap.size y l e ∧ Below X.heap.size X w') := fun X hX => specCopyB_any X w.heap.size y a cap l hl hX.2.1 (hi.keep hX.1)
  have HU : Hid (∀ x w, Calls Try.prog 67 #[.int .i64 x] w fun r w' => r = .returned (.bool (timeB x)) ∧ w' = w) := l1Time_all
  have HGN : Hid (∀ X O va vc, l.length ≤ 8 → D2 X O (.int .i64 y) (.slice va l.length vc) → WtIn X va l → Calls Try.prog 84 #[.pointer (some ⟨O, 0, none⟩), .int .i64 now] X fun e w' => GoneB X w' O y (leftW now l) (goneW now l) e) := fun X O va vc h1 h2 h3 => specGone_any X O y va vc l now h1 h2 h3
  have HG : Hid (blkC y l s c t = 0 → GoodB y l s c t) := goodB_of
  have H1 : Hid (¬ blkC y l s c t = 0 → expireR y l s c t now = ⟨blkC y l s c t, 0, [], []⟩) := expire_bad
  have H2 : Hid (blkC y l s c t = 0 → timeB now = false → expireR y l s c t now = ⟨3, 0, [], []⟩) := expire_range
  have H3 : Hid (blkC y l s c t = 0 → timeB now = true → expireR y l s c t now = ⟨0, y, leftW now l, goneW now l⟩) := expire_ok
  clear hi hW
  generalize expireR y l s c t now = q at *
  generalize blkC y l s c t = qc at *
  generalize hn : l.length = n at *
  have HN : Hid (l.length = n) := hn
  clear hn
  go_enter Try.func36, Try.ntmps36
  go_wp2_with fail
  rw [← HW.out]
  refine HA.out.mono ?_
  rintro e w1 ⟨rfl, hb1⟩
  have K0' : Hid ((Below w.heap.size w W ∧ D2 W w.heap.size (.int .i64 y) (.slice a n cap) ∧ D3 W (w.heap.size + 1) (.int .i64 s) (.int .i64 c) (.int .i64 t) ∧ D4 W (w.heap.size + 2) (.int .i64 0) (.int .i64 0) (.slice none 0 0) (.slice none 0 0)) ∧ w.heap.size + 3 ≤ W.heap.size) := ⟨K0.out.1, Nat.le_of_eq K0.out.2.symm⟩
  have K1 : Hid ((Below w.heap.size w w1 ∧ D2 w1 w.heap.size (.int .i64 y) (.slice a n cap) ∧ D3 w1 (w.heap.size + 1) (.int .i64 s) (.int .i64 c) (.int .i64 t) ∧ D4 w1 (w.heap.size + 2) (.int .i64 0) (.int .i64 0) (.slice none 0 0) (.slice none 0 0)) ∧ w.heap.size + 3 ≤ w1.heap.size) := ⟨⟨K0'.out.1.1.trans (hb1.mono K0'.out.1.1.size), K0'.out.1.2.1.keep hb1, K0'.out.1.2.2.1.keep hb1, K0'.out.1.2.2.2.keep hb1⟩, Nat.le_trans K0'.out.2 hb1.size⟩
  clear hb1 K0 K0' HW HA
  by_cases hc : qc = 0
  rotate_left
  · have n0 : (qc != 0) = true := by simpa using hc
    have HE := hid11 (H1.out hc)
    clear H1 H2 H3 HG HC HU HGN
    obtain ⟨r0, r1, r2, r3, rf, _⟩ := K1.out.1.2.2.2
    go_wp2_with fail
    exact bodyPost_ret (v := .agg #[.int .i64 qc, .int .i64 0, .slice none 0 0, .slice none 0 0]) (by simp [results, Try.results36, go_sem, r0, r1, r2, r3]) rfl ⟨ExRes.mk HE.out rfl rfl (XN.nil _ _) (by simp), ((((K1.out.1.1.setCell (by simp <;> omega) _).setCell (by simp <;> omega) _).setCell (by simp <;> omega) _).setCell (by simp <;> omega) _)⟩
  subst hc
  have hg := HG.out (by trivial)
  obtain ⟨hs, hcc, ht, hy, hln, _, _⟩ := hg
  rw [HN.out] at hln
  have hn8 : n ≤ 8 := by omega
  clear HG H1
  cases hx1 : timeB now
  · have HE := hid11 (H2.out (by trivial) hx1)
    clear H2 H3 HC HGN
    go_wp2_with fail
    refine (HU.out now _).mono ?_
    rintro e w2 ⟨rfl, rfl⟩
    rw [hx1]
    obtain ⟨r0, r1, r2, r3, rf, _⟩ := K1.out.1.2.2.2
    go_wp2_with fail
    exact bodyPost_ret (v := .agg #[.int .i64 3, .int .i64 0, .slice none 0 0, .slice none 0 0]) (by simp [results, Try.results36, go_sem, r0, r1, r2, r3]) rfl ⟨ExRes.mk HE.out rfl rfl (XN.nil _ _) (by simp), ((((K1.out.1.1.setCell (by simp <;> omega) _).setCell (by simp <;> omega) _).setCell (by simp <;> omega) _).setCell (by simp <;> omega) _)⟩
  have HE := hid11 (H3.out (by trivial) hx1)
  clear H2 H3
  go_wp2_with fail
  refine (HU.out now _).mono ?_
  rintro e w2 ⟨rfl, rfl⟩
  rw [hx1]
  go_wp2_with fail
  refine (HC.out _ K1.out.1).mono ?_
  rintro e w4 ⟨⟨va, vc, rfl, ho⟩, hb4⟩
  rw [HN.out] at ho ⊢
  have K2 : Hid ((Below w.heap.size w w4 ∧ D2 w4 w.heap.size (.int .i64 y) (.slice a n cap) ∧ D3 w4 (w.heap.size + 1) (.int .i64 s) (.int .i64 c) (.int .i64 t) ∧ D4 w4 (w.heap.size + 2) (.int .i64 0) (.int .i64 0) (.slice none 0 0) (.slice none 0 0)) ∧ w.heap.size + 3 ≤ w4.heap.size) := ⟨⟨K1.out.1.1.trans (hb4.mono K1.out.1.1.size), K1.out.1.2.1.keep hb4, K1.out.1.2.2.1.keep hb4, K1.out.1.2.2.2.keep hb4⟩, Nat.le_trans K1.out.2 hb4.size⟩
  have HB4 : Hid (w.heap.size + 3 ≤ w4.heap.size) := Nat.le_trans K1.out.2 hb4.size
  have HO := hid11 ho
  clear ho hb4 K1 HC
  obtain ⟨V, hV⟩ : ∃ V, V = w4.alloc (.cells #[.int .i64 y, .slice va n vc] 35) := ⟨_, rfl⟩
  have HV : Hid (V = w4.alloc (.cells #[.int .i64 y, .slice va n vc] 35)) := hV
  have bV : Below w4.heap.size w4 V := by rw [hV]; exact (Below.refl _ _).alloc (Nat.le_refl _) _
  have oV : D2 V w4.heap.size (.int .i64 y) (.slice va n vc) := by rw [hV]; exact D2.new w4 _ _ _
  have K3 : Hid ((Below w.heap.size w V ∧ D2 V w.heap.size (.int .i64 y) (.slice a n cap) ∧ D3 V (w.heap.size + 1) (.int .i64 s) (.int .i64 c) (.int .i64 t) ∧ D4 V (w.heap.size + 2) (.int .i64 0) (.int .i64 0) (.slice none 0 0) (.slice none 0 0)) ∧ w.heap.size + 3 ≤ V.heap.size) := ⟨⟨K2.out.1.1.trans (bV.mono K2.out.1.1.size), K2.out.1.2.1.keep bV, K2.out.1.2.2.1.keep bV, K2.out.1.2.2.2.keep bV⟩, Nat.le_trans K2.out.2 bV.size⟩
  have HOV := hid11 (HO.out.below bV)
  obtain ⟨O, hO⟩ : ∃ b, w4.heap.size = b := ⟨_, rfl⟩
  rw [hO] at oV HB4
  have hvin : WtIn V va l := by
    obtain ⟨a5, c5, e5, _, i5⟩ := HOV.out.in
    simp only [Value.slice.injEq] at e5
    rw [e5.1]; exact i5
  have CGN := hid11 (HGN.out V O va vc hn8 oV hvin)
  clear bV hV K2 HO oV HGN hvin HU hx1
  go_wp2_with fail
  rw [← HV.out]
  refine CGN.out.mono ?_
  rintro e w5 ⟨v5, c5, vi, rfl, d5, m5, i5, ap5, g5⟩
  clear CGN HV hO HOV
  have hnO : ∀ b, b < w.heap.size + 3 → b ≠ O := fun b hb e => by have := HB4.out; omega
  have R5 := K3.out.1.2.2.2.gw g5 (hnO _ (by omega))
  have W5 : Below w.heap.size w w5 := K3.out.1.1.trans ⟨g5.os, g5.tape, g5.output, g5.size, fun k hk => g5.block k (Nat.lt_of_lt_of_le hk K3.out.1.1.size) (fun e => hnO k (by omega) (Option.some.inj e))⟩
  have HW5 := hid11 W5
  obtain ⟨ia, ic, rfl, _, _⟩ := i5.in
  have HB6 : Hid (w.heap.size + 3 ≤ V.heap.size) := K3.out.2
  have HX5 : Hid (XN w5 V.heap.size ⟨v5, c5, ia, ic⟩ (leftW now l).length (leftW now l) (goneW now l).length (goneW now l)) := ⟨m5.new, i5.new, fun g h hg hh => .inr (.inr fun e => ap5 g hg (e ▸ hh))⟩
  have HMC := hid11 m5.cap
  generalize leftW now l = l2 at *
  generalize goneW now l = l3 at *
  generalize hl2 : l2.length = n2 at *
  generalize hl3 : l3.length = n3 at *
  have HN2 := hid11 hl2
  have HN3 := hid11 hl3
  obtain ⟨o0, o1, of, _⟩ := d5
  obtain ⟨r0, r1, r2, r3, rf, _⟩ := R5
  have HNW : Hid (∀ y0 y1 y2 y3, XN ((((w5.setCell ⟨w.heap.size + 2, 0, none⟩ y0).setCell ⟨w.heap.size + 2, 1, none⟩ y1).setCell ⟨w.heap.size + 2, 2, none⟩ y2).setCell ⟨w.heap.size + 2, 3, none⟩ y3) w.heap.size ⟨v5, c5, ia, ic⟩ n2 l2 n3 l3) := fun y0 y1 y2 y3 => by
    refine XN.lower ?_ (Nat.le_trans (Nat.le_add_right _ 3) HB6.out)
    refine XN.gw2 (g := w.heap.size + 2) ?_ (gwSet _ _ _ _) (by have := HB6.out; omega)
    refine XN.gw2 (g := w.heap.size + 2) ?_ (gwSet _ _ _ _) (by have := HB6.out; omega)
    refine XN.gw2 (g := w.heap.size + 2) ?_ (gwSet _ _ _ _) (by have := HB6.out; omega)
    exact XN.gw2 (g := w.heap.size + 2) HX5.out (gwSet _ _ _ _) (by have := HB6.out; omega)
  clear m5 i5 ap5 g5 W5 K3 HX5 hnO hl2 hl3
  go_wp2_with fail
  exact bodyPost_ret (v := .agg #[.int .i64 0, .int .i64 y, .slice v5 n2 c5, .slice ia n3 ic]) (by simp [results, Try.results36, go_sem, r0, r1, r2, r3]) rfl ⟨ExRes.mk HE.out HN2.out HN3.out (HNW.out _ _ _ _) HMC.out, ((((HW5.out.setCell (by simp <;> omega) _).setCell (by simp <;> omega) _).setCell (by simp <;> omega) _).setCell (by simp <;> omega) _)⟩
end Go.Proofs.Ytdfikpadanmgmaa
