/-
  CancelBulk, by the program.
-/
import Derived.Test.YtdfikpadanmgmaaOffI
namespace Go.Proofs.Ytdfikpadanmgmaa
open Go.ChangeShapes Go.WideShapes Go.ChangeAt Go.RowKit Go.Sort
set_option maxRecDepth 100000 in
set_option maxHeartbeats 16000000 in
theorem implCancel_any (w : World) (y : Int) (a : Option Addr) (cap : Nat) (l : List Wt) (s c t x : Int) (hl : l.length ≤ 1048576) (hcap : l.length ≤ cap) (hi : WtIn w a l) :
    Calls Try.prog 42 #[.agg #[.int .i64 y, .slice a l.length cap], .agg #[.int .i64 s, .int .i64 c, .int .i64 t], .int .i64 x] w fun e w' => ExRes w' w.heap.size (cancelR y l s c t x) e ∧ Below w.heap.size w w' := by
  obtain ⟨W, hW⟩ : ∃ W, W = ((w.alloc (.cells #[.int .i64 y, .slice a l.length cap] 35)).alloc (.cells #[.int .i64 s, .int .i64 c, .int .i64 t] 25)).alloc (.cells #[.int .i64 0, .int .i64 0, .slice none 0 0, .slice none 0 0] 54) := ⟨_, rfl⟩
  have HW : Hid (W = ((w.alloc (.cells #[.int .i64 y, .slice a l.length cap] 35)).alloc (.cells #[.int .i64 s, .int .i64 c, .int .i64 t] 25)).alloc (.cells #[.int .i64 0, .int .i64 0, .slice none 0 0, .slice none 0 0] 54)) := hW
  have K0 : Hid ((Below w.heap.size w W ∧ D2 W w.heap.size (.int .i64 y) (.slice a l.length cap) ∧ D3 W (w.heap.size + 1) (.int .i64 s) (.int .i64 c) (.int .i64 t) ∧ D4 W (w.heap.size + 2) (.int .i64 0) (.int .i64 0) (.slice none 0 0) (.slice none 0 0)) ∧ W.heap.size = w.heap.size + 3) := by
    have h1 := D2.new w (.int .i64 y) (.slice a l.length cap) 35
    obtain ⟨W1, hW1⟩ : ∃ W1, W1 = w.alloc (.cells #[.int .i64 y, .slice a l.length cap] 35) := ⟨_, rfl⟩
    rw [← hW1] at h1 hW
    have e1 : W1.heap.size = w.heap.size + 1 := by rw [hW1]; simp
    have b1 : Below w.heap.size w W1 := by rw [hW1]; exact (Below.refl _ _).alloc (Nat.le_refl _) _
    have h2 := D3.new W1 (.int .i64 s) (.int .i64 c) (.int .i64 t) 25
    obtain ⟨W2, hW2⟩ : ∃ W2, W2 = W1.alloc (.cells #[.int .i64 s, .int .i64 c, .int .i64 t] 25) := ⟨_, rfl⟩
    rw [← hW2] at h2 hW
    have e2 : W2.heap.size = w.heap.size + 2 := by rw [hW2]; simp [e1]
    have b2 : Below W1.heap.size W1 W2 := by rw [hW2]; exact (Below.refl _ _).alloc (Nat.le_refl _) _
    have b3 : Below W2.heap.size W2 W := by rw [hW]; exact (Below.refl _ _).alloc (Nat.le_refl _) _
    have h3 := D4.new W2 (.int .i64 0) (.int .i64 0) (.slice none 0 0) (.slice none 0 0) 54
    rw [← hW] at h3
    rw [e1] at h2
    rw [e2] at h3
    have b13 := b2.trans (b3.mono b2.size)
    exact ⟨⟨b1.trans (b13.mono b1.size), h1.keep b13, h2.keep b3, h3⟩, by rw [hW]; simp [e2]⟩
  have HA : Hid (Calls Try.prog 21 #[.agg #[.int .i64 y, .slice a l.length cap], .agg #[.int .i64 s, .int .i64 c, .int .i64 t]] W fun e w' => e = .returned (.int .i64 (blkC y l s c t)) ∧ Below W.heap.size W w') := implBlk_any y a cap l s c t W hcap (hi.keep K0.out.1.1)
  have HWD : Hid (∀ X, Below w.heap.size w X → Calls Try.prog 77 #[.slice a l.length cap, .int .i64 x] X fun e w' => e = .returned (.bool (hasW l x)) ∧ Below X.heap.size X w') := fun X hX => isWaiting_any X a cap l x hl (hi.keep hX)
  have HCO : Hid (l.length ≤ 8 → ∀ X ia ic, Below w.heap.size w X → NsIn X ia [x] → Calls Try.prog 85 #[.agg #[.int .i64 y, .slice a l.length cap], .slice ia 1 ic] X fun e w' => OffR w' X.heap.size y (withoutW l [x]) ia 1 ic e ∧ Below X.heap.size X w') := fun h X ia ic hX hni => callOff_any X y a ia cap ic l [x] h (by simp) (hi.keep hX) hni
  have HG : Hid (blkC y l s c t = 0 → GoodB y l s c t) := goodB_of
  have H1 : Hid (¬ blkC y l s c t = 0 → cancelR y l s c t x = ⟨blkC y l s c t, 0, [], []⟩) := cancel_bad
  have H2 : Hid (blkC y l s c t = 0 → hasW l x = false → cancelR y l s c t x = ⟨4, 0, [], []⟩) := cancel_none
  have H3 : Hid (blkC y l s c t = 0 → hasW l x = true → cancelR y l s c t x = ⟨0, y, withoutW l [x], [x]⟩) := cancel_ok
  clear hi hW
  generalize cancelR y l s c t x = q at *
  generalize blkC y l s c t = qc at *
  generalize hn : l.length = n at *
  have HN : Hid (l.length = n) := hn
  clear hn
  go_enter Try.func42, Try.ntmps42
  go_wp2_with fail
  rw [← HW.out]
  refine HA.out.mono ?_
  rintro e w1 ⟨rfl, hb1⟩
  have K0' : Hid ((Below w.heap.size w W ∧ D2 W w.heap.size (.int .i64 y) (.slice a n cap) ∧ D3 W (w.heap.size + 1) (.int .i64 s) (.int .i64 c) (.int .i64 t) ∧ D4 W (w.heap.size + 2) (.int .i64 0) (.int .i64 0) (.slice none 0 0) (.slice none 0 0)) ∧ w.heap.size + 3 ≤ W.heap.size) := ⟨K0.out.1, Nat.le_of_eq K0.out.2.symm⟩
  have K1 : Hid ((Below w.heap.size w w1 ∧ D2 w1 w.heap.size (.int .i64 y) (.slice a n cap) ∧ D3 w1 (w.heap.size + 1) (.int .i64 s) (.int .i64 c) (.int .i64 t) ∧ D4 w1 (w.heap.size + 2) (.int .i64 0) (.int .i64 0) (.slice none 0 0) (.slice none 0 0)) ∧ w.heap.size + 3 ≤ w1.heap.size) := ⟨⟨K0'.out.1.1.trans (hb1.mono K0'.out.1.1.size), K0'.out.1.2.1.keep hb1, K0'.out.1.2.2.1.keep hb1, K0'.out.1.2.2.2.keep hb1⟩, Nat.le_trans K0'.out.2 hb1.size⟩
  clear hb1 K0 K0' HW HA
  by_cases hc : qc = 0
  rotate_left
  · have n0 : (qc != 0) = true := by simpa using hc
    have HE := hid11 (H1.out hc)
    clear H1 H2 H3 HG HWD HCO
    obtain ⟨r0, r1, r2, r3, rf, _⟩ := K1.out.1.2.2.2
    go_wp2_with fail
    exact bodyPost_ret (v := .agg #[.int .i64 qc, .int .i64 0, .slice none 0 0, .slice none 0 0]) (by simp [results, Try.results42, go_sem, r0, r1, r2, r3]) rfl ⟨ExRes.mk HE.out rfl rfl (XN.nil _ _) (by simp), ((((K1.out.1.1.setCell (by simp <;> omega) _).setCell (by simp <;> omega) _).setCell (by simp <;> omega) _).setCell (by simp <;> omega) _)⟩
  subst hc
  have hg := HG.out (by trivial)
  obtain ⟨hs, hcc, ht, hy, hln, hwt, hnd⟩ := hg
  rw [HN.out] at hln
  have hn8 : n ≤ 8 := by omega
  have HC1 := hid11 (HCO.out hn8)
  clear HG H1 HCO hwt hnd
  obtain ⟨e0, e1, ef, _⟩ := K1.out.1.2.1
  go_wp2_with fail
  refine (HWD.out _ K1.out.1.1).mono ?_
  rintro e w3 ⟨rfl, hb3⟩
  have K2 : Hid ((Below w.heap.size w w3 ∧ D2 w3 w.heap.size (.int .i64 y) (.slice a n cap) ∧ D3 w3 (w.heap.size + 1) (.int .i64 s) (.int .i64 c) (.int .i64 t) ∧ D4 w3 (w.heap.size + 2) (.int .i64 0) (.int .i64 0) (.slice none 0 0) (.slice none 0 0)) ∧ w.heap.size + 3 ≤ w3.heap.size) := ⟨⟨K1.out.1.1.trans (hb3.mono K1.out.1.1.size), K1.out.1.2.1.keep hb3, K1.out.1.2.2.1.keep hb3, K1.out.1.2.2.2.keep hb3⟩, Nat.le_trans K1.out.2 hb3.size⟩
  clear HWD hb3 K1 e0 e1 ef
  cases hh : hasW l x
  · have HE := hid11 (H2.out (by trivial) hh)
    clear H2 H3 hh HC1
    obtain ⟨r0, r1, r2, r3, rf, _⟩ := K2.out.1.2.2.2
    go_wp2_with fail
    exact bodyPost_ret (v := .agg #[.int .i64 4, .int .i64 0, .slice none 0 0, .slice none 0 0]) (by simp [results, Try.results42, go_sem, r0, r1, r2, r3]) rfl ⟨ExRes.mk HE.out rfl rfl (XN.nil _ _) (by simp), ((((K2.out.1.1.setCell (by simp <;> omega) _).setCell (by simp <;> omega) _).setCell (by simp <;> omega) _).setCell (by simp <;> omega) _)⟩
  have HE := hid11 (H3.out (by trivial) hh)
  clear H2 H3 hh
  generalize withoutW l [x] = l2 at *
  obtain ⟨n2, hl2⟩ : ∃ n, l2.length = n := ⟨_, rfl⟩
  have HN2 := hid11 hl2
  clear hl2
  obtain ⟨V6, hV6⟩ : ∃ V6, V6 = w3.alloc (.cells #[.int .i64 x] 2) := ⟨_, rfl⟩
  have HV6 := hid11 hV6
  have b6 : Below w3.heap.size w3 V6 := by rw [hV6]; exact (Below.refl _ _).alloc (Nat.le_refl _) _
  have HI6 : Hid (NsNew V6 w3.heap.size (.slice (some ⟨w3.heap.size, 0, none⟩) 1 1) [x] ∧ NsIn V6 (some ⟨w3.heap.size, 0, none⟩) [x]) := by
    have hat : NsAt V6 w3.heap.size 0 [x] := fun i z hz => by
      match i, hz with
      | 0, hz => simp at hz; subst hz; rw [hV6]; simp
    exact ⟨.inr ⟨w3.heap.size, 0, 1, rfl, Nat.le_refl _, by rw [hV6]; simp, hat, fun o => by rw [hV6]; simp⟩, .inr ⟨w3.heap.size, 0, rfl, hat⟩⟩
  have K3 : Hid ((Below w.heap.size w V6 ∧ D2 V6 w.heap.size (.int .i64 y) (.slice a n cap) ∧ D3 V6 (w.heap.size + 1) (.int .i64 s) (.int .i64 c) (.int .i64 t) ∧ D4 V6 (w.heap.size + 2) (.int .i64 0) (.int .i64 0) (.slice none 0 0) (.slice none 0 0)) ∧ w.heap.size + 3 ≤ V6.heap.size) := ⟨⟨K2.out.1.1.trans (b6.mono K2.out.1.1.size), K2.out.1.2.1.keep b6, K2.out.1.2.2.1.keep b6, K2.out.1.2.2.2.keep b6⟩, Nat.le_trans K2.out.2 b6.size⟩
  obtain ⟨b0, hb0⟩ : ∃ b, w3.heap.size = b := ⟨_, rfl⟩
  have HZ6 : Hid (w.heap.size + 3 ≤ b0 ∧ V6.heap.size = b0 + 1) := ⟨by rw [← hb0]; exact K2.out.2, by rw [hV6, ← hb0]; simp⟩
  rw [hb0] at HI6
  obtain ⟨e0, e1, ef, _⟩ := K2.out.1.2.1
  clear b6 hV6 K2
  go_wp2_with fail
  rw [← HV6.out]
  clear e0 e1 ef HV6 hb0
  refine (HC1.out _ _ 1 K3.out.1.1 HI6.out.2).mono ?_
  rintro e u2 ⟨⟨va, vc, rfl, mv, mc⟩, hb⟩
  rw [HN2.out] at mv mc ⊢
  have HB6 : Hid (w.heap.size + 3 ≤ b0) := HZ6.out.1
  have XX : Hid (XN u2 b0 ⟨va, vc, some ⟨b0, 0, none⟩, 1⟩ n2 l2 1 [x] ∧ n2 ≤ vc) := ⟨⟨mv.lower (by have := HZ6.out.2; omega), HI6.out.1.keep hb, fun g h hg hh => by
    rcases mv with ⟨e, _⟩ | ⟨g5, o5, c5, e5, hb5, _⟩
    · exact .inl e
    · simp only [Value.slice.injEq] at e5
      rw [e5.1] at hg
      simp only [Value.ownBlock, Option.some.injEq] at hg hh
      have := HZ6.out.2
      right; right; omega⟩, mc⟩
  have HNW : Hid (∀ y0 y1 y2 y3, XN ((((u2.setCell ⟨w.heap.size + 2, 0, none⟩ y0).setCell ⟨w.heap.size + 2, 1, none⟩ y1).setCell ⟨w.heap.size + 2, 2, none⟩ y2).setCell ⟨w.heap.size + 2, 3, none⟩ y3) w.heap.size ⟨va, vc, some ⟨b0, 0, none⟩, 1⟩ n2 l2 1 [x]) := fun y0 y1 y2 y3 => by
    refine XN.lower ?_ (Nat.le_trans (Nat.le_add_right _ 3) HB6.out)
    refine XN.gw2 (g := w.heap.size + 2) ?_ (gwSet _ _ _ _) (by have := HB6.out; omega)
    refine XN.gw2 (g := w.heap.size + 2) ?_ (gwSet _ _ _ _) (by have := HB6.out; omega)
    refine XN.gw2 (g := w.heap.size + 2) ?_ (gwSet _ _ _ _) (by have := HB6.out; omega)
    exact XN.gw2 (g := w.heap.size + 2) XX.out.1 (gwSet _ _ _ _) (by have := HB6.out; omega)
  have HCP := hid11 XX.out.2
  have HBW := hid11 (K3.out.1.1.trans (hb.mono K3.out.1.1.size))
  obtain ⟨r0, r1, r2, r3, rf, _⟩ := K3.out.1.2.2.2.keep hb
  clear XX K3 HC1 HI6 HZ6 hb mv mc
  go_wp2_with fail
  exact bodyPost_ret (v := .agg #[.int .i64 0, .int .i64 y, .slice va n2 vc, .slice (some ⟨b0, 0, none⟩) 1 1]) (by simp [results, Try.results42, go_sem, r0, r1, r2, r3]) rfl ⟨ExRes.mk HE.out HN2.out rfl (HNW.out _ _ _ _) HCP.out, ((((HBW.out.setCell (by simp <;> omega) _).setCell (by simp <;> omega) _).setCell (by simp <;> omega) _).setCell (by simp <;> omega) _)⟩
end Go.Proofs.Ytdfikpadanmgmaa
