/-
  EnterBulk, by the program.
-/
import Derived.Test.YtmgidcigihpbeaaEnterP
import Derived.Test.YtmgidcigihpbeaaBlkImpl
import Derived.Deep.CutRange
import Derived.Deep.CutBlock
namespace Go.Proofs.Ytmgidcigihpbeaa
open Go.ChangeShapes Go.WideShapes Go.ChangeAt Go.RowKit Go.Sort
set_option maxRecDepth 100000 in
set_option maxHeartbeats 4000000 in
theorem behindAll_any (w : World) (a : Option Addr) (cap : Nat) (l : List Wt) (x due : Int) (hl : l.length ≤ 1000000) (hc : l.length ≤ cap) (hi : WtIn w a l) :
    Calls Try.prog 45 #[.slice a l.length cap, .agg #[.int .i64 x, .int .i64 due]] w fun e w' => WtRes w' w.heap.size (l ++ [⟨x, due⟩]) e ∧ Below w.heap.size w w' := by
  obtain ⟨W, hW⟩ : ∃ W, W = w.alloc (.cells #[.int .i64 x, .int .i64 due] 40) := ⟨_, rfl⟩
  have HW : Hid (W = w.alloc (.cells #[.int .i64 x, .int .i64 due] 40)) := hW
  have bW : Below w.heap.size w W := by rw [hW]; exact (Below.refl _ _).alloc (Nat.le_refl _) _
  have f0 : D2 W w.heap.size (.int .i64 x) (.int .i64 due) := by rw [hW]; exact D2.new w _ _ _
  obtain ⟨n, hn⟩ : ∃ n, l.length = n := ⟨_, rfl⟩
  have HN : Hid (l.length = n) := hn
  rw [hn] at hl hc ⊢
  clear hn
  cases a with
  | none =>
    have e : l = [] := by
      rcases hi with h | ⟨b, off, h, _⟩
      · exact h
      · cases h
    have e0 : n = 0 := by rw [← HN.out, e]; rfl
    subst e0
    have HKS : Hid (∀ X, Below W.heap.size W X → X.cell? ⟨w.heap.size, 0, none⟩ = some (.int .i64 x) ∧ X.cell? ⟨w.heap.size, 1, none⟩ = some (.int .i64 due)) := fun X hb => ⟨(f0.keep hb).c0, (f0.keep hb).c1⟩
    have HI : Hid (∀ X, Below w.heap.size w X → WtIn X none l) := fun X hb => hi.keep hb
    have BW := hid11 bW
    have B0 : Hid (Below W.heap.size W W.drew) := (Below.refl _ _).drew
    have C1 : Hid (Below W.heap.size W (W.alloc (.cells #[.int .i64 x, .int .i64 due] 40)).drew) := ((Below.refl _ _).alloc (Nat.le_refl _) _).drew
    have C2 : Hid (Below W.heap.size W (W.drew.alloc (.cells #[.int .i64 x, .int .i64 due] 40))) := ((Below.refl _ _).drew).alloc (Nat.le_refl _) _
    have B1 := hid11 (bW.trans (C1.out.mono bW.size))
    have N1 : Hid ((W.alloc (.cells #[.int .i64 x, .int .i64 due] 40)).drew.cell? ⟨W.heap.size, 0, none⟩ = some (.int .i64 x) ∧ (W.alloc (.cells #[.int .i64 x, .int .i64 due] 40)).drew.cell? ⟨W.heap.size, 1, none⟩ = some (.int .i64 due)) := ⟨by simp, by simp⟩
    clear f0 bW hW hi
    go_enter Try.func45, Try.ntmps45
    go_wp2_with fail
    rw [← HW.out]
    go_region_held3 (fun X => X.cell? ⟨w.heap.size, 0, none⟩ = some (.int .i64 x) ∧ X.cell? ⟨w.heap.size, 1, none⟩ = some (.int .i64 due))
      (first | exact HKS.out _ BY.out | exact HKS.out _ B0.out | exact HKS.out _ C1.out | exact HKS.out _ C2.out)
      (first | (refine step_appendNewWt (by rfl) _ _ (by rfl) l ⟨x, due⟩ none 0 W.heap.size HN.out (by intro _; rfl) (by rfl) (HI.out _ B1.out) (by rfl) N1.out.1 N1.out.2 (by omega) ?_; intro v1 w1 ho1 hb1; have BZ : Hid (Below w.heap.size w w1) := B1.out.trans (hb1.mono B1.out.size); have OZ : Hid (OwnWt w1 w.heap.size v1 (l ++ [⟨x, due⟩])) := ho1.lower B1.out.size; have BY : Hid (Below W.heap.size W w1) := C1.out.trans (hb1.mono C1.out.size); clear ho1 hb1))
    all_goals
      clear HKS HI BW B0 C1 C2 B1 N1 BY HW
      go_wp2_with fail
      go_ret
      exact ⟨WtRes.of OZ.out, BZ.out⟩
  | some ad =>
    have gc : (n : Int) ≤ cap := by omega
    have g0 : (0 : Int) ≤ n := by omega
    have HKS : Hid (∀ X, Below W.heap.size W X → X.cell? ⟨w.heap.size, 0, none⟩ = some (.int .i64 x) ∧ X.cell? ⟨w.heap.size, 1, none⟩ = some (.int .i64 due)) := fun X hb => ⟨(f0.keep hb).c0, (f0.keep hb).c1⟩
    have HI : Hid (∀ X, Below w.heap.size w X → WtIn X (some ad) l) := fun X hb => hi.keep hb
    have BW := hid11 bW
    have B0 : Hid (Below W.heap.size W W.drew) := (Below.refl _ _).drew
    have C1 : Hid (Below W.heap.size W (W.alloc (.cells #[.int .i64 x, .int .i64 due] 40)).drew) := ((Below.refl _ _).alloc (Nat.le_refl _) _).drew
    have C2 : Hid (Below W.heap.size W (W.drew.alloc (.cells #[.int .i64 x, .int .i64 due] 40))) := ((Below.refl _ _).drew).alloc (Nat.le_refl _) _
    have B1 := hid11 (bW.trans (C1.out.mono bW.size))
    have N1 : Hid ((W.alloc (.cells #[.int .i64 x, .int .i64 due] 40)).drew.cell? ⟨W.heap.size, 0, none⟩ = some (.int .i64 x) ∧ (W.alloc (.cells #[.int .i64 x, .int .i64 due] 40)).drew.cell? ⟨W.heap.size, 1, none⟩ = some (.int .i64 due)) := ⟨by simp, by simp⟩
    clear f0 bW hW hi
    go_enter Try.func45, Try.ntmps45
    go_wp2_with fail
    rw [← HW.out]
    go_region_held3 (fun X => X.cell? ⟨w.heap.size, 0, none⟩ = some (.int .i64 x) ∧ X.cell? ⟨w.heap.size, 1, none⟩ = some (.int .i64 due))
      (first | exact HKS.out _ BY.out | exact HKS.out _ B0.out | exact HKS.out _ C1.out | exact HKS.out _ C2.out)
      (first | (refine step_appendNewWt (by rfl) _ _ (by rfl) l ⟨x, due⟩ (some ad) n W.heap.size HN.out (by intro e; cases e) (by rfl) (HI.out _ B1.out) (by rfl) N1.out.1 N1.out.2 (by omega) ?_; intro v1 w1 ho1 hb1; have BZ : Hid (Below w.heap.size w w1) := B1.out.trans (hb1.mono B1.out.size); have OZ : Hid (OwnWt w1 w.heap.size v1 (l ++ [⟨x, due⟩])) := ho1.lower B1.out.size; have BY : Hid (Below W.heap.size W w1) := C1.out.trans (hb1.mono C1.out.size); clear ho1 hb1))
    all_goals
      clear HKS HI BW B0 C1 C2 B1 N1 BY HW
      go_wp2_with fail
      go_ret
      exact ⟨WtRes.of OZ.out, BZ.out⟩
set_option maxRecDepth 100000 in
set_option maxHeartbeats 16000000 in
theorem implEnter_any (w : World) (y : Int) (a : Option Addr) (cap : Nat) (l : List Wt) (s c t x now : Int) (hl : l.length ≤ 1048576) (hcap : l.length ≤ cap) (hi : WtIn w a l) :
    Calls Try.prog 9 #[.agg #[.int .i64 y, .slice a l.length cap], .agg #[.int .i64 s, .int .i64 c, .int .i64 t], .int .i64 x, .int .i64 now] w fun e w' => EnRes w' w.heap.size (enterR y l s c t x now) e ∧ Below w.heap.size w w' := by
  obtain ⟨W, hW⟩ : ∃ W, W = ((w.alloc (.cells #[.int .i64 y, .slice a l.length cap] 26)).alloc (.cells #[.int .i64 s, .int .i64 c, .int .i64 t] 28)).alloc (.cells #[.int .i64 0, .int .i64 0, .slice none 0 0, .bool false] 32) := ⟨_, rfl⟩
  have HW : Hid (W = ((w.alloc (.cells #[.int .i64 y, .slice a l.length cap] 26)).alloc (.cells #[.int .i64 s, .int .i64 c, .int .i64 t] 28)).alloc (.cells #[.int .i64 0, .int .i64 0, .slice none 0 0, .bool false] 32)) := hW
  have K0 : Hid ((Below w.heap.size w W ∧ D2 W w.heap.size (.int .i64 y) (.slice a l.length cap) ∧ D3 W (w.heap.size + 1) (.int .i64 s) (.int .i64 c) (.int .i64 t) ∧ D4 W (w.heap.size + 2) (.int .i64 0) (.int .i64 0) (.slice none 0 0) (.bool false)) ∧ W.heap.size = w.heap.size + 3) := by
    have h1 := D2.new w (.int .i64 y) (.slice a l.length cap) 26
    obtain ⟨W1, hW1⟩ : ∃ W1, W1 = w.alloc (.cells #[.int .i64 y, .slice a l.length cap] 26) := ⟨_, rfl⟩
    rw [← hW1] at h1 hW
    have e1 : W1.heap.size = w.heap.size + 1 := by rw [hW1]; simp
    have b1 : Below w.heap.size w W1 := by rw [hW1]; exact (Below.refl _ _).alloc (Nat.le_refl _) _
    have h2 := D3.new W1 (.int .i64 s) (.int .i64 c) (.int .i64 t) 28
    obtain ⟨W2, hW2⟩ : ∃ W2, W2 = W1.alloc (.cells #[.int .i64 s, .int .i64 c, .int .i64 t] 28) := ⟨_, rfl⟩
    rw [← hW2] at h2 hW
    have e2 : W2.heap.size = w.heap.size + 2 := by rw [hW2]; simp [e1]
    have b2 : Below W1.heap.size W1 W2 := by rw [hW2]; exact (Below.refl _ _).alloc (Nat.le_refl _) _
    have b3 : Below W2.heap.size W2 W := by rw [hW]; exact (Below.refl _ _).alloc (Nat.le_refl _) _
    have h3 := D4.new W2 (.int .i64 0) (.int .i64 0) (.slice none 0 0) (.bool false) 32
    rw [← hW] at h3
    rw [e1] at h2
    rw [e2] at h3
    have b13 := b2.trans (b3.mono b2.size)
    exact ⟨⟨b1.trans (b13.mono b1.size), h1.keep b13, h2.keep b3, h3⟩, by rw [hW]; simp [e2]⟩
  have HA : Hid (Calls Try.prog 11 #[.agg #[.int .i64 y, .slice a l.length cap], .agg #[.int .i64 s, .int .i64 c, .int .i64 t]] W fun e w' => e = .returned (.int .i64 (blkC y l s c t)) ∧ Below W.heap.size W w') := implBlk_any y a cap l s c t W hcap (hi.keep K0.out.1.1)
  have HW0 : Hid (∀ x lo hi w, Calls Try.prog 40 #[.int .i64 x, .int .i64 lo, .int .i64 hi] w fun r w' => r = .returned (.bool (inW lo hi x)) ∧ w' = w) := isWithin_all
  have HU : Hid (∀ x w, Calls Try.prog 41 #[.int .i64 x] w fun r w' => r = .returned (.bool (timeB x)) ∧ w' = w) := isTime_all
  have HWD : Hid (∀ X, Below w.heap.size w X → Calls Try.prog 42 #[.slice a l.length cap, .int .i64 x] X fun e w' => e = .returned (.bool (hasW l x)) ∧ Below X.heap.size X w') := fun X hX => isWaiting_any X a cap l x hl (hi.keep hX)
  have HC : Hid (∀ X, Below w.heap.size w X → Calls Try.prog 43 #[.slice a l.length cap] X fun e w' => WtRes w' X.heap.size l e ∧ Below X.heap.size X w') := fun X hX => cloneWt_any X a cap l hl (hi.keep hX)
  have HBH : Hid (l.length ≤ 8 → ∀ X due, Below w.heap.size w X → Calls Try.prog 45 #[.slice a l.length cap, .agg #[.int .i64 x, .int .i64 due]] X fun e w' => WtRes w' X.heap.size (l ++ [⟨x, due⟩]) e ∧ Below X.heap.size X w') := fun h X due hX => behindAll_any X a cap l x due (by omega) hcap (hi.keep hX)
  have HAD : Hid (0 ≤ now ∧ now ≤ 1000000000000000 → 0 ≤ t ∧ t ≤ 1000000 → ∀ X, Calls Try.prog 44 #[.int .i64 now, .int .i64 t] X fun r w' => r = .returned (.int .i64 (addT now t)) ∧ w' = X) := fun h1 h2 X => plus_all now t h1 ⟨h2.1, by omega⟩ X
  have HG : Hid (blkC y l s c t = 0 → GoodB y l s c t) := goodB_of
  have H1 : Hid (¬ blkC y l s c t = 0 → enterR y l s c t x now = ⟨blkC y l s c t, 0, [], false⟩) := enter_bad
  have H2 : Hid (blkC y l s c t = 0 → (timeB x && timeB now) = false → enterR y l s c t x now = ⟨3, 0, [], false⟩) := enter_range
  have H3 : Hid (blkC y l s c t = 0 → (timeB x && timeB now) = true → hasW l x = true → enterR y l s c t x now = ⟨6, 0, [], false⟩) := enter_taken
  have H4 : Hid (blkC y l s c t = 0 → (timeB x && timeB now) = true → hasW l x = false → y < s → enterR y l s c t x now = ⟨0, y + 1, l, true⟩) := enter_start
  have H5 : Hid (blkC y l s c t = 0 → (timeB x && timeB now) = true → hasW l x = false → ¬ y < s → c ≤ (l.length : Int) → enterR y l s c t x now = ⟨7, 0, [], false⟩) := enter_full
  have H6 : Hid (blkC y l s c t = 0 → (timeB x && timeB now) = true → hasW l x = false → ¬ y < s → ¬ c ≤ (l.length : Int) → enterR y l s c t x now = ⟨0, y, l ++ [⟨x, addT now t⟩], false⟩) := enter_wait
  clear hi hW
  generalize enterR y l s c t x now = q at *
  generalize blkC y l s c t = qc at *
  generalize hn : l.length = n at *
  have HN : Hid (l.length = n) := hn
  clear hn
  go_enter Try.func9, Try.ntmps9
  go_wp2_with fail
  rw [← HW.out]
  refine HA.out.mono ?_
  rintro e w1 ⟨rfl, hb1⟩
  have K0' : Hid ((Below w.heap.size w W ∧ D2 W w.heap.size (.int .i64 y) (.slice a n cap) ∧ D3 W (w.heap.size + 1) (.int .i64 s) (.int .i64 c) (.int .i64 t) ∧ D4 W (w.heap.size + 2) (.int .i64 0) (.int .i64 0) (.slice none 0 0) (.bool false)) ∧ w.heap.size + 3 ≤ W.heap.size) := ⟨K0.out.1, Nat.le_of_eq K0.out.2.symm⟩
  have K1 : Hid ((Below w.heap.size w w1 ∧ D2 w1 w.heap.size (.int .i64 y) (.slice a n cap) ∧ D3 w1 (w.heap.size + 1) (.int .i64 s) (.int .i64 c) (.int .i64 t) ∧ D4 w1 (w.heap.size + 2) (.int .i64 0) (.int .i64 0) (.slice none 0 0) (.bool false)) ∧ w.heap.size + 3 ≤ w1.heap.size) := ⟨⟨K0'.out.1.1.trans (hb1.mono K0'.out.1.1.size), K0'.out.1.2.1.keep hb1, K0'.out.1.2.2.1.keep hb1, K0'.out.1.2.2.2.keep hb1⟩, Nat.le_trans K0'.out.2 hb1.size⟩
  clear hb1 K0 K0' HW HA
  by_cases hc : qc = 0
  rotate_left
  · have n0 : (qc != 0) = true := by simpa using hc
    have HE := hid11 (H1.out hc)
    clear H1 H2 H3 H4 H5 H6 HG HC HWD HAD HU HW0 HBH
    obtain ⟨r0, r1, r2, r3, rf, _⟩ := K1.out.1.2.2.2
    go_wp2_with fail
    exact bodyPost_ret (v := .agg #[.int .i64 qc, .int .i64 0, .slice none 0 0, .bool false]) (by simp [results, Try.results9, go_sem, r0, r1, r2, r3]) rfl ⟨EnRes.mk HE.out rfl (WtNew.nil _ _ _ _) (by simp), ((((K1.out.1.1.setCell (by simp <;> omega) _).setCell (by simp <;> omega) _).setCell (by simp <;> omega) _).setCell (by simp <;> omega) _)⟩
  subst hc
  have hg := HG.out (by trivial)
  obtain ⟨hs, hcc, ht, hy, hln, _, _⟩ := hg
  rw [HN.out] at hln
  have HADD := hid11 (fun h => HAD.out h ht)
  have hn8 : n ≤ 8 := by omega
  have HBHD := hid11 (HBH.out hn8)
  clear HG HAD H1 HBH
  cases hx1 : timeB x
  · have HE := hid11 (H2.out (by trivial) (by rw [hx1]; rfl))
    clear H2 H3 H4 H5 H6 HC HWD HADD HBHD
    go_wp2_with fail
    refine (HW0.out x 0 1000000000000000 _).mono ?_
    rintro e w2 ⟨rfl, rfl⟩
    rw [inW_time, hx1]
    obtain ⟨r0, r1, r2, r3, rf, _⟩ := K1.out.1.2.2.2
    go_wp2_with fail
    exact bodyPost_ret (v := .agg #[.int .i64 3, .int .i64 0, .slice none 0 0, .bool false]) (by simp [results, Try.results9, go_sem, r0, r1, r2, r3]) rfl ⟨EnRes.mk HE.out rfl (WtNew.nil _ _ _ _) (by simp), ((((K1.out.1.1.setCell (by simp <;> omega) _).setCell (by simp <;> omega) _).setCell (by simp <;> omega) _).setCell (by simp <;> omega) _)⟩
  cases hx2 : timeB now
  · have HE := hid11 (H2.out (by trivial) (by rw [hx1, hx2]; rfl))
    clear H2 H3 H4 H5 H6 HC HWD HADD HBHD
    go_wp2_with fail
    refine (HW0.out x 0 1000000000000000 _).mono ?_
    rintro e w2 ⟨rfl, rfl⟩
    rw [inW_time, hx1]
    go_wp2_with fail
    refine (HU.out now _).mono ?_
    rintro e w2 ⟨rfl, rfl⟩
    rw [hx2]
    obtain ⟨r0, r1, r2, r3, rf, _⟩ := K1.out.1.2.2.2
    go_wp2_with fail
    exact bodyPost_ret (v := .agg #[.int .i64 3, .int .i64 0, .slice none 0 0, .bool false]) (by simp [results, Try.results9, go_sem, r0, r1, r2, r3]) rfl ⟨EnRes.mk HE.out rfl (WtNew.nil _ _ _ _) (by simp), ((((K1.out.1.1.setCell (by simp <;> omega) _).setCell (by simp <;> omega) _).setCell (by simp <;> omega) _).setCell (by simp <;> omega) _)⟩
  have HT12 : (timeB x && timeB now) = true := by rw [hx1, hx2]; rfl
  go_wp2_with fail
  refine (HW0.out x 0 1000000000000000 _).mono ?_
  rintro e w2 ⟨rfl, rfl⟩
  rw [inW_time, hx1]
  go_wp2_with fail
  refine (HU.out now _).mono ?_
  rintro e w2 ⟨rfl, rfl⟩
  rw [hx2]
  obtain ⟨e0, e1, ef, _⟩ := K1.out.1.2.1
  go_wp2_with fail
  refine (HWD.out _ K1.out.1.1).mono ?_
  rintro e w3 ⟨rfl, hb3⟩
  have K2 : Hid ((Below w.heap.size w w3 ∧ D2 w3 w.heap.size (.int .i64 y) (.slice a n cap) ∧ D3 w3 (w.heap.size + 1) (.int .i64 s) (.int .i64 c) (.int .i64 t) ∧ D4 w3 (w.heap.size + 2) (.int .i64 0) (.int .i64 0) (.slice none 0 0) (.bool false)) ∧ w.heap.size + 3 ≤ w3.heap.size) := ⟨⟨K1.out.1.1.trans (hb3.mono K1.out.1.1.size), K1.out.1.2.1.keep hb3, K1.out.1.2.2.1.keep hb3, K1.out.1.2.2.2.keep hb3⟩, Nat.le_trans K1.out.2 hb3.size⟩
  clear HWD hb3 K1 e0 e1 ef
  cases hh : hasW l x
  rotate_left
  · have HE := hid11 (H3.out (by trivial) HT12 hh)
    clear H2 H3 H4 H5 H6 HC HADD HU hh HBHD HW0
    obtain ⟨r0, r1, r2, r3, rf, _⟩ := K2.out.1.2.2.2
    go_wp2_with fail
    exact bodyPost_ret (v := .agg #[.int .i64 6, .int .i64 0, .slice none 0 0, .bool false]) (by simp [results, Try.results9, go_sem, r0, r1, r2, r3]) rfl ⟨EnRes.mk HE.out rfl (WtNew.nil _ _ _ _) (by simp), ((((K2.out.1.1.setCell (by simp <;> omega) _).setCell (by simp <;> omega) _).setCell (by simp <;> omega) _).setCell (by simp <;> omega) _)⟩
  have HH4 := hid11 (H4.out (by trivial) HT12 hh)
  have HH5 := hid11 (H5.out (by trivial) HT12 hh)
  have HH6 := hid11 (H6.out (by trivial) HT12 hh)
  have HTN := hid11 (timeB_of hx2)
  clear H2 H3 H4 H5 H6 hh HU hx1 hx2 HT12 HW0
  obtain ⟨e0, e1, ef, _⟩ := K2.out.1.2.1
  obtain ⟨f0, f1, f2, ff, _⟩ := K2.out.1.2.2.1
  have HKS : Hid (∀ X, Below (w.heap.size + 2) w3 X → X.cell? ⟨w.heap.size, 0, none⟩ = some (.int .i64 y) ∧ X.cell? ⟨w.heap.size, 1, none⟩ = some (.slice a n cap)) := fun X hb => ⟨(K2.out.1.2.1.low hb (by omega)).c0, (K2.out.1.2.1.low hb (by omega)).c1⟩
  have hw3 : w.heap.size + 2 ≤ w3.heap.size := by have := K2.out.2; omega
  have B0 : Hid (Below w3.heap.size w3 w3.drew) := (Below.refl _ _).drew
  have B0L : Hid (Below (w.heap.size + 2) w3 w3.drew) := B0.out.mono hw3
  have HL3 := hid11 hw3
  clear hw3
  by_cases hys : y < s
  · have HE := hid11 (HH4.out hys)
    have wy : IntKind.i64.wrap (y + 1) = y + 1 := by rw [IntKind.wrap_i64]; omega
    clear HH4 HH5 HH6 HADD HTN HBHD
    go_wp2_with fail
    clear e0 e1 ef f0 f1 f2 ff
    go_region_held3 (fun X => X.cell? ⟨w.heap.size, 0, none⟩ = some (.int .i64 y) ∧ X.cell? ⟨w.heap.size, 1, none⟩ = some (.slice a n cap))
      (first | exact HKS.out _ BAS.out | exact HKS.out _ BAL.out | exact HKS.out _ B0L.out)
      (first
      | (go_at_call 43; refine (HC.out _ (K2.out.1.1.trans (B0.out.mono K2.out.1.1.size))).mono ?_; rintro r0 u1 ⟨⟨va, vc, rfl, mv, mc⟩, hb⟩; rw [HN.out] at mv mc ⊢; have BA : Hid (Below w3.heap.size w3 u1) := B0.out.trans (hb.mono B0.out.size); have MV : Hid (WtNew u1 w3.heap.size (.slice va n vc) l ∧ n ≤ vc) := ⟨mv.lower B0.out.size, mc⟩; have BAL : Hid (Below (w.heap.size + 2) w3 u1) := BA.out.mono HL3.out; have BAS : Hid (Below (w.heap.size + 2) w3 ((((u1.setCell ⟨w.heap.size + 2, 0, none⟩ (.int .i64 0)).setCell ⟨w.heap.size + 2, 1, none⟩ (.int .i64 (y + 1))).setCell ⟨w.heap.size + 2, 2, none⟩ (.slice va n vc)).setCell ⟨w.heap.size + 2, 3, none⟩ (.bool true))) := (((BAL.out.setCell (Nat.le_refl _) _).setCell (Nat.le_refl _) _).setCell (Nat.le_refl _) _).setCell (Nat.le_refl _) _; obtain ⟨r0, r1, r2, r3, rf, _⟩ := K2.out.1.2.2.2.keep BA.out; clear hb mv mc))
    all_goals
      have HNW : Hid (∀ y0 y1 y2 y3, WtNew ((((u1.setCell ⟨w.heap.size + 2, 0, none⟩ y0).setCell ⟨w.heap.size + 2, 1, none⟩ y1).setCell ⟨w.heap.size + 2, 2, none⟩ y2).setCell ⟨w.heap.size + 2, 3, none⟩ y3) w.heap.size (.slice va n vc) l) := fun y0 y1 y2 y3 => by
        have hh := K2.out.2
        refine WtNew.lower ?_ (Nat.le_trans (Nat.le_add_right _ 3) hh)
        refine WtNew.gw2 (g := w.heap.size + 2) ?_ (gwSet _ _ _ _) (by omega)
        refine WtNew.gw2 (g := w.heap.size + 2) ?_ (gwSet _ _ _ _) (by omega)
        refine WtNew.gw2 (g := w.heap.size + 2) ?_ (gwSet _ _ _ _) (by omega)
        exact WtNew.gw2 (g := w.heap.size + 2) MV.out.1 (gwSet _ _ _ _) (by omega)
      have HCP := hid11 MV.out.2
      have HBW := hid11 (K2.out.1.1.trans (BA.out.mono K2.out.1.1.size))
      clear HKS B0 B0L BA BAL BAS MV K2 HC HL3
      go_wp2_with fail
      exact bodyPost_ret (v := .agg #[.int .i64 0, .int .i64 (y + 1), .slice va n vc, .bool true]) (by simp [results, Try.results9, go_sem, r0, r1, r2, r3]) rfl ⟨EnRes.mk HE.out HN.out (HNW.out _ _ _ _) HCP.out, ((((HBW.out.setCell (by simp <;> omega) _).setCell (by simp <;> omega) _).setCell (by simp <;> omega) _).setCell (by simp <;> omega) _)⟩
  by_cases hcn : c ≤ (n : Int)
  · have hcn' : (n : Int) = c := by omega
    have HE := hid11 (HH5.out (by omega) (by omega))
    clear HH4 HH5 HH6 HADD HTN HBHD HC HKS B0 B0L
    subst hcn'
    obtain ⟨r0, r1, r2, r3, rf, _⟩ := K2.out.1.2.2.2
    go_wp2_with fail
    exact bodyPost_ret (v := .agg #[.int .i64 7, .int .i64 0, .slice none 0 0, .bool false]) (by simp [results, Try.results9, go_sem, r0, r1, r2, r3]) rfl ⟨EnRes.mk HE.out rfl (WtNew.nil _ _ _ _) (by simp), ((((K2.out.1.1.setCell (by simp <;> omega) _).setCell (by simp <;> omega) _).setCell (by simp <;> omega) _).setCell (by simp <;> omega) _)⟩
  have HE := hid11 (HH6.out (by omega) (by omega))
  have CAD := hid11 (HADD.out HTN.out)
  have hcn2 : ((n : Int) == c) = false := by simp; omega
  clear HH4 HH5 HH6 HADD HTN HC
  generalize addT now t = due at *
  have HBX : Hid (∀ X, Below w.heap.size w X → Calls Try.prog 45 #[.slice a n cap, .agg #[.int .i64 x, .int .i64 due]] X fun e w' => WtRes w' X.heap.size (l ++ [⟨x, due⟩]) e ∧ Below X.heap.size X w') := fun X hX => HBHD.out X due hX
  have HL5 : Hid ((l ++ [(⟨x, due⟩ : Wt)]).length = n + 1) := by show _ = _; rw [List.length_append, HN.out]; rfl
  clear HBHD
  go_wp2_with fail
  refine (CAD.out _).mono ?_
  rintro e w4 ⟨rfl, rfl⟩
  clear CAD
  go_wp2_with fail
  clear e0 e1 ef f0 f1 f2 ff
  generalize (l ++ [(⟨x, due⟩ : Wt)]) = l2 at *
  go_region_held3 (fun X => X.cell? ⟨w.heap.size, 0, none⟩ = some (.int .i64 y) ∧ X.cell? ⟨w.heap.size, 1, none⟩ = some (.slice a n cap))
    (first | exact HKS.out _ BAS.out | exact HKS.out _ BAL.out | exact HKS.out _ B0L.out)
    (first
    | (go_at_call 45; refine (HBX.out _ (K2.out.1.1.trans (B0.out.mono K2.out.1.1.size))).mono ?_; rintro r0 u1 ⟨⟨va, vc, rfl, mv, mc⟩, hb⟩; rw [HL5.out] at mv mc ⊢; have BA : Hid (Below w4.heap.size w4 u1) := B0.out.trans (hb.mono B0.out.size); have MV : Hid (WtNew u1 w4.heap.size (.slice va (n + 1) vc) l2 ∧ n + 1 ≤ vc) := ⟨mv.lower B0.out.size, mc⟩; have BAL : Hid (Below (w.heap.size + 2) w4 u1) := BA.out.mono HL3.out; have BAS : Hid (Below (w.heap.size + 2) w4 ((((u1.setCell ⟨w.heap.size + 2, 0, none⟩ (.int .i64 0)).setCell ⟨w.heap.size + 2, 1, none⟩ (.int .i64 y)).setCell ⟨w.heap.size + 2, 2, none⟩ (.slice va (n + 1) vc)).setCell ⟨w.heap.size + 2, 3, none⟩ (.bool false))) := (((BAL.out.setCell (Nat.le_refl _) _).setCell (Nat.le_refl _) _).setCell (Nat.le_refl _) _).setCell (Nat.le_refl _) _; obtain ⟨r0, r1, r2, r3, rf, _⟩ := K2.out.1.2.2.2.keep BA.out; clear hb mv mc))
  all_goals
    have HNW : Hid (∀ y0 y1 y2 y3, WtNew ((((u1.setCell ⟨w.heap.size + 2, 0, none⟩ y0).setCell ⟨w.heap.size + 2, 1, none⟩ y1).setCell ⟨w.heap.size + 2, 2, none⟩ y2).setCell ⟨w.heap.size + 2, 3, none⟩ y3) w.heap.size (.slice va (n + 1) vc) l2) := fun y0 y1 y2 y3 => by
      have hh := K2.out.2
      refine WtNew.lower ?_ (Nat.le_trans (Nat.le_add_right _ 3) hh)
      refine WtNew.gw2 (g := w.heap.size + 2) ?_ (gwSet _ _ _ _) (by omega)
      refine WtNew.gw2 (g := w.heap.size + 2) ?_ (gwSet _ _ _ _) (by omega)
      refine WtNew.gw2 (g := w.heap.size + 2) ?_ (gwSet _ _ _ _) (by omega)
      exact WtNew.gw2 (g := w.heap.size + 2) MV.out.1 (gwSet _ _ _ _) (by omega)
    have HCP := hid11 MV.out.2
    have HBW := hid11 (K2.out.1.1.trans (BA.out.mono K2.out.1.1.size))
    clear HKS B0 B0L BA BAL BAS MV K2 HBX HL3
    go_wp2_with fail
    exact bodyPost_ret (v := .agg #[.int .i64 0, .int .i64 y, .slice va (n + 1) vc, .bool false]) (by simp [results, Try.results9, go_sem, r0, r1, r2, r3]) rfl ⟨EnRes.mk HE.out HL5.out (HNW.out _ _ _ _) HCP.out, ((((HBW.out.setCell (by simp <;> omega) _).setCell (by simp <;> omega) _).setCell (by simp <;> omega) _).setCell (by simp <;> omega) _)⟩
end Go.Proofs.Ytmgidcigihpbeaa
