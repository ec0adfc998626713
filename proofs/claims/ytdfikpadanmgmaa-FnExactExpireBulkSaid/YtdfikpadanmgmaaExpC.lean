/-
  ExpireBulk, by the program.
-/
import Derived.Test.YtdfikpadanmgmaaOffI
namespace Go.Proofs.Ytdfikpadanmgmaa
open Go.ChangeShapes Go.WideShapes Go.ChangeAt Go.RowKit Go.Sort
theorem XN.two {u1 u2 : World} {b0 n2 vc n3 ic : Nat} {va ia : Option Addr} {l2 : List Wt} {l3 : List Int} (mi : NsNew u1 b0 (.slice ia n3 ic) l3) (hb : Below u1.heap.size u1 u2) (mv : WtNew u2 u1.heap.size (.slice va n2 vc) l2) (hle : b0 ≤ u1.heap.size) : XN u2 b0 ⟨va, vc, ia, ic⟩ n2 l2 n3 l3 := by
  refine ⟨mv.lower hle, mi.keep hb, fun g h hg hh => ?_⟩
  rcases mv with ⟨e, _⟩ | ⟨g5, o5, c5, e5, hb5, _⟩
  · exact .inl e
  · rcases mi with ⟨e, _⟩ | ⟨g6, o6, c6, e6, _, hb6, _⟩
    · exact .inr (.inl e)
    · simp only [Value.slice.injEq] at e5 e6
      simp only [e5.1] at hg
      simp only [e6.1] at hh
      simp only [Value.ownBlock, Option.some.injEq] at hg hh
      right; right; omega
set_option maxRecDepth 100000 in
set_option maxHeartbeats 16000000 in
theorem implExpire_any (w : World) (y : Int) (a : Option Addr) (cap : Nat) (l : List Wt) (s c t now : Int) (hl : l.length ≤ 1048576) (hcap : l.length ≤ cap) (hi : WtIn w a l) :
    Calls Try.prog 37 #[.agg #[.int .i64 y, .slice a l.length cap], .agg #[.int .i64 s, .int .i64 c, .int .i64 t], .int .i64 now] w fun e w' => ExRes w' w.heap.size (expireR y l s c t now) e ∧ Below w.heap.size w w' := by
  obtain ⟨W, hW⟩ : ∃ W, W = ((w.alloc (.cells #[.int .i64 y, .slice a l.length cap] 35)).alloc (.cells #[.int .i64 s, .int .i64 c, .int .i64 t] 25)).alloc (.cells #[.int .i64 0, .int .i64 0, .slice none 0 0, .slice none 0 0] 54) := ⟨_, rfl⟩
  have HW : Hid (W = ((w.alloc (.cells #[.int .i64 y, .slice a l.length cap] 35)).alloc (.cells #[.int .i64 s, .int .i64 c, .int .i64 t] 25)).alloc (.cells #[.int .i64 0, .int .i64 0, .slice none 0 0, .slice none 0 0] 54)) := hW
  have K0 : Hid ((Below w.heap.size w W ∧ D2 W w.heap.size (.int .i64 y) (.slice a l.length cap) ∧ D3 W (w.heap.size + 1) (.int .i64 s) (.int .i64 c) (.int .i64 t) ∧ D4 W (w.heap.size + 2) (.int .i64 0) (.int .i64 0) (.slice none 0 0) (.slice none 0 0)) ∧ W.heap.size = w.heap.size + 3) := by
    have h1 := D2.new w (.int .i64 y) (.slice a l.length cap) 35
    obtain ⟨W1, hW1⟩ : ∃ W1, W1 = w.alloc (.cells #[.int .i64 y, .slice a l.length cap] 35) := ⟨_, rfl⟩
    rw [← hW1] at h1 hW
    have e1 : W1.heap.size = w.heap.size + 1 := by rw [hW1]; simp
    have b1 : Below w.heap.size w W1 := by rw [hW1]; exact (Below.refl _ _).alloc (Nat.le_refl _) _
    have h2 := D3.new W1 (.int .i64 s) (.int .i64 c) (.int .i64 t) 25
    obtain ⟨W2, hW2⟩ : ∃ W2, W2 = W1.alloc (.cells #[.int .i64 s, .int .i64 c, .int .i64 t] 25) := ⟨_, rfl⟩
    rw [← hW2] at h2 hW
    have e2 : W2.heap.size = w.heap.size + 2 := by rw [hW2]; simp [e1]
    have b2 : Below W1.heap.size W1 W2 := by rw [hW2]; exact (Below.refl _ _).alloc (Nat.le_refl _) _
    have b3 : Below W2.heap.size W2 W := by rw [hW]; exact (Below.refl _ _).alloc (Nat.le_refl _) _
    have h3 := D4.new W2 (.int .i64 0) (.int .i64 0) (.slice none 0 0) (.slice none 0 0) 54
    rw [← hW] at h3
    rw [e1] at h2
    rw [e2] at h3
    have b13 := b2.trans (b3.mono b2.size)
    exact ⟨⟨b1.trans (b13.mono b1.size), h1.keep b13, h2.keep b3, h3⟩, by rw [hW]; simp [e2]⟩
  have HA : Hid (Calls Try.prog 21 #[.agg #[.int .i64 y, .slice a l.length cap], .agg #[.int .i64 s, .int .i64 c, .int .i64 t]] W fun e w' => e = .returned (.int .i64 (blkC y l s c t)) ∧ Below W.heap.size W w') := implBlk_any y a cap l s c t W hcap (hi.keep K0.out.1.1)
  have HU : Hid (∀ x w, Calls Try.prog 76 #[.int .i64 x] w fun r w' => r = .returned (.bool (timeB x)) ∧ w' = w) := isTime_all
  have HDB : Hid (l.length ≤ 8 → ∀ X, Below w.heap.size w X → Calls Try.prog 86 #[.slice a l.length cap, .int .i64 now] X fun e w' => NsRes w' X.heap.size (goneW now l) e ∧ Below X.heap.size X w') := fun h X hX => dueBy_any X a cap l now h (hi.keep hX)
  have HCO : Hid (l.length ≤ 8 → nodupW l = true → ∀ X ia ic, Below w.heap.size w X → NsIn X ia (goneW now l) → Calls Try.prog 85 #[.agg #[.int .i64 y, .slice a l.length cap], .slice ia (goneW now l).length ic] X fun e w' => OffR w' X.heap.size y (leftW now l) ia (goneW now l).length ic e ∧ Below X.heap.size X w') := fun h hn X ia ic hX hni => by
    rw [← without_gone hn now]
    exact callOff_any X y a ia cap ic l (goneW now l) h (Nat.le_trans (goneW_len _ _) h) (hi.keep hX) hni
  have HG : Hid (blkC y l s c t = 0 → GoodB y l s c t) := goodB_of
  have H1 : Hid (¬ blkC y l s c t = 0 → expireR y l s c t now = ⟨blkC y l s c t, 0, [], []⟩) := expire_bad
  have H2 : Hid (blkC y l s c t = 0 → timeB now = false → expireR y l s c t now = ⟨3, 0, [], []⟩) := expire_range
  have H3 : Hid (blkC y l s c t = 0 → timeB now = true → expireR y l s c t now = ⟨0, y, leftW now l, goneW now l⟩) := expire_ok
  clear hi hW
  generalize expireR y l s c t now = q at *
  generalize blkC y l s c t = qc at *
  generalize hn : l.length = n at *
  have HN : Hid (l.length = n) := hn
  clear hn
  go_enter Try.func37, Try.ntmps37
  go_wp2_with fail
  rw [← HW.out]
  refine HA.out.mono ?_
  rintro e w1 ⟨rfl, hb1⟩
  have K0' : Hid ((Below w.heap.size w W ∧ D2 W w.heap.size (.int .i64 y) (.slice a n cap) ∧ D3 W (w.heap.size + 1) (.int .i64 s) (.int .i64 c) (.int .i64 t) ∧ D4 W (w.heap.size + 2) (.int .i64 0) (.int .i64 0) (.slice none 0 0) (.slice none 0 0)) ∧ w.heap.size + 3 ≤ W.heap.size) := ⟨K0.out.1, Nat.le_of_eq K0.out.2.symm⟩
  have K1 : Hid ((Below w.heap.size w w1 ∧ D2 w1 w.heap.size (.int .i64 y) (.slice a n cap) ∧ D3 w1 (w.heap.size + 1) (.int .i64 s) (.int .i64 c) (.int .i64 t) ∧ D4 w1 (w.heap.size + 2) (.int .i64 0) (.int .i64 0) (.slice none 0 0) (.slice none 0 0)) ∧ w.heap.size + 3 ≤ w1.heap.size) := ⟨⟨K0'.out.1.1.trans (hb1.mono K0'.out.1.1.size), K0'.out.1.2.1.keep hb1, K0'.out.1.2.2.1.keep hb1, K0'.out.1.2.2.2.keep hb1⟩, Nat.le_trans K0'.out.2 hb1.size⟩
  clear hb1 K0 K0' HW HA
  by_cases hc : qc = 0
  rotate_left
  · have n0 : (qc != 0) = true := by simpa using hc
    have HE := hid11 (H1.out hc)
    clear H1 H2 H3 HG HU HDB HCO
    obtain ⟨r0, r1, r2, r3, rf, _⟩ := K1.out.1.2.2.2
    go_wp2_with fail
    exact bodyPost_ret (v := .agg #[.int .i64 qc, .int .i64 0, .slice none 0 0, .slice none 0 0]) (by simp [results, Try.results37, go_sem, r0, r1, r2, r3]) rfl ⟨ExRes.mk HE.out rfl rfl (XN.nil _ _) (by simp), ((((K1.out.1.1.setCell (by simp <;> omega) _).setCell (by simp <;> omega) _).setCell (by simp <;> omega) _).setCell (by simp <;> omega) _)⟩
  subst hc
  have hg := HG.out (by trivial)
  obtain ⟨hs, hcc, ht, hy, hln, hwt, hnd⟩ := hg
  rw [HN.out] at hln
  have hn8 : n ≤ 8 := by omega
  have HD1 := hid11 (HDB.out hn8)
  have HC1 := hid11 (HCO.out hn8 hnd)
  clear HG H1 HDB HCO hwt hnd
  cases hx1 : timeB now
  · have HE := hid11 (H2.out (by trivial) hx1)
    clear H2 H3 HD1 HC1
    go_wp2_with fail
    refine (HU.out now _).mono ?_
    rintro e w2 ⟨rfl, rfl⟩
    rw [hx1]
    obtain ⟨r0, r1, r2, r3, rf, _⟩ := K1.out.1.2.2.2
    go_wp2_with fail
    exact bodyPost_ret (v := .agg #[.int .i64 3, .int .i64 0, .slice none 0 0, .slice none 0 0]) (by simp [results, Try.results37, go_sem, r0, r1, r2, r3]) rfl ⟨ExRes.mk HE.out rfl rfl (XN.nil _ _) (by simp), ((((K1.out.1.1.setCell (by simp <;> omega) _).setCell (by simp <;> omega) _).setCell (by simp <;> omega) _).setCell (by simp <;> omega) _)⟩
  have HE := hid11 (H3.out (by trivial) hx1)
  clear H2 H3
  generalize leftW now l = l2 at *
  generalize goneW now l = l3 at *
  obtain ⟨n2, hl2⟩ : ∃ n, l2.length = n := ⟨_, rfl⟩
  have HN2 := hid11 hl2
  obtain ⟨n3, hl3⟩ : ∃ n, l3.length = n := ⟨_, rfl⟩
  have HN3 := hid11 hl3
  rw [hl3] at HC1
  clear hl2 hl3
  go_wp2_with fail
  refine (HU.out now _).mono ?_
  rintro e w2 ⟨rfl, rfl⟩
  rw [hx1]
  obtain ⟨e0, e1, ef, _⟩ := K1.out.1.2.1
  have HKS : Hid (∀ X, Below (w.heap.size + 2) w2 X → X.cell? ⟨w.heap.size, 0, none⟩ = some (.int .i64 y) ∧ X.cell? ⟨w.heap.size, 1, none⟩ = some (.slice a n cap)) := fun X hb => ⟨(K1.out.1.2.1.low hb (by omega)).c0, (K1.out.1.2.1.low hb (by omega)).c1⟩
  have hw3 : w.heap.size + 2 ≤ w2.heap.size := by have := K1.out.2; omega
  have B0 : Hid (Below w2.heap.size w2 w2.drew) := (Below.refl _ _).drew
  have B0L : Hid (Below (w.heap.size + 2) w2 w2.drew) := B0.out.mono hw3
  have HL3 := hid11 hw3
  clear hw3 HU hx1
  go_wp2_with fail
  clear e0 e1 ef
  go_region_held3 (fun X => X.cell? ⟨w.heap.size, 0, none⟩ = some (.int .i64 y) ∧ X.cell? ⟨w.heap.size, 1, none⟩ = some (.slice a n cap))
    (first | exact HKS.out _ BAS.out | exact HKS.out _ BBL.out | exact HKS.out _ BAL.out | exact HKS.out _ B0L.out)
    (first
    | (go_at_call 86; refine (HD1.out _ (K1.out.1.1.trans (B0.out.mono K1.out.1.1.size))).mono ?_; rintro r0 u1 ⟨⟨ia, ic, rfl, mi⟩, hb⟩; rw [HN3.out] at mi ⊢; have BA : Hid (Below w2.heap.size w2 u1) := B0.out.trans (hb.mono B0.out.size); have MI : Hid (NsNew u1 w2.heap.size (.slice ia n3 ic) l3) := mi.lower B0.out.size; have BAL : Hid (Below (w.heap.size + 2) w2 u1) := BA.out.mono HL3.out; clear hb mi)
    | (go_at_call 85; refine (HC1.out _ ia ic (K1.out.1.1.trans (BA.out.mono K1.out.1.1.size)) (by obtain ⟨x1, x2, ex, ix⟩ := MI.out.in; simp only [Value.slice.injEq] at ex; rw [ex.1]; exact ix)).mono ?_; rintro r0 u2 ⟨⟨va, vc, rfl, mv, mc⟩, hb⟩; rw [HN2.out] at mv mc ⊢; have BB : Hid (Below w2.heap.size w2 u2) := BA.out.trans (hb.mono BA.out.size); have XX : Hid (XN u2 w2.heap.size ⟨va, vc, ia, ic⟩ n2 l2 n3 l3 ∧ n2 ≤ vc) := ⟨XN.two MI.out hb mv BA.out.size, mc⟩; have BBL : Hid (Below (w.heap.size + 2) w2 u2) := BB.out.mono HL3.out; have BAS : Hid (Below (w.heap.size + 2) w2 ((((u2.setCell ⟨w.heap.size + 2, 0, none⟩ (.int .i64 0)).setCell ⟨w.heap.size + 2, 1, none⟩ (.int .i64 y)).setCell ⟨w.heap.size + 2, 2, none⟩ (.slice va n2 vc)).setCell ⟨w.heap.size + 2, 3, none⟩ (.slice ia n3 ic))) := ((((BBL.out.setCell (Nat.le_refl _) _).setCell (Nat.le_refl _) _).setCell (Nat.le_refl _) _).setCell (Nat.le_refl _) _); obtain ⟨r0, r1, r2, r3, rf, _⟩ := K1.out.1.2.2.2.keep BB.out; clear hb mv mc))
  all_goals
    have HB6 : Hid (w.heap.size + 3 ≤ w2.heap.size) := K1.out.2
    have HNW : Hid (∀ y0 y1 y2 y3, XN ((((u2.setCell ⟨w.heap.size + 2, 0, none⟩ y0).setCell ⟨w.heap.size + 2, 1, none⟩ y1).setCell ⟨w.heap.size + 2, 2, none⟩ y2).setCell ⟨w.heap.size + 2, 3, none⟩ y3) w.heap.size ⟨va, vc, ia, ic⟩ n2 l2 n3 l3) := fun y0 y1 y2 y3 => by
      refine XN.lower ?_ (Nat.le_trans (Nat.le_add_right _ 3) HB6.out)
      refine XN.gw2 (g := w.heap.size + 2) ?_ (gwSet _ _ _ _) (by have := HB6.out; omega)
      refine XN.gw2 (g := w.heap.size + 2) ?_ (gwSet _ _ _ _) (by have := HB6.out; omega)
      refine XN.gw2 (g := w.heap.size + 2) ?_ (gwSet _ _ _ _) (by have := HB6.out; omega)
      exact XN.gw2 (g := w.heap.size + 2) XX.out.1 (gwSet _ _ _ _) (by have := HB6.out; omega)
    have HCP := hid11 XX.out.2
    have HBW := hid11 (K1.out.1.1.trans (BB.out.mono K1.out.1.1.size))
    clear HKS B0 B0L BA BAL BAS BB BBL XX MI K1 HD1 HC1 HL3
    go_wp2_with fail
    exact bodyPost_ret (v := .agg #[.int .i64 0, .int .i64 y, .slice va n2 vc, .slice ia n3 ic]) (by simp [results, Try.results37, go_sem, r0, r1, r2, r3]) rfl ⟨ExRes.mk HE.out HN2.out HN3.out (HNW.out _ _ _ _) HCP.out, ((((HBW.out.setCell (by simp <;> omega) _).setCell (by simp <;> omega) _).setCell (by simp <;> omega) _).setCell (by simp <;> omega) _)⟩
end Go.Proofs.Ytdfikpadanmgmaa
