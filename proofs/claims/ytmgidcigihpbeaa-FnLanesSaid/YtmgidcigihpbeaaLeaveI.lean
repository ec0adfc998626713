/-
  LeaveBulk, by the program.
-/
import Derived.Test.YtmgidcigihpbeaaLeaveP
import Derived.Test.YtmgidcigihpbeaaBlkImpl
namespace Go.Proofs.Ytmgidcigihpbeaa
open Go.ChangeShapes Go.WideShapes Go.ChangeAt Go.RowKit Go.Sort
set_option maxRecDepth 100000 in
set_option maxHeartbeats 16000000 in
theorem implLeave_any (w : World) (y : Int) (a : Option Addr) (cap : Nat) (l : List Wt) (s c t : Int) (hl : l.length ≤ 1048576) (hcap : l.length ≤ cap) (hi : WtIn w a l) :
    Calls Try.prog 15 #[.agg #[.int .i64 y, .slice a l.length cap], .agg #[.int .i64 s, .int .i64 c, .int .i64 t]] w fun e w' => LeRes w' w.heap.size (leaveR y l s c t) e ∧ Below w.heap.size w w' := by
  obtain ⟨W, hW⟩ : ∃ W, W = ((w.alloc (.cells #[.int .i64 y, .slice a l.length cap] 26)).alloc (.cells #[.int .i64 s, .int .i64 c, .int .i64 t] 28)).alloc (.cells #[.int .i64 0, .int .i64 0, .slice none 0 0, .int .i64 0] 37) := ⟨_, rfl⟩
  have HW : Hid (W = ((w.alloc (.cells #[.int .i64 y, .slice a l.length cap] 26)).alloc (.cells #[.int .i64 s, .int .i64 c, .int .i64 t] 28)).alloc (.cells #[.int .i64 0, .int .i64 0, .slice none 0 0, .int .i64 0] 37)) := hW
  have K0 : Hid ((Below w.heap.size w W ∧ D2 W w.heap.size (.int .i64 y) (.slice a l.length cap) ∧ D3 W (w.heap.size + 1) (.int .i64 s) (.int .i64 c) (.int .i64 t) ∧ D4 W (w.heap.size + 2) (.int .i64 0) (.int .i64 0) (.slice none 0 0) (.int .i64 0)) ∧ W.heap.size = w.heap.size + 3) := by
    have h1 := D2.new w (.int .i64 y) (.slice a l.length cap) 26
    obtain ⟨W1, hW1⟩ : ∃ W1, W1 = w.alloc (.cells #[.int .i64 y, .slice a l.length cap] 26) := ⟨_, rfl⟩
    rw [← hW1] at h1 hW
    have e1 : W1.heap.size = w.heap.size + 1 := by rw [hW1]; simp
    have b1 : Below w.heap.size w W1 := by rw [hW1]; exact (Below.refl _ _).alloc (Nat.le_refl _) _
    have h2 := D3.new W1 (.int .i64 s) (.int .i64 c) (.int .i64 t) 28
    obtain ⟨W2, hW2⟩ : ∃ W2, W2 = W1.alloc (.cells #[.int .i64 s, .int .i64 c, .int .i64 t] 28) := ⟨_, rfl⟩
    rw [← hW2] at h2 hW
    have e2 : W2.heap.size = w.heap.size + 2 := by rw [hW2]; simp [e1]
    have b2 : Below W1.heap.size W1 W2 := by rw [hW2]; exact (Below.refl _ _).alloc (Nat.le_refl _) _
    have b3 : Below W2.heap.size W2 W := by rw [hW]; exact (Below.refl _ _).alloc (Nat.le_refl _) _
    have h3 := D4.new W2 (.int .i64 0) (.int .i64 0) (.slice none 0 0) (.int .i64 0) 37
    rw [← hW] at h3
    rw [e1] at h2
    rw [e2] at h3
    have b13 := b2.trans (b3.mono b2.size)
    exact ⟨⟨b1.trans (b13.mono b1.size), h1.keep b13, h2.keep b3, h3⟩, by rw [hW]; simp [e2]⟩
  have HA : Hid (Calls Try.prog 11 #[.agg #[.int .i64 y, .slice a l.length cap], .agg #[.int .i64 s, .int .i64 c, .int .i64 t]] W fun e w' => e = .returned (.int .i64 (blkC y l s c t)) ∧ Below W.heap.size W w') := implBlk_any y a cap l s c t W hcap (hi.keep K0.out.1.1)
  have HI : Hid (WtIn w a l) := hi
  have HG : Hid (blkC y l s c t = 0 → GoodB y l s c t) := goodB_of
  have H1 : Hid (¬ blkC y l s c t = 0 → leaveR y l s c t = ⟨blkC y l s c t, 0, [], 0⟩) := leave_bad
  have H2 : Hid (blkC y l s c t = 0 → y = 0 → leaveR y l s c t = ⟨4, 0, [], 0⟩) := leave_none
  have H3 : Hid (blkC y l s c t = 0 → ¬ y = 0 → leaveR y l s c t = ⟨0, busyW y l, l.tail, nextW l⟩) := leave_ok
  clear hi hW
  generalize leaveR y l s c t = q at *
  generalize blkC y l s c t = qc at *
  generalize hn : l.length = n at *
  have HN : Hid (l.length = n) := hn
  clear hn
  go_enter Try.func15, Try.ntmps15
  go_wp2_with fail
  rw [← HW.out]
  refine HA.out.mono ?_
  rintro e w1 ⟨rfl, hb1⟩
  have K0' : Hid ((Below w.heap.size w W ∧ D2 W w.heap.size (.int .i64 y) (.slice a n cap) ∧ D3 W (w.heap.size + 1) (.int .i64 s) (.int .i64 c) (.int .i64 t) ∧ D4 W (w.heap.size + 2) (.int .i64 0) (.int .i64 0) (.slice none 0 0) (.int .i64 0)) ∧ w.heap.size + 3 ≤ W.heap.size) := ⟨K0.out.1, Nat.le_of_eq K0.out.2.symm⟩
  have K1 : Hid ((Below w.heap.size w w1 ∧ D2 w1 w.heap.size (.int .i64 y) (.slice a n cap) ∧ D3 w1 (w.heap.size + 1) (.int .i64 s) (.int .i64 c) (.int .i64 t) ∧ D4 w1 (w.heap.size + 2) (.int .i64 0) (.int .i64 0) (.slice none 0 0) (.int .i64 0)) ∧ w.heap.size + 3 ≤ w1.heap.size) := ⟨⟨K0'.out.1.1.trans (hb1.mono K0'.out.1.1.size), K0'.out.1.2.1.keep hb1, K0'.out.1.2.2.1.keep hb1, K0'.out.1.2.2.2.keep hb1⟩, Nat.le_trans K0'.out.2 hb1.size⟩
  clear hb1 K0 K0' HW HA
  by_cases hc : qc = 0
  rotate_left
  · have n0 : (qc != 0) = true := by simpa using hc
    have HE := hid11 (H1.out hc)
    clear H1 H2 H3 HG HI
    obtain ⟨r0, r1, r2, r3, rf, _⟩ := K1.out.1.2.2.2
    go_wp2_with fail
    exact bodyPost_ret (v := .agg #[.int .i64 qc, .int .i64 0, .slice none 0 0, .int .i64 0]) (by simp [results, Try.results15, go_sem, r0, r1, r2, r3]) rfl ⟨LeRes.mk HE.out rfl (WtNew.nil _ _ _ _) (by simp), ((((K1.out.1.1.setCell (by simp <;> omega) _).setCell (by simp <;> omega) _).setCell (by simp <;> omega) _).setCell (by simp <;> omega) _)⟩
  subst hc
  have hg := HG.out (by trivial)
  obtain ⟨hs, hcc, ht, hy, hln, _, _⟩ := hg
  rw [HN.out] at hln
  have hn8 : n ≤ 8 := by omega
  clear HG H1
  obtain ⟨e0, e1, ef, _⟩ := K1.out.1.2.1
  by_cases hy0 : y = 0
  · have HE := hid11 (H2.out (by trivial) hy0)
    subst hy0
    clear H2 H3 HI
    obtain ⟨r0, r1, r2, r3, rf, _⟩ := K1.out.1.2.2.2
    go_wp2_with fail
    exact bodyPost_ret (v := .agg #[.int .i64 4, .int .i64 0, .slice none 0 0, .int .i64 0]) (by simp [results, Try.results15, go_sem, r0, r1, r2, r3]) rfl ⟨LeRes.mk HE.out rfl (WtNew.nil _ _ _ _) (by simp), ((((K1.out.1.1.setCell (by simp <;> omega) _).setCell (by simp <;> omega) _).setCell (by simp <;> omega) _).setCell (by simp <;> omega) _)⟩
  have HE := hid11 (H3.out (by trivial) hy0)
  have hy1 : (y == 0) = false := by simpa using hy0
  clear H2 H3
  cases l with
  | nil =>
    have e0n : n = 0 := HN.out.symm
    subst e0n
    have wy : IntKind.i64.wrap (y - 1) = y - 1 := by rw [IntKind.wrap_i64]; omega
    have HE2 : Hid (q = ⟨0, y - 1, [], -1⟩) := HE.out
    obtain ⟨r0, r1, r2, r3, rf, _⟩ := K1.out.1.2.2.2
    clear HE HI HN
    go_wp2_with fail
    exact bodyPost_ret (v := .agg #[.int .i64 0, .int .i64 (y - 1), .slice none 0 0, .int .i64 (-1)]) (by simp [results, Try.results15, go_sem, r0, r1, r2, r3]) rfl ⟨LeRes.mk HE2.out rfl (WtNew.nil _ _ _ _) (by simp), ((((K1.out.1.1.setCell (by simp <;> omega) _).setCell (by simp <;> omega) _).setCell (by simp <;> omega) _).setCell (by simp <;> omega) _)⟩
  | cons r k =>
    rcases HI.out with h | ⟨b, off, rfl, hat⟩
    · cases h
    have HE2 : Hid (q = ⟨0, y, k, r.wi⟩) := HE.out
    clear HE
    obtain ⟨n1, hn1⟩ : ∃ n1, k.length = n1 := ⟨_, rfl⟩
    have e0n : n = n1 + 1 := by rw [← HN.out, List.length_cons, hn1]
    subst e0n
    have HN1 := hid11 hn1
    clear hn1 HN HI
    obtain ⟨n, rfl⟩ : ∃ n, n = n1 := ⟨n1, rfl⟩
    have p0 := (hat 0 r rfl).1
    simp only [Nat.zero_mul, Nat.add_zero] at p0
    have hb0 : b < w.heap.size := block_lt_of_cell p0
    have HAT := hid11 hat
    have HP := hid11 p0
    have HB0 := hid11 hb0
    by_cases hc1 : cap = 1
    · have en0 : n = 0 := by omega
      subst en0
      subst hc1
      have HC : Hid (∀ X, Below w.heap.size w X → Calls Try.prog 43 #[.slice (some ⟨b, off, none⟩) 0 0] X fun e w' => WtRes w' X.heap.size k e ∧ Below X.heap.size X w') := fun X hX => by
        have := cloneWt_any X (some ⟨b, off, none⟩) 0 k (by have := HN1.out; omega) (.inl (List.eq_nil_of_length_eq_zero HN1.out))
        rw [HN1.out] at this
        exact this
      generalize r.wi = ri at *
      have HKS : Hid (∀ X, Below (w.heap.size + 2) w1 X → X.cell? ⟨w.heap.size, 0, none⟩ = some (.int .i64 y) ∧ X.cell? ⟨w.heap.size, 1, none⟩ = some (.slice (some ⟨b, off, none⟩) 1 1) ∧ X.cell? ⟨b, off, none⟩ = some (.int .i64 ri)) := fun X hb => ⟨(K1.out.1.2.1.low hb (by omega)).c0, (K1.out.1.2.1.low hb (by omega)).c1, by
        have hbb : Below w.heap.size w X := K1.out.1.1.trans (hb.mono (by omega))
        rw [hbb.cell (p := ⟨b, off, none⟩) HB0.out]; exact HP.out⟩
      have hw3 : w.heap.size + 2 ≤ w1.heap.size := by have := K1.out.2; omega
      have B0 : Hid (Below w1.heap.size w1 w1.drew) := (Below.refl _ _).drew
      have B0L : Hid (Below (w.heap.size + 2) w1 w1.drew) := B0.out.mono hw3
      have HL3 := hid11 hw3
      clear hw3 hat p0 hb0
      go_wp2_with fail
      clear e0 e1 ef
      go_region_held3 (fun X => X.cell? ⟨w.heap.size, 0, none⟩ = some (.int .i64 y) ∧ X.cell? ⟨w.heap.size, 1, none⟩ = some (.slice (some ⟨b, off, none⟩) 1 1) ∧ X.cell? ⟨b, off, none⟩ = some (.int .i64 ri))
        (first | exact HKS.out _ BAS.out | exact HKS.out _ BAL.out | exact HKS.out _ B0L.out)
        (first
        | (go_at_call 43; refine (HC.out _ (K1.out.1.1.trans (B0.out.mono K1.out.1.1.size))).mono ?_; rintro r0 u1 ⟨⟨va, vc, rfl, mv, mc⟩, hb⟩; rw [HN1.out] at mv mc ⊢; have BA : Hid (Below w1.heap.size w1 u1) := B0.out.trans (hb.mono B0.out.size); have MV : Hid (WtNew u1 w1.heap.size (.slice va 0 vc) k ∧ 0 ≤ vc) := ⟨mv.lower B0.out.size, mc⟩; have BAL : Hid (Below (w.heap.size + 2) w1 u1) := BA.out.mono HL3.out; have BAS : Hid (Below (w.heap.size + 2) w1 ((((u1.setCell ⟨w.heap.size + 2, 0, none⟩ (.int .i64 0)).setCell ⟨w.heap.size + 2, 1, none⟩ (.int .i64 y)).setCell ⟨w.heap.size + 2, 2, none⟩ (.slice va 0 vc)).setCell ⟨w.heap.size + 2, 3, none⟩ (.int .i64 ri))) := (((BAL.out.setCell (Nat.le_refl _) _).setCell (Nat.le_refl _) _).setCell (Nat.le_refl _) _).setCell (Nat.le_refl _) _; obtain ⟨r0, r1, r2, r3, rf, _⟩ := K1.out.1.2.2.2.keep BA.out; clear hb mv mc))
      all_goals
        have HNW : Hid (∀ y0 y1 y2 y3, WtNew ((((u1.setCell ⟨w.heap.size + 2, 0, none⟩ y0).setCell ⟨w.heap.size + 2, 1, none⟩ y1).setCell ⟨w.heap.size + 2, 2, none⟩ y2).setCell ⟨w.heap.size + 2, 3, none⟩ y3) w.heap.size (.slice va 0 vc) k) := fun y0 y1 y2 y3 => by
          have hh := K1.out.2
          refine WtNew.lower ?_ (Nat.le_trans (Nat.le_add_right _ 3) hh)
          refine WtNew.gw2 (g := w.heap.size + 2) ?_ (gwSet _ _ _ _) (by omega)
          refine WtNew.gw2 (g := w.heap.size + 2) ?_ (gwSet _ _ _ _) (by omega)
          refine WtNew.gw2 (g := w.heap.size + 2) ?_ (gwSet _ _ _ _) (by omega)
          exact WtNew.gw2 (g := w.heap.size + 2) MV.out.1 (gwSet _ _ _ _) (by omega)
        have HCP := hid11 MV.out.2
        have HBW := hid11 (K1.out.1.1.trans (BA.out.mono K1.out.1.1.size))
        clear HKS B0 B0L BA BAL BAS MV K1 HC HL3
        go_wp2_with fail
        exact bodyPost_ret (v := .agg #[.int .i64 0, .int .i64 y, .slice va 0 vc, .int .i64 ri]) (by simp [results, Try.results15, go_sem, r0, r1, r2, r3]) rfl ⟨LeRes.mk HE2.out HN1.out (HNW.out _ _ _ _) HCP.out, ((((HBW.out.setCell (by simp <;> omega) _).setCell (by simp <;> omega) _).setCell (by simp <;> omega) _).setCell (by simp <;> omega) _)⟩
    have HC : Hid (∀ X, Below w.heap.size w X → Calls Try.prog 43 #[.slice (some ⟨b, off + 2, none⟩) n (cap - 1)] X fun e w' => WtRes w' X.heap.size k e ∧ Below X.heap.size X w') := fun X hX => by
      have := cloneWt_any X (some ⟨b, off + 2, none⟩) (cap - 1) k (by have := HN1.out; omega) (WtIn.tail (HAT.out.keep hX))
      rw [HN1.out] at this
      exact this
    generalize r.wi = ri at *
    have hgc : (n : Int) + 1 ≤ cap := by omega
    have hg0 : (0 : Int) ≤ n := by omega
    have hc2 : ¬ cap - 1 = 0 := by omega
    have hc3 : ¬ cap ≤ 1 := by omega
    have hc5 : (1 : Int) ≤ (n : Int) + 1 := by omega
    have g1 : (((n + 1 : Nat) : Int) == 0) = false := by simp; omega
    have g2 : (0 : Int) < ((n + 1 : Nat) : Int) := by omega
    have g3 : (1 : Int) ≤ ((n + 1 : Nat) : Int) := by omega
    have g4 : ((n + 1 : Nat) : Int) ≤ cap := by omega
    have HKS : Hid (∀ X, Below (w.heap.size + 2) w1 X → X.cell? ⟨w.heap.size, 0, none⟩ = some (.int .i64 y) ∧ X.cell? ⟨w.heap.size, 1, none⟩ = some (.slice (some ⟨b, off, none⟩) (n + 1) cap) ∧ X.cell? ⟨b, off, none⟩ = some (.int .i64 ri)) := fun X hb => ⟨(K1.out.1.2.1.low hb (by omega)).c0, (K1.out.1.2.1.low hb (by omega)).c1, by
      have hbb : Below w.heap.size w X := K1.out.1.1.trans (hb.mono (by omega))
      rw [hbb.cell (p := ⟨b, off, none⟩) HB0.out]; exact HP.out⟩
    have hw3 : w.heap.size + 2 ≤ w1.heap.size := by have := K1.out.2; omega
    have B0 : Hid (Below w1.heap.size w1 w1.drew) := (Below.refl _ _).drew
    have B0L : Hid (Below (w.heap.size + 2) w1 w1.drew) := B0.out.mono hw3
    have HL3 := hid11 hw3
    clear hw3 hat p0 hb0
    go_wp2_with fail
    clear e0 e1 ef
    go_region_held3 (fun X => X.cell? ⟨w.heap.size, 0, none⟩ = some (.int .i64 y) ∧ X.cell? ⟨w.heap.size, 1, none⟩ = some (.slice (some ⟨b, off, none⟩) (n + 1) cap) ∧ X.cell? ⟨b, off, none⟩ = some (.int .i64 ri))
      (first | exact HKS.out _ BAS.out | exact HKS.out _ BAL.out | exact HKS.out _ B0L.out)
      (first
      | (go_at_call 43; refine (HC.out _ (K1.out.1.1.trans (B0.out.mono K1.out.1.1.size))).mono ?_; rintro r0 u1 ⟨⟨va, vc, rfl, mv, mc⟩, hb⟩; rw [HN1.out] at mv mc ⊢; have BA : Hid (Below w1.heap.size w1 u1) := B0.out.trans (hb.mono B0.out.size); have MV : Hid (WtNew u1 w1.heap.size (.slice va n vc) k ∧ n ≤ vc) := ⟨mv.lower B0.out.size, mc⟩; have BAL : Hid (Below (w.heap.size + 2) w1 u1) := BA.out.mono HL3.out; have BAS : Hid (Below (w.heap.size + 2) w1 ((((u1.setCell ⟨w.heap.size + 2, 0, none⟩ (.int .i64 0)).setCell ⟨w.heap.size + 2, 1, none⟩ (.int .i64 y)).setCell ⟨w.heap.size + 2, 2, none⟩ (.slice va n vc)).setCell ⟨w.heap.size + 2, 3, none⟩ (.int .i64 ri))) := (((BAL.out.setCell (Nat.le_refl _) _).setCell (Nat.le_refl _) _).setCell (Nat.le_refl _) _).setCell (Nat.le_refl _) _; obtain ⟨r0, r1, r2, r3, rf, _⟩ := K1.out.1.2.2.2.keep BA.out; clear hb mv mc))
    all_goals
      have HNW : Hid (∀ y0 y1 y2 y3, WtNew ((((u1.setCell ⟨w.heap.size + 2, 0, none⟩ y0).setCell ⟨w.heap.size + 2, 1, none⟩ y1).setCell ⟨w.heap.size + 2, 2, none⟩ y2).setCell ⟨w.heap.size + 2, 3, none⟩ y3) w.heap.size (.slice va n vc) k) := fun y0 y1 y2 y3 => by
        have hh := K1.out.2
        refine WtNew.lower ?_ (Nat.le_trans (Nat.le_add_right _ 3) hh)
        refine WtNew.gw2 (g := w.heap.size + 2) ?_ (gwSet _ _ _ _) (by omega)
        refine WtNew.gw2 (g := w.heap.size + 2) ?_ (gwSet _ _ _ _) (by omega)
        refine WtNew.gw2 (g := w.heap.size + 2) ?_ (gwSet _ _ _ _) (by omega)
        exact WtNew.gw2 (g := w.heap.size + 2) MV.out.1 (gwSet _ _ _ _) (by omega)
      have HCP := hid11 MV.out.2
      have HBW := hid11 (K1.out.1.1.trans (BA.out.mono K1.out.1.1.size))
      clear HKS B0 B0L BA BAL BAS MV K1 HC HL3
      go_wp2_with fail
      exact bodyPost_ret (v := .agg #[.int .i64 0, .int .i64 y, .slice va n vc, .int .i64 ri]) (by simp [results, Try.results15, go_sem, r0, r1, r2, r3]) rfl ⟨LeRes.mk HE2.out HN1.out (HNW.out _ _ _ _) HCP.out, ((((HBW.out.setCell (by simp <;> omega) _).setCell (by simp <;> omega) _).setCell (by simp <;> omega) _).setCell (by simp <;> omega) _)⟩
end Go.Proofs.Ytmgidcigihpbeaa
