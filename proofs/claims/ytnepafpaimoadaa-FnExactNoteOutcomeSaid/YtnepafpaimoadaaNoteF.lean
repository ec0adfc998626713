/-
  NoteOutcome, by the model.
-/
import Derived.Test.YtnepafpaimoadaaNoteS
namespace Go.Proofs.Ytnepafpaimoadaa
open Go.ChangeShapes Go.WideShapes Go.ChangeAt Go.RowKit Go.Sort
set_option maxRecDepth 100000 in
set_option maxHeartbeats 8000000 in
theorem specNote_any (w : World) (s t o : Int) (a : Option Addr) (cap : Nat) (l : List Mk) (a0 a1 a2 a3 a4 now : Int) (good : Bool) (hl : l.length ≤ 1048576) (hi : MkIn w a l) :
    Calls Try.prog 23 #[.agg #[.int .i64 s, .int .i64 t, .int .i64 o, .slice a l.length cap], .agg #[.int .i64 a0, .int .i64 a1, .int .i64 a2, .int .i64 a3, .int .i64 a4], .int .i64 now, .bool good] w fun e w' => NoteRes w' w.heap.size (noteR s t o l a0 a1 a2 a3 a4 now good) e ∧ Below w.heap.size w w' := by
  obtain ⟨W, hW⟩ : ∃ W, W = ((w.alloc (.cells #[.int .i64 s, .int .i64 t, .int .i64 o, .slice a l.length cap] 26)).alloc (.cells #[.int .i64 a0, .int .i64 a1, .int .i64 a2, .int .i64 a3, .int .i64 a4] 28)).alloc (.cells #[.int .i64 0, .int .i64 0, .int .i64 0, .int .i64 0, .slice none 0 0] 39) := ⟨_, rfl⟩
  have HW : Hid (W = ((w.alloc (.cells #[.int .i64 s, .int .i64 t, .int .i64 o, .slice a l.length cap] 26)).alloc (.cells #[.int .i64 a0, .int .i64 a1, .int .i64 a2, .int .i64 a3, .int .i64 a4] 28)).alloc (.cells #[.int .i64 0, .int .i64 0, .int .i64 0, .int .i64 0, .slice none 0 0] 39)) := hW
  have K0 : Hid ((Below w.heap.size w W ∧ S4 W w.heap.size (.int .i64 s) (.int .i64 t) (.int .i64 o) (.slice a l.length cap) ∧ S5 W (w.heap.size + 1) (.int .i64 a0) (.int .i64 a1) (.int .i64 a2) (.int .i64 a3) (.int .i64 a4) ∧ C5 W (w.heap.size + 2) (.int .i64 0) (.int .i64 0) (.int .i64 0) (.int .i64 0) (.slice none 0 0)) ∧ W.heap.size = w.heap.size + 3) := by
    have h1 := S4.new w (.int .i64 s) (.int .i64 t) (.int .i64 o) (.slice a l.length cap) 26
    obtain ⟨W1, hW1⟩ : ∃ W1, W1 = w.alloc (.cells #[.int .i64 s, .int .i64 t, .int .i64 o, .slice a l.length cap] 26) := ⟨_, rfl⟩
    rw [← hW1] at h1 hW
    have e1 : W1.heap.size = w.heap.size + 1 := by rw [hW1]; simp
    have b1 : Below w.heap.size w W1 := by rw [hW1]; exact (Below.refl _ _).alloc (Nat.le_refl _) _
    have h2 := S5.new W1 (.int .i64 a0) (.int .i64 a1) (.int .i64 a2) (.int .i64 a3) (.int .i64 a4) 28
    obtain ⟨W2, hW2⟩ : ∃ W2, W2 = W1.alloc (.cells #[.int .i64 a0, .int .i64 a1, .int .i64 a2, .int .i64 a3, .int .i64 a4] 28) := ⟨_, rfl⟩
    rw [← hW2] at h2 hW
    have e2 : W2.heap.size = w.heap.size + 2 := by rw [hW2]; simp [e1]
    have b2 : Below W1.heap.size W1 W2 := by rw [hW2]; exact (Below.refl _ _).alloc (Nat.le_refl _) _
    have b3 : Below W2.heap.size W2 W := by rw [hW]; exact (Below.refl _ _).alloc (Nat.le_refl _) _
    have h3 := C5.new W2 (.int .i64 0) (.int .i64 0) (.int .i64 0) (.int .i64 0) (.slice none 0 0) 39
    rw [← hW] at h3
    rw [e1] at h2
    rw [e2] at h3
    have b13 := b2.trans (b3.mono b2.size)
    exact ⟨⟨b1.trans (b13.mono b1.size), h1.keep b13, h2.keep b3, h3⟩, by rw [hW]; simp [e2]⟩
  have HA : Hid (Calls Try.prog 56 #[.pointer (some ⟨w.heap.size, 0, none⟩), .pointer (some ⟨w.heap.size + 1, 0, none⟩), .int .i64 now] W fun e w' => e = .returned (.int .i64 (turnC s t o l a0 a1 a2 a3 a4 now)) ∧ Below W.heap.size W w') := specAsk_any W w.heap.size (w.heap.size + 1) s t o a cap l a0 a1 a2 a3 a4 now K0.out.1.2.1 K0.out.1.2.2.1 (hi.keep K0.out.1.1)
  have HC : Hid (∀ X, (Below w.heap.size w X ∧ S4 X w.heap.size (.int .i64 s) (.int .i64 t) (.int .i64 o) (.slice a l.length cap) ∧ S5 X (w.heap.size + 1) (.int .i64 a0) (.int .i64 a1) (.int .i64 a2) (.int .i64 a3) (.int .i64 a4) ∧ C5 X (w.heap.size + 2) (.int .i64 0) (.int .i64 0) (.int .i64 0) (.int .i64 0) (.slice none 0 0)) → Calls Try.prog 57 #[.pointer (some ⟨w.heap.size, 0, none⟩)] X fun e w' => CopyR w' X.heap.size s t o l e ∧ Below X.heap.size X w') := fun X hX => specCopy_any X w.heap.size s t o a cap l hl hX.2.1 (hi.keep hX.1)
  have HG : Hid (turnC s t o l a0 a1 a2 a3 a4 now = 0 → Good s t o l a0 a1 a2 a3 a4 now) := good_of
  have H1 : Hid (¬ turnC s t o l a0 a1 a2 a3 a4 now = 0 → noteR s t o l a0 a1 a2 a3 a4 now good = (turnC s t o l a0 a1 a2 a3 a4 now, ⟨0, 0, 0, []⟩)) := noteR_bad
  have H2 : Hid (turnC s t o l a0 a1 a2 a3 a4 now = 0 → noteR s t o l a0 a1 a2 a3 a4 now good = (0, noteV s t o l a0 a1 a2 now good)) := noteR_ok
  clear hi hW hl
  generalize noteR s t o l a0 a1 a2 a3 a4 now good = q at *
  generalize turnC s t o l a0 a1 a2 a3 a4 now = c at *
  obtain ⟨n, hn⟩ : ∃ n, l.length = n := ⟨_, rfl⟩
  have HN : Hid (l.length = n) := hn
  rw [hn] at HW K0 HC ⊢
  clear hn
  go_enter Try.func23, Try.ntmps23
  go_wp2_with fail
  rw [← HW.out]
  refine HA.out.mono ?_
  rintro e w1 ⟨rfl, hb1⟩
  have K1 : Hid ((Below w.heap.size w w1 ∧ S4 w1 w.heap.size (.int .i64 s) (.int .i64 t) (.int .i64 o) (.slice a n cap) ∧ S5 w1 (w.heap.size + 1) (.int .i64 a0) (.int .i64 a1) (.int .i64 a2) (.int .i64 a3) (.int .i64 a4) ∧ C5 w1 (w.heap.size + 2) (.int .i64 0) (.int .i64 0) (.int .i64 0) (.int .i64 0) (.slice none 0 0)) ∧ w.heap.size + 3 ≤ w1.heap.size) := ⟨⟨K0.out.1.1.trans (hb1.mono K0.out.1.1.size), K0.out.1.2.1.keep hb1, K0.out.1.2.2.1.keep hb1, K0.out.1.2.2.2.keep hb1⟩, by have := hb1.size; rw [K0.out.2] at this; exact this⟩
  clear hb1 K0 HW HA
  by_cases hc : c = 0
  rotate_left
  · have HE : Hid (q = (c, ⟨0, 0, 0, []⟩)) := H1.out hc
    have n0 : (c != 0) = true := by simpa using hc
    obtain ⟨r0, r1, r2, r3, r4, rf, _⟩ := K1.out.1.2.2.2
    clear H1 H2 HG HC
    go_wp2_with fail
    exact bodyPost_ret (v := .agg #[.int .i64 c, .int .i64 0, .int .i64 0, .int .i64 0, .slice none 0 0]) (by simp [results, Try.results23, go_sem, r0, r1, r2, r3, r4]) rfl ⟨NoteRes.mk HE.out rfl (MkNew.nil _ _ _ _), ((((K1.out.1.1.setCell (by simp <;> omega) _).setCell (by simp <;> omega) _).setCell (by simp <;> omega) _).setCell (by simp <;> omega) _).setCell (by simp <;> omega) _⟩
  subst hc
  have HE : Hid (q = (0, noteV s t o l a0 a1 a2 now good)) := H2.out (by trivial)
  have HG2 : Hid (Good s t o l a0 a1 a2 a3 a4 now) := HG.out (by trivial)
  clear H1 H2 HG
  go_wp2_with fail
  refine (HC.out _ K1.out.1).mono ?_
  rintro e w2 ⟨⟨va, vc, rfl, mv⟩, hb2⟩
  rw [HN.out] at mv ⊢
  obtain ⟨V, hV⟩ : ∃ V, V = w2.alloc (.cells #[.int .i64 s, .int .i64 t, .int .i64 o, .slice va n vc] 26) := ⟨_, rfl⟩
  have HV : Hid (V = w2.alloc (.cells #[.int .i64 s, .int .i64 t, .int .i64 o, .slice va n vc] 26)) := hV
  have aV : Below w2.heap.size w2 V := by rw [hV]; exact (Below.refl _ _).alloc (Nat.le_refl _) _
  have b2 := hb2.trans (aV.mono hb2.size)
  have hup := K1.out.2
  obtain ⟨nv, hnv⟩ : ∃ nv, noteV s t o l a0 a1 a2 now good = nv := ⟨_, rfl⟩
  have HL : Hid (Calls Try.prog 70 #[.pointer (some ⟨w2.heap.size, 0, none⟩), .pointer (some ⟨w.heap.size + 1, 0, none⟩), .int .i64 now, .bool good] V fun e w' => e = .returned (.tuple #[]) ∧ NoteT w' V.heap.size w2.heap.size nv ∧ V.grownBy w' (some w2.heap.size)) := by
    rw [← hnv]
    refine specTurn_any V w2.heap.size (w.heap.size + 1) (by have := hb2.size; omega) s t o va vc l a0 a1 a2 a3 a4 now good HG2.out (by rw [hV, HN.out]; exact S4.new w2 _ _ _ _ _) (K1.out.1.2.2.1.keep b2) ?_
    obtain ⟨x, y, e, hin⟩ := (mv.keep aV).in
    simp only [Value.slice.injEq] at e
    rw [e.1]; exact hin
  have HK2 : Hid (∀ X, V.grownBy X (some w2.heap.size) → Below w.heap.size w X ∧ C5 X (w.heap.size + 2) (.int .i64 0) (.int .i64 0) (.int .i64 0) (.int .i64 0) (.slice none 0 0)) := fun X hX => by
    have b3 : Below w2.heap.size w2 X := aV.trans (gbTo hX (Nat.le_refl _) aV.size)
    have b4 := hb2.trans (b3.mono hb2.size)
    exact ⟨K1.out.1.1.trans (b4.mono K1.out.1.1.size), K1.out.1.2.2.2.keep b4⟩
  have hX1 : w.heap.size + 3 ≤ V.heap.size := Nat.le_trans hup (Nat.le_trans hb2.size aV.size)
  rw [hnv] at HE
  clear hb2 K1 HC mv hV aV b2 HG2 hnv hup
  go_wp2_with fail
  rw [← HV.out]
  refine HL.out.mono ?_
  rintro e w3 ⟨rfl, ⟨xa, xc, hS, mN⟩, hgb⟩
  have K3 := hid12 (HK2.out w3 hgb)
  clear HV HL HK2 hgb
  generalize w2.heap.size = X0 at *
  generalize V.heap.size = X1 at *
  obtain ⟨ns, nt, no, nll⟩ := nv
  simp only at hS mN
  obtain ⟨m, hmm⟩ : ∃ m, nll.length = m := ⟨_, rfl⟩
  have HMM : Hid (nll.length = m) := hmm
  rw [hmm] at hS mN
  have HMN : Hid (MkNew w3 X1 (.slice xa m xc) nll) := mN
  clear hmm mN
  obtain ⟨e0, e1, e2, e3, ef, _⟩ := hS
  obtain ⟨r0, r1, r2, r3, r4, rf, _⟩ := K3.out.2
  have HM : Hid (∀ x0 x1 x2 x3 x4, MkNew (((((w3.setCell ⟨w.heap.size + 2, 0, none⟩ x0).setCell ⟨w.heap.size + 2, 1, none⟩ x1).setCell ⟨w.heap.size + 2, 2, none⟩ x2).setCell ⟨w.heap.size + 2, 3, none⟩ x3).setCell ⟨w.heap.size + 2, 4, none⟩ x4) w.heap.size (.slice xa m xc) nll) := fun x0 x1 x2 x3 x4 => by
    refine MkNew.lower ?_ (show w.heap.size ≤ X1 by omega)
    exact ((((HMN.out.gb2 (gbSet _ _ _ _) (by omega)).gb2 (gbSet _ _ _ _) (by omega)).gb2 (gbSet _ _ _ _) (by omega)).gb2 (gbSet _ _ _ _) (by omega)).gb2 (gbSet _ _ _ _) (by omega)
  go_wp2_with fail
  exact bodyPost_ret (v := .agg #[.int .i64 0, .int .i64 ns, .int .i64 nt, .int .i64 no, .slice xa m xc]) (by simp [results, Try.results23, go_sem, r0, r1, r2, r3, r4]) rfl ⟨NoteRes.mk HE.out HMM.out (HM.out _ _ _ _ _), ((((K3.out.1.setCell (by simp <;> omega) _).setCell (by simp <;> omega) _).setCell (by simp <;> omega) _).setCell (by simp <;> omega) _).setCell (by simp <;> omega) _⟩
end Go.Proofs.Ytnepafpaimoadaa
