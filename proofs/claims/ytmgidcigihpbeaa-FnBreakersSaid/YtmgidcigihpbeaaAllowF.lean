/-
  AllowFetch, by the model and by the program.
-/
import Derived.Test.YtmgidcigihpbeaaAllowS
import Derived.Test.YtmgidcigihpbeaaCondI
namespace Go.Proofs.Ytmgidcigihpbeaa
open Go.ChangeShapes Go.WideShapes Go.ChangeAt Go.RowKit Go.Sort
set_option maxRecDepth 100000 in
set_option maxHeartbeats 8000000 in
theorem specAllow_any (w : World) (s t o : Int) (a : Option Addr) (cap : Nat) (l : List Mk) (a0 a1 a2 a3 a4 now : Int) (hl : l.length ≤ 1048576) (hi : MkIn w a l) :
    Calls Try.prog 27 #[.agg #[.int .i64 s, .int .i64 t, .int .i64 o, .slice a l.length cap], .agg #[.int .i64 a0, .int .i64 a1, .int .i64 a2, .int .i64 a3, .int .i64 a4], .int .i64 now] w fun e w' => AllowRes w' w.heap.size (allowR s t o l a0 a1 a2 a3 a4 now) e ∧ Below w.heap.size w w' := by
  obtain ⟨W, hW⟩ : ∃ W, W = ((w.alloc (.cells #[.int .i64 s, .int .i64 t, .int .i64 o, .slice a l.length cap] 51)).alloc (.cells #[.int .i64 a0, .int .i64 a1, .int .i64 a2, .int .i64 a3, .int .i64 a4] 53)).alloc (.cells #[.int .i64 0, .int .i64 0, .int .i64 0, .int .i64 0, .slice none 0 0, .bool false] 57) := ⟨_, rfl⟩
  have HW : Hid (W = ((w.alloc (.cells #[.int .i64 s, .int .i64 t, .int .i64 o, .slice a l.length cap] 51)).alloc (.cells #[.int .i64 a0, .int .i64 a1, .int .i64 a2, .int .i64 a3, .int .i64 a4] 53)).alloc (.cells #[.int .i64 0, .int .i64 0, .int .i64 0, .int .i64 0, .slice none 0 0, .bool false] 57)) := hW
  have K0 : Hid ((Below w.heap.size w W ∧ S4 W w.heap.size (.int .i64 s) (.int .i64 t) (.int .i64 o) (.slice a l.length cap) ∧ S5 W (w.heap.size + 1) (.int .i64 a0) (.int .i64 a1) (.int .i64 a2) (.int .i64 a3) (.int .i64 a4) ∧ C6 W (w.heap.size + 2) (.int .i64 0) (.int .i64 0) (.int .i64 0) (.int .i64 0) (.slice none 0 0) (.bool false)) ∧ W.heap.size = w.heap.size + 3) := by
    have h1 := S4.new w (.int .i64 s) (.int .i64 t) (.int .i64 o) (.slice a l.length cap) 51
    obtain ⟨W1, hW1⟩ : ∃ W1, W1 = w.alloc (.cells #[.int .i64 s, .int .i64 t, .int .i64 o, .slice a l.length cap] 51) := ⟨_, rfl⟩
    rw [← hW1] at h1 hW
    have e1 : W1.heap.size = w.heap.size + 1 := by rw [hW1]; simp
    have b1 : Below w.heap.size w W1 := by rw [hW1]; exact (Below.refl _ _).alloc (Nat.le_refl _) _
    have h2 := S5.new W1 (.int .i64 a0) (.int .i64 a1) (.int .i64 a2) (.int .i64 a3) (.int .i64 a4) 53
    obtain ⟨W2, hW2⟩ : ∃ W2, W2 = W1.alloc (.cells #[.int .i64 a0, .int .i64 a1, .int .i64 a2, .int .i64 a3, .int .i64 a4] 53) := ⟨_, rfl⟩
    rw [← hW2] at h2 hW
    have e2 : W2.heap.size = w.heap.size + 2 := by rw [hW2]; simp [e1]
    have b2 : Below W1.heap.size W1 W2 := by rw [hW2]; exact (Below.refl _ _).alloc (Nat.le_refl _) _
    have b3 : Below W2.heap.size W2 W := by rw [hW]; exact (Below.refl _ _).alloc (Nat.le_refl _) _
    have h3 := C6.new W2 (.int .i64 0) (.int .i64 0) (.int .i64 0) (.int .i64 0) (.slice none 0 0) (.bool false) 57
    rw [← hW] at h3
    rw [e1] at h2
    rw [e2] at h3
    have b13 := b2.trans (b3.mono b2.size)
    exact ⟨⟨b1.trans (b13.mono b1.size), h1.keep b13, h2.keep b3, h3⟩, by rw [hW]; simp [e2]⟩
  have HA : Hid (Calls Try.prog 65 #[.pointer (some ⟨w.heap.size, 0, none⟩), .pointer (some ⟨w.heap.size + 1, 0, none⟩), .int .i64 now] W fun e w' => e = .returned (.int .i64 (turnC s t o l a0 a1 a2 a3 a4 now)) ∧ Below W.heap.size W w') := specAsk_any W w.heap.size (w.heap.size + 1) s t o a cap l a0 a1 a2 a3 a4 now K0.out.1.2.1 K0.out.1.2.2.1 (hi.keep K0.out.1.1)
  have HC : Hid (∀ X, (Below w.heap.size w X ∧ S4 X w.heap.size (.int .i64 s) (.int .i64 t) (.int .i64 o) (.slice a l.length cap) ∧ S5 X (w.heap.size + 1) (.int .i64 a0) (.int .i64 a1) (.int .i64 a2) (.int .i64 a3) (.int .i64 a4) ∧ C6 X (w.heap.size + 2) (.int .i64 0) (.int .i64 0) (.int .i64 0) (.int .i64 0) (.slice none 0 0) (.bool false)) → Calls Try.prog 66 #[.pointer (some ⟨w.heap.size, 0, none⟩)] X fun e w' => CopyR w' X.heap.size s t o l e ∧ Below X.heap.size X w') := fun X hX => specCopy_any X w.heap.size s t o a cap l hl hX.2.1 (hi.keep hX.1)
  have HG : Hid (turnC s t o l a0 a1 a2 a3 a4 now = 0 → Good s t o l a0 a1 a2 a3 a4 now) := good_of
  have H1 : Hid (¬ turnC s t o l a0 a1 a2 a3 a4 now = 0 → allowR s t o l a0 a1 a2 a3 a4 now = (turnC s t o l a0 a1 a2 a3 a4 now, ⟨0, 0, 0, []⟩, false)) := allowR_bad
  have H2 : Hid (turnC s t o l a0 a1 a2 a3 a4 now = 0 → allowR s t o l a0 a1 a2 a3 a4 now = (0, ⟨alS s t o a3 a4 now, t, alO s t o a3 a4 now, l⟩, alB s t o a3 a4 now)) := allowR_ok
  clear hi hW hl
  generalize allowR s t o l a0 a1 a2 a3 a4 now = q at *
  generalize turnC s t o l a0 a1 a2 a3 a4 now = c at *
  obtain ⟨n, hn⟩ : ∃ n, l.length = n := ⟨_, rfl⟩
  have HN : Hid (l.length = n) := hn
  rw [hn] at HW K0 HC ⊢
  clear hn
  go_enter Try.func27, Try.ntmps27
  go_wp2_with fail
  rw [← HW.out]
  refine HA.out.mono ?_
  rintro e w1 ⟨rfl, hb1⟩
  have K1 : Hid ((Below w.heap.size w w1 ∧ S4 w1 w.heap.size (.int .i64 s) (.int .i64 t) (.int .i64 o) (.slice a n cap) ∧ S5 w1 (w.heap.size + 1) (.int .i64 a0) (.int .i64 a1) (.int .i64 a2) (.int .i64 a3) (.int .i64 a4) ∧ C6 w1 (w.heap.size + 2) (.int .i64 0) (.int .i64 0) (.int .i64 0) (.int .i64 0) (.slice none 0 0) (.bool false)) ∧ w.heap.size + 3 ≤ w1.heap.size) := ⟨⟨K0.out.1.1.trans (hb1.mono K0.out.1.1.size), K0.out.1.2.1.keep hb1, K0.out.1.2.2.1.keep hb1, K0.out.1.2.2.2.keep hb1⟩, by have := hb1.size; rw [K0.out.2] at this; exact this⟩
  clear hb1 K0 HW HA
  by_cases hc : c = 0
  rotate_left
  · have HE : Hid (q = (c, ⟨0, 0, 0, []⟩, false)) := H1.out hc
    have n0 : (c != 0) = true := by simpa using hc
    obtain ⟨r0, r1, r2, r3, r4, r5, rf, _⟩ := K1.out.1.2.2.2
    clear H1 H2 HG HC
    go_wp2_with fail
    exact bodyPost_ret (v := .agg #[.int .i64 c, .int .i64 0, .int .i64 0, .int .i64 0, .slice none 0 0, .bool false]) (by simp [results, Try.results27, go_sem, r0, r1, r2, r3, r4, r5]) rfl ⟨AllowRes.mk HE.out rfl (MkNew.nil _ _ _ _), (((((K1.out.1.1.setCell (by simp <;> omega) _).setCell (by simp <;> omega) _).setCell (by simp <;> omega) _).setCell (by simp <;> omega) _).setCell (by simp <;> omega) _).setCell (by simp <;> omega) _⟩
  subst hc
  have HE : Hid (q = (0, ⟨alS s t o a3 a4 now, t, alO s t o a3 a4 now, l⟩, alB s t o a3 a4 now)) := H2.out (by trivial)
  have HG2 : Hid (Good s t o l a0 a1 a2 a3 a4 now) := HG.out (by trivial)
  clear H1 H2 HG
  go_wp2_with fail
  refine (HC.out _ K1.out.1).mono ?_
  rintro e w2 ⟨⟨va, vc, rfl, mv⟩, hb2⟩
  rw [HN.out] at mv ⊢
  obtain ⟨V, hV⟩ : ∃ V, V = w2.alloc (.cells #[.int .i64 s, .int .i64 t, .int .i64 o, .slice va n vc] 51) := ⟨_, rfl⟩
  have HV : Hid (V = w2.alloc (.cells #[.int .i64 s, .int .i64 t, .int .i64 o, .slice va n vc] 51)) := hV
  have aV : Below w2.heap.size w2 V := by rw [hV]; exact (Below.refl _ _).alloc (Nat.le_refl _) _
  have b2 := hb2.trans (aV.mono hb2.size)
  have HL : Hid (Calls Try.prog 67 #[.pointer (some ⟨w2.heap.size, 0, none⟩), .pointer (some ⟨w.heap.size + 1, 0, none⟩), .int .i64 now] V fun e w' => e = .returned (.bool (alB s t o a3 a4 now)) ∧ S4 w' w2.heap.size (.int .i64 (alS s t o a3 a4 now)) (.int .i64 t) (.int .i64 (alO s t o a3 a4 now)) (.slice va n vc) ∧ V.grownBy w' (some w2.heap.size)) := specLetIn_any V w2.heap.size (w.heap.size + 1) s t o (.slice va n vc) a0 a1 a2 a3 a4 now HG2.out.hs ⟨HG2.out.ht.1, HG2.out.ht.2, HG2.out.hnow⟩ HG2.out.ho (by rw [hV]; exact S4.new w2 _ _ _ _ _) (K1.out.1.2.2.1.keep b2)
  have HK2 : Hid (∀ X, V.grownBy X (some w2.heap.size) → Below w.heap.size w X ∧ C6 X (w.heap.size + 2) (.int .i64 0) (.int .i64 0) (.int .i64 0) (.int .i64 0) (.slice none 0 0) (.bool false) ∧ MkNew X w1.heap.size (.slice va n vc) l) := fun X hX => by
    have b3 : Below w2.heap.size w2 X := aV.trans (gbTo hX (Nat.le_refl _) aV.size)
    have b4 := hb2.trans (b3.mono hb2.size)
    exact ⟨K1.out.1.1.trans (b4.mono K1.out.1.1.size), K1.out.1.2.2.2.keep b4, mv.keep b3⟩
  have hup := K1.out.2
  clear hb2 K1 HC mv hV aV b2 HG2
  go_wp2_with fail
  rw [← HV.out]
  refine HL.out.mono ?_
  rintro e w3 ⟨rfl, hS, hgb⟩
  have K3 := hid12 (HK2.out w3 hgb)
  clear HV HL HK2 hgb
  generalize w2.heap.size = X0 at *
  generalize w1.heap.size = X1 at *
  obtain ⟨e0, e1, e2, e3, ef, _⟩ := hS
  obtain ⟨r0, r1, r2, r3, r4, r5, rf, _⟩ := K3.out.2.1
  generalize alS s t o a3 a4 now = zs at *
  generalize alO s t o a3 a4 now = zo at *
  generalize alB s t o a3 a4 now = zb at *
  have HM : Hid (∀ x0 x1 x2 x3 x4 x5, MkNew ((((((w3.setCell ⟨w.heap.size + 2, 0, none⟩ x0).setCell ⟨w.heap.size + 2, 1, none⟩ x1).setCell ⟨w.heap.size + 2, 2, none⟩ x2).setCell ⟨w.heap.size + 2, 3, none⟩ x3).setCell ⟨w.heap.size + 2, 4, none⟩ x4).setCell ⟨w.heap.size + 2, 5, none⟩ x5) w.heap.size (.slice va n vc) l) := fun x0 x1 x2 x3 x4 x5 => by
    refine MkNew.lower ?_ (show w.heap.size ≤ X1 by omega)
    exact (((((K3.out.2.2.gb2 (gbSet _ _ _ _) (by omega)).gb2 (gbSet _ _ _ _) (by omega)).gb2 (gbSet _ _ _ _) (by omega)).gb2 (gbSet _ _ _ _) (by omega)).gb2 (gbSet _ _ _ _) (by omega)).gb2 (gbSet _ _ _ _) (by omega)
  go_wp2_with fail
  exact bodyPost_ret (v := .agg #[.int .i64 0, .int .i64 zs, .int .i64 t, .int .i64 zo, .slice va n vc, .bool zb]) (by simp [results, Try.results27, go_sem, r0, r1, r2, r3, r4, r5]) rfl ⟨AllowRes.mk HE.out HN.out (HM.out _ _ _ _ _ _), (((((K3.out.1.setCell (by simp <;> omega) _).setCell (by simp <;> omega) _).setCell (by simp <;> omega) _).setCell (by simp <;> omega) _).setCell (by simp <;> omega) _).setCell (by simp <;> omega) _⟩
end Go.Proofs.Ytmgidcigihpbeaa
