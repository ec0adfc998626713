/-
  AllowFetch, by the program.
-/
import Derived.Test.YtmgidcigihpbeaaAllowS
import Derived.Test.YtmgidcigihpbeaaCondI
namespace Go.Proofs.Ytmgidcigihpbeaa
open Go.ChangeShapes Go.WideShapes Go.ChangeAt Go.RowKit Go.Sort
set_option maxHeartbeats 8000000 in
theorem implAllow_bad (w : World) (s t o : Int) (a : Option Addr) (cap : Nat) (l : List Mk) (a0 a1 a2 a3 a4 now : Int) (q : Int × Bk × Bool) (hq : q = (turnC s t o l a0 a1 a2 a3 a4 now, ⟨0, 0, 0, []⟩, false)) (hi : MkIn w a l) (ht : ¬ turnC s t o l a0 a1 a2 a3 a4 now = 0) :
    Calls Try.prog 26 #[.agg #[.int .i64 s, .int .i64 t, .int .i64 o, .slice a l.length cap], .agg #[.int .i64 a0, .int .i64 a1, .int .i64 a2, .int .i64 a3, .int .i64 a4], .int .i64 now] w fun e w' => AllowRes w' w.heap.size q e ∧ Below w.heap.size w w' := by
  obtain ⟨W, hW⟩ : ∃ W, W = ((w.alloc (.cells #[.int .i64 s, .int .i64 t, .int .i64 o, .slice a l.length cap] 51)).alloc (.cells #[.int .i64 a0, .int .i64 a1, .int .i64 a2, .int .i64 a3, .int .i64 a4] 53)).alloc (.cells #[.int .i64 0, .int .i64 0, .int .i64 0, .int .i64 0, .slice none 0 0, .bool false] 57) := ⟨_, rfl⟩
  have HW : Hid (W = ((w.alloc (.cells #[.int .i64 s, .int .i64 t, .int .i64 o, .slice a l.length cap] 51)).alloc (.cells #[.int .i64 a0, .int .i64 a1, .int .i64 a2, .int .i64 a3, .int .i64 a4] 53)).alloc (.cells #[.int .i64 0, .int .i64 0, .int .i64 0, .int .i64 0, .slice none 0 0, .bool false] 57)) := hW
  have K0 : Hid ((Below w.heap.size w W ∧ S4 W w.heap.size (.int .i64 s) (.int .i64 t) (.int .i64 o) (.slice a l.length cap) ∧ S5 W (w.heap.size + 1) (.int .i64 a0) (.int .i64 a1) (.int .i64 a2) (.int .i64 a3) (.int .i64 a4) ∧ C6 W (w.heap.size + 2) (.int .i64 0) (.int .i64 0) (.int .i64 0) (.int .i64 0) (.slice none 0 0) (.bool false)) ∧ W.heap.size = w.heap.size + 3) := by
    have h1 := S4.new w (.int .i64 s) (.int .i64 t) (.int .i64 o) (.slice a l.length cap) 51
    obtain ⟨W1, hW1⟩ : ∃ W1, W1 = w.alloc (.cells #[.int .i64 s, .int .i64 t, .int .i64 o, .slice a l.length cap] 51) := ⟨_, rfl⟩
    rw [← hW1] at h1 hW
    have e1 : W1.heap.size = w.heap.size + 1 := by rw [hW1]; simp
    have b1 : Below w.heap.size w W1 := by rw [hW1]; exact (Below.refl _ _).alloc (Nat.le_refl _) _
    have h2 := S5.new W1 (.int .i64 a0) (.int .i64 a1) (.int .i64 a2) (.int .i64 a3) (.int .i64 a4) 53
    obtain ⟨W2, hW2⟩ : ∃ W2, W2 = W1.alloc (.cells #[.int .i64 a0, .int .i64 a1, .int .i64 a2, .int .i64 a3, .int .i64 a4] 53) := ⟨_, rfl⟩
    rw [← hW2] at h2 hW
    have e2 : W2.heap.size = w.heap.size + 2 := by rw [hW2]; simp [e1]
    have b2 : Below W1.heap.size W1 W2 := by rw [hW2]; exact (Below.refl _ _).alloc (Nat.le_refl _) _
    have b3 : Below W2.heap.size W2 W := by rw [hW]; exact (Below.refl _ _).alloc (Nat.le_refl _) _
    have h3 := C6.new W2 (.int .i64 0) (.int .i64 0) (.int .i64 0) (.int .i64 0) (.slice none 0 0) (.bool false) 57
    rw [← hW] at h3
    rw [e1] at h2
    rw [e2] at h3
    have b13 := b2.trans (b3.mono b2.size)
    exact ⟨⟨b1.trans (b13.mono b1.size), h1.keep b13, h2.keep b3, h3⟩, by rw [hW]; simp [e2]⟩
  have HA : Hid (Calls Try.prog 62 #[.agg #[.int .i64 s, .int .i64 t, .int .i64 o, .slice a l.length cap], .agg #[.int .i64 a0, .int .i64 a1, .int .i64 a2, .int .i64 a3, .int .i64 a4], .int .i64 now] W fun e w' => e = .returned (.int .i64 (turnC s t o l a0 a1 a2 a3 a4 now)) ∧ Below W.heap.size W w') := implAsk_any W s t o a cap l a0 a1 a2 a3 a4 now (hi.keep K0.out.1.1)
  have HE : Hid (q = (turnC s t o l a0 a1 a2 a3 a4 now, ⟨0, 0, 0, []⟩, false)) := hq
  clear hi hW hq
  generalize turnC s t o l a0 a1 a2 a3 a4 now = c at *
  generalize l.length = n at *
  go_enter Try.func26, Try.ntmps26
  go_wp2_with fail
  rw [← HW.out]
  refine HA.out.mono ?_
  rintro e w1 ⟨rfl, hb1⟩
  have K1 : Hid (Below w.heap.size w w1 ∧ C6 w1 (w.heap.size + 2) (.int .i64 0) (.int .i64 0) (.int .i64 0) (.int .i64 0) (.slice none 0 0) (.bool false)) := ⟨K0.out.1.1.trans (hb1.mono K0.out.1.1.size), K0.out.1.2.2.2.keep hb1⟩
  clear hb1 K0 HW HA
  have n0 : (c != 0) = true := by simpa using ht
  obtain ⟨r0, r1, r2, r3, r4, r5, rf, _⟩ := K1.out.2
  go_wp2_with fail
  exact bodyPost_ret (v := .agg #[.int .i64 c, .int .i64 0, .int .i64 0, .int .i64 0, .slice none 0 0, .bool false]) (by simp [results, Try.results26, go_sem, r0, r1, r2, r3, r4, r5]) rfl ⟨AllowRes.mk HE.out rfl (MkNew.nil _ _ _ _), (((((K1.out.1.setCell (by simp <;> omega) _).setCell (by simp <;> omega) _).setCell (by simp <;> omega) _).setCell (by simp <;> omega) _).setCell (by simp <;> omega) _).setCell (by simp <;> omega) _⟩
set_option maxRecDepth 100000 in
set_option maxHeartbeats 8000000 in
theorem implAllow_0 (w : World) (t : Int) (a : Option Addr) (cap : Nat) (l : List Mk) (a0 a1 a2 a3 a4 now : Int) (q : Int × Bk × Bool) (hq : q = (0, ⟨0, t, 0, l⟩, true)) (hl : l.length ≤ 1048576) (hi : MkIn w a l) (ht : turnC 0 t 0 l a0 a1 a2 a3 a4 now = 0) :
    Calls Try.prog 26 #[.agg #[.int .i64 0, .int .i64 t, .int .i64 0, .slice a l.length cap], .agg #[.int .i64 a0, .int .i64 a1, .int .i64 a2, .int .i64 a3, .int .i64 a4], .int .i64 now] w fun e w' => AllowRes w' w.heap.size q e ∧ Below w.heap.size w w' := by
  obtain ⟨W, hW⟩ : ∃ W, W = ((w.alloc (.cells #[.int .i64 0, .int .i64 t, .int .i64 0, .slice a l.length cap] 51)).alloc (.cells #[.int .i64 a0, .int .i64 a1, .int .i64 a2, .int .i64 a3, .int .i64 a4] 53)).alloc (.cells #[.int .i64 0, .int .i64 0, .int .i64 0, .int .i64 0, .slice none 0 0, .bool false] 57) := ⟨_, rfl⟩
  have HW : Hid (W = ((w.alloc (.cells #[.int .i64 0, .int .i64 t, .int .i64 0, .slice a l.length cap] 51)).alloc (.cells #[.int .i64 a0, .int .i64 a1, .int .i64 a2, .int .i64 a3, .int .i64 a4] 53)).alloc (.cells #[.int .i64 0, .int .i64 0, .int .i64 0, .int .i64 0, .slice none 0 0, .bool false] 57)) := hW
  have K0 : Hid ((Below w.heap.size w W ∧ S4 W w.heap.size (.int .i64 0) (.int .i64 t) (.int .i64 0) (.slice a l.length cap) ∧ S5 W (w.heap.size + 1) (.int .i64 a0) (.int .i64 a1) (.int .i64 a2) (.int .i64 a3) (.int .i64 a4) ∧ C6 W (w.heap.size + 2) (.int .i64 0) (.int .i64 0) (.int .i64 0) (.int .i64 0) (.slice none 0 0) (.bool false)) ∧ W.heap.size = w.heap.size + 3) := by
    have h1 := S4.new w (.int .i64 0) (.int .i64 t) (.int .i64 0) (.slice a l.length cap) 51
    obtain ⟨W1, hW1⟩ : ∃ W1, W1 = w.alloc (.cells #[.int .i64 0, .int .i64 t, .int .i64 0, .slice a l.length cap] 51) := ⟨_, rfl⟩
    rw [← hW1] at h1 hW
    have e1 : W1.heap.size = w.heap.size + 1 := by rw [hW1]; simp
    have b1 : Below w.heap.size w W1 := by rw [hW1]; exact (Below.refl _ _).alloc (Nat.le_refl _) _
    have h2 := S5.new W1 (.int .i64 a0) (.int .i64 a1) (.int .i64 a2) (.int .i64 a3) (.int .i64 a4) 53
    obtain ⟨W2, hW2⟩ : ∃ W2, W2 = W1.alloc (.cells #[.int .i64 a0, .int .i64 a1, .int .i64 a2, .int .i64 a3, .int .i64 a4] 53) := ⟨_, rfl⟩
    rw [← hW2] at h2 hW
    have e2 : W2.heap.size = w.heap.size + 2 := by rw [hW2]; simp [e1]
    have b2 : Below W1.heap.size W1 W2 := by rw [hW2]; exact (Below.refl _ _).alloc (Nat.le_refl _) _
    have b3 : Below W2.heap.size W2 W := by rw [hW]; exact (Below.refl _ _).alloc (Nat.le_refl _) _
    have h3 := C6.new W2 (.int .i64 0) (.int .i64 0) (.int .i64 0) (.int .i64 0) (.slice none 0 0) (.bool false) 57
    rw [← hW] at h3
    rw [e1] at h2
    rw [e2] at h3
    have b13 := b2.trans (b3.mono b2.size)
    exact ⟨⟨b1.trans (b13.mono b1.size), h1.keep b13, h2.keep b3, h3⟩, by rw [hW]; simp [e2]⟩
  have HG := good_of ht
  have HA : Hid (Calls Try.prog 62 #[.agg #[.int .i64 0, .int .i64 t, .int .i64 0, .slice a l.length cap], .agg #[.int .i64 a0, .int .i64 a1, .int .i64 a2, .int .i64 a3, .int .i64 a4], .int .i64 now] W fun e w' => e = .returned (.int .i64 0) ∧ Below W.heap.size W w') := by
    have := implAsk_any W 0 t 0 a cap l a0 a1 a2 a3 a4 now (hi.keep K0.out.1.1)
    rw [ht] at this
    exact this
  have HC : Hid (∀ X, Below W.heap.size W X → Calls Try.prog 64 #[.agg #[.int .i64 0, .int .i64 t, .int .i64 0, .slice a l.length cap]] X fun e w' => CondR w' X.heap.size t l e ∧ Below X.heap.size X w') := fun X hX => condC t 0 a cap l hl X ((hi.keep K0.out.1.1).keep hX)
  have HQ : Hid (∀ v X, Calls Try.prog 63 #[.iface 139 v, .agg #[.int .i64 a0, .int .i64 a1, .int .i64 a2, .int .i64 a3, .int .i64 a4], .int .i64 now] X fun e w' => e = .returned (.tuple #[.iface 139 v, .bool true]) ∧ Below X.heap.size X w') := fun v X => askC_all v a0 a1 a2 a3 a4 now X
  have HM0 : Hid (∀ va n vc X, Calls Try.prog 115 #[.agg #[.int .i64 t, .slice va n vc]] X fun e w' => e = .returned (.agg #[.int .i64 0, .int .i64 t, .int .i64 0, .slice va n vc]) ∧ Below X.heap.size X w') := breakC t
  have HE : Hid (q = (0, ⟨0, t, 0, l⟩, true)) := hq
  clear hW HG hq ht hi hl
  obtain ⟨n, hn⟩ : ∃ n, l.length = n := ⟨_, rfl⟩
  have HN : Hid (l.length = n) := hn
  rw [hn] at HW K0 HA HC ⊢
  clear hn
  go_enter Try.func26, Try.ntmps26
  go_wp2_with fail
  rw [← HW.out]
  refine HA.out.mono ?_
  rintro e w1 ⟨rfl, hb1⟩
  have HK1 : Hid (∀ X, Below w1.heap.size w1 X → Below w.heap.size w X ∧ S4 X w.heap.size (.int .i64 0) (.int .i64 t) (.int .i64 0) (.slice a n cap) ∧ S5 X (w.heap.size + 1) (.int .i64 a0) (.int .i64 a1) (.int .i64 a2) (.int .i64 a3) (.int .i64 a4) ∧ C6 X (w.heap.size + 2) (.int .i64 0) (.int .i64 0) (.int .i64 0) (.int .i64 0) (.slice none 0 0) (.bool false)) := fun X hX => by
    have b := hb1.trans (hX.mono hb1.size)
    exact ⟨K0.out.1.1.trans (b.mono K0.out.1.1.size), K0.out.1.2.1.keep b, K0.out.1.2.2.1.keep b, K0.out.1.2.2.2.keep b⟩
  have hup : w.heap.size + 3 ≤ w1.heap.size := by have := hb1.size; rw [K0.out.2] at this; exact this
  have HC1 : Hid (∀ X, Below w1.heap.size w1 X → Calls Try.prog 64 #[.agg #[.int .i64 0, .int .i64 t, .int .i64 0, .slice a n cap]] X fun e w' => CondR w' X.heap.size t l e ∧ Below X.heap.size X w') := fun X hX => HC.out X (hb1.trans (hX.mono hb1.size))
  clear hb1 K0 HW HA HC
  have HKS : Hid (∀ X, Below w1.heap.size w1 X → X.cell? ⟨w.heap.size, 0, none⟩ = some (.int .i64 0) ∧ X.cell? ⟨w.heap.size, 1, none⟩ = some (.int .i64 t) ∧ X.cell? ⟨w.heap.size, 2, none⟩ = some (.int .i64 0) ∧ X.cell? ⟨w.heap.size, 3, none⟩ = some (.slice a n cap) ∧ X.cell? ⟨w.heap.size + 1, 0, none⟩ = some (.int .i64 a0) ∧ X.cell? ⟨w.heap.size + 1, 1, none⟩ = some (.int .i64 a1) ∧ X.cell? ⟨w.heap.size + 1, 2, none⟩ = some (.int .i64 a2) ∧ X.cell? ⟨w.heap.size + 1, 3, none⟩ = some (.int .i64 a3) ∧ X.cell? ⟨w.heap.size + 1, 4, none⟩ = some (.int .i64 a4)) := fun X hb => ⟨(HK1.out X hb).2.1.c0, (HK1.out X hb).2.1.c1, (HK1.out X hb).2.1.c2, (HK1.out X hb).2.1.c3, (HK1.out X hb).2.2.1.c0, (HK1.out X hb).2.2.1.c1, (HK1.out X hb).2.2.1.c2, (HK1.out X hb).2.2.1.c3, (HK1.out X hb).2.2.1.c4⟩
  have B0 : Hid (Below w1.heap.size w1 w1.drew) := (Below.refl _ _).drew
  go_wp2_with fail
  go_region_held3 (fun X => X.cell? ⟨w.heap.size, 0, none⟩ = some (.int .i64 0) ∧ X.cell? ⟨w.heap.size, 1, none⟩ = some (.int .i64 t) ∧ X.cell? ⟨w.heap.size, 2, none⟩ = some (.int .i64 0) ∧ X.cell? ⟨w.heap.size, 3, none⟩ = some (.slice a n cap) ∧ X.cell? ⟨w.heap.size + 1, 0, none⟩ = some (.int .i64 a0) ∧ X.cell? ⟨w.heap.size + 1, 1, none⟩ = some (.int .i64 a1) ∧ X.cell? ⟨w.heap.size + 1, 2, none⟩ = some (.int .i64 a2) ∧ X.cell? ⟨w.heap.size + 1, 3, none⟩ = some (.int .i64 a3) ∧ X.cell? ⟨w.heap.size + 1, 4, none⟩ = some (.int .i64 a4))
    (first | exact HKS.out _ BB.out | exact HKS.out _ BA.out | exact HKS.out _ B0.out)
    (first
    | (go_at_call 63; refine (HQ.out _ _).mono ?_; rintro r0 wb ⟨rfl, hbb⟩; have BB : Hid (Below w1.heap.size w1 wb) := BA.out.trans (hbb.mono BA.out.size); have MB : Hid (MkNew wb w1.heap.size (.slice va n vc) l) := MA.out.keep hbb; clear hbb)
    | (go_at_call 64; refine (HC1.out _ B0.out).mono ?_; rintro r0 wa ⟨⟨va, vc, rfl, ma⟩, hba⟩; rw [HN.out] at ma ⊢; have BA : Hid (Below w1.heap.size w1 wa) := B0.out.trans (hba.mono B0.out.size); have MA : Hid (MkNew wa w1.heap.size (.slice va n vc) l) := ma.lower B0.out.size; clear hba ma))
  all_goals
    have KZ := hid12 (HK1.out _ BB.out)
    clear HK1 HKS B0 BA BB HC1 MA HQ
    go_wp2_with fail
    refine (HM0.out _ _ _ _).mono ?_
    rintro e w4 ⟨rfl, hb4⟩
    have KY : Hid (Below w.heap.size w w4 ∧ C6 w4 (w.heap.size + 2) (.int .i64 0) (.int .i64 0) (.int .i64 0) (.int .i64 0) (.slice none 0 0) (.bool false) ∧ MkNew w4 w1.heap.size (.slice va n vc) l) := ⟨KZ.out.1.trans (hb4.mono KZ.out.1.size), KZ.out.2.2.2.keep hb4, MB.out.keep hb4⟩
    clear KZ hb4 HM0 MB
    obtain ⟨r0, r1, r2, r3, r4, r5, rf, _⟩ := KY.out.2.1
    have HM : Hid (∀ x0 x1 x2 x3 x4 x5, MkNew ((((((w4.setCell ⟨w.heap.size + 2, 0, none⟩ x0).setCell ⟨w.heap.size + 2, 1, none⟩ x1).setCell ⟨w.heap.size + 2, 2, none⟩ x2).setCell ⟨w.heap.size + 2, 3, none⟩ x3).setCell ⟨w.heap.size + 2, 4, none⟩ x4).setCell ⟨w.heap.size + 2, 5, none⟩ x5) w.heap.size (.slice va n vc) l) := fun x0 x1 x2 x3 x4 x5 => by
      refine MkNew.lower ?_ (show w.heap.size ≤ w1.heap.size by omega)
      exact (((((KY.out.2.2.gb2 (gbSet _ _ _ _) (by omega)).gb2 (gbSet _ _ _ _) (by omega)).gb2 (gbSet _ _ _ _) (by omega)).gb2 (gbSet _ _ _ _) (by omega)).gb2 (gbSet _ _ _ _) (by omega)).gb2 (gbSet _ _ _ _) (by omega)
    go_wp2_with fail
    exact bodyPost_ret (v := .agg #[.int .i64 0, .int .i64 0, .int .i64 t, .int .i64 0, .slice va n vc, .bool true]) (by simp [results, Try.results26, go_sem, r0, r1, r2, r3, r4, r5]) rfl ⟨AllowRes.mk HE.out HN.out (HM.out _ _ _ _ _ _), (((((KY.out.1.setCell (by simp <;> omega) _).setCell (by simp <;> omega) _).setCell (by simp <;> omega) _).setCell (by simp <;> omega) _).setCell (by simp <;> omega) _).setCell (by simp <;> omega) _⟩
set_option maxRecDepth 100000 in
set_option maxHeartbeats 8000000 in
theorem implAllow_1n (w : World) (t : Int) (a : Option Addr) (cap : Nat) (a0 a1 a2 a3 a4 now : Int) (q : Int × Bk × Bool) (hq : q = (0, ⟨1, t, 0, ([] : List Mk)⟩, false)) (ht : turnC 1 t 0 ([] : List Mk) a0 a1 a2 a3 a4 now = 0) (hx : now - t < a3) :
    Calls Try.prog 26 #[.agg #[.int .i64 1, .int .i64 t, .int .i64 0, .slice a 0 cap], .agg #[.int .i64 a0, .int .i64 a1, .int .i64 a2, .int .i64 a3, .int .i64 a4], .int .i64 now] w fun e w' => AllowRes w' w.heap.size q e ∧ Below w.heap.size w w' := by
  obtain ⟨W, hW⟩ : ∃ W, W = ((w.alloc (.cells #[.int .i64 1, .int .i64 t, .int .i64 0, .slice a 0 cap] 51)).alloc (.cells #[.int .i64 a0, .int .i64 a1, .int .i64 a2, .int .i64 a3, .int .i64 a4] 53)).alloc (.cells #[.int .i64 0, .int .i64 0, .int .i64 0, .int .i64 0, .slice none 0 0, .bool false] 57) := ⟨_, rfl⟩
  have HW : Hid (W = ((w.alloc (.cells #[.int .i64 1, .int .i64 t, .int .i64 0, .slice a 0 cap] 51)).alloc (.cells #[.int .i64 a0, .int .i64 a1, .int .i64 a2, .int .i64 a3, .int .i64 a4] 53)).alloc (.cells #[.int .i64 0, .int .i64 0, .int .i64 0, .int .i64 0, .slice none 0 0, .bool false] 57)) := hW
  have K0 : Hid ((Below w.heap.size w W ∧ S4 W w.heap.size (.int .i64 1) (.int .i64 t) (.int .i64 0) (.slice a 0 cap) ∧ S5 W (w.heap.size + 1) (.int .i64 a0) (.int .i64 a1) (.int .i64 a2) (.int .i64 a3) (.int .i64 a4) ∧ C6 W (w.heap.size + 2) (.int .i64 0) (.int .i64 0) (.int .i64 0) (.int .i64 0) (.slice none 0 0) (.bool false)) ∧ W.heap.size = w.heap.size + 3) := by
    have h1 := S4.new w (.int .i64 1) (.int .i64 t) (.int .i64 0) (.slice a 0 cap) 51
    obtain ⟨W1, hW1⟩ : ∃ W1, W1 = w.alloc (.cells #[.int .i64 1, .int .i64 t, .int .i64 0, .slice a 0 cap] 51) := ⟨_, rfl⟩
    rw [← hW1] at h1 hW
    have e1 : W1.heap.size = w.heap.size + 1 := by rw [hW1]; simp
    have b1 : Below w.heap.size w W1 := by rw [hW1]; exact (Below.refl _ _).alloc (Nat.le_refl _) _
    have h2 := S5.new W1 (.int .i64 a0) (.int .i64 a1) (.int .i64 a2) (.int .i64 a3) (.int .i64 a4) 53
    obtain ⟨W2, hW2⟩ : ∃ W2, W2 = W1.alloc (.cells #[.int .i64 a0, .int .i64 a1, .int .i64 a2, .int .i64 a3, .int .i64 a4] 53) := ⟨_, rfl⟩
    rw [← hW2] at h2 hW
    have e2 : W2.heap.size = w.heap.size + 2 := by rw [hW2]; simp [e1]
    have b2 : Below W1.heap.size W1 W2 := by rw [hW2]; exact (Below.refl _ _).alloc (Nat.le_refl _) _
    have b3 : Below W2.heap.size W2 W := by rw [hW]; exact (Below.refl _ _).alloc (Nat.le_refl _) _
    have h3 := C6.new W2 (.int .i64 0) (.int .i64 0) (.int .i64 0) (.int .i64 0) (.slice none 0 0) (.bool false) 57
    rw [← hW] at h3
    rw [e1] at h2
    rw [e2] at h3
    have b13 := b2.trans (b3.mono b2.size)
    exact ⟨⟨b1.trans (b13.mono b1.size), h1.keep b13, h2.keep b3, h3⟩, by rw [hW]; simp [e2]⟩
  have HG := good_of ht
  have HA : Hid (Calls Try.prog 62 #[.agg #[.int .i64 1, .int .i64 t, .int .i64 0, .slice a 0 cap], .agg #[.int .i64 a0, .int .i64 a1, .int .i64 a2, .int .i64 a3, .int .i64 a4], .int .i64 now] W fun e w' => e = .returned (.int .i64 0) ∧ Below W.heap.size W w') := by
    have := implAsk_any W 1 t 0 a cap ([] : List Mk) a0 a1 a2 a3 a4 now (.inl rfl)
    rw [ht] at this
    exact this
  have HC : Hid (∀ X, Calls Try.prog 64 #[.agg #[.int .i64 1, .int .i64 t, .int .i64 0, .slice a 0 cap]] X fun e w' => e = .returned (.iface 134 (.agg #[.int .i64 t])) ∧ Below X.heap.size X w') := fun X => condO t 0 a 0 cap X
  have HQ : Hid (∀ X, Calls Try.prog 63 #[.iface 134 (.agg #[.int .i64 t]), .agg #[.int .i64 a0, .int .i64 a1, .int .i64 a2, .int .i64 a3, .int .i64 a4], .int .i64 now] X fun e w' => e = .returned (.tuple #[.iface 134 (.agg #[.int .i64 t]), .bool false]) ∧ Below X.heap.size X w') := fun X => askO_no t a0 a1 a2 a3 a4 now ⟨HG.ht.1, HG.ht.2, HG.hnow⟩ hx X
  have HM0 : Hid (∀ X, Calls Try.prog 113 #[.agg #[.int .i64 t]] X fun e w' => e = .returned (.agg #[.int .i64 1, .int .i64 t, .int .i64 0, .slice none 0 0]) ∧ Below X.heap.size X w') := breakO t
  have HE : Hid (q = (0, ⟨1, t, 0, ([] : List Mk)⟩, false)) := hq
  clear hW HG hq ht hx
  go_enter Try.func26, Try.ntmps26
  go_wp2_with fail
  rw [← HW.out]
  refine HA.out.mono ?_
  rintro e w1 ⟨rfl, hb1⟩
  have HK1 : Hid (∀ X, Below w1.heap.size w1 X → Below w.heap.size w X ∧ S4 X w.heap.size (.int .i64 1) (.int .i64 t) (.int .i64 0) (.slice a 0 cap) ∧ S5 X (w.heap.size + 1) (.int .i64 a0) (.int .i64 a1) (.int .i64 a2) (.int .i64 a3) (.int .i64 a4) ∧ C6 X (w.heap.size + 2) (.int .i64 0) (.int .i64 0) (.int .i64 0) (.int .i64 0) (.slice none 0 0) (.bool false)) := fun X hX => by
    have b := hb1.trans (hX.mono hb1.size)
    exact ⟨K0.out.1.1.trans (b.mono K0.out.1.1.size), K0.out.1.2.1.keep b, K0.out.1.2.2.1.keep b, K0.out.1.2.2.2.keep b⟩
  have hup : w.heap.size + 3 ≤ w1.heap.size := by have := hb1.size; rw [K0.out.2] at this; exact this
  clear hb1 K0 HW HA
  have HKS : Hid (∀ X, Below w1.heap.size w1 X → X.cell? ⟨w.heap.size, 0, none⟩ = some (.int .i64 1) ∧ X.cell? ⟨w.heap.size, 1, none⟩ = some (.int .i64 t) ∧ X.cell? ⟨w.heap.size, 2, none⟩ = some (.int .i64 0) ∧ X.cell? ⟨w.heap.size, 3, none⟩ = some (.slice a 0 cap) ∧ X.cell? ⟨w.heap.size + 1, 0, none⟩ = some (.int .i64 a0) ∧ X.cell? ⟨w.heap.size + 1, 1, none⟩ = some (.int .i64 a1) ∧ X.cell? ⟨w.heap.size + 1, 2, none⟩ = some (.int .i64 a2) ∧ X.cell? ⟨w.heap.size + 1, 3, none⟩ = some (.int .i64 a3) ∧ X.cell? ⟨w.heap.size + 1, 4, none⟩ = some (.int .i64 a4)) := fun X hb => ⟨(HK1.out X hb).2.1.c0, (HK1.out X hb).2.1.c1, (HK1.out X hb).2.1.c2, (HK1.out X hb).2.1.c3, (HK1.out X hb).2.2.1.c0, (HK1.out X hb).2.2.1.c1, (HK1.out X hb).2.2.1.c2, (HK1.out X hb).2.2.1.c3, (HK1.out X hb).2.2.1.c4⟩
  have B0 : Hid (Below w1.heap.size w1 w1.drew) := (Below.refl _ _).drew
  go_wp2_with fail
  go_region_held3 (fun X => X.cell? ⟨w.heap.size, 0, none⟩ = some (.int .i64 1) ∧ X.cell? ⟨w.heap.size, 1, none⟩ = some (.int .i64 t) ∧ X.cell? ⟨w.heap.size, 2, none⟩ = some (.int .i64 0) ∧ X.cell? ⟨w.heap.size, 3, none⟩ = some (.slice a 0 cap) ∧ X.cell? ⟨w.heap.size + 1, 0, none⟩ = some (.int .i64 a0) ∧ X.cell? ⟨w.heap.size + 1, 1, none⟩ = some (.int .i64 a1) ∧ X.cell? ⟨w.heap.size + 1, 2, none⟩ = some (.int .i64 a2) ∧ X.cell? ⟨w.heap.size + 1, 3, none⟩ = some (.int .i64 a3) ∧ X.cell? ⟨w.heap.size + 1, 4, none⟩ = some (.int .i64 a4))
    (first | exact HKS.out _ BB.out | exact HKS.out _ BA.out | exact HKS.out _ B0.out)
    (first
    | (go_at_call 63; refine (HQ.out _).mono ?_; rintro r0 wb ⟨rfl, hbb⟩; have BB : Hid (Below w1.heap.size w1 wb) := BA.out.trans (hbb.mono BA.out.size); clear hbb)
    | (go_at_call 64; refine (HC.out _).mono ?_; rintro r0 wa ⟨rfl, hba⟩; have BA : Hid (Below w1.heap.size w1 wa) := B0.out.trans (hba.mono B0.out.size); clear hba))
  all_goals
    have KZ := hid12 (HK1.out _ BB.out)
    clear HK1 HKS B0 BA BB HC HQ
    go_wp2_with fail
    refine (HM0.out _).mono ?_
    rintro e w4 ⟨rfl, hb4⟩
    have KY : Hid (Below w.heap.size w w4 ∧ C6 w4 (w.heap.size + 2) (.int .i64 0) (.int .i64 0) (.int .i64 0) (.int .i64 0) (.slice none 0 0) (.bool false)) := ⟨KZ.out.1.trans (hb4.mono KZ.out.1.size), KZ.out.2.2.2.keep hb4⟩
    clear KZ hb4 HM0
    obtain ⟨r0, r1, r2, r3, r4, r5, rf, _⟩ := KY.out.2
    go_wp2_with fail
    exact bodyPost_ret (v := .agg #[.int .i64 0, .int .i64 1, .int .i64 t, .int .i64 0, .slice none 0 0, .bool false]) (by simp [results, Try.results26, go_sem, r0, r1, r2, r3, r4, r5]) rfl ⟨AllowRes.mk HE.out rfl (MkNew.nil _ _ _ _), (((((KY.out.1.setCell (by simp <;> omega) _).setCell (by simp <;> omega) _).setCell (by simp <;> omega) _).setCell (by simp <;> omega) _).setCell (by simp <;> omega) _).setCell (by simp <;> omega) _⟩
set_option maxRecDepth 100000 in
set_option maxHeartbeats 8000000 in
theorem implAllow_1y (w : World) (t : Int) (a : Option Addr) (cap : Nat) (a0 a1 a2 a3 a4 now : Int) (q : Int × Bk × Bool) (hq : q = (0, ⟨2, t, 1, ([] : List Mk)⟩, true)) (ht : turnC 1 t 0 ([] : List Mk) a0 a1 a2 a3 a4 now = 0) (hx : ¬ now - t < a3) :
    Calls Try.prog 26 #[.agg #[.int .i64 1, .int .i64 t, .int .i64 0, .slice a 0 cap], .agg #[.int .i64 a0, .int .i64 a1, .int .i64 a2, .int .i64 a3, .int .i64 a4], .int .i64 now] w fun e w' => AllowRes w' w.heap.size q e ∧ Below w.heap.size w w' := by
  obtain ⟨W, hW⟩ : ∃ W, W = ((w.alloc (.cells #[.int .i64 1, .int .i64 t, .int .i64 0, .slice a 0 cap] 51)).alloc (.cells #[.int .i64 a0, .int .i64 a1, .int .i64 a2, .int .i64 a3, .int .i64 a4] 53)).alloc (.cells #[.int .i64 0, .int .i64 0, .int .i64 0, .int .i64 0, .slice none 0 0, .bool false] 57) := ⟨_, rfl⟩
  have HW : Hid (W = ((w.alloc (.cells #[.int .i64 1, .int .i64 t, .int .i64 0, .slice a 0 cap] 51)).alloc (.cells #[.int .i64 a0, .int .i64 a1, .int .i64 a2, .int .i64 a3, .int .i64 a4] 53)).alloc (.cells #[.int .i64 0, .int .i64 0, .int .i64 0, .int .i64 0, .slice none 0 0, .bool false] 57)) := hW
  have K0 : Hid ((Below w.heap.size w W ∧ S4 W w.heap.size (.int .i64 1) (.int .i64 t) (.int .i64 0) (.slice a 0 cap) ∧ S5 W (w.heap.size + 1) (.int .i64 a0) (.int .i64 a1) (.int .i64 a2) (.int .i64 a3) (.int .i64 a4) ∧ C6 W (w.heap.size + 2) (.int .i64 0) (.int .i64 0) (.int .i64 0) (.int .i64 0) (.slice none 0 0) (.bool false)) ∧ W.heap.size = w.heap.size + 3) := by
    have h1 := S4.new w (.int .i64 1) (.int .i64 t) (.int .i64 0) (.slice a 0 cap) 51
    obtain ⟨W1, hW1⟩ : ∃ W1, W1 = w.alloc (.cells #[.int .i64 1, .int .i64 t, .int .i64 0, .slice a 0 cap] 51) := ⟨_, rfl⟩
    rw [← hW1] at h1 hW
    have e1 : W1.heap.size = w.heap.size + 1 := by rw [hW1]; simp
    have b1 : Below w.heap.size w W1 := by rw [hW1]; exact (Below.refl _ _).alloc (Nat.le_refl _) _
    have h2 := S5.new W1 (.int .i64 a0) (.int .i64 a1) (.int .i64 a2) (.int .i64 a3) (.int .i64 a4) 53
    obtain ⟨W2, hW2⟩ : ∃ W2, W2 = W1.alloc (.cells #[.int .i64 a0, .int .i64 a1, .int .i64 a2, .int .i64 a3, .int .i64 a4] 53) := ⟨_, rfl⟩
    rw [← hW2] at h2 hW
    have e2 : W2.heap.size = w.heap.size + 2 := by rw [hW2]; simp [e1]
    have b2 : Below W1.heap.size W1 W2 := by rw [hW2]; exact (Below.refl _ _).alloc (Nat.le_refl _) _
    have b3 : Below W2.heap.size W2 W := by rw [hW]; exact (Below.refl _ _).alloc (Nat.le_refl _) _
    have h3 := C6.new W2 (.int .i64 0) (.int .i64 0) (.int .i64 0) (.int .i64 0) (.slice none 0 0) (.bool false) 57
    rw [← hW] at h3
    rw [e1] at h2
    rw [e2] at h3
    have b13 := b2.trans (b3.mono b2.size)
    exact ⟨⟨b1.trans (b13.mono b1.size), h1.keep b13, h2.keep b3, h3⟩, by rw [hW]; simp [e2]⟩
  have HG := good_of ht
  have HA : Hid (Calls Try.prog 62 #[.agg #[.int .i64 1, .int .i64 t, .int .i64 0, .slice a 0 cap], .agg #[.int .i64 a0, .int .i64 a1, .int .i64 a2, .int .i64 a3, .int .i64 a4], .int .i64 now] W fun e w' => e = .returned (.int .i64 0) ∧ Below W.heap.size W w') := by
    have := implAsk_any W 1 t 0 a cap ([] : List Mk) a0 a1 a2 a3 a4 now (.inl rfl)
    rw [ht] at this
    exact this
  have HC : Hid (∀ X, Calls Try.prog 64 #[.agg #[.int .i64 1, .int .i64 t, .int .i64 0, .slice a 0 cap]] X fun e w' => e = .returned (.iface 134 (.agg #[.int .i64 t])) ∧ Below X.heap.size X w') := fun X => condO t 0 a 0 cap X
  have HQ : Hid (∀ X, Calls Try.prog 63 #[.iface 134 (.agg #[.int .i64 t]), .agg #[.int .i64 a0, .int .i64 a1, .int .i64 a2, .int .i64 a3, .int .i64 a4], .int .i64 now] X fun e w' => e = .returned (.tuple #[.iface 136 (.agg #[.int .i64 t, .int .i64 1]), .bool true]) ∧ Below X.heap.size X w') := fun X => askO_yes t a0 a1 a2 a3 a4 now ⟨HG.ht.1, HG.ht.2, HG.hnow⟩ hx X
  have HM0 : Hid (∀ X, Calls Try.prog 114 #[.agg #[.int .i64 t, .int .i64 1]] X fun e w' => e = .returned (.agg #[.int .i64 2, .int .i64 t, .int .i64 1, .slice none 0 0]) ∧ Below X.heap.size X w') := breakH t 1
  have HE : Hid (q = (0, ⟨2, t, 1, ([] : List Mk)⟩, true)) := hq
  clear hW HG hq ht hx
  go_enter Try.func26, Try.ntmps26
  go_wp2_with fail
  rw [← HW.out]
  refine HA.out.mono ?_
  rintro e w1 ⟨rfl, hb1⟩
  have HK1 : Hid (∀ X, Below w1.heap.size w1 X → Below w.heap.size w X ∧ S4 X w.heap.size (.int .i64 1) (.int .i64 t) (.int .i64 0) (.slice a 0 cap) ∧ S5 X (w.heap.size + 1) (.int .i64 a0) (.int .i64 a1) (.int .i64 a2) (.int .i64 a3) (.int .i64 a4) ∧ C6 X (w.heap.size + 2) (.int .i64 0) (.int .i64 0) (.int .i64 0) (.int .i64 0) (.slice none 0 0) (.bool false)) := fun X hX => by
    have b := hb1.trans (hX.mono hb1.size)
    exact ⟨K0.out.1.1.trans (b.mono K0.out.1.1.size), K0.out.1.2.1.keep b, K0.out.1.2.2.1.keep b, K0.out.1.2.2.2.keep b⟩
  have hup : w.heap.size + 3 ≤ w1.heap.size := by have := hb1.size; rw [K0.out.2] at this; exact this
  clear hb1 K0 HW HA
  have HKS : Hid (∀ X, Below w1.heap.size w1 X → X.cell? ⟨w.heap.size, 0, none⟩ = some (.int .i64 1) ∧ X.cell? ⟨w.heap.size, 1, none⟩ = some (.int .i64 t) ∧ X.cell? ⟨w.heap.size, 2, none⟩ = some (.int .i64 0) ∧ X.cell? ⟨w.heap.size, 3, none⟩ = some (.slice a 0 cap) ∧ X.cell? ⟨w.heap.size + 1, 0, none⟩ = some (.int .i64 a0) ∧ X.cell? ⟨w.heap.size + 1, 1, none⟩ = some (.int .i64 a1) ∧ X.cell? ⟨w.heap.size + 1, 2, none⟩ = some (.int .i64 a2) ∧ X.cell? ⟨w.heap.size + 1, 3, none⟩ = some (.int .i64 a3) ∧ X.cell? ⟨w.heap.size + 1, 4, none⟩ = some (.int .i64 a4)) := fun X hb => ⟨(HK1.out X hb).2.1.c0, (HK1.out X hb).2.1.c1, (HK1.out X hb).2.1.c2, (HK1.out X hb).2.1.c3, (HK1.out X hb).2.2.1.c0, (HK1.out X hb).2.2.1.c1, (HK1.out X hb).2.2.1.c2, (HK1.out X hb).2.2.1.c3, (HK1.out X hb).2.2.1.c4⟩
  have B0 : Hid (Below w1.heap.size w1 w1.drew) := (Below.refl _ _).drew
  go_wp2_with fail
  go_region_held3 (fun X => X.cell? ⟨w.heap.size, 0, none⟩ = some (.int .i64 1) ∧ X.cell? ⟨w.heap.size, 1, none⟩ = some (.int .i64 t) ∧ X.cell? ⟨w.heap.size, 2, none⟩ = some (.int .i64 0) ∧ X.cell? ⟨w.heap.size, 3, none⟩ = some (.slice a 0 cap) ∧ X.cell? ⟨w.heap.size + 1, 0, none⟩ = some (.int .i64 a0) ∧ X.cell? ⟨w.heap.size + 1, 1, none⟩ = some (.int .i64 a1) ∧ X.cell? ⟨w.heap.size + 1, 2, none⟩ = some (.int .i64 a2) ∧ X.cell? ⟨w.heap.size + 1, 3, none⟩ = some (.int .i64 a3) ∧ X.cell? ⟨w.heap.size + 1, 4, none⟩ = some (.int .i64 a4))
    (first | exact HKS.out _ BB.out | exact HKS.out _ BA.out | exact HKS.out _ B0.out)
    (first
    | (go_at_call 63; refine (HQ.out _).mono ?_; rintro r0 wb ⟨rfl, hbb⟩; have BB : Hid (Below w1.heap.size w1 wb) := BA.out.trans (hbb.mono BA.out.size); clear hbb)
    | (go_at_call 64; refine (HC.out _).mono ?_; rintro r0 wa ⟨rfl, hba⟩; have BA : Hid (Below w1.heap.size w1 wa) := B0.out.trans (hba.mono B0.out.size); clear hba))
  all_goals
    have KZ := hid12 (HK1.out _ BB.out)
    clear HK1 HKS B0 BA BB HC HQ
    go_wp2_with fail
    refine (HM0.out _).mono ?_
    rintro e w4 ⟨rfl, hb4⟩
    have KY : Hid (Below w.heap.size w w4 ∧ C6 w4 (w.heap.size + 2) (.int .i64 0) (.int .i64 0) (.int .i64 0) (.int .i64 0) (.slice none 0 0) (.bool false)) := ⟨KZ.out.1.trans (hb4.mono KZ.out.1.size), KZ.out.2.2.2.keep hb4⟩
    clear KZ hb4 HM0
    obtain ⟨r0, r1, r2, r3, r4, r5, rf, _⟩ := KY.out.2
    go_wp2_with fail
    exact bodyPost_ret (v := .agg #[.int .i64 0, .int .i64 2, .int .i64 t, .int .i64 1, .slice none 0 0, .bool true]) (by simp [results, Try.results26, go_sem, r0, r1, r2, r3, r4, r5]) rfl ⟨AllowRes.mk HE.out rfl (MkNew.nil _ _ _ _), (((((KY.out.1.setCell (by simp <;> omega) _).setCell (by simp <;> omega) _).setCell (by simp <;> omega) _).setCell (by simp <;> omega) _).setCell (by simp <;> omega) _).setCell (by simp <;> omega) _⟩
set_option maxRecDepth 100000 in
set_option maxHeartbeats 8000000 in
theorem implAllow_2n (w : World) (t : Int) (o : Int) (a : Option Addr) (cap : Nat) (a0 a1 a2 a3 a4 now : Int) (q : Int × Bk × Bool) (hq : q = (0, ⟨2, t, o, ([] : List Mk)⟩, false)) (ht : turnC 2 t o ([] : List Mk) a0 a1 a2 a3 a4 now = 0) (hx : a4 ≤ o) :
    Calls Try.prog 26 #[.agg #[.int .i64 2, .int .i64 t, .int .i64 o, .slice a 0 cap], .agg #[.int .i64 a0, .int .i64 a1, .int .i64 a2, .int .i64 a3, .int .i64 a4], .int .i64 now] w fun e w' => AllowRes w' w.heap.size q e ∧ Below w.heap.size w w' := by
  obtain ⟨W, hW⟩ : ∃ W, W = ((w.alloc (.cells #[.int .i64 2, .int .i64 t, .int .i64 o, .slice a 0 cap] 51)).alloc (.cells #[.int .i64 a0, .int .i64 a1, .int .i64 a2, .int .i64 a3, .int .i64 a4] 53)).alloc (.cells #[.int .i64 0, .int .i64 0, .int .i64 0, .int .i64 0, .slice none 0 0, .bool false] 57) := ⟨_, rfl⟩
  have HW : Hid (W = ((w.alloc (.cells #[.int .i64 2, .int .i64 t, .int .i64 o, .slice a 0 cap] 51)).alloc (.cells #[.int .i64 a0, .int .i64 a1, .int .i64 a2, .int .i64 a3, .int .i64 a4] 53)).alloc (.cells #[.int .i64 0, .int .i64 0, .int .i64 0, .int .i64 0, .slice none 0 0, .bool false] 57)) := hW
  have K0 : Hid ((Below w.heap.size w W ∧ S4 W w.heap.size (.int .i64 2) (.int .i64 t) (.int .i64 o) (.slice a 0 cap) ∧ S5 W (w.heap.size + 1) (.int .i64 a0) (.int .i64 a1) (.int .i64 a2) (.int .i64 a3) (.int .i64 a4) ∧ C6 W (w.heap.size + 2) (.int .i64 0) (.int .i64 0) (.int .i64 0) (.int .i64 0) (.slice none 0 0) (.bool false)) ∧ W.heap.size = w.heap.size + 3) := by
    have h1 := S4.new w (.int .i64 2) (.int .i64 t) (.int .i64 o) (.slice a 0 cap) 51
    obtain ⟨W1, hW1⟩ : ∃ W1, W1 = w.alloc (.cells #[.int .i64 2, .int .i64 t, .int .i64 o, .slice a 0 cap] 51) := ⟨_, rfl⟩
    rw [← hW1] at h1 hW
    have e1 : W1.heap.size = w.heap.size + 1 := by rw [hW1]; simp
    have b1 : Below w.heap.size w W1 := by rw [hW1]; exact (Below.refl _ _).alloc (Nat.le_refl _) _
    have h2 := S5.new W1 (.int .i64 a0) (.int .i64 a1) (.int .i64 a2) (.int .i64 a3) (.int .i64 a4) 53
    obtain ⟨W2, hW2⟩ : ∃ W2, W2 = W1.alloc (.cells #[.int .i64 a0, .int .i64 a1, .int .i64 a2, .int .i64 a3, .int .i64 a4] 53) := ⟨_, rfl⟩
    rw [← hW2] at h2 hW
    have e2 : W2.heap.size = w.heap.size + 2 := by rw [hW2]; simp [e1]
    have b2 : Below W1.heap.size W1 W2 := by rw [hW2]; exact (Below.refl _ _).alloc (Nat.le_refl _) _
    have b3 : Below W2.heap.size W2 W := by rw [hW]; exact (Below.refl _ _).alloc (Nat.le_refl _) _
    have h3 := C6.new W2 (.int .i64 0) (.int .i64 0) (.int .i64 0) (.int .i64 0) (.slice none 0 0) (.bool false) 57
    rw [← hW] at h3
    rw [e1] at h2
    rw [e2] at h3
    have b13 := b2.trans (b3.mono b2.size)
    exact ⟨⟨b1.trans (b13.mono b1.size), h1.keep b13, h2.keep b3, h3⟩, by rw [hW]; simp [e2]⟩
  have HG := good_of ht
  have HA : Hid (Calls Try.prog 62 #[.agg #[.int .i64 2, .int .i64 t, .int .i64 o, .slice a 0 cap], .agg #[.int .i64 a0, .int .i64 a1, .int .i64 a2, .int .i64 a3, .int .i64 a4], .int .i64 now] W fun e w' => e = .returned (.int .i64 0) ∧ Below W.heap.size W w') := by
    have := implAsk_any W 2 t o a cap ([] : List Mk) a0 a1 a2 a3 a4 now (.inl rfl)
    rw [ht] at this
    exact this
  have HC : Hid (∀ X, Calls Try.prog 64 #[.agg #[.int .i64 2, .int .i64 t, .int .i64 o, .slice a 0 cap]] X fun e w' => e = .returned (.iface 136 (.agg #[.int .i64 t, .int .i64 o])) ∧ Below X.heap.size X w') := fun X => condH t o a 0 cap X
  have HQ : Hid (∀ X, Calls Try.prog 63 #[.iface 136 (.agg #[.int .i64 t, .int .i64 o]), .agg #[.int .i64 a0, .int .i64 a1, .int .i64 a2, .int .i64 a3, .int .i64 a4], .int .i64 now] X fun e w' => e = .returned (.tuple #[.iface 136 (.agg #[.int .i64 t, .int .i64 o]), .bool false]) ∧ Below X.heap.size X w') := fun X => askH_no t o a0 a1 a2 a3 a4 now hx X
  have HM0 : Hid (∀ X, Calls Try.prog 114 #[.agg #[.int .i64 t, .int .i64 o]] X fun e w' => e = .returned (.agg #[.int .i64 2, .int .i64 t, .int .i64 o, .slice none 0 0]) ∧ Below X.heap.size X w') := breakH t o
  have HE : Hid (q = (0, ⟨2, t, o, ([] : List Mk)⟩, false)) := hq
  clear hW HG hq ht hx
  go_enter Try.func26, Try.ntmps26
  go_wp2_with fail
  rw [← HW.out]
  refine HA.out.mono ?_
  rintro e w1 ⟨rfl, hb1⟩
  have HK1 : Hid (∀ X, Below w1.heap.size w1 X → Below w.heap.size w X ∧ S4 X w.heap.size (.int .i64 2) (.int .i64 t) (.int .i64 o) (.slice a 0 cap) ∧ S5 X (w.heap.size + 1) (.int .i64 a0) (.int .i64 a1) (.int .i64 a2) (.int .i64 a3) (.int .i64 a4) ∧ C6 X (w.heap.size + 2) (.int .i64 0) (.int .i64 0) (.int .i64 0) (.int .i64 0) (.slice none 0 0) (.bool false)) := fun X hX => by
    have b := hb1.trans (hX.mono hb1.size)
    exact ⟨K0.out.1.1.trans (b.mono K0.out.1.1.size), K0.out.1.2.1.keep b, K0.out.1.2.2.1.keep b, K0.out.1.2.2.2.keep b⟩
  have hup : w.heap.size + 3 ≤ w1.heap.size := by have := hb1.size; rw [K0.out.2] at this; exact this
  clear hb1 K0 HW HA
  have HKS : Hid (∀ X, Below w1.heap.size w1 X → X.cell? ⟨w.heap.size, 0, none⟩ = some (.int .i64 2) ∧ X.cell? ⟨w.heap.size, 1, none⟩ = some (.int .i64 t) ∧ X.cell? ⟨w.heap.size, 2, none⟩ = some (.int .i64 o) ∧ X.cell? ⟨w.heap.size, 3, none⟩ = some (.slice a 0 cap) ∧ X.cell? ⟨w.heap.size + 1, 0, none⟩ = some (.int .i64 a0) ∧ X.cell? ⟨w.heap.size + 1, 1, none⟩ = some (.int .i64 a1) ∧ X.cell? ⟨w.heap.size + 1, 2, none⟩ = some (.int .i64 a2) ∧ X.cell? ⟨w.heap.size + 1, 3, none⟩ = some (.int .i64 a3) ∧ X.cell? ⟨w.heap.size + 1, 4, none⟩ = some (.int .i64 a4)) := fun X hb => ⟨(HK1.out X hb).2.1.c0, (HK1.out X hb).2.1.c1, (HK1.out X hb).2.1.c2, (HK1.out X hb).2.1.c3, (HK1.out X hb).2.2.1.c0, (HK1.out X hb).2.2.1.c1, (HK1.out X hb).2.2.1.c2, (HK1.out X hb).2.2.1.c3, (HK1.out X hb).2.2.1.c4⟩
  have B0 : Hid (Below w1.heap.size w1 w1.drew) := (Below.refl _ _).drew
  go_wp2_with fail
  go_region_held3 (fun X => X.cell? ⟨w.heap.size, 0, none⟩ = some (.int .i64 2) ∧ X.cell? ⟨w.heap.size, 1, none⟩ = some (.int .i64 t) ∧ X.cell? ⟨w.heap.size, 2, none⟩ = some (.int .i64 o) ∧ X.cell? ⟨w.heap.size, 3, none⟩ = some (.slice a 0 cap) ∧ X.cell? ⟨w.heap.size + 1, 0, none⟩ = some (.int .i64 a0) ∧ X.cell? ⟨w.heap.size + 1, 1, none⟩ = some (.int .i64 a1) ∧ X.cell? ⟨w.heap.size + 1, 2, none⟩ = some (.int .i64 a2) ∧ X.cell? ⟨w.heap.size + 1, 3, none⟩ = some (.int .i64 a3) ∧ X.cell? ⟨w.heap.size + 1, 4, none⟩ = some (.int .i64 a4))
    (first | exact HKS.out _ BB.out | exact HKS.out _ BA.out | exact HKS.out _ B0.out)
    (first
    | (go_at_call 63; refine (HQ.out _).mono ?_; rintro r0 wb ⟨rfl, hbb⟩; have BB : Hid (Below w1.heap.size w1 wb) := BA.out.trans (hbb.mono BA.out.size); clear hbb)
    | (go_at_call 64; refine (HC.out _).mono ?_; rintro r0 wa ⟨rfl, hba⟩; have BA : Hid (Below w1.heap.size w1 wa) := B0.out.trans (hba.mono B0.out.size); clear hba))
  all_goals
    have KZ := hid12 (HK1.out _ BB.out)
    clear HK1 HKS B0 BA BB HC HQ
    go_wp2_with fail
    refine (HM0.out _).mono ?_
    rintro e w4 ⟨rfl, hb4⟩
    have KY : Hid (Below w.heap.size w w4 ∧ C6 w4 (w.heap.size + 2) (.int .i64 0) (.int .i64 0) (.int .i64 0) (.int .i64 0) (.slice none 0 0) (.bool false)) := ⟨KZ.out.1.trans (hb4.mono KZ.out.1.size), KZ.out.2.2.2.keep hb4⟩
    clear KZ hb4 HM0
    obtain ⟨r0, r1, r2, r3, r4, r5, rf, _⟩ := KY.out.2
    go_wp2_with fail
    exact bodyPost_ret (v := .agg #[.int .i64 0, .int .i64 2, .int .i64 t, .int .i64 o, .slice none 0 0, .bool false]) (by simp [results, Try.results26, go_sem, r0, r1, r2, r3, r4, r5]) rfl ⟨AllowRes.mk HE.out rfl (MkNew.nil _ _ _ _), (((((KY.out.1.setCell (by simp <;> omega) _).setCell (by simp <;> omega) _).setCell (by simp <;> omega) _).setCell (by simp <;> omega) _).setCell (by simp <;> omega) _).setCell (by simp <;> omega) _⟩
set_option maxRecDepth 100000 in
set_option maxHeartbeats 8000000 in
theorem implAllow_2y (w : World) (t : Int) (o : Int) (a : Option Addr) (cap : Nat) (a0 a1 a2 a3 a4 now : Int) (q : Int × Bk × Bool) (hq : q = (0, ⟨2, t, (o + 1), ([] : List Mk)⟩, true)) (ht : turnC 2 t o ([] : List Mk) a0 a1 a2 a3 a4 now = 0) (hx : ¬ a4 ≤ o) :
    Calls Try.prog 26 #[.agg #[.int .i64 2, .int .i64 t, .int .i64 o, .slice a 0 cap], .agg #[.int .i64 a0, .int .i64 a1, .int .i64 a2, .int .i64 a3, .int .i64 a4], .int .i64 now] w fun e w' => AllowRes w' w.heap.size q e ∧ Below w.heap.size w w' := by
  obtain ⟨W, hW⟩ : ∃ W, W = ((w.alloc (.cells #[.int .i64 2, .int .i64 t, .int .i64 o, .slice a 0 cap] 51)).alloc (.cells #[.int .i64 a0, .int .i64 a1, .int .i64 a2, .int .i64 a3, .int .i64 a4] 53)).alloc (.cells #[.int .i64 0, .int .i64 0, .int .i64 0, .int .i64 0, .slice none 0 0, .bool false] 57) := ⟨_, rfl⟩
  have HW : Hid (W = ((w.alloc (.cells #[.int .i64 2, .int .i64 t, .int .i64 o, .slice a 0 cap] 51)).alloc (.cells #[.int .i64 a0, .int .i64 a1, .int .i64 a2, .int .i64 a3, .int .i64 a4] 53)).alloc (.cells #[.int .i64 0, .int .i64 0, .int .i64 0, .int .i64 0, .slice none 0 0, .bool false] 57)) := hW
  have K0 : Hid ((Below w.heap.size w W ∧ S4 W w.heap.size (.int .i64 2) (.int .i64 t) (.int .i64 o) (.slice a 0 cap) ∧ S5 W (w.heap.size + 1) (.int .i64 a0) (.int .i64 a1) (.int .i64 a2) (.int .i64 a3) (.int .i64 a4) ∧ C6 W (w.heap.size + 2) (.int .i64 0) (.int .i64 0) (.int .i64 0) (.int .i64 0) (.slice none 0 0) (.bool false)) ∧ W.heap.size = w.heap.size + 3) := by
    have h1 := S4.new w (.int .i64 2) (.int .i64 t) (.int .i64 o) (.slice a 0 cap) 51
    obtain ⟨W1, hW1⟩ : ∃ W1, W1 = w.alloc (.cells #[.int .i64 2, .int .i64 t, .int .i64 o, .slice a 0 cap] 51) := ⟨_, rfl⟩
    rw [← hW1] at h1 hW
    have e1 : W1.heap.size = w.heap.size + 1 := by rw [hW1]; simp
    have b1 : Below w.heap.size w W1 := by rw [hW1]; exact (Below.refl _ _).alloc (Nat.le_refl _) _
    have h2 := S5.new W1 (.int .i64 a0) (.int .i64 a1) (.int .i64 a2) (.int .i64 a3) (.int .i64 a4) 53
    obtain ⟨W2, hW2⟩ : ∃ W2, W2 = W1.alloc (.cells #[.int .i64 a0, .int .i64 a1, .int .i64 a2, .int .i64 a3, .int .i64 a4] 53) := ⟨_, rfl⟩
    rw [← hW2] at h2 hW
    have e2 : W2.heap.size = w.heap.size + 2 := by rw [hW2]; simp [e1]
    have b2 : Below W1.heap.size W1 W2 := by rw [hW2]; exact (Below.refl _ _).alloc (Nat.le_refl _) _
    have b3 : Below W2.heap.size W2 W := by rw [hW]; exact (Below.refl _ _).alloc (Nat.le_refl _) _
    have h3 := C6.new W2 (.int .i64 0) (.int .i64 0) (.int .i64 0) (.int .i64 0) (.slice none 0 0) (.bool false) 57
    rw [← hW] at h3
    rw [e1] at h2
    rw [e2] at h3
    have b13 := b2.trans (b3.mono b2.size)
    exact ⟨⟨b1.trans (b13.mono b1.size), h1.keep b13, h2.keep b3, h3⟩, by rw [hW]; simp [e2]⟩
  have HG := good_of ht
  have HA : Hid (Calls Try.prog 62 #[.agg #[.int .i64 2, .int .i64 t, .int .i64 o, .slice a 0 cap], .agg #[.int .i64 a0, .int .i64 a1, .int .i64 a2, .int .i64 a3, .int .i64 a4], .int .i64 now] W fun e w' => e = .returned (.int .i64 0) ∧ Below W.heap.size W w') := by
    have := implAsk_any W 2 t o a cap ([] : List Mk) a0 a1 a2 a3 a4 now (.inl rfl)
    rw [ht] at this
    exact this
  have HC : Hid (∀ X, Calls Try.prog 64 #[.agg #[.int .i64 2, .int .i64 t, .int .i64 o, .slice a 0 cap]] X fun e w' => e = .returned (.iface 136 (.agg #[.int .i64 t, .int .i64 o])) ∧ Below X.heap.size X w') := fun X => condH t o a 0 cap X
  have HQ : Hid (∀ X, Calls Try.prog 63 #[.iface 136 (.agg #[.int .i64 t, .int .i64 o]), .agg #[.int .i64 a0, .int .i64 a1, .int .i64 a2, .int .i64 a3, .int .i64 a4], .int .i64 now] X fun e w' => e = .returned (.tuple #[.iface 136 (.agg #[.int .i64 t, .int .i64 (o + 1)]), .bool true]) ∧ Below X.heap.size X w') := fun X => askH_yes t o a0 a1 a2 a3 a4 now HG.ho hx X
  have HM0 : Hid (∀ X, Calls Try.prog 114 #[.agg #[.int .i64 t, .int .i64 (o + 1)]] X fun e w' => e = .returned (.agg #[.int .i64 2, .int .i64 t, .int .i64 (o + 1), .slice none 0 0]) ∧ Below X.heap.size X w') := breakH t (o + 1)
  have HE : Hid (q = (0, ⟨2, t, (o + 1), ([] : List Mk)⟩, true)) := hq
  clear hW HG hq ht hx
  go_enter Try.func26, Try.ntmps26
  go_wp2_with fail
  rw [← HW.out]
  refine HA.out.mono ?_
  rintro e w1 ⟨rfl, hb1⟩
  have HK1 : Hid (∀ X, Below w1.heap.size w1 X → Below w.heap.size w X ∧ S4 X w.heap.size (.int .i64 2) (.int .i64 t) (.int .i64 o) (.slice a 0 cap) ∧ S5 X (w.heap.size + 1) (.int .i64 a0) (.int .i64 a1) (.int .i64 a2) (.int .i64 a3) (.int .i64 a4) ∧ C6 X (w.heap.size + 2) (.int .i64 0) (.int .i64 0) (.int .i64 0) (.int .i64 0) (.slice none 0 0) (.bool false)) := fun X hX => by
    have b := hb1.trans (hX.mono hb1.size)
    exact ⟨K0.out.1.1.trans (b.mono K0.out.1.1.size), K0.out.1.2.1.keep b, K0.out.1.2.2.1.keep b, K0.out.1.2.2.2.keep b⟩
  have hup : w.heap.size + 3 ≤ w1.heap.size := by have := hb1.size; rw [K0.out.2] at this; exact this
  clear hb1 K0 HW HA
  have HKS : Hid (∀ X, Below w1.heap.size w1 X → X.cell? ⟨w.heap.size, 0, none⟩ = some (.int .i64 2) ∧ X.cell? ⟨w.heap.size, 1, none⟩ = some (.int .i64 t) ∧ X.cell? ⟨w.heap.size, 2, none⟩ = some (.int .i64 o) ∧ X.cell? ⟨w.heap.size, 3, none⟩ = some (.slice a 0 cap) ∧ X.cell? ⟨w.heap.size + 1, 0, none⟩ = some (.int .i64 a0) ∧ X.cell? ⟨w.heap.size + 1, 1, none⟩ = some (.int .i64 a1) ∧ X.cell? ⟨w.heap.size + 1, 2, none⟩ = some (.int .i64 a2) ∧ X.cell? ⟨w.heap.size + 1, 3, none⟩ = some (.int .i64 a3) ∧ X.cell? ⟨w.heap.size + 1, 4, none⟩ = some (.int .i64 a4)) := fun X hb => ⟨(HK1.out X hb).2.1.c0, (HK1.out X hb).2.1.c1, (HK1.out X hb).2.1.c2, (HK1.out X hb).2.1.c3, (HK1.out X hb).2.2.1.c0, (HK1.out X hb).2.2.1.c1, (HK1.out X hb).2.2.1.c2, (HK1.out X hb).2.2.1.c3, (HK1.out X hb).2.2.1.c4⟩
  have B0 : Hid (Below w1.heap.size w1 w1.drew) := (Below.refl _ _).drew
  go_wp2_with fail
  go_region_held3 (fun X => X.cell? ⟨w.heap.size, 0, none⟩ = some (.int .i64 2) ∧ X.cell? ⟨w.heap.size, 1, none⟩ = some (.int .i64 t) ∧ X.cell? ⟨w.heap.size, 2, none⟩ = some (.int .i64 o) ∧ X.cell? ⟨w.heap.size, 3, none⟩ = some (.slice a 0 cap) ∧ X.cell? ⟨w.heap.size + 1, 0, none⟩ = some (.int .i64 a0) ∧ X.cell? ⟨w.heap.size + 1, 1, none⟩ = some (.int .i64 a1) ∧ X.cell? ⟨w.heap.size + 1, 2, none⟩ = some (.int .i64 a2) ∧ X.cell? ⟨w.heap.size + 1, 3, none⟩ = some (.int .i64 a3) ∧ X.cell? ⟨w.heap.size + 1, 4, none⟩ = some (.int .i64 a4))
    (first | exact HKS.out _ BB.out | exact HKS.out _ BA.out | exact HKS.out _ B0.out)
    (first
    | (go_at_call 63; refine (HQ.out _).mono ?_; rintro r0 wb ⟨rfl, hbb⟩; have BB : Hid (Below w1.heap.size w1 wb) := BA.out.trans (hbb.mono BA.out.size); clear hbb)
    | (go_at_call 64; refine (HC.out _).mono ?_; rintro r0 wa ⟨rfl, hba⟩; have BA : Hid (Below w1.heap.size w1 wa) := B0.out.trans (hba.mono B0.out.size); clear hba))
  all_goals
    have KZ := hid12 (HK1.out _ BB.out)
    clear HK1 HKS B0 BA BB HC HQ
    go_wp2_with fail
    refine (HM0.out _).mono ?_
    rintro e w4 ⟨rfl, hb4⟩
    have KY : Hid (Below w.heap.size w w4 ∧ C6 w4 (w.heap.size + 2) (.int .i64 0) (.int .i64 0) (.int .i64 0) (.int .i64 0) (.slice none 0 0) (.bool false)) := ⟨KZ.out.1.trans (hb4.mono KZ.out.1.size), KZ.out.2.2.2.keep hb4⟩
    clear KZ hb4 HM0
    obtain ⟨r0, r1, r2, r3, r4, r5, rf, _⟩ := KY.out.2
    go_wp2_with fail
    exact bodyPost_ret (v := .agg #[.int .i64 0, .int .i64 2, .int .i64 t, .int .i64 (o + 1), .slice none 0 0, .bool true]) (by simp [results, Try.results26, go_sem, r0, r1, r2, r3, r4, r5]) rfl ⟨AllowRes.mk HE.out rfl (MkNew.nil _ _ _ _), (((((KY.out.1.setCell (by simp <;> omega) _).setCell (by simp <;> omega) _).setCell (by simp <;> omega) _).setCell (by simp <;> omega) _).setCell (by simp <;> omega) _).setCell (by simp <;> omega) _⟩
theorem implAllow_any (w : World) (s t o : Int) (a : Option Addr) (cap : Nat) (l : List Mk) (a0 a1 a2 a3 a4 now : Int) (hl : l.length ≤ 1048576) (hi : MkIn w a l) :
    Calls Try.prog 26 #[.agg #[.int .i64 s, .int .i64 t, .int .i64 o, .slice a l.length cap], .agg #[.int .i64 a0, .int .i64 a1, .int .i64 a2, .int .i64 a3, .int .i64 a4], .int .i64 now] w fun e w' => AllowRes w' w.heap.size (allowR s t o l a0 a1 a2 a3 a4 now) e ∧ Below w.heap.size w w' := by
  by_cases ht : turnC s t o l a0 a1 a2 a3 a4 now = 0
  rotate_left
  · exact implAllow_bad w s t o a cap l a0 a1 a2 a3 a4 now _ (allowR_bad ht) hi ht
  have g := good_of ht
  have hr := allowR_ok ht
  rcases g.hs with rfl | rfl | rfl
  · have ho := g.ho0 (by decide)
    subst ho
    exact implAllow_0 w t a cap l a0 a1 a2 a3 a4 now _ (by rw [hr]; simp [alS, alO, alB]) hl hi ht
  · have ho := g.ho0 (by decide)
    subst ho
    have e := g.hl0 (by decide)
    subst e
    by_cases hx : now - t < a3
    · exact implAllow_1n w t a cap a0 a1 a2 a3 a4 now _ (by rw [hr]; simp [alS, alO, alB, hx]) ht hx
    · exact implAllow_1y w t a cap a0 a1 a2 a3 a4 now _ (by rw [hr]; simp [alS, alO, alB, hx]) ht hx
  · have e := g.hl0 (by decide)
    subst e
    by_cases hx : a4 ≤ o
    · exact implAllow_2n w t o a cap a0 a1 a2 a3 a4 now _ (by rw [hr]; simp [alS, alO, alB, hx]) ht hx
    · exact implAllow_2y w t o a cap a0 a1 a2 a3 a4 now _ (by rw [hr]; simp [alS, alO, alB, hx]) ht hx
end Go.Proofs.Ytmgidcigihpbeaa
