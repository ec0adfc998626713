/-
  Texts of one claim, one behind the other.
-/
import Derived.Test.YtelbddgdaibolaaDoorNsB
/-
  The law of NewStore.
-/
namespace Go.Proofs.YtelbddgdaibolaaDoor
open Go.ChangeShapes Go.WideShapes Go.ChangeAt Go.RowKit Go.Sort
set_option maxHeartbeats 8000000 in
theorem specNew_any (w : World) (bu gu : Int) :
    Calls Tryd.prog 21 #[.int .i64 bu, .int .i64 gu] w fun r w' => r = .returned (.agg #[.int .i64 (storeC bu gu [] []), .int .i64 (if storeC bu gu [] [] = 0 then bu else 0), .int .i64 (if storeC bu gu [] [] = 0 then gu else 0), .slice none 0 0, .slice none 0 0]) ∧ Below w.heap.size w w' := by
  have HF : Hid (∀ X, Below w.heap.size w X → Calls Tryd.prog 17 #[.agg #[.int .i64 bu, .int .i64 gu, .slice none 0 0, .slice none 0 0]] X fun r w' => r = .returned (.int .i64 (storeC bu gu [] [])) ∧ Below X.heap.size X w') := fun X hb => specSto_any X bu gu none none 0 0 [] [] (by simp) (by simp) (fun q hq => by simp at hq) (.inl rfl) (.inl rfl)
  obtain ⟨W, hW⟩ : ∃ W, W = (w.alloc (.cells #[.int .i64 0, .int .i64 0, .int .i64 0, .slice none 0 0, .slice none 0 0] 54)).alloc (.cells #[.int .i64 bu, .int .i64 gu, .slice none 0 0, .slice none 0 0] 49) := ⟨_, rfl⟩
  have HW : Hid (W = (w.alloc (.cells #[.int .i64 0, .int .i64 0, .int .i64 0, .slice none 0 0, .slice none 0 0] 54)).alloc (.cells #[.int .i64 bu, .int .i64 gu, .slice none 0 0, .slice none 0 0] 49)) := hW
  have K0 : Hid (Below w.heap.size w W ∧ S5 W w.heap.size (.int .i64 0) (.int .i64 0) (.int .i64 0) (.slice none 0 0) (.slice none 0 0) ∧ S4 W (w.heap.size + 1) (.int .i64 bu) (.int .i64 gu) (.slice none 0 0) (.slice none 0 0)) := by
    rw [hW]
    refine ⟨((Below.refl _ _).alloc (Nat.le_refl _) _).alloc (by simp) _, (S5.new w _ _ _ _ _ _).keep ((Below.refl _ _).alloc (Nat.le_refl _) _), ?_⟩
    have := S4.new (w.alloc (.cells #[.int .i64 0, .int .i64 0, .int .i64 0, .slice none 0 0, .slice none 0 0] 54)) (.int .i64 bu) (.int .i64 gu) (.slice none 0 0) (.slice none 0 0) 49
    simpa using this
  clear hW
  generalize storeC bu gu [] [] = c at *
  by_cases c0 : c = 0
  · subst c0
    rw [if_pos rfl, if_pos rfl]
    go_enter Tryd.func21, Tryd.ntmps21
    go_wp2_with fail
    rw [← HW.out]
    refine (HF.out _ K0.out.1).mono ?_
    rintro r w1 ⟨rfl, hb1⟩
    have K1 : Hid (Below w.heap.size w w1 ∧ S5 w1 w.heap.size (.int .i64 0) (.int .i64 0) (.int .i64 0) (.slice none 0 0) (.slice none 0 0) ∧ S4 w1 (w.heap.size + 1) (.int .i64 bu) (.int .i64 gu) (.slice none 0 0) (.slice none 0 0)) := ⟨K0.out.1.trans (hb1.mono K0.out.1.size), K0.out.2.1.keep hb1, K0.out.2.2.keep hb1⟩
    clear hb1 K0 HF HW
    obtain ⟨r0, r1, r2, r3, r4, rf, _⟩ := K1.out.2.1
    have rf0 := rf 0
    have rf1 := rf 1
    have rf2 := rf 2
    have rf3 := rf 3
    have rf4 := rf 4
    have s0 := K1.out.2.2.c0
    have s1 := K1.out.2.2.c1
    have s2 := K1.out.2.2.c2
    have s3 := K1.out.2.2.c3
    clear rf
    go_wp2_with fail
    refine bodyPost_ret (v := .agg #[.int .i64 0, .int .i64 bu, .int .i64 gu, .slice none 0 0, .slice none 0 0]) ?_ rfl ⟨rfl, ((((K1.out.1.setCell (by simp) _).setCell (by simp) _).setCell (by simp) _).setCell (by simp) _).setCell (by simp) _⟩
    simp [results, Tryd.results21, go_sem, r0, r1, r2, r3, r4]
  · rw [if_neg c0, if_neg c0]
    go_enter Tryd.func21, Tryd.ntmps21
    go_wp2_with fail
    rw [← HW.out]
    refine (HF.out _ K0.out.1).mono ?_
    rintro r w1 ⟨rfl, hb1⟩
    have K1 : Hid (Below w.heap.size w w1 ∧ S5 w1 w.heap.size (.int .i64 0) (.int .i64 0) (.int .i64 0) (.slice none 0 0) (.slice none 0 0)) := ⟨K0.out.1.trans (hb1.mono K0.out.1.size), K0.out.2.1.keep hb1⟩
    clear hb1 K0 HF HW
    obtain ⟨r0, r1, r2, r3, r4, rf, _⟩ := K1.out.2
    have rf0 := rf 0
    have rf1 := rf 1
    have rf2 := rf 2
    have rf3 := rf 3
    have rf4 := rf 4
    clear rf
    go_wp2_with fail
    refine bodyPost_ret (v := .agg #[.int .i64 c, .int .i64 0, .int .i64 0, .slice none 0 0, .slice none 0 0]) ?_ rfl ⟨rfl, ((((K1.out.1.setCell (by simp) _).setCell (by simp) _).setCell (by simp) _).setCell (by simp) _).setCell (by simp) _⟩
    simp [results, Tryd.results21, go_sem, r0, r1, r2, r3, r4]
set_option maxHeartbeats 8000000 in
theorem implNew_any (w : World) (bu gu : Int) (hset : SetIs w) :
    Calls Tryd.prog 22 #[.int .i64 bu, .int .i64 gu] w fun r w' => r = .returned (.agg #[.int .i64 (storeC bu gu [] []), .int .i64 (if storeC bu gu [] [] = 0 then bu else 0), .int .i64 (if storeC bu gu [] [] = 0 then gu else 0), .slice none 0 0, .slice none 0 0]) ∧ Below w.heap.size w w' := by
  have HF : Hid (∀ X, Below w.heap.size w X → Calls Tryd.prog 19 #[.agg #[.int .i64 bu, .int .i64 gu, .slice none 0 0, .slice none 0 0]] X fun r w' => r = .returned (.int .i64 (storeC bu gu [] [])) ∧ Below X.heap.size X w') := fun X hb => implSto_any X bu gu none none 0 0 [] [] (hset.below hb) (by simp) (by simp) (fun q hq => by simp at hq) (.inl rfl) (.inl rfl)
  obtain ⟨W, hW⟩ : ∃ W, W = (w.alloc (.cells #[.int .i64 0, .int .i64 0, .int .i64 0, .slice none 0 0, .slice none 0 0] 54)).alloc (.cells #[.int .i64 bu, .int .i64 gu, .slice none 0 0, .slice none 0 0] 49) := ⟨_, rfl⟩
  have HW : Hid (W = (w.alloc (.cells #[.int .i64 0, .int .i64 0, .int .i64 0, .slice none 0 0, .slice none 0 0] 54)).alloc (.cells #[.int .i64 bu, .int .i64 gu, .slice none 0 0, .slice none 0 0] 49)) := hW
  have K0 : Hid (Below w.heap.size w W ∧ S5 W w.heap.size (.int .i64 0) (.int .i64 0) (.int .i64 0) (.slice none 0 0) (.slice none 0 0) ∧ S4 W (w.heap.size + 1) (.int .i64 bu) (.int .i64 gu) (.slice none 0 0) (.slice none 0 0)) := by
    rw [hW]
    refine ⟨((Below.refl _ _).alloc (Nat.le_refl _) _).alloc (by simp) _, (S5.new w _ _ _ _ _ _).keep ((Below.refl _ _).alloc (Nat.le_refl _) _), ?_⟩
    have := S4.new (w.alloc (.cells #[.int .i64 0, .int .i64 0, .int .i64 0, .slice none 0 0, .slice none 0 0] 54)) (.int .i64 bu) (.int .i64 gu) (.slice none 0 0) (.slice none 0 0) 49
    simpa using this
  clear hW hset
  generalize storeC bu gu [] [] = c at *
  by_cases c0 : c = 0
  · subst c0
    rw [if_pos rfl, if_pos rfl]
    go_enter Tryd.func22, Tryd.ntmps22
    go_wp2_with fail
    rw [← HW.out]
    refine (HF.out _ K0.out.1).mono ?_
    rintro r w1 ⟨rfl, hb1⟩
    have K1 : Hid (Below w.heap.size w w1 ∧ S5 w1 w.heap.size (.int .i64 0) (.int .i64 0) (.int .i64 0) (.slice none 0 0) (.slice none 0 0) ∧ S4 w1 (w.heap.size + 1) (.int .i64 bu) (.int .i64 gu) (.slice none 0 0) (.slice none 0 0)) := ⟨K0.out.1.trans (hb1.mono K0.out.1.size), K0.out.2.1.keep hb1, K0.out.2.2.keep hb1⟩
    clear hb1 K0 HF HW
    obtain ⟨r0, r1, r2, r3, r4, rf, _⟩ := K1.out.2.1
    have rf0 := rf 0
    have rf1 := rf 1
    have rf2 := rf 2
    have rf3 := rf 3
    have rf4 := rf 4
    have s0 := K1.out.2.2.c0
    have s1 := K1.out.2.2.c1
    have s2 := K1.out.2.2.c2
    have s3 := K1.out.2.2.c3
    clear rf
    go_wp2_with fail
    refine bodyPost_ret (v := .agg #[.int .i64 0, .int .i64 bu, .int .i64 gu, .slice none 0 0, .slice none 0 0]) ?_ rfl ⟨rfl, ((((K1.out.1.setCell (by simp) _).setCell (by simp) _).setCell (by simp) _).setCell (by simp) _).setCell (by simp) _⟩
    simp [results, Tryd.results22, go_sem, r0, r1, r2, r3, r4]
  · rw [if_neg c0, if_neg c0]
    go_enter Tryd.func22, Tryd.ntmps22
    go_wp2_with fail
    rw [← HW.out]
    refine (HF.out _ K0.out.1).mono ?_
    rintro r w1 ⟨rfl, hb1⟩
    have K1 : Hid (Below w.heap.size w w1 ∧ S5 w1 w.heap.size (.int .i64 0) (.int .i64 0) (.int .i64 0) (.slice none 0 0) (.slice none 0 0)) := ⟨K0.out.1.trans (hb1.mono K0.out.1.size), K0.out.2.1.keep hb1⟩
    clear hb1 K0 HF HW
    obtain ⟨r0, r1, r2, r3, r4, rf, _⟩ := K1.out.2
    have rf0 := rf 0
    have rf1 := rf 1
    have rf2 := rf 2
    have rf3 := rf 3
    have rf4 := rf 4
    clear rf
    go_wp2_with fail
    refine bodyPost_ret (v := .agg #[.int .i64 c, .int .i64 0, .int .i64 0, .slice none 0 0, .slice none 0 0]) ?_ rfl ⟨rfl, ((((K1.out.1.setCell (by simp) _).setCell (by simp) _).setCell (by simp) _).setCell (by simp) _).setCell (by simp) _⟩
    simp [results, Tryd.results22, go_sem, r0, r1, r2, r3, r4]
set_option maxHeartbeats 2000000 in
theorem eqStoR_nil (w : World) (c b g : Int) : Calls Tryd.prog 23 #[.agg #[.int .i64 c, .int .i64 b, .int .i64 g, .slice none 0 0, .slice none 0 0], .agg #[.int .i64 c, .int .i64 b, .int .i64 g, .slice none 0 0, .slice none 0 0]] w fun r w' => r = .returned (.bool true) ∧ Below w.heap.size w w' := by
  have HC : Hid (∀ X, Calls Tryd.prog 20 #[.agg #[.int .i64 b, .int .i64 g, .slice none 0 0, .slice none 0 0], .agg #[.int .i64 b, .int .i64 g, .slice none 0 0, .slice none 0 0]] X fun r w' => r = .returned (.bool true) ∧ Below X.heap.size X w') := fun X => eqStore_same X b g none none none none 0 0 0 0 [] [] [] [] (by simp) (by simp) (fun q hq => by simp at hq) (fun q hq => by simp at hq) rfl rfl (.inl rfl) (.inl rfl) (.inl rfl) (.inl rfl)
  have B0 : Hid (Below w.heap.size w ((w.alloc (.cells #[.int .i64 c, .int .i64 b, .int .i64 g, .slice none 0 0, .slice none 0 0] 54)).alloc (.cells #[.int .i64 c, .int .i64 b, .int .i64 g, .slice none 0 0, .slice none 0 0] 54))) := ((Below.refl _ _).alloc (Nat.le_refl _) _).alloc (by simp) _
  go_enter Tryd.func23, Tryd.ntmps23
  go_wp2_with fail
  refine (HC.out _).mono ?_
  rintro r w1 ⟨rfl, hb1⟩
  have B1 : Hid (Below w.heap.size w w1) := B0.out.trans (hb1.mono B0.out.size)
  clear hb1
  go_wp2_with fail
  go_ret
  exact ⟨rfl, B1.out⟩
set_option maxHeartbeats 2000000 in
theorem markEntS_nil (w : World) (k : Int) : Calls Tryd.prog 70 #[.slice none 0 0, .int .i64 k] w fun r w' => r = .returned (.int .i64 k) ∧ Below w.heap.size w w' := by
  go_enter Tryd.func70, Tryd.ntmps70
  go_wp2_with fail
  go_loop [1, 5] (fun x i => x = .int .i64 k ∧ i = .int .i64 0) (fun _ _ => 0)
  case atStart => exact ⟨rfl, rfl⟩
  case round =>
    obtain ⟨rfl, rfl⟩ := hrel
    go_wp2_with fail
    go_ret
    exact ⟨rfl, Below.refl _ _⟩
set_option maxHeartbeats 2000000 in
theorem markSto_nil (w : World) (b g : Int) : Calls Tryd.prog 57 #[.agg #[.int .i64 b, .int .i64 g, .slice none 0 0, .slice none 0 0], .int .i64 1] w fun r w' => r = .returned (.int .i64 1) ∧ Below w.heap.size w w' := by
  have HC : Hid (∀ X, Calls Tryd.prog 70 #[.slice none 0 0, .int .i64 1] X fun r w' => r = .returned (.int .i64 1) ∧ Below X.heap.size X w') := fun X => markEntS_nil X 1
  have K0 : Hid (Below w.heap.size w (w.alloc (.cells #[.int .i64 b, .int .i64 g, .slice none 0 0, .slice none 0 0] 49)) ∧ S4 (w.alloc (.cells #[.int .i64 b, .int .i64 g, .slice none 0 0, .slice none 0 0] 49)) w.heap.size (.int .i64 b) (.int .i64 g) (.slice none 0 0) (.slice none 0 0)) := ⟨(Below.refl _ _).alloc (Nat.le_refl _) _, S4.new w _ _ _ _ _⟩
  go_enter Tryd.func57, Tryd.ntmps57
  go_wp2_with fail
  refine (HC.out _).mono ?_
  rintro r w1 ⟨rfl, hb1⟩
  have B1 : Hid (Below w.heap.size w w1) := K0.out.1.trans (hb1.mono K0.out.1.size)
  have q3 := (K0.out.2.keep hb1).c3
  clear hb1 K0
  go_wp2_with fail
  refine (HC.out _).mono ?_
  rintro r w2 ⟨rfl, hb2⟩
  have B2 : Hid (Below w.heap.size w w2) := B1.out.trans (hb2.mono B1.out.size)
  clear hb2
  go_wp2_with fail
  go_ret
  exact ⟨rfl, B2.out⟩
set_option maxHeartbeats 2000000 in
theorem markStoR_nil (w : World) (c b g : Int) : Calls Tryd.prog 24 #[.agg #[.int .i64 c, .int .i64 b, .int .i64 g, .slice none 0 0, .slice none 0 0], .int .i64 1] w fun r w' => r = .returned (.int .i64 1) ∧ Below w.heap.size w w' := by
  have HC : Hid (∀ X, Calls Tryd.prog 57 #[.agg #[.int .i64 b, .int .i64 g, .slice none 0 0, .slice none 0 0], .int .i64 1] X fun r w' => r = .returned (.int .i64 1) ∧ Below X.heap.size X w') := fun X => markSto_nil X b g
  have B0 : Hid (Below w.heap.size w (w.alloc (.cells #[.int .i64 c, .int .i64 b, .int .i64 g, .slice none 0 0, .slice none 0 0] 54))) := (Below.refl _ _).alloc (Nat.le_refl _) _
  go_enter Tryd.func24, Tryd.ntmps24
  go_wp2_with fail
  refine (HC.out _).mono ?_
  rintro r w1 ⟨rfl, hb1⟩
  have B1 : Hid (Below w.heap.size w w1) := B0.out.trans (hb1.mono B0.out.size)
  clear hb1
  go_wp2_with fail
  go_ret
  exact ⟨rfl, B1.out⟩
set_option maxHeartbeats 2000000 in
theorem heldEntS_nil (w : World) (k : Int) : Calls Tryd.prog 71 #[.slice none 0 0, .int .i64 k] w fun r w' => r = .returned (.int .i64 k) ∧ Below w.heap.size w w' := by
  go_enter Tryd.func71, Tryd.ntmps71
  go_wp2_with fail
  go_loop [1, 5] (fun x i => x = .int .i64 k ∧ i = .int .i64 0) (fun _ _ => 0)
  case atStart => exact ⟨rfl, rfl⟩
  case round =>
    obtain ⟨rfl, rfl⟩ := hrel
    go_wp2_with fail
    go_ret
    exact ⟨rfl, Below.refl _ _⟩
set_option maxHeartbeats 2000000 in
theorem heldSto_nil (w : World) (b g : Int) : Calls Tryd.prog 58 #[.agg #[.int .i64 b, .int .i64 g, .slice none 0 0, .slice none 0 0], .int .i64 1] w fun r w' => r = .returned (.int .i64 1) ∧ Below w.heap.size w w' := by
  have HC : Hid (∀ X, Calls Tryd.prog 71 #[.slice none 0 0, .int .i64 1] X fun r w' => r = .returned (.int .i64 1) ∧ Below X.heap.size X w') := fun X => heldEntS_nil X 1
  have K0 : Hid (Below w.heap.size w (w.alloc (.cells #[.int .i64 b, .int .i64 g, .slice none 0 0, .slice none 0 0] 49)) ∧ S4 (w.alloc (.cells #[.int .i64 b, .int .i64 g, .slice none 0 0, .slice none 0 0] 49)) w.heap.size (.int .i64 b) (.int .i64 g) (.slice none 0 0) (.slice none 0 0)) := ⟨(Below.refl _ _).alloc (Nat.le_refl _) _, S4.new w _ _ _ _ _⟩
  go_enter Tryd.func58, Tryd.ntmps58
  go_wp2_with fail
  refine (HC.out _).mono ?_
  rintro r w1 ⟨rfl, hb1⟩
  have B1 : Hid (Below w.heap.size w w1) := K0.out.1.trans (hb1.mono K0.out.1.size)
  have q3 := (K0.out.2.keep hb1).c3
  clear hb1 K0
  go_wp2_with fail
  refine (HC.out _).mono ?_
  rintro r w2 ⟨rfl, hb2⟩
  have B2 : Hid (Below w.heap.size w w2) := B1.out.trans (hb2.mono B1.out.size)
  clear hb2
  go_wp2_with fail
  go_ret
  exact ⟨rfl, B2.out⟩
set_option maxHeartbeats 2000000 in
theorem heldStoR_nil (w : World) (c b g : Int) : Calls Tryd.prog 25 #[.agg #[.int .i64 c, .int .i64 b, .int .i64 g, .slice none 0 0, .slice none 0 0], .int .i64 1] w fun r w' => r = .returned (.int .i64 1) ∧ Below w.heap.size w w' := by
  have HC : Hid (∀ X, Calls Tryd.prog 58 #[.agg #[.int .i64 b, .int .i64 g, .slice none 0 0, .slice none 0 0], .int .i64 1] X fun r w' => r = .returned (.int .i64 1) ∧ Below X.heap.size X w') := fun X => heldSto_nil X b g
  have B0 : Hid (Below w.heap.size w (w.alloc (.cells #[.int .i64 c, .int .i64 b, .int .i64 g, .slice none 0 0, .slice none 0 0] 54))) := (Below.refl _ _).alloc (Nat.le_refl _) _
  go_enter Tryd.func25, Tryd.ntmps25
  go_wp2_with fail
  refine (HC.out _).mono ?_
  rintro r w1 ⟨rfl, hb1⟩
  have B1 : Hid (Below w.heap.size w w1) := B0.out.trans (hb1.mono B0.out.size)
  clear hb1
  go_wp2_with fail
  go_ret
  exact ⟨rfl, B1.out⟩
set_option maxHeartbeats 16000000 in
theorem lawNewStore (w : World) (bu gu : Int) (hset : SetIs w) :
    Calls Tryd.prog 6 #[.int .i64 bu, .int .i64 gu] w fun r w' => r = .returned (.bool true) ∧ Below w.heap.size w w' := by
  obtain ⟨c, hc⟩ : ∃ c, storeC bu gu [] [] = c := ⟨_, rfl⟩
  obtain ⟨b, hb⟩ : ∃ b, (if c = 0 then bu else 0) = b := ⟨_, rfl⟩
  obtain ⟨g, hg⟩ : ∃ g, (if c = 0 then gu else 0) = g := ⟨_, rfl⟩
  have HS : Hid (∀ X, Calls Tryd.prog 21 #[.int .i64 bu, .int .i64 gu] X fun r w' => r = .returned (.agg #[.int .i64 c, .int .i64 b, .int .i64 g, .slice none 0 0, .slice none 0 0]) ∧ Below X.heap.size X w') := fun X => by
    have := specNew_any X bu gu
    rw [hc, hb, hg] at this
    exact this
  have HG : Hid (∀ X, Below w.heap.size w X → Calls Tryd.prog 22 #[.int .i64 bu, .int .i64 gu] X fun r w' => r = .returned (.agg #[.int .i64 c, .int .i64 b, .int .i64 g, .slice none 0 0, .slice none 0 0]) ∧ Below X.heap.size X w') := fun X hX => by
    have := implNew_any X bu gu (hset.below hX)
    rw [hc, hb, hg] at this
    exact this
  have HE : Hid (∀ X, Calls Tryd.prog 23 #[.agg #[.int .i64 c, .int .i64 b, .int .i64 g, .slice none 0 0, .slice none 0 0], .agg #[.int .i64 c, .int .i64 b, .int .i64 g, .slice none 0 0, .slice none 0 0]] X fun r w' => r = .returned (.bool true) ∧ Below X.heap.size X w') := fun X => eqStoR_nil X c b g
  have HM : Hid (∀ X, Calls Tryd.prog 24 #[.agg #[.int .i64 c, .int .i64 b, .int .i64 g, .slice none 0 0, .slice none 0 0], .int .i64 1] X fun r w' => r = .returned (.int .i64 1) ∧ Below X.heap.size X w') := fun X => markStoR_nil X c b g
  have HH : Hid (∀ X, Calls Tryd.prog 25 #[.agg #[.int .i64 c, .int .i64 b, .int .i64 g, .slice none 0 0, .slice none 0 0], .int .i64 1] X fun r w' => r = .returned (.int .i64 1) ∧ Below X.heap.size X w') := fun X => heldStoR_nil X c b g
  clear hc hb hg hset
  go_enter Tryd.func6, Tryd.ntmps6
  go_wp2_with fail
  refine (HS.out _).mono ?_
  rintro r w1 ⟨rfl, hb1⟩
  obtain ⟨V1, hV1⟩ : ∃ V, V = w1.alloc (.cells #[.int .i64 c, .int .i64 b, .int .i64 g, .slice none 0 0, .slice none 0 0] 54) := ⟨_, rfl⟩
  have HV1 : Hid (V1 = w1.alloc (.cells #[.int .i64 c, .int .i64 b, .int .i64 g, .slice none 0 0, .slice none 0 0] 54)) := hV1
  have K1 : Hid (Below w.heap.size w V1 ∧ S5 V1 w1.heap.size (.int .i64 c) (.int .i64 b) (.int .i64 g) (.slice none 0 0) (.slice none 0 0)) := by
    have a1 : Below w1.heap.size w1 V1 := by rw [hV1]; exact (Below.refl _ _).alloc (Nat.le_refl _) _
    exact ⟨hb1.trans (a1.mono hb1.size), by rw [hV1]; exact S5.new w1 _ _ _ _ _ _⟩
  clear hb1 hV1 HS
  go_wp2_with fail
  rw [← HV1.out]
  refine (HG.out _ K1.out.1).mono ?_
  rintro r w2 ⟨rfl, hb2⟩
  obtain ⟨V2, hV2⟩ : ∃ V, V = w2.alloc (.cells #[.int .i64 c, .int .i64 b, .int .i64 g, .slice none 0 0, .slice none 0 0] 54) := ⟨_, rfl⟩
  have HV2 : Hid (V2 = w2.alloc (.cells #[.int .i64 c, .int .i64 b, .int .i64 g, .slice none 0 0, .slice none 0 0] 54)) := hV2
  have K2 : Hid (Below w.heap.size w V2 ∧ S5 V2 w1.heap.size (.int .i64 c) (.int .i64 b) (.int .i64 g) (.slice none 0 0) (.slice none 0 0) ∧ S5 V2 w2.heap.size (.int .i64 c) (.int .i64 b) (.int .i64 g) (.slice none 0 0) (.slice none 0 0)) := by
    have a2 : Below w2.heap.size w2 V2 := by rw [hV2]; exact (Below.refl _ _).alloc (Nat.le_refl _) _
    have b2 := K1.out.1.trans (hb2.mono K1.out.1.size)
    exact ⟨b2.trans (a2.mono b2.size), (K1.out.2.keep hb2).keep a2, by rw [hV2]; exact S5.new w2 _ _ _ _ _ _⟩
  clear hb2 hV2 HV1 K1
  have q0 := K2.out.2.1.c0
  have q1 := K2.out.2.1.c1
  have q2 := K2.out.2.1.c2
  have q3 := K2.out.2.1.c3
  have q4 := K2.out.2.1.c4
  rw [HV2.out] at q0 q1 q2 q3 q4
  go_wp2_with fail
  rw [← HV2.out]
  clear q0 q1 q2 q3 q4
  refine (HE.out _).mono ?_
  rintro r w3 ⟨rfl, hb3⟩
  generalize w1.heap.size = y1 at *
  generalize w2.heap.size = y2 at *
  have K3 : Hid (Below w.heap.size w w3 ∧ S5 w3 y1 (.int .i64 c) (.int .i64 b) (.int .i64 g) (.slice none 0 0) (.slice none 0 0) ∧ S5 w3 y2 (.int .i64 c) (.int .i64 b) (.int .i64 g) (.slice none 0 0) (.slice none 0 0)) := ⟨K2.out.1.trans (hb3.mono K2.out.1.size), K2.out.2.1.keep hb3, K2.out.2.2.keep hb3⟩
  clear hb3 K2 HV2
  have q0 := K3.out.2.2.c0
  have q1 := K3.out.2.2.c1
  have q2 := K3.out.2.2.c2
  have q3 := K3.out.2.2.c3
  have q4 := K3.out.2.2.c4
  go_wp2_with fail
  clear q0 q1 q2 q3 q4
  refine (HM.out _).mono ?_
  rintro r w4 ⟨rfl, hb4⟩
  have K4 : Hid (Below w.heap.size w w4 ∧ S5 w4 y1 (.int .i64 c) (.int .i64 b) (.int .i64 g) (.slice none 0 0) (.slice none 0 0) ∧ S5 w4 y2 (.int .i64 c) (.int .i64 b) (.int .i64 g) (.slice none 0 0) (.slice none 0 0)) := ⟨K3.out.1.trans (hb4.mono K3.out.1.size), K3.out.2.1.keep hb4, K3.out.2.2.keep hb4⟩
  clear hb4 K3
  have q0 := K4.out.2.2.c0
  have q1 := K4.out.2.2.c1
  have q2 := K4.out.2.2.c2
  have q3 := K4.out.2.2.c3
  have q4 := K4.out.2.2.c4
  go_wp2_with fail
  clear q0 q1 q2 q3 q4
  refine (HH.out _).mono ?_
  rintro r w5 ⟨rfl, hb5⟩
  have K5 : Hid (Below w.heap.size w w5 ∧ S5 w5 y1 (.int .i64 c) (.int .i64 b) (.int .i64 g) (.slice none 0 0) (.slice none 0 0) ∧ S5 w5 y2 (.int .i64 c) (.int .i64 b) (.int .i64 g) (.slice none 0 0) (.slice none 0 0)) := ⟨K4.out.1.trans (hb5.mono K4.out.1.size), K4.out.2.1.keep hb5, K4.out.2.2.keep hb5⟩
  clear hb5 K4
  go_wp2_with fail
  refine (HG.out _ K5.out.1).mono ?_
  rintro r w6 ⟨rfl, hb6⟩
  obtain ⟨V6, hV6⟩ : ∃ V, V = w6.alloc (.cells #[.int .i64 c, .int .i64 b, .int .i64 g, .slice none 0 0, .slice none 0 0] 54) := ⟨_, rfl⟩
  have HV6 : Hid (V6 = w6.alloc (.cells #[.int .i64 c, .int .i64 b, .int .i64 g, .slice none 0 0, .slice none 0 0] 54)) := hV6
  have K6 : Hid (Below w.heap.size w V6 ∧ S5 V6 y1 (.int .i64 c) (.int .i64 b) (.int .i64 g) (.slice none 0 0) (.slice none 0 0) ∧ S5 V6 y2 (.int .i64 c) (.int .i64 b) (.int .i64 g) (.slice none 0 0) (.slice none 0 0)) := by
    have a2 : Below w6.heap.size w6 V6 := by rw [hV6]; exact (Below.refl _ _).alloc (Nat.le_refl _) _
    have b2 := K5.out.1.trans (hb6.mono K5.out.1.size)
    exact ⟨b2.trans (a2.mono b2.size), (K5.out.2.1.keep hb6).keep a2, (K5.out.2.2.keep hb6).keep a2⟩
  clear hb6 hV6 K5
  have q0 := K6.out.2.1.c0
  have q1 := K6.out.2.1.c1
  have q2 := K6.out.2.1.c2
  have q3 := K6.out.2.1.c3
  have q4 := K6.out.2.1.c4
  rw [HV6.out] at q0 q1 q2 q3 q4
  go_wp2_with fail
  rw [← HV6.out]
  clear q0 q1 q2 q3 q4
  refine (HE.out _).mono ?_
  rintro r w7 ⟨rfl, hb7⟩
  have K7 : Hid (Below w.heap.size w w7 ∧ S5 w7 y2 (.int .i64 c) (.int .i64 b) (.int .i64 g) (.slice none 0 0) (.slice none 0 0)) := ⟨K6.out.1.trans (hb7.mono K6.out.1.size), K6.out.2.2.keep hb7⟩
  clear hb7 K6 HV6
  have q0 := K7.out.2.c0
  have q1 := K7.out.2.c1
  have q2 := K7.out.2.c2
  have q3 := K7.out.2.c3
  have q4 := K7.out.2.c4
  go_wp2_with fail
  refine (HH.out _).mono ?_
  rintro r w8 ⟨rfl, hb8⟩
  have K8 : Hid (Below w.heap.size w w8) := K7.out.1.trans (hb8.mono K7.out.1.size)
  clear hb8 K7 q0 q1 q2 q3 q4
  go_wp2_with fail
  go_ret
  exact ⟨rfl, K8.out⟩
end Go.Proofs.YtelbddgdaibolaaDoor
