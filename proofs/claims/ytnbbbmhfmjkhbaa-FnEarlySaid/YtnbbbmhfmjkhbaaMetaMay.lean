/-
  MayServe and EarlyDue, on both sides.
-/
import Derived.Test.YtnbbbmhfmjkhbaaMetaAsk
namespace Go.Proofs.Ytnbbbmhfmjkhbaa
open Go.ChangeShapes Go.WideShapes Go.ChangeAt Go.RowKit Go.Sort
theorem ifieldV (c v : Int) (w : World) : (Instr.field 29 (.agg #[.int .i64 c, .int .i64 v]) 1).run Try.prog w = .ok (.int .i64 v) w := by kernel_rfl
theorem phaseV_in (a li s e : Int) (b2 : Bool) : phaseV a li s e b2 = 0 ∨ phaseV a li s e b2 = 1 ∨ phaseV a li s e b2 = 2 ∨ phaseV a li s e b2 = 3 := by
  unfold phaseV; split
  · simp
  · split
    · simp
    · split <;> simp
theorem phaseA_in (t g l s e : Int) (b1 b2 : Bool) (n : Int) : phaseA t g l s e b1 b2 n = 0 ∨ phaseA t g l s e b1 b2 n = 1 ∨ phaseA t g l s e b1 b2 n = 2 ∨ phaseA t g l s e b1 b2 n = 3 := by
  unfold phaseA; split
  · exact phaseV_in _ _ _ _ _
  · simp
def mayV (p : Int) (f : Bool) : Bool := decide (p = 1) || decide (p = 2) || (f && decide (p = 3))
set_option maxHeartbeats 4000000 in
theorem implMay_any (t g l s e : Int) (b1 b2 : Bool) (n : Int) (f : Bool) (w : World) :
    Calls Try.prog 19 #[.agg #[.int .i64 t, .int .i64 g, .int .i64 l, .int .i64 s, .int .i64 e, .bool b1, .bool b2], .int .i64 n, .bool f] w fun r w' => r = .returned (.bool (mayV (phaseA t g l s e b1 b2 n) f)) ∧ Below w.heap.size w w' := by
  have HG : Hid (∀ w, Calls Try.prog 13 #[.agg #[.int .i64 t, .int .i64 g, .int .i64 l, .int .i64 s, .int .i64 e, .bool b1, .bool b2], .int .i64 n] w fun r w' => r = .returned (.agg #[.int .i64 (askC t g l s e n), .int .i64 (phaseA t g l s e b1 b2 n)]) ∧ Below w.heap.size w w') := implPhase_any t g l s e b1 b2 n
  have HB0 : Hid (Below w.heap.size w (w.alloc (.cells #[.int .i64 t, .int .i64 g, .int .i64 l, .int .i64 s, .int .i64 e, .bool b1, .bool b2] 25))) := (Below.refl _ _).alloc (Nat.le_refl _) _
  have hf := ifieldV
  have hin := phaseA_in t g l s e b1 b2 n
  generalize phaseA t g l s e b1 b2 n = p at *
  generalize askC t g l s e n = c at *
  rcases hin with rfl | rfl | rfl | rfl
  · cases f
    · have e0 : mayV 0 false = false := by simp [mayV]
      rw [e0]
      go_enter Try.func19, Try.ntmps19
      go_wp2_with fail
      refine (HG.out _).mono ?_
      rintro r w1 ⟨rfl, hb1⟩
      have HB : Hid (Below w.heap.size w w1) := HB0.out.trans (hb1.mono (by simp))
      clear hb1
      go_wp2_with fail
      go_ret
      exact ⟨rfl, HB.out⟩
    · have e0 : mayV 0 true = false := by simp [mayV]
      rw [e0]
      go_enter Try.func19, Try.ntmps19
      go_wp2_with fail
      refine (HG.out _).mono ?_
      rintro r w1 ⟨rfl, hb1⟩
      have HB : Hid (Below w.heap.size w w1) := HB0.out.trans (hb1.mono (by simp))
      clear hb1
      go_wp2_with fail
      go_ret
      exact ⟨rfl, HB.out⟩
  · have e0 : mayV 1 f = true := by simp [mayV]
    rw [e0]
    go_enter Try.func19, Try.ntmps19
    go_wp2_with fail
    refine (HG.out _).mono ?_
    rintro r w1 ⟨rfl, hb1⟩
    have HB : Hid (Below w.heap.size w w1) := HB0.out.trans (hb1.mono (by simp))
    clear hb1
    go_wp2_with fail
    go_ret
    exact ⟨rfl, HB.out⟩
  · have e0 : mayV 2 f = true := by simp [mayV]
    rw [e0]
    go_enter Try.func19, Try.ntmps19
    go_wp2_with fail
    refine (HG.out _).mono ?_
    rintro r w1 ⟨rfl, hb1⟩
    have HB : Hid (Below w.heap.size w w1) := HB0.out.trans (hb1.mono (by simp))
    clear hb1
    go_wp2_with fail
    go_ret
    exact ⟨rfl, HB.out⟩
  · cases f
    · have e0 : mayV 3 false = false := by simp [mayV]
      rw [e0]
      go_enter Try.func19, Try.ntmps19
      go_wp2_with fail
      refine (HG.out _).mono ?_
      rintro r w1 ⟨rfl, hb1⟩
      have HB : Hid (Below w.heap.size w w1) := HB0.out.trans (hb1.mono (by simp))
      clear hb1
      go_wp2_with fail
      go_ret
      exact ⟨rfl, HB.out⟩
    · have e0 : mayV 3 true = true := by simp [mayV]
      rw [e0]
      go_enter Try.func19, Try.ntmps19
      go_wp2_with fail
      refine (HG.out _).mono ?_
      rintro r w1 ⟨rfl, hb1⟩
      have HB : Hid (Below w.heap.size w w1) := HB0.out.trans (hb1.mono (by simp))
      clear hb1
      go_wp2_with fail
      go_ret
      exact ⟨rfl, HB.out⟩
theorem addT_life {a li s e : Int} {b2 : Bool} (h1 : phaseV a li s e b2 ≠ 1) (h2 : phaseV a li s e b2 ≠ 2) : decide (a < addT li e) = decide (phaseV a li s e b2 = 3) := by
  unfold phaseV at *
  split at h1
  · exact absurd rfl h1
  · rename_i k1
    rw [if_neg k1] at h2 ⊢
    split at h2
    · exact absurd rfl h2
    · rename_i k2
      rw [if_neg k2]
      split
      · rename_i k3; simp [k3]
      · rename_i k3; simp [k3]
set_option maxHeartbeats 4000000 in
theorem l7May_any (w : World) (B : Nat) (t g l s e : Int) (b1 b2 : Bool) (n : Int) (f : Bool) (hp : MetaAt w B t g l s e b1 b2) (h : askB t g l s e n = true) :
    Calls Try.prog 51 #[.pointer (some ⟨B, 0, none⟩), .int .i64 n, .bool f] w fun r w' => r = .returned (.bool (mayV (phaseM t g l s e b1 b2 n) f)) ∧ Below w.heap.size w w' := by
  have HPH : Hid (∀ w, MetaAt w B t g l s e b1 b2 → Calls Try.prog 37 #[.pointer (some ⟨B, 0, none⟩), .int .i64 n] w fun r w' => r = .returned (.int .i64 (phaseM t g l s e b1 b2 n)) ∧ Below w.heap.size w w') := fun w hp => l7Phase_any w B t g l s e b1 b2 n hp h
  have HG : Hid (∀ w, MetaAt w B t g l s e b1 b2 → Calls Try.prog 38 #[.pointer (some ⟨B, 0, none⟩), .int .i64 n] w fun r w' => r = .returned (.int .i64 (ageM t g n)) ∧ Below w.heap.size w w') := fun w hp => l7Age_any w B t g l s e b1 b2 n hp h
  have HL : Hid (∀ w, MetaAt w B t g l s e b1 b2 → Calls Try.prog 57 #[.pointer (some ⟨B, 0, none⟩)] w fun r w' => r = .returned (.int .i64 (lifeM l b1 b2)) ∧ w' = w) := fun w hp => l7Life_any w B t g l s e b1 b2 hp
  have HP : Hid (MetaAt w B t g l s e b1 b2) := hp
  obtain ⟨hm, _, tn⟩ := askB_of h
  obtain ⟨_, hg, hl, hs, he⟩ := metaB_of hm
  have hli := lifeM_time (b1 := b1) (b2 := b2) hl
  have HAe : Hid (∀ w, Calls Try.prog 58 #[.int .i64 (lifeM l b1 b2), .int .i64 e] w fun r w' => r = .returned (.int .i64 (addT (lifeM l b1 b2) e)) ∧ w' = w) := l1Add_all _ _ hli he
  have HD : Hid (phaseM t g l s e b1 b2 n ≠ 1 → phaseM t g l s e b1 b2 n ≠ 2 → decide (ageM t g n < addT (lifeM l b1 b2) e) = decide (phaseM t g l s e b1 b2 n = 3)) := fun h1 h2 => addT_life h1 h2
  have hin : phaseM t g l s e b1 b2 n = 0 ∨ phaseM t g l s e b1 b2 n = 1 ∨ phaseM t g l s e b1 b2 n = 2 ∨ phaseM t g l s e b1 b2 n = 3 := phaseV_in _ _ _ _ _
  clear hp h hm tn hg hl hs he hli
  generalize phaseM t g l s e b1 b2 n = p at *
  generalize addT (lifeM l b1 b2) e = xe at *
  generalize lifeM l b1 b2 = li at *
  generalize ageM t g n = a at *
  rcases hin with rfl | rfl | rfl | rfl
  · cases f
    · have e0 : mayV 0 false = false := by simp [mayV]
      rw [e0]
      clear HD
      go_enter Try.func51, Try.ntmps51
      go_wp2_with fail
      refine (HPH.out _ HP.out).mono ?_
      rintro r w1 ⟨rfl, hb1⟩
      have HB : Hid (Below w.heap.size w w1) := hb1
      have K1 : Hid (MetaAt w1 B t g l s e b1 b2) := HP.out.keep hb1
      clear hb1 HP HPH
      go_upto_region 2 with fail
      refine wp_region_quiet_below (by kernel_rfl) (by kernel_rfl) ?_
      repeat (go_big_quiet_step (first | fail))
      refine wpQuiet_nil ?_
      intro W2 hW2
      have hbW2 : Hid (Below w.heap.size w W2) := by
        obtain ⟨⟨d, os⟩, rfl⟩ := hW2
        exact HB.out.trans ((below_regrown w1 d os).mono HB.out.size)
      clear hW2
      go_wp2_with fail
      go_ret
      exact ⟨rfl, hbW2.out⟩
    · have e0 : mayV 0 true = false := by simp [mayV]
      have d3 : decide (a < xe) = false := by have := HD.out (by decide) (by decide); simpa using this
      rw [e0]
      clear HD
      go_enter Try.func51, Try.ntmps51
      go_wp2_with fail
      refine (HPH.out _ HP.out).mono ?_
      rintro r w1 ⟨rfl, hb1⟩
      have HB : Hid (Below w.heap.size w w1) := hb1
      have K1 : Hid (MetaAt w1 B t g l s e b1 b2) := HP.out.keep hb1
      clear hb1 HP HPH
      go_upto_region 2 with fail
      have q4 := cell_regrown K1.out.c4
      have cG : ∀ d' os, Calls Try.prog 38 #[.pointer (some ⟨B, 0, none⟩), .int .i64 n] (grow (redrawn w1 d') os) fun e w'' => e = .returned (.int .i64 a) ∧ ∃ p : Regrown, w'' = grow (redrawn w1 p.d) p.os := fun d' os => Calls.regrown_of (HG.out _ (K1.out.keep (below_regrown w1 d' os)))
      have cL : ∀ d' os, Calls Try.prog 57 #[.pointer (some ⟨B, 0, none⟩)] (grow (redrawn w1 d') os) fun e w'' => e = .returned (.int .i64 li) ∧ ∃ p : Regrown, w'' = grow (redrawn w1 p.d) p.os := fun d' os => Calls.regrown_of ((HL.out _ (K1.out.keep (below_regrown w1 d' os))).mono fun _ _ ⟨h1, h2⟩ => ⟨h1, by rw [h2]; exact Below.refl _ _⟩)
      have cA : ∀ d' os, Calls Try.prog 58 #[.int .i64 li, .int .i64 e] (grow (redrawn w1 d') os) fun e w'' => e = .returned (.int .i64 xe) ∧ ∃ p : Regrown, w'' = grow (redrawn w1 p.d) p.os := fun d' os => Calls.regrown_of ((HAe.out _).mono fun _ _ ⟨h1, h2⟩ => ⟨h1, by rw [h2]; exact Below.refl _ _⟩)
      refine wp_region_quiet_below (by kernel_rfl) (by kernel_rfl) ?_
      repeat (go_big_quiet_step (first | (go_at_call 38; exact cG _ _) | (go_at_call 57; exact cL _ _) | (go_at_call 58; exact cA _ _)))
      refine wpQuiet_nil ?_
      intro W2 hW2
      have hbW2 : Hid (Below w.heap.size w W2) := by
        obtain ⟨⟨d, os⟩, rfl⟩ := hW2
        exact HB.out.trans ((below_regrown w1 d os).mono HB.out.size)
      clear hW2
      go_wp2_with fail
      go_ret
      exact ⟨rfl, hbW2.out⟩
  · have e0 : mayV 1 f = true := by simp [mayV]
    rw [e0]
    clear HD
    go_enter Try.func51, Try.ntmps51
    go_wp2_with fail
    refine (HPH.out _ HP.out).mono ?_
    rintro r w1 ⟨rfl, hb1⟩
    have HB : Hid (Below w.heap.size w w1) := hb1
    have K1 : Hid (MetaAt w1 B t g l s e b1 b2) := HP.out.keep hb1
    clear hb1 HP HPH
    go_upto_region 2 with fail
    refine wp_region_quiet_below (by kernel_rfl) (by kernel_rfl) ?_
    repeat (go_big_quiet_step (first | fail))
    refine wpQuiet_nil ?_
    intro W2 hW2
    have hbW2 : Hid (Below w.heap.size w W2) := by
      obtain ⟨⟨d, os⟩, rfl⟩ := hW2
      exact HB.out.trans ((below_regrown w1 d os).mono HB.out.size)
    clear hW2
    go_wp2_with fail
    go_ret
    exact ⟨rfl, hbW2.out⟩
  · have e0 : mayV 2 f = true := by simp [mayV]
    rw [e0]
    clear HD
    go_enter Try.func51, Try.ntmps51
    go_wp2_with fail
    refine (HPH.out _ HP.out).mono ?_
    rintro r w1 ⟨rfl, hb1⟩
    have HB : Hid (Below w.heap.size w w1) := hb1
    have K1 : Hid (MetaAt w1 B t g l s e b1 b2) := HP.out.keep hb1
    clear hb1 HP HPH
    go_upto_region 2 with fail
    refine wp_region_quiet_below (by kernel_rfl) (by kernel_rfl) ?_
    repeat (go_big_quiet_step (first | fail))
    refine wpQuiet_nil ?_
    intro W2 hW2
    have hbW2 : Hid (Below w.heap.size w W2) := by
      obtain ⟨⟨d, os⟩, rfl⟩ := hW2
      exact HB.out.trans ((below_regrown w1 d os).mono HB.out.size)
    clear hW2
    go_wp2_with fail
    go_ret
    exact ⟨rfl, hbW2.out⟩
  · cases f
    · have e0 : mayV 3 false = false := by simp [mayV]
      rw [e0]
      clear HD
      go_enter Try.func51, Try.ntmps51
      go_wp2_with fail
      refine (HPH.out _ HP.out).mono ?_
      rintro r w1 ⟨rfl, hb1⟩
      have HB : Hid (Below w.heap.size w w1) := hb1
      have K1 : Hid (MetaAt w1 B t g l s e b1 b2) := HP.out.keep hb1
      clear hb1 HP HPH
      go_upto_region 2 with fail
      refine wp_region_quiet_below (by kernel_rfl) (by kernel_rfl) ?_
      repeat (go_big_quiet_step (first | fail))
      refine wpQuiet_nil ?_
      intro W2 hW2
      have hbW2 : Hid (Below w.heap.size w W2) := by
        obtain ⟨⟨d, os⟩, rfl⟩ := hW2
        exact HB.out.trans ((below_regrown w1 d os).mono HB.out.size)
      clear hW2
      go_wp2_with fail
      go_ret
      exact ⟨rfl, hbW2.out⟩
    · have e0 : mayV 3 true = true := by simp [mayV]
      have d3 : decide (a < xe) = true := by have := HD.out (by decide) (by decide); simpa using this
      rw [e0]
      clear HD
      go_enter Try.func51, Try.ntmps51
      go_wp2_with fail
      refine (HPH.out _ HP.out).mono ?_
      rintro r w1 ⟨rfl, hb1⟩
      have HB : Hid (Below w.heap.size w w1) := hb1
      have K1 : Hid (MetaAt w1 B t g l s e b1 b2) := HP.out.keep hb1
      clear hb1 HP HPH
      go_upto_region 2 with fail
      have q4 := cell_regrown K1.out.c4
      have cG : ∀ d' os, Calls Try.prog 38 #[.pointer (some ⟨B, 0, none⟩), .int .i64 n] (grow (redrawn w1 d') os) fun e w'' => e = .returned (.int .i64 a) ∧ ∃ p : Regrown, w'' = grow (redrawn w1 p.d) p.os := fun d' os => Calls.regrown_of (HG.out _ (K1.out.keep (below_regrown w1 d' os)))
      have cL : ∀ d' os, Calls Try.prog 57 #[.pointer (some ⟨B, 0, none⟩)] (grow (redrawn w1 d') os) fun e w'' => e = .returned (.int .i64 li) ∧ ∃ p : Regrown, w'' = grow (redrawn w1 p.d) p.os := fun d' os => Calls.regrown_of ((HL.out _ (K1.out.keep (below_regrown w1 d' os))).mono fun _ _ ⟨h1, h2⟩ => ⟨h1, by rw [h2]; exact Below.refl _ _⟩)
      have cA : ∀ d' os, Calls Try.prog 58 #[.int .i64 li, .int .i64 e] (grow (redrawn w1 d') os) fun e w'' => e = .returned (.int .i64 xe) ∧ ∃ p : Regrown, w'' = grow (redrawn w1 p.d) p.os := fun d' os => Calls.regrown_of ((HAe.out _).mono fun _ _ ⟨h1, h2⟩ => ⟨h1, by rw [h2]; exact Below.refl _ _⟩)
      refine wp_region_quiet_below (by kernel_rfl) (by kernel_rfl) ?_
      repeat (go_big_quiet_step (first | (go_at_call 38; exact cG _ _) | (go_at_call 57; exact cL _ _) | (go_at_call 58; exact cA _ _)))
      refine wpQuiet_nil ?_
      intro W2 hW2
      have hbW2 : Hid (Below w.heap.size w W2) := by
        obtain ⟨⟨d, os⟩, rfl⟩ := hW2
        exact HB.out.trans ((below_regrown w1 d os).mono HB.out.size)
      clear hW2
      go_wp2_with fail
      go_ret
      exact ⟨rfl, hbW2.out⟩
set_option maxHeartbeats 4000000 in
theorem specMay_any (t g l s e : Int) (b1 b2 : Bool) (n : Int) (f : Bool) (w : World) :
    Calls Try.prog 32 #[.agg #[.int .i64 t, .int .i64 g, .int .i64 l, .int .i64 s, .int .i64 e, .bool b1, .bool b2], .int .i64 n, .bool f] w fun r w' => r = .returned (.bool (mayV (phaseA t g l s e b1 b2 n) f)) ∧ Below w.heap.size w w' := by
  have HQ : Hid (∀ W, MetaAt W w.heap.size t g l s e b1 b2 → Calls Try.prog 36 #[.pointer (some ⟨w.heap.size, 0, none⟩), .int .i64 n] W fun r w' => r = .returned (.int .i64 (askC t g l s e n)) ∧ Below W.heap.size W w') := fun W hp => l7Ask_any W w.heap.size t g l s e b1 b2 n hp
  have HN : Hid (Below w.heap.size w (w.alloc (.cells #[.int .i64 t, .int .i64 g, .int .i64 l, .int .i64 s, .int .i64 e, .bool b1, .bool b2] 25)) ∧ MetaAt (w.alloc (.cells #[.int .i64 t, .int .i64 g, .int .i64 l, .int .i64 s, .int .i64 e, .bool b1, .bool b2] 25)) w.heap.size t g l s e b1 b2) := ⟨(Below.refl _ _).alloc (Nat.le_refl _) _, MetaAt.new w t g l s e b1 b2 _⟩
  cases ha : askB t g l s e n
  · have e0 : mayV (phaseA t g l s e b1 b2 n) f = false := by rw [phaseA_bad ha]; simp [mayV]
    rw [e0]
    rw [askC_bad ha] at HQ
    clear ha
    go_enter Try.func32, Try.ntmps32
    go_wp2_with fail
    refine (HQ.out _ HN.out.2).mono ?_
    rintro r w1 ⟨rfl, hb1⟩
    have HB : Hid (Below w.heap.size w w1) := HN.out.1.trans (hb1.mono (by simp))
    clear hb1
    go_wp2_with fail
    go_ret
    exact ⟨rfl, HB.out⟩
  have HM : Hid (∀ W, MetaAt W w.heap.size t g l s e b1 b2 → Calls Try.prog 51 #[.pointer (some ⟨w.heap.size, 0, none⟩), .int .i64 n, .bool f] W fun r w' => r = .returned (.bool (mayV (phaseM t g l s e b1 b2 n) f)) ∧ Below W.heap.size W w') := fun W hp => l7May_any W w.heap.size t g l s e b1 b2 n f hp ha
  rw [phaseA_ok ha]
  rw [askC_ok ha] at HQ
  clear ha
  generalize mayV (phaseM t g l s e b1 b2 n) f = z at *
  go_enter Try.func32, Try.ntmps32
  go_wp2_with fail
  refine (HQ.out _ HN.out.2).mono ?_
  rintro r w1 ⟨rfl, hb1⟩
  have K1 : Hid (Below w.heap.size w w1 ∧ MetaAt w1 w.heap.size t g l s e b1 b2) := ⟨HN.out.1.trans (hb1.mono (by simp)), HN.out.2.keep (by simpa using hb1)⟩
  clear hb1 HN
  go_wp2_with fail
  refine (HM.out _ K1.out.2).mono ?_
  rintro r w2 ⟨rfl, hb2⟩
  have HB : Hid (Below w.heap.size w w2) := K1.out.1.trans (hb2.mono K1.out.1.size)
  clear hb2
  go_wp2_with fail
  go_ret
  exact ⟨rfl, HB.out⟩
end Go.Proofs.Ytnbbbmhfmjkhbaa
