/-
  What is kept with an answer: ages and phases, on both sides.
-/
import Derived.Test.YtnbbbmhfmjkhbaaMetaKit
namespace Go.Proofs.Ytnbbbmhfmjkhbaa
open Go.ChangeShapes Go.WideShapes Go.ChangeAt Go.RowKit Go.Sort
theorem meta_ir (w w1 : World) (t g l s e : Int) (b1 b2 : Bool) (hb : Below (w.heap.size + 2) ((w.alloc (.cells #[.int .i64 t, .int .i64 g, .int .i64 l, .int .i64 s, .int .i64 e, .bool b1, .bool b2] 25)).alloc (.cells #[.int .i64 0, .int .i64 0] 29)) w1) : Below w.heap.size w w1 ∧ MetaAt w1 w.heap.size t g l s e b1 b2 ∧ IR w1 (w.heap.size + 1) (.int .i64 0) (.int .i64 0) := by
  obtain ⟨u, hu⟩ : ∃ X, X = w.alloc (.cells #[.int .i64 t, .int .i64 g, .int .i64 l, .int .i64 s, .int .i64 e, .bool b1, .bool b2] 25) := ⟨_, rfl⟩
  have a1 : Below w.heap.size w u := by rw [hu]; exact (Below.refl _ _).alloc (Nat.le_refl _) _
  have p1 : MetaAt u w.heap.size t g l s e b1 b2 := by rw [hu]; exact MetaAt.new w t g l s e b1 b2 _
  have ez : u.heap.size = w.heap.size + 1 := by rw [hu]; simp
  rw [← hu] at hb
  have i1 := IR.new u (.int .i64 0) (.int .i64 0) 29
  have a2 : Below u.heap.size u (u.alloc (.cells #[.int .i64 0, .int .i64 0] 29)) := (Below.refl _ _).alloc (Nat.le_refl _) _
  have hb' : Below (u.alloc (.cells #[.int .i64 0, .int .i64 0] 29)).heap.size (u.alloc (.cells #[.int .i64 0, .int .i64 0] 29)) w1 := by
    have : (u.alloc (.cells #[.int .i64 0, .int .i64 0] 29)).heap.size = w.heap.size + 2 := by simp [ez]
    rw [this]; exact hb
  refine ⟨a1.trans ((a2.mono a1.size).trans (hb.mono (by omega))), (p1.keep a2).keep hb', ?_⟩
  rw [← ez]
  exact i1.keep hb'
set_option maxHeartbeats 2000000 in
theorem l7Ask_any (w : World) (B : Nat) (t g l s e : Int) (b1 b2 : Bool) (n : Int) (hp : MetaAt w B t g l s e b1 b2) :
    Calls Try.prog 36 #[.pointer (some ⟨B, 0, none⟩), .int .i64 n] w fun r w' => r = .returned (.int .i64 (askC t g l s e n)) ∧ Below w.heap.size w w' := by
  have HS : Hid (∀ w, Calls Try.prog 18 #[.agg #[.int .i64 t, .int .i64 g, .int .i64 l, .int .i64 s, .int .i64 e, .bool b1, .bool b2]] w fun r w' => r = .returned (.int .i64 (metaC t g l s e)) ∧ Below w.heap.size w w') := specMeta_any t g l s e b1 b2
  have HT : Hid (∀ x w, Calls Try.prog 39 #[.int .i64 x] w fun r w' => r = .returned (.bool (timeB x)) ∧ w' = w) := l1Time_all
  have HP : Hid (MetaAt w B t g l s e b1 b2) := hp
  obtain ⟨c0, c1, c2, c3, c4, c5, c6, _, _⟩ := hp
  cases hm : metaB t g l s e
  · rw [askC_bad (by simp [askB, hm])]
    rw [metaC_bad hm] at HS
    go_enter Try.func36, Try.ntmps36
    go_wp2_with fail
    refine (HS.out _).mono ?_
    rintro r w1 ⟨rfl, hb1⟩
    have HB : Hid (Below w.heap.size w w1) := hb1
    clear hb1 c0 c1 c2 c3 c4 c5 c6
    go_wp2_with fail
    go_ret
    exact ⟨rfl, HB.out⟩
  rw [metaC_ok hm] at HS
  cases hn : timeB n
  · rw [askC_bad (by simp [askB, hn])]
    go_enter Try.func36, Try.ntmps36
    go_wp2_with fail
    refine (HS.out _).mono ?_
    rintro r w1 ⟨rfl, hb1⟩
    have HB : Hid (Below w.heap.size w w1) := hb1
    clear hb1 c0 c1 c2 c3 c4 c5 c6
    go_wp2_with fail
    refine (HT.out n _).mono ?_
    rintro r w2 ⟨rfl, rfl⟩
    rw [hn]
    go_wp2_with fail
    go_ret
    exact ⟨rfl, HB.out⟩
  by_cases ht : n < t
  · rw [askC_bad (by simp [askB]; omega)]
    have d : decide (n < t) = true := by simp [ht]
    go_enter Try.func36, Try.ntmps36
    go_wp2_with fail
    refine (HS.out _).mono ?_
    rintro r w1 ⟨rfl, hb1⟩
    have HB : Hid (Below w.heap.size w w1) := hb1
    have K := HP.out.keep hb1
    clear hb1 c0 c1 c2 c3 c4 c5 c6
    have c0 := K.c0
    clear K
    go_wp2_with fail
    refine (HT.out n _).mono ?_
    rintro r w2 ⟨rfl, rfl⟩
    rw [hn]
    go_wp2_with fail
    go_ret
    exact ⟨rfl, HB.out⟩
  rw [askC_ok (by simp [askB, hm, hn]; omega)]
  have d : decide (n < t) = false := by simp [ht]
  go_enter Try.func36, Try.ntmps36
  go_wp2_with fail
  refine (HS.out _).mono ?_
  rintro r w1 ⟨rfl, hb1⟩
  have HB : Hid (Below w.heap.size w w1) := hb1
  have K := HP.out.keep hb1
  clear hb1 c0 c1 c2 c3 c4 c5 c6
  have c0 := K.c0
  clear K
  go_wp2_with fail
  refine (HT.out n _).mono ?_
  rintro r w2 ⟨rfl, rfl⟩
  rw [hn]
  go_wp2_with fail
  go_ret
  exact ⟨rfl, HB.out⟩
set_option maxHeartbeats 2000000 in
theorem l7Age_any (w : World) (B : Nat) (t g l s e : Int) (b1 b2 : Bool) (n : Int) (hp : MetaAt w B t g l s e b1 b2) (h : askB t g l s e n = true) :
    Calls Try.prog 38 #[.pointer (some ⟨B, 0, none⟩), .int .i64 n] w fun r w' => r = .returned (.int .i64 (ageM t g n)) ∧ Below w.heap.size w w' := by
  obtain ⟨hm, ⟨n0, n1⟩, tn⟩ := askB_of h
  obtain ⟨⟨t0, t1⟩, ⟨g0, g1⟩, _⟩ := metaB_of hm
  clear h hm
  have HA : Hid (∀ w, Calls Try.prog 58 #[.int .i64 g, .int .i64 (n - t)] w fun r w' => r = .returned (.int .i64 (ageM t g n)) ∧ w' = w) := l1Add_all g (n - t) ⟨g0, g1⟩ (by omega)
  have q0 := cell_regrown hp.c0
  have q1 := cell_regrown hp.c1
  clear hp
  generalize ageM t g n = a at *
  have cS : ∀ d' os, Calls Try.prog 58 #[.int .i64 g, .int .i64 (n - t)] (grow (redrawn w d') os) fun e w'' => e = .returned (.int .i64 a) ∧ ∃ p : Regrown, w'' = grow (redrawn w p.d) p.os := fun d' os => Calls.regrown_of ((HA.out _).mono fun _ _ ⟨h1, h2⟩ => ⟨h1, by rw [h2]; exact Below.refl _ _⟩)
  go_enter Try.func38, Try.ntmps38
  go_wp2_with fail
  refine wp_region_quiet_below (by kernel_rfl) (by kernel_rfl) ?_
  repeat (go_big_quiet_step (first | (go_at_call 58; exact cS _ _)))
  refine wpQuiet_nil ?_
  intro W2 hW2
  have hbW2 : Hid (Below w.heap.size w W2) := by
    obtain ⟨⟨d, os⟩, rfl⟩ := hW2
    exact below_regrown w d os
  clear hW2 cS q0 q1
  go_wp2_with fail
  go_ret
  exact ⟨rfl, hbW2.out⟩
set_option maxHeartbeats 1000000 in
theorem l7Life_any (w : World) (B : Nat) (t g l s e : Int) (b1 b2 : Bool) (hp : MetaAt w B t g l s e b1 b2) :
    Calls Try.prog 57 #[.pointer (some ⟨B, 0, none⟩)] w fun r w' => r = .returned (.int .i64 (lifeM l b1 b2)) ∧ w' = w := by
  obtain ⟨_, _, c2, _, _, c5, c6, _, _⟩ := hp
  cases b1
  · cases b2
    · have e : lifeM l false false = l := rfl
      rw [e]
      go_enter Try.func57, Try.ntmps57
      go_wp2_with fail
      go_ret
      exact ⟨rfl, rfl⟩
    · have e : lifeM l false true = 0 := rfl
      rw [e]
      go_enter Try.func57, Try.ntmps57
      go_wp2_with fail
      go_ret
      exact ⟨rfl, rfl⟩
  · have e : lifeM l true b2 = 0 := rfl
    rw [e]
    go_enter Try.func57, Try.ntmps57
    go_wp2_with fail
    go_ret
    exact ⟨rfl, rfl⟩
set_option maxHeartbeats 1000000 in
theorem lifeOf_any (t g l s e : Int) (b1 b2 : Bool) (w : World) :
    Calls Try.prog 55 #[.agg #[.int .i64 t, .int .i64 g, .int .i64 l, .int .i64 s, .int .i64 e, .bool b1, .bool b2]] w fun r w' => r = .returned (.int .i64 (lifeM l b1 b2)) ∧ Below w.heap.size w w' := by
  have HB : Hid (Below w.heap.size w (w.alloc (.cells #[.int .i64 t, .int .i64 g, .int .i64 l, .int .i64 s, .int .i64 e, .bool b1, .bool b2] 25))) := (Below.refl _ _).alloc (Nat.le_refl _) _
  cases b1
  · cases b2
    · have e : lifeM l false false = l := rfl
      rw [e]
      go_enter Try.func55, Try.ntmps55
      go_wp2_with fail
      go_ret
      exact ⟨rfl, HB.out⟩
    · have e : lifeM l false true = 0 := rfl
      rw [e]
      go_enter Try.func55, Try.ntmps55
      go_wp2_with fail
      go_ret
      exact ⟨rfl, HB.out⟩
  · have e : lifeM l true b2 = 0 := rfl
    rw [e]
    go_enter Try.func55, Try.ntmps55
    go_wp2_with fail
    go_ret
    exact ⟨rfl, HB.out⟩
def firstP (b1 b2 : Bool) : Int := if b2 = true then 3 else if b1 = true then 2 else 1
set_option maxHeartbeats 1000000 in
theorem firstPhase_any (t g l s e : Int) (b1 b2 : Bool) (w : World) :
    Calls Try.prog 56 #[.agg #[.int .i64 t, .int .i64 g, .int .i64 l, .int .i64 s, .int .i64 e, .bool b1, .bool b2]] w fun r w' => r = .returned (.int .i64 (firstP b1 b2)) ∧ Below w.heap.size w w' := by
  have HB : Hid (Below w.heap.size w (w.alloc (.cells #[.int .i64 t, .int .i64 g, .int .i64 l, .int .i64 s, .int .i64 e, .bool b1, .bool b2] 25))) := (Below.refl _ _).alloc (Nat.le_refl _) _
  cases b2
  · cases b1
    · have e : firstP false false = 1 := rfl
      rw [e]
      go_enter Try.func56, Try.ntmps56
      go_wp2_with fail
      go_ret
      exact ⟨rfl, HB.out⟩
    · have e : firstP true false = 2 := rfl
      rw [e]
      go_enter Try.func56, Try.ntmps56
      go_wp2_with fail
      go_ret
      exact ⟨rfl, HB.out⟩
  · have e : firstP b1 true = 3 := rfl
    rw [e]
    go_enter Try.func56, Try.ntmps56
    go_wp2_with fail
    go_ret
    exact ⟨rfl, HB.out⟩
set_option maxHeartbeats 4000000 in
theorem l7Phase_any (w : World) (B : Nat) (t g l s e : Int) (b1 b2 : Bool) (n : Int) (hp : MetaAt w B t g l s e b1 b2) (h : askB t g l s e n = true) :
    Calls Try.prog 37 #[.pointer (some ⟨B, 0, none⟩), .int .i64 n] w fun r w' => r = .returned (.int .i64 (phaseM t g l s e b1 b2 n)) ∧ Below w.heap.size w w' := by
  have HG : Hid (∀ w, MetaAt w B t g l s e b1 b2 → Calls Try.prog 38 #[.pointer (some ⟨B, 0, none⟩), .int .i64 n] w fun r w' => r = .returned (.int .i64 (ageM t g n)) ∧ Below w.heap.size w w') := fun w hp => l7Age_any w B t g l s e b1 b2 n hp h
  have HL : Hid (∀ w, MetaAt w B t g l s e b1 b2 → Calls Try.prog 57 #[.pointer (some ⟨B, 0, none⟩)] w fun r w' => r = .returned (.int .i64 (lifeM l b1 b2)) ∧ w' = w) := fun w hp => l7Life_any w B t g l s e b1 b2 hp
  have HP : Hid (MetaAt w B t g l s e b1 b2) := hp
  obtain ⟨hm, _, tn⟩ := askB_of h
  obtain ⟨_, hg, hl, hs, he⟩ := metaB_of hm
  have hli := lifeM_time (b1 := b1) (b2 := b2) hl
  have HAs : Hid (∀ w, Calls Try.prog 58 #[.int .i64 (lifeM l b1 b2), .int .i64 s] w fun r w' => r = .returned (.int .i64 (addT (lifeM l b1 b2) s)) ∧ w' = w) := l1Add_all _ _ hli hs
  have HAe : Hid (∀ w, Calls Try.prog 58 #[.int .i64 (lifeM l b1 b2), .int .i64 e] w fun r w' => r = .returned (.int .i64 (addT (lifeM l b1 b2) e)) ∧ w' = w) := l1Add_all _ _ hli he
  have H1 : Hid (ageM t g n < lifeM l b1 b2 → phaseM t g l s e b1 b2 n = 1) := fun h => phase1 h
  have H2 : Hid (¬ ageM t g n < lifeM l b1 b2 → (!b2 && decide (ageM t g n < addT (lifeM l b1 b2) s)) = true → phaseM t g l s e b1 b2 n = 2) := fun h h2 => phase2 h h2
  have H3 : Hid (¬ ageM t g n < lifeM l b1 b2 → ¬ (!b2 && decide (ageM t g n < addT (lifeM l b1 b2) s)) = true → ageM t g n < addT (lifeM l b1 b2) e → phaseM t g l s e b1 b2 n = 3) := fun h h2 h3 => phase3 h h2 h3
  have H0 : Hid (¬ ageM t g n < lifeM l b1 b2 → ¬ (!b2 && decide (ageM t g n < addT (lifeM l b1 b2) s)) = true → ¬ ageM t g n < addT (lifeM l b1 b2) e → phaseM t g l s e b1 b2 n = 0) := fun h h2 h3 => phase0 h h2 h3
  clear hp h hm tn hg hl hs he hli
  generalize phaseM t g l s e b1 b2 n = ph at *
  generalize addT (lifeM l b1 b2) s = xs at *
  generalize addT (lifeM l b1 b2) e = xe at *
  generalize lifeM l b1 b2 = li at *
  generalize ageM t g n = a at *
  by_cases k1 : a < li
  · have HE : Hid (1 = ph) := (H1.out k1).symm
    clear H1 H2 H3 H0
    go_enter Try.func37, Try.ntmps37
    go_wp2_with fail
    refine (HG.out _ HP.out).mono ?_
    rintro r w1 ⟨rfl, hb1⟩
    have HB : Hid (Below w.heap.size w w1) := hb1
    have K1 : Hid (MetaAt w1 B t g l s e b1 b2) := HP.out.keep hb1
    clear hb1
    go_wp2_with fail
    refine (HL.out _ K1.out).mono ?_
    rintro r w2 ⟨rfl, rfl⟩
    obtain ⟨c0, c1, c2, c3, c4, c5, c6, _, _⟩ := K1.out
    clear c0 c1 c2
    go_wp2_with fail
    go_ret
    exact ⟨ret_int HE.out, HB.out⟩
  cases b2
  · by_cases k2 : a < xs
    · have HE : Hid (2 = ph) := (H2.out k1 (by simp [k2])).symm
      have d2 : decide (a < xs) = true := by simp [k2]
      clear H1 H2 H3 H0
      go_enter Try.func37, Try.ntmps37
      go_wp2_with fail
      refine (HG.out _ HP.out).mono ?_
      rintro r w1 ⟨rfl, hb1⟩
      have HB : Hid (Below w.heap.size w w1) := hb1
      have K1 : Hid (MetaAt w1 B t g l s e b1 false) := HP.out.keep hb1
      clear hb1
      go_wp2_with fail
      refine (HL.out _ K1.out).mono ?_
      rintro r w2 ⟨rfl, rfl⟩
      obtain ⟨c0, c1, c2, c3, c4, c5, c6, _, _⟩ := K1.out
      clear c0 c1 c2
      go_wp2_with fail
      refine (HAs.out _).mono ?_
      rintro r w3 ⟨rfl, rfl⟩
      go_wp2_with fail
      go_ret
      exact ⟨ret_int HE.out, HB.out⟩
    have d2 : decide (a < xs) = false := by simp [k2]
    by_cases k3 : a < xe
    · have HE : Hid (3 = ph) := (H3.out k1 (by simp [k2]) k3).symm
      clear H1 H2 H3 H0
      go_enter Try.func37, Try.ntmps37
      go_wp2_with fail
      refine (HG.out _ HP.out).mono ?_
      rintro r w1 ⟨rfl, hb1⟩
      have HB : Hid (Below w.heap.size w w1) := hb1
      have K1 : Hid (MetaAt w1 B t g l s e b1 false) := HP.out.keep hb1
      clear hb1
      go_wp2_with fail
      refine (HL.out _ K1.out).mono ?_
      rintro r w2 ⟨rfl, rfl⟩
      obtain ⟨c0, c1, c2, c3, c4, c5, c6, _, _⟩ := K1.out
      clear c0 c1 c2
      go_wp2_with fail
      refine (HAs.out _).mono ?_
      rintro r w3 ⟨rfl, rfl⟩
      go_wp2_with fail
      refine (HAe.out _).mono ?_
      rintro r w3 ⟨rfl, rfl⟩
      go_wp2_with fail
      go_ret
      exact ⟨ret_int HE.out, HB.out⟩
    have HE : Hid (0 = ph) := (H0.out k1 (by simp [k2]) k3).symm
    clear H1 H2 H3 H0
    go_enter Try.func37, Try.ntmps37
    go_wp2_with fail
    refine (HG.out _ HP.out).mono ?_
    rintro r w1 ⟨rfl, hb1⟩
    have HB : Hid (Below w.heap.size w w1) := hb1
    have K1 : Hid (MetaAt w1 B t g l s e b1 false) := HP.out.keep hb1
    clear hb1
    go_wp2_with fail
    refine (HL.out _ K1.out).mono ?_
    rintro r w2 ⟨rfl, rfl⟩
    obtain ⟨c0, c1, c2, c3, c4, c5, c6, _, _⟩ := K1.out
    clear c0 c1 c2
    go_wp2_with fail
    refine (HAs.out _).mono ?_
    rintro r w3 ⟨rfl, rfl⟩
    go_wp2_with fail
    refine (HAe.out _).mono ?_
    rintro r w3 ⟨rfl, rfl⟩
    go_wp2_with fail
    go_ret
    exact ⟨ret_int HE.out, HB.out⟩
  · by_cases k3 : a < xe
    · have HE : Hid (3 = ph) := (H3.out k1 (by simp) k3).symm
      clear H1 H2 H3 H0
      go_enter Try.func37, Try.ntmps37
      go_wp2_with fail
      refine (HG.out _ HP.out).mono ?_
      rintro r w1 ⟨rfl, hb1⟩
      have HB : Hid (Below w.heap.size w w1) := hb1
      have K1 : Hid (MetaAt w1 B t g l s e b1 true) := HP.out.keep hb1
      clear hb1
      go_wp2_with fail
      refine (HL.out _ K1.out).mono ?_
      rintro r w2 ⟨rfl, rfl⟩
      obtain ⟨c0, c1, c2, c3, c4, c5, c6, _, _⟩ := K1.out
      clear c0 c1 c2
      go_wp2_with fail
      refine (HAe.out _).mono ?_
      rintro r w3 ⟨rfl, rfl⟩
      go_wp2_with fail
      go_ret
      exact ⟨ret_int HE.out, HB.out⟩
    have HE : Hid (0 = ph) := (H0.out k1 (by simp) k3).symm
    clear H1 H2 H3 H0
    go_enter Try.func37, Try.ntmps37
    go_wp2_with fail
    refine (HG.out _ HP.out).mono ?_
    rintro r w1 ⟨rfl, hb1⟩
    have HB : Hid (Below w.heap.size w w1) := hb1
    have K1 : Hid (MetaAt w1 B t g l s e b1 true) := HP.out.keep hb1
    clear hb1
    go_wp2_with fail
    refine (HL.out _ K1.out).mono ?_
    rintro r w2 ⟨rfl, rfl⟩
    obtain ⟨c0, c1, c2, c3, c4, c5, c6, _, _⟩ := K1.out
    clear c0 c1 c2
    go_wp2_with fail
    refine (HAe.out _).mono ?_
    rintro r w3 ⟨rfl, rfl⟩
    go_wp2_with fail
    go_ret
    exact ⟨ret_int HE.out, HB.out⟩
set_option maxHeartbeats 4000000 in
theorem phaseAt_any (t g l s e : Int) (b1 b2 : Bool) (a : Int) (ha : 0 ≤ a) (h : metaB t g l s e = true) (w : World) :
    Calls Try.prog 34 #[.agg #[.int .i64 t, .int .i64 g, .int .i64 l, .int .i64 s, .int .i64 e, .bool b1, .bool b2], .int .i64 a] w fun r w' => r = .returned (.int .i64 (phaseV a (lifeM l b1 b2) s e b2)) ∧ Below w.heap.size w w' := by
  have HL : Hid (∀ w, Calls Try.prog 55 #[.agg #[.int .i64 t, .int .i64 g, .int .i64 l, .int .i64 s, .int .i64 e, .bool b1, .bool b2]] w fun r w' => r = .returned (.int .i64 (lifeM l b1 b2)) ∧ Below w.heap.size w w') := lifeOf_any t g l s e b1 b2
  have HF : Hid (∀ w, Calls Try.prog 56 #[.agg #[.int .i64 t, .int .i64 g, .int .i64 l, .int .i64 s, .int .i64 e, .bool b1, .bool b2]] w fun r w' => r = .returned (.int .i64 (firstP b1 b2)) ∧ Below w.heap.size w w') := firstPhase_any t g l s e b1 b2
  have HN : Hid (Below w.heap.size w (w.alloc (.cells #[.int .i64 t, .int .i64 g, .int .i64 l, .int .i64 s, .int .i64 e, .bool b1, .bool b2] 25)) ∧ MetaAt (w.alloc (.cells #[.int .i64 t, .int .i64 g, .int .i64 l, .int .i64 s, .int .i64 e, .bool b1, .bool b2] 25)) w.heap.size t g l s e b1 b2) := ⟨(Below.refl _ _).alloc (Nat.le_refl _) _, MetaAt.new w t g l s e b1 b2 _⟩
  obtain ⟨_, hg, hl, hs, he⟩ := metaB_of h
  have hli := lifeM_time (b1 := b1) (b2 := b2) hl
  have HAs : Hid (∀ w, Calls Try.prog 40 #[.int .i64 (lifeM l b1 b2), .int .i64 s] w fun r w' => r = .returned (.int .i64 (addT (lifeM l b1 b2) s)) ∧ w' = w) := plus_all _ _ hli hs
  have HAe : Hid (∀ w, Calls Try.prog 40 #[.int .i64 (lifeM l b1 b2), .int .i64 e] w fun r w' => r = .returned (.int .i64 (addT (lifeM l b1 b2) e)) ∧ w' = w) := plus_all _ _ hli he
  have HNF : Hid ((b1 || b2) = true → ¬ a < lifeM l b1 b2) := fun hb => by rw [lifeM, if_pos hb]; omega
  have H1 : Hid (a < lifeM l b1 b2 → phaseV a (lifeM l b1 b2) s e b2 = 1) := fun h => phase1 h
  have H2 : Hid (¬ a < lifeM l b1 b2 → (!b2 && decide (a < addT (lifeM l b1 b2) s)) = true → phaseV a (lifeM l b1 b2) s e b2 = 2) := fun h h2 => phase2 h h2
  have H3 : Hid (¬ a < lifeM l b1 b2 → ¬ (!b2 && decide (a < addT (lifeM l b1 b2) s)) = true → a < addT (lifeM l b1 b2) e → phaseV a (lifeM l b1 b2) s e b2 = 3) := fun h h2 h3 => phase3 h h2 h3
  have H0 : Hid (¬ a < lifeM l b1 b2 → ¬ (!b2 && decide (a < addT (lifeM l b1 b2) s)) = true → ¬ a < addT (lifeM l b1 b2) e → phaseV a (lifeM l b1 b2) s e b2 = 0) := fun h h2 h3 => phase0 h h2 h3
  clear h hg hl hs he hli ha
  generalize phaseV a (lifeM l b1 b2) s e b2 = ph at *
  generalize addT (lifeM l b1 b2) s = xs at *
  generalize addT (lifeM l b1 b2) e = xe at *
  generalize lifeM l b1 b2 = li at *
  cases b2
  · cases b1
    · by_cases k1 : a < li
      · have HE : Hid (1 = ph) := (H1.out k1).symm
        clear H1 H2 H3 H0 HNF
        go_enter Try.func34, Try.ntmps34
        go_wp2_with fail
        refine (HL.out _).mono ?_
        rintro r w1 ⟨rfl, hb1⟩
        have F1 : Hid (Below w.heap.size w w1 ∧ MetaAt w1 w.heap.size t g l s e false false) := ⟨HN.out.1.trans (hb1.mono (by simp)), HN.out.2.keep (by simpa using hb1)⟩
        clear hb1
        obtain ⟨c0, c1, c2, c3, c4, c5, c6, _, _⟩ := F1.out.2
        go_wp2_with fail
        refine (HF.out _).mono ?_
        rintro r w2 ⟨rfl, hb2⟩
        have F2 : Hid (Below w.heap.size w w2 ∧ MetaAt w2 w.heap.size t g l s e false false) := ⟨F1.out.1.trans (hb2.mono F1.out.1.size), F1.out.2.keep hb2⟩
        clear hb2 c0 c1 c2 c3 c4 c5 c6 F1
        obtain ⟨c0, c1, c2, c3, c4, c5, c6, _, _⟩ := F2.out.2
        go_wp2_with fail
        go_ret
        exact ⟨ret_int HE.out, F2.out.1⟩
      by_cases k2 : a < xs
      · have HE : Hid (2 = ph) := (H2.out k1 (by simp [k2])).symm
        clear H1 H2 H3 H0 HNF
        go_enter Try.func34, Try.ntmps34
        go_wp2_with fail
        refine (HL.out _).mono ?_
        rintro r w1 ⟨rfl, hb1⟩
        have F1 : Hid (Below w.heap.size w w1 ∧ MetaAt w1 w.heap.size t g l s e false false) := ⟨HN.out.1.trans (hb1.mono (by simp)), HN.out.2.keep (by simpa using hb1)⟩
        clear hb1
        obtain ⟨c0, c1, c2, c3, c4, c5, c6, _, _⟩ := F1.out.2
        go_wp2_with fail
        refine (HF.out _).mono ?_
        rintro r w2 ⟨rfl, hb2⟩
        have F2 : Hid (Below w.heap.size w w2 ∧ MetaAt w2 w.heap.size t g l s e false false) := ⟨F1.out.1.trans (hb2.mono F1.out.1.size), F1.out.2.keep hb2⟩
        clear hb2 c0 c1 c2 c3 c4 c5 c6 F1
        obtain ⟨c0, c1, c2, c3, c4, c5, c6, _, _⟩ := F2.out.2
        go_wp2_with fail
        refine (HAs.out _).mono ?_
        rintro r w3 ⟨rfl, rfl⟩
        go_wp2_with fail
        go_ret
        exact ⟨ret_int HE.out, F2.out.1⟩
      by_cases k3 : a < xe
      · have HE : Hid (3 = ph) := (H3.out k1 (by simp [k2]) k3).symm
        clear H1 H2 H3 H0 HNF
        go_enter Try.func34, Try.ntmps34
        go_wp2_with fail
        refine (HL.out _).mono ?_
        rintro r w1 ⟨rfl, hb1⟩
        have F1 : Hid (Below w.heap.size w w1 ∧ MetaAt w1 w.heap.size t g l s e false false) := ⟨HN.out.1.trans (hb1.mono (by simp)), HN.out.2.keep (by simpa using hb1)⟩
        clear hb1
        obtain ⟨c0, c1, c2, c3, c4, c5, c6, _, _⟩ := F1.out.2
        go_wp2_with fail
        refine (HF.out _).mono ?_
        rintro r w2 ⟨rfl, hb2⟩
        have F2 : Hid (Below w.heap.size w w2 ∧ MetaAt w2 w.heap.size t g l s e false false) := ⟨F1.out.1.trans (hb2.mono F1.out.1.size), F1.out.2.keep hb2⟩
        clear hb2 c0 c1 c2 c3 c4 c5 c6 F1
        obtain ⟨c0, c1, c2, c3, c4, c5, c6, _, _⟩ := F2.out.2
        go_wp2_with fail
        refine (HAs.out _).mono ?_
        rintro r w3 ⟨rfl, rfl⟩
        go_wp2_with fail
        refine (HAe.out _).mono ?_
        rintro r w3 ⟨rfl, rfl⟩
        go_wp2_with fail
        go_ret
        exact ⟨ret_int HE.out, F2.out.1⟩
      have HE : Hid (0 = ph) := (H0.out k1 (by simp [k2]) k3).symm
      clear H1 H2 H3 H0 HNF
      go_enter Try.func34, Try.ntmps34
      go_wp2_with fail
      refine (HL.out _).mono ?_
      rintro r w1 ⟨rfl, hb1⟩
      have F1 : Hid (Below w.heap.size w w1 ∧ MetaAt w1 w.heap.size t g l s e false false) := ⟨HN.out.1.trans (hb1.mono (by simp)), HN.out.2.keep (by simpa using hb1)⟩
      clear hb1
      obtain ⟨c0, c1, c2, c3, c4, c5, c6, _, _⟩ := F1.out.2
      go_wp2_with fail
      refine (HF.out _).mono ?_
      rintro r w2 ⟨rfl, hb2⟩
      have F2 : Hid (Below w.heap.size w w2 ∧ MetaAt w2 w.heap.size t g l s e false false) := ⟨F1.out.1.trans (hb2.mono F1.out.1.size), F1.out.2.keep hb2⟩
      clear hb2 c0 c1 c2 c3 c4 c5 c6 F1
      obtain ⟨c0, c1, c2, c3, c4, c5, c6, _, _⟩ := F2.out.2
      go_wp2_with fail
      refine (HAs.out _).mono ?_
      rintro r w3 ⟨rfl, rfl⟩
      go_wp2_with fail
      refine (HAe.out _).mono ?_
      rintro r w3 ⟨rfl, rfl⟩
      go_wp2_with fail
      go_ret
      exact ⟨ret_int HE.out, F2.out.1⟩
    · have HK : Hid (¬ a < li) := HNF.out rfl
      by_cases k2 : a < xs
      · have HE : Hid (2 = ph) := (H2.out HK.out (by simp [k2])).symm
        clear H1 H2 H3 H0 HNF
        go_enter Try.func34, Try.ntmps34
        go_wp2_with fail
        refine (HL.out _).mono ?_
        rintro r w1 ⟨rfl, hb1⟩
        have F1 : Hid (Below w.heap.size w w1 ∧ MetaAt w1 w.heap.size t g l s e true false) := ⟨HN.out.1.trans (hb1.mono (by simp)), HN.out.2.keep (by simpa using hb1)⟩
        clear hb1
        obtain ⟨c0, c1, c2, c3, c4, c5, c6, _, _⟩ := F1.out.2
        go_wp2_with fail
        refine (HF.out _).mono ?_
        rintro r w2 ⟨rfl, hb2⟩
        have F2 : Hid (Below w.heap.size w w2 ∧ MetaAt w2 w.heap.size t g l s e true false) := ⟨F1.out.1.trans (hb2.mono F1.out.1.size), F1.out.2.keep hb2⟩
        clear hb2 c0 c1 c2 c3 c4 c5 c6 F1
        obtain ⟨c0, c1, c2, c3, c4, c5, c6, _, _⟩ := F2.out.2
        go_wp2_with fail
        refine (HAs.out _).mono ?_
        rintro r w3 ⟨rfl, rfl⟩
        go_wp2_with fail
        go_ret
        exact ⟨ret_int HE.out, F2.out.1⟩
      by_cases k3 : a < xe
      · have HE : Hid (3 = ph) := (H3.out HK.out (by simp [k2]) k3).symm
        clear H1 H2 H3 H0 HNF
        go_enter Try.func34, Try.ntmps34
        go_wp2_with fail
        refine (HL.out _).mono ?_
        rintro r w1 ⟨rfl, hb1⟩
        have F1 : Hid (Below w.heap.size w w1 ∧ MetaAt w1 w.heap.size t g l s e true false) := ⟨HN.out.1.trans (hb1.mono (by simp)), HN.out.2.keep (by simpa using hb1)⟩
        clear hb1
        obtain ⟨c0, c1, c2, c3, c4, c5, c6, _, _⟩ := F1.out.2
        go_wp2_with fail
        refine (HF.out _).mono ?_
        rintro r w2 ⟨rfl, hb2⟩
        have F2 : Hid (Below w.heap.size w w2 ∧ MetaAt w2 w.heap.size t g l s e true false) := ⟨F1.out.1.trans (hb2.mono F1.out.1.size), F1.out.2.keep hb2⟩
        clear hb2 c0 c1 c2 c3 c4 c5 c6 F1
        obtain ⟨c0, c1, c2, c3, c4, c5, c6, _, _⟩ := F2.out.2
        go_wp2_with fail
        refine (HAs.out _).mono ?_
        rintro r w3 ⟨rfl, rfl⟩
        go_wp2_with fail
        refine (HAe.out _).mono ?_
        rintro r w3 ⟨rfl, rfl⟩
        go_wp2_with fail
        go_ret
        exact ⟨ret_int HE.out, F2.out.1⟩
      have HE : Hid (0 = ph) := (H0.out HK.out (by simp [k2]) k3).symm
      clear H1 H2 H3 H0 HNF
      go_enter Try.func34, Try.ntmps34
      go_wp2_with fail
      refine (HL.out _).mono ?_
      rintro r w1 ⟨rfl, hb1⟩
      have F1 : Hid (Below w.heap.size w w1 ∧ MetaAt w1 w.heap.size t g l s e true false) := ⟨HN.out.1.trans (hb1.mono (by simp)), HN.out.2.keep (by simpa using hb1)⟩
      clear hb1
      obtain ⟨c0, c1, c2, c3, c4, c5, c6, _, _⟩ := F1.out.2
      go_wp2_with fail
      refine (HF.out _).mono ?_
      rintro r w2 ⟨rfl, hb2⟩
      have F2 : Hid (Below w.heap.size w w2 ∧ MetaAt w2 w.heap.size t g l s e true false) := ⟨F1.out.1.trans (hb2.mono F1.out.1.size), F1.out.2.keep hb2⟩
      clear hb2 c0 c1 c2 c3 c4 c5 c6 F1
      obtain ⟨c0, c1, c2, c3, c4, c5, c6, _, _⟩ := F2.out.2
      go_wp2_with fail
      refine (HAs.out _).mono ?_
      rintro r w3 ⟨rfl, rfl⟩
      go_wp2_with fail
      refine (HAe.out _).mono ?_
      rintro r w3 ⟨rfl, rfl⟩
      go_wp2_with fail
      go_ret
      exact ⟨ret_int HE.out, F2.out.1⟩
  · have HK : Hid (¬ a < li) := HNF.out (by simp)
    by_cases k3 : a < xe
    · have HE : Hid (3 = ph) := (H3.out HK.out (by simp) k3).symm
      clear H1 H2 H3 H0 HNF
      go_enter Try.func34, Try.ntmps34
      go_wp2_with fail
      refine (HL.out _).mono ?_
      rintro r w1 ⟨rfl, hb1⟩
      have F1 : Hid (Below w.heap.size w w1 ∧ MetaAt w1 w.heap.size t g l s e b1 true) := ⟨HN.out.1.trans (hb1.mono (by simp)), HN.out.2.keep (by simpa using hb1)⟩
      clear hb1
      obtain ⟨c0, c1, c2, c3, c4, c5, c6, _, _⟩ := F1.out.2
      go_wp2_with fail
      refine (HF.out _).mono ?_
      rintro r w2 ⟨rfl, hb2⟩
      have F2 : Hid (Below w.heap.size w w2 ∧ MetaAt w2 w.heap.size t g l s e b1 true) := ⟨F1.out.1.trans (hb2.mono F1.out.1.size), F1.out.2.keep hb2⟩
      clear hb2 c0 c1 c2 c3 c4 c5 c6 F1
      obtain ⟨c0, c1, c2, c3, c4, c5, c6, _, _⟩ := F2.out.2
      go_wp2_with fail
      refine (HAe.out _).mono ?_
      rintro r w3 ⟨rfl, rfl⟩
      go_wp2_with fail
      go_ret
      exact ⟨ret_int HE.out, F2.out.1⟩
    have HE : Hid (0 = ph) := (H0.out HK.out (by simp) k3).symm
    clear H1 H2 H3 H0 HNF
    go_enter Try.func34, Try.ntmps34
    go_wp2_with fail
    refine (HL.out _).mono ?_
    rintro r w1 ⟨rfl, hb1⟩
    have F1 : Hid (Below w.heap.size w w1 ∧ MetaAt w1 w.heap.size t g l s e b1 true) := ⟨HN.out.1.trans (hb1.mono (by simp)), HN.out.2.keep (by simpa using hb1)⟩
    clear hb1
    obtain ⟨c0, c1, c2, c3, c4, c5, c6, _, _⟩ := F1.out.2
    go_wp2_with fail
    refine (HF.out _).mono ?_
    rintro r w2 ⟨rfl, hb2⟩
    have F2 : Hid (Below w.heap.size w w2 ∧ MetaAt w2 w.heap.size t g l s e b1 true) := ⟨F1.out.1.trans (hb2.mono F1.out.1.size), F1.out.2.keep hb2⟩
    clear hb2 c0 c1 c2 c3 c4 c5 c6 F1
    obtain ⟨c0, c1, c2, c3, c4, c5, c6, _, _⟩ := F2.out.2
    go_wp2_with fail
    refine (HAe.out _).mono ?_
    rintro r w3 ⟨rfl, rfl⟩
    go_wp2_with fail
    go_ret
    exact ⟨ret_int HE.out, F2.out.1⟩
end Go.Proofs.Ytnbbbmhfmjkhbaa
