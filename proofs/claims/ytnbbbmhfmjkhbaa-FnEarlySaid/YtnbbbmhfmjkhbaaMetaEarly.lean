/-
  EarlyDue, on both sides.
-/
import Derived.Test.YtnbbbmhfmjkhbaaMetaMay
namespace Go.Proofs.Ytnbbbmhfmjkhbaa
open Go.ChangeShapes Go.WideShapes Go.ChangeAt Go.RowKit Go.Sort
def inB (x lo hi : Int) : Bool := decide (lo ≤ x) && decide (x ≤ hi)
def earlyV (p d wi dr : Int) : Bool := decide (p = 1) && inB wi 0 1000000 && inB dr 0 999 && decide (1000 * d ≤ wi * dr)
theorem early_p {p d wi dr : Int} (h : p ≠ 1) : earlyV p d wi dr = false := by simp [earlyV, h]
theorem early_w {p d wi dr : Int} (h : inB wi 0 1000000 = false) : earlyV p d wi dr = false := by simp [earlyV, h]
theorem early_d {p d wi dr : Int} (h : inB dr 0 999 = false) : earlyV p d wi dr = false := by simp [earlyV, h]
theorem early_ok {d wi dr : Int} (h : inB wi 0 1000000 = true) (h2 : inB dr 0 999 = true) : earlyV 1 d wi dr = decide (1000 * d ≤ wi * dr) := by simp [earlyV, h, h2]
theorem inB_of {x lo hi : Int} (h : inB x lo hi = true) : lo ≤ x ∧ x ≤ hi := by simpa [inB] using h
theorem mul_in {wi dr : Int} (h : inB wi 0 1000000 = true) (h2 : inB dr 0 999 = true) : 0 ≤ wi * dr ∧ wi * dr ≤ 999000000 := by
  obtain ⟨a0, a1⟩ := inB_of h
  obtain ⟨c0, c1⟩ := inB_of h2
  refine ⟨Int.mul_nonneg a0 c0, ?_⟩
  have := Int.mul_le_mul a1 c1 c0 (by omega : (0:Int) ≤ 1000000)
  omega
/-- What is fresh is neither soft nor to be asked for each time. -/
theorem fresh_of {t g l s e n : Int} {b1 b2 : Bool} (h : phaseA t g l s e b1 b2 n = 1) : askB t g l s e n = true ∧ ageM t g n < l ∧ lifeM l b1 b2 = l ∧ 0 ≤ ageM t g n ∧ l ≤ 1000000000000000 := by
  cases ha : askB t g l s e n
  · rw [phaseA_bad ha] at h; exact absurd h (by decide)
  · rw [phaseA_ok ha] at h
    obtain ⟨hm, _, tn⟩ := askB_of ha
    obtain ⟨_, hg, hl, _⟩ := metaB_of hm
    have h0 := (ageM_time (t := t) (n := n) hg.1 tn).1
    have k : ageM t g n < lifeM l b1 b2 := by
      unfold phaseM phaseV at h
      split at h
      · assumption
      · split at h
        · exact absurd h (by decide)
        · split at h <;> exact absurd h (by decide)
    have k2 : lifeM l b1 b2 = l := by
      unfold lifeM at k ⊢
      split
      · rename_i hb; rw [if_pos hb] at k; omega
      · rfl
    rw [k2] at k
    exact ⟨rfl, k, k2, h0, hl.2⟩
theorem l1Mul_all (x : Int) (hx : 0 ≤ x ∧ x ≤ 1000000000000000) (w : World) : Calls Try.prog 62 #[.int .i64 x, .int .i64 1000] w fun r w' => r = .returned (.int .i64 (if 1000000000000 < x then 1000000000000000 else x * 1000)) ∧ w' = w := by
  obtain ⟨x0, x1⟩ := hx
  by_cases c : 1000000000000 < x
  · rw [if_pos c]
    have d : decide (1000000000000 < x) = true := by simp [c]
    go_enter Try.func62, Try.ntmps62
    go_wp2
    go_ret
    exact ⟨rfl, rfl⟩
  · rw [if_neg c]
    have d : decide (1000000000000 < x) = false := by simp [c]
    go_enter Try.func62, Try.ntmps62
    go_wp2
    go_ret
    exact ⟨rfl, rfl⟩
set_option maxHeartbeats 4000000 in
theorem l7Early_any (w : World) (B : Nat) (t g l s e : Int) (b1 b2 : Bool) (n wi dr : Int) (hw : inB wi 0 1000000 = true) (hd : inB dr 0 999 = true) (hp : MetaAt w B t g l s e b1 b2) (h : askB t g l s e n = true) :
    Calls Try.prog 47 #[.pointer (some ⟨B, 0, none⟩), .int .i64 n, .int .i64 wi, .int .i64 dr] w fun r w' => r = .returned (.bool (earlyV (phaseM t g l s e b1 b2 n) (l - ageM t g n) wi dr)) ∧ Below w.heap.size w w' := by
  have HPH : Hid (∀ w, MetaAt w B t g l s e b1 b2 → Calls Try.prog 37 #[.pointer (some ⟨B, 0, none⟩), .int .i64 n] w fun r w' => r = .returned (.int .i64 (phaseM t g l s e b1 b2 n)) ∧ Below w.heap.size w w') := fun w hp => l7Phase_any w B t g l s e b1 b2 n hp h
  have HG : Hid (∀ w, MetaAt w B t g l s e b1 b2 → Calls Try.prog 38 #[.pointer (some ⟨B, 0, none⟩), .int .i64 n] w fun r w' => r = .returned (.int .i64 (ageM t g n)) ∧ Below w.heap.size w w') := fun w hp => l7Age_any w B t g l s e b1 b2 n hp h
  have HL : Hid (∀ w, MetaAt w B t g l s e b1 b2 → Calls Try.prog 57 #[.pointer (some ⟨B, 0, none⟩)] w fun r w' => r = .returned (.int .i64 (lifeM l b1 b2)) ∧ w' = w) := fun w hp => l7Life_any w B t g l s e b1 b2 hp
  have HP : Hid (MetaAt w B t g l s e b1 b2) := hp
  have HF : Hid (phaseM t g l s e b1 b2 n = 1 → ageM t g n < l ∧ lifeM l b1 b2 = l ∧ 0 ≤ ageM t g n ∧ l ≤ 1000000000000000) := fun hh => (fresh_of (by rw [phaseA_ok h]; exact hh)).2
  by_cases k : phaseM t g l s e b1 b2 n = 1
  · obtain ⟨f1, f2, f3, f4⟩ := HF.out k
    rw [k, early_ok hw hd]
    rw [k] at HPH
    rw [f2] at HL
    obtain ⟨m0, m1⟩ := mul_in hw hd
    clear HF k f2 h hp hw hd
    generalize ageM t g n = a at *
    have HMu : Hid (∀ w, Calls Try.prog 62 #[.int .i64 (l - a), .int .i64 1000] w fun r w' => r = .returned (.int .i64 (if 1000000000000 < l - a then 1000000000000000 else (l - a) * 1000)) ∧ w' = w) := l1Mul_all (l - a) (by omega)
    have he : decide ((if 1000000000000 < l - a then (1000000000000000 : Int) else (l - a) * 1000) ≤ wi * dr) = decide (1000 * (l - a) ≤ wi * dr) := by
      rw [decide_eq_decide]
      split <;> constructor <;> intro hh <;> omega
    have HE : Hid (decide ((if 1000000000000 < l - a then (1000000000000000 : Int) else (l - a) * 1000) ≤ wi * dr) = decide (1000 * (l - a) ≤ wi * dr)) := he
    clear he
    generalize (if 1000000000000 < l - a then (1000000000000000 : Int) else (l - a) * 1000) = x at *
    generalize decide (1000 * (l - a) ≤ wi * dr) = z at *
    have d := HE.out
    cases z
    · skip
      go_enter Try.func47, Try.ntmps47
      go_wp2_with fail
      refine (HPH.out _ HP.out).mono ?_
      rintro r w1 ⟨rfl, hb1⟩
      have HB : Hid (Below w.heap.size w w1) := hb1
      have K1 : Hid (MetaAt w1 B t g l s e b1 b2) := HP.out.keep hb1
      clear hb1
      go_wp2_with fail
      refine (HL.out _ K1.out).mono ?_
      rintro r w2 ⟨rfl, rfl⟩
      go_wp2_with fail
      refine (HG.out _ K1.out).mono ?_
      rintro r w2 ⟨rfl, hb2⟩
      have HB2 : Hid (Below w.heap.size w w2) := HB.out.trans (hb2.mono HB.out.size)
      clear hb2
      go_wp2_with fail
      refine (HMu.out _).mono ?_
      rintro r w3 ⟨rfl, rfl⟩
      go_wp2_with fail
      go_ret
      exact ⟨rfl, HB2.out⟩
    · skip
      go_enter Try.func47, Try.ntmps47
      go_wp2_with fail
      refine (HPH.out _ HP.out).mono ?_
      rintro r w1 ⟨rfl, hb1⟩
      have HB : Hid (Below w.heap.size w w1) := hb1
      have K1 : Hid (MetaAt w1 B t g l s e b1 b2) := HP.out.keep hb1
      clear hb1
      go_wp2_with fail
      refine (HL.out _ K1.out).mono ?_
      rintro r w2 ⟨rfl, rfl⟩
      go_wp2_with fail
      refine (HG.out _ K1.out).mono ?_
      rintro r w2 ⟨rfl, hb2⟩
      have HB2 : Hid (Below w.heap.size w w2) := HB.out.trans (hb2.mono HB.out.size)
      clear hb2
      go_wp2_with fail
      refine (HMu.out _).mono ?_
      rintro r w3 ⟨rfl, rfl⟩
      go_wp2_with fail
      go_ret
      exact ⟨rfl, HB2.out⟩
  · rw [early_p k]
    generalize phaseM t g l s e b1 b2 n = p at *
    have kd : (p == 1) = false := by simpa using k
    clear HF h hp hw hd k
    go_enter Try.func47, Try.ntmps47
    go_wp2_with fail
    refine (HPH.out _ HP.out).mono ?_
    rintro r w1 ⟨rfl, hb1⟩
    have HB : Hid (Below w.heap.size w w1) := hb1
    clear hb1
    go_wp2_with fail
    go_ret
    exact ⟨rfl, HB.out⟩
set_option maxHeartbeats 4000000 in
theorem specEarly_any (t g l s e : Int) (b1 b2 : Bool) (n wi dr : Int) (w : World) :
    Calls Try.prog 26 #[.agg #[.int .i64 t, .int .i64 g, .int .i64 l, .int .i64 s, .int .i64 e, .bool b1, .bool b2], .int .i64 n, .int .i64 wi, .int .i64 dr] w fun r w' => r = .returned (.bool (earlyV (phaseA t g l s e b1 b2 n) (l - ageM t g n) wi dr)) ∧ Below w.heap.size w w' := by
  have HQ : Hid (∀ W, MetaAt W w.heap.size t g l s e b1 b2 → Calls Try.prog 36 #[.pointer (some ⟨w.heap.size, 0, none⟩), .int .i64 n] W fun r w' => r = .returned (.int .i64 (askC t g l s e n)) ∧ Below W.heap.size W w') := fun W hp => l7Ask_any W w.heap.size t g l s e b1 b2 n hp
  have HN : Hid (Below w.heap.size w (w.alloc (.cells #[.int .i64 t, .int .i64 g, .int .i64 l, .int .i64 s, .int .i64 e, .bool b1, .bool b2] 25)) ∧ MetaAt (w.alloc (.cells #[.int .i64 t, .int .i64 g, .int .i64 l, .int .i64 s, .int .i64 e, .bool b1, .bool b2] 25)) w.heap.size t g l s e b1 b2) := ⟨(Below.refl _ _).alloc (Nat.le_refl _) _, MetaAt.new w t g l s e b1 b2 _⟩
  have HI : Hid (∀ x lo hi w, Calls Try.prog 46 #[.int .i64 x, .int .i64 lo, .int .i64 hi] w fun r w' => r = .returned (.bool (inB x lo hi)) ∧ w' = w) := l1In_all
  cases ha : askB t g l s e n
  · have e0 : earlyV (phaseA t g l s e b1 b2 n) (l - ageM t g n) wi dr = false := early_p (by rw [phaseA_bad ha]; decide)
    rw [e0]
    rw [askC_bad ha] at HQ
    clear ha e0
    go_enter Try.func26, Try.ntmps26
    go_wp2_with fail
    refine (HQ.out _ HN.out.2).mono ?_
    rintro r w1 ⟨rfl, hb1⟩
    have K1 : Hid (Below w.heap.size w w1 ∧ MetaAt w1 w.heap.size t g l s e b1 b2) := ⟨HN.out.1.trans (hb1.mono (by simp)), HN.out.2.keep (by simpa using hb1)⟩
    clear hb1 HN
    go_wp2_with fail
    go_ret
    exact ⟨rfl, K1.out.1⟩
  rw [askC_ok ha] at HQ
  cases hw : inB wi 0 1000000
  · rw [early_w hw]
    clear ha
    go_enter Try.func26, Try.ntmps26
    go_wp2_with fail
    refine (HQ.out _ HN.out.2).mono ?_
    rintro r w1 ⟨rfl, hb1⟩
    have K1 : Hid (Below w.heap.size w w1 ∧ MetaAt w1 w.heap.size t g l s e b1 b2) := ⟨HN.out.1.trans (hb1.mono (by simp)), HN.out.2.keep (by simpa using hb1)⟩
    clear hb1 HN
    go_wp2_with fail
    refine (HI.out wi 0 1000000 _).mono ?_
    rintro r w2 ⟨rfl, rfl⟩
    rw [hw]
    go_wp2_with fail
    go_ret
    exact ⟨rfl, K1.out.1⟩
  cases hd : inB dr 0 999
  · rw [early_d hd]
    clear ha
    go_enter Try.func26, Try.ntmps26
    go_wp2_with fail
    refine (HQ.out _ HN.out.2).mono ?_
    rintro r w1 ⟨rfl, hb1⟩
    have K1 : Hid (Below w.heap.size w w1 ∧ MetaAt w1 w.heap.size t g l s e b1 b2) := ⟨HN.out.1.trans (hb1.mono (by simp)), HN.out.2.keep (by simpa using hb1)⟩
    clear hb1 HN
    go_wp2_with fail
    refine (HI.out wi 0 1000000 _).mono ?_
    rintro r w2 ⟨rfl, rfl⟩
    rw [hw]
    go_wp2_with fail
    refine (HI.out dr 0 999 _).mono ?_
    rintro r w2 ⟨rfl, rfl⟩
    rw [hd]
    go_wp2_with fail
    go_ret
    exact ⟨rfl, K1.out.1⟩
  have HE : Hid (∀ W, MetaAt W w.heap.size t g l s e b1 b2 → Calls Try.prog 47 #[.pointer (some ⟨w.heap.size, 0, none⟩), .int .i64 n, .int .i64 wi, .int .i64 dr] W fun r w' => r = .returned (.bool (earlyV (phaseM t g l s e b1 b2 n) (l - ageM t g n) wi dr)) ∧ Below W.heap.size W w') := fun W hp => l7Early_any W w.heap.size t g l s e b1 b2 n wi dr hw hd hp ha
  rw [phaseA_ok ha]
  clear ha
  generalize earlyV (phaseM t g l s e b1 b2 n) (l - ageM t g n) wi dr = z at *
  go_enter Try.func26, Try.ntmps26
  go_wp2_with fail
  refine (HQ.out _ HN.out.2).mono ?_
  rintro r w1 ⟨rfl, hb1⟩
  have K1 : Hid (Below w.heap.size w w1 ∧ MetaAt w1 w.heap.size t g l s e b1 b2) := ⟨HN.out.1.trans (hb1.mono (by simp)), HN.out.2.keep (by simpa using hb1)⟩
  clear hb1 HN
  go_wp2_with fail
  refine (HI.out wi 0 1000000 _).mono ?_
  rintro r w2 ⟨rfl, rfl⟩
  rw [hw]
  go_wp2_with fail
  refine (HI.out dr 0 999 _).mono ?_
  rintro r w2 ⟨rfl, rfl⟩
  rw [hd]
  go_wp2_with fail
  refine (HE.out _ K1.out.2).mono ?_
  rintro r w2 ⟨rfl, hb2⟩
  have HB : Hid (Below w.heap.size w w2) := K1.out.1.trans (hb2.mono K1.out.1.size)
  clear hb2
  go_wp2_with fail
  go_ret
  exact ⟨rfl, HB.out⟩
set_option maxHeartbeats 4000000 in
theorem implEarly_any (t g l s e : Int) (b1 b2 : Bool) (n wi dr : Int) (w : World) :
    Calls Try.prog 23 #[.agg #[.int .i64 t, .int .i64 g, .int .i64 l, .int .i64 s, .int .i64 e, .bool b1, .bool b2], .int .i64 n, .int .i64 wi, .int .i64 dr] w fun r w' => r = .returned (.bool (earlyV (phaseA t g l s e b1 b2 n) (l - ageM t g n) wi dr)) ∧ Below w.heap.size w w' := by
  have HG : Hid (∀ w, Calls Try.prog 13 #[.agg #[.int .i64 t, .int .i64 g, .int .i64 l, .int .i64 s, .int .i64 e, .bool b1, .bool b2], .int .i64 n] w fun r w' => r = .returned (.agg #[.int .i64 (askC t g l s e n), .int .i64 (phaseA t g l s e b1 b2 n)]) ∧ Below w.heap.size w w') := implPhase_any t g l s e b1 b2 n
  have HA : Hid (∀ w, Calls Try.prog 14 #[.agg #[.int .i64 t, .int .i64 g, .int .i64 l, .int .i64 s, .int .i64 e, .bool b1, .bool b2], .int .i64 n] w fun r w' => r = .returned (.agg #[.int .i64 (askC t g l s e n), .int .i64 (ageA t g l s e n)]) ∧ Below w.heap.size w w') := implAge_any t g l s e b1 b2 n
  have HN : Hid (Below w.heap.size w (w.alloc (.cells #[.int .i64 t, .int .i64 g, .int .i64 l, .int .i64 s, .int .i64 e, .bool b1, .bool b2] 25)) ∧ MetaAt (w.alloc (.cells #[.int .i64 t, .int .i64 g, .int .i64 l, .int .i64 s, .int .i64 e, .bool b1, .bool b2] 25)) w.heap.size t g l s e b1 b2) := ⟨(Below.refl _ _).alloc (Nat.le_refl _) _, MetaAt.new w t g l s e b1 b2 _⟩
  have hf := ifieldV
  by_cases g1 : wi < 0
  · rw [early_w (by simp [inB]; omega)]
    go_enter Try.func23, Try.ntmps23
    go_wp2_with fail
    go_ret
    exact ⟨rfl, HN.out.1⟩
  by_cases g2 : 1000000 < wi
  · rw [early_w (by simp [inB]; omega)]
    have dg2 : decide (1000000 < wi) = true := by simp [g2]
    go_enter Try.func23, Try.ntmps23
    go_wp2_with fail
    go_ret
    exact ⟨rfl, HN.out.1⟩
  have dg2 : decide (1000000 < wi) = false := by simp [g2]
  by_cases g3 : dr < 0
  · rw [early_d (by simp [inB]; omega)]
    have dg3 : decide (dr < 0) = true := by simp [g3]
    go_enter Try.func23, Try.ntmps23
    go_wp2_with fail
    go_ret
    exact ⟨rfl, HN.out.1⟩
  have dg3 : decide (dr < 0) = false := by simp [g3]
  by_cases g4 : 1000 ≤ dr
  · rw [early_d (by simp [inB]; omega)]
    have dg4 : decide (1000 ≤ dr) = true := by simp [g4]
    go_enter Try.func23, Try.ntmps23
    go_wp2_with fail
    go_ret
    exact ⟨rfl, HN.out.1⟩
  have dg4 : decide (1000 ≤ dr) = false := by simp [g4]
  by_cases k : phaseA t g l s e b1 b2 n = 1
  · obtain ⟨ha, f1, f2, f3, f4⟩ := fresh_of k
    have hw : inB wi 0 1000000 = true := by simp [inB]; omega
    have hd : inB dr 0 999 = true := by simp [inB]; omega
    rw [k, early_ok hw hd]
    rw [k, askC_ok ha] at HG
    rw [ageA_ok ha, askC_ok ha] at HA
    obtain ⟨m0, m1⟩ := mul_in hw hd
    clear k f2 hw hd ha
    generalize ageM t g n = a at *
    by_cases hz : 1000 * (l - a) ≤ wi * dr
    · have dz : decide (1000 * (l - a) ≤ wi * dr) = true := by simp [hz]
      rw [dz]
      go_enter Try.func23, Try.ntmps23
      go_wp2_with fail
      refine (HG.out _).mono ?_
      rintro r w1 ⟨rfl, hb1⟩
      have K1 : Hid (Below w.heap.size w w1 ∧ MetaAt w1 w.heap.size t g l s e b1 b2) := ⟨HN.out.1.trans (hb1.mono (by simp)), HN.out.2.keep (by simpa using hb1)⟩
      clear hb1 HN
      go_upto_region 5 with fail
      have q0 := cell_regrown K1.out.2.c0
      have q1 := cell_regrown K1.out.2.c1
      have q2 := cell_regrown K1.out.2.c2
      have q3 := cell_regrown K1.out.2.c3
      have q4 := cell_regrown K1.out.2.c4
      have q5 := cell_regrown K1.out.2.c5
      have q6 := cell_regrown K1.out.2.c6
      have cA : ∀ d' os, Calls Try.prog 14 #[.agg #[.int .i64 t, .int .i64 g, .int .i64 l, .int .i64 s, .int .i64 e, .bool b1, .bool b2], .int .i64 n] (grow (redrawn w1 d') os) fun e w'' => e = .returned (.agg #[.int .i64 0, .int .i64 a]) ∧ ∃ p : Regrown, w'' = grow (redrawn w1 p.d) p.os := fun d' os => Calls.regrown_of (HA.out _)
      refine wp_region_quiet_below (by kernel_rfl) (by kernel_rfl) ?_
      repeat (go_big_quiet_step (first | (go_at_call 14; exact cA _ _)))
      refine wpQuiet_nil ?_
      intro W2 hW2
      have hbW2 : Hid (Below w.heap.size w W2) := by
        obtain ⟨⟨d, os⟩, rfl⟩ := hW2
        exact K1.out.1.trans ((below_regrown w1 d os).mono K1.out.1.size)
      clear hW2 q0 q1 q2 q3 q4 q5 q6 cA
      go_wp2_with fail
      go_ret
      exact ⟨rfl, hbW2.out⟩
    · have dz : decide (1000 * (l - a) ≤ wi * dr) = false := by simp [hz]
      rw [dz]
      go_enter Try.func23, Try.ntmps23
      go_wp2_with fail
      refine (HG.out _).mono ?_
      rintro r w1 ⟨rfl, hb1⟩
      have K1 : Hid (Below w.heap.size w w1 ∧ MetaAt w1 w.heap.size t g l s e b1 b2) := ⟨HN.out.1.trans (hb1.mono (by simp)), HN.out.2.keep (by simpa using hb1)⟩
      clear hb1 HN
      go_upto_region 5 with fail
      have q0 := cell_regrown K1.out.2.c0
      have q1 := cell_regrown K1.out.2.c1
      have q2 := cell_regrown K1.out.2.c2
      have q3 := cell_regrown K1.out.2.c3
      have q4 := cell_regrown K1.out.2.c4
      have q5 := cell_regrown K1.out.2.c5
      have q6 := cell_regrown K1.out.2.c6
      have cA : ∀ d' os, Calls Try.prog 14 #[.agg #[.int .i64 t, .int .i64 g, .int .i64 l, .int .i64 s, .int .i64 e, .bool b1, .bool b2], .int .i64 n] (grow (redrawn w1 d') os) fun e w'' => e = .returned (.agg #[.int .i64 0, .int .i64 a]) ∧ ∃ p : Regrown, w'' = grow (redrawn w1 p.d) p.os := fun d' os => Calls.regrown_of (HA.out _)
      refine wp_region_quiet_below (by kernel_rfl) (by kernel_rfl) ?_
      repeat (go_big_quiet_step (first | (go_at_call 14; exact cA _ _)))
      refine wpQuiet_nil ?_
      intro W2 hW2
      have hbW2 : Hid (Below w.heap.size w W2) := by
        obtain ⟨⟨d, os⟩, rfl⟩ := hW2
        exact K1.out.1.trans ((below_regrown w1 d os).mono K1.out.1.size)
      clear hW2 q0 q1 q2 q3 q4 q5 q6 cA
      go_wp2_with fail
      go_ret
      exact ⟨rfl, hbW2.out⟩
  · rw [early_p k]
    generalize phaseA t g l s e b1 b2 n = p at *
    generalize askC t g l s e n = c at *
    have kd : (p != 1) = true := by simpa using k
    clear k
    go_enter Try.func23, Try.ntmps23
    go_wp2_with fail
    refine (HG.out _).mono ?_
    rintro r w1 ⟨rfl, hb1⟩
    have K1 : Hid (Below w.heap.size w w1 ∧ MetaAt w1 w.heap.size t g l s e b1 b2) := ⟨HN.out.1.trans (hb1.mono (by simp)), HN.out.2.keep (by simpa using hb1)⟩
    clear hb1 HN
    go_wp2_with fail
    go_ret
    exact ⟨rfl, K1.out.1⟩
end Go.Proofs.Ytnbbbmhfmjkhbaa
