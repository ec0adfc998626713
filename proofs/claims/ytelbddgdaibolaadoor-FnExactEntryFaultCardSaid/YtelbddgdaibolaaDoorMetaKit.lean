/-
  What is kept with an answer: faults, ages and phases, on both sides.
-/
import Derived.Test.YtelbddgdaibolaaDoorPolLife
import Derived.Test.YtelbddgdaibolaaDoorAddW
import Derived.Lib.QuietBelow
import Derived.BigQuiet
import Derived.Deep.QuietTactic
namespace Go.Proofs.YtelbddgdaibolaaDoor
open Go.ChangeShapes Go.WideShapes Go.ChangeAt Go.RowKit
/-- What is kept with an answer, in memory. -/
structure MetaAt (w : World) (b : Nat) (t g l s e : Int) (b1 b2 : Bool) : Prop where
  c0 : w.cell? ⟨b, 0, none⟩ = some (.int .i64 t)
  c1 : w.cell? ⟨b, 1, none⟩ = some (.int .i64 g)
  c2 : w.cell? ⟨b, 2, none⟩ = some (.int .i64 l)
  c3 : w.cell? ⟨b, 3, none⟩ = some (.int .i64 s)
  c4 : w.cell? ⟨b, 4, none⟩ = some (.int .i64 e)
  c5 : w.cell? ⟨b, 5, none⟩ = some (.bool b1)
  c6 : w.cell? ⟨b, 6, none⟩ = some (.bool b2)
  fr : ∀ o, w.frozen? ⟨b, o, none⟩ = false
  lt : b < w.heap.size
theorem MetaAt.keep {w w' : World} {b : Nat} {t g l s e : Int} {b1 b2 : Bool} (k : MetaAt w b t g l s e b1 b2) (hb : Below w.heap.size w w') : MetaAt w' b t g l s e b1 b2 :=
  ⟨by rw [hb.cell (p := ⟨b, 0, none⟩) k.lt]; exact k.c0, by rw [hb.cell (p := ⟨b, 1, none⟩) k.lt]; exact k.c1, by rw [hb.cell (p := ⟨b, 2, none⟩) k.lt]; exact k.c2, by rw [hb.cell (p := ⟨b, 3, none⟩) k.lt]; exact k.c3, by rw [hb.cell (p := ⟨b, 4, none⟩) k.lt]; exact k.c4, by rw [hb.cell (p := ⟨b, 5, none⟩) k.lt]; exact k.c5, by rw [hb.cell (p := ⟨b, 6, none⟩) k.lt]; exact k.c6,
    fun o => by rw [hb.frozen (p := ⟨b, o, none⟩) k.lt]; exact k.fr o, Nat.lt_of_lt_of_le k.lt hb.size⟩
theorem MetaAt.new (w : World) (t g l s e : Int) (b1 b2 : Bool) (x : TypeId) : MetaAt (w.alloc (.cells #[.int .i64 t, .int .i64 g, .int .i64 l, .int .i64 s, .int .i64 e, .bool b1, .bool b2] x)) w.heap.size t g l s e b1 b2 :=
  ⟨by simp, by simp, by simp, by simp, by simp, by simp, by simp, fun o => by simp, by simp⟩
def addT (a b : Int) : Int := if 1000000000000000 < a + b then 1000000000000000 else a + b
theorem addT_time {a b : Int} (ha : 0 ≤ a) (hb : 0 ≤ b) : 0 ≤ addT a b ∧ addT a b ≤ 1000000000000000 := by unfold addT; split <;> omega
def metaB (t g l s e : Int) : Bool := timeB t && timeB g && timeB l && timeB s && timeB e
def metaC (t g l s e : Int) : Int := if metaB t g l s e = true then 0 else 3
theorem metaC_ok {t g l s e : Int} (h : metaB t g l s e = true) : metaC t g l s e = 0 := by rw [metaC, if_pos h]
theorem metaC_bad {t g l s e : Int} (h : metaB t g l s e = false) : metaC t g l s e = 3 := by rw [metaC, if_neg (by rw [h]; decide)]
theorem metaB_of {t g l s e : Int} (h : metaB t g l s e = true) : (0 ≤ t ∧ t ≤ 1000000000000000) ∧ (0 ≤ g ∧ g ≤ 1000000000000000) ∧ (0 ≤ l ∧ l ≤ 1000000000000000) ∧ (0 ≤ s ∧ s ≤ 1000000000000000) ∧ (0 ≤ e ∧ e ≤ 1000000000000000) := by
  simp only [metaB, Bool.and_eq_true] at h
  exact ⟨timeB_of h.1.1.1.1, timeB_of h.1.1.1.2, timeB_of h.1.1.2, timeB_of h.1.2, timeB_of h.2⟩
def askB (t g l s e n : Int) : Bool := metaB t g l s e && timeB n && decide (t ≤ n)
def askM (t g l s e n : Int) : Int := if askB t g l s e n = true then 0 else 3
theorem askM_ok {t g l s e n : Int} (h : askB t g l s e n = true) : askM t g l s e n = 0 := by rw [askM, if_pos h]
theorem askM_bad {t g l s e n : Int} (h : askB t g l s e n = false) : askM t g l s e n = 3 := by rw [askM, if_neg (by rw [h]; decide)]
theorem askB_of {t g l s e n : Int} (h : askB t g l s e n = true) : metaB t g l s e = true ∧ (0 ≤ n ∧ n ≤ 1000000000000000) ∧ t ≤ n := by
  simp only [askB, Bool.and_eq_true, decide_eq_true_eq] at h
  exact ⟨h.1.1, timeB_of h.1.2, h.2⟩
def ageM (t g n : Int) : Int := addT g (n - t)
def ageA (t g l s e n : Int) : Int := if askB t g l s e n = true then ageM t g n else 0
theorem ageA_ok {t g l s e n : Int} (h : askB t g l s e n = true) : ageA t g l s e n = ageM t g n := by rw [ageA, if_pos h]
theorem ageA_bad {t g l s e n : Int} (h : askB t g l s e n = false) : ageA t g l s e n = 0 := by rw [ageA, if_neg (by rw [h]; decide)]
def lifeM (l : Int) (b1 b2 : Bool) : Int := if (b1 || b2) = true then 0 else l
/-- The phase of an answer of this age, with this life. -/
def phaseV (a li s e : Int) (b2 : Bool) : Int := if a < li then 1 else if (!b2 && decide (a < addT li s)) = true then 2 else if a < addT li e then 3 else 0
def phaseM (t g l s e : Int) (b1 b2 : Bool) (n : Int) : Int := phaseV (ageM t g n) (lifeM l b1 b2) s e b2
def phaseA (t g l s e : Int) (b1 b2 : Bool) (n : Int) : Int := if askB t g l s e n = true then phaseM t g l s e b1 b2 n else 0
theorem phaseA_ok {t g l s e n : Int} {b1 b2 : Bool} (h : askB t g l s e n = true) : phaseA t g l s e b1 b2 n = phaseM t g l s e b1 b2 n := by rw [phaseA, if_pos h]
theorem phaseA_bad {t g l s e n : Int} {b1 b2 : Bool} (h : askB t g l s e n = false) : phaseA t g l s e b1 b2 n = 0 := by rw [phaseA, if_neg (by rw [h]; decide)]
theorem phase1 {a li s e : Int} {b2 : Bool} (h : a < li) : phaseV a li s e b2 = 1 := by rw [phaseV, if_pos h]
theorem phase2 {a li s e : Int} {b2 : Bool} (h : ¬ a < li) (h2 : (!b2 && decide (a < addT li s)) = true) : phaseV a li s e b2 = 2 := by rw [phaseV, if_neg h, if_pos h2]
theorem phase3 {a li s e : Int} {b2 : Bool} (h : ¬ a < li) (h2 : ¬ (!b2 && decide (a < addT li s)) = true) (h3 : a < addT li e) : phaseV a li s e b2 = 3 := by rw [phaseV, if_neg h, if_neg h2, if_pos h3]
theorem phase0 {a li s e : Int} {b2 : Bool} (h : ¬ a < li) (h2 : ¬ (!b2 && decide (a < addT li s)) = true) (h3 : ¬ a < addT li e) : phaseV a li s e b2 = 0 := by rw [phaseV, if_neg h, if_neg h2, if_neg h3]
theorem lifeM_time {l : Int} {b1 b2 : Bool} (h : 0 ≤ l ∧ l ≤ 1000000000000000) : 0 ≤ lifeM l b1 b2 ∧ lifeM l b1 b2 ≤ 1000000000000000 := by unfold lifeM; split <;> omega
theorem ageM_time {t g n : Int} (h : 0 ≤ g) (h2 : t ≤ n) : 0 ≤ ageM t g n ∧ ageM t g n ≤ 1000000000000000 := addT_time h (by omega)
set_option maxHeartbeats 4000000 in
theorem specMeta_any (t g l s e : Int) (b1 b2 : Bool) (w : World) :
    Calls Tryd.prog 33 #[.agg #[.int .i64 t, .int .i64 g, .int .i64 l, .int .i64 s, .int .i64 e, .bool b1, .bool b2]] w fun r w' => r = .returned (.int .i64 (metaC t g l s e)) ∧ Below w.heap.size w w' := by
  have HT : Hid (∀ x w, Calls Tryd.prog 61 #[.int .i64 x] w fun r w' => r = .returned (.bool (timeB x)) ∧ w' = w) := l1Time_all
  have HB : Hid (Below w.heap.size w (w.alloc (.cells #[.int .i64 t, .int .i64 g, .int .i64 l, .int .i64 s, .int .i64 e, .bool b1, .bool b2] 32))) := (Below.refl _ _).alloc (Nat.le_refl _) _
  cases ht : timeB t
  · rw [metaC_bad (by simp [metaB, ht])]
    go_enter Tryd.func33, Tryd.ntmps33
    go_wp2_with fail
    refine (HT.out t _).mono ?_
    rintro r w1 ⟨rfl, rfl⟩
    rw [ht]
    go_wp2_with fail
    go_ret
    exact ⟨rfl, HB.out⟩
  cases hg : timeB g
  · rw [metaC_bad (by simp [metaB, hg])]
    go_enter Tryd.func33, Tryd.ntmps33
    go_wp2_with fail
    refine (HT.out t _).mono ?_
    rintro r w1 ⟨rfl, rfl⟩
    rw [ht]
    go_wp2_with fail
    refine (HT.out g _).mono ?_
    rintro r w1 ⟨rfl, rfl⟩
    rw [hg]
    go_wp2_with fail
    go_ret
    exact ⟨rfl, HB.out⟩
  cases hl : timeB l
  · rw [metaC_bad (by simp [metaB, hl])]
    go_enter Tryd.func33, Tryd.ntmps33
    go_wp2_with fail
    refine (HT.out t _).mono ?_
    rintro r w1 ⟨rfl, rfl⟩
    rw [ht]
    go_wp2_with fail
    refine (HT.out g _).mono ?_
    rintro r w1 ⟨rfl, rfl⟩
    rw [hg]
    go_wp2_with fail
    refine (HT.out l _).mono ?_
    rintro r w1 ⟨rfl, rfl⟩
    rw [hl]
    go_wp2_with fail
    go_ret
    exact ⟨rfl, HB.out⟩
  cases hs : timeB s
  · rw [metaC_bad (by simp [metaB, hs])]
    go_enter Tryd.func33, Tryd.ntmps33
    go_wp2_with fail
    refine (HT.out t _).mono ?_
    rintro r w1 ⟨rfl, rfl⟩
    rw [ht]
    go_wp2_with fail
    refine (HT.out g _).mono ?_
    rintro r w1 ⟨rfl, rfl⟩
    rw [hg]
    go_wp2_with fail
    refine (HT.out l _).mono ?_
    rintro r w1 ⟨rfl, rfl⟩
    rw [hl]
    go_wp2_with fail
    refine (HT.out s _).mono ?_
    rintro r w1 ⟨rfl, rfl⟩
    rw [hs]
    go_wp2_with fail
    go_ret
    exact ⟨rfl, HB.out⟩
  cases he : timeB e
  · rw [metaC_bad (by simp [metaB, he])]
    go_enter Tryd.func33, Tryd.ntmps33
    go_wp2_with fail
    refine (HT.out t _).mono ?_
    rintro r w1 ⟨rfl, rfl⟩
    rw [ht]
    go_wp2_with fail
    refine (HT.out g _).mono ?_
    rintro r w1 ⟨rfl, rfl⟩
    rw [hg]
    go_wp2_with fail
    refine (HT.out l _).mono ?_
    rintro r w1 ⟨rfl, rfl⟩
    rw [hl]
    go_wp2_with fail
    refine (HT.out s _).mono ?_
    rintro r w1 ⟨rfl, rfl⟩
    rw [hs]
    go_wp2_with fail
    refine (HT.out e _).mono ?_
    rintro r w1 ⟨rfl, rfl⟩
    rw [he]
    go_wp2_with fail
    go_ret
    exact ⟨rfl, HB.out⟩
  rw [metaC_ok (by simp [metaB, ht, hg, hl, hs, he])]
  go_enter Tryd.func33, Tryd.ntmps33
  go_wp2_with fail
  refine (HT.out t _).mono ?_
  rintro r w1 ⟨rfl, rfl⟩
  rw [ht]
  go_wp2_with fail
  refine (HT.out g _).mono ?_
  rintro r w1 ⟨rfl, rfl⟩
  rw [hg]
  go_wp2_with fail
  refine (HT.out l _).mono ?_
  rintro r w1 ⟨rfl, rfl⟩
  rw [hl]
  go_wp2_with fail
  refine (HT.out s _).mono ?_
  rintro r w1 ⟨rfl, rfl⟩
  rw [hs]
  go_wp2_with fail
  refine (HT.out e _).mono ?_
  rintro r w1 ⟨rfl, rfl⟩
  rw [he]
  go_wp2_with fail
  go_ret
  exact ⟨rfl, HB.out⟩
theorem meta_ix0 (t g l s e : Int) (w : World) : (Instr.index 100 (.agg #[.int .i64 t, .int .i64 g, .int .i64 l, .int .i64 s, .int .i64 e]) (.int .i64 0)).run Tryd.prog w = .ok (.int .i64 t) w := by kernel_rfl
theorem meta_ix1 (t g l s e : Int) (w : World) : (Instr.index 100 (.agg #[.int .i64 t, .int .i64 g, .int .i64 l, .int .i64 s, .int .i64 e]) (.int .i64 1)).run Tryd.prog w = .ok (.int .i64 g) w := by kernel_rfl
theorem meta_ix2 (t g l s e : Int) (w : World) : (Instr.index 100 (.agg #[.int .i64 t, .int .i64 g, .int .i64 l, .int .i64 s, .int .i64 e]) (.int .i64 2)).run Tryd.prog w = .ok (.int .i64 l) w := by kernel_rfl
theorem meta_ix3 (t g l s e : Int) (w : World) : (Instr.index 100 (.agg #[.int .i64 t, .int .i64 g, .int .i64 l, .int .i64 s, .int .i64 e]) (.int .i64 3)).run Tryd.prog w = .ok (.int .i64 s) w := by kernel_rfl
theorem meta_ix4 (t g l s e : Int) (w : World) : (Instr.index 100 (.agg #[.int .i64 t, .int .i64 g, .int .i64 l, .int .i64 s, .int .i64 e]) (.int .i64 4)).run Tryd.prog w = .ok (.int .i64 e) w := by kernel_rfl
set_option maxHeartbeats 8000000 in
theorem implMeta_any (t g l s e : Int) (b1 b2 : Bool) (w : World) :
    Calls Tryd.prog 40 #[.agg #[.int .i64 t, .int .i64 g, .int .i64 l, .int .i64 s, .int .i64 e, .bool b1, .bool b2]] w fun r w' => r = .returned (.int .i64 (metaC t g l s e)) ∧ Below w.heap.size w w' := by
  have HT : Hid (∀ x w, Calls Tryd.prog 64 #[.int .i64 x] w fun r w' => r = .returned (.bool (timeB x)) ∧ w' = w) := isTime_all
  have HB : Hid (Below w.heap.size w (w.alloc (.cells #[.int .i64 t, .int .i64 g, .int .i64 l, .int .i64 s, .int .i64 e, .bool b1, .bool b2] 32))) := (Below.refl _ _).alloc (Nat.le_refl _) _
  obtain ⟨v, hv⟩ : ∃ X, Hid (X = w.alloc (.cells #[.int .i64 t, .int .i64 g, .int .i64 l, .int .i64 s, .int .i64 e, .bool b1, .bool b2] 32)) := ⟨_, rfl⟩
  go_enter Tryd.func40, Tryd.ntmps40
  go_wp2_with fail
  rw [← hv.out]
  rw [← hv.out] at HB
  clear hv
  go_loopw [16] (fun i wr => ∃ k : Nat, k ≤ 5 ∧ i = .int .i64 k ∧ (∀ j, j < k → timeB ([t, g, l, s, e].getD j 0) = true) ∧ wr = v) (fun i _ => 5 - (intOf i).toNat)
  case atStart => exact ⟨0, Nat.zero_le _, rfl, fun j hj => absurd hj (by omega), rfl⟩
  case round =>
    obtain ⟨k, hk, rfl, hw, rfl⟩ := hrel
    have HW : Hid (∀ j, j < k → timeB ([t, g, l, s, e].getD j 0) = true) := hw
    clear hw
    by_cases k0 : k = 0
    · subst k0
      have hix := meta_ix0 t g l s e
      cases ht : timeB t
      · have HE : Hid (3 = metaC t g l s e) := (metaC_bad (by simp [metaB, ht])).symm
        go_wp2_with fail
        refine (HT.out t _).mono ?_
        rintro r w1 ⟨rfl, rfl⟩
        rw [ht]
        go_wp2_with fail
        go_ret
        exact ⟨ret_int HE.out, HB.out⟩
      · have HV : Hid (timeB t = true) := ht
        go_wp2_with fail
        refine (HT.out t _).mono ?_
        rintro r w1 ⟨rfl, rfl⟩
        rw [ht]
        clear ht
        go_wp2_with fail
        go_roundw
        case rel =>
          refine ⟨1, by omega, by go_num, fun j hj => ?_, by trivial⟩
          by_cases q : j = 0
          · subst q; exact HV.out
          · exact HW.out j (by omega)
        case measure => simp [intOf]
    by_cases k1 : k = 1
    · subst k1
      have hix := meta_ix1 t g l s e
      cases hg : timeB g
      · have HE : Hid (3 = metaC t g l s e) := (metaC_bad (by simp [metaB, hg])).symm
        go_wp2_with fail
        refine (HT.out g _).mono ?_
        rintro r w1 ⟨rfl, rfl⟩
        rw [hg]
        go_wp2_with fail
        go_ret
        exact ⟨ret_int HE.out, HB.out⟩
      · have HV : Hid (timeB g = true) := hg
        go_wp2_with fail
        refine (HT.out g _).mono ?_
        rintro r w1 ⟨rfl, rfl⟩
        rw [hg]
        clear hg
        go_wp2_with fail
        go_roundw
        case rel =>
          refine ⟨2, by omega, by go_num, fun j hj => ?_, by trivial⟩
          by_cases q : j = 1
          · subst q; exact HV.out
          · exact HW.out j (by omega)
        case measure => simp [intOf]
    by_cases k2 : k = 2
    · subst k2
      have hix := meta_ix2 t g l s e
      cases hl : timeB l
      · have HE : Hid (3 = metaC t g l s e) := (metaC_bad (by simp [metaB, hl])).symm
        go_wp2_with fail
        refine (HT.out l _).mono ?_
        rintro r w1 ⟨rfl, rfl⟩
        rw [hl]
        go_wp2_with fail
        go_ret
        exact ⟨ret_int HE.out, HB.out⟩
      · have HV : Hid (timeB l = true) := hl
        go_wp2_with fail
        refine (HT.out l _).mono ?_
        rintro r w1 ⟨rfl, rfl⟩
        rw [hl]
        clear hl
        go_wp2_with fail
        go_roundw
        case rel =>
          refine ⟨3, by omega, by go_num, fun j hj => ?_, by trivial⟩
          by_cases q : j = 2
          · subst q; exact HV.out
          · exact HW.out j (by omega)
        case measure => simp [intOf]
    by_cases k3 : k = 3
    · subst k3
      have hix := meta_ix3 t g l s e
      cases hs : timeB s
      · have HE : Hid (3 = metaC t g l s e) := (metaC_bad (by simp [metaB, hs])).symm
        go_wp2_with fail
        refine (HT.out s _).mono ?_
        rintro r w1 ⟨rfl, rfl⟩
        rw [hs]
        go_wp2_with fail
        go_ret
        exact ⟨ret_int HE.out, HB.out⟩
      · have HV : Hid (timeB s = true) := hs
        go_wp2_with fail
        refine (HT.out s _).mono ?_
        rintro r w1 ⟨rfl, rfl⟩
        rw [hs]
        clear hs
        go_wp2_with fail
        go_roundw
        case rel =>
          refine ⟨4, by omega, by go_num, fun j hj => ?_, by trivial⟩
          by_cases q : j = 3
          · subst q; exact HV.out
          · exact HW.out j (by omega)
        case measure => simp [intOf]
    by_cases k4 : k = 4
    · subst k4
      have hix := meta_ix4 t g l s e
      cases he : timeB e
      · have HE : Hid (3 = metaC t g l s e) := (metaC_bad (by simp [metaB, he])).symm
        go_wp2_with fail
        refine (HT.out e _).mono ?_
        rintro r w1 ⟨rfl, rfl⟩
        rw [he]
        go_wp2_with fail
        go_ret
        exact ⟨ret_int HE.out, HB.out⟩
      · have HV : Hid (timeB e = true) := he
        go_wp2_with fail
        refine (HT.out e _).mono ?_
        rintro r w1 ⟨rfl, rfl⟩
        rw [he]
        clear he
        go_wp2_with fail
        go_roundw
        case rel =>
          refine ⟨5, by omega, by go_num, fun j hj => ?_, by trivial⟩
          by_cases q : j = 4
          · subst q; exact HV.out
          · exact HW.out j (by omega)
        case measure => simp [intOf]
    obtain rfl : k = 5 := by omega
    have HE : Hid (0 = metaC t g l s e) := (metaC_ok (by have h0 := HW.out 0 (by omega); have h1 := HW.out 1 (by omega); have h2 := HW.out 2 (by omega); have h3 := HW.out 3 (by omega); have h4 := HW.out 4 (by omega); simp at h0 h1 h2 h3 h4; simp [metaB, h0, h1, h2, h3, h4])).symm
    go_wp2_with fail
    go_ret
    exact ⟨ret_int HE.out, HB.out⟩
end Go.Proofs.YtelbddgdaibolaaDoor
