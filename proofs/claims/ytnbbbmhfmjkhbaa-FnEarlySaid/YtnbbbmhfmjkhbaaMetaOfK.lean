/-
  MetaOf, on both sides.
-/
import Derived.Test.YtnbbbmhfmjkhbaaMetaAsk
import Derived.Test.YtnbbbmhfmjkhbaaZEight
import Derived.BigRegion
namespace Go.Proofs.Ytnbbbmhfmjkhbaa
open Go.ChangeShapes Go.WideShapes Go.ChangeAt Go.RowKit Go.Sort
/-- The answer of MetaOf: its code, and what is kept with an answer. -/
def mofC (c n : Int) : Int := if c = 0 then (if timeB n = true then 0 else 3) else c
def mofV (c x n s e g : Int) (b1 : Bool) : Value := if mofC c n = 0 then .agg #[.int .i64 0, .int .i64 n, .int .i64 g, .int .i64 x, .int .i64 s, .int .i64 e, .bool false, .bool b1] else .agg #[.int .i64 (mofC c n), .int .i64 0, .int .i64 0, .int .i64 0, .int .i64 0, .int .i64 0, .bool false, .bool false]
theorem mof_life {c x n s e g : Int} {b1 : Bool} (h : ¬ c = 0) : mofV c x n s e g b1 = .agg #[.int .i64 c, .int .i64 0, .int .i64 0, .int .i64 0, .int .i64 0, .int .i64 0, .bool false, .bool false] := by
  have : mofC c n = c := by rw [mofC, if_neg h]
  rw [mofV, this, if_neg h]
theorem mof_now {x n s e g : Int} {b1 : Bool} (h : timeB n = false) : mofV 0 x n s e g b1 = .agg #[.int .i64 3, .int .i64 0, .int .i64 0, .int .i64 0, .int .i64 0, .int .i64 0, .bool false, .bool false] := by
  have : mofC 0 n = 3 := by rw [mofC, if_pos rfl, if_neg (by rw [h]; decide)]
  rw [mofV, this, if_neg (by decide)]
theorem mof_ok {x n s e g : Int} {b1 : Bool} (h : timeB n = true) : mofV 0 x n s e g b1 = .agg #[.int .i64 0, .int .i64 n, .int .i64 g, .int .i64 x, .int .i64 s, .int .i64 e, .bool false, .bool b1] := by
  have : mofC 0 n = 0 := by rw [mofC, if_pos rfl, if_pos h]
  rw [mofV, if_pos this]
theorem pol_z8 (w w1 : World) (b0 b1 b2 : Bool) (l s e g : Int) (hb : Below (w.heap.size + 2) ((w.alloc (.cells #[.bool b0, .bool b1, .bool b2, .int .i64 l, .int .i64 s, .int .i64 e, .int .i64 g] 39)).alloc (.cells #[.int .i64 0, .int .i64 0, .int .i64 0, .int .i64 0, .int .i64 0, .int .i64 0, .bool false, .bool false] 43)) w1) : Below w.heap.size w w1 ∧ PolAt w1 w.heap.size b0 b1 b2 l s e g ∧ Z8 w1 (w.heap.size + 1) (.int .i64 0) (.int .i64 0) (.int .i64 0) (.int .i64 0) (.int .i64 0) (.int .i64 0) (.bool false) (.bool false) := by
  obtain ⟨u, hu⟩ : ∃ X, X = w.alloc (.cells #[.bool b0, .bool b1, .bool b2, .int .i64 l, .int .i64 s, .int .i64 e, .int .i64 g] 39) := ⟨_, rfl⟩
  have a1 : Below w.heap.size w u := by rw [hu]; exact (Below.refl _ _).alloc (Nat.le_refl _) _
  have p1 : PolAt u w.heap.size b0 b1 b2 l s e g := by rw [hu]; exact PolAt.new w b0 b1 b2 l s e g _
  have ez : u.heap.size = w.heap.size + 1 := by rw [hu]; simp
  rw [← hu] at hb
  have i1 := Z8.new u (.int .i64 0) (.int .i64 0) (.int .i64 0) (.int .i64 0) (.int .i64 0) (.int .i64 0) (.bool false) (.bool false) 43
  have a2 : Below u.heap.size u (u.alloc (.cells #[.int .i64 0, .int .i64 0, .int .i64 0, .int .i64 0, .int .i64 0, .int .i64 0, .bool false, .bool false] 43)) := (Below.refl _ _).alloc (Nat.le_refl _) _
  have hb' : Below (u.alloc (.cells #[.int .i64 0, .int .i64 0, .int .i64 0, .int .i64 0, .int .i64 0, .int .i64 0, .bool false, .bool false] 43)).heap.size (u.alloc (.cells #[.int .i64 0, .int .i64 0, .int .i64 0, .int .i64 0, .int .i64 0, .int .i64 0, .bool false, .bool false] 43)) w1 := by
    have : (u.alloc (.cells #[.int .i64 0, .int .i64 0, .int .i64 0, .int .i64 0, .int .i64 0, .int .i64 0, .bool false, .bool false] 43)).heap.size = w.heap.size + 2 := by simp [ez]
    rw [this]; exact hb
  refine ⟨a1.trans ((a2.mono a1.size).trans (hb.mono (by omega))), (p1.keep a2).keep hb', ?_⟩
  rw [← ez]
  exact i1.keep hb'
set_option maxHeartbeats 4000000 in
theorem l7Meta_any (w : World) (B : Nat) (b0 b1 b2 : Bool) (l s e g : Int) (x n : Int) (hp : PolAt w B b0 b1 b2 l s e g) :
    Calls Try.prog 49 #[.pointer (some ⟨B, 0, none⟩), .int .i64 x, .int .i64 n] w fun r w' => r = .returned (.agg #[.int .i64 n, .int .i64 g, .int .i64 x, .int .i64 s, .int .i64 e, .bool false, .bool b1]) ∧ Below w.heap.size w w' := by
  have al : Below w.heap.size w (w.alloc (.cells #[.int .i64 0, .int .i64 0, .int .i64 0, .int .i64 0, .int .i64 0, .bool false, .bool false] 25)) := (Below.refl _ _).alloc (Nat.le_refl _) _
  have mn := MetaAt.new w 0 0 0 0 0 false false 25
  have pk := hp.keep al
  obtain ⟨v, hv⟩ : ∃ X, Hid (X = w.alloc (.cells #[.int .i64 0, .int .i64 0, .int .i64 0, .int .i64 0, .int .i64 0, .bool false, .bool false] 25)) := ⟨_, rfl⟩
  rw [← hv.out] at al mn pk
  have HB : Hid (Below w.heap.size w v) := al
  have ne : ¬ B = w.heap.size := by have := hp.lt; omega
  clear al hp
  obtain ⟨c0, c1, c2, c3, c4, c5, c6, _, _⟩ := pk
  obtain ⟨m0, m1, m2, m3, m4, m5, m6, fr, ml⟩ := mn
  have f0 := fr 0
  have f1 := fr 1
  have f2 := fr 2
  have f3 := fr 3
  have f4 := fr 4
  have f5 := fr 5
  have f6 := fr 6
  clear fr
  go_enter Try.func49, Try.ntmps49
  go_upto_region 1 with fail
  rw [← hv.out]
  clear hv
  go_region
  all_goals go_wp2_with fail
  refine bodyPost_ret (v := .agg #[.int .i64 n, .int .i64 g, .int .i64 x, .int .i64 s, .int .i64 e, .bool false, .bool b1]) ?_ rfl ⟨rfl, ?_⟩
  · simp [results, Try.results49, go_sem, m0, m1, m2, m3, m4, m5, m6]
  · exact (((((((HB.out.setCell (Nat.le_refl _) _).setCell (Nat.le_refl _) _).setCell (Nat.le_refl _) _).setCell (Nat.le_refl _) _).setCell (Nat.le_refl _) _).setCell (Nat.le_refl _) _).setCell (Nat.le_refl _) _).drew
set_option maxHeartbeats 8000000 in
theorem specMof_any (b0 b1 b2 : Bool) (l s e g : Int) (st ng n : Int) (w : World) :
    Calls Try.prog 27 #[.agg #[.bool b0, .bool b1, .bool b2, .int .i64 l, .int .i64 s, .int .i64 e, .int .i64 g], .int .i64 st, .int .i64 ng, .int .i64 n] w fun r w' => r = .returned (mofV (lifeC b0 l s e g st ng) (lifeV b0 l s e g st ng) n s e g b1) ∧ Below w.heap.size w w' := by
  have HS : Hid (∀ w, Calls Try.prog 48 #[.agg #[.bool b0, .bool b1, .bool b2, .int .i64 l, .int .i64 s, .int .i64 e, .int .i64 g], .int .i64 st, .int .i64 ng] w fun r w' => r = .returned (.agg #[.int .i64 (lifeC b0 l s e g st ng), .int .i64 (lifeV b0 l s e g st ng)]) ∧ Below w.heap.size w w') := specLife_any b0 b1 b2 l s e g st ng
  have HT : Hid (∀ x w, Calls Try.prog 39 #[.int .i64 x] w fun r w' => r = .returned (.bool (timeB x)) ∧ w' = w) := l1Time_all
  have K0 : Hid (∀ w1, Below (w.heap.size + 2) ((w.alloc (.cells #[.bool b0, .bool b1, .bool b2, .int .i64 l, .int .i64 s, .int .i64 e, .int .i64 g] 39)).alloc (.cells #[.int .i64 0, .int .i64 0, .int .i64 0, .int .i64 0, .int .i64 0, .int .i64 0, .bool false, .bool false] 43)) w1 → Below w.heap.size w w1 ∧ PolAt w1 w.heap.size b0 b1 b2 l s e g ∧ Z8 w1 (w.heap.size + 1) (.int .i64 0) (.int .i64 0) (.int .i64 0) (.int .i64 0) (.int .i64 0) (.int .i64 0) (.bool false) (.bool false)) := fun w1 hb => pol_z8 w w1 b0 b1 b2 l s e g hb
  generalize lifeC b0 l s e g st ng = c at *
  generalize lifeV b0 l s e g st ng = x at *
  by_cases hc : c = 0
  · subst hc
    cases hn : timeB n
    · rw [mof_now hn]
      go_enter Try.func27, Try.ntmps27
      go_wp2_with fail
      refine (HS.out _).mono ?_
      rintro r w1 ⟨rfl, hb1⟩
      have K1 : Hid (Below w.heap.size w w1 ∧ PolAt w1 w.heap.size b0 b1 b2 l s e g ∧ Z8 w1 (w.heap.size + 1) (.int .i64 0) (.int .i64 0) (.int .i64 0) (.int .i64 0) (.int .i64 0) (.int .i64 0) (.bool false) (.bool false)) := K0.out w1 (by simpa using hb1)
      clear hb1 K0
      have al : Below w1.heap.size w1 (w1.alloc (.cells #[.int .i64 0, .int .i64 x] 29)) := (Below.refl _ _).alloc (Nat.le_refl _) _
      have hIR : IR (w1.alloc (.cells #[.int .i64 0, .int .i64 x] 29)) w1.heap.size (.int .i64 0) (.int .i64 x) := IR.new _ _ _ _
      obtain ⟨v1, hv1⟩ : ∃ X, Hid (X = w1.alloc (.cells #[.int .i64 0, .int .i64 x] 29)) := ⟨_, rfl⟩
      rw [← hv1.out] at al hIR
      have K2 : Hid (Below w.heap.size w v1 ∧ PolAt v1 w.heap.size b0 b1 b2 l s e g ∧ Z8 v1 (w.heap.size + 1) (.int .i64 0) (.int .i64 0) (.int .i64 0) (.int .i64 0) (.int .i64 0) (.int .i64 0) (.bool false) (.bool false)) := ⟨K1.out.1.trans (al.mono K1.out.1.size), K1.out.2.1.keep al, K1.out.2.2.keep al⟩
      have HI : Hid (IR v1 w1.heap.size (.int .i64 0) (.int .i64 x)) := hIR
      clear al hIR K1
      go_upto_region 2 with fail
      rw [← hv1.out]
      clear hv1
      generalize w1.heap.size = B1 at *
      clear w1
      have a0 := HI.out.c0
      have a1 := HI.out.c1
      go_wp2_with fail
      refine (HT.out n _).mono ?_
      rintro r w2 ⟨rfl, rfl⟩
      rw [hn]
      have zz : Hid _ := K2.out.2.2.all (.int .i64 3) (.int .i64 0) (.int .i64 0) (.int .i64 0) (.int .i64 0) (.int .i64 0) (.bool false) (.bool false)
      obtain ⟨z0, z1, z2, z3, z4, z5, z6, z7, zf, _⟩ := K2.out.2.2
      have zf0 := zf 0
      have zf1 := zf 1
      have zf2 := zf 2
      have zf3 := zf 3
      have zf4 := zf 4
      have zf5 := zf 5
      have zf6 := zf 6
      have zf7 := zf 7
      clear zf
      go_wp2_with fail
      have r0 := zz.out.c0
      have r1 := zz.out.c1
      have r2 := zz.out.c2
      have r3 := zz.out.c3
      have r4 := zz.out.c4
      have r5 := zz.out.c5
      have r6 := zz.out.c6
      have r7 := zz.out.c7
      refine bodyPost_ret (v := .agg #[.int .i64 3, .int .i64 0, .int .i64 0, .int .i64 0, .int .i64 0, .int .i64 0, .bool false, .bool false]) ?_ rfl ⟨rfl, (((((((K2.out.1.setCell (by simp) _).setCell (by simp) _).setCell (by simp) _).setCell (by simp) _).setCell (by simp) _).setCell (by simp) _).setCell (by simp) _).setCell (by simp) _⟩
      simp [results, Try.results27, go_sem, r0, r1, r2, r3, r4, r5, r6, r7]
    rw [mof_ok hn]
    go_enter Try.func27, Try.ntmps27
    go_wp2_with fail
    refine (HS.out _).mono ?_
    rintro r w1 ⟨rfl, hb1⟩
    have K1 : Hid (Below w.heap.size w w1 ∧ PolAt w1 w.heap.size b0 b1 b2 l s e g ∧ Z8 w1 (w.heap.size + 1) (.int .i64 0) (.int .i64 0) (.int .i64 0) (.int .i64 0) (.int .i64 0) (.int .i64 0) (.bool false) (.bool false)) := K0.out w1 (by simpa using hb1)
    clear hb1 K0
    have al : Below w1.heap.size w1 (w1.alloc (.cells #[.int .i64 0, .int .i64 x] 29)) := (Below.refl _ _).alloc (Nat.le_refl _) _
    have hIR : IR (w1.alloc (.cells #[.int .i64 0, .int .i64 x] 29)) w1.heap.size (.int .i64 0) (.int .i64 x) := IR.new _ _ _ _
    obtain ⟨v1, hv1⟩ : ∃ X, Hid (X = w1.alloc (.cells #[.int .i64 0, .int .i64 x] 29)) := ⟨_, rfl⟩
    rw [← hv1.out] at al hIR
    have K2 : Hid (Below w.heap.size w v1 ∧ PolAt v1 w.heap.size b0 b1 b2 l s e g ∧ Z8 v1 (w.heap.size + 1) (.int .i64 0) (.int .i64 0) (.int .i64 0) (.int .i64 0) (.int .i64 0) (.int .i64 0) (.bool false) (.bool false)) := ⟨K1.out.1.trans (al.mono K1.out.1.size), K1.out.2.1.keep al, K1.out.2.2.keep al⟩
    have HI : Hid (IR v1 w1.heap.size (.int .i64 0) (.int .i64 x)) := hIR
    clear al hIR K1
    go_upto_region 2 with fail
    rw [← hv1.out]
    clear hv1
    generalize w1.heap.size = B1 at *
    clear w1
    have a0 := HI.out.c0
    have a1 := HI.out.c1
    go_wp2_with fail
    refine (HT.out n _).mono ?_
    rintro r w2 ⟨rfl, rfl⟩
    rw [hn]
    go_wp2_with fail
    refine (l7Meta_any _ w.heap.size b0 b1 b2 l s e g x n K2.out.2.1).mono ?_
    rintro r w3 ⟨rfl, hb3⟩
    have K3 : Hid (Below w.heap.size w w3 ∧ PolAt w3 w.heap.size b0 b1 b2 l s e g ∧ Z8 w3 (w.heap.size + 1) (.int .i64 0) (.int .i64 0) (.int .i64 0) (.int .i64 0) (.int .i64 0) (.int .i64 0) (.bool false) (.bool false)) := ⟨K2.out.1.trans (hb3.mono K2.out.1.size), K2.out.2.1.keep hb3, K2.out.2.2.keep hb3⟩
    clear hb3 K2 a0 a1 HI
    have zz : Hid _ := K3.out.2.2.all (.int .i64 0) (.int .i64 n) (.int .i64 g) (.int .i64 x) (.int .i64 s) (.int .i64 e) (.bool false) (.bool b1)
    obtain ⟨z0, z1, z2, z3, z4, z5, z6, z7, zf, _⟩ := K3.out.2.2
    have zf0 := zf 0
    have zf1 := zf 1
    have zf2 := zf 2
    have zf3 := zf 3
    have zf4 := zf 4
    have zf5 := zf 5
    have zf6 := zf 6
    have zf7 := zf 7
    clear zf
    go_wp2_with fail
    have r0 := zz.out.c0
    have r1 := zz.out.c1
    have r2 := zz.out.c2
    have r3 := zz.out.c3
    have r4 := zz.out.c4
    have r5 := zz.out.c5
    have r6 := zz.out.c6
    have r7 := zz.out.c7
    refine bodyPost_ret (v := .agg #[.int .i64 0, .int .i64 n, .int .i64 g, .int .i64 x, .int .i64 s, .int .i64 e, .bool false, .bool b1]) ?_ rfl ⟨rfl, (((((((K3.out.1.setCell (by simp) _).setCell (by simp) _).setCell (by simp) _).setCell (by simp) _).setCell (by simp) _).setCell (by simp) _).setCell (by simp) _).setCell (by simp) _⟩
    simp [results, Try.results27, go_sem, r0, r1, r2, r3, r4, r5, r6, r7]
  · rw [mof_life hc]
    have hcd : (c != 0) = true := by simpa using hc
    clear hc
    go_enter Try.func27, Try.ntmps27
    go_wp2_with fail
    refine (HS.out _).mono ?_
    rintro r w1 ⟨rfl, hb1⟩
    have K1 : Hid (Below w.heap.size w w1 ∧ PolAt w1 w.heap.size b0 b1 b2 l s e g ∧ Z8 w1 (w.heap.size + 1) (.int .i64 0) (.int .i64 0) (.int .i64 0) (.int .i64 0) (.int .i64 0) (.int .i64 0) (.bool false) (.bool false)) := K0.out w1 (by simpa using hb1)
    clear hb1 K0
    have al : Below w1.heap.size w1 (w1.alloc (.cells #[.int .i64 c, .int .i64 x] 29)) := (Below.refl _ _).alloc (Nat.le_refl _) _
    have hIR : IR (w1.alloc (.cells #[.int .i64 c, .int .i64 x] 29)) w1.heap.size (.int .i64 c) (.int .i64 x) := IR.new _ _ _ _
    obtain ⟨v1, hv1⟩ : ∃ X, Hid (X = w1.alloc (.cells #[.int .i64 c, .int .i64 x] 29)) := ⟨_, rfl⟩
    rw [← hv1.out] at al hIR
    have K2 : Hid (Below w.heap.size w v1 ∧ PolAt v1 w.heap.size b0 b1 b2 l s e g ∧ Z8 v1 (w.heap.size + 1) (.int .i64 0) (.int .i64 0) (.int .i64 0) (.int .i64 0) (.int .i64 0) (.int .i64 0) (.bool false) (.bool false)) := ⟨K1.out.1.trans (al.mono K1.out.1.size), K1.out.2.1.keep al, K1.out.2.2.keep al⟩
    have HI : Hid (IR v1 w1.heap.size (.int .i64 c) (.int .i64 x)) := hIR
    clear al hIR K1
    go_upto_region 2 with fail
    rw [← hv1.out]
    clear hv1
    generalize w1.heap.size = B1 at *
    clear w1
    have a0 := HI.out.c0
    have a1 := HI.out.c1
    have zz : Hid _ := K2.out.2.2.all (.int .i64 c) (.int .i64 0) (.int .i64 0) (.int .i64 0) (.int .i64 0) (.int .i64 0) (.bool false) (.bool false)
    obtain ⟨z0, z1, z2, z3, z4, z5, z6, z7, zf, _⟩ := K2.out.2.2
    have zf0 := zf 0
    have zf1 := zf 1
    have zf2 := zf 2
    have zf3 := zf 3
    have zf4 := zf 4
    have zf5 := zf 5
    have zf6 := zf 6
    have zf7 := zf 7
    clear zf
    go_wp2_with fail
    have r0 := zz.out.c0
    have r1 := zz.out.c1
    have r2 := zz.out.c2
    have r3 := zz.out.c3
    have r4 := zz.out.c4
    have r5 := zz.out.c5
    have r6 := zz.out.c6
    have r7 := zz.out.c7
    refine bodyPost_ret (v := .agg #[.int .i64 c, .int .i64 0, .int .i64 0, .int .i64 0, .int .i64 0, .int .i64 0, .bool false, .bool false]) ?_ rfl ⟨rfl, (((((((K2.out.1.setCell (by simp) _).setCell (by simp) _).setCell (by simp) _).setCell (by simp) _).setCell (by simp) _).setCell (by simp) _).setCell (by simp) _).setCell (by simp) _⟩
    simp [results, Try.results27, go_sem, r0, r1, r2, r3, r4, r5, r6, r7]
set_option maxHeartbeats 8000000 in
theorem implMof_any (b0 b1 b2 : Bool) (l s e g : Int) (st ng n : Int) (w : World) :
    Calls Try.prog 25 #[.agg #[.bool b0, .bool b1, .bool b2, .int .i64 l, .int .i64 s, .int .i64 e, .int .i64 g], .int .i64 st, .int .i64 ng, .int .i64 n] w fun r w' => r = .returned (mofV (lifeC b0 l s e g st ng) (lifeV b0 l s e g st ng) n s e g b1) ∧ Below w.heap.size w w' := by
  have HS : Hid (∀ w, Calls Try.prog 45 #[.agg #[.bool b0, .bool b1, .bool b2, .int .i64 l, .int .i64 s, .int .i64 e, .int .i64 g], .int .i64 st, .int .i64 ng] w fun r w' => r = .returned (.agg #[.int .i64 (lifeC b0 l s e g st ng), .int .i64 (lifeV b0 l s e g st ng)]) ∧ Below w.heap.size w w') := implLife_any b0 b1 b2 l s e g st ng
  have HT : Hid (∀ x w, Calls Try.prog 35 #[.int .i64 x] w fun r w' => r = .returned (.bool (timeB x)) ∧ w' = w) := isTime_all
  have K0 : Hid (∀ w1, Below (w.heap.size + 2) ((w.alloc (.cells #[.bool b0, .bool b1, .bool b2, .int .i64 l, .int .i64 s, .int .i64 e, .int .i64 g] 39)).alloc (.cells #[.int .i64 0, .int .i64 0, .int .i64 0, .int .i64 0, .int .i64 0, .int .i64 0, .bool false, .bool false] 43)) w1 → Below w.heap.size w w1 ∧ PolAt w1 w.heap.size b0 b1 b2 l s e g ∧ Z8 w1 (w.heap.size + 1) (.int .i64 0) (.int .i64 0) (.int .i64 0) (.int .i64 0) (.int .i64 0) (.int .i64 0) (.bool false) (.bool false)) := fun w1 hb => pol_z8 w w1 b0 b1 b2 l s e g hb
  generalize lifeC b0 l s e g st ng = c at *
  generalize lifeV b0 l s e g st ng = x at *
  by_cases hc : c = 0
  · subst hc
    cases hn : timeB n
    · rw [mof_now hn]
      go_enter Try.func25, Try.ntmps25
      go_wp2_with fail
      refine (HS.out _).mono ?_
      rintro r w1 ⟨rfl, hb1⟩
      have K1 : Hid (Below w.heap.size w w1 ∧ PolAt w1 w.heap.size b0 b1 b2 l s e g ∧ Z8 w1 (w.heap.size + 1) (.int .i64 0) (.int .i64 0) (.int .i64 0) (.int .i64 0) (.int .i64 0) (.int .i64 0) (.bool false) (.bool false)) := K0.out w1 (by simpa using hb1)
      clear hb1 K0
      have al : Below w1.heap.size w1 (w1.alloc (.cells #[.int .i64 0, .int .i64 x] 29)) := (Below.refl _ _).alloc (Nat.le_refl _) _
      have hIR : IR (w1.alloc (.cells #[.int .i64 0, .int .i64 x] 29)) w1.heap.size (.int .i64 0) (.int .i64 x) := IR.new _ _ _ _
      obtain ⟨v1, hv1⟩ : ∃ X, Hid (X = w1.alloc (.cells #[.int .i64 0, .int .i64 x] 29)) := ⟨_, rfl⟩
      rw [← hv1.out] at al hIR
      have K2 : Hid (Below w.heap.size w v1 ∧ PolAt v1 w.heap.size b0 b1 b2 l s e g ∧ Z8 v1 (w.heap.size + 1) (.int .i64 0) (.int .i64 0) (.int .i64 0) (.int .i64 0) (.int .i64 0) (.int .i64 0) (.bool false) (.bool false)) := ⟨K1.out.1.trans (al.mono K1.out.1.size), K1.out.2.1.keep al, K1.out.2.2.keep al⟩
      have HI : Hid (IR v1 w1.heap.size (.int .i64 0) (.int .i64 x)) := hIR
      clear al hIR K1
      go_upto_region 2 with fail
      rw [← hv1.out]
      clear hv1
      generalize w1.heap.size = B1 at *
      clear w1
      have a0 := HI.out.c0
      have a1 := HI.out.c1
      go_wp2_with fail
      refine (HT.out n _).mono ?_
      rintro r w2 ⟨rfl, rfl⟩
      rw [hn]
      have zz : Hid _ := K2.out.2.2.all (.int .i64 3) (.int .i64 0) (.int .i64 0) (.int .i64 0) (.int .i64 0) (.int .i64 0) (.bool false) (.bool false)
      obtain ⟨z0, z1, z2, z3, z4, z5, z6, z7, zf, _⟩ := K2.out.2.2
      have zf0 := zf 0
      have zf1 := zf 1
      have zf2 := zf 2
      have zf3 := zf 3
      have zf4 := zf 4
      have zf5 := zf 5
      have zf6 := zf 6
      have zf7 := zf 7
      clear zf
      go_wp2_with fail
      have r0 := zz.out.c0
      have r1 := zz.out.c1
      have r2 := zz.out.c2
      have r3 := zz.out.c3
      have r4 := zz.out.c4
      have r5 := zz.out.c5
      have r6 := zz.out.c6
      have r7 := zz.out.c7
      refine bodyPost_ret (v := .agg #[.int .i64 3, .int .i64 0, .int .i64 0, .int .i64 0, .int .i64 0, .int .i64 0, .bool false, .bool false]) ?_ rfl ⟨rfl, (((((((K2.out.1.setCell (by simp) _).setCell (by simp) _).setCell (by simp) _).setCell (by simp) _).setCell (by simp) _).setCell (by simp) _).setCell (by simp) _).setCell (by simp) _⟩
      simp [results, Try.results25, go_sem, r0, r1, r2, r3, r4, r5, r6, r7]
    rw [mof_ok hn]
    go_enter Try.func25, Try.ntmps25
    go_wp2_with fail
    refine (HS.out _).mono ?_
    rintro r w1 ⟨rfl, hb1⟩
    have K1 : Hid (Below w.heap.size w w1 ∧ PolAt w1 w.heap.size b0 b1 b2 l s e g ∧ Z8 w1 (w.heap.size + 1) (.int .i64 0) (.int .i64 0) (.int .i64 0) (.int .i64 0) (.int .i64 0) (.int .i64 0) (.bool false) (.bool false)) := K0.out w1 (by simpa using hb1)
    clear hb1 K0
    have al : Below w1.heap.size w1 (w1.alloc (.cells #[.int .i64 0, .int .i64 x] 29)) := (Below.refl _ _).alloc (Nat.le_refl _) _
    have hIR : IR (w1.alloc (.cells #[.int .i64 0, .int .i64 x] 29)) w1.heap.size (.int .i64 0) (.int .i64 x) := IR.new _ _ _ _
    obtain ⟨v1, hv1⟩ : ∃ X, Hid (X = w1.alloc (.cells #[.int .i64 0, .int .i64 x] 29)) := ⟨_, rfl⟩
    rw [← hv1.out] at al hIR
    have K2 : Hid (Below w.heap.size w v1 ∧ PolAt v1 w.heap.size b0 b1 b2 l s e g ∧ Z8 v1 (w.heap.size + 1) (.int .i64 0) (.int .i64 0) (.int .i64 0) (.int .i64 0) (.int .i64 0) (.int .i64 0) (.bool false) (.bool false)) := ⟨K1.out.1.trans (al.mono K1.out.1.size), K1.out.2.1.keep al, K1.out.2.2.keep al⟩
    have HI : Hid (IR v1 w1.heap.size (.int .i64 0) (.int .i64 x)) := hIR
    clear al hIR K1
    go_upto_region 2 with fail
    rw [← hv1.out]
    clear hv1
    generalize w1.heap.size = B1 at *
    clear w1
    have a0 := HI.out.c0
    have a1 := HI.out.c1
    go_wp2_with fail
    refine (HT.out n _).mono ?_
    rintro r w2 ⟨rfl, rfl⟩
    rw [hn]
    obtain ⟨p0, p1, p2, p3, p4, p5, p6, _, _⟩ := K2.out.2.1
    have zz : Hid _ := K2.out.2.2.all (.int .i64 0) (.int .i64 n) (.int .i64 g) (.int .i64 x) (.int .i64 s) (.int .i64 e) (.bool false) (.bool b1)
    obtain ⟨z0, z1, z2, z3, z4, z5, z6, z7, zf, _⟩ := K2.out.2.2
    have zf0 := zf 0
    have zf1 := zf 1
    have zf2 := zf 2
    have zf3 := zf 3
    have zf4 := zf 4
    have zf5 := zf 5
    have zf6 := zf 6
    have zf7 := zf 7
    clear zf
    go_wp2_with fail
    have r0 := zz.out.c0
    have r1 := zz.out.c1
    have r2 := zz.out.c2
    have r3 := zz.out.c3
    have r4 := zz.out.c4
    have r5 := zz.out.c5
    have r6 := zz.out.c6
    have r7 := zz.out.c7
    refine bodyPost_ret (v := .agg #[.int .i64 0, .int .i64 n, .int .i64 g, .int .i64 x, .int .i64 s, .int .i64 e, .bool false, .bool b1]) ?_ rfl ⟨rfl, (((((((K2.out.1.setCell (by simp) _).setCell (by simp) _).setCell (by simp) _).setCell (by simp) _).setCell (by simp) _).setCell (by simp) _).setCell (by simp) _).setCell (by simp) _⟩
    simp [results, Try.results25, go_sem, r0, r1, r2, r3, r4, r5, r6, r7]
  · rw [mof_life hc]
    have hcd : (c != 0) = true := by simpa using hc
    clear hc
    go_enter Try.func25, Try.ntmps25
    go_wp2_with fail
    refine (HS.out _).mono ?_
    rintro r w1 ⟨rfl, hb1⟩
    have K1 : Hid (Below w.heap.size w w1 ∧ PolAt w1 w.heap.size b0 b1 b2 l s e g ∧ Z8 w1 (w.heap.size + 1) (.int .i64 0) (.int .i64 0) (.int .i64 0) (.int .i64 0) (.int .i64 0) (.int .i64 0) (.bool false) (.bool false)) := K0.out w1 (by simpa using hb1)
    clear hb1 K0
    have al : Below w1.heap.size w1 (w1.alloc (.cells #[.int .i64 c, .int .i64 x] 29)) := (Below.refl _ _).alloc (Nat.le_refl _) _
    have hIR : IR (w1.alloc (.cells #[.int .i64 c, .int .i64 x] 29)) w1.heap.size (.int .i64 c) (.int .i64 x) := IR.new _ _ _ _
    obtain ⟨v1, hv1⟩ : ∃ X, Hid (X = w1.alloc (.cells #[.int .i64 c, .int .i64 x] 29)) := ⟨_, rfl⟩
    rw [← hv1.out] at al hIR
    have K2 : Hid (Below w.heap.size w v1 ∧ PolAt v1 w.heap.size b0 b1 b2 l s e g ∧ Z8 v1 (w.heap.size + 1) (.int .i64 0) (.int .i64 0) (.int .i64 0) (.int .i64 0) (.int .i64 0) (.int .i64 0) (.bool false) (.bool false)) := ⟨K1.out.1.trans (al.mono K1.out.1.size), K1.out.2.1.keep al, K1.out.2.2.keep al⟩
    have HI : Hid (IR v1 w1.heap.size (.int .i64 c) (.int .i64 x)) := hIR
    clear al hIR K1
    go_upto_region 2 with fail
    rw [← hv1.out]
    clear hv1
    generalize w1.heap.size = B1 at *
    clear w1
    have a0 := HI.out.c0
    have a1 := HI.out.c1
    have zz : Hid _ := K2.out.2.2.all (.int .i64 c) (.int .i64 0) (.int .i64 0) (.int .i64 0) (.int .i64 0) (.int .i64 0) (.bool false) (.bool false)
    obtain ⟨z0, z1, z2, z3, z4, z5, z6, z7, zf, _⟩ := K2.out.2.2
    have zf0 := zf 0
    have zf1 := zf 1
    have zf2 := zf 2
    have zf3 := zf 3
    have zf4 := zf 4
    have zf5 := zf 5
    have zf6 := zf 6
    have zf7 := zf 7
    clear zf
    go_wp2_with fail
    have r0 := zz.out.c0
    have r1 := zz.out.c1
    have r2 := zz.out.c2
    have r3 := zz.out.c3
    have r4 := zz.out.c4
    have r5 := zz.out.c5
    have r6 := zz.out.c6
    have r7 := zz.out.c7
    refine bodyPost_ret (v := .agg #[.int .i64 c, .int .i64 0, .int .i64 0, .int .i64 0, .int .i64 0, .int .i64 0, .bool false, .bool false]) ?_ rfl ⟨rfl, (((((((K2.out.1.setCell (by simp) _).setCell (by simp) _).setCell (by simp) _).setCell (by simp) _).setCell (by simp) _).setCell (by simp) _).setCell (by simp) _).setCell (by simp) _⟩
    simp [results, Try.results25, go_sem, r0, r1, r2, r3, r4, r5, r6, r7]
set_option maxHeartbeats 2000000 in
theorem eqMeta_same (t g l s e : Int) (b1 b2 : Bool) (w : World) : Calls Try.prog 50 #[.agg #[.int .i64 t, .int .i64 g, .int .i64 l, .int .i64 s, .int .i64 e, .bool b1, .bool b2], .agg #[.int .i64 t, .int .i64 g, .int .i64 l, .int .i64 s, .int .i64 e, .bool b1, .bool b2]] w fun r w' => r = .returned (.bool true) ∧ Below w.heap.size w w' := by
  have e1 : (b1 != b1) = false := by simp
  have e2 : (b2 != b2) = false := by simp
  go_enter Try.func50, Try.ntmps50
  go_wp2
  go_ret
  exact ⟨rfl, ((Below.refl w.heap.size w).alloc (Nat.le_refl _) _).alloc (by simp) _⟩
set_option maxHeartbeats 2000000 in
theorem eqMetaResult_same (c : Int) (t g l s e : Int) (b1 b2 : Bool) (w : World) : Calls Try.prog 30 #[.agg #[.int .i64 c, .int .i64 t, .int .i64 g, .int .i64 l, .int .i64 s, .int .i64 e, .bool b1, .bool b2], .agg #[.int .i64 c, .int .i64 t, .int .i64 g, .int .i64 l, .int .i64 s, .int .i64 e, .bool b1, .bool b2]] w fun r w' => r = .returned (.bool true) ∧ Below w.heap.size w w' := by
  have HE : Hid (∀ w, Calls Try.prog 50 #[.agg #[.int .i64 t, .int .i64 g, .int .i64 l, .int .i64 s, .int .i64 e, .bool b1, .bool b2], .agg #[.int .i64 t, .int .i64 g, .int .i64 l, .int .i64 s, .int .i64 e, .bool b1, .bool b2]] w fun r w' => r = .returned (.bool true) ∧ Below w.heap.size w w') := eqMeta_same t g l s e b1 b2
  go_enter Try.func30, Try.ntmps30
  go_wp2_with fail
  refine (HE.out _).mono ?_
  rintro r w1 ⟨rfl, hb1⟩
  have HB : Hid (Below w.heap.size w w1) := (((Below.refl w.heap.size w).alloc (Nat.le_refl _) _).alloc (by simp) _).trans (hb1.mono (by simp; omega))
  clear hb1
  go_wp2_with fail
  go_ret
  exact ⟨rfl, HB.out⟩
theorem mofV_agg (c x n s e g : Int) (b1 : Bool) : ∃ (q : Int) (t g' l' s' e' : Int) (c1 c2 : Bool), mofV c x n s e g b1 = .agg #[.int .i64 q, .int .i64 t, .int .i64 g', .int .i64 l', .int .i64 s', .int .i64 e', .bool c1, .bool c2] := by
  unfold mofV; split
  · exact ⟨_, _, _, _, _, _, _, _, rfl⟩
  · exact ⟨_, _, _, _, _, _, _, _, rfl⟩
end Go.Proofs.Ytnbbbmhfmjkhbaa
