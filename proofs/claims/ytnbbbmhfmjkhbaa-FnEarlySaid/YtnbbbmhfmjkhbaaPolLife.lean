/-
  StoreLife, on both sides.
-/
import Derived.Test.YtnbbbmhfmjkhbaaPolFault
namespace Go.Proofs.Ytnbbbmhfmjkhbaa
open Go.ChangeShapes Go.WideShapes Go.ChangeAt Go.RowKit
/-- Two cells that may be written. -/
structure IR (w : World) (b : Nat) (v0 v1 : Value) : Prop where
  c0 : w.cell? ⟨b, 0, none⟩ = some v0
  c1 : w.cell? ⟨b, 1, none⟩ = some v1
  fr : ∀ o, w.frozen? ⟨b, o, none⟩ = false
  lt : b < w.heap.size
theorem IR.keep {w w' : World} {b : Nat} {v0 v1 : Value} (k : IR w b v0 v1) (hb : Below w.heap.size w w') : IR w' b v0 v1 :=
  ⟨by rw [hb.cell (p := ⟨b, 0, none⟩) k.lt]; exact k.c0, by rw [hb.cell (p := ⟨b, 1, none⟩) k.lt]; exact k.c1, fun o => by rw [hb.frozen (p := ⟨b, o, none⟩) k.lt]; exact k.fr o, Nat.lt_of_lt_of_le k.lt hb.size⟩
theorem IR.new (w : World) (v0 v1 : Value) (t : TypeId) : IR (w.alloc (.cells #[v0, v1] t)) w.heap.size v0 v1 :=
  ⟨by rw [World.cell?_alloc_mark]; rfl, by rw [World.cell?_alloc_mark]; rfl, fun o => by have e := heap_alloc_new w (.cells #[v0, v1] t); unfold World.frozen?; rw [e]; simp, by simp⟩
def statB (st : Int) : Bool := decide (st = 200) || decide (st = 404) || decide (st = 410)
/-- Whether an answer may be kept. -/
def keepB (b0 : Bool) (l st : Int) : Bool := !b0 && statB st && !(decide (st = 200) && decide (l = -1))
def lifeX (l ng : Int) : Int := if l = -1 then ng else l
def rangeB (st ng : Int) : Bool := decide (200 ≤ st) && decide (st ≤ 599) && timeB ng
def lifeC (b0 : Bool) (l s e g st ng : Int) : Int := if polB l s e g = true then (if rangeB st ng = true then (if keepB b0 l st = true then 0 else 4) else 3) else 3
def lifeV (b0 : Bool) (l s e g st ng : Int) : Int := if lifeC b0 l s e g st ng = 0 then lifeX l ng else 0
theorem life_pol {b0 : Bool} {l s e g st ng : Int} (h : polB l s e g = false) : lifeC b0 l s e g st ng = 3 ∧ lifeV b0 l s e g st ng = 0 := by
  have c : lifeC b0 l s e g st ng = 3 := by rw [lifeC, if_neg (by rw [h]; decide)]
  exact ⟨c, by rw [lifeV, c, if_neg (by decide)]⟩
theorem life_range {b0 : Bool} {l s e g st ng : Int} (h : polB l s e g = true) (h2 : rangeB st ng = false) : lifeC b0 l s e g st ng = 3 ∧ lifeV b0 l s e g st ng = 0 := by
  have c : lifeC b0 l s e g st ng = 3 := by rw [lifeC, if_pos h, if_neg (by rw [h2]; decide)]
  exact ⟨c, by rw [lifeV, c, if_neg (by decide)]⟩
theorem life_none {b0 : Bool} {l s e g st ng : Int} (h : polB l s e g = true) (h2 : rangeB st ng = true) (h3 : keepB b0 l st = false) : lifeC b0 l s e g st ng = 4 ∧ lifeV b0 l s e g st ng = 0 := by
  have c : lifeC b0 l s e g st ng = 4 := by rw [lifeC, if_pos h, if_pos h2, if_neg (by rw [h3]; decide)]
  exact ⟨c, by rw [lifeV, c, if_neg (by decide)]⟩
theorem life_ok {b0 : Bool} {l s e g st ng : Int} (h : polB l s e g = true) (h2 : rangeB st ng = true) (h3 : keepB b0 l st = true) : lifeC b0 l s e g st ng = 0 ∧ lifeV b0 l s e g st ng = lifeX l ng := by
  have c : lifeC b0 l s e g st ng = 0 := by rw [lifeC, if_pos h, if_pos h2, if_pos h3]
  exact ⟨c, by rw [lifeV, if_pos c]⟩
theorem lifeX_told {l ng : Int} (h : ¬ l = -1) : lifeX l ng = l := by rw [lifeX, if_neg h]
theorem lifeX_not {ng : Int} : lifeX (-1) ng = ng := by rw [lifeX, if_pos rfl]
theorem mayKeep_any (st : Int) (w : World) : Calls Try.prog 61 #[.int .i64 st] w fun r w' => r = .returned (.bool (statB st)) ∧ w' = w := by
  by_cases c1 : st = 200
  · subst c1
    have e : statB 200 = true := by decide
    rw [e]
    go_enter Try.func61, Try.ntmps61
    go_wp2
    go_ret
    exact ⟨rfl, rfl⟩
  by_cases c2 : st = 404
  · subst c2
    have e : statB 404 = true := by decide
    rw [e]
    go_enter Try.func61, Try.ntmps61
    go_wp2
    go_ret
    exact ⟨rfl, rfl⟩
  by_cases c3 : st = 410
  · subst c3
    have e : statB 410 = true := by decide
    rw [e]
    go_enter Try.func61, Try.ntmps61
    go_wp2
    go_ret
    exact ⟨rfl, rfl⟩
  have e : statB st = false := by simp [statB, c1, c2, c3]
  rw [e]
  have d1 : (st == 200) = false := by simpa using c1
  have d2 : (st == 404) = false := by simpa using c2
  have d3 : (st == 410) = false := by simpa using c3
  go_enter Try.func61, Try.ntmps61
  go_wp2
  go_ret
  exact ⟨rfl, rfl⟩
theorem l1In_all (x lo hi : Int) (w : World) : Calls Try.prog 46 #[.int .i64 x, .int .i64 lo, .int .i64 hi] w fun r w' => r = .returned (.bool (decide (lo ≤ x) && decide (x ≤ hi))) ∧ w' = w := by
  by_cases c1 : lo ≤ x
  · by_cases c2 : x ≤ hi
    · have e : (decide (lo ≤ x) && decide (x ≤ hi)) = true := by simp [c1, c2]
      rw [e]
      have d2 : decide (x ≤ hi) = true := by simp [c2]
      go_enter Try.func46, Try.ntmps46
      go_wp2
      go_ret
      exact ⟨rfl, rfl⟩
    · have e : (decide (lo ≤ x) && decide (x ≤ hi)) = false := by simp [c2]
      rw [e]
      have d2 : decide (x ≤ hi) = false := by simp [c2]
      go_enter Try.func46, Try.ntmps46
      go_wp2
      go_ret
      exact ⟨rfl, rfl⟩
  · have e : (decide (lo ≤ x) && decide (x ≤ hi)) = false := by simp [c1]
    rw [e]
    go_enter Try.func46, Try.ntmps46
    go_wp2
    go_ret
    exact ⟨rfl, rfl⟩
def lifeT (b0 : Bool) (l st ng : Int) : Value := .tuple #[.int .i64 (if keepB b0 l st = true then lifeX l ng else 0), .bool (keepB b0 l st)]
set_option maxHeartbeats 4000000 in
theorem l6Life_any (w : World) (B : Nat) (b0 b1 b2 : Bool) (l s e g st ng : Int) (hp : PolAt w B b0 b1 b2 l s e g) :
    Calls Try.prog 64 #[.pointer (some ⟨B, 0, none⟩), .int .i64 st, .int .i64 ng] w fun r w' => r = .returned (lifeT b0 l st ng) ∧ w' = w := by
  obtain ⟨c0, _, _, c3, _, _, _, _, _⟩ := hp
  cases b0
  · by_cases hl : l = -1
    · subst hl
      by_cases h200 : st = 200
      · subst h200
        have e : lifeT false (-1) 200 ng = .tuple #[.int .i64 0, .bool false] := by have k : keepB false (-1) 200 = false := (by decide); simp [lifeT, k]
        rw [e]
        go_enter Try.func64, Try.ntmps64
        go_wp2_with fail
        go_ret2
        exact ⟨rfl, rfl⟩
      by_cases h404 : st = 404
      · subst h404
        have e : lifeT false (-1) 404 ng = .tuple #[.int .i64 ng, .bool true] := by have k : keepB false (-1) 404 = true := (by decide); simp [lifeT, k, lifeX_not]
        rw [e]
        go_enter Try.func64, Try.ntmps64
        go_wp2_with fail
        go_ret2
        exact ⟨rfl, rfl⟩
      by_cases h410 : st = 410
      · subst h410
        have e : lifeT false (-1) 410 ng = .tuple #[.int .i64 ng, .bool true] := by have k : keepB false (-1) 410 = true := (by decide); simp [lifeT, k, lifeX_not]
        rw [e]
        go_enter Try.func64, Try.ntmps64
        go_wp2_with fail
        go_ret2
        exact ⟨rfl, rfl⟩
      have e : lifeT false (-1) st ng = .tuple #[.int .i64 0, .bool false] := by have k : keepB false (-1) st = false := (by simp [keepB, statB, h200, h404, h410]); simp [lifeT, k]
      rw [e]
      have d1 : (st != 200) = true := by simpa using h200
      have d2 : (st != 404) = true := by simpa using h404
      have d3 : (st != 410) = true := by simpa using h410
      have d4 : (st == 200) = false := by simpa using h200
      go_enter Try.func64, Try.ntmps64
      go_wp2_with fail
      go_ret2
      exact ⟨rfl, rfl⟩
    · have hl1 : (l != -1) = true := by simpa using hl
      by_cases h200 : st = 200
      · subst h200
        have e : lifeT false l 200 ng = .tuple #[.int .i64 l, .bool true] := by have k : keepB false l 200 = true := (by simp [keepB, statB, hl]); simp [lifeT, k, lifeX_told hl]
        rw [e]
        go_enter Try.func64, Try.ntmps64
        go_wp2_with fail
        go_ret2
        exact ⟨rfl, rfl⟩
      by_cases h404 : st = 404
      · subst h404
        have e : lifeT false l 404 ng = .tuple #[.int .i64 l, .bool true] := by have k : keepB false l 404 = true := (by simp [keepB, statB, hl]); simp [lifeT, k, lifeX_told hl]
        rw [e]
        go_enter Try.func64, Try.ntmps64
        go_wp2_with fail
        go_ret2
        exact ⟨rfl, rfl⟩
      by_cases h410 : st = 410
      · subst h410
        have e : lifeT false l 410 ng = .tuple #[.int .i64 l, .bool true] := by have k : keepB false l 410 = true := (by simp [keepB, statB, hl]); simp [lifeT, k, lifeX_told hl]
        rw [e]
        go_enter Try.func64, Try.ntmps64
        go_wp2_with fail
        go_ret2
        exact ⟨rfl, rfl⟩
      have e : lifeT false l st ng = .tuple #[.int .i64 0, .bool false] := by have k : keepB false l st = false := (by simp [keepB, statB, h200, h404, h410]); simp [lifeT, k]
      rw [e]
      have d1 : (st != 200) = true := by simpa using h200
      have d2 : (st != 404) = true := by simpa using h404
      have d3 : (st != 410) = true := by simpa using h410
      have d4 : (st == 200) = false := by simpa using h200
      go_enter Try.func64, Try.ntmps64
      go_wp2_with fail
      go_ret2
      exact ⟨rfl, rfl⟩
  · have e : lifeT true l st ng = .tuple #[.int .i64 0, .bool false] := by have k : keepB true l st = false := (by simp [keepB]); simp [lifeT, k]
    rw [e]
    go_enter Try.func64, Try.ntmps64
    go_wp2_with fail
    go_ret2
    exact ⟨rfl, rfl⟩
set_option maxHeartbeats 8000000 in
theorem specLife_any (b0 b1 b2 : Bool) (l s e g st ng : Int) (w : World) :
    Calls Try.prog 48 #[.agg #[.bool b0, .bool b1, .bool b2, .int .i64 l, .int .i64 s, .int .i64 e, .int .i64 g], .int .i64 st, .int .i64 ng] w fun r w' => r = .returned (.agg #[.int .i64 (lifeC b0 l s e g st ng), .int .i64 (lifeV b0 l s e g st ng)]) ∧ Below w.heap.size w w' := by
  have HP : Hid (∀ w, Calls Try.prog 63 #[.agg #[.bool b0, .bool b1, .bool b2, .int .i64 l, .int .i64 s, .int .i64 e, .int .i64 g]] w fun r w' => r = .returned (.int .i64 (polC l s e g)) ∧ Below w.heap.size w w') := specPol_any b0 b1 b2 l s e g
  have HT : Hid (∀ x w, Calls Try.prog 39 #[.int .i64 x] w fun r w' => r = .returned (.bool (timeB x)) ∧ w' = w) := l1Time_all
  have K0 : Hid (∀ w1, Below (w.heap.size + 2) ((w.alloc (.cells #[.bool b0, .bool b1, .bool b2, .int .i64 l, .int .i64 s, .int .i64 e, .int .i64 g] 39)).alloc (.cells #[.int .i64 0, .int .i64 0] 29)) w1 → Below w.heap.size w w1 ∧ PolAt w1 w.heap.size b0 b1 b2 l s e g ∧ IR w1 (w.heap.size + 1) (.int .i64 0) (.int .i64 0)) := fun w1 hb => by
    have a1 : Below w.heap.size w (w.alloc (.cells #[.bool b0, .bool b1, .bool b2, .int .i64 l, .int .i64 s, .int .i64 e, .int .i64 g] 39)) := (Below.refl _ _).alloc (Nat.le_refl _) _
    have p1 := PolAt.new w b0 b1 b2 l s e g 39
    have i1 := IR.new (w.alloc (.cells #[.bool b0, .bool b1, .bool b2, .int .i64 l, .int .i64 s, .int .i64 e, .int .i64 g] 39)) (.int .i64 0) (.int .i64 0) 29
    have a2 : Below (w.alloc (.cells #[.bool b0, .bool b1, .bool b2, .int .i64 l, .int .i64 s, .int .i64 e, .int .i64 g] 39)).heap.size (w.alloc (.cells #[.bool b0, .bool b1, .bool b2, .int .i64 l, .int .i64 s, .int .i64 e, .int .i64 g] 39)) ((w.alloc (.cells #[.bool b0, .bool b1, .bool b2, .int .i64 l, .int .i64 s, .int .i64 e, .int .i64 g] 39)).alloc (.cells #[.int .i64 0, .int .i64 0] 29)) := (Below.refl _ _).alloc (Nat.le_refl _) _
    have ez : (w.alloc (.cells #[.bool b0, .bool b1, .bool b2, .int .i64 l, .int .i64 s, .int .i64 e, .int .i64 g] 39)).heap.size = w.heap.size + 1 := by simp
    have hb' : Below ((w.alloc (.cells #[.bool b0, .bool b1, .bool b2, .int .i64 l, .int .i64 s, .int .i64 e, .int .i64 g] 39)).alloc (.cells #[.int .i64 0, .int .i64 0] 29)).heap.size ((w.alloc (.cells #[.bool b0, .bool b1, .bool b2, .int .i64 l, .int .i64 s, .int .i64 e, .int .i64 g] 39)).alloc (.cells #[.int .i64 0, .int .i64 0] 29)) w1 := by simpa using hb
    refine ⟨a1.trans ((a2.mono (by simp)).trans (hb.mono (by omega))), (p1.keep a2).keep hb', ?_⟩
    rw [ez] at i1
    exact i1.keep hb'
  cases hp : polB l s e g
  · rw [(life_pol hp).1, (life_pol hp).2]
    rw [polC_bad hp] at HP
    go_enter Try.func48, Try.ntmps48
    go_wp2_with fail
    refine (HP.out _).mono ?_
    rintro r w1 ⟨rfl, hb1⟩
    have K1 : Hid (Below w.heap.size w w1 ∧ PolAt w1 w.heap.size b0 b1 b2 l s e g ∧ IR w1 (w.heap.size + 1) (.int .i64 0) (.int .i64 0)) := K0.out w1 (by simpa using hb1)
    clear hb1 K0
    obtain ⟨r0, r1, rf, _⟩ := K1.out.2.2
    have rf0 := rf 0
    have rf1 := rf 1
    clear rf
    go_wp2_with fail
    refine bodyPost_ret (v := .agg #[.int .i64 3, .int .i64 0]) ?_ rfl ⟨rfl, (K1.out.1.setCell (by simp) _).setCell (by simp) _⟩
    simp [results, Try.results48, go_sem, r0, r1]
  rw [polC_ok hp] at HP
  have HI : Hid (∀ w, Calls Try.prog 46 #[.int .i64 st, .int .i64 200, .int .i64 599] w fun r w' => r = .returned (.bool (decide (200 ≤ st) && decide (st ≤ 599))) ∧ w' = w) := l1In_all st 200 599
  cases hr : (decide (200 ≤ st) && decide (st ≤ 599))
  · have hq : rangeB st ng = false := by rw [rangeB, hr]; rfl
    rw [(life_range hp hq).1, (life_range hp hq).2]
    rw [hr] at HI
    go_enter Try.func48, Try.ntmps48
    go_wp2_with fail
    refine (HP.out _).mono ?_
    rintro r w1 ⟨rfl, hb1⟩
    have K1 : Hid (Below w.heap.size w w1 ∧ PolAt w1 w.heap.size b0 b1 b2 l s e g ∧ IR w1 (w.heap.size + 1) (.int .i64 0) (.int .i64 0)) := K0.out w1 (by simpa using hb1)
    clear hb1 K0
    go_wp2_with fail
    refine (HI.out _).mono ?_
    rintro r w2 ⟨rfl, rfl⟩
    obtain ⟨r0, r1, rf, _⟩ := K1.out.2.2
    have rf0 := rf 0
    have rf1 := rf 1
    clear rf
    go_wp2_with fail
    refine bodyPost_ret (v := .agg #[.int .i64 3, .int .i64 0]) ?_ rfl ⟨rfl, (K1.out.1.setCell (by simp) _).setCell (by simp) _⟩
    simp [results, Try.results48, go_sem, r0, r1]
  rw [hr] at HI
  cases ht : timeB ng
  · have hq : rangeB st ng = false := by rw [rangeB, hr, ht]; rfl
    rw [(life_range hp hq).1, (life_range hp hq).2]
    go_enter Try.func48, Try.ntmps48
    go_wp2_with fail
    refine (HP.out _).mono ?_
    rintro r w1 ⟨rfl, hb1⟩
    have K1 : Hid (Below w.heap.size w w1 ∧ PolAt w1 w.heap.size b0 b1 b2 l s e g ∧ IR w1 (w.heap.size + 1) (.int .i64 0) (.int .i64 0)) := K0.out w1 (by simpa using hb1)
    clear hb1 K0
    go_wp2_with fail
    refine (HI.out _).mono ?_
    rintro r w2 ⟨rfl, rfl⟩
    go_wp2_with fail
    refine (HT.out ng _).mono ?_
    rintro r w2 ⟨rfl, rfl⟩
    rw [ht]
    obtain ⟨r0, r1, rf, _⟩ := K1.out.2.2
    have rf0 := rf 0
    have rf1 := rf 1
    clear rf
    go_wp2_with fail
    refine bodyPost_ret (v := .agg #[.int .i64 3, .int .i64 0]) ?_ rfl ⟨rfl, (K1.out.1.setCell (by simp) _).setCell (by simp) _⟩
    simp [results, Try.results48, go_sem, r0, r1]
  have hq : rangeB st ng = true := by rw [rangeB, hr, ht]; rfl
  have HL : Hid (∀ X, PolAt X w.heap.size b0 b1 b2 l s e g → Calls Try.prog 64 #[.pointer (some ⟨w.heap.size, 0, none⟩), .int .i64 st, .int .i64 ng] X fun r w' => r = .returned (lifeT b0 l st ng) ∧ w' = X) := fun X hX => l6Life_any X _ b0 b1 b2 l s e g st ng hX
  unfold lifeT at HL
  cases hk : keepB b0 l st
  · rw [(life_none hp hq hk).1, (life_none hp hq hk).2]
    rw [hk, if_neg (by decide)] at HL
    go_enter Try.func48, Try.ntmps48
    go_wp2_with fail
    refine (HP.out _).mono ?_
    rintro r w1 ⟨rfl, hb1⟩
    have K1 : Hid (Below w.heap.size w w1 ∧ PolAt w1 w.heap.size b0 b1 b2 l s e g ∧ IR w1 (w.heap.size + 1) (.int .i64 0) (.int .i64 0)) := K0.out w1 (by simpa using hb1)
    clear hb1 K0
    go_wp2_with fail
    refine (HI.out _).mono ?_
    rintro r w2 ⟨rfl, rfl⟩
    go_wp2_with fail
    refine (HT.out ng _).mono ?_
    rintro r w2 ⟨rfl, rfl⟩
    rw [ht]
    go_wp2_with fail
    refine (HL.out _ K1.out.2.1).mono ?_
    rintro r w2 ⟨rfl, rfl⟩
    obtain ⟨r0, r1, rf, _⟩ := K1.out.2.2
    have rf0 := rf 0
    have rf1 := rf 1
    clear rf
    go_wp2_with fail
    refine bodyPost_ret (v := .agg #[.int .i64 4, .int .i64 0]) ?_ rfl ⟨rfl, (K1.out.1.setCell (by simp) _).setCell (by simp) _⟩
    simp [results, Try.results48, go_sem, r0, r1]
  rw [(life_ok hp hq hk).1, (life_ok hp hq hk).2]
  rw [hk, if_pos rfl] at HL
  generalize lifeX l ng = x at *
  go_enter Try.func48, Try.ntmps48
  go_wp2_with fail
  refine (HP.out _).mono ?_
  rintro r w1 ⟨rfl, hb1⟩
  have K1 : Hid (Below w.heap.size w w1 ∧ PolAt w1 w.heap.size b0 b1 b2 l s e g ∧ IR w1 (w.heap.size + 1) (.int .i64 0) (.int .i64 0)) := K0.out w1 (by simpa using hb1)
  clear hb1 K0
  go_wp2_with fail
  refine (HI.out _).mono ?_
  rintro r w2 ⟨rfl, rfl⟩
  go_wp2_with fail
  refine (HT.out ng _).mono ?_
  rintro r w2 ⟨rfl, rfl⟩
  rw [ht]
  go_wp2_with fail
  refine (HL.out _ K1.out.2.1).mono ?_
  rintro r w2 ⟨rfl, rfl⟩
  obtain ⟨r0, r1, rf, _⟩ := K1.out.2.2
  have rf0 := rf 0
  have rf1 := rf 1
  clear rf
  go_wp2_with fail
  refine bodyPost_ret (v := .agg #[.int .i64 0, .int .i64 x]) ?_ rfl ⟨rfl, (K1.out.1.setCell (by simp) _).setCell (by simp) _⟩
  simp [results, Try.results48, go_sem, r0, r1]
set_option maxHeartbeats 8000000 in
theorem implLife_any (b0 b1 b2 : Bool) (l s e g st ng : Int) (w : World) :
    Calls Try.prog 45 #[.agg #[.bool b0, .bool b1, .bool b2, .int .i64 l, .int .i64 s, .int .i64 e, .int .i64 g], .int .i64 st, .int .i64 ng] w fun r w' => r = .returned (.agg #[.int .i64 (lifeC b0 l s e g st ng), .int .i64 (lifeV b0 l s e g st ng)]) ∧ Below w.heap.size w w' := by
  have HP : Hid (∀ w, Calls Try.prog 60 #[.agg #[.bool b0, .bool b1, .bool b2, .int .i64 l, .int .i64 s, .int .i64 e, .int .i64 g]] w fun r w' => r = .returned (.int .i64 (polC l s e g)) ∧ Below w.heap.size w w') := implPol_any b0 b1 b2 l s e g
  have HT : Hid (∀ x w, Calls Try.prog 35 #[.int .i64 x] w fun r w' => r = .returned (.bool (timeB x)) ∧ w' = w) := isTime_all
  have K0 : Hid (∀ w1, Below (w.heap.size + 2) ((w.alloc (.cells #[.bool b0, .bool b1, .bool b2, .int .i64 l, .int .i64 s, .int .i64 e, .int .i64 g] 39)).alloc (.cells #[.int .i64 0, .int .i64 0] 29)) w1 → Below w.heap.size w w1 ∧ PolAt w1 w.heap.size b0 b1 b2 l s e g ∧ IR w1 (w.heap.size + 1) (.int .i64 0) (.int .i64 0)) := fun w1 hb => by
    have a1 : Below w.heap.size w (w.alloc (.cells #[.bool b0, .bool b1, .bool b2, .int .i64 l, .int .i64 s, .int .i64 e, .int .i64 g] 39)) := (Below.refl _ _).alloc (Nat.le_refl _) _
    have p1 := PolAt.new w b0 b1 b2 l s e g 39
    have i1 := IR.new (w.alloc (.cells #[.bool b0, .bool b1, .bool b2, .int .i64 l, .int .i64 s, .int .i64 e, .int .i64 g] 39)) (.int .i64 0) (.int .i64 0) 29
    have a2 : Below (w.alloc (.cells #[.bool b0, .bool b1, .bool b2, .int .i64 l, .int .i64 s, .int .i64 e, .int .i64 g] 39)).heap.size (w.alloc (.cells #[.bool b0, .bool b1, .bool b2, .int .i64 l, .int .i64 s, .int .i64 e, .int .i64 g] 39)) ((w.alloc (.cells #[.bool b0, .bool b1, .bool b2, .int .i64 l, .int .i64 s, .int .i64 e, .int .i64 g] 39)).alloc (.cells #[.int .i64 0, .int .i64 0] 29)) := (Below.refl _ _).alloc (Nat.le_refl _) _
    have ez : (w.alloc (.cells #[.bool b0, .bool b1, .bool b2, .int .i64 l, .int .i64 s, .int .i64 e, .int .i64 g] 39)).heap.size = w.heap.size + 1 := by simp
    have hb' : Below ((w.alloc (.cells #[.bool b0, .bool b1, .bool b2, .int .i64 l, .int .i64 s, .int .i64 e, .int .i64 g] 39)).alloc (.cells #[.int .i64 0, .int .i64 0] 29)).heap.size ((w.alloc (.cells #[.bool b0, .bool b1, .bool b2, .int .i64 l, .int .i64 s, .int .i64 e, .int .i64 g] 39)).alloc (.cells #[.int .i64 0, .int .i64 0] 29)) w1 := by simpa using hb
    refine ⟨a1.trans ((a2.mono (by simp)).trans (hb.mono (by omega))), (p1.keep a2).keep hb', ?_⟩
    rw [ez] at i1
    exact i1.keep hb'
  cases hp : polB l s e g
  · rw [(life_pol hp).1, (life_pol hp).2]
    rw [polC_bad hp] at HP
    go_enter Try.func45, Try.ntmps45
    go_wp2_with fail
    refine (HP.out _).mono ?_
    rintro r w1 ⟨rfl, hb1⟩
    have K1 : Hid (Below w.heap.size w w1 ∧ PolAt w1 w.heap.size b0 b1 b2 l s e g ∧ IR w1 (w.heap.size + 1) (.int .i64 0) (.int .i64 0)) := K0.out w1 (by simpa using hb1)
    clear hb1 K0
    obtain ⟨r0, r1, rf, _⟩ := K1.out.2.2
    have rf0 := rf 0
    have rf1 := rf 1
    clear rf
    go_wp2_with fail
    refine bodyPost_ret (v := .agg #[.int .i64 3, .int .i64 0]) ?_ rfl ⟨rfl, (K1.out.1.setCell (by simp) _).setCell (by simp) _⟩
    simp [results, Try.results45, go_sem, r0, r1]
  rw [polC_ok hp] at HP
  have HM : Hid (∀ w, Calls Try.prog 61 #[.int .i64 st] w fun r w' => r = .returned (.bool (statB st)) ∧ w' = w) := mayKeep_any st
  by_cases h1 : st < 200
  · have hq : rangeB st ng = false := by simp [rangeB]; omega
    rw [(life_range hp hq).1, (life_range hp hq).2]
    go_enter Try.func45, Try.ntmps45
    go_wp2_with fail
    refine (HP.out _).mono ?_
    rintro r w1 ⟨rfl, hb1⟩
    have K1 : Hid (Below w.heap.size w w1 ∧ PolAt w1 w.heap.size b0 b1 b2 l s e g ∧ IR w1 (w.heap.size + 1) (.int .i64 0) (.int .i64 0)) := K0.out w1 (by simpa using hb1)
    clear hb1 K0
    obtain ⟨r0, r1, rf, _⟩ := K1.out.2.2
    have rf0 := rf 0
    have rf1 := rf 1
    clear rf
    go_wp2_with fail
    refine bodyPost_ret (v := .agg #[.int .i64 3, .int .i64 0]) ?_ rfl ⟨rfl, (K1.out.1.setCell (by simp) _).setCell (by simp) _⟩
    simp [results, Try.results45, go_sem, r0, r1]
  by_cases h2 : 599 < st
  · have hq : rangeB st ng = false := by simp [rangeB]; omega
    have d2 : decide (599 < st) = true := by simp [h2]
    rw [(life_range hp hq).1, (life_range hp hq).2]
    go_enter Try.func45, Try.ntmps45
    go_wp2_with fail
    refine (HP.out _).mono ?_
    rintro r w1 ⟨rfl, hb1⟩
    have K1 : Hid (Below w.heap.size w w1 ∧ PolAt w1 w.heap.size b0 b1 b2 l s e g ∧ IR w1 (w.heap.size + 1) (.int .i64 0) (.int .i64 0)) := K0.out w1 (by simpa using hb1)
    clear hb1 K0
    obtain ⟨r0, r1, rf, _⟩ := K1.out.2.2
    have rf0 := rf 0
    have rf1 := rf 1
    clear rf
    go_wp2_with fail
    refine bodyPost_ret (v := .agg #[.int .i64 3, .int .i64 0]) ?_ rfl ⟨rfl, (K1.out.1.setCell (by simp) _).setCell (by simp) _⟩
    simp [results, Try.results45, go_sem, r0, r1]
  have d2 : decide (599 < st) = false := by simp; omega
  cases ht : timeB ng
  · have hq : rangeB st ng = false := by rw [rangeB, ht]; simp
    rw [(life_range hp hq).1, (life_range hp hq).2]
    go_enter Try.func45, Try.ntmps45
    go_wp2_with fail
    refine (HP.out _).mono ?_
    rintro r w1 ⟨rfl, hb1⟩
    have K1 : Hid (Below w.heap.size w w1 ∧ PolAt w1 w.heap.size b0 b1 b2 l s e g ∧ IR w1 (w.heap.size + 1) (.int .i64 0) (.int .i64 0)) := K0.out w1 (by simpa using hb1)
    clear hb1 K0
    go_wp2_with fail
    refine (HT.out ng _).mono ?_
    rintro r w2 ⟨rfl, rfl⟩
    rw [ht]
    obtain ⟨r0, r1, rf, _⟩ := K1.out.2.2
    have rf0 := rf 0
    have rf1 := rf 1
    clear rf
    go_wp2_with fail
    refine bodyPost_ret (v := .agg #[.int .i64 3, .int .i64 0]) ?_ rfl ⟨rfl, (K1.out.1.setCell (by simp) _).setCell (by simp) _⟩
    simp [results, Try.results45, go_sem, r0, r1]
  have hq : rangeB st ng = true := by simp [rangeB, ht]; omega
  rcases Bool.eq_false_or_eq_true b0 with hb | hb
  · have HB0 : Hid (b0 = true) := hb
    clear hb
    have hk : keepB b0 l st = false := by simp [keepB, HB0.out]
    rw [(life_none hp hq hk).1, (life_none hp hq hk).2]
    go_enter Try.func45, Try.ntmps45
    go_wp2_with fail
    refine (HP.out _).mono ?_
    rintro r w1 ⟨rfl, hb1⟩
    have K1 : Hid (Below w.heap.size w w1 ∧ PolAt w1 w.heap.size b0 b1 b2 l s e g ∧ IR w1 (w.heap.size + 1) (.int .i64 0) (.int .i64 0)) := K0.out w1 (by simpa using hb1)
    clear hb1 K0
    obtain ⟨c0, _, _, c3, _, _, _, _, _⟩ := K1.out.2.1
    rw [HB0.out] at c0
    go_wp2_with fail
    refine (HT.out ng _).mono ?_
    rintro r w2 ⟨rfl, rfl⟩
    rw [ht]
    obtain ⟨r0, r1, rf, _⟩ := K1.out.2.2
    have rf0 := rf 0
    have rf1 := rf 1
    clear rf
    go_wp2_with fail
    refine bodyPost_ret (v := .agg #[.int .i64 4, .int .i64 0]) ?_ rfl ⟨rfl, (K1.out.1.setCell (by simp) _).setCell (by simp) _⟩
    simp [results, Try.results45, go_sem, r0, r1]
  have HB0 : Hid (b0 = false) := hb
  clear hb
  cases hs : statB st
  · have hk : keepB b0 l st = false := by simp [keepB, hs]
    rw [(life_none hp hq hk).1, (life_none hp hq hk).2]
    go_enter Try.func45, Try.ntmps45
    go_wp2_with fail
    refine (HP.out _).mono ?_
    rintro r w1 ⟨rfl, hb1⟩
    have K1 : Hid (Below w.heap.size w w1 ∧ PolAt w1 w.heap.size b0 b1 b2 l s e g ∧ IR w1 (w.heap.size + 1) (.int .i64 0) (.int .i64 0)) := K0.out w1 (by simpa using hb1)
    clear hb1 K0
    obtain ⟨c0, _, _, c3, _, _, _, _, _⟩ := K1.out.2.1
    rw [HB0.out] at c0
    go_wp2_with fail
    refine (HT.out ng _).mono ?_
    rintro r w2 ⟨rfl, rfl⟩
    rw [ht]
    go_wp2_with fail
    refine (HM.out _).mono ?_
    rintro r w2 ⟨rfl, rfl⟩
    rw [hs]
    obtain ⟨r0, r1, rf, _⟩ := K1.out.2.2
    have rf0 := rf 0
    have rf1 := rf 1
    clear rf
    go_wp2_with fail
    refine bodyPost_ret (v := .agg #[.int .i64 4, .int .i64 0]) ?_ rfl ⟨rfl, (K1.out.1.setCell (by simp) _).setCell (by simp) _⟩
    simp [results, Try.results45, go_sem, r0, r1]
  by_cases hl : l = -1
  · have HLM : Hid (l = -1) := hl
    clear hl
    by_cases h200 : st = 200
    · have d200 : (st == 200) = true := by simp [h200]
      have hk : keepB b0 l st = false := by simp [keepB, h200, HLM.out]
      clear h200
      rw [(life_none hp hq hk).1, (life_none hp hq hk).2]
      go_enter Try.func45, Try.ntmps45
      go_wp2_with fail
      refine (HP.out _).mono ?_
      rintro r w1 ⟨rfl, hb1⟩
      have K1 : Hid (Below w.heap.size w w1 ∧ PolAt w1 w.heap.size b0 b1 b2 l s e g ∧ IR w1 (w.heap.size + 1) (.int .i64 0) (.int .i64 0)) := K0.out w1 (by simpa using hb1)
      clear hb1 K0
      obtain ⟨c0, _, _, c3, _, _, _, _, _⟩ := K1.out.2.1
      rw [HB0.out] at c0
      rw [HLM.out] at c3
      go_wp2_with fail
      refine (HT.out ng _).mono ?_
      rintro r w2 ⟨rfl, rfl⟩
      rw [ht]
      go_wp2_with fail
      refine (HM.out _).mono ?_
      rintro r w2 ⟨rfl, rfl⟩
      rw [hs]
      obtain ⟨r0, r1, rf, _⟩ := K1.out.2.2
      have rf0 := rf 0
      have rf1 := rf 1
      clear rf
      go_wp2_with fail
      refine bodyPost_ret (v := .agg #[.int .i64 4, .int .i64 0]) ?_ rfl ⟨rfl, (K1.out.1.setCell (by simp) _).setCell (by simp) _⟩
      simp [results, Try.results45, go_sem, r0, r1]
    have d200 : (st == 200) = false := by simpa using h200
    have hk : keepB b0 l st = true := by simp [keepB, hs, h200, HB0.out]
    have hx : lifeX l ng = ng := by rw [HLM.out, lifeX_not]
    rw [(life_ok hp hq hk).1, (life_ok hp hq hk).2, hx]
    go_enter Try.func45, Try.ntmps45
    go_wp2_with fail
    refine (HP.out _).mono ?_
    rintro r w1 ⟨rfl, hb1⟩
    have K1 : Hid (Below w.heap.size w w1 ∧ PolAt w1 w.heap.size b0 b1 b2 l s e g ∧ IR w1 (w.heap.size + 1) (.int .i64 0) (.int .i64 0)) := K0.out w1 (by simpa using hb1)
    clear hb1 K0
    obtain ⟨c0, _, _, c3, _, _, _, _, _⟩ := K1.out.2.1
    rw [HB0.out] at c0
    rw [HLM.out] at c3
    go_wp2_with fail
    refine (HT.out ng _).mono ?_
    rintro r w2 ⟨rfl, rfl⟩
    rw [ht]
    go_wp2_with fail
    refine (HM.out _).mono ?_
    rintro r w2 ⟨rfl, rfl⟩
    rw [hs]
    obtain ⟨r0, r1, rf, _⟩ := K1.out.2.2
    have rf0 := rf 0
    have rf1 := rf 1
    clear rf
    go_wp2_with fail
    refine bodyPost_ret (v := .agg #[.int .i64 0, .int .i64 ng]) ?_ rfl ⟨rfl, (K1.out.1.setCell (by simp) _).setCell (by simp) _⟩
    simp [results, Try.results45, go_sem, r0, r1]
  have dl : (l == -1) = false := by simpa using hl
  have hk : keepB b0 l st = true := by simp [keepB, hs, hl, HB0.out]
  rw [(life_ok hp hq hk).1, (life_ok hp hq hk).2, lifeX_told hl]
  by_cases h200 : st = 200
  · have d200 : (st == 200) = true := by simp [h200]
    clear h200
    go_enter Try.func45, Try.ntmps45
    go_wp2_with fail
    refine (HP.out _).mono ?_
    rintro r w1 ⟨rfl, hb1⟩
    have K1 : Hid (Below w.heap.size w w1 ∧ PolAt w1 w.heap.size b0 b1 b2 l s e g ∧ IR w1 (w.heap.size + 1) (.int .i64 0) (.int .i64 0)) := K0.out w1 (by simpa using hb1)
    clear hb1 K0
    obtain ⟨c0, _, _, c3, _, _, _, _, _⟩ := K1.out.2.1
    rw [HB0.out] at c0
    go_wp2_with fail
    refine (HT.out ng _).mono ?_
    rintro r w2 ⟨rfl, rfl⟩
    rw [ht]
    go_wp2_with fail
    refine (HM.out _).mono ?_
    rintro r w2 ⟨rfl, rfl⟩
    rw [hs]
    obtain ⟨r0, r1, rf, _⟩ := K1.out.2.2
    have rf0 := rf 0
    have rf1 := rf 1
    clear rf
    go_wp2_with fail
    refine bodyPost_ret (v := .agg #[.int .i64 0, .int .i64 l]) ?_ rfl ⟨rfl, (K1.out.1.setCell (by simp) _).setCell (by simp) _⟩
    simp [results, Try.results45, go_sem, r0, r1]
  have d200 : (st == 200) = false := by simpa using h200
  go_enter Try.func45, Try.ntmps45
  go_wp2_with fail
  refine (HP.out _).mono ?_
  rintro r w1 ⟨rfl, hb1⟩
  have K1 : Hid (Below w.heap.size w w1 ∧ PolAt w1 w.heap.size b0 b1 b2 l s e g ∧ IR w1 (w.heap.size + 1) (.int .i64 0) (.int .i64 0)) := K0.out w1 (by simpa using hb1)
  clear hb1 K0
  obtain ⟨c0, _, _, c3, _, _, _, _, _⟩ := K1.out.2.1
  rw [HB0.out] at c0
  go_wp2_with fail
  refine (HT.out ng _).mono ?_
  rintro r w2 ⟨rfl, rfl⟩
  rw [ht]
  go_wp2_with fail
  refine (HM.out _).mono ?_
  rintro r w2 ⟨rfl, rfl⟩
  rw [hs]
  obtain ⟨r0, r1, rf, _⟩ := K1.out.2.2
  have rf0 := rf 0
  have rf1 := rf 1
  clear rf
  go_wp2_with fail
  refine bodyPost_ret (v := .agg #[.int .i64 0, .int .i64 l]) ?_ rfl ⟨rfl, (K1.out.1.setCell (by simp) _).setCell (by simp) _⟩
  simp [results, Try.results45, go_sem, r0, r1]
set_option maxHeartbeats 1000000 in
theorem eqIntResult_same (c v : Int) (w : World) : Calls Try.prog 31 #[.agg #[.int .i64 c, .int .i64 v], .agg #[.int .i64 c, .int .i64 v]] w fun r w' => r = .returned (.bool true) ∧ Below w.heap.size w w' := by
  go_enter Try.func31, Try.ntmps31
  go_wp2
  go_ret
  exact ⟨rfl, ((Below.refl w.heap.size w).alloc (Nat.le_refl _) _).alloc (by simp) _⟩
end Go.Proofs.Ytnbbbmhfmjkhbaa
