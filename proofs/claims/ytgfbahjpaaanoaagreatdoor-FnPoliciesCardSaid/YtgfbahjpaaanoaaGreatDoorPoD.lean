/-
  Texts of one claim, one behind the other.
-/
import Derived.BigQuiet
import Derived.Deep.CutRange
import Derived.Deep.RegionHeld3
import Derived.Deep.RegionWith
import Derived.Laws.StructEq
import Derived.Lib.QuietBelow
import Derived.MakeChecks
import Derived.StillTail
import Derived.Stop.LaidErr
import Derived.Test.YtgfbahjpaaanoaaGreatDoorRows
import Derived.Test.YtgfbahjpaaanoaaGreatDoorPoC
/-
  PolicyOf: the model's answer; eight cells of a result.
-/
namespace Go.Proofs.YtgfbahjpaaanoaaGreatDoor
open Go.ChangeShapes Go.WideShapes Go.ChangeAt Go.RowKit Go.Sort
theorem Z8.done {w X : World} {u0 u1 u2 u3 u4 u5 u6 u7 : Value} (k : Z8 X w.heap.size u0 u1 u2 u3 u4 u5 u6 u7) (hb : Below w.heap.size w X) (c : Int) (b0 b1 b2 : Bool) (l s e g : Int) : Z8 ((((((((X.setCell ⟨w.heap.size, 0, none⟩ (.int .i64 c)).setCell ⟨w.heap.size, 1, none⟩ (.bool b0)).setCell ⟨w.heap.size, 2, none⟩ (.bool b1)).setCell ⟨w.heap.size, 3, none⟩ (.bool b2)).setCell ⟨w.heap.size, 4, none⟩ (.int .i64 l)).setCell ⟨w.heap.size, 5, none⟩ (.int .i64 s)).setCell ⟨w.heap.size, 6, none⟩ (.int .i64 e)).setCell ⟨w.heap.size, 7, none⟩ (.int .i64 g)) w.heap.size (.int .i64 c) (.bool b0) (.bool b1) (.bool b2) (.int .i64 l) (.int .i64 s) (.int .i64 e) (.int .i64 g) ∧ Below w.heap.size w ((((((((X.setCell ⟨w.heap.size, 0, none⟩ (.int .i64 c)).setCell ⟨w.heap.size, 1, none⟩ (.bool b0)).setCell ⟨w.heap.size, 2, none⟩ (.bool b1)).setCell ⟨w.heap.size, 3, none⟩ (.bool b2)).setCell ⟨w.heap.size, 4, none⟩ (.int .i64 l)).setCell ⟨w.heap.size, 5, none⟩ (.int .i64 s)).setCell ⟨w.heap.size, 6, none⟩ (.int .i64 e)).setCell ⟨w.heap.size, 7, none⟩ (.int .i64 g)) :=
  ⟨(((((((k.set0 _).set1 _).set2 _).set3 _).set4 _).set5 _).set6 _).set7 _, (((((((hb.setCell (Nat.le_refl _) _).setCell (Nat.le_refl _) _).setCell (Nat.le_refl _) _).setCell (Nat.le_refl _) _).setCell (Nat.le_refl _) _).setCell (Nat.le_refl _) _).setCell (Nat.le_refl _) _).setCell (Nat.le_refl _) _⟩
def polRV (c : Int) (q : Pol) : Value := .agg #[.int .i64 c, .bool q.b0, .bool q.b1, .bool q.b2, .int .i64 q.l, .int .i64 q.s, .int .i64 q.e, .int .i64 q.g]
theorem polR_bad {l : List Hdr} (h : ¬ headsC l = 0) : polR l = ⟨false, false, false, 0, 0, 0, 0⟩ := by rw [polR, if_neg h]
theorem polR_ok {l : List Hdr} (h : headsC l = 0) : polR l = polOf l := by rw [polR, if_pos h]
theorem polRV_ret {d c : Int} {q : Pol} {b0 b1 b2 : Bool} {l s e g : Int} (h0 : d = c) (h : q = ⟨b0, b1, b2, l, s, e, g⟩) : Ending.returned (.agg #[.int .i64 c, .bool b0, .bool b1, .bool b2, .int .i64 l, .int .i64 s, .int .i64 e, .int .i64 g]) = .returned (polRV d q) := by rw [h, h0]; rfl
set_option maxRecDepth 100000 in
set_option maxHeartbeats 4000000 in
theorem specPolicy_any (w : World) (a : Option Addr) (cap : Nat) (l : List Hdr) (hl : l.length ≤ 1048576) (hi : HdsIn w a l) :
    Calls Tryz.prog 8 #[.slice a l.length cap] w fun e w' => e = .returned (polRV (headsC l) (polR l)) ∧ Below w.heap.size w w' := by
  have HA : Hid (∀ W, Below w.heap.size w W → Calls Tryz.prog 29 #[.slice a l.length cap] W fun e w' => e = .returned (.int .i64 (headsC l)) ∧ Below W.heap.size W w') := fun W hb => specHFault_any W a cap l hl (hi.keep hb)
  have HZ0 : Hid (Z8 (w.alloc (.cells #[.int .i64 0, .bool false, .bool false, .bool false, .int .i64 0, .int .i64 0, .int .i64 0, .int .i64 0] 29)) w.heap.size (.int .i64 0) (.bool false) (.bool false) (.bool false) (.int .i64 0) (.int .i64 0) (.int .i64 0) (.int .i64 0)) := Z8.new w _ _ _ _ _ _ _ _ _
  have HB0 : Hid (Below w.heap.size w (w.alloc (.cells #[.int .i64 0, .bool false, .bool false, .bool false, .int .i64 0, .int .i64 0, .int .i64 0, .int .i64 0] 29))) := (Below.refl _ _).alloc (Nat.le_refl _) _
  by_cases h0 : headsC l = 0
  · have HP : Hid (∀ W, Below w.heap.size w W → Calls Tryz.prog 30 #[.slice a l.length cap] W fun e w' => e = .returned (polV (polOf l)) ∧ Below W.heap.size W w') := fun W hb => l6Policy_any W a cap l h0 (hi.keep hb)
    rw [h0] at HA ⊢
    have HR : Hid (polR l = polOf l) := polR_ok h0
    clear hi h0
    generalize polR l = pr at *
    generalize polOf l = po at *
    obtain ⟨b0, b1, b2, x3, x4, x5, x6⟩ := po
    have HP2 : Hid (∀ W, Below w.heap.size w W → Calls Tryz.prog 30 #[.slice a l.length cap] W fun e w' => e = .returned (.agg #[.bool b0, .bool b1, .bool b2, .int .i64 x3, .int .i64 x4, .int .i64 x5, .int .i64 x6]) ∧ Below W.heap.size W w') := HP.out
    clear HP
    generalize l.length = n at *
    go_enter Tryz.func8, Tryz.ntmps8
    go_wp2_with fail
    refine (HA.out _ HB0.out).mono ?_
    rintro e w1 ⟨rfl, hb1⟩
    have HB1 : Hid (Below w.heap.size w w1) := HB0.out.trans (hb1.mono HB0.out.size)
    have HZ1 : Hid (Z8 w1 w.heap.size (.int .i64 0) (.bool false) (.bool false) (.bool false) (.int .i64 0) (.int .i64 0) (.int .i64 0) (.int .i64 0)) := HZ0.out.keep hb1
    clear hb1 HB0 HZ0 HA
    go_wp2_with fail
    refine (HP2.out _ HB1.out).mono ?_
    rintro e w2 ⟨rfl, hb2⟩
    have HB2 : Hid (Below w.heap.size w w2) := HB1.out.trans (hb2.mono HB1.out.size)
    have HZ2 : Hid (Z8 w2 w.heap.size (.int .i64 0) (.bool false) (.bool false) (.bool false) (.int .i64 0) (.int .i64 0) (.int .i64 0) (.int .i64 0)) := HZ1.out.keep hb2
    clear hb2 HB1 HZ1 HP2
    have ZZ : Hid _ := HZ2.out.done HB2.out 0 b0 b1 b2 x3 x4 x5 x6
    have z0 := HZ2.out.c0
    have z1 := HZ2.out.c1
    have z2 := HZ2.out.c2
    have z3 := HZ2.out.c3
    have z4 := HZ2.out.c4
    have z5 := HZ2.out.c5
    have z6 := HZ2.out.c6
    have z7 := HZ2.out.c7
    have zf0 := HZ2.out.fr 0
    have zf1 := HZ2.out.fr 1
    have zf2 := HZ2.out.fr 2
    have zf3 := HZ2.out.fr 3
    have zf4 := HZ2.out.fr 4
    have zf5 := HZ2.out.fr 5
    have zf6 := HZ2.out.fr 6
    have zf7 := HZ2.out.fr 7
    go_wp2_with fail
    have r0 := ZZ.out.1.c0
    have r1 := ZZ.out.1.c1
    have r2 := ZZ.out.1.c2
    have r3 := ZZ.out.1.c3
    have r4 := ZZ.out.1.c4
    have r5 := ZZ.out.1.c5
    have r6 := ZZ.out.1.c6
    have r7 := ZZ.out.1.c7
    exact bodyPost_ret (v := .agg #[.int .i64 0, .bool b0, .bool b1, .bool b2, .int .i64 x3, .int .i64 x4, .int .i64 x5, .int .i64 x6]) (by simp [results, Tryz.results8, go_sem, r0, r1, r2, r3, r4, r5, r6, r7]) rfl ⟨polRV_ret rfl HR.out, ZZ.out.2⟩
  · have HR : Hid (polR l = ⟨false, false, false, 0, 0, 0, 0⟩) := polR_bad h0
    clear hi
    generalize polR l = pr at *
    generalize headsC l = hc at *
    generalize l.length = n at *
    go_enter Tryz.func8, Tryz.ntmps8
    go_wp2_with fail
    refine (HA.out _ HB0.out).mono ?_
    rintro e w2 ⟨rfl, hb1⟩
    have HB2 : Hid (Below w.heap.size w w2) := HB0.out.trans (hb1.mono HB0.out.size)
    have HZ2 : Hid (Z8 w2 w.heap.size (.int .i64 0) (.bool false) (.bool false) (.bool false) (.int .i64 0) (.int .i64 0) (.int .i64 0) (.int .i64 0)) := HZ0.out.keep hb1
    clear hb1 HB0 HZ0 HA
    have ZZ : Hid _ := HZ2.out.done HB2.out hc false false false 0 0 0 0
    have z0 := HZ2.out.c0
    have z1 := HZ2.out.c1
    have z2 := HZ2.out.c2
    have z3 := HZ2.out.c3
    have z4 := HZ2.out.c4
    have z5 := HZ2.out.c5
    have z6 := HZ2.out.c6
    have z7 := HZ2.out.c7
    have zf0 := HZ2.out.fr 0
    have zf1 := HZ2.out.fr 1
    have zf2 := HZ2.out.fr 2
    have zf3 := HZ2.out.fr 3
    have zf4 := HZ2.out.fr 4
    have zf5 := HZ2.out.fr 5
    have zf6 := HZ2.out.fr 6
    have zf7 := HZ2.out.fr 7
    go_wp2_with fail
    have r0 := ZZ.out.1.c0
    have r1 := ZZ.out.1.c1
    have r2 := ZZ.out.1.c2
    have r3 := ZZ.out.1.c3
    have r4 := ZZ.out.1.c4
    have r5 := ZZ.out.1.c5
    have r6 := ZZ.out.1.c6
    have r7 := ZZ.out.1.c7
    exact bodyPost_ret (v := .agg #[.int .i64 hc, .bool false, .bool false, .bool false, .int .i64 0, .int .i64 0, .int .i64 0, .int .i64 0]) (by simp [results, Tryz.results8, go_sem, r0, r1, r2, r3, r4, r5, r6, r7]) rfl ⟨polRV_ret rfl HR.out, ZZ.out.2⟩
set_option maxRecDepth 100000 in
set_option maxHeartbeats 2000000 in
theorem eqPolicy_same (b0 b1 b2 : Bool) (l s e g : Int) (w : World) : Calls Tryz.prog 41 #[.agg #[.bool b0, .bool b1, .bool b2, .int .i64 l, .int .i64 s, .int .i64 e, .int .i64 g], .agg #[.bool b0, .bool b1, .bool b2, .int .i64 l, .int .i64 s, .int .i64 e, .int .i64 g]] w fun r w' => r = .returned (.bool true) ∧ Below w.heap.size w w' := by
  go_enter Tryz.func41, Tryz.ntmps41
  go_wp2
  go_ret
  exact ⟨rfl, ((Below.refl _ _).alloc (Nat.le_refl _) _).alloc (by simp) _⟩
set_option maxRecDepth 100000 in
set_option maxHeartbeats 2000000 in
theorem eqPolicyResult_same (c : Int) (q : Pol) (w : World) : Calls Tryz.prog 16 #[polRV c q, polRV c q] w fun r w' => r = .returned (.bool true) ∧ Below w.heap.size w w' := by
  obtain ⟨b0, b1, b2, l, s, e, g⟩ := q
  show Calls Tryz.prog 16 #[.agg #[.int .i64 c, .bool b0, .bool b1, .bool b2, .int .i64 l, .int .i64 s, .int .i64 e, .int .i64 g], .agg #[.int .i64 c, .bool b0, .bool b1, .bool b2, .int .i64 l, .int .i64 s, .int .i64 e, .int .i64 g]] w _
  have H := fun W => eqPolicy_same b0 b1 b2 l s e g W
  go_enter Tryz.func16, Tryz.ntmps16
  go_wp2_with fail
  refine (H _).mono ?_
  rintro r w1 ⟨rfl, hb⟩
  have KB : Hid (Below w.heap.size w w1) := (((Below.refl w.heap.size w).alloc (Nat.le_refl _) _).alloc (by simp) _).trans (hb.mono (by simp; omega))
  clear hb H
  go_wp2_with fail
  go_ret
  exact ⟨rfl, KB.out⟩
end Go.Proofs.YtgfbahjpaaanoaaGreatDoor
/-
  StoreLife, on both sides.
-/
namespace Go.Proofs.YtgfbahjpaaanoaaGreatDoor
open Go.ChangeShapes Go.WideShapes Go.ChangeAt Go.RowKit
/-- Two cells that may be written. -/
structure IR (w : World) (b : Nat) (v0 v1 : Value) : Prop where
  c0 : w.cell? ⟨b, 0, none⟩ = some v0
  c1 : w.cell? ⟨b, 1, none⟩ = some v1
  fr : ∀ o, w.frozen? ⟨b, o, none⟩ = false
  lt : b < w.heap.size
theorem IR.keep {w w' : World} {b : Nat} {v0 v1 : Value} (k : IR w b v0 v1) (hb : Below w.heap.size w w') : IR w' b v0 v1 :=
  ⟨by rw [hb.cell (p := ⟨b, 0, none⟩) k.lt]; exact k.c0, by rw [hb.cell (p := ⟨b, 1, none⟩) k.lt]; exact k.c1, fun o => by rw [hb.frozen (p := ⟨b, o, none⟩) k.lt]; exact k.fr o, Nat.lt_of_lt_of_le k.lt hb.size⟩
theorem IR.new (w : World) (v0 v1 : Value) (t : TypeId) : IR (w.alloc (.cells #[v0, v1] t)) w.heap.size v0 v1 :=
  ⟨by rw [World.cell?_alloc_mark]; rfl, by rw [World.cell?_alloc_mark]; rfl, fun o => by have e := heap_alloc_new w (.cells #[v0, v1] t); unfold World.frozen?; rw [e]; simp, by simp⟩
def statB (st : Int) : Bool := decide (st = 200) || decide (st = 404) || decide (st = 410)
/-- Whether an answer may be kept. -/
def keepB (b0 : Bool) (l st : Int) : Bool := !b0 && statB st && !(decide (st = 200) && decide (l = -1))
def lifeX (l ng : Int) : Int := if l = -1 then ng else l
def rangeB (st ng : Int) : Bool := decide (200 ≤ st) && decide (st ≤ 599) && timeB ng
def lifeC (b0 : Bool) (l s e g st ng : Int) : Int := if polB l s e g = true then (if rangeB st ng = true then (if keepB b0 l st = true then 0 else 4) else 3) else 3
def lifeV (b0 : Bool) (l s e g st ng : Int) : Int := if lifeC b0 l s e g st ng = 0 then lifeX l ng else 0
theorem life_pol {b0 : Bool} {l s e g st ng : Int} (h : polB l s e g = false) : lifeC b0 l s e g st ng = 3 ∧ lifeV b0 l s e g st ng = 0 := by
  have c : lifeC b0 l s e g st ng = 3 := by rw [lifeC, if_neg (by rw [h]; decide)]
  exact ⟨c, by rw [lifeV, c, if_neg (by decide)]⟩
theorem life_range {b0 : Bool} {l s e g st ng : Int} (h : polB l s e g = true) (h2 : rangeB st ng = false) : lifeC b0 l s e g st ng = 3 ∧ lifeV b0 l s e g st ng = 0 := by
  have c : lifeC b0 l s e g st ng = 3 := by rw [lifeC, if_pos h, if_neg (by rw [h2]; decide)]
  exact ⟨c, by rw [lifeV, c, if_neg (by decide)]⟩
theorem life_none {b0 : Bool} {l s e g st ng : Int} (h : polB l s e g = true) (h2 : rangeB st ng = true) (h3 : keepB b0 l st = false) : lifeC b0 l s e g st ng = 4 ∧ lifeV b0 l s e g st ng = 0 := by
  have c : lifeC b0 l s e g st ng = 4 := by rw [lifeC, if_pos h, if_pos h2, if_neg (by rw [h3]; decide)]
  exact ⟨c, by rw [lifeV, c, if_neg (by decide)]⟩
theorem life_ok {b0 : Bool} {l s e g st ng : Int} (h : polB l s e g = true) (h2 : rangeB st ng = true) (h3 : keepB b0 l st = true) : lifeC b0 l s e g st ng = 0 ∧ lifeV b0 l s e g st ng = lifeX l ng := by
  have c : lifeC b0 l s e g st ng = 0 := by rw [lifeC, if_pos h, if_pos h2, if_pos h3]
  exact ⟨c, by rw [lifeV, if_pos c]⟩
theorem lifeX_told {l ng : Int} (h : ¬ l = -1) : lifeX l ng = l := by rw [lifeX, if_neg h]
theorem lifeX_not {ng : Int} : lifeX (-1) ng = ng := by rw [lifeX, if_pos rfl]
theorem mayKeep_any (st : Int) (w : World) : Calls Tryz.prog 35 #[.int .i64 st] w fun r w' => r = .returned (.bool (statB st)) ∧ w' = w := by
  by_cases c1 : st = 200
  · subst c1
    have e : statB 200 = true := by decide
    rw [e]
    go_enter Tryz.func35, Tryz.ntmps35
    go_wp2
    go_ret
    exact ⟨rfl, rfl⟩
  by_cases c2 : st = 404
  · subst c2
    have e : statB 404 = true := by decide
    rw [e]
    go_enter Tryz.func35, Tryz.ntmps35
    go_wp2
    go_ret
    exact ⟨rfl, rfl⟩
  by_cases c3 : st = 410
  · subst c3
    have e : statB 410 = true := by decide
    rw [e]
    go_enter Tryz.func35, Tryz.ntmps35
    go_wp2
    go_ret
    exact ⟨rfl, rfl⟩
  have e : statB st = false := by simp [statB, c1, c2, c3]
  rw [e]
  have d1 : (st == 200) = false := by simpa using c1
  have d2 : (st == 404) = false := by simpa using c2
  have d3 : (st == 410) = false := by simpa using c3
  go_enter Tryz.func35, Tryz.ntmps35
  go_wp2
  go_ret
  exact ⟨rfl, rfl⟩
theorem l1In_all (x lo hi : Int) (w : World) : Calls Tryz.prog 36 #[.int .i64 x, .int .i64 lo, .int .i64 hi] w fun r w' => r = .returned (.bool (decide (lo ≤ x) && decide (x ≤ hi))) ∧ w' = w := by
  by_cases c1 : lo ≤ x
  · by_cases c2 : x ≤ hi
    · have e : (decide (lo ≤ x) && decide (x ≤ hi)) = true := by simp [c1, c2]
      rw [e]
      have d2 : decide (x ≤ hi) = true := by simp [c2]
      go_enter Tryz.func36, Tryz.ntmps36
      go_wp2
      go_ret
      exact ⟨rfl, rfl⟩
    · have e : (decide (lo ≤ x) && decide (x ≤ hi)) = false := by simp [c2]
      rw [e]
      have d2 : decide (x ≤ hi) = false := by simp [c2]
      go_enter Tryz.func36, Tryz.ntmps36
      go_wp2
      go_ret
      exact ⟨rfl, rfl⟩
  · have e : (decide (lo ≤ x) && decide (x ≤ hi)) = false := by simp [c1]
    rw [e]
    go_enter Tryz.func36, Tryz.ntmps36
    go_wp2
    go_ret
    exact ⟨rfl, rfl⟩
def lifeT (b0 : Bool) (l st ng : Int) : Value := .tuple #[.int .i64 (if keepB b0 l st = true then lifeX l ng else 0), .bool (keepB b0 l st)]
set_option maxHeartbeats 4000000 in
theorem l6Life_any (w : World) (B : Nat) (b0 b1 b2 : Bool) (l s e g st ng : Int) (hp : PolAt w B b0 b1 b2 l s e g) :
    Calls Tryz.prog 38 #[.pointer (some ⟨B, 0, none⟩), .int .i64 st, .int .i64 ng] w fun r w' => r = .returned (lifeT b0 l st ng) ∧ w' = w := by
  obtain ⟨c0, _, _, c3, _, _, _, _, _⟩ := hp
  cases b0
  · by_cases hl : l = -1
    · subst hl
      by_cases h200 : st = 200
      · subst h200
        have e : lifeT false (-1) 200 ng = .tuple #[.int .i64 0, .bool false] := by have k : keepB false (-1) 200 = false := (by decide); simp [lifeT, k]
        rw [e]
        go_enter Tryz.func38, Tryz.ntmps38
        go_wp2_with fail
        go_ret2
        exact ⟨rfl, rfl⟩
      by_cases h404 : st = 404
      · subst h404
        have e : lifeT false (-1) 404 ng = .tuple #[.int .i64 ng, .bool true] := by have k : keepB false (-1) 404 = true := (by decide); simp [lifeT, k, lifeX_not]
        rw [e]
        go_enter Tryz.func38, Tryz.ntmps38
        go_wp2_with fail
        go_ret2
        exact ⟨rfl, rfl⟩
      by_cases h410 : st = 410
      · subst h410
        have e : lifeT false (-1) 410 ng = .tuple #[.int .i64 ng, .bool true] := by have k : keepB false (-1) 410 = true := (by decide); simp [lifeT, k, lifeX_not]
        rw [e]
        go_enter Tryz.func38, Tryz.ntmps38
        go_wp2_with fail
        go_ret2
        exact ⟨rfl, rfl⟩
      have e : lifeT false (-1) st ng = .tuple #[.int .i64 0, .bool false] := by have k : keepB false (-1) st = false := (by simp [keepB, statB, h200, h404, h410]); simp [lifeT, k]
      rw [e]
      have d1 : (st != 200) = true := by simpa using h200
      have d2 : (st != 404) = true := by simpa using h404
      have d3 : (st != 410) = true := by simpa using h410
      have d4 : (st == 200) = false := by simpa using h200
      go_enter Tryz.func38, Tryz.ntmps38
      go_wp2_with fail
      go_ret2
      exact ⟨rfl, rfl⟩
    · have hl1 : (l != -1) = true := by simpa using hl
      by_cases h200 : st = 200
      · subst h200
        have e : lifeT false l 200 ng = .tuple #[.int .i64 l, .bool true] := by have k : keepB false l 200 = true := (by simp [keepB, statB, hl]); simp [lifeT, k, lifeX_told hl]
        rw [e]
        go_enter Tryz.func38, Tryz.ntmps38
        go_wp2_with fail
        go_ret2
        exact ⟨rfl, rfl⟩
      by_cases h404 : st = 404
      · subst h404
        have e : lifeT false l 404 ng = .tuple #[.int .i64 l, .bool true] := by have k : keepB false l 404 = true := (by simp [keepB, statB, hl]); simp [lifeT, k, lifeX_told hl]
        rw [e]
        go_enter Tryz.func38, Tryz.ntmps38
        go_wp2_with fail
        go_ret2
        exact ⟨rfl, rfl⟩
      by_cases h410 : st = 410
      · subst h410
        have e : lifeT false l 410 ng = .tuple #[.int .i64 l, .bool true] := by have k : keepB false l 410 = true := (by simp [keepB, statB, hl]); simp [lifeT, k, lifeX_told hl]
        rw [e]
        go_enter Tryz.func38, Tryz.ntmps38
        go_wp2_with fail
        go_ret2
        exact ⟨rfl, rfl⟩
      have e : lifeT false l st ng = .tuple #[.int .i64 0, .bool false] := by have k : keepB false l st = false := (by simp [keepB, statB, h200, h404, h410]); simp [lifeT, k]
      rw [e]
      have d1 : (st != 200) = true := by simpa using h200
      have d2 : (st != 404) = true := by simpa using h404
      have d3 : (st != 410) = true := by simpa using h410
      have d4 : (st == 200) = false := by simpa using h200
      go_enter Tryz.func38, Tryz.ntmps38
      go_wp2_with fail
      go_ret2
      exact ⟨rfl, rfl⟩
  · have e : lifeT true l st ng = .tuple #[.int .i64 0, .bool false] := by have k : keepB true l st = false := (by simp [keepB]); simp [lifeT, k]
    rw [e]
    go_enter Tryz.func38, Tryz.ntmps38
    go_wp2_with fail
    go_ret2
    exact ⟨rfl, rfl⟩
set_option maxHeartbeats 8000000 in
theorem specLife_any (b0 b1 b2 : Bool) (l s e g st ng : Int) (w : World) :
    Calls Tryz.prog 11 #[.agg #[.bool b0, .bool b1, .bool b2, .int .i64 l, .int .i64 s, .int .i64 e, .int .i64 g], .int .i64 st, .int .i64 ng] w fun r w' => r = .returned (.agg #[.int .i64 (lifeC b0 l s e g st ng), .int .i64 (lifeV b0 l s e g st ng)]) ∧ Below w.heap.size w w' := by
  have HP : Hid (∀ w, Calls Tryz.prog 13 #[.agg #[.bool b0, .bool b1, .bool b2, .int .i64 l, .int .i64 s, .int .i64 e, .int .i64 g]] w fun r w' => r = .returned (.int .i64 (polC l s e g)) ∧ Below w.heap.size w w') := specPol_any b0 b1 b2 l s e g
  have HT : Hid (∀ x w, Calls Tryz.prog 37 #[.int .i64 x] w fun r w' => r = .returned (.bool (timeB x)) ∧ w' = w) := l1Time_all
  have K0 : Hid (∀ w1, Below (w.heap.size + 2) ((w.alloc (.cells #[.bool b0, .bool b1, .bool b2, .int .i64 l, .int .i64 s, .int .i64 e, .int .i64 g] 27)).alloc (.cells #[.int .i64 0, .int .i64 0] 34)) w1 → Below w.heap.size w w1 ∧ PolAt w1 w.heap.size b0 b1 b2 l s e g ∧ IR w1 (w.heap.size + 1) (.int .i64 0) (.int .i64 0)) := fun w1 hb => by
    have a1 : Below w.heap.size w (w.alloc (.cells #[.bool b0, .bool b1, .bool b2, .int .i64 l, .int .i64 s, .int .i64 e, .int .i64 g] 27)) := (Below.refl _ _).alloc (Nat.le_refl _) _
    have p1 := PolAt.new w b0 b1 b2 l s e g 27
    have i1 := IR.new (w.alloc (.cells #[.bool b0, .bool b1, .bool b2, .int .i64 l, .int .i64 s, .int .i64 e, .int .i64 g] 27)) (.int .i64 0) (.int .i64 0) 34
    have a2 : Below (w.alloc (.cells #[.bool b0, .bool b1, .bool b2, .int .i64 l, .int .i64 s, .int .i64 e, .int .i64 g] 27)).heap.size (w.alloc (.cells #[.bool b0, .bool b1, .bool b2, .int .i64 l, .int .i64 s, .int .i64 e, .int .i64 g] 27)) ((w.alloc (.cells #[.bool b0, .bool b1, .bool b2, .int .i64 l, .int .i64 s, .int .i64 e, .int .i64 g] 27)).alloc (.cells #[.int .i64 0, .int .i64 0] 34)) := (Below.refl _ _).alloc (Nat.le_refl _) _
    have ez : (w.alloc (.cells #[.bool b0, .bool b1, .bool b2, .int .i64 l, .int .i64 s, .int .i64 e, .int .i64 g] 27)).heap.size = w.heap.size + 1 := by simp
    have hb' : Below ((w.alloc (.cells #[.bool b0, .bool b1, .bool b2, .int .i64 l, .int .i64 s, .int .i64 e, .int .i64 g] 27)).alloc (.cells #[.int .i64 0, .int .i64 0] 34)).heap.size ((w.alloc (.cells #[.bool b0, .bool b1, .bool b2, .int .i64 l, .int .i64 s, .int .i64 e, .int .i64 g] 27)).alloc (.cells #[.int .i64 0, .int .i64 0] 34)) w1 := by simpa using hb
    refine ⟨a1.trans ((a2.mono (by simp)).trans (hb.mono (by omega))), (p1.keep a2).keep hb', ?_⟩
    rw [ez] at i1
    exact i1.keep hb'
  cases hp : polB l s e g
  · rw [(life_pol hp).1, (life_pol hp).2]
    rw [polC_bad hp] at HP
    go_enter Tryz.func11, Tryz.ntmps11
    go_wp2_with fail
    refine (HP.out _).mono ?_
    rintro r w1 ⟨rfl, hb1⟩
    have K1 : Hid (Below w.heap.size w w1 ∧ PolAt w1 w.heap.size b0 b1 b2 l s e g ∧ IR w1 (w.heap.size + 1) (.int .i64 0) (.int .i64 0)) := K0.out w1 (by simpa using hb1)
    clear hb1 K0
    obtain ⟨r0, r1, rf, _⟩ := K1.out.2.2
    have rf0 := rf 0
    have rf1 := rf 1
    clear rf
    go_wp2_with fail
    refine bodyPost_ret (v := .agg #[.int .i64 3, .int .i64 0]) ?_ rfl ⟨rfl, (K1.out.1.setCell (by simp) _).setCell (by simp) _⟩
    simp [results, Tryz.results11, go_sem, r0, r1]
  rw [polC_ok hp] at HP
  have HI : Hid (∀ w, Calls Tryz.prog 36 #[.int .i64 st, .int .i64 200, .int .i64 599] w fun r w' => r = .returned (.bool (decide (200 ≤ st) && decide (st ≤ 599))) ∧ w' = w) := l1In_all st 200 599
  cases hr : (decide (200 ≤ st) && decide (st ≤ 599))
  · have hq : rangeB st ng = false := by rw [rangeB, hr]; rfl
    rw [(life_range hp hq).1, (life_range hp hq).2]
    rw [hr] at HI
    go_enter Tryz.func11, Tryz.ntmps11
    go_wp2_with fail
    refine (HP.out _).mono ?_
    rintro r w1 ⟨rfl, hb1⟩
    have K1 : Hid (Below w.heap.size w w1 ∧ PolAt w1 w.heap.size b0 b1 b2 l s e g ∧ IR w1 (w.heap.size + 1) (.int .i64 0) (.int .i64 0)) := K0.out w1 (by simpa using hb1)
    clear hb1 K0
    go_wp2_with fail
    refine (HI.out _).mono ?_
    rintro r w2 ⟨rfl, rfl⟩
    obtain ⟨r0, r1, rf, _⟩ := K1.out.2.2
    have rf0 := rf 0
    have rf1 := rf 1
    clear rf
    go_wp2_with fail
    refine bodyPost_ret (v := .agg #[.int .i64 3, .int .i64 0]) ?_ rfl ⟨rfl, (K1.out.1.setCell (by simp) _).setCell (by simp) _⟩
    simp [results, Tryz.results11, go_sem, r0, r1]
  rw [hr] at HI
  cases ht : timeB ng
  · have hq : rangeB st ng = false := by rw [rangeB, hr, ht]; rfl
    rw [(life_range hp hq).1, (life_range hp hq).2]
    go_enter Tryz.func11, Tryz.ntmps11
    go_wp2_with fail
    refine (HP.out _).mono ?_
    rintro r w1 ⟨rfl, hb1⟩
    have K1 : Hid (Below w.heap.size w w1 ∧ PolAt w1 w.heap.size b0 b1 b2 l s e g ∧ IR w1 (w.heap.size + 1) (.int .i64 0) (.int .i64 0)) := K0.out w1 (by simpa using hb1)
    clear hb1 K0
    go_wp2_with fail
    refine (HI.out _).mono ?_
    rintro r w2 ⟨rfl, rfl⟩
    go_wp2_with fail
    refine (HT.out ng _).mono ?_
    rintro r w2 ⟨rfl, rfl⟩
    rw [ht]
    obtain ⟨r0, r1, rf, _⟩ := K1.out.2.2
    have rf0 := rf 0
    have rf1 := rf 1
    clear rf
    go_wp2_with fail
    refine bodyPost_ret (v := .agg #[.int .i64 3, .int .i64 0]) ?_ rfl ⟨rfl, (K1.out.1.setCell (by simp) _).setCell (by simp) _⟩
    simp [results, Tryz.results11, go_sem, r0, r1]
  have hq : rangeB st ng = true := by rw [rangeB, hr, ht]; rfl
  have HL : Hid (∀ X, PolAt X w.heap.size b0 b1 b2 l s e g → Calls Tryz.prog 38 #[.pointer (some ⟨w.heap.size, 0, none⟩), .int .i64 st, .int .i64 ng] X fun r w' => r = .returned (lifeT b0 l st ng) ∧ w' = X) := fun X hX => l6Life_any X _ b0 b1 b2 l s e g st ng hX
  unfold lifeT at HL
  cases hk : keepB b0 l st
  · rw [(life_none hp hq hk).1, (life_none hp hq hk).2]
    rw [hk, if_neg (by decide)] at HL
    go_enter Tryz.func11, Tryz.ntmps11
    go_wp2_with fail
    refine (HP.out _).mono ?_
    rintro r w1 ⟨rfl, hb1⟩
    have K1 : Hid (Below w.heap.size w w1 ∧ PolAt w1 w.heap.size b0 b1 b2 l s e g ∧ IR w1 (w.heap.size + 1) (.int .i64 0) (.int .i64 0)) := K0.out w1 (by simpa using hb1)
    clear hb1 K0
    go_wp2_with fail
    refine (HI.out _).mono ?_
    rintro r w2 ⟨rfl, rfl⟩
    go_wp2_with fail
    refine (HT.out ng _).mono ?_
    rintro r w2 ⟨rfl, rfl⟩
    rw [ht]
    go_wp2_with fail
    refine (HL.out _ K1.out.2.1).mono ?_
    rintro r w2 ⟨rfl, rfl⟩
    obtain ⟨r0, r1, rf, _⟩ := K1.out.2.2
    have rf0 := rf 0
    have rf1 := rf 1
    clear rf
    go_wp2_with fail
    refine bodyPost_ret (v := .agg #[.int .i64 4, .int .i64 0]) ?_ rfl ⟨rfl, (K1.out.1.setCell (by simp) _).setCell (by simp) _⟩
    simp [results, Tryz.results11, go_sem, r0, r1]
  rw [(life_ok hp hq hk).1, (life_ok hp hq hk).2]
  rw [hk, if_pos rfl] at HL
  generalize lifeX l ng = x at *
  go_enter Tryz.func11, Tryz.ntmps11
  go_wp2_with fail
  refine (HP.out _).mono ?_
  rintro r w1 ⟨rfl, hb1⟩
  have K1 : Hid (Below w.heap.size w w1 ∧ PolAt w1 w.heap.size b0 b1 b2 l s e g ∧ IR w1 (w.heap.size + 1) (.int .i64 0) (.int .i64 0)) := K0.out w1 (by simpa using hb1)
  clear hb1 K0
  go_wp2_with fail
  refine (HI.out _).mono ?_
  rintro r w2 ⟨rfl, rfl⟩
  go_wp2_with fail
  refine (HT.out ng _).mono ?_
  rintro r w2 ⟨rfl, rfl⟩
  rw [ht]
  go_wp2_with fail
  refine (HL.out _ K1.out.2.1).mono ?_
  rintro r w2 ⟨rfl, rfl⟩
  obtain ⟨r0, r1, rf, _⟩ := K1.out.2.2
  have rf0 := rf 0
  have rf1 := rf 1
  clear rf
  go_wp2_with fail
  refine bodyPost_ret (v := .agg #[.int .i64 0, .int .i64 x]) ?_ rfl ⟨rfl, (K1.out.1.setCell (by simp) _).setCell (by simp) _⟩
  simp [results, Tryz.results11, go_sem, r0, r1]
set_option maxHeartbeats 8000000 in
theorem implLife_any (b0 b1 b2 : Bool) (l s e g st ng : Int) (w : World) :
    Calls Tryz.prog 10 #[.agg #[.bool b0, .bool b1, .bool b2, .int .i64 l, .int .i64 s, .int .i64 e, .int .i64 g], .int .i64 st, .int .i64 ng] w fun r w' => r = .returned (.agg #[.int .i64 (lifeC b0 l s e g st ng), .int .i64 (lifeV b0 l s e g st ng)]) ∧ Below w.heap.size w w' := by
  have HP : Hid (∀ w, Calls Tryz.prog 12 #[.agg #[.bool b0, .bool b1, .bool b2, .int .i64 l, .int .i64 s, .int .i64 e, .int .i64 g]] w fun r w' => r = .returned (.int .i64 (polC l s e g)) ∧ Below w.heap.size w w') := implPol_any b0 b1 b2 l s e g
  have HT : Hid (∀ x w, Calls Tryz.prog 34 #[.int .i64 x] w fun r w' => r = .returned (.bool (timeB x)) ∧ w' = w) := isTime_all
  have K0 : Hid (∀ w1, Below (w.heap.size + 2) ((w.alloc (.cells #[.bool b0, .bool b1, .bool b2, .int .i64 l, .int .i64 s, .int .i64 e, .int .i64 g] 27)).alloc (.cells #[.int .i64 0, .int .i64 0] 34)) w1 → Below w.heap.size w w1 ∧ PolAt w1 w.heap.size b0 b1 b2 l s e g ∧ IR w1 (w.heap.size + 1) (.int .i64 0) (.int .i64 0)) := fun w1 hb => by
    have a1 : Below w.heap.size w (w.alloc (.cells #[.bool b0, .bool b1, .bool b2, .int .i64 l, .int .i64 s, .int .i64 e, .int .i64 g] 27)) := (Below.refl _ _).alloc (Nat.le_refl _) _
    have p1 := PolAt.new w b0 b1 b2 l s e g 27
    have i1 := IR.new (w.alloc (.cells #[.bool b0, .bool b1, .bool b2, .int .i64 l, .int .i64 s, .int .i64 e, .int .i64 g] 27)) (.int .i64 0) (.int .i64 0) 34
    have a2 : Below (w.alloc (.cells #[.bool b0, .bool b1, .bool b2, .int .i64 l, .int .i64 s, .int .i64 e, .int .i64 g] 27)).heap.size (w.alloc (.cells #[.bool b0, .bool b1, .bool b2, .int .i64 l, .int .i64 s, .int .i64 e, .int .i64 g] 27)) ((w.alloc (.cells #[.bool b0, .bool b1, .bool b2, .int .i64 l, .int .i64 s, .int .i64 e, .int .i64 g] 27)).alloc (.cells #[.int .i64 0, .int .i64 0] 34)) := (Below.refl _ _).alloc (Nat.le_refl _) _
    have ez : (w.alloc (.cells #[.bool b0, .bool b1, .bool b2, .int .i64 l, .int .i64 s, .int .i64 e, .int .i64 g] 27)).heap.size = w.heap.size + 1 := by simp
    have hb' : Below ((w.alloc (.cells #[.bool b0, .bool b1, .bool b2, .int .i64 l, .int .i64 s, .int .i64 e, .int .i64 g] 27)).alloc (.cells #[.int .i64 0, .int .i64 0] 34)).heap.size ((w.alloc (.cells #[.bool b0, .bool b1, .bool b2, .int .i64 l, .int .i64 s, .int .i64 e, .int .i64 g] 27)).alloc (.cells #[.int .i64 0, .int .i64 0] 34)) w1 := by simpa using hb
    refine ⟨a1.trans ((a2.mono (by simp)).trans (hb.mono (by omega))), (p1.keep a2).keep hb', ?_⟩
    rw [ez] at i1
    exact i1.keep hb'
  cases hp : polB l s e g
  · rw [(life_pol hp).1, (life_pol hp).2]
    rw [polC_bad hp] at HP
    go_enter Tryz.func10, Tryz.ntmps10
    go_wp2_with fail
    refine (HP.out _).mono ?_
    rintro r w1 ⟨rfl, hb1⟩
    have K1 : Hid (Below w.heap.size w w1 ∧ PolAt w1 w.heap.size b0 b1 b2 l s e g ∧ IR w1 (w.heap.size + 1) (.int .i64 0) (.int .i64 0)) := K0.out w1 (by simpa using hb1)
    clear hb1 K0
    obtain ⟨r0, r1, rf, _⟩ := K1.out.2.2
    have rf0 := rf 0
    have rf1 := rf 1
    clear rf
    go_wp2_with fail
    refine bodyPost_ret (v := .agg #[.int .i64 3, .int .i64 0]) ?_ rfl ⟨rfl, (K1.out.1.setCell (by simp) _).setCell (by simp) _⟩
    simp [results, Tryz.results10, go_sem, r0, r1]
  rw [polC_ok hp] at HP
  have HM : Hid (∀ w, Calls Tryz.prog 35 #[.int .i64 st] w fun r w' => r = .returned (.bool (statB st)) ∧ w' = w) := mayKeep_any st
  by_cases h1 : st < 200
  · have hq : rangeB st ng = false := by simp [rangeB]; omega
    rw [(life_range hp hq).1, (life_range hp hq).2]
    go_enter Tryz.func10, Tryz.ntmps10
    go_wp2_with fail
    refine (HP.out _).mono ?_
    rintro r w1 ⟨rfl, hb1⟩
    have K1 : Hid (Below w.heap.size w w1 ∧ PolAt w1 w.heap.size b0 b1 b2 l s e g ∧ IR w1 (w.heap.size + 1) (.int .i64 0) (.int .i64 0)) := K0.out w1 (by simpa using hb1)
    clear hb1 K0
    obtain ⟨r0, r1, rf, _⟩ := K1.out.2.2
    have rf0 := rf 0
    have rf1 := rf 1
    clear rf
    go_wp2_with fail
    refine bodyPost_ret (v := .agg #[.int .i64 3, .int .i64 0]) ?_ rfl ⟨rfl, (K1.out.1.setCell (by simp) _).setCell (by simp) _⟩
    simp [results, Tryz.results10, go_sem, r0, r1]
  by_cases h2 : 599 < st
  · have hq : rangeB st ng = false := by simp [rangeB]; omega
    have d2 : decide (599 < st) = true := by simp [h2]
    rw [(life_range hp hq).1, (life_range hp hq).2]
    go_enter Tryz.func10, Tryz.ntmps10
    go_wp2_with fail
    refine (HP.out _).mono ?_
    rintro r w1 ⟨rfl, hb1⟩
    have K1 : Hid (Below w.heap.size w w1 ∧ PolAt w1 w.heap.size b0 b1 b2 l s e g ∧ IR w1 (w.heap.size + 1) (.int .i64 0) (.int .i64 0)) := K0.out w1 (by simpa using hb1)
    clear hb1 K0
    obtain ⟨r0, r1, rf, _⟩ := K1.out.2.2
    have rf0 := rf 0
    have rf1 := rf 1
    clear rf
    go_wp2_with fail
    refine bodyPost_ret (v := .agg #[.int .i64 3, .int .i64 0]) ?_ rfl ⟨rfl, (K1.out.1.setCell (by simp) _).setCell (by simp) _⟩
    simp [results, Tryz.results10, go_sem, r0, r1]
  have d2 : decide (599 < st) = false := by simp; omega
  cases ht : timeB ng
  · have hq : rangeB st ng = false := by rw [rangeB, ht]; simp
    rw [(life_range hp hq).1, (life_range hp hq).2]
    go_enter Tryz.func10, Tryz.ntmps10
    go_wp2_with fail
    refine (HP.out _).mono ?_
    rintro r w1 ⟨rfl, hb1⟩
    have K1 : Hid (Below w.heap.size w w1 ∧ PolAt w1 w.heap.size b0 b1 b2 l s e g ∧ IR w1 (w.heap.size + 1) (.int .i64 0) (.int .i64 0)) := K0.out w1 (by simpa using hb1)
    clear hb1 K0
    go_wp2_with fail
    refine (HT.out ng _).mono ?_
    rintro r w2 ⟨rfl, rfl⟩
    rw [ht]
    obtain ⟨r0, r1, rf, _⟩ := K1.out.2.2
    have rf0 := rf 0
    have rf1 := rf 1
    clear rf
    go_wp2_with fail
    refine bodyPost_ret (v := .agg #[.int .i64 3, .int .i64 0]) ?_ rfl ⟨rfl, (K1.out.1.setCell (by simp) _).setCell (by simp) _⟩
    simp [results, Tryz.results10, go_sem, r0, r1]
  have hq : rangeB st ng = true := by simp [rangeB, ht]; omega
  rcases Bool.eq_false_or_eq_true b0 with hb | hb
  · have HB0 : Hid (b0 = true) := hb
    clear hb
    have hk : keepB b0 l st = false := by simp [keepB, HB0.out]
    rw [(life_none hp hq hk).1, (life_none hp hq hk).2]
    go_enter Tryz.func10, Tryz.ntmps10
    go_wp2_with fail
    refine (HP.out _).mono ?_
    rintro r w1 ⟨rfl, hb1⟩
    have K1 : Hid (Below w.heap.size w w1 ∧ PolAt w1 w.heap.size b0 b1 b2 l s e g ∧ IR w1 (w.heap.size + 1) (.int .i64 0) (.int .i64 0)) := K0.out w1 (by simpa using hb1)
    clear hb1 K0
    obtain ⟨c0, _, _, c3, _, _, _, _, _⟩ := K1.out.2.1
    rw [HB0.out] at c0
    go_wp2_with fail
    refine (HT.out ng _).mono ?_
    rintro r w2 ⟨rfl, rfl⟩
    rw [ht]
    obtain ⟨r0, r1, rf, _⟩ := K1.out.2.2
    have rf0 := rf 0
    have rf1 := rf 1
    clear rf
    go_wp2_with fail
    refine bodyPost_ret (v := .agg #[.int .i64 4, .int .i64 0]) ?_ rfl ⟨rfl, (K1.out.1.setCell (by simp) _).setCell (by simp) _⟩
    simp [results, Tryz.results10, go_sem, r0, r1]
  have HB0 : Hid (b0 = false) := hb
  clear hb
  cases hs : statB st
  · have hk : keepB b0 l st = false := by simp [keepB, hs]
    rw [(life_none hp hq hk).1, (life_none hp hq hk).2]
    go_enter Tryz.func10, Tryz.ntmps10
    go_wp2_with fail
    refine (HP.out _).mono ?_
    rintro r w1 ⟨rfl, hb1⟩
    have K1 : Hid (Below w.heap.size w w1 ∧ PolAt w1 w.heap.size b0 b1 b2 l s e g ∧ IR w1 (w.heap.size + 1) (.int .i64 0) (.int .i64 0)) := K0.out w1 (by simpa using hb1)
    clear hb1 K0
    obtain ⟨c0, _, _, c3, _, _, _, _, _⟩ := K1.out.2.1
    rw [HB0.out] at c0
    go_wp2_with fail
    refine (HT.out ng _).mono ?_
    rintro r w2 ⟨rfl, rfl⟩
    rw [ht]
    go_wp2_with fail
    refine (HM.out _).mono ?_
    rintro r w2 ⟨rfl, rfl⟩
    rw [hs]
    obtain ⟨r0, r1, rf, _⟩ := K1.out.2.2
    have rf0 := rf 0
    have rf1 := rf 1
    clear rf
    go_wp2_with fail
    refine bodyPost_ret (v := .agg #[.int .i64 4, .int .i64 0]) ?_ rfl ⟨rfl, (K1.out.1.setCell (by simp) _).setCell (by simp) _⟩
    simp [results, Tryz.results10, go_sem, r0, r1]
  by_cases hl : l = -1
  · have HLM : Hid (l = -1) := hl
    clear hl
    by_cases h200 : st = 200
    · have d200 : (st == 200) = true := by simp [h200]
      have hk : keepB b0 l st = false := by simp [keepB, h200, HLM.out]
      clear h200
      rw [(life_none hp hq hk).1, (life_none hp hq hk).2]
      go_enter Tryz.func10, Tryz.ntmps10
      go_wp2_with fail
      refine (HP.out _).mono ?_
      rintro r w1 ⟨rfl, hb1⟩
      have K1 : Hid (Below w.heap.size w w1 ∧ PolAt w1 w.heap.size b0 b1 b2 l s e g ∧ IR w1 (w.heap.size + 1) (.int .i64 0) (.int .i64 0)) := K0.out w1 (by simpa using hb1)
      clear hb1 K0
      obtain ⟨c0, _, _, c3, _, _, _, _, _⟩ := K1.out.2.1
      rw [HB0.out] at c0
      rw [HLM.out] at c3
      go_wp2_with fail
      refine (HT.out ng _).mono ?_
      rintro r w2 ⟨rfl, rfl⟩
      rw [ht]
      go_wp2_with fail
      refine (HM.out _).mono ?_
      rintro r w2 ⟨rfl, rfl⟩
      rw [hs]
      obtain ⟨r0, r1, rf, _⟩ := K1.out.2.2
      have rf0 := rf 0
      have rf1 := rf 1
      clear rf
      go_wp2_with fail
      refine bodyPost_ret (v := .agg #[.int .i64 4, .int .i64 0]) ?_ rfl ⟨rfl, (K1.out.1.setCell (by simp) _).setCell (by simp) _⟩
      simp [results, Tryz.results10, go_sem, r0, r1]
    have d200 : (st == 200) = false := by simpa using h200
    have hk : keepB b0 l st = true := by simp [keepB, hs, h200, HB0.out]
    have hx : lifeX l ng = ng := by rw [HLM.out, lifeX_not]
    rw [(life_ok hp hq hk).1, (life_ok hp hq hk).2, hx]
    go_enter Tryz.func10, Tryz.ntmps10
    go_wp2_with fail
    refine (HP.out _).mono ?_
    rintro r w1 ⟨rfl, hb1⟩
    have K1 : Hid (Below w.heap.size w w1 ∧ PolAt w1 w.heap.size b0 b1 b2 l s e g ∧ IR w1 (w.heap.size + 1) (.int .i64 0) (.int .i64 0)) := K0.out w1 (by simpa using hb1)
    clear hb1 K0
    obtain ⟨c0, _, _, c3, _, _, _, _, _⟩ := K1.out.2.1
    rw [HB0.out] at c0
    rw [HLM.out] at c3
    go_wp2_with fail
    refine (HT.out ng _).mono ?_
    rintro r w2 ⟨rfl, rfl⟩
    rw [ht]
    go_wp2_with fail
    refine (HM.out _).mono ?_
    rintro r w2 ⟨rfl, rfl⟩
    rw [hs]
    obtain ⟨r0, r1, rf, _⟩ := K1.out.2.2
    have rf0 := rf 0
    have rf1 := rf 1
    clear rf
    go_wp2_with fail
    refine bodyPost_ret (v := .agg #[.int .i64 0, .int .i64 ng]) ?_ rfl ⟨rfl, (K1.out.1.setCell (by simp) _).setCell (by simp) _⟩
    simp [results, Tryz.results10, go_sem, r0, r1]
  have dl : (l == -1) = false := by simpa using hl
  have hk : keepB b0 l st = true := by simp [keepB, hs, hl, HB0.out]
  rw [(life_ok hp hq hk).1, (life_ok hp hq hk).2, lifeX_told hl]
  by_cases h200 : st = 200
  · have d200 : (st == 200) = true := by simp [h200]
    clear h200
    go_enter Tryz.func10, Tryz.ntmps10
    go_wp2_with fail
    refine (HP.out _).mono ?_
    rintro r w1 ⟨rfl, hb1⟩
    have K1 : Hid (Below w.heap.size w w1 ∧ PolAt w1 w.heap.size b0 b1 b2 l s e g ∧ IR w1 (w.heap.size + 1) (.int .i64 0) (.int .i64 0)) := K0.out w1 (by simpa using hb1)
    clear hb1 K0
    obtain ⟨c0, _, _, c3, _, _, _, _, _⟩ := K1.out.2.1
    rw [HB0.out] at c0
    go_wp2_with fail
    refine (HT.out ng _).mono ?_
    rintro r w2 ⟨rfl, rfl⟩
    rw [ht]
    go_wp2_with fail
    refine (HM.out _).mono ?_
    rintro r w2 ⟨rfl, rfl⟩
    rw [hs]
    obtain ⟨r0, r1, rf, _⟩ := K1.out.2.2
    have rf0 := rf 0
    have rf1 := rf 1
    clear rf
    go_wp2_with fail
    refine bodyPost_ret (v := .agg #[.int .i64 0, .int .i64 l]) ?_ rfl ⟨rfl, (K1.out.1.setCell (by simp) _).setCell (by simp) _⟩
    simp [results, Tryz.results10, go_sem, r0, r1]
  have d200 : (st == 200) = false := by simpa using h200
  go_enter Tryz.func10, Tryz.ntmps10
  go_wp2_with fail
  refine (HP.out _).mono ?_
  rintro r w1 ⟨rfl, hb1⟩
  have K1 : Hid (Below w.heap.size w w1 ∧ PolAt w1 w.heap.size b0 b1 b2 l s e g ∧ IR w1 (w.heap.size + 1) (.int .i64 0) (.int .i64 0)) := K0.out w1 (by simpa using hb1)
  clear hb1 K0
  obtain ⟨c0, _, _, c3, _, _, _, _, _⟩ := K1.out.2.1
  rw [HB0.out] at c0
  go_wp2_with fail
  refine (HT.out ng _).mono ?_
  rintro r w2 ⟨rfl, rfl⟩
  rw [ht]
  go_wp2_with fail
  refine (HM.out _).mono ?_
  rintro r w2 ⟨rfl, rfl⟩
  rw [hs]
  obtain ⟨r0, r1, rf, _⟩ := K1.out.2.2
  have rf0 := rf 0
  have rf1 := rf 1
  clear rf
  go_wp2_with fail
  refine bodyPost_ret (v := .agg #[.int .i64 0, .int .i64 l]) ?_ rfl ⟨rfl, (K1.out.1.setCell (by simp) _).setCell (by simp) _⟩
  simp [results, Tryz.results10, go_sem, r0, r1]
end Go.Proofs.YtgfbahjpaaanoaaGreatDoor
/-
  What FindItem answers.
-/
namespace Go.Proofs.YtgfbahjpaaanoaaGreatDoor
open Go.ChangeShapes Go.WideShapes Go.ChangeAt Go.RowKit Go.Sort
def lwC (s : ByteArray) : Int := if 1000 < s.size then 2 else 0
def lwT (s : ByteArray) : ByteArray := if 1000 < s.size then ⟨#[]⟩ else lowS s
theorem implLower_fn (s : ByteArray) (w : World) : Calls Tryz.prog 63 #[.string s] w fun e w' => e = .returned (.agg #[.int .i64 (lwC s), .string (lwT s)]) ∧ Below w.heap.size w w' := by
  by_cases h : 1000 < s.size
  · rw [show lwC s = 2 from by simp [lwC, h], show lwT s = ⟨#[]⟩ from by simp [lwT, h]]
    exact implLower_long s w h
  · rw [show lwC s = 0 from by simp [lwC, h], show lwT s = lowS s from by simp [lwT, h]]
    exact implLower_any s w (by omega)
theorem word_size {s : ByteArray} (h : wordS s = true) : 1 ≤ s.size ∧ s.size ≤ 64 := by
  constructor
  · by_cases c : s.size < 1
    · rw [wordS_short s c] at h; cases h
    · omega
  · by_cases c : 64 < s.size
    · rw [wordS_long s c] at h; cases h
    · omega
theorem lowS_sz (s : ByteArray) : (lowS s).size = s.size := by
  have h : (lowS s).data.toList.length = s.data.toList.length := by simp [lowS]
  simpa using h
theorem low_same {rn name : ByteArray} (h : wordS name = true) : lwT rn = lowS name ↔ lowS rn = lowS name := by
  obtain ⟨h1, h2⟩ := word_size h
  unfold lwT
  split
  · rename_i hb
    constructor
    · intro e
      have h0 := congrArg ByteArray.size e
      rw [lowS_sz] at h0
      have h3 : (⟨#[]⟩ : ByteArray).size = 0 := rfl
      omega
    · intro e
      have := congrArg ByteArray.size e
      rw [lowS_sz, lowS_sz] at this
      omega
  · exact Iff.rfl
theorem find_at {l : List Rec} {name : ByteArray} (h20 : ¬ 20 < l.length) (hw : wordS name = true) (x : Int) (hx : findR name 0 l = x) : (x < 0 → findC l name = 4 ∧ findV l name = 0) ∧ (¬ x < 0 → findC l name = 0 ∧ findV l name = x) := by
  subst hx
  constructor
  · intro hn
    have ec : findC l name = 4 := by simp only [findC]; rw [if_neg h20, if_pos hw, if_pos hn]
    exact ⟨ec, by unfold findV; rw [ec]; rfl⟩
  · intro hn
    have ec : findC l name = 0 := by simp only [findC]; rw [if_neg h20, if_pos hw, if_neg hn]
    exact ⟨ec, by unfold findV; rw [ec]; rfl⟩
theorem ret_ii {a b c d : Int} (h : c = a ∧ d = b) : Ending.returned (.agg #[.int .i64 a, .int .i64 b]) = .returned (.agg #[.int .i64 c, .int .i64 d]) := by rw [h.1, h.2]
set_option maxRecDepth 100000 in
set_option maxHeartbeats 4000000 in
theorem implFind_word (w : World) (a : Option Addr) (cap : Nat) (l : List Rec) (name : ByteArray) (hset : SetIs w) (h20 : ¬ 20 < l.length) (hw : wordS name = true) (hi : l = [] ∨ ∃ b off, a = some ⟨b, off, none⟩ ∧ ItemsAt w b off l) :
    Calls Tryz.prog 28 #[.slice a l.length cap, .string name] w fun e w' => e = .returned (.agg #[.int .i64 (findC l name), .int .i64 (findV l name)]) ∧ Below w.heap.size w w' := by
  have HFC : Hid (∀ x, findR name 0 l = x → (x < 0 → findC l name = 4 ∧ findV l name = 0) ∧ (¬ x < 0 → findC l name = 0 ∧ findV l name = x)) := find_at h20 hw
  have HI : Hid (l = [] ∨ ∃ b off, a = some ⟨b, off, none⟩ ∧ ItemsAt w b off l) := hi
  have HS : Hid (SetIs w) := hset
  have HW : Hid (wordS name = true) := hw
  obtain ⟨z1, z2⟩ := word_size hw
  clear hi hset hw
  generalize hn : l.length = n at *
  have HN : Hid (l.length = n) := hn
  clear hn
  have g : ¬ (20 : Int) < (n : Int) := by omega
  go_enter Tryz.func28, Tryz.ntmps28
  go_wp2_with fail
  refine (implIsWord_set name _ (HS.out.below ((Below.refl _ _).alloc (Nat.le_refl _) _))).mono ?_
  rintro e w1 ⟨rfl, hb1⟩
  rw [HW.out]
  rw [World.size_alloc] at hb1
  go_wp2_with fail
  refine (implLower_any name w1 (by omega)).mono ?_
  rintro e w2 ⟨rfl, hb2⟩
  have hb2' : Below (w.heap.size + 1) (w.alloc (.cells #[.int .i64 0, .int .i64 0] 34)) w2 := hb1.trans (hb2.mono (by have := hb1.size; rwa [World.size_alloc] at this))
  have hz2 : w.heap.size + 1 ≤ w2.heap.size := by have := hb2'.size; rwa [World.size_alloc] at this
  clear hb1 hb2
  generalize hq : lowS name = q
  have HQ : Hid (q = lowS name) := hq.symm
  clear hq
  obtain ⟨W0, hW0⟩ : ∃ W0, W0 = w2.alloc (.cells #[.int .i64 0, .string q] 98) := ⟨_, rfl⟩
  have HB0 : Hid (Below (w.heap.size + 1) (w.alloc (.cells #[.int .i64 0, .int .i64 0] 34)) W0) := by
    show Below _ _ _
    rw [hW0]; exact hb2'.alloc hz2 _
  have HC0 : Hid (W0.cell? ⟨w2.heap.size, 1, none⟩ = some (.string q)) := by show _ = _; rw [hW0]; simp
  have HWW : Hid (W0 = w2.alloc (.cells #[.int .i64 0, .string q] 98)) := hW0
  clear hW0 hb2'
  go_wp2_with fail
  rw [← HWW.out]
  clear HWW
  generalize w2.heap.size = Bw at *
  clear w2 w1
  go_loopw [20] (fun i wr => ∃ k : Nat, k ≤ n ∧ i = .int .i64 k ∧ findR name 0 l = findR name k (l.drop k) ∧ Below W0.heap.size W0 wr) (fun i _ => n - (intOf i).toNat)
  case atStart => exact ⟨0, Nat.zero_le _, rfl, rfl, Below.refl _ _⟩
  case round =>
    obtain ⟨k, hk, rfl, hf, hb⟩ := hrel
    have HF : Hid (findR name 0 l = findR name k (l.drop k)) := hf
    clear hf
    have hzW : w.heap.size + 1 ≤ W0.heap.size := by have := HB0.out.size; rwa [World.size_alloc] at this
    have HBr : Hid (Below (w.heap.size + 1) (w.alloc (.cells #[.int .i64 0, .int .i64 0] 34)) wr) := HB0.out.trans (hb.mono hzW)
    by_cases hlt : k < n
    · obtain ⟨r, hr⟩ : ∃ r, l[k]? = some r := ⟨l[k]'(by have := HN.out; omega), List.getElem?_eq_getElem _⟩
      rcases HI.out with h | ⟨b, off, rfl, hat⟩
      · subst h; simp at hr
      have hwr : Below w.heap.size w wr := ((Below.refl _ _).alloc (Nat.le_refl _) _).trans (HBr.out.mono (Nat.le_succ _))
      obtain ⟨p1, p2, p3⟩ := (hat.keep hwr) k r hr
      have HG : Hid (findR name 0 l = if lowS r.name = lowS name then (k : Int) else findR name (k + 1) (l.drop (k + 1))) := by
        show _ = _
        rw [HF.out, drop_rec l k r hr, findR]
      have gk : (k : Int) < n := by omega
      have c5 := f_keep hb HC0.out
      clear HF hr hat HI
      obtain ⟨rn, rh, rv⟩ := r
      simp only at p1 p2 p3 HG
      obtain ⟨W, hW⟩ : ∃ W, W = wr.alloc (.cells #[.string rn, .bool rh, .string rv] 65) := ⟨_, rfl⟩
      have HWW : Hid (W = wr.alloc (.cells #[.string rn, .bool rh, .string rv] 65)) := hW
      have C1 : Hid (W.cell? ⟨wr.heap.size, 0, none⟩ = some (.string rn) ∧ W.cell? ⟨Bw, 1, none⟩ = some (.string q) ∧ Below W0.heap.size W0 W) := by
        refine ⟨by rw [hW]; simp, by rw [hW]; exact f_keepA _ c5, by rw [hW]; exact hb.alloc hb.size _⟩
      clear hW c5
      go_wp2_with fail
      rw [← HWW.out]
      clear HWW p1 p2 p3 hwr
      obtain ⟨c1, c2, hbW⟩ := C1.out
      clear C1
      have HBW : Hid (Below W0.heap.size W0 W) := hbW
      clear hbW
      generalize wr.heap.size = Br at *
      have q1 := cell_regrown c1
      have q2 := cell_regrown c2
      have SQ : Hid (∀ w, Calls Tryz.prog 63 #[.string rn] w fun e w' => e = .returned (.agg #[.int .i64 (lwC rn), .string (lwT rn)]) ∧ Below w.heap.size w w') := implLower_fn rn
      have hf2 := f_field_text
      by_cases he : lwT rn = lowS name
      · have HE : Hid (findR name 0 l = (k : Int)) := by show _ = _; rw [HG.out, if_pos ((low_same HW.out).1 he)]
        rw [he, ← HQ.out] at SQ
        generalize lwC rn = lc at *
        have cSQ : ∀ d' os, Calls Tryz.prog 63 #[.string rn] (grow (redrawn W d') os) fun e w'' => e = .returned (.agg #[.int .i64 lc, .string q]) ∧ ∃ p : Regrown, w'' = grow (redrawn W p.d) p.os := fun d' os => Calls.regrown_of (SQ.out _)
        clear he HG
        refine wp_region_quiet_below (by kernel_rfl) (by kernel_rfl) ?_
        repeat (go_big_quiet_step (first | (go_at_call 63; exact cSQ _ _)))
        refine wpQuiet_nil ?_
        intro W2 hW2
        have hbW2 : Below W.heap.size W W2 := by
          obtain ⟨⟨d, os⟩, rfl⟩ := hW2
          exact below_regrown W d os
        have hb02 : Below (w.heap.size + 1) (w.alloc (.cells #[.int .i64 0, .int .i64 0] 34)) W2 := HB0.out.trans ((HBW.out.trans (hbW2.mono HBW.out.size)).mono hzW)
        obtain ⟨hz, p0, p1, f0, f1, kb⟩ := int_room hb02
        obtain ⟨r0, r1⟩ := two_set (v0 := .int .i64 0) (v1 := .int .i64 k) p0 p1
        have hk0 : ¬ (k : Int) < 0 := by omega
        clear hW2 hbW2 hb02 cSQ q1 q2 c1 c2 SQ HBr HB0 HC0
        go_wp2_with fail
        exact bodyPost_ret (v := .agg #[.int .i64 0, .int .i64 k]) (by simp [results, Tryz.results28, go_sem, r0, r1]) rfl ⟨ret_ii ((HFC.out _ HE.out).2 hk0), (kb.setCell (Nat.le_refl _) _).setCell (Nat.le_refl _) _⟩
      · have HE : Hid (findR name 0 l = findR name (k + 1) (l.drop (k + 1))) := by show _ = _; rw [HG.out, if_neg (fun x => he ((low_same HW.out).2 x))]
        have hne : lwT rn ≠ q := by rw [HQ.out]; exact he
        have hq := str_ne hne
        generalize lwT rn = lt at *
        generalize lwC rn = lc at *
        have cSQ : ∀ d' os, Calls Tryz.prog 63 #[.string rn] (grow (redrawn W d') os) fun e w'' => e = .returned (.agg #[.int .i64 lc, .string lt]) ∧ ∃ p : Regrown, w'' = grow (redrawn W p.d) p.os := fun d' os => Calls.regrown_of (SQ.out _)
        clear he HG hne
        refine wp_region_quiet_below (by kernel_rfl) (by kernel_rfl) ?_
        repeat (go_big_quiet_step (first | (go_at_call 63; exact cSQ _ _)))
        refine wpQuiet_nil ?_
        intro W2 hW2
        have hbW2 : Below W.heap.size W W2 := by
          obtain ⟨⟨d, os⟩, rfl⟩ := hW2
          exact below_regrown W d os
        have hb02 : Below W0.heap.size W0 W2 := HBW.out.trans (hbW2.mono HBW.out.size)
        clear hW2 hbW2 cSQ q1 q2 c1 c2 SQ HBr HB0 HC0
        go_wp2_with fail
        go_roundw
        case rel => exact ⟨k + 1, by omega, by go_num, HE.out, hb02⟩
        case measure => simp [intOf]; omega
    · have HE : Hid (findR name 0 l = -1) := by
        show _ = _
        rw [HF.out, List.drop_of_length_le (by have := HN.out; omega), findR]
      clear HF
      obtain ⟨hz, p0, p1, f0, f1, kb⟩ := int_room HBr.out
      obtain ⟨r0, r1⟩ := two_set (v0 := .int .i64 4) (v1 := .int .i64 0) p0 p1
      clear HBr HB0 HC0
      go_wp2_with fail
      exact bodyPost_ret (v := .agg #[.int .i64 4, .int .i64 0]) (by simp [results, Tryz.results28, go_sem, r0, r1]) rfl ⟨ret_ii ((HFC.out _ HE.out).1 (by decide)), (kb.setCell (Nat.le_refl _) _).setCell (Nat.le_refl _) _⟩
set_option maxHeartbeats 1000000 in
theorem implFind_any (w : World) (a : Option Addr) (cap : Nat) (l : List Rec) (name : ByteArray) (hset : SetIs w) (hi : l = [] ∨ ∃ b off, a = some ⟨b, off, none⟩ ∧ ItemsAt w b off l) :
    Calls Tryz.prog 28 #[.slice a l.length cap, .string name] w fun e w' => e = .returned (.agg #[.int .i64 (findC l name), .int .i64 (findV l name)]) ∧ Below w.heap.size w w' := by
  by_cases h20 : 20 < l.length
  · have ec : findC l name = 2 := by simp [findC, h20]
    have ev : findV l name = 0 := by simp [findV, ec]
    rw [ec, ev]
    have g : (20 : Int) < (l.length : Int) := by omega
    clear ec ev hset
    go_enter Tryz.func28, Tryz.ntmps28
    go_wp2
    exact bodyPost_ret (v := .agg #[.int .i64 2, .int .i64 0]) (by simp [results, Tryz.results28, go_sem]) rfl ⟨rfl, (Below.refl _ _).alloc (Nat.le_refl _) _⟩
  have g : ¬ (20 : Int) < (l.length : Int) := by omega
  cases hw : wordS name
  · have ec : findC l name = 5 := by simp [findC, h20, hw]
    have ev : findV l name = 0 := by simp [findV, ec]
    rw [ec, ev]
    have HW : Hid (wordS name = false) := hw
    have HS : Hid (SetIs w) := hset
    clear ec ev hw hset hi
    go_enter Tryz.func28, Tryz.ntmps28
    go_wp2_with fail
    refine (implIsWord_set name _ (HS.out.below ((Below.refl _ _).alloc (Nat.le_refl _) _))).mono ?_
    rintro e w1 ⟨rfl, hb1⟩
    rw [HW.out]
    rw [World.size_alloc] at hb1
    obtain ⟨hz, p0, p1, f0, f1, kb⟩ := int_room hb1
    obtain ⟨r0, r1⟩ := two_set (v0 := .int .i64 5) (v1 := .int .i64 0) p0 p1
    clear hb1
    go_wp2
    exact bodyPost_ret (v := .agg #[.int .i64 5, .int .i64 0]) (by simp [results, Tryz.results28, go_sem, r0, r1]) rfl ⟨rfl, (kb.setCell (Nat.le_refl _) _).setCell (Nat.le_refl _) _⟩
  · exact implFind_word w a cap l name hset h20 hw hi
end Go.Proofs.YtgfbahjpaaanoaaGreatDoor
/-
  A region that draws its order, whose last operation waits for all others: what is held of the world is held behind each operation but that last one.
-/
namespace Go.Proofs.YtgfbahjpaaanoaaGreatDoor
open Go Go.ChangeShapes Go.WideShapes Go.ChangeAt Go.RowKit
section
variable {P : Program} {ops : Array Oper} {Q : Exit → Act → World → Prop} {S : World → Prop} {m : Nat}
/-- Whatever may come up; behind it S is shown, but where it was operation m. -/
def butLast (P : Program) (ops : Array Oper) (Q : Exit → Act → World → Prop) (S : World → Prop) (m : Nat) : Nat → Array Bool → Act → World → Prop
  | 0, done, a, w => Region.ready .any ops done = [] ∧ Q .normal a w
  | n + 1, done, a, w => (Region.ready .any ops done = [] → Q .normal a w) ∧
      ∀ i ∈ Region.ready .any ops done, wpOp P ops Q i (fun a' w' => (i = m ∨ S w') ∧ butLast P ops Q S m n (done.setIfInBounds i true) a' w') a w
theorem butLast_any : ∀ (n : Nat) (done : Array Bool) (a : Act) (w : World), butLast P ops Q S m n done a w → wpAny P .any ops Q n done a w := by
  intro n
  induction n with
  | zero => intro done a w h; exact h
  | succ n ih => intro done a w h; exact ⟨h.1, fun i hi => wpOp_mono (fun a' w' k => ih _ a' w' k.2) (h.2 i hi)⟩
theorem ready_not_done {done : Array Bool} {i : Nat} (h : i ∈ Region.ready .any ops done) (k : done.getD i false = true) : False := by
  have q := (mem_ready.1 h).1
  rcases Nat.lt_or_ge i done.size with z | z
  · simp [z] at q k
    rw [q] at k
    cases k
  · simp [Array.getElem?_eq_none z] at k
/-- While operation i has not come up, one that waits for it cannot. -/
theorem waits_not {done : Array Bool} {i j : Nat} (hi : i ∈ Region.ready .any ops done) (hj : j ∈ Region.ready .any ops done) (hw : Region.waitsFor .any ops j i = true) : False := by
  obtain ⟨oj, hoj, e, he, hb, rfl⟩ := Region.waitsFor_spec hw
  obtain ⟨_, oj', hoj', hall⟩ := mem_ready.1 hj
  rw [hoj] at hoj'
  cases hoj'
  exact ready_not_done hi (hall e he hb)
/-- One that yields in every world that meets S may be taken first, if the last one waits for it. -/
theorem butLast_first {i : Nat} {oi : Oper} {v : Value} (hi : ops[i]? = some oi) (hsel : ∀ (j : Nat) (o : Oper) cs b, ops[j]? = some o → o.op ≠ .select cs b)
    (hw : Region.waitsFor .any ops m i = true) (hQ : ∀ c a w, Q (.panic c) (a.put oi.dst v) w → Q (.panic c) a w) :
    ∀ (n : Nat) (done : Array Bool) (a : Act) (w : World), (∀ j oj, ops[j]? = some oj → j ≠ i → done.getD j true = false → (∀ e ∈ oj.after, Region.binds .any e = true → e.on ≠ i) → oi.apart ops oj = true) →
      i ∈ Region.ready .any ops done → YieldsIf P ops S oi v a → S w → butLast P ops Q S m n (done.setIfInBounds i true) (a.put oi.dst v) w → butLast P ops Q S m (n + 1) done a w := by
  intro n
  induction n with
  | zero =>
    intro done a w _ hr hy hS H
    refine ⟨fun z => (by rw [z] at hr; cases hr), fun j hj => ?_⟩
    by_cases e : j = i
    · rw [e]; exact hy.wpOp hi hS ⟨.inr hS, H⟩
    · have k := ready_mono hj e
      rw [H.1] at k
      cases k
  | succ n ih =>
    intro done a w hap hr hy hS H
    refine ⟨fun z => (by rw [z] at hr; cases hr), fun j hj => ?_⟩
    by_cases e : j = i
    · rw [e]; exact hy.wpOp hi hS ⟨.inr hS, H⟩
    · have hjm : j ≠ m := fun q => waits_not hr hj (by rw [q]; exact hw)
      obtain ⟨hun, oj, hoj, hall⟩ := mem_ready.1 hj
      have hno : ∀ x ∈ oj.after, Region.binds .any x = true → x.on ≠ i := fun x hx hb q => ready_not_done hr (by have := hall x hx hb; rwa [q] at this)
      have step := wpOp_putIf hoj (hap j oj hoj e hun hno) (fun cs b => hsel i oi cs b hi) (fun cs b => hsel j oj cs b hoj) hQ hy (H.2 j (ready_mono hj e))
      refine wpOp_mono (fun a' w' k => ?_) step
      have hS' : S w' := k.2.1.resolve_left hjm
      refine ⟨.inr hS', ih (done.setIfInBounds j true) a' w' (fun c oc hc hci hcu hcn => hap c oc hc hci ?_ hcn) (ready_mono hr (Ne.symm e)) k.1 hS' ?_⟩
      · by_cases q : j = c
        · rw [← q]; exact hun
        · rwa [getD_set_ne true q] at hcu
      · rw [Array.setIfInBounds_comm _ _ e]
        exact k.2.2
theorem butLast_take {i : Nat} {oi : Oper} {v : Value} {n : Nat} {done : Array Bool} {a : Act} {w : World} (hi : ops[i]? = some oi) (hs : Region.noSelect ops = true)
    (hf : Region.free .any ops done i = true) (hr : (Region.ready .any ops done).contains i = true) (hw : Region.waitsFor .any ops m i = true)
    (hQ : ∀ c a w, Q (.panic c) (a.put oi.dst v) w → Q (.panic c) a w) (hy : YieldsIf P ops S oi v a) (hS : S w)
    (h : butLast P ops Q S m n (done.setIfInBounds i true) (a.put oi.dst v) w) : butLast P ops Q S m (n + 1) done a w :=
  butLast_first hi (Region.noSelect_spec hs) hw hQ n done a w (Region.free_spec hi hf) (by simpa using hr) hy hS h
/-- Only one may come up. -/
theorem butLast_one {i n : Nat} {o : Oper} {done : Array Bool} {a : Act} {w : World} (ho : ops[i]? = some o) (hr : Region.ready .any ops done = [i])
    (h : ∀ K : Act → World → Prop, (∀ a' w', (i = m ∨ S w') → butLast P ops Q S m n (done.setIfInBounds i true) a' w' → K a' w') → if Region.wanted o (yielded ops a.tmps) = true then Oper.wp P o a w K Q else K (a.put o.dst undef) w) :
    butLast P ops Q S m (n + 1) done a w := by
  refine ⟨fun z => (by rw [z] at hr; cases hr), fun j hj => ?_⟩
  rw [hr, List.mem_singleton] at hj
  rw [hj]
  exact wpOp_step ho fun K hK => h K fun a' w' h1 h2 => hK a' w' ⟨h1, h2⟩
theorem butLast_end {done : Array Bool} {a : Act} {w : World} {n : Nat} (hr : Region.ready .any ops done = []) (h : Q .normal a w) : butLast P ops Q S m n done a w := by
  cases n with
  | zero => exact ⟨hr, h⟩
  | succ n => exact ⟨fun _ => h, by rw [hr]; simp⟩
theorem wp_region_last (S : World → Prop) (m : Nat) {id : Nat} {a : Act} {w : World} (hm : P.follows .mixedOrders = true) (h : butLast P ops Q S m ops.size (Array.replicate ops.size false) a w.drew) : (Code.region id ops true).wp P Q a w :=
  wp_region_any hm (butLast_any _ _ _ _ h)
end
end Go.Proofs.YtgfbahjpaaanoaaGreatDoor
/-
  PolicyOf: the program's answer.
-/
namespace Go.Proofs.YtgfbahjpaaanoaaGreatDoor
open Go.ChangeShapes Go.WideShapes Go.ChangeAt Go.RowKit Go.Sort
def tabL : List Value := [.string ⟨#[110, 111, 45, 115, 116, 111, 114, 101]⟩, .func (.func 55) #[] #[], .string ⟨#[112, 114, 105, 118, 97, 116, 101]⟩, .func (.func 55) #[] #[], .string ⟨#[110, 111, 45, 99, 97, 99, 104, 101]⟩, .func (.func 56) #[] #[], .string ⟨#[109, 117, 115, 116, 45, 114, 101, 118, 97, 108, 105, 100, 97, 116, 101]⟩, .func (.func 57) #[] #[], .string ⟨#[112, 114, 111, 120, 121, 45, 114, 101, 118, 97, 108, 105, 100, 97, 116, 101]⟩, .func (.func 57) #[] #[], .string ⟨#[109, 97, 120, 45, 97, 103, 101]⟩, .func (.func 58) #[] #[], .string ⟨#[115, 45, 109, 97, 120, 97, 103, 101]⟩, .func (.func 59) #[] #[], .string ⟨#[115, 116, 97, 108, 101, 45, 119, 104, 105, 108, 101, 45, 114, 101, 118, 97, 108, 105, 100, 97, 116, 101]⟩, .func (.func 60) #[] #[], .string ⟨#[115, 116, 97, 108, 101, 45, 105, 102, 45, 101, 114, 114, 111, 114]⟩, .func (.func 61) #[] #[]]
structure TabAt (X : World) (T : Nat) : Prop where
  at0 : ∀ (i : Nat) v, tabL[i]? = some v → X.cell? ⟨T, i, none⟩ = some v
  lt : T < X.heap.size
theorem TabAt.keep {X Y : World} {T : Nat} (h : TabAt X T) (hb : Below X.heap.size X Y) : TabAt Y T := ⟨fun i v hv => by rw [hb.cell (p := ⟨T, i, none⟩) h.lt]; exact h.at0 i v hv, Nat.lt_of_lt_of_le h.lt hb.size⟩
theorem TabAt.off {X : World} {T B i : Nat} {x : Value} (h : TabAt X T) (hn : B ≠ T) : TabAt (X.setCell ⟨B, i, none⟩ x) T := ⟨fun j v hv => by rw [World.cell?_setCell_other _ _ _ _ (by intro q; exact hn (congrArg Addr.block q))]; exact h.at0 j v hv, by simpa using h.lt⟩
theorem store_func (w : World) (a : Addr) (m : Mode) (f : Fn) : (store a (.func f #[] #[]) m).run Tryz.prog w = stored Tryz.prog w a (.func f #[] #[]) m := run_store Tryz.prog w a _ m rfl
theorem IR.off {X : World} {b B i : Nat} {v0 v1 x : Value} (k : IR X b v0 v1) (hn : B ≠ b) : IR (X.setCell ⟨B, i, none⟩ x) b v0 v1 :=
  ⟨by rw [World.cell?_setCell_other _ _ _ _ (by intro q; exact hn (congrArg Addr.block q))]; exact k.c0, by rw [World.cell?_setCell_other _ _ _ _ (by intro q; exact hn (congrArg Addr.block q))]; exact k.c1, fun o => by rw [World.frozen?_setCell]; exact k.fr o, by simpa using k.lt⟩
set_option maxRecDepth 100000 in
set_option maxHeartbeats 2000000 in
theorem policyWords_any (w : World) : Calls Tryz.prog 27 #[] w fun e w' => e = .returned (.slice (some ⟨w.heap.size, 0, none⟩) 9 9) ∧ TabAt w' w.heap.size ∧ Below w.heap.size w w' := by
  go_enter Tryz.func27, Tryz.ntmps27
  go_wp2
  go_ret
  refine ⟨rfl, ⟨fun i v hv => ?_, by simp⟩, (Below.refl _ _).alloc (Nat.le_refl _) _⟩
  rw [World.cell?_alloc_mark]
  simpa [tabL] using hv
/-- What stands while words turn a policy. -/
structure PJ (w : World) (P R T : Nat) (q : Pol) (ia : Option Addr) (n k : Nat) (L : List Rec) (X : World) : Prop where
  b : Below w.heap.size w X
  z : Z8 X w.heap.size (.int .i64 0) (.bool false) (.bool false) (.bool false) (.int .i64 0) (.int .i64 0) (.int .i64 0) (.int .i64 0)
  p : PolAt X P q.b0 q.b1 q.b2 q.l q.s q.e q.g
  r : IR X R (.int .i64 0) (.slice ia n k)
  o : OwnI X (P + 1) (.slice ia n k) L
  t : TabAt X T
  lw : w.heap.size < P
  lr : P ≠ R
  lt : P ≠ T
section
variable {w : World} {P R T : Nat} {p : Pol} {ia : Option Addr} {n k : Nat} {L : List Rec} {X Y : World}
theorem PJ.keep (j : PJ w P R T p ia n k L X) (hb : Below X.heap.size X Y) : PJ w P R T p ia n k L Y :=
  ⟨j.b.trans (hb.mono j.b.size), j.z.keep hb, j.p.keep hb, j.r.keep hb, j.o.below hb, j.t.keep hb, j.lw, j.lr, j.lt⟩
theorem PJ.its (j : PJ w P R T p ia n k L X) : n = L.length ∧ RecIn X ia L := by
  obtain ⟨a', c', h, hi⟩ := j.o.at
  simp only [Value.slice.injEq] at h
  exact ⟨h.2.1, by rw [h.1]; exact hi⟩
theorem PJ.put (j : PJ w P R T p ia n k L X) (q : Pol) : PJ w P R T q ia n k L (((((((X.setCell ⟨P, 0, none⟩ (.bool q.b0)).setCell ⟨P, 1, none⟩ (.bool q.b1)).setCell ⟨P, 2, none⟩ (.bool q.b2)).setCell ⟨P, 3, none⟩ (.int .i64 q.l)).setCell ⟨P, 4, none⟩ (.int .i64 q.s)).setCell ⟨P, 5, none⟩ (.int .i64 q.e)).setCell ⟨P, 6, none⟩ (.int .i64 q.g)) := by
  have lw := j.lw
  have ne : P ≠ w.heap.size := by omega
  have bb : ∀ {X : World} (i : Nat) (x : Value), Below w.heap.size w X → Below w.heap.size w (X.setCell ⟨P, i, none⟩ x) := fun i x h => h.setCell (by show w.heap.size ≤ P; omega) _
  exact ⟨bb _ _ (bb _ _ (bb _ _ (bb _ _ (bb _ _ (bb _ _ (bb _ _ j.b)))))), ((((((j.z.off ne).off ne).off ne).off ne).off ne).off ne).off ne, ((((((j.p.set0 _).set1 _).set2 _).set3 _).set4 _).set5 _).set6 _,
    ((((((j.r.off j.lr).off j.lr).off j.lr).off j.lr).off j.lr).off j.lr).off j.lr, own_set (own_set (own_set (own_set (own_set (own_set (own_set j.o (by omega)) (by omega)) (by omega)) (by omega)) (by omega)) (by omega)) (by omega), ((((((j.t.off j.lt).off j.lt).off j.lt).off j.lt).off j.lt).off j.lt).off j.lt, j.lw, j.lr, j.lt⟩
end
/-- The result's block and the policy's. -/
structure PK2 (w : World) (P : Nat) (b0 b1 b2 : Bool) (l s e g : Int) (X : World) : Prop where
  b : Below w.heap.size w X
  z : Z8 X w.heap.size (.int .i64 0) (.bool false) (.bool false) (.bool false) (.int .i64 0) (.int .i64 0) (.int .i64 0) (.int .i64 0)
  p : PolAt X P b0 b1 b2 l s e g
theorem own_block_ge {X : World} {base : Nat} {ib io n k : Nat} {L : List Rec} (h : OwnI X base (.slice (some ⟨ib, io, none⟩) n k) L) : base ≤ ib := by
  obtain ⟨_, h | ⟨g, c, cur, e, hg, _⟩⟩ := h
  · exact absurd h.1 (by simp)
  · simp only [Value.slice.injEq, Option.some.injEq] at e
    have := congrArg Addr.block e.1
    simp only at this
    omega

theorem tab_row (j : Nat) (h : j < 9) : ∃ nm f, tabL[j * 2]? = some (.string nm) ∧ tabL[j * 2 + 1]? = some (.func (.func f) #[] #[]) ∧ nm = kName j ∧ (∀ (x y : Value) (W : World), (callFunc f #[x, y]).run Tryz.prog W = .ok (.enter f #[x, y]) W) ∧ (∀ b0 b1 b2 x3 x4 x5 x6 sd W, Calls Tryz.prog f #[.agg #[.bool b0, .bool b1, .bool b2, .int .i64 x3, .int .i64 x4, .int .i64 x5, .int .i64 x6], .int .i64 sd] W fun r w' => r = .returned (polV (turnP j ⟨b0, b1, b2, x3, x4, x5, x6⟩ sd)) ∧ Below W.heap.size W w') := by
  have hjs : j = 0 ∨ j = 1 ∨ j = 2 ∨ j = 3 ∨ j = 4 ∨ j = 5 ∨ j = 6 ∨ j = 7 ∨ j = 8 := by omega
  rcases hjs with rfl | rfl | rfl | rfl | rfl | rfl | rfl | rfl | rfl
  · exact ⟨_, _, rfl, rfl, rfl, fun x y W => by kernel_rfl, fun b0 b1 b2 x3 x4 x5 x6 sd W => withNoStore_any b0 b1 b2 x3 x4 x5 x6 sd W⟩
  · exact ⟨_, _, rfl, rfl, rfl, fun x y W => by kernel_rfl, fun b0 b1 b2 x3 x4 x5 x6 sd W => withNoStore_any b0 b1 b2 x3 x4 x5 x6 sd W⟩
  · exact ⟨_, _, rfl, rfl, rfl, fun x y W => by kernel_rfl, fun b0 b1 b2 x3 x4 x5 x6 sd W => withNoCache_any b0 b1 b2 x3 x4 x5 x6 sd W⟩
  · exact ⟨_, _, rfl, rfl, rfl, fun x y W => by kernel_rfl, fun b0 b1 b2 x3 x4 x5 x6 sd W => withMust_any b0 b1 b2 x3 x4 x5 x6 sd W⟩
  · exact ⟨_, _, rfl, rfl, rfl, fun x y W => by kernel_rfl, fun b0 b1 b2 x3 x4 x5 x6 sd W => withMust_any b0 b1 b2 x3 x4 x5 x6 sd W⟩
  · exact ⟨_, _, rfl, rfl, rfl, fun x y W => by kernel_rfl, fun b0 b1 b2 x3 x4 x5 x6 sd W => withLife_any b0 b1 b2 x3 x4 x5 x6 sd W⟩
  · exact ⟨_, _, rfl, rfl, rfl, fun x y W => by kernel_rfl, fun b0 b1 b2 x3 x4 x5 x6 sd W => withSharedLife_any b0 b1 b2 x3 x4 x5 x6 sd W⟩
  · exact ⟨_, _, rfl, rfl, rfl, fun x y W => by kernel_rfl, fun b0 b1 b2 x3 x4 x5 x6 sd W => withSwr_any b0 b1 b2 x3 x4 x5 x6 sd W⟩
  · exact ⟨_, _, rfl, rfl, rfl, fun x y W => by kernel_rfl, fun b0 b1 b2 x3 x4 x5 x6 sd W => withSie_any b0 b1 b2 x3 x4 x5 x6 sd W⟩
theorem step_no {L : List Rec} {k : Nat} {q : Pol} (h : findR (kName k) 0 L < 0) : stepP L k q = q := by
  have : hasR (kName k) L = false := by simp only [hasR, decide_eq_false_iff_not]; omega
  rw [stepP, this]; rfl
theorem step_yes {L : List Rec} {k j : Nat} {q : Pol} {r : Rec} (hv : ∀ r ∈ L, r.has = false → r.value = ⟨#[]⟩) (h : findR (kName k) 0 L = (j : Int)) (hr : L[j]? = some r) : stepP L k q = turnP k q (secD r.value) := by
  have : hasR (kName k) L = true := by simp only [hasR, decide_eq_true_eq]; omega
  rw [stepP, this, if_pos rfl, secR_value hv h hr]
theorem find_no {L : List Rec} {nm : ByteArray} (hl : L.length ≤ 20) (hw : wordS nm = true) (h : findR nm 0 L < 0) : findC L nm = 4 := by rw [findC, if_neg (by omega), if_pos hw, if_pos h]
theorem find_yes {L : List Rec} {nm : ByteArray} (hl : L.length ≤ 20) (hw : wordS nm = true) (h : ¬ findR nm 0 L < 0) : findC L nm = 0 ∧ findV L nm = findR nm 0 L := by
  have c : findC L nm = 0 := by rw [findC, if_neg (by omega), if_pos hw, if_neg h]
  exact ⟨c, by rw [findV, if_pos c]⟩
theorem kName_word : ∀ k, wordS (kName k) = true
  | 0 | 1 | 2 | 3 | 4 | 5 | 6 | 7 => by decide +kernel
  | _ + 8 => by show wordS kSie = true; decide +kernel
set_option maxRecDepth 100000 in
set_option linter.unusedSimpArgs false in
set_option maxHeartbeats 40000000 in
theorem implPolicy_ok (w : World) (a : Option Addr) (cap : Nat) (l : List Hdr) (h0 : headsC l = 0) (hcap : l.length ≤ cap) (hset : SetIs w) (hpow : num.PowIs w) (hi : HdsIn w a l) :
    Calls Tryz.prog 7 #[.slice a l.length cap] w fun e w' => e = .returned (polRV 0 (polOf l)) ∧ Below w.heap.size w w' := by
  obtain ⟨h20, hz⟩ := first_sizes h0
  have HA : Hid (∀ W, Below w.heap.size w W → Calls Tryz.prog 22 #[.slice a l.length cap] W fun e w' => e = .returned (.int .i64 0) ∧ Below W.heap.size W w') := fun W hb => by
    have := implHFault_any W a cap l (by omega) (hset.below hb) (hi.keep hb)
    rw [h0] at this
    exact this
  have HF : Hid (∀ W, Below w.heap.size w W → Calls Tryz.prog 23 #[.slice a l.length cap, .string ⟨#[65, 103, 101]⟩] W fun e w' => e = .returned (.tuple #[.string (firstV ageN l), .bool (firstB ageN l)]) ∧ Below W.heap.size W w') := fun W hb => by
    have := firstValue_any W a cap l ⟨#[65, 103, 101]⟩ h20 hz (by decide) (hi.keep hb)
    rw [ageI_low] at this
    exact this
  have HI : Hid (∀ W, Below w.heap.size w W → Calls Tryz.prog 25 #[.slice a l.length cap, .string ⟨#[67, 97, 99, 104, 101, 45, 67, 111, 110, 116, 114, 111, 108]⟩] W fun e w' => (∃ ia n k, e = .returned (.agg #[.int .i64 (parseC (underT ccN l)), .slice ia n k]) ∧ OwnI w' W.heap.size (.slice ia n k) (parseL (underT ccN l))) ∧ Below W.heap.size W w') := fun W hb => by
    have := itemsUnder_any W a cap l ⟨#[67, 97, 99, 104, 101, 45, 67, 111, 110, 116, 114, 111, 108]⟩ h0 ccI_word hcap (hset.below hb) (hi.keep hb)
    rw [ccI_low] at this
    refine this.mono ?_
    rintro e w' ⟨⟨v, rfl, ho⟩, hb⟩
    obtain ⟨ia, k, rfl, _⟩ := ho.at
    exact ⟨⟨ia, _, k, rfl, ho⟩, hb⟩
  have HX : Hid (∀ W, Below w.heap.size w W → Calls Tryz.prog 26 #[.slice a l.length cap] W fun e w' => e = .returned (.int .i64 (expD l)) ∧ Below W.heap.size W w') := fun W hb => lifeByDates_any W a cap l h0 (hpow.below hb) (hi.keep hb)
  have HFI : Hid (∀ W ia k nm, Below w.heap.size w W → RecIn W ia (parseL (underT ccN l)) → Calls Tryz.prog 28 #[.slice ia (parseL (underT ccN l)).length k, .string nm] W fun e w' => e = .returned (.agg #[.int .i64 (findC (parseL (underT ccN l)) nm), .int .i64 (findV (parseL (underT ccN l)) nm)]) ∧ Below W.heap.size W w') := fun W ia k nm hb h => implFind_any W ia k _ nm (hset.below hb) h
  have HNV : Hid ((∀ r ∈ parseL (underT ccN l), r.has = false → r.value = ⟨#[]⟩) ∧ (parseL (underT ccN l)).length ≤ 20) := ⟨fun r hr => parse_novalue hr, parseL_len _⟩
  have HP0 : Hid (parseC (underT ccN l) = 0 → polOf l = foldP (parseL (underT ccN l)) ⟨false, false, false, expD l, 0, 0, ageD l⟩ 9) := fun h => pol_ok h
  have HP1 : Hid (¬ parseC (underT ccN l) = 0 → polOf l = ⟨true, false, false, 0, 0, 0, ageD l⟩) := fun h => pol_bad h
  have HAG := age_first l
  clear hi hz h0 h20 hcap hset hpow
  generalize polOf l = PO at *
  generalize ageD l = ag at *
  generalize expD l = xd at *
  generalize firstB ageN l = ab at *
  generalize firstV ageN l = av at *
  generalize parseC (underT ccN l) = pc at *
  generalize parseL (underT ccN l) = L at *
  generalize l.length = ln at *
  have HSP : Hid (∀ W, Calls Tryz.prog 24 #[.string av] W fun e w' => e = .returned (.int .i64 ag) ∧ Below W.heap.size W w') := fun W => by rw [HAG]; exact spanIn_any av W
  clear HAG
  have HZ0 : Hid (Z8 (w.alloc (.cells #[.int .i64 0, .bool false, .bool false, .bool false, .int .i64 0, .int .i64 0, .int .i64 0, .int .i64 0] 29)) w.heap.size (.int .i64 0) (.bool false) (.bool false) (.bool false) (.int .i64 0) (.int .i64 0) (.int .i64 0) (.int .i64 0)) := Z8.new w _ _ _ _ _ _ _ _ _
  have HB0 : Hid (Below w.heap.size w (w.alloc (.cells #[.int .i64 0, .bool false, .bool false, .bool false, .int .i64 0, .int .i64 0, .int .i64 0, .int .i64 0] 29))) := (Below.refl _ _).alloc (Nat.le_refl _) _
  go_enter Tryz.func7, Tryz.ntmps7
  go_wp2_with fail
  refine (HA.out _ HB0.out).mono ?_
  rintro e w1 ⟨rfl, hb1⟩
  have HB1 : Hid (Below w.heap.size w w1) := HB0.out.trans (hb1.mono HB0.out.size)
  have HZ1 : Hid (Z8 w1 w.heap.size (.int .i64 0) (.bool false) (.bool false) (.bool false) (.int .i64 0) (.int .i64 0) (.int .i64 0) (.int .i64 0)) := HZ0.out.keep hb1
  clear hb1 HB0 HZ0 HA
  go_wp2_with fail
  refine (HF.out _ HB1.out).mono ?_
  rintro e w2 ⟨rfl, hb2⟩
  have HB2 : Hid (Below w.heap.size w w2) := HB1.out.trans (hb2.mono HB1.out.size)
  have HZ2 : Hid (Z8 w2 w.heap.size (.int .i64 0) (.bool false) (.bool false) (.bool false) (.int .i64 0) (.int .i64 0) (.int .i64 0) (.int .i64 0)) := HZ1.out.keep hb2
  clear hb2 HB1 HZ1 HF
  go_wp2_with fail
  refine (HSP.out _).mono ?_
  rintro e w3 ⟨rfl, hb3⟩
  have HB3 : Hid (Below w.heap.size w w3) := HB2.out.trans (hb3.mono HB2.out.size)
  have HZ3 : Hid (Z8 w3 w.heap.size (.int .i64 0) (.bool false) (.bool false) (.bool false) (.int .i64 0) (.int .i64 0) (.int .i64 0) (.int .i64 0)) := HZ2.out.keep hb3
  clear hb3 HB2 HZ2 HSP
  have al3 : Below w3.heap.size w3 (w3.alloc (.cells #[.bool false, .bool false, .bool false, .int .i64 0, .int .i64 0, .int .i64 0, .int .i64 ag] 27)) := (Below.refl _ _).alloc (Nat.le_refl _) _
  obtain ⟨v3, hv3⟩ : ∃ X, Hid (X = w3.alloc (.cells #[.bool false, .bool false, .bool false, .int .i64 0, .int .i64 0, .int .i64 0, .int .i64 ag] 27)) := ⟨_, rfl⟩
  have F3 : Hid (Below w.heap.size w v3 ∧ Z8 v3 w.heap.size (.int .i64 0) (.bool false) (.bool false) (.bool false) (.int .i64 0) (.int .i64 0) (.int .i64 0) (.int .i64 0) ∧ PolAt v3 w3.heap.size false false false 0 0 0 ag ∧ w.heap.size < w3.heap.size) := by
    rw [hv3.out]
    exact ⟨HB3.out.trans (al3.mono HB3.out.size), HZ3.out.keep al3, PolAt.new w3 _ _ _ _ _ _ _ _, HZ3.out.lt⟩
  clear al3 HB3 HZ3
  go_upto_region 6 with fail
  rw [← hv3.out]
  clear hv3
  generalize w3.heap.size = P at *
  clear w3
  go_wp2_with fail
  refine (HI.out _ F3.out.1).mono ?_
  rintro e w4 ⟨⟨ia, n, k, rfl, ho⟩, hb4⟩
  have al4 : Below w4.heap.size w4 (w4.alloc (.cells #[.int .i64 pc, .slice ia n k] 56)) := (Below.refl _ _).alloc (Nat.le_refl _) _
  obtain ⟨v4, hv4⟩ : ∃ X, Hid (X = w4.alloc (.cells #[.int .i64 pc, .slice ia n k] 56)) := ⟨_, rfl⟩
  have F4 : Hid (Below w.heap.size w v4 ∧ Z8 v4 w.heap.size (.int .i64 0) (.bool false) (.bool false) (.bool false) (.int .i64 0) (.int .i64 0) (.int .i64 0) (.int .i64 0) ∧ PolAt v4 P false false false 0 0 0 ag ∧ w.heap.size < P ∧ IR v4 w4.heap.size (.int .i64 pc) (.slice ia n k) ∧ OwnI v4 (P + 1) (.slice ia n k) L ∧ P < w4.heap.size) := by
    rw [hv4.out]
    obtain ⟨f1, f2, f3, f4⟩ := F3.out
    have b4 := f1.trans (hb4.mono f1.size)
    exact ⟨b4.trans (al4.mono b4.size), (f2.keep hb4).keep al4, (f3.keep hb4).keep al4, f4, IR.new w4 _ _ _, (ho.below al4).lower f3.lt, (f3.keep hb4).lt⟩
  clear al4 F3 hb4 ho HI
  try clear v3
  go_upto_region 7 with fail
  rw [← hv4.out]
  clear hv4
  generalize w4.heap.size = R at *
  clear w4
  have r0 := F4.out.2.2.2.2.1.c0
  by_cases hp : pc = 0
  · subst hp
    have HPO : Hid (PO = foldP L ⟨false, false, false, xd, 0, 0, ag⟩ 9) := HP0.out rfl
    clear HP0 HP1
    go_wp2_with fail
    clear r0
    refine (HX.out _ F4.out.1).mono ?_
    rintro e w5 ⟨rfl, hb5⟩
    have F5 : Hid (Below w.heap.size w w5 ∧ Z8 w5 w.heap.size (.int .i64 0) (.bool false) (.bool false) (.bool false) (.int .i64 0) (.int .i64 0) (.int .i64 0) (.int .i64 0) ∧ PolAt w5 P false false false 0 0 0 ag ∧ w.heap.size < P ∧ IR w5 R (.int .i64 0) (.slice ia n k) ∧ OwnI w5 (P + 1) (.slice ia n k) L ∧ P < R) := by
      obtain ⟨f1, f2, f3, f4, f5, f6, f7⟩ := F4.out
      exact ⟨f1.trans (hb5.mono f1.size), f2.keep hb5, f3.keep hb5, f4, f5.keep hb5, f6.below hb5, f7⟩
    clear hb5 F4 HX
    have y3 := F5.out.2.2.1.c3
    have yf := F5.out.2.2.1.fr 3
    obtain ⟨v5, hv5⟩ : ∃ X, Hid (X = w5.setCell ⟨P, 3, none⟩ (.int .i64 xd)) := ⟨_, rfl⟩
    have F6 : Hid (Below w.heap.size w v5 ∧ Z8 v5 w.heap.size (.int .i64 0) (.bool false) (.bool false) (.bool false) (.int .i64 0) (.int .i64 0) (.int .i64 0) (.int .i64 0) ∧ PolAt v5 P false false false xd 0 0 ag ∧ w.heap.size < P ∧ IR v5 R (.int .i64 0) (.slice ia n k) ∧ OwnI v5 (P + 1) (.slice ia n k) L ∧ P < R) := by
      rw [hv5.out]
      obtain ⟨f1, f2, f3, f4, f5, f6, f7⟩ := F5.out
      exact ⟨f1.setCell (by show w.heap.size ≤ P; omega) _, f2.off (by omega), f3.set3 _, f4, f5.off (by omega), own_set f6 (by omega), f7⟩
    clear F5
    go_upto_region 11 with fail
    rw [← hv5.out]
    clear hv5 y3 yf
    try clear w5
    go_wp2_with fail
    refine (policyWords_any _).mono ?_
    rintro e w6 ⟨rfl, ht6, hb6⟩
    have J0 : Hid (PJ w P R v5.heap.size ⟨false, false, false, xd, 0, 0, ag⟩ ia n k L w6) := by
      obtain ⟨f1, f2, f3, f4, f5, f6, f7⟩ := F6.out
      exact ⟨f1.trans (hb6.mono f1.size), f2.keep hb6, f3.keep hb6, f5.keep hb6, f6.below hb6, ht6, f4, by omega, by have := f3.lt; omega⟩
    clear ht6 hb6 F6
    generalize v5.heap.size = T at *
    clear v5
    have HN : Hid (n = L.length) := J0.out.its.1
    have HFJ : Hid (∀ W nm, Below w.heap.size w W → RecIn W ia L → Calls Tryz.prog 28 #[.slice ia n k, .string nm] W fun e w' => e = .returned (.agg #[.int .i64 (findC L nm), .int .i64 (findV L nm)]) ∧ Below W.heap.size W w') := fun W nm hb h => by
      have := HFI.out W ia k nm hb h
      rw [← HN.out] at this
      exact this
    clear HFI
    go_wp2_with fail
    go_loopw [9, 10, 38] (fun _ _ i wr => ∃ j : Nat, j ≤ 9 ∧ i = .int .i64 (j : Int) ∧ PJ w P R T (foldP L ⟨false, false, false, xd, 0, 0, ag⟩ j) ia n k L wr) (fun _ _ i _ => 9 - (intOf i).toNat)
    case atStart => exact ⟨0, Nat.zero_le _, rfl, J0.out⟩
    case round =>
      obtain ⟨j, hj, rfl, hJ⟩ := hrel
      have J1 : Hid (PJ w P R T (foldP L ⟨false, false, false, xd, 0, 0, ag⟩ j) ia n k L wr) := hJ
      clear hJ J0
      have hsf := store_func
      by_cases h9 : j < 9
      · obtain ⟨nm, f, t0, t1, hnm, hcf, hct⟩ := tab_row j h9
        have HCF : Hid (∀ (x y : Value) (W : World), (callFunc f #[x, y]).run Tryz.prog W = .ok (.enter f #[x, y]) W) := hcf
        have HCT : Hid (∀ b0 b1 b2 x3 x4 x5 x6 sd W, Calls Tryz.prog f #[.agg #[.bool b0, .bool b1, .bool b2, .int .i64 x3, .int .i64 x4, .int .i64 x5, .int .i64 x6], .int .i64 sd] W fun r w' => r = .returned (polV (turnP j ⟨b0, b1, b2, x3, x4, x5, x6⟩ sd)) ∧ Below W.heap.size W w') := hct
        have HNM : Hid (nm = kName j) := hnm
        have c0 : wr.cell? ⟨T, j * 2, none⟩ = some (.string nm) := J1.out.t.at0 (j * 2) _ t0
        have c1 : wr.cell? ⟨T, j * 2 + 1, none⟩ = some (.func (.func f) #[] #[]) := J1.out.t.at0 (j * 2 + 1) _ t1
        have g0 : (0 : Int) ≤ (j : Int) := by omega
        have g1 : (j : Int) < 9 := by omega
        clear hct hcf hnm t0 t1
        have HQ : Hid (foldP L ⟨false, false, false, xd, 0, 0, ag⟩ (j + 1) = stepP L j (foldP L ⟨false, false, false, xd, 0, 0, ag⟩ j)) := rfl
        generalize hqq : foldP L ⟨false, false, false, xd, 0, 0, ag⟩ j = q at *
        clear hqq
        obtain ⟨b0, b1, b2, x3, x4, x5, x6⟩ := q
        have al1 : Below wr.heap.size wr (wr.alloc (.cells #[.string nm, .func (.func f) #[] #[]] 62)) := (Below.refl _ _).alloc (Nat.le_refl _) _
        obtain ⟨v1, hv1⟩ : ∃ X, Hid (X = wr.alloc (.cells #[.string nm, .func (.func f) #[] #[]] 62)) := ⟨_, rfl⟩
        have G1 : Hid (PJ w P R T ⟨b0, b1, b2, x3, x4, x5, x6⟩ ia n k L v1 ∧ IR v1 wr.heap.size (.string nm) (.func (.func f) #[] #[]) ∧ P < wr.heap.size) := by
          rw [hv1.out]
          exact ⟨J1.out.keep al1, IR.new wr _ _ _, J1.out.p.lt⟩
        clear J1 al1
        go_upto_region 14 with fail
        rw [← hv1.out]
        clear hv1 c0 c1
        generalize wr.heap.size = B9 at *
        try clear wr
        have d0 := G1.out.2.1.c0
        have d1 := G1.out.1.r.c1
        have HC := HFJ.out v1 nm G1.out.1.b G1.out.1.its.2
        clear HFJ
        go_wp2_with fail
        clear d0 d1
        refine HC.mono ?_
        rintro e w2 ⟨rfl, hb2⟩
        clear HC
        obtain ⟨fc, hfc⟩ : ∃ x, Hid (findC L nm = x) := ⟨_, rfl⟩
        obtain ⟨fv, hfv⟩ : ∃ x, Hid (findV L nm = x) := ⟨_, rfl⟩
        rw [hfc.out, hfv.out]
        have al2 : Below w2.heap.size w2 (w2.alloc (.cells #[.int .i64 fc, .int .i64 fv] 34)) := (Below.refl _ _).alloc (Nat.le_refl _) _
        obtain ⟨v2, hv2⟩ : ∃ X, Hid (X = w2.alloc (.cells #[.int .i64 fc, .int .i64 fv] 34)) := ⟨_, rfl⟩
        have G2 : Hid (PJ w P R T ⟨b0, b1, b2, x3, x4, x5, x6⟩ ia n k L v2 ∧ IR v2 B9 (.string nm) (.func (.func f) #[] #[]) ∧ P < B9 ∧ IR v2 w2.heap.size (.int .i64 fc) (.int .i64 fv) ∧ P < w2.heap.size) := by
          rw [hv2.out]
          obtain ⟨g1, g2, g3⟩ := G1.out
          exact ⟨(g1.keep hb2).keep al2, (g2.keep hb2).keep al2, g3, IR.new w2 _ _ _, (g1.keep hb2).p.lt⟩
        clear G1 hb2 al2
        try clear v1
        go_upto_region 15 with fail
        rw [← hv2.out]
        clear hv2
        generalize w2.heap.size = B10 at *
        try clear w2
        have d0 := G2.out.2.2.2.1.c0
        by_cases hf : findR nm 0 L < 0
        · have HQ2 : Hid (foldP L ⟨false, false, false, xd, 0, 0, ag⟩ (j + 1) = ⟨b0, b1, b2, x3, x4, x5, x6⟩) := HQ.out.trans (step_no (k := j) (by rw [← HNM.out]; exact hf))
          have e4 : fc = 4 := hfc.out.symm.trans (find_no HNV.out.2 (by rw [HNM.out]; exact kName_word j) hf)
          subst e4
          clear HQ hfc hfv hf
          go_wp2_with fail
          go_roundw
          case rel => exact ⟨j + 1, by omega, by go_num, by rw [HQ2.out]; exact G2.out.1⟩
          case measure => simp [intOf]; omega
        · obtain ⟨m, hm⟩ : ∃ m : Nat, findR nm 0 L = (m : Int) := ⟨(findR nm 0 L).toNat, by omega⟩
          have hml : m < L.length := by have := findR_lt nm L 0; omega
          obtain ⟨⟨rn, rh, rv⟩, hr⟩ : ∃ r, L[m]? = some r := ⟨L[m], List.getElem?_eq_getElem hml⟩
          have hm2 : findR (kName j) 0 L = (m : Int) := by rw [← HNM.out]; exact hm
          have hsy : stepP L j ⟨b0, b1, b2, x3, x4, x5, x6⟩ = turnP j ⟨b0, b1, b2, x3, x4, x5, x6⟩ (secD rv) := step_yes (k := j) (j := m) (q := ⟨b0, b1, b2, x3, x4, x5, x6⟩) (r := ⟨rn, rh, rv⟩) HNV.out.1 hm2 hr
          have HQ2 : Hid (foldP L ⟨false, false, false, xd, 0, 0, ag⟩ (j + 1) = turnP j ⟨b0, b1, b2, x3, x4, x5, x6⟩ (secD rv)) := by
            have q := HQ.out
            rw [hsy] at q
            exact q
          clear hm2 hsy
          have hwn : wordS nm = true := by rw [HNM.out]; exact kName_word j
          have fy := find_yes HNV.out.2 hwn hf
          have e4 : fc = 0 := hfc.out.symm.trans fy.1
          have e5 : fv = (m : Int) := hfv.out.symm.trans (fy.2.trans hm)
          clear fy hwn
          subst e4
          subst e5
          obtain ⟨ib, io, rfl, hat⟩ : ∃ ib io, ia = some ⟨ib, io, none⟩ ∧ ItemsAt v2 ib io L := by
            rcases G2.out.1.its.2 with h | ⟨b, off, e, h⟩
            · subst h; simp at hml
            · exact ⟨b, off, e, h⟩
          have hmn : (m : Int) < (n : Int) := by have := HN.out; omega
          have hm0 : (0 : Int) ≤ (m : Int) := by omega
          have HV : Hid (v2.cell? ⟨ib, io + m * 3 + 2, none⟩ = some (.string rv)) := (hat m _ hr).2.2
          clear HQ hfc hfv hf hat hr hm hml
          have HSV : Hid (∀ W, Calls Tryz.prog 24 #[.string rv] W fun e w' => e = .returned (.int .i64 (secD rv)) ∧ Below W.heap.size W w') := fun W => spanIn_any rv W
          generalize secD rv = sd at *
          have HTV : Hid (∀ W, Calls Tryz.prog f #[.agg #[.bool b0, .bool b1, .bool b2, .int .i64 x3, .int .i64 x4, .int .i64 x5, .int .i64 x6], .int .i64 sd] W fun r w' => r = .returned (polV (turnP j ⟨b0, b1, b2, x3, x4, x5, x6⟩ sd)) ∧ Below W.heap.size W w') := fun W => HCT.out b0 b1 b2 x3 x4 x5 x6 sd W
          clear HCT
          generalize turnP j ⟨b0, b1, b2, x3, x4, x5, x6⟩ sd = q2 at *
          obtain ⟨n0, n1, n2, n3, n4, n5, n6⟩ := q2
          have HKP : Hid (∀ X, Below v2.heap.size v2 X → PolAt X P b0 b1 b2 x3 x4 x5 x6) := fun X hb => G2.out.1.p.keep hb
          have HKS : Hid (∀ X, Below v2.heap.size v2 X → (fun X : World => X.cell? ⟨B9, 1, none⟩ = some (.func (.func f) #[] #[]) ∧ (X.cell? ⟨P, 0, none⟩ = some (.bool b0) ∧ X.cell? ⟨P, 1, none⟩ = some (.bool b1) ∧ X.cell? ⟨P, 2, none⟩ = some (.bool b2) ∧ X.cell? ⟨P, 3, none⟩ = some (.int .i64 x3) ∧ X.cell? ⟨P, 4, none⟩ = some (.int .i64 x4) ∧ X.cell? ⟨P, 5, none⟩ = some (.int .i64 x5) ∧ X.cell? ⟨P, 6, none⟩ = some (.int .i64 x6)) ∧ X.cell? ⟨R, 1, none⟩ = some (.slice (some ⟨ib, io, none⟩) n k) ∧ X.cell? ⟨B10, 1, none⟩ = some (.int .i64 (m : Int)) ∧ X.cell? ⟨ib, io + m * 3 + 2, none⟩ = some (.string rv)) X) := fun X hb => ⟨(G2.out.2.1.keep hb).c1, ⟨(HKP.out X hb).c0, (HKP.out X hb).c1, (HKP.out X hb).c2, (HKP.out X hb).c3, (HKP.out X hb).c4, (HKP.out X hb).c5, (HKP.out X hb).c6⟩, (G2.out.1.r.keep hb).c1, (G2.out.2.2.2.1.keep hb).c1, by rw [hb.cell (block_lt_of_cell HV.out)]; exact HV.out⟩
          have B0 : Hid (Below v2.heap.size v2 v2.drew) := (Below.refl _ _).drew
          have HS0 : Hid ((fun X : World => X.cell? ⟨B9, 1, none⟩ = some (.func (.func f) #[] #[]) ∧ (X.cell? ⟨P, 0, none⟩ = some (.bool b0) ∧ X.cell? ⟨P, 1, none⟩ = some (.bool b1) ∧ X.cell? ⟨P, 2, none⟩ = some (.bool b2) ∧ X.cell? ⟨P, 3, none⟩ = some (.int .i64 x3) ∧ X.cell? ⟨P, 4, none⟩ = some (.int .i64 x4) ∧ X.cell? ⟨P, 5, none⟩ = some (.int .i64 x5) ∧ X.cell? ⟨P, 6, none⟩ = some (.int .i64 x6)) ∧ X.cell? ⟨R, 1, none⟩ = some (.slice (some ⟨ib, io, none⟩) n k) ∧ X.cell? ⟨B10, 1, none⟩ = some (.int .i64 (m : Int)) ∧ X.cell? ⟨ib, io + m * 3 + 2, none⟩ = some (.string rv)) v2.drew) := HKS.out _ B0.out
          go_upto_region 16 with fail
          clear d0
          refine wp_region_last (fun X : World => X.cell? ⟨B9, 1, none⟩ = some (.func (.func f) #[] #[]) ∧ (X.cell? ⟨P, 0, none⟩ = some (.bool b0) ∧ X.cell? ⟨P, 1, none⟩ = some (.bool b1) ∧ X.cell? ⟨P, 2, none⟩ = some (.bool b2) ∧ X.cell? ⟨P, 3, none⟩ = some (.int .i64 x3) ∧ X.cell? ⟨P, 4, none⟩ = some (.int .i64 x4) ∧ X.cell? ⟨P, 5, none⟩ = some (.int .i64 x5) ∧ X.cell? ⟨P, 6, none⟩ = some (.int .i64 x6)) ∧ X.cell? ⟨R, 1, none⟩ = some (.slice (some ⟨ib, io, none⟩) n k) ∧ X.cell? ⟨B10, 1, none⟩ = some (.int .i64 (m : Int)) ∧ X.cell? ⟨ib, io + m * 3 + 2, none⟩ = some (.string rv)) 12 (by kernel_rfl) ?_
          refine butLast_take (i := 0) (v := .pointer (some ⟨B9, 1, none⟩)) rfl (by kernel_rfl) (by kernel_rfl) (by kernel_rfl) (by kernel_rfl) (fun _ _ _ h => h) (Or.inl ⟨by kernel_rfl, ?_⟩) HS0.out ?_
          · rintro X ⟨s1, ⟨p0, p1, p2, p3, p4, p5, p6⟩, s2, s3, s4⟩
            go_simp
          try simp only [Act.put, List.setIfInBounds_toArray, List.set_cons_zero, List.set_cons_succ]
          refine butLast_take (i := 1) (v := .func (.func f) #[] #[]) rfl (by kernel_rfl) (by kernel_rfl) (by kernel_rfl) (by kernel_rfl) (fun _ _ _ h => h) (Or.inl ⟨by kernel_rfl, ?_⟩) HS0.out ?_
          · rintro X ⟨s1, ⟨p0, p1, p2, p3, p4, p5, p6⟩, s2, s3, s4⟩
            go_simp
          try simp only [Act.put, List.setIfInBounds_toArray, List.set_cons_zero, List.set_cons_succ]
          refine butLast_take (i := 2) (v := .agg #[.bool b0, .bool b1, .bool b2, .int .i64 x3, .int .i64 x4, .int .i64 x5, .int .i64 x6]) rfl (by kernel_rfl) (by kernel_rfl) (by kernel_rfl) (by kernel_rfl) (fun _ _ _ h => h) (Or.inl ⟨by kernel_rfl, ?_⟩) HS0.out ?_
          · rintro X ⟨s1, ⟨p0, p1, p2, p3, p4, p5, p6⟩, s2, s3, s4⟩
            go_simp
          try simp only [Act.put, List.setIfInBounds_toArray, List.set_cons_zero, List.set_cons_succ]
          refine butLast_take (i := 3) (v := .pointer (some ⟨R, 1, none⟩)) rfl (by kernel_rfl) (by kernel_rfl) (by kernel_rfl) (by kernel_rfl) (fun _ _ _ h => h) (Or.inl ⟨by kernel_rfl, ?_⟩) HS0.out ?_
          · rintro X ⟨s1, ⟨p0, p1, p2, p3, p4, p5, p6⟩, s2, s3, s4⟩
            go_simp
          try simp only [Act.put, List.setIfInBounds_toArray, List.set_cons_zero, List.set_cons_succ]
          refine butLast_take (i := 4) (v := .slice (some ⟨ib, io, none⟩) n k) rfl (by kernel_rfl) (by kernel_rfl) (by kernel_rfl) (by kernel_rfl) (fun _ _ _ h => h) (Or.inl ⟨by kernel_rfl, ?_⟩) HS0.out ?_
          · rintro X ⟨s1, ⟨p0, p1, p2, p3, p4, p5, p6⟩, s2, s3, s4⟩
            go_simp
          try simp only [Act.put, List.setIfInBounds_toArray, List.set_cons_zero, List.set_cons_succ]
          refine butLast_take (i := 5) (v := .pointer (some ⟨B10, 1, none⟩)) rfl (by kernel_rfl) (by kernel_rfl) (by kernel_rfl) (by kernel_rfl) (fun _ _ _ h => h) (Or.inl ⟨by kernel_rfl, ?_⟩) HS0.out ?_
          · rintro X ⟨s1, ⟨p0, p1, p2, p3, p4, p5, p6⟩, s2, s3, s4⟩
            go_simp
          try simp only [Act.put, List.setIfInBounds_toArray, List.set_cons_zero, List.set_cons_succ]
          refine butLast_take (i := 6) (v := .int .i64 (m : Int)) rfl (by kernel_rfl) (by kernel_rfl) (by kernel_rfl) (by kernel_rfl) (fun _ _ _ h => h) (Or.inl ⟨by kernel_rfl, ?_⟩) HS0.out ?_
          · rintro X ⟨s1, ⟨p0, p1, p2, p3, p4, p5, p6⟩, s2, s3, s4⟩
            go_simp
          try simp only [Act.put, List.setIfInBounds_toArray, List.set_cons_zero, List.set_cons_succ]
          refine butLast_take (i := 7) (v := .pointer (some ⟨ib, io + m * 3, none⟩)) rfl (by kernel_rfl) (by kernel_rfl) (by kernel_rfl) (by kernel_rfl) (fun _ _ _ h => h) (Or.inl ⟨by kernel_rfl, ?_⟩) HS0.out ?_
          · rintro X ⟨s1, ⟨p0, p1, p2, p3, p4, p5, p6⟩, s2, s3, s4⟩
            go_simp
          try simp only [Act.put, List.setIfInBounds_toArray, List.set_cons_zero, List.set_cons_succ]
          refine butLast_take (i := 8) (v := .pointer (some ⟨ib, io + m * 3 + 2, none⟩)) rfl (by kernel_rfl) (by kernel_rfl) (by kernel_rfl) (by kernel_rfl) (fun _ _ _ h => h) (Or.inl ⟨by kernel_rfl, ?_⟩) HS0.out ?_
          · rintro X ⟨s1, ⟨p0, p1, p2, p3, p4, p5, p6⟩, s2, s3, s4⟩
            go_simp
          try simp only [Act.put, List.setIfInBounds_toArray, List.set_cons_zero, List.set_cons_succ]
          refine butLast_take (i := 9) (v := .string rv) rfl (by kernel_rfl) (by kernel_rfl) (by kernel_rfl) (by kernel_rfl) (fun _ _ _ h => h) (Or.inl ⟨by kernel_rfl, ?_⟩) HS0.out ?_
          · rintro X ⟨s1, ⟨p0, p1, p2, p3, p4, p5, p6⟩, s2, s3, s4⟩
            go_simp
          try simp only [Act.put, List.setIfInBounds_toArray, List.set_cons_zero, List.set_cons_succ]
          refine butLast_one (i := 10) rfl (by kernel_rfl) (fun K hK => ?_)
          go_simp
          refine (HSV.out _).mono ?_
          rintro e wa ⟨rfl, hba⟩
          have BA : Hid (Below v2.heap.size v2 wa) := B0.out.trans (hba.mono B0.out.size)
          clear hba
          refine hK _ _ (.inr (HKS.out _ BA.out)) ?_
          clear hK K
          try simp only [Act.put, List.setIfInBounds_toArray, List.set_cons_zero, List.set_cons_succ]
          refine butLast_one (i := 11) rfl (by kernel_rfl) (fun K hK => ?_)
          have hcf := HCF.out
          go_simp
          refine (HTV.out _).mono ?_
          rintro e wb ⟨rfl, hbb⟩
          have BB : Hid (Below v2.heap.size v2 wb) := BA.out.trans (hbb.mono BA.out.size)
          clear hbb
          refine hK _ _ (.inr (HKS.out _ BB.out)) ?_
          clear hK K
          try simp only [Act.put, List.setIfInBounds_toArray, List.set_cons_zero, List.set_cons_succ]
          have HPB := HKP.out _ BB.out
          have f0 := HPB.c0
          have f1 := HPB.c1
          have f2 := HPB.c2
          have f3 := HPB.c3
          have f4 := HPB.c4
          have f5 := HPB.c5
          have f6 := HPB.c6
          have z0 := HPB.fr 0
          have z1 := HPB.fr 1
          have z2 := HPB.fr 2
          have z3 := HPB.fr 3
          have z4 := HPB.fr 4
          have z5 := HPB.fr 5
          have z6 := HPB.fr 6
          clear HPB
          refine butLast_one (i := 12) rfl (by kernel_rfl) (fun K hK => ?_)
          have hpv : polV ⟨n0, n1, n2, n3, n4, n5, n6⟩ = .agg #[.bool n0, .bool n1, .bool n2, .int .i64 n3, .int .i64 n4, .int .i64 n5, .int .i64 n6] := rfl
          rw [hpv]
          clear hpv
          go_simp
          refine hK _ _ (.inl rfl) ?_
          clear hK K
          refine butLast_end (by kernel_rfl) ?_
          have JE : Hid _ := (G2.out.1.keep BB.out).put ⟨n0, n1, n2, n3, n4, n5, n6⟩
          clear f0 f1 f2 f3 f4 f5 f6 z0 z1 z2 z3 z4 z5 z6
          go_wp2_with fail
          go_roundw
          case rel => exact ⟨j + 1, by omega, by go_num, by rw [HQ2.out]; exact JE.out⟩
          case measure => simp [intOf]; omega
      · obtain rfl : j = 9 := by omega
        have HR9 : Hid (PO = foldP L ⟨false, false, false, xd, 0, 0, ag⟩ 9) := HPO.out
        generalize foldP L ⟨false, false, false, xd, 0, 0, ag⟩ 9 = q at *
        obtain ⟨b0, b1, b2, x3, x4, x5, x6⟩ := q
        clear HPO
        go_upto_region 18 with fail
        have ZZ : Hid _ := J1.out.z.done J1.out.b 0 b0 b1 b2 x3 x4 x5 x6
        have z0 := J1.out.z.c0
        have z1 := J1.out.z.c1
        have z2 := J1.out.z.c2
        have z3 := J1.out.z.c3
        have z4 := J1.out.z.c4
        have z5 := J1.out.z.c5
        have z6 := J1.out.z.c6
        have z7 := J1.out.z.c7
        have zf0 := J1.out.z.fr 0
        have zf1 := J1.out.z.fr 1
        have zf2 := J1.out.z.fr 2
        have zf3 := J1.out.z.fr 3
        have zf4 := J1.out.z.fr 4
        have zf5 := J1.out.z.fr 5
        have zf6 := J1.out.z.fr 6
        have zf7 := J1.out.z.fr 7
        have y0 := J1.out.p.c0
        have y1 := J1.out.p.c1
        have y2 := J1.out.p.c2
        have y3 := J1.out.p.c3
        have y4 := J1.out.p.c4
        have y5 := J1.out.p.c5
        have y6 := J1.out.p.c6
        go_wp2_with fail
        have r0 := ZZ.out.1.c0
        have r1 := ZZ.out.1.c1
        have r2 := ZZ.out.1.c2
        have r3 := ZZ.out.1.c3
        have r4 := ZZ.out.1.c4
        have r5 := ZZ.out.1.c5
        have r6 := ZZ.out.1.c6
        have r7 := ZZ.out.1.c7
        exact bodyPost_ret (v := .agg #[.int .i64 0, .bool b0, .bool b1, .bool b2, .int .i64 x3, .int .i64 x4, .int .i64 x5, .int .i64 x6]) (by simp [results, Tryz.results7, go_sem, r0, r1, r2, r3, r4, r5, r6, r7]) rfl ⟨polRV_ret rfl HR9.out, ZZ.out.2⟩
  · have HPX : Hid (PO = ⟨true, false, false, 0, 0, 0, ag⟩) := HP1.out hp
    have hn : (pc != 0) = true := by simpa using hp
    obtain ⟨f1, f2, f3, f4, f5, f6, f7⟩ := F4.out
    have y0 := f3.c0
    have yf := f3.fr 0
    obtain ⟨v5, hv5⟩ : ∃ X, Hid (X = v4.setCell ⟨P, 0, none⟩ (.bool true)) := ⟨_, rfl⟩
    have Q : Hid (PK2 w P true false false 0 0 0 ag v5) := by
      rw [hv5.out]
      exact ⟨f1.setCell (by show w.heap.size ≤ P; omega) _, f2.off (by omega), f3.set0 _⟩
    clear f1 f2 f3 f4 f5 f6 f7 F4 HP0 HP1
    go_upto_region 9 with fail
    rw [← hv5.out]
    clear hv5 y0 yf r0
    have ZZ : Hid _ := Q.out.z.done Q.out.b 0 true false false 0 0 0 ag
    have z0 := Q.out.z.c0
    have z1 := Q.out.z.c1
    have z2 := Q.out.z.c2
    have z3 := Q.out.z.c3
    have z4 := Q.out.z.c4
    have z5 := Q.out.z.c5
    have z6 := Q.out.z.c6
    have z7 := Q.out.z.c7
    have zf0 := Q.out.z.fr 0
    have zf1 := Q.out.z.fr 1
    have zf2 := Q.out.z.fr 2
    have zf3 := Q.out.z.fr 3
    have zf4 := Q.out.z.fr 4
    have zf5 := Q.out.z.fr 5
    have zf6 := Q.out.z.fr 6
    have zf7 := Q.out.z.fr 7
    have y0 := Q.out.p.c0
    have y1 := Q.out.p.c1
    have y2 := Q.out.p.c2
    have y3 := Q.out.p.c3
    have y4 := Q.out.p.c4
    have y5 := Q.out.p.c5
    have y6 := Q.out.p.c6
    go_wp2_with fail
    have r0 := ZZ.out.1.c0
    have r1 := ZZ.out.1.c1
    have r2 := ZZ.out.1.c2
    have r3 := ZZ.out.1.c3
    have r4 := ZZ.out.1.c4
    have r5 := ZZ.out.1.c5
    have r6 := ZZ.out.1.c6
    have r7 := ZZ.out.1.c7
    exact bodyPost_ret (v := .agg #[.int .i64 0, .bool true, .bool false, .bool false, .int .i64 0, .int .i64 0, .int .i64 0, .int .i64 ag]) (by simp [results, Tryz.results7, go_sem, r0, r1, r2, r3, r4, r5, r6, r7]) rfl ⟨polRV_ret rfl HPX.out, ZZ.out.2⟩
end Go.Proofs.YtgfbahjpaaanoaaGreatDoor
/-
  The laws' comparing of two lists of items that are alike.
-/
namespace Go.Proofs.YtgfbahjpaaanoaaGreatDoor
open Go.ChangeShapes Go.WideShapes Go.ChangeAt Go.RowKit Go.Sort
set_option maxRecDepth 100000 in
set_option maxHeartbeats 2000000 in
theorem eqHeaderS_same (w : World) (b1 o1 b2 o2 c1 c2 : Nat) (l : List Hdr) (hl : l.length ≤ 1048576) (h1 : HeadsAt w b1 o1 l) (h2 : HeadsAt w b2 o2 l) :
    Calls Tryz.prog 17 #[.slice (some ⟨b1, o1, none⟩) l.length c1, .slice (some ⟨b2, o2, none⟩) l.length c2] w fun e w' => e = .returned (.bool true) ∧ Below w.heap.size w w' := by
  have H1 : Hid (HeadsAt w b1 o1 l) := h1
  have H2 : Hid (HeadsAt w b2 o2 l) := h2
  clear h1 h2
  generalize hn : l.length = n at *
  have HN : Hid (l.length = n) := hn
  clear hn
  go_enter Tryz.func17, Tryz.ntmps17
  go_wp2_with fail
  go_loopw [5] (fun i wr => ∃ k : Nat, k ≤ n ∧ i = .int .i64 k ∧ Below w.heap.size w wr) (fun i _ => n - (intOf i).toNat)
  case atStart => exact ⟨0, Nat.zero_le _, rfl, Below.refl _ _⟩
  case round =>
    obtain ⟨k, hk, rfl, hb⟩ := hrel
    by_cases hlt : k < n
    · obtain ⟨r, hr⟩ : ∃ r, l[k]? = some r := ⟨l[k]'(by have := HN.out; omega), List.getElem?_eq_getElem _⟩
      obtain ⟨p1, p3⟩ := (H1.out.keep hb) k r hr
      obtain ⟨q1, q3⟩ := (H2.out.keep hb) k r hr
      have x1 := cell_regrown p1
      have x3 := cell_regrown p3
      have y1 := cell_regrown q1
      have y3 := cell_regrown q3
      have cE : ∀ d os, Calls Tryz.prog 42 #[.agg #[.string r.name, .string r.value], .agg #[.string r.name, .string r.value]] (grow (redrawn wr d) os) fun e w'' => e = .returned (.bool true) ∧ ∃ p : Regrown, w'' = grow (redrawn wr p.d) p.os := fun d os => Calls.regrown_of (eqHeader_same r _)
      have g0 : (0 : Int) ≤ k := by omega
      have g : (k : Int) < n := by omega
      clear hr p1 p3 q1 q3
      generalize r.name = rn at *
      generalize r.value = rv at *
      go_wp2_with fail
      refine wp_region_quiet_below (by kernel_rfl) (by kernel_rfl) ?_
      repeat (go_big_quiet_step ((go_at_call 42; exact cE _ _)))
      refine wpQuiet_nil ?_
      intro w2 hw2
      have hbb : Below w.heap.size w w2 := by
        obtain ⟨⟨d, os⟩, rfl⟩ := hw2
        exact hb.trans ((below_regrown wr d os).mono hb.size)
      clear x1 x3 y1 y3 cE hw2 hb
      go_wp2_with fail
      go_roundw
      case rel => exact ⟨k + 1, by omega, by go_num, hbb⟩
      case measure => simp [intOf]; omega
    · go_wp2_with fail
      go_ret
      exact ⟨rfl, hb⟩
end Go.Proofs.YtgfbahjpaaanoaaGreatDoor
/-
  Two text results that are alike.
-/
namespace Go.Proofs.YtgfbahjpaaanoaaGreatDoor
open Go.ChangeShapes Go.WideShapes Go.ChangeAt Go.RowKit
end Go.Proofs.YtgfbahjpaaanoaaGreatDoor
/-
  The law of EtagOf.
-/
namespace Go.Proofs.YtgfbahjpaaanoaaGreatDoor
open Go.ChangeShapes Go.WideShapes Go.ChangeAt Go.RowKit
end Go.Proofs.YtgfbahjpaaanoaaGreatDoor
/-
  PolicyOf: the program's answer, for whatever heads; and its law.
-/
namespace Go.Proofs.YtgfbahjpaaanoaaGreatDoor
open Go.ChangeShapes Go.WideShapes Go.ChangeAt Go.RowKit
set_option maxRecDepth 100000 in
set_option maxHeartbeats 4000000 in
theorem implPolicy_any (w : World) (a : Option Addr) (cap : Nat) (l : List Hdr) (hl : l.length ≤ 1048576) (hcap : l.length ≤ cap) (hset : SetIs w) (hpow : num.PowIs w) (hi : HdsIn w a l) :
    Calls Tryz.prog 7 #[.slice a l.length cap] w fun e w' => e = .returned (polRV (headsC l) (polR l)) ∧ Below w.heap.size w w' := by
  by_cases h0 : headsC l = 0
  · rw [polR_ok h0, h0]
    exact implPolicy_ok w a cap l h0 hcap hset hpow hi
  rw [polR_bad h0]
  have HA : Hid (∀ W, Below w.heap.size w W → Calls Tryz.prog 22 #[.slice a l.length cap] W fun e w' => e = .returned (.int .i64 (headsC l)) ∧ Below W.heap.size W w') := fun W hb => implHFault_any W a cap l hl (hset.below hb) (hi.keep hb)
  clear hi hset hpow hcap hl
  generalize headsC l = c at *
  generalize l.length = ln at *
  have hc : (c != 0) = true := by simpa using h0
  clear h0
  have HZ0 : Hid (Z8 (w.alloc (.cells #[.int .i64 0, .bool false, .bool false, .bool false, .int .i64 0, .int .i64 0, .int .i64 0, .int .i64 0] 29)) w.heap.size (.int .i64 0) (.bool false) (.bool false) (.bool false) (.int .i64 0) (.int .i64 0) (.int .i64 0) (.int .i64 0)) := Z8.new w _ _ _ _ _ _ _ _ _
  have HB0 : Hid (Below w.heap.size w (w.alloc (.cells #[.int .i64 0, .bool false, .bool false, .bool false, .int .i64 0, .int .i64 0, .int .i64 0, .int .i64 0] 29))) := (Below.refl _ _).alloc (Nat.le_refl _) _
  go_enter Tryz.func7, Tryz.ntmps7
  go_wp2_with fail
  refine (HA.out _ HB0.out).mono ?_
  rintro e w1 ⟨rfl, hb1⟩
  have HB1 : Hid (Below w.heap.size w w1) := HB0.out.trans (hb1.mono HB0.out.size)
  have HZ1 : Hid (Z8 w1 w.heap.size (.int .i64 0) (.bool false) (.bool false) (.bool false) (.int .i64 0) (.int .i64 0) (.int .i64 0) (.int .i64 0)) := HZ0.out.keep hb1
  clear hb1 HB0 HZ0 HA
  have ZZ : Hid _ := HZ1.out.done HB1.out c false false false 0 0 0 0
  have z0 := HZ1.out.c0
  have z1 := HZ1.out.c1
  have z2 := HZ1.out.c2
  have z3 := HZ1.out.c3
  have z4 := HZ1.out.c4
  have z5 := HZ1.out.c5
  have z6 := HZ1.out.c6
  have z7 := HZ1.out.c7
  have zf0 := HZ1.out.fr 0
  have zf1 := HZ1.out.fr 1
  have zf2 := HZ1.out.fr 2
  have zf3 := HZ1.out.fr 3
  have zf4 := HZ1.out.fr 4
  have zf5 := HZ1.out.fr 5
  have zf6 := HZ1.out.fr 6
  have zf7 := HZ1.out.fr 7
  go_wp2_with fail
  have r0 := ZZ.out.1.c0
  have r1 := ZZ.out.1.c1
  have r2 := ZZ.out.1.c2
  have r3 := ZZ.out.1.c3
  have r4 := ZZ.out.1.c4
  have r5 := ZZ.out.1.c5
  have r6 := ZZ.out.1.c6
  have r7 := ZZ.out.1.c7
  exact bodyPost_ret (v := .agg #[.int .i64 c, .bool false, .bool false, .bool false, .int .i64 0, .int .i64 0, .int .i64 0, .int .i64 0]) (by simp [results, Tryz.results7, go_sem, r0, r1, r2, r3, r4, r5, r6, r7]) rfl ⟨rfl, ZZ.out.2⟩
set_option maxRecDepth 100000 in
set_option maxHeartbeats 4000000 in
theorem lawPolicyOf (w : World) (a : Option Addr) (cap : Nat) (l : List Hdr) (hset : SetIs w) (hpow : num.PowIs w) (hl : l.length ≤ maxLen) (hz : SmallHdrs l) (hi : HdsIn w a l) :
    Calls Tryz.prog 4 #[.slice a l.length cap] w fun e w' => e = .returned (.bool true) ∧ Below w.heap.size w w' := by
  have HZ := szHeaderS_any w a cap l hl hi hz 1048576 (by omega) (by omega)
  have HR : Hid (¬ szHL 1048576 l < 0 → (l.length : Int) ≤ 1048576 ∧ ∀ (i : Nat) r, l[i]? = some r → r.name.size ≤ 1048576 ∧ r.value.size ≤ 1048576) := szHL_room (by omega)
  have HI : Hid (HdsIn w a l) := hi
  have HS : Hid (SetIs w) := hset
  have HP : Hid (num.PowIs w) := hpow
  generalize szHL 1048576 l = z at *
  clear hz hi hl hset hpow
  go_enter Tryz.func4, Tryz.ntmps4
  go_wp2_with fail
  refine HZ.mono ?_
  rintro e w1 ⟨rfl, hb1⟩
  clear HZ
  by_cases c : z < 0
  · go_wp2_with fail
    go_ret
    exact ⟨rfl, hb1⟩
  obtain ⟨hlen, hsm⟩ := HR.out (by omega)
  have HT : Hid (∀ W, Below w.heap.size w W → Calls Tryz.prog 15 #[.slice a l.length cap] W fun e w' => e = .returned (.slice (some ⟨W.heap.size, 0, none⟩) l.length l.length) ∧ HeadsAt w' W.heap.size 0 l ∧ Below W.heap.size W w') := fun W hb => toHeaderS_any W a cap l (by omega) (HI.out.keep hb)
  have HF : Hid (∀ W b, HeadsAt W b 0 l → Calls Tryz.prog 8 #[.slice (some ⟨b, 0, none⟩) l.length l.length] W fun e w' => e = .returned (polRV (headsC l) (polR l)) ∧ Below W.heap.size W w') := fun W b h => specPolicy_any W _ _ l (by omega) (.inr ⟨b, 0, rfl, h⟩)
  have HG : Hid (∀ W b, Below w.heap.size w W → HeadsAt W b 0 l → Calls Tryz.prog 7 #[.slice (some ⟨b, 0, none⟩) l.length l.length] W fun e w' => e = .returned (polRV (headsC l) (polR l)) ∧ Below W.heap.size W w') := fun W b hb h => implPolicy_any W _ _ l (by omega) (Nat.le_refl _) (HS.out.below hb) (HP.out.below hb) (.inr ⟨b, 0, rfl, h⟩)
  have HE : Hid (∀ W b1 b2, HeadsAt W b1 0 l → HeadsAt W b2 0 l → Calls Tryz.prog 17 #[.slice (some ⟨b1, 0, none⟩) l.length l.length, .slice (some ⟨b2, 0, none⟩) l.length l.length] W fun e w' => e = .returned (.bool true) ∧ Below W.heap.size W w') := fun W b1 b2 h1 h2 => eqHeaderS_same W b1 0 b2 0 _ _ l (by omega) h1 h2
  clear HR hsm HI
  generalize l.length = n at *
  generalize headsC l = fc at *
  generalize polR l = pq at *
  have HQ : Hid (∀ W, Calls Tryz.prog 16 #[polRV fc pq, polRV fc pq] W fun r w' => r = .returned (.bool true) ∧ Below W.heap.size W w') := eqPolicyResult_same fc pq
  obtain ⟨q0, q1, q2, q3, q4, q5, q6⟩ := pq
  have erv : polRV fc ⟨q0, q1, q2, q3, q4, q5, q6⟩ = .agg #[.int .i64 fc, .bool q0, .bool q1, .bool q2, .int .i64 q3, .int .i64 q4, .int .i64 q5, .int .i64 q6] := rfl
  rw [erv] at HF HG HQ
  clear erv
  have HB1 : Hid (Below w.heap.size w w1) := hb1
  clear hb1
  go_wp2_with fail
  refine (HT.out _ HB1.out).mono ?_
  rintro e w2 ⟨rfl, hat2, hb2⟩
  have HB2 : Hid (Below w.heap.size w w2) := HB1.out.trans (hb2.mono HB1.out.size)
  clear hb2 HB1
  go_wp2_with fail
  refine (HF.out _ _ hat2).mono ?_
  rintro e w3 ⟨rfl, hb3⟩
  have HB3 : Hid (Below w.heap.size w w3) := HB2.out.trans (hb3.mono HB2.out.size)
  clear hb3 HB2 hat2 HF
  obtain ⟨W3, hW3⟩ : ∃ W, W = w3.alloc (.cells #[.int .i64 fc, .bool q0, .bool q1, .bool q2, .int .i64 q3, .int .i64 q4, .int .i64 q5, .int .i64 q6] 29) := ⟨_, rfl⟩
  have HW3 : Hid (W3 = w3.alloc (.cells #[.int .i64 fc, .bool q0, .bool q1, .bool q2, .int .i64 q3, .int .i64 q4, .int .i64 q5, .int .i64 q6] 29)) := hW3
  have K3 : Hid (Below w.heap.size w W3 ∧ Z8 W3 w3.heap.size (.int .i64 fc) (.bool q0) (.bool q1) (.bool q2) (.int .i64 q3) (.int .i64 q4) (.int .i64 q5) (.int .i64 q6)) := by
    subst hW3
    exact ⟨HB3.out.alloc HB3.out.size _, Z8.new w3 _ _ _ _ _ _ _ _ _⟩
  clear hW3 HB3
  go_wp2_with fail
  rw [← HW3.out]
  clear HW3
  generalize w3.heap.size = B3 at *
  clear w3
  refine (HT.out _ K3.out.1).mono ?_
  rintro e w4 ⟨rfl, hat4, hb4⟩
  have K4 : Hid (Below w.heap.size w w4 ∧ Z8 w4 B3 (.int .i64 fc) (.bool q0) (.bool q1) (.bool q2) (.int .i64 q3) (.int .i64 q4) (.int .i64 q5) (.int .i64 q6) ∧ HeadsAt w4 W3.heap.size 0 l) := ⟨K3.out.1.trans (hb4.mono K3.out.1.size), K3.out.2.keep hb4, hat4⟩
  clear hb4 K3 hat4
  generalize W3.heap.size = B4 at *
  clear W3
  go_wp2_with fail
  refine (HG.out _ _ K4.out.1 K4.out.2.2).mono ?_
  rintro e w5 ⟨rfl, hb5⟩
  obtain ⟨k1, k2, k4⟩ := K4.out
  have b5 := k1.trans (hb5.mono k1.size)
  have k2' := k2.keep hb5
  obtain ⟨d0, d1, d2, d3, d4, d5, d6, d7, _, hlt⟩ := k2'
  have K5 : Hid (Below w.heap.size w (w5.alloc (.cells #[.int .i64 fc, .bool q0, .bool q1, .bool q2, .int .i64 q3, .int .i64 q4, .int .i64 q5, .int .i64 q6] 29)) ∧ HeadsAt (w5.alloc (.cells #[.int .i64 fc, .bool q0, .bool q1, .bool q2, .int .i64 q3, .int .i64 q4, .int .i64 q5, .int .i64 q6] 29)) B4 0 l) :=
    ⟨b5.alloc b5.size _, (k4.keep hb5).keep ((Below.refl _ _).alloc (Nat.le_refl _) _)⟩
  clear K4 hb5 HG HS k1 k2 k4 b5
  have rne : ¬ B3 = w5.heap.size := by omega
  go_wp2_with fail
  refine (HQ.out _).mono ?_
  rintro e w6 ⟨rfl, hb6⟩
  have K6 : Hid (Below w.heap.size w w6 ∧ HeadsAt w6 B4 0 l) := ⟨K5.out.1.trans (hb6.mono K5.out.1.size), K5.out.2.keep hb6⟩
  clear hb6 K5 HQ
  go_wp2_with fail
  refine (HT.out _ K6.out.1).mono ?_
  rintro e w7 ⟨rfl, hat7, hb7⟩
  have K7 : Hid (Below w.heap.size w w7 ∧ HeadsAt w7 B4 0 l ∧ HeadsAt w7 w6.heap.size 0 l) := ⟨K6.out.1.trans (hb7.mono K6.out.1.size), K6.out.2.keep hb7, hat7⟩
  clear hb7 K6 hat7
  go_wp2_with fail
  refine (HE.out _ _ _ K7.out.2.1 K7.out.2.2).mono ?_
  rintro e w8 ⟨rfl, hb8⟩
  have K8 : Hid (Below w.heap.size w w8) := K7.out.1.trans (hb8.mono K7.out.1.size)
  clear hb8
  go_wp2_with fail
  go_ret
  exact ⟨rfl, K8.out⟩
end Go.Proofs.YtgfbahjpaaanoaaGreatDoor
/-
  What heads allow, plainly: what a policy out of heads keeps to.
-/
namespace Go.Proofs.YtgfbahjpaaanoaaGreatDoor
open Go.ChangeShapes Go.WideShapes Go.ChangeAt Go.RowKit Go.Sort
theorem secD_bd (s : ByteArray) : 0 ≤ secD s ∧ secD s ≤ 2147483648000 := by
  have := max0_bd (numD_hi s) (by omega)
  unfold secD
  omega
theorem secR_bd (nm : ByteArray) (L : List Rec) : 0 ≤ secR nm L ∧ secR nm L ≤ 2147483648000 := by
  unfold secR
  split
  · omega
  · split
    · split
      · exact secD_bd _
      · omega
    · omega
theorem expX_bd (eb db : Bool) (e d : Int) (he : e ≤ 253402300799) : (expX eb db e d = -1) ∨ (0 ≤ expX eb db e d ∧ expX eb db e d ≤ 253402300799000) := by
  unfold expX
  split
  · exact .inl rfl
  · split
    · exact .inr (by omega)
    · rename_i h
      refine .inr ?_
      have : 0 ≤ d := by
        rcases Int.lt_or_le d 0 with k | k
        · exact absurd (.inr (.inr k)) h
        · exact k
      have hm := max0_bd (x := e - d) (m := 253402300799) (by omega) (by omega)
      omega
theorem pol_fault {l : List Hdr} (hx : ∀ s : ByteArray, parI s ≤ 253402300799) : polB (polOf l).l (polOf l).s (polOf l).e (polOf l).g = true := by
  have hg : timeB (ageD l) = true := by
    unfold ageD
    split
    · have := secD_bd (firstV ageN l); exact timeB_yes (by omega) (by omega)
    · decide
  have hs : ∀ nm L, timeB (secR nm L) = true := fun nm L => by have := secR_bd nm L; exact timeB_yes (by omega) (by omega)
  have he : timeB (expD l) = true ∨ expD l = -1 := by
    rcases expX_bd (firstB expN l) (firstB datN l) (parI (firstV expN l)) (parI (firstV datN l)) (hx _) with h | h
    · exact .inr h
    · exact .inl (timeB_yes h.1 (by have := h.2; unfold expD; omega))
  unfold polOf
  split
  · simp only [polB, Bool.and_eq_true, Bool.or_eq_true, decide_eq_true_eq]
    refine ⟨⟨⟨?_, ?_⟩, ?_⟩, hg⟩
    · unfold lifeR
      split
      · exact .inl (hs _ _)
      · split
        · exact .inl (hs _ _)
        · exact he
    · split
      · decide
      · exact hs _ _
    · split
      · decide
      · exact hs _ _
  · simp only [polB, Bool.and_eq_true, Bool.or_eq_true, decide_eq_true_eq]
    exact ⟨⟨⟨.inl (by decide), by decide⟩, by decide⟩, hg⟩
theorem pol_must {l : List Hdr} (h : (polOf l).b2 = true) : (polOf l).s = 0 ∧ (polOf l).e = 0 := by
  unfold polOf at *
  split at h
  · rename_i k
    rw [if_pos k]
    simp only at h
    simp only [h, if_true]
    exact ⟨trivial, trivial⟩
  · exact absurd h (by simp)
theorem parI_hi (s : ByteArray) : parI s ≤ 253402300799 := by
  unfold parI
  split
  · rename_i h; exact h.2.choose_spec.bd.2
  · omega
theorem life_nostore {l s e g : Int} (h : polB l s e g = true) : lifeC true l s e g 200 0 = 4 := (life_none h (by decide) (by simp [keepB])).1
/-- What StoreLife tells, if it tells a life. -/
theorem life_facts {b0 : Bool} {l s e g st ng : Int} (h : lifeC b0 l s e g st ng = 0) : b0 = false ∧ (0 ≤ lifeV b0 l s e g st ng ∧ lifeV b0 l s e g st ng ≤ 1000000000000000) ∧ (l ≠ -1 → lifeV b0 l s e g st ng = l) := by
  have hv : lifeV b0 l s e g st ng = lifeX l ng := by rw [lifeV, if_pos h]
  have hp : polB l s e g = true := by
    cases q : polB l s e g
    · rw [(life_pol q).1] at h; exact absurd h (by decide)
    · rfl
  have hr : rangeB st ng = true := by
    cases q : rangeB st ng
    · rw [(life_range hp q).1] at h; exact absurd h (by decide)
    · rfl
  have hk : keepB b0 l st = true := by
    cases q : keepB b0 l st
    · rw [(life_none hp hr q).1] at h; exact absurd h (by decide)
    · rfl
  simp only [polB, Bool.and_eq_true, Bool.or_eq_true, decide_eq_true_eq] at hp
  simp only [rangeB, Bool.and_eq_true] at hr
  simp only [keepB, Bool.and_eq_true, Bool.not_eq_true'] at hk
  refine ⟨hk.1.1, ?_, fun k => ?_⟩
  · rw [hv]
    unfold lifeX
    split
    · exact timeB_of hr.2
    · rename_i q; exact timeB_of (hp.1.1.1.resolve_right q)
  · rw [hv, lifeX_told k]
end Go.Proofs.YtgfbahjpaaanoaaGreatDoor
/-
  The law of policies, out of contracts.
-/
namespace Go.Proofs.YtgfbahjpaaanoaaGreatDoor
open Go.ChangeShapes Go.WideShapes Go.ChangeAt Go.RowKit Go.Sort
namespace pols
theorem guardIR (op : BinOp) (a b : Operand) (x y : Array Value) (w : World) : (eqGuard op 34 a b (.agg x) (.agg y)).run Tryz.prog w = .ok () w := run_eqGuard_agg w op 34 a b x y (by kernel_rfl)
theorem neqIR (c v : Int) (w : World) : (binOp .neq 34 (.agg #[.int .i64 c, .int .i64 v]) (.agg #[.int .i64 c, .int .i64 v])).run Tryz.prog w = .ok (.bool false) w := by
  have u9 := Tryz.underlying2
  have a9 := Tryz.isAgg2
  have z9 := Tryz.sizeOf2
  have hS : Tryz.prog.underlying 34 = some (.struct (Tryz.prog.fieldsOf 34)) := by kernel_rfl
  have hp : Tryz.prog.stoodInHeld 34 = false := by kernel_rfl
  rw [run_neq_struct, show (10000 : Nat) = 9999 + 1 from rfl, run_equalIn_agg w 9999 34 _ _ hS hp]
  simp only [Program.fieldsOf, Tryz.underlying34]
  go_simp
theorem ifieldC (c v : Int) (w : World) : (Instr.field 34 (.agg #[.int .i64 c, .int .i64 v]) 0).run Tryz.prog w = .ok (.int .i64 c) w := by kernel_rfl
theorem guardPR (op : BinOp) (a b : Operand) (x y : Array Value) (w : World) : (eqGuard op 29 a b (.agg x) (.agg y)).run Tryz.prog w = .ok () w := run_eqGuard_agg w op 29 a b x y (by kernel_rfl)
theorem neqPR (c : Int) (q0 q1 q2 : Bool) (q3 q4 q5 q6 : Int) (w : World) : (binOp .neq 29 (.agg #[.int .i64 c, .bool q0, .bool q1, .bool q2, .int .i64 q3, .int .i64 q4, .int .i64 q5, .int .i64 q6]) (.agg #[.int .i64 c, .bool q0, .bool q1, .bool q2, .int .i64 q3, .int .i64 q4, .int .i64 q5, .int .i64 q6])).run Tryz.prog w = .ok (.bool false) w := by
  have u9 := Tryz.underlying2
  have a9 := Tryz.isAgg2
  have z9 := Tryz.sizeOf2
  have u4 := Tryz.underlying4
  have a4 := Tryz.isAgg4
  have z4 := Tryz.sizeOf4
  have uM := Tryz.underlying27
  have aM := Tryz.isAgg27
  have zM := Tryz.sizeOf27
  have hS : Tryz.prog.underlying 29 = some (.struct (Tryz.prog.fieldsOf 29)) := by kernel_rfl
  have hp : Tryz.prog.stoodInHeld 29 = false := by kernel_rfl
  have hS2 : Tryz.prog.underlying 27 = some (.struct (Tryz.prog.fieldsOf 27)) := by kernel_rfl
  have hp2 : Tryz.prog.stoodInHeld 27 = false := by kernel_rfl
  have hin : ∀ (x y : Array Value), (Op.equalIn 9999 27 (.agg x) (.agg y)).run Tryz.prog w = (Op.eqFields 9998 x y (Tryz.prog.fieldsOf 27).toList).run Tryz.prog w := fun x y => run_equalIn_agg w 9998 27 x y hS2 hp2
  simp only [Program.fieldsOf, Tryz.underlying27] at hin
  rw [run_neq_struct, show (10000 : Nat) = 9999 + 1 from rfl, run_equalIn_agg w 9999 29 _ _ hS hp]
  simp only [Program.fieldsOf, Tryz.underlying29]
  go_simp
theorem own_cap {w : World} {base : Nat} {pa : Option Addr} {n pc : Nat} {L : List Hdr} (h : OwnH w base (.slice pa n pc) L) : n = L.length ∧ L.length ≤ pc ∧ HdsIn w pa L := by
  obtain ⟨a', c', e, hin⟩ := h.at
  simp only [Value.slice.injEq] at e
  refine ⟨e.2.1, ?_, by rw [e.1]; exact hin⟩
  obtain ⟨_, h1 | ⟨g, c2, cur, e2, _, _, hc2, _⟩⟩ := h
  · have : L = [] := List.eq_nil_of_length_eq_zero h1.2
    subst this; simp
  · simp only [Value.slice.injEq] at e2
    rw [e2.2.2]; exact hc2
set_option maxRecDepth 100000 in
set_option maxHeartbeats 16000000 in
theorem fnPolicies_walk (w : World) (a : Option Addr) (len cap : Nat) (hc : CodeRow w w.heap.size a len) (hset : SetIs w) (hpow : num.PowIs w) :
    Calls Tryz.prog 3 #[.slice a len cap] w fun e w' => e = .returned (.bool true) ∧ Below w.heap.size w w' := by
  have HC : Hid (CodeRow w w.heap.size a len) := hc
  have HSET : Hid (SetIs w) := hset
  have HPOW : Hid (num.PowIs w) := hpow
  clear hc hset hpow
  by_cases hbig : (1048576 : Int) < len
  · go_enter Tryz.func3, Tryz.ntmps3
    go_wp2
    go_ret
    exact ⟨rfl, Below.refl _ _⟩
  have hl2 : len ≤ 1048576 := by omega
  go_enter Tryz.func3, Tryz.ntmps3
  go_wp2_with (go_at_call 5; go_in)
  refine (drawHeads6_any w a len cap HC.out hl2).mono ?_
  rintro r w1 ⟨⟨v, L, rfl, own, hlen⟩, hb1⟩
  obtain ⟨pa, pc, rfl, _⟩ := own.at
  have F1 : Hid (Below w.heap.size w w1 ∧ OwnH w1 w.heap.size (.slice pa L.length pc) L) := ⟨hb1, own⟩
  have hcp : L.length ≤ pc := (own_cap own).2.1
  clear own hb1
  have HIP : Hid (∀ W, Below w1.heap.size w1 W → Calls Tryz.prog 7 #[.slice pa L.length pc] W fun e w' => e = .returned (polRV (headsC L) (polR L)) ∧ Below W.heap.size W w') := fun W hb => by
    have q := F1.out.1.trans (hb.mono F1.out.1.size)
    exact implPolicy_any W pa pc L (by omega) hcp (HSET.out.below q) (HPOW.out.below q) (own_cap (F1.out.2.below hb)).2.2
  have HSP : Hid (∀ W, Below w1.heap.size w1 W → Calls Tryz.prog 8 #[.slice pa L.length pc] W fun e w' => e = .returned (polRV (headsC L) (polR L)) ∧ Below W.heap.size W w') := fun W hb => specPolicy_any W pa pc L (by omega) (own_cap (F1.out.2.below hb)).2.2
  have HQF : Hid (headsC L = 0 → polB (polR L).l (polR L).s (polR L).e (polR L).g = true ∧ ((polR L).b2 = true → (polR L).s = 0 ∧ (polR L).e = 0)) := fun h => by rw [polR_ok h]; exact ⟨pol_fault parI_hi, pol_must⟩
  generalize L.length = ln at *
  generalize headsC L = fc at *
  generalize polR L = pq at *
  obtain ⟨q0, q1, q2, q3, q4, q5, q6⟩ := pq
  have erv : polRV fc ⟨q0, q1, q2, q3, q4, q5, q6⟩ = .agg #[.int .i64 fc, .bool q0, .bool q1, .bool q2, .int .i64 q3, .int .i64 q4, .int .i64 q5, .int .i64 q6] := rfl
  rw [erv] at HIP HSP
  clear erv
  have HQ : Hid (fc = 0 → polB q3 q4 q5 q6 = true ∧ (q2 = true → q4 = 0 ∧ q5 = 0)) := HQF.out
  clear HQF hcp hlen
  go_wp2_with fail
  refine (HIP.out _ (Below.refl _ _)).mono ?_
  rintro r w2 ⟨rfl, hb2⟩
  obtain ⟨v2, hv2⟩ : ∃ X, Hid (X = w2.alloc (.cells #[.int .i64 fc, .bool q0, .bool q1, .bool q2, .int .i64 q3, .int .i64 q4, .int .i64 q5, .int .i64 q6] 29)) := ⟨_, rfl⟩
  have F2 : Hid (Below w.heap.size w v2 ∧ Below w1.heap.size w1 v2 ∧ Z8 v2 w2.heap.size (.int .i64 fc) (.bool q0) (.bool q1) (.bool q2) (.int .i64 q3) (.int .i64 q4) (.int .i64 q5) (.int .i64 q6)) := by
    have al : Below w2.heap.size w2 (w2.alloc (.cells #[.int .i64 fc, .bool q0, .bool q1, .bool q2, .int .i64 q3, .int .i64 q4, .int .i64 q5, .int .i64 q6] 29)) := (Below.refl _ _).alloc (Nat.le_refl _) _
    have q := hb2.trans (al.mono hb2.size)
    rw [hv2.out]
    exact ⟨F1.out.1.trans (q.mono F1.out.1.size), q, Z8.new _ _ _ _ _ _ _ _ _ _⟩
  clear hb2 HIP
  go_upto_region 5 with fail
  rw [← hv2.out]
  clear hv2
  generalize w2.heap.size = R at *
  clear w2
  go_cut [18] from 15 to 18 (fun s18 wx => s18 = .bool false ∧ Below v2.heap.size v2 wx)
  case first =>
    have hn1 := neqPR
    have hn2 := guardPR
    have q0r := cell_regrown F2.out.2.2.c0
    have q1r := cell_regrown F2.out.2.2.c1
    have q2r := cell_regrown F2.out.2.2.c2
    have q3r := cell_regrown F2.out.2.2.c3
    have q4r := cell_regrown F2.out.2.2.c4
    have q5r := cell_regrown F2.out.2.2.c5
    have q6r := cell_regrown F2.out.2.2.c6
    have q7r := cell_regrown F2.out.2.2.c7
    have k0 : ∀ d' os, Calls Tryz.prog 8 #[.slice pa ln pc] (grow (redrawn v2 d') os) fun e w'' => e = .returned (.agg #[.int .i64 fc, .bool q0, .bool q1, .bool q2, .int .i64 q3, .int .i64 q4, .int .i64 q5, .int .i64 q6]) ∧ ∃ p : Regrown, w'' = grow (redrawn v2 p.d) p.os := fun d' os => Calls.regrown_of (HSP.out _ (F2.out.2.1.trans ((below_regrown v2 d' os).mono F2.out.2.1.size)))
    refine wp_region_quiet_below (by kernel_rfl) (by kernel_rfl) ?_
    repeat (go_big_quiet_step (first | (go_at_call 8; exact k0 _ _)))
    refine wpQuiet_nil ?_
    intro W2 hW2
    have hbW2 : Hid (Below v2.heap.size v2 W2) := by
      obtain ⟨⟨d, os⟩, rfl⟩ := hW2
      exact below_regrown v2 d os
    clear hW2
    go_wp2_with fail
    go_meet
    exact ⟨rfl, hbW2.out⟩
  case rest =>
  obtain ⟨rfl, hbx⟩ := hcut
  have F3 : Hid (Below w.heap.size w wc ∧ Z8 wc R (.int .i64 fc) (.bool q0) (.bool q1) (.bool q2) (.int .i64 q3) (.int .i64 q4) (.int .i64 q5) (.int .i64 q6) ∧ CodeRow wc wc.heap.size a len) := by
    obtain ⟨f1, _, f3⟩ := F2.out
    have q := f1.trans (hbx.mono f1.size)
    exact ⟨q, f3.keep hbx, (HC.out.below q).mono q.size⟩
  clear hbx F2 HSP F1 HC HSET HPOW
  generalize wc = v3 at *
  try clear w1
  go_wp2_with fail
  refine (drawLife_any v3 a len cap F3.out.2.2 hl2).mono ?_
  rintro r w4 ⟨⟨pb0, pb1, pb2, pl, ps, pe, pg, st, ng, rfl⟩, hb4⟩
  obtain ⟨v4, hv4⟩ : ∃ X, Hid (X = w4.alloc (.cells #[.bool pb0, .bool pb1, .bool pb2, .int .i64 pl, .int .i64 ps, .int .i64 pe, .int .i64 pg] 27)) := ⟨_, rfl⟩
  have F4 : Hid (Below w.heap.size w v4 ∧ Z8 v4 R (.int .i64 fc) (.bool q0) (.bool q1) (.bool q2) (.int .i64 q3) (.int .i64 q4) (.int .i64 q5) (.int .i64 q6) ∧ PolAt v4 w4.heap.size pb0 pb1 pb2 pl ps pe pg) := by
    have al : Below w4.heap.size w4 (w4.alloc (.cells #[.bool pb0, .bool pb1, .bool pb2, .int .i64 pl, .int .i64 ps, .int .i64 pe, .int .i64 pg] 27)) := (Below.refl _ _).alloc (Nat.le_refl _) _
    obtain ⟨f1, f2, _⟩ := F3.out
    have q := f1.trans (hb4.mono f1.size)
    rw [hv4.out]
    exact ⟨q.trans (al.mono q.size), (f2.keep hb4).keep al, PolAt.new _ _ _ _ _ _ _ _ _⟩
  clear hb4 F3
  go_upto_region 8 with fail
  rw [← hv4.out]
  clear hv4
  generalize w4.heap.size = Q at *
  clear w4
  have HIL : Hid (∀ W, Calls Tryz.prog 10 #[.agg #[.bool pb0, .bool pb1, .bool pb2, .int .i64 pl, .int .i64 ps, .int .i64 pe, .int .i64 pg], .int .i64 st, .int .i64 ng] W fun r w' => r = .returned (.agg #[.int .i64 (lifeC pb0 pl ps pe pg st ng), .int .i64 (lifeV pb0 pl ps pe pg st ng)]) ∧ Below W.heap.size W w') := implLife_any pb0 pb1 pb2 pl ps pe pg st ng
  have HSL : Hid (∀ W, Calls Tryz.prog 11 #[.agg #[.bool pb0, .bool pb1, .bool pb2, .int .i64 pl, .int .i64 ps, .int .i64 pe, .int .i64 pg], .int .i64 st, .int .i64 ng] W fun r w' => r = .returned (.agg #[.int .i64 (lifeC pb0 pl ps pe pg st ng), .int .i64 (lifeV pb0 pl ps pe pg st ng)]) ∧ Below W.heap.size W w') := specLife_any pb0 pb1 pb2 pl ps pe pg st ng
  have HIF : Hid (∀ W, Calls Tryz.prog 12 #[.agg #[.bool pb0, .bool pb1, .bool pb2, .int .i64 pl, .int .i64 ps, .int .i64 pe, .int .i64 pg]] W fun r w' => r = .returned (.int .i64 (polC pl ps pe pg)) ∧ Below W.heap.size W w') := implPol_any pb0 pb1 pb2 pl ps pe pg
  have HSF : Hid (∀ W, Calls Tryz.prog 13 #[.agg #[.bool pb0, .bool pb1, .bool pb2, .int .i64 pl, .int .i64 ps, .int .i64 pe, .int .i64 pg]] W fun r w' => r = .returned (.int .i64 (polC pl ps pe pg)) ∧ Below W.heap.size W w') := specPol_any pb0 pb1 pb2 pl ps pe pg
  have HLF : Hid (lifeC pb0 pl ps pe pg st ng = 0 → pb0 = false ∧ (0 ≤ lifeV pb0 pl ps pe pg st ng ∧ lifeV pb0 pl ps pe pg st ng ≤ 1000000000000000) ∧ (pl ≠ -1 → lifeV pb0 pl ps pe pg st ng = pl)) := life_facts
  generalize lifeV pb0 pl ps pe pg st ng = sv at *
  generalize lifeC pb0 pl ps pe pg st ng = sc at *
  generalize polC pl ps pe pg = fl at *
  obtain ⟨c0, c1, c2, c3, c4, c5, c6, _, _⟩ := F4.out.2.2
  go_wp2_with fail
  refine (HIL.out _).mono ?_
  rintro r w5 ⟨rfl, hb5⟩
  clear c0 c1 c2 c3 c4 c5 c6
  obtain ⟨v5, hv5⟩ : ∃ X, Hid (X = w5.alloc (.cells #[.int .i64 sc, .int .i64 sv] 34)) := ⟨_, rfl⟩
  have F5 : Hid (Below w.heap.size w v5 ∧ Z8 v5 R (.int .i64 fc) (.bool q0) (.bool q1) (.bool q2) (.int .i64 q3) (.int .i64 q4) (.int .i64 q5) (.int .i64 q6) ∧ PolAt v5 Q pb0 pb1 pb2 pl ps pe pg ∧ IR v5 w5.heap.size (.int .i64 sc) (.int .i64 sv)) := by
    have al : Below w5.heap.size w5 (w5.alloc (.cells #[.int .i64 sc, .int .i64 sv] 34)) := (Below.refl _ _).alloc (Nat.le_refl _) _
    obtain ⟨f1, f2, f3⟩ := F4.out
    have q := f1.trans (hb5.mono f1.size)
    rw [hv5.out]
    exact ⟨q.trans (al.mono q.size), (f2.keep hb5).keep al, (f3.keep hb5).keep al, IR.new _ _ _ _⟩
  clear hb5 F4 HIL
  go_upto_region 9 with fail
  rw [← hv5.out]
  clear hv5
  generalize w5.heap.size = S at *
  clear w5
  go_cut [41] from 29 to 41 (fun s41 wx => s41 = .bool false ∧ Below v5.heap.size v5 wx)
  case first =>
    have hn1 := neqIR
    have hn2 := guardIR
    have qq0 := cell_regrown F5.out.2.2.1.c0
    have qq1 := cell_regrown F5.out.2.2.1.c1
    have qq2 := cell_regrown F5.out.2.2.1.c2
    have qq3 := cell_regrown F5.out.2.2.1.c3
    have qq4 := cell_regrown F5.out.2.2.1.c4
    have qq5 := cell_regrown F5.out.2.2.1.c5
    have qq6 := cell_regrown F5.out.2.2.1.c6
    have qq7 := cell_regrown F5.out.2.2.2.c0
    have qq8 := cell_regrown F5.out.2.2.2.c1
    have k0 : ∀ d' os, Calls Tryz.prog 11 #[.agg #[.bool pb0, .bool pb1, .bool pb2, .int .i64 pl, .int .i64 ps, .int .i64 pe, .int .i64 pg], .int .i64 st, .int .i64 ng] (grow (redrawn v5 d') os) fun e w'' => e = .returned (.agg #[.int .i64 sc, .int .i64 sv]) ∧ ∃ p : Regrown, w'' = grow (redrawn v5 p.d) p.os := fun d' os => Calls.regrown_of (HSL.out _)
    have k1 : ∀ d' os, Calls Tryz.prog 12 #[.agg #[.bool pb0, .bool pb1, .bool pb2, .int .i64 pl, .int .i64 ps, .int .i64 pe, .int .i64 pg]] (grow (redrawn v5 d') os) fun e w'' => e = .returned (.int .i64 fl) ∧ ∃ p : Regrown, w'' = grow (redrawn v5 p.d) p.os := fun d' os => Calls.regrown_of (HIF.out _)
    have k2 : ∀ d' os, Calls Tryz.prog 13 #[.agg #[.bool pb0, .bool pb1, .bool pb2, .int .i64 pl, .int .i64 ps, .int .i64 pe, .int .i64 pg]] (grow (redrawn v5 d') os) fun e w'' => e = .returned (.int .i64 fl) ∧ ∃ p : Regrown, w'' = grow (redrawn v5 p.d) p.os := fun d' os => Calls.regrown_of (HSF.out _)
    refine wp_region_quiet_below (by kernel_rfl) (by kernel_rfl) ?_
    repeat (go_big_quiet_step (first | (go_at_call 11; exact k0 _ _) | (go_at_call 12; exact k1 _ _) | (go_at_call 13; exact k2 _ _)))
    refine wpQuiet_nil ?_
    intro W2 hW2
    have hbW2 : Hid (Below v5.heap.size v5 W2) := by
      obtain ⟨⟨d, os⟩, rfl⟩ := hW2
      exact below_regrown v5 d os
    clear hW2
    go_wp2_with fail
    go_meet
    exact ⟨rfl, hbW2.out⟩
  case rest =>
  obtain ⟨rfl, hbx⟩ := hcut
  have F6 : Hid (Below w.heap.size w wc ∧ Z8 wc R (.int .i64 fc) (.bool q0) (.bool q1) (.bool q2) (.int .i64 q3) (.int .i64 q4) (.int .i64 q5) (.int .i64 q6) ∧ PolAt wc Q pb0 pb1 pb2 pl ps pe pg ∧ IR wc S (.int .i64 sc) (.int .i64 sv)) := by
    obtain ⟨f1, f2, f3, f4⟩ := F5.out
    exact ⟨f1.trans (hbx.mono f1.size), f2.keep hbx, f3.keep hbx, f4.keep hbx⟩
  clear hbx F5 HSL HIF HSF
  generalize wc = v6 at *
  go_upto_region 11 with fail
  go_cut [70] from 42 to 70 (fun s70 wx => s70 = .bool false ∧ wx = v6)
  case first =>
    have s0 := F6.out.2.2.2.c0
    have s1 := F6.out.2.2.2.c1
    have c0 := F6.out.2.2.1.c0
    have c3 := F6.out.2.2.1.c3
    by_cases k0 : sc = 0
    · obtain ⟨y0, ⟨y1, y2⟩, y3⟩ := HLF.out k0
      subst k0
      subst y0
      have d1 : ¬ sv < 0 := by omega
      have d2 : ¬ 1000000000000000 < sv := by omega
      have d3 : decide (sv < 0) = false := by simp; omega
      have d4 : decide (1000000000000000 < sv) = false := by simp; omega
      by_cases k1 : pl = -1
      · subst k1
        clear y3 HLF
        go_wp2_with fail
        go_meet
        exact ⟨rfl, rfl⟩
      · have e := y3 k1
        subst e
        have d5 : (sv != -1) = true := by simpa using k1
        have d6 : (sv != sv) = false := by simp
        clear y3 HLF k1
        go_wp2_with fail
        go_meet
        exact ⟨rfl, rfl⟩
    · have d0 : (sc == 0) = false := by simpa using k0
      clear k0 HLF
      go_wp2_with fail
      go_meet
      exact ⟨rfl, rfl⟩
  case rest =>
  obtain ⟨rfl, rfl⟩ := hcut
  have F7 : Hid (Below w.heap.size w wc ∧ Z8 wc R (.int .i64 fc) (.bool q0) (.bool q1) (.bool q2) (.int .i64 q3) (.int .i64 q4) (.int .i64 q5) (.int .i64 q6)) := ⟨F6.out.1, F6.out.2.1⟩
  clear F6 HLF
  generalize wc = v7 at *
  by_cases k0 : fc = 0
  · obtain ⟨y0, y1⟩ := HQ.out k0
    subst k0
    have HIF : Hid (∀ W, Calls Tryz.prog 12 #[.agg #[.bool q0, .bool q1, .bool q2, .int .i64 q3, .int .i64 q4, .int .i64 q5, .int .i64 q6]] W fun r w' => r = .returned (.int .i64 0) ∧ Below W.heap.size W w') := fun W => by
      have := implPol_any q0 q1 q2 q3 q4 q5 q6 W
      rwa [polC_ok y0] at this
    have HIL : Hid (∀ W, q0 = true → Calls Tryz.prog 10 #[.agg #[.bool q0, .bool q1, .bool q2, .int .i64 q3, .int .i64 q4, .int .i64 q5, .int .i64 q6], .int .i64 200, .int .i64 0] W fun r w' => (∃ z : Int, r = .returned (.agg #[.int .i64 4, .int .i64 z])) ∧ Below W.heap.size W w') := fun W h0 => by
      have := implLife_any q0 q1 q2 q3 q4 q5 q6 200 0 W
      rw [h0, life_nostore y0] at this
      rw [h0]
      exact this.mono fun _ _ ⟨h1, h2⟩ => ⟨⟨_, h1⟩, h2⟩
    have HY : Hid (q2 = true → q4 = 0 ∧ q5 = 0) := y1
    clear HQ y0 y1
    have hfc := ifieldC
    cases q2
    · cases q0
      · skip
        clear HY
        have z0 := F7.out.2.c0
        have z1 := F7.out.2.c1
        have z2 := F7.out.2.c2
        have z3 := F7.out.2.c3
        have z4 := F7.out.2.c4
        have z5 := F7.out.2.c5
        have z6 := F7.out.2.c6
        have z7 := F7.out.2.c7
        go_wp2_with fail
        refine (HIF.out _).mono ?_
        rintro r w8 ⟨rfl, hb8⟩
        have F8 : Hid (Below w.heap.size w w8 ∧ Z8 w8 R (.int .i64 0) (.bool false) (.bool q1) (.bool false) (.int .i64 q3) (.int .i64 q4) (.int .i64 q5) (.int .i64 q6)) := ⟨F7.out.1.trans (hb8.mono F7.out.1.size), F7.out.2.keep hb8⟩
        clear hb8 F7 z0 z1 z2 z3 z4 z5 z6 z7
        have z0 := F8.out.2.c0
        have z1 := F8.out.2.c1
        have z2 := F8.out.2.c2
        have z3 := F8.out.2.c3
        have z4 := F8.out.2.c4
        have z5 := F8.out.2.c5
        have z6 := F8.out.2.c6
        have z7 := F8.out.2.c7
        go_wp2_with fail
        go_ret
        exact ⟨rfl, F8.out.1⟩
      · skip
        clear HY
        have z0 := F7.out.2.c0
        have z1 := F7.out.2.c1
        have z2 := F7.out.2.c2
        have z3 := F7.out.2.c3
        have z4 := F7.out.2.c4
        have z5 := F7.out.2.c5
        have z6 := F7.out.2.c6
        have z7 := F7.out.2.c7
        go_wp2_with fail
        refine (HIF.out _).mono ?_
        rintro r w8 ⟨rfl, hb8⟩
        have F8 : Hid (Below w.heap.size w w8 ∧ Z8 w8 R (.int .i64 0) (.bool true) (.bool q1) (.bool false) (.int .i64 q3) (.int .i64 q4) (.int .i64 q5) (.int .i64 q6)) := ⟨F7.out.1.trans (hb8.mono F7.out.1.size), F7.out.2.keep hb8⟩
        clear hb8 F7 z0 z1 z2 z3 z4 z5 z6 z7
        have z0 := F8.out.2.c0
        have z1 := F8.out.2.c1
        have z2 := F8.out.2.c2
        have z3 := F8.out.2.c3
        have z4 := F8.out.2.c4
        have z5 := F8.out.2.c5
        have z6 := F8.out.2.c6
        have z7 := F8.out.2.c7
        go_wp2_with fail
        refine (HIL.out _ (by trivial)).mono ?_
        rintro r w9 ⟨⟨z, rfl⟩, hb9⟩
        have F9 : Hid (Below w.heap.size w w9) := F8.out.1.trans (hb9.mono F8.out.1.size)
        clear hb9
        go_wp2_with fail
        go_ret
        exact ⟨rfl, F9.out⟩
    · cases q0
      · skip
        obtain ⟨rfl, rfl⟩ := HY.out rfl
        clear HY
        have z0 := F7.out.2.c0
        have z1 := F7.out.2.c1
        have z2 := F7.out.2.c2
        have z3 := F7.out.2.c3
        have z4 := F7.out.2.c4
        have z5 := F7.out.2.c5
        have z6 := F7.out.2.c6
        have z7 := F7.out.2.c7
        go_wp2_with fail
        refine (HIF.out _).mono ?_
        rintro r w8 ⟨rfl, hb8⟩
        have F8 : Hid (Below w.heap.size w w8 ∧ Z8 w8 R (.int .i64 0) (.bool false) (.bool q1) (.bool true) (.int .i64 q3) (.int .i64 0) (.int .i64 0) (.int .i64 q6)) := ⟨F7.out.1.trans (hb8.mono F7.out.1.size), F7.out.2.keep hb8⟩
        clear hb8 F7 z0 z1 z2 z3 z4 z5 z6 z7
        have z0 := F8.out.2.c0
        have z1 := F8.out.2.c1
        have z2 := F8.out.2.c2
        have z3 := F8.out.2.c3
        have z4 := F8.out.2.c4
        have z5 := F8.out.2.c5
        have z6 := F8.out.2.c6
        have z7 := F8.out.2.c7
        go_wp2_with fail
        go_ret
        exact ⟨rfl, F8.out.1⟩
      · skip
        obtain ⟨rfl, rfl⟩ := HY.out rfl
        clear HY
        have z0 := F7.out.2.c0
        have z1 := F7.out.2.c1
        have z2 := F7.out.2.c2
        have z3 := F7.out.2.c3
        have z4 := F7.out.2.c4
        have z5 := F7.out.2.c5
        have z6 := F7.out.2.c6
        have z7 := F7.out.2.c7
        go_wp2_with fail
        refine (HIF.out _).mono ?_
        rintro r w8 ⟨rfl, hb8⟩
        have F8 : Hid (Below w.heap.size w w8 ∧ Z8 w8 R (.int .i64 0) (.bool true) (.bool q1) (.bool true) (.int .i64 q3) (.int .i64 0) (.int .i64 0) (.int .i64 q6)) := ⟨F7.out.1.trans (hb8.mono F7.out.1.size), F7.out.2.keep hb8⟩
        clear hb8 F7 z0 z1 z2 z3 z4 z5 z6 z7
        have z0 := F8.out.2.c0
        have z1 := F8.out.2.c1
        have z2 := F8.out.2.c2
        have z3 := F8.out.2.c3
        have z4 := F8.out.2.c4
        have z5 := F8.out.2.c5
        have z6 := F8.out.2.c6
        have z7 := F8.out.2.c7
        go_wp2_with fail
        refine (HIL.out _ (by trivial)).mono ?_
        rintro r w9 ⟨⟨z, rfl⟩, hb9⟩
        have F9 : Hid (Below w.heap.size w w9) := F8.out.1.trans (hb9.mono F8.out.1.size)
        clear hb9
        go_wp2_with fail
        go_ret
        exact ⟨rfl, F9.out⟩
  · have d0 : (fc != 0) = true := by simpa using k0
    clear k0 HQ
    have z0 := F7.out.2.c0
    go_wp2_with fail
    go_ret
    exact ⟨rfl, F7.out.1⟩
end pols
end Go.Proofs.YtgfbahjpaaanoaaGreatDoor
/-
  What the row's list gives of the table of powers of ten.
-/
namespace Go.Proofs.YtgfbahjpaaanoaaGreatDoor
namespace num
theorem powType : (Tryz.prog.globals[4]?).map (·.type) = some 193 := by kernel_rfl
theorem powTab {H : Type} : (Rows.laid_internal_strconv_uint64pow10 : DataW H) = Lib.tabData .u64 Lib.pow10Tab := by kernel_rfl
theorem pow_of {w : World} {rest : List (String × DataW Unit)} (h : laidMet Tryz.prog (("internal/strconv.uint64pow10", Rows.laid_internal_strconv_uint64pow10) :: rest) w) : PowIs w := by
  rw [powTab] at h
  exact Lib.tabIs_of_head powNamed powType Tryz.underlying193 Tryz.underlying187 (by kernel_rfl) (by kernel_rfl) h
end num
end Go.Proofs.YtgfbahjpaaanoaaGreatDoor
