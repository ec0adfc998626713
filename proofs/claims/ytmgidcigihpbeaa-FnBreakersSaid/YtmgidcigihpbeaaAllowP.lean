/-
  Who is allowed, in plain words; cells.
-/
import Derived.Test.YtmgidcigihpbeaaGB
namespace Go.Proofs.Ytmgidcigihpbeaa
open Go.ChangeShapes Go.WideShapes Go.ChangeAt Go.RowKit Go.Sort
structure C6 (w : World) (b : Nat) (v0 v1 v2 v3 v4 v5 : Value) : Prop where
  c0 : w.cell? ⟨b, 0, none⟩ = some v0
  c1 : w.cell? ⟨b, 1, none⟩ = some v1
  c2 : w.cell? ⟨b, 2, none⟩ = some v2
  c3 : w.cell? ⟨b, 3, none⟩ = some v3
  c4 : w.cell? ⟨b, 4, none⟩ = some v4
  c5 : w.cell? ⟨b, 5, none⟩ = some v5
  fr : ∀ o, w.frozen? ⟨b, o, none⟩ = false
  lt : b < w.heap.size
section
variable {w w' : World} {b : Nat} {v0 v1 v2 v3 v4 v5 : Value}
theorem C6.keep (k : C6 w b v0 v1 v2 v3 v4 v5) (hb : Below w.heap.size w w') : C6 w' b v0 v1 v2 v3 v4 v5 :=
  ⟨by rw [hb.cell (p := ⟨b, 0, none⟩) k.lt]; exact k.c0, by rw [hb.cell (p := ⟨b, 1, none⟩) k.lt]; exact k.c1, by rw [hb.cell (p := ⟨b, 2, none⟩) k.lt]; exact k.c2, by rw [hb.cell (p := ⟨b, 3, none⟩) k.lt]; exact k.c3, by rw [hb.cell (p := ⟨b, 4, none⟩) k.lt]; exact k.c4, by rw [hb.cell (p := ⟨b, 5, none⟩) k.lt]; exact k.c5, fun o => by rw [hb.frozen (p := ⟨b, o, none⟩) k.lt]; exact k.fr o, Nat.lt_of_lt_of_le k.lt hb.size⟩
theorem C6.low (k : C6 w b v0 v1 v2 v3 v4 v5) {B : Nat} (hb : Below B w w') (h : b < B) : C6 w' b v0 v1 v2 v3 v4 v5 :=
  ⟨by rw [hb.cell (p := ⟨b, 0, none⟩) h]; exact k.c0, by rw [hb.cell (p := ⟨b, 1, none⟩) h]; exact k.c1, by rw [hb.cell (p := ⟨b, 2, none⟩) h]; exact k.c2, by rw [hb.cell (p := ⟨b, 3, none⟩) h]; exact k.c3, by rw [hb.cell (p := ⟨b, 4, none⟩) h]; exact k.c4, by rw [hb.cell (p := ⟨b, 5, none⟩) h]; exact k.c5, fun o => by rw [hb.frozen (p := ⟨b, o, none⟩) h]; exact k.fr o, Nat.lt_of_lt_of_le k.lt hb.size⟩
theorem C6.gb {g : Nat} (k : C6 w b v0 v1 v2 v3 v4 v5) (h : w.grownBy w' (some g)) (hb : b ≠ g) : C6 w' b v0 v1 v2 v3 v4 v5 :=
  ⟨by rw [gbCell h _ k.lt hb]; exact k.c0, by rw [gbCell h _ k.lt hb]; exact k.c1, by rw [gbCell h _ k.lt hb]; exact k.c2, by rw [gbCell h _ k.lt hb]; exact k.c3, by rw [gbCell h _ k.lt hb]; exact k.c4, by rw [gbCell h _ k.lt hb]; exact k.c5, fun o => by rw [gbFrozen h _ k.lt hb]; exact k.fr o, Nat.lt_of_lt_of_le k.lt h.size⟩
theorem C6.put (k : C6 w b v0 v1 v2 v3 v4 v5) (x0 x1 x2 x3 x4 x5 : Value) : C6 ((((((w.setCell ⟨b, 0, none⟩ x0).setCell ⟨b, 1, none⟩ x1).setCell ⟨b, 2, none⟩ x2).setCell ⟨b, 3, none⟩ x3).setCell ⟨b, 4, none⟩ x4).setCell ⟨b, 5, none⟩ x5) b x0 x1 x2 x3 x4 x5 := by
  have ne : ∀ i j : Nat, i ≠ j → (⟨b, i, none⟩ : Addr) ≠ ⟨b, j, none⟩ := fun i j h e => h (congrArg Addr.off e)
  have g0 : (w).cell? ⟨b, 0, none⟩ = some v0 := by exact k.c0
  have g1 : ((w.setCell ⟨b, 0, none⟩ x0)).cell? ⟨b, 1, none⟩ = some v1 := by rw [World.cell?_setCell_other _ _ _ _ (ne _ _ (by decide))]; exact k.c1
  have g2 : (((w.setCell ⟨b, 0, none⟩ x0).setCell ⟨b, 1, none⟩ x1)).cell? ⟨b, 2, none⟩ = some v2 := by rw [World.cell?_setCell_other _ _ _ _ (ne _ _ (by decide))]; rw [World.cell?_setCell_other _ _ _ _ (ne _ _ (by decide))]; exact k.c2
  have g3 : ((((w.setCell ⟨b, 0, none⟩ x0).setCell ⟨b, 1, none⟩ x1).setCell ⟨b, 2, none⟩ x2)).cell? ⟨b, 3, none⟩ = some v3 := by rw [World.cell?_setCell_other _ _ _ _ (ne _ _ (by decide))]; rw [World.cell?_setCell_other _ _ _ _ (ne _ _ (by decide))]; rw [World.cell?_setCell_other _ _ _ _ (ne _ _ (by decide))]; exact k.c3
  have g4 : (((((w.setCell ⟨b, 0, none⟩ x0).setCell ⟨b, 1, none⟩ x1).setCell ⟨b, 2, none⟩ x2).setCell ⟨b, 3, none⟩ x3)).cell? ⟨b, 4, none⟩ = some v4 := by rw [World.cell?_setCell_other _ _ _ _ (ne _ _ (by decide))]; rw [World.cell?_setCell_other _ _ _ _ (ne _ _ (by decide))]; rw [World.cell?_setCell_other _ _ _ _ (ne _ _ (by decide))]; rw [World.cell?_setCell_other _ _ _ _ (ne _ _ (by decide))]; exact k.c4
  have g5 : ((((((w.setCell ⟨b, 0, none⟩ x0).setCell ⟨b, 1, none⟩ x1).setCell ⟨b, 2, none⟩ x2).setCell ⟨b, 3, none⟩ x3).setCell ⟨b, 4, none⟩ x4)).cell? ⟨b, 5, none⟩ = some v5 := by rw [World.cell?_setCell_other _ _ _ _ (ne _ _ (by decide))]; rw [World.cell?_setCell_other _ _ _ _ (ne _ _ (by decide))]; rw [World.cell?_setCell_other _ _ _ _ (ne _ _ (by decide))]; rw [World.cell?_setCell_other _ _ _ _ (ne _ _ (by decide))]; rw [World.cell?_setCell_other _ _ _ _ (ne _ _ (by decide))]; exact k.c5
  exact ⟨by rw [World.cell?_setCell_other _ _ _ _ (ne _ _ (by decide))]; rw [World.cell?_setCell_other _ _ _ _ (ne _ _ (by decide))]; rw [World.cell?_setCell_other _ _ _ _ (ne _ _ (by decide))]; rw [World.cell?_setCell_other _ _ _ _ (ne _ _ (by decide))]; rw [World.cell?_setCell_other _ _ _ _ (ne _ _ (by decide))]; exact World.cell?_setCell_same _ _ _ g0, by rw [World.cell?_setCell_other _ _ _ _ (ne _ _ (by decide))]; rw [World.cell?_setCell_other _ _ _ _ (ne _ _ (by decide))]; rw [World.cell?_setCell_other _ _ _ _ (ne _ _ (by decide))]; rw [World.cell?_setCell_other _ _ _ _ (ne _ _ (by decide))]; exact World.cell?_setCell_same _ _ _ g1, by rw [World.cell?_setCell_other _ _ _ _ (ne _ _ (by decide))]; rw [World.cell?_setCell_other _ _ _ _ (ne _ _ (by decide))]; rw [World.cell?_setCell_other _ _ _ _ (ne _ _ (by decide))]; exact World.cell?_setCell_same _ _ _ g2, by rw [World.cell?_setCell_other _ _ _ _ (ne _ _ (by decide))]; rw [World.cell?_setCell_other _ _ _ _ (ne _ _ (by decide))]; exact World.cell?_setCell_same _ _ _ g3, by rw [World.cell?_setCell_other _ _ _ _ (ne _ _ (by decide))]; exact World.cell?_setCell_same _ _ _ g4, by exact World.cell?_setCell_same _ _ _ g5, fun o => by rw [World.frozen?_setCell]; rw [World.frozen?_setCell]; rw [World.frozen?_setCell]; rw [World.frozen?_setCell]; rw [World.frozen?_setCell]; rw [World.frozen?_setCell]; exact k.fr o, by simpa using k.lt⟩
theorem C6.new (w : World) (v0 v1 v2 v3 v4 v5 : Value) (t : TypeId) : C6 (w.alloc (.cells #[v0, v1, v2, v3, v4, v5] t)) w.heap.size v0 v1 v2 v3 v4 v5 := ⟨by simp, by simp, by simp, by simp, by simp, by simp, fun o => by simp, by simp⟩
end
structure C5 (w : World) (b : Nat) (v0 v1 v2 v3 v4 : Value) : Prop where
  c0 : w.cell? ⟨b, 0, none⟩ = some v0
  c1 : w.cell? ⟨b, 1, none⟩ = some v1
  c2 : w.cell? ⟨b, 2, none⟩ = some v2
  c3 : w.cell? ⟨b, 3, none⟩ = some v3
  c4 : w.cell? ⟨b, 4, none⟩ = some v4
  fr : ∀ o, w.frozen? ⟨b, o, none⟩ = false
  lt : b < w.heap.size
section
variable {w w' : World} {b : Nat} {v0 v1 v2 v3 v4 : Value}
theorem C5.keep (k : C5 w b v0 v1 v2 v3 v4) (hb : Below w.heap.size w w') : C5 w' b v0 v1 v2 v3 v4 :=
  ⟨by rw [hb.cell (p := ⟨b, 0, none⟩) k.lt]; exact k.c0, by rw [hb.cell (p := ⟨b, 1, none⟩) k.lt]; exact k.c1, by rw [hb.cell (p := ⟨b, 2, none⟩) k.lt]; exact k.c2, by rw [hb.cell (p := ⟨b, 3, none⟩) k.lt]; exact k.c3, by rw [hb.cell (p := ⟨b, 4, none⟩) k.lt]; exact k.c4, fun o => by rw [hb.frozen (p := ⟨b, o, none⟩) k.lt]; exact k.fr o, Nat.lt_of_lt_of_le k.lt hb.size⟩
theorem C5.low (k : C5 w b v0 v1 v2 v3 v4) {B : Nat} (hb : Below B w w') (h : b < B) : C5 w' b v0 v1 v2 v3 v4 :=
  ⟨by rw [hb.cell (p := ⟨b, 0, none⟩) h]; exact k.c0, by rw [hb.cell (p := ⟨b, 1, none⟩) h]; exact k.c1, by rw [hb.cell (p := ⟨b, 2, none⟩) h]; exact k.c2, by rw [hb.cell (p := ⟨b, 3, none⟩) h]; exact k.c3, by rw [hb.cell (p := ⟨b, 4, none⟩) h]; exact k.c4, fun o => by rw [hb.frozen (p := ⟨b, o, none⟩) h]; exact k.fr o, Nat.lt_of_lt_of_le k.lt hb.size⟩
theorem C5.gb {g : Nat} (k : C5 w b v0 v1 v2 v3 v4) (h : w.grownBy w' (some g)) (hb : b ≠ g) : C5 w' b v0 v1 v2 v3 v4 :=
  ⟨by rw [gbCell h _ k.lt hb]; exact k.c0, by rw [gbCell h _ k.lt hb]; exact k.c1, by rw [gbCell h _ k.lt hb]; exact k.c2, by rw [gbCell h _ k.lt hb]; exact k.c3, by rw [gbCell h _ k.lt hb]; exact k.c4, fun o => by rw [gbFrozen h _ k.lt hb]; exact k.fr o, Nat.lt_of_lt_of_le k.lt h.size⟩
theorem C5.put (k : C5 w b v0 v1 v2 v3 v4) (x0 x1 x2 x3 x4 : Value) : C5 (((((w.setCell ⟨b, 0, none⟩ x0).setCell ⟨b, 1, none⟩ x1).setCell ⟨b, 2, none⟩ x2).setCell ⟨b, 3, none⟩ x3).setCell ⟨b, 4, none⟩ x4) b x0 x1 x2 x3 x4 := by
  have ne : ∀ i j : Nat, i ≠ j → (⟨b, i, none⟩ : Addr) ≠ ⟨b, j, none⟩ := fun i j h e => h (congrArg Addr.off e)
  have g0 : (w).cell? ⟨b, 0, none⟩ = some v0 := by exact k.c0
  have g1 : ((w.setCell ⟨b, 0, none⟩ x0)).cell? ⟨b, 1, none⟩ = some v1 := by rw [World.cell?_setCell_other _ _ _ _ (ne _ _ (by decide))]; exact k.c1
  have g2 : (((w.setCell ⟨b, 0, none⟩ x0).setCell ⟨b, 1, none⟩ x1)).cell? ⟨b, 2, none⟩ = some v2 := by rw [World.cell?_setCell_other _ _ _ _ (ne _ _ (by decide))]; rw [World.cell?_setCell_other _ _ _ _ (ne _ _ (by decide))]; exact k.c2
  have g3 : ((((w.setCell ⟨b, 0, none⟩ x0).setCell ⟨b, 1, none⟩ x1).setCell ⟨b, 2, none⟩ x2)).cell? ⟨b, 3, none⟩ = some v3 := by rw [World.cell?_setCell_other _ _ _ _ (ne _ _ (by decide))]; rw [World.cell?_setCell_other _ _ _ _ (ne _ _ (by decide))]; rw [World.cell?_setCell_other _ _ _ _ (ne _ _ (by decide))]; exact k.c3
  have g4 : (((((w.setCell ⟨b, 0, none⟩ x0).setCell ⟨b, 1, none⟩ x1).setCell ⟨b, 2, none⟩ x2).setCell ⟨b, 3, none⟩ x3)).cell? ⟨b, 4, none⟩ = some v4 := by rw [World.cell?_setCell_other _ _ _ _ (ne _ _ (by decide))]; rw [World.cell?_setCell_other _ _ _ _ (ne _ _ (by decide))]; rw [World.cell?_setCell_other _ _ _ _ (ne _ _ (by decide))]; rw [World.cell?_setCell_other _ _ _ _ (ne _ _ (by decide))]; exact k.c4
  exact ⟨by rw [World.cell?_setCell_other _ _ _ _ (ne _ _ (by decide))]; rw [World.cell?_setCell_other _ _ _ _ (ne _ _ (by decide))]; rw [World.cell?_setCell_other _ _ _ _ (ne _ _ (by decide))]; rw [World.cell?_setCell_other _ _ _ _ (ne _ _ (by decide))]; exact World.cell?_setCell_same _ _ _ g0, by rw [World.cell?_setCell_other _ _ _ _ (ne _ _ (by decide))]; rw [World.cell?_setCell_other _ _ _ _ (ne _ _ (by decide))]; rw [World.cell?_setCell_other _ _ _ _ (ne _ _ (by decide))]; exact World.cell?_setCell_same _ _ _ g1, by rw [World.cell?_setCell_other _ _ _ _ (ne _ _ (by decide))]; rw [World.cell?_setCell_other _ _ _ _ (ne _ _ (by decide))]; exact World.cell?_setCell_same _ _ _ g2, by rw [World.cell?_setCell_other _ _ _ _ (ne _ _ (by decide))]; exact World.cell?_setCell_same _ _ _ g3, by exact World.cell?_setCell_same _ _ _ g4, fun o => by rw [World.frozen?_setCell]; rw [World.frozen?_setCell]; rw [World.frozen?_setCell]; rw [World.frozen?_setCell]; rw [World.frozen?_setCell]; exact k.fr o, by simpa using k.lt⟩
theorem C5.new (w : World) (v0 v1 v2 v3 v4 : Value) (t : TypeId) : C5 (w.alloc (.cells #[v0, v1, v2, v3, v4] t)) w.heap.size v0 v1 v2 v3 v4 := ⟨by simp, by simp, by simp, by simp, by simp, fun o => by simp, by simp⟩
end
theorem S4.low {w w' : World} {b : Nat} {v0 v1 v2 v3 : Value} (k : S4 w b v0 v1 v2 v3) {B : Nat} (hb : Below B w w') (h : b < B) : S4 w' b v0 v1 v2 v3 :=
  ⟨by rw [hb.cell (p := ⟨b, 0, none⟩) h]; exact k.c0, by rw [hb.cell (p := ⟨b, 1, none⟩) h]; exact k.c1, by rw [hb.cell (p := ⟨b, 2, none⟩) h]; exact k.c2, by rw [hb.cell (p := ⟨b, 3, none⟩) h]; exact k.c3, fun o => by rw [hb.frozen (p := ⟨b, o, none⟩) h]; exact k.fr o, Nat.lt_of_lt_of_le k.lt hb.size⟩
theorem S5.low {w w' : World} {b : Nat} {v0 v1 v2 v3 v4 : Value} (k : S5 w b v0 v1 v2 v3 v4) {B : Nat} (hb : Below B w w') (h : b < B) : S5 w' b v0 v1 v2 v3 v4 :=
  ⟨by rw [hb.cell (p := ⟨b, 0, none⟩) h]; exact k.c0, by rw [hb.cell (p := ⟨b, 1, none⟩) h]; exact k.c1, by rw [hb.cell (p := ⟨b, 2, none⟩) h]; exact k.c2, by rw [hb.cell (p := ⟨b, 3, none⟩) h]; exact k.c3, by rw [hb.cell (p := ⟨b, 4, none⟩) h]; exact k.c4, fun o => by rw [hb.frozen (p := ⟨b, o, none⟩) h]; exact k.fr o, Nat.lt_of_lt_of_le k.lt hb.size⟩
structure Bk where
  s : Int
  t : Int
  o : Int
  l : List Mk
def alB (s t o a3 a4 now : Int) : Bool := if s = 0 then true else if s = 1 then !decide (now - t < a3) else !decide (a4 ≤ o)
def alS (s t o a3 a4 now : Int) : Int := if s = 1 ∧ alB s t o a3 a4 now = true then 2 else s
def alO (s t o a3 a4 now : Int) : Int := if s = 0 then o else if alB s t o a3 a4 now = true then (if s = 1 then 1 else o + 1) else o
/-- What AllowFetch tells: a code, the breaker, whether it is allowed. -/
def allowR (s t o : Int) (l : List Mk) (a0 a1 a2 a3 a4 now : Int) : Int × Bk × Bool := if turnC s t o l a0 a1 a2 a3 a4 now = 0 then (0, ⟨alS s t o a3 a4 now, t, alO s t o a3 a4 now, l⟩, alB s t o a3 a4 now) else (turnC s t o l a0 a1 a2 a3 a4 now, ⟨0, 0, 0, []⟩, false)
def AllowRes (w : World) (base : Nat) (q : Int × Bk × Bool) (e : Ending) : Prop := ∃ a c, e = .returned (.agg #[.int .i64 q.1, .int .i64 q.2.1.s, .int .i64 q.2.1.t, .int .i64 q.2.1.o, .slice a q.2.1.l.length c, .bool q.2.2]) ∧ MkNew w base (.slice a q.2.1.l.length c) q.2.1.l
theorem AllowRes.mk {w : World} {base : Nat} {q : Int × Bk × Bool} {c0 s t o : Int} {a : Option Addr} {n c : Nat} {l : List Mk} {b : Bool} (h : q = (c0, ⟨s, t, o, l⟩, b)) (hn : l.length = n) (hm : MkNew w base (.slice a n c) l) : AllowRes w base q (.returned (.agg #[.int .i64 c0, .int .i64 s, .int .i64 t, .int .i64 o, .slice a n c, .bool b])) := by
  subst h; subst hn
  exact ⟨a, c, rfl, hm⟩
theorem turn_of {s t o : Int} {l : List Mk} {a0 a1 a2 a3 a4 now : Int} (h : turnC s t o l a0 a1 a2 a3 a4 now = 0) : brkC s t o l = 0 ∧ rulesC a0 a1 a2 a3 a4 = 0 ∧ askK t l now = true := by
  unfold turnC at h
  split at h
  · rename_i h1
    split at h
    · rename_i h2
      split at h
      · rename_i h3; exact ⟨h1, h2, h3⟩
      · cases h
    · rename_i h2; exact absurd h h2
  · rename_i h1; exact absurd h h1
/-- What is so of a breaker, rules and a time that have no fault. -/
structure Good (s t o : Int) (l : List Mk) (a0 a1 a2 a3 a4 now : Int) : Prop where
  hs : s = 0 ∨ s = 1 ∨ s = 2
  ht : 0 ≤ t ∧ t ≤ now
  ho : 0 ≤ o ∧ o ≤ 5
  hnow : now ≤ 1000000000000000
  hn : l.length ≤ 60
  hts : ∀ (i : Nat) x, l[i]? = some x → 0 ≤ x.tm ∧ x.tm ≤ 1000000000000000
  hl0 : ¬ s = 0 → l = []
  ho0 : ¬ s = 2 → o = 0
  hr0 : 1 ≤ a0 ∧ a0 ≤ 1000000
  hr1 : 1 ≤ a1 ∧ a1 ≤ 50
  hr2 : 1 ≤ a2 ∧ a2 ≤ 1000
  hr3 : 0 ≤ a3 ∧ a3 ≤ 1000000
  hr4 : 1 ≤ a4 ∧ a4 ≤ 5
theorem good_of {s t o : Int} {l : List Mk} {a0 a1 a2 a3 a4 now : Int} (h : turnC s t o l a0 a1 a2 a3 a4 now = 0) : Good s t o l a0 a1 a2 a3 a4 now := by
  obtain ⟨h1, h2, h3⟩ := turn_of h
  obtain ⟨b1, b2, b3, b4, b5⟩ := brkC_of h1
  have hr : rulesB a0 a1 a2 a3 a4 = true := by
    unfold rulesC at h2
    split at h2
    · assumption
    · cases h2
  obtain ⟨r0, r1, r2, r3, r4⟩ := rulesB_of hr
  simp only [askK, Bool.and_eq_true, decide_eq_true_eq] at h3
  simp only [brkHB, Bool.and_eq_true] at b1
  have s0 := inW_of b1.1.1
  have t0 := timeB_of b1.1.2
  have o0 := inW_of b1.2
  have n0 := timeB_of h3.1.1
  simp only [stateB, Bool.and_eq_true, Bool.or_eq_true, decide_eq_true_eq] at b5
  refine ⟨by omega, ⟨t0.1, h3.1.2⟩, o0, n0.2, b2, fun i x hx => timeB_of ((timesM_iff l).1 b3 i x hx), fun hs => ?_, fun hs => ?_, r0, r1, r2, r3, r4⟩
  · rcases b5.1 with h | h
    · exact List.eq_nil_of_length_eq_zero h
    · exact absurd h hs
  · rcases b5.2 with h | h
    · exact h
    · exact absurd h hs
theorem allowR_len {s t o : Int} {l : List Mk} {a0 a1 a2 a3 a4 now : Int} (h : l.length ≤ 1048576) : (allowR s t o l a0 a1 a2 a3 a4 now).2.1.l.length ≤ 1048576 := by
  unfold allowR
  split
  · exact h
  · simp
theorem allowR_bad {s t o : Int} {l : List Mk} {a0 a1 a2 a3 a4 now : Int} (h : ¬ turnC s t o l a0 a1 a2 a3 a4 now = 0) : allowR s t o l a0 a1 a2 a3 a4 now = (turnC s t o l a0 a1 a2 a3 a4 now, ⟨0, 0, 0, []⟩, false) := by rw [allowR, if_neg h]
theorem allowR_ok {s t o : Int} {l : List Mk} {a0 a1 a2 a3 a4 now : Int} (h : turnC s t o l a0 a1 a2 a3 a4 now = 0) : allowR s t o l a0 a1 a2 a3 a4 now = (0, ⟨alS s t o a3 a4 now, t, alO s t o a3 a4 now, l⟩, alB s t o a3 a4 now) := by rw [allowR, if_pos h]
end Go.Proofs.Ytmgidcigihpbeaa
