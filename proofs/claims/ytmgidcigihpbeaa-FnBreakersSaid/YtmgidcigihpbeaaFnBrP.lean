/-
  A breaker that is asked again and again at one time.
-/
import Derived.Test.YtmgidcigihpbeaaGoodStep
import Derived.Test.YtmgidcigihpbeaaMkMore
import Derived.Test.YtmgidcigihpbeaaDraw10E
namespace Go.Proofs.Ytmgidcigihpbeaa
open Go.ChangeShapes Go.WideShapes Go.ChangeAt Go.RowKit Go.Sort
theorem turn_allow {s t o : Int} {l : List Mk} {a0 a1 a2 a3 a4 now : Int} (h : turnC s t o l a0 a1 a2 a3 a4 now = 0) : brkC (alS s t o a3 a4 now) t (alO s t o a3 a4 now) l = 0 ∧ turnC (alS s t o a3 a4 now) t (alO s t o a3 a4 now) l a0 a1 a2 a3 a4 now = 0 := by
  have g := (good_of h).allow
  obtain ⟨h1, h2, h3⟩ := turn_of h
  obtain ⟨b1, b2, b3, b4, b5⟩ := brkC_of h1
  have e : brkC (alS s t o a3 a4 now) t (alO s t o a3 a4 now) l = 0 := by
    refine brkC_ok ?_ (by omega) b3 b4 ?_
    · simp only [brkHB, Bool.and_eq_true] at b1 ⊢
      exact ⟨⟨inW_yes (by rcases g.hs with h | h | h <;> omega) (by rcases g.hs with h | h | h <;> omega), b1.1.2⟩, inW_yes g.ho.1 g.ho.2⟩
    · simp only [stateB, Bool.and_eq_true, Bool.or_eq_true, decide_eq_true_eq]
      refine ⟨?_, ?_⟩
      · by_cases hz : alS s t o a3 a4 now = 0
        · exact .inr hz
        · exact .inl (by rw [g.hl0 hz]; rfl)
      · by_cases hz : alS s t o a3 a4 now = 2
        · exact .inr hz
        · exact .inl (g.ho0 hz)
  exact ⟨e, by rw [turnC, if_pos e, if_pos h2, if_pos h3]⟩
/-- Behind k times: n were allowed; the state s1 stays. -/
structure BrInv (s1 t a3 a4 now : Int) (k n : Nat) (xs xo : Int) : Prop where
  st : xs = s1
  le : n ≤ k
  c0 : s1 = 0 → n = k
  c1 : s1 = 1 → n = 0 ∧ now - t < a3
  c2 : s1 = 2 → (n : Int) ≤ xo ∧ (n = 0 ∨ xo ≤ a4)
theorem BrInv.start {s t o : Int} {l : List Mk} {a0 a1 a2 a3 a4 now : Int} (h : turnC s t o l a0 a1 a2 a3 a4 now = 0) : BrInv (alS s t o a3 a4 now) t a3 a4 now 0 0 (alS s t o a3 a4 now) (alO s t o a3 a4 now) := by
  have g := good_of h
  have ho := g.allow.ho
  refine ⟨rfl, Nat.le_refl _, fun _ => rfl, fun h1 => ⟨rfl, ?_⟩, fun _ => ⟨by have := ho.1; simpa using this, .inl rfl⟩⟩
  rcases g.hs with rfl | rfl | rfl
  · simp [alS] at h1
  · by_cases hx : now - t < a3
    · exact hx
    · simp [alS, alB, hx] at h1
  · simp [alS] at h1
theorem BrInv.step {s1 t a3 a4 now : Int} {k n : Nat} {xs xo : Int} {l : List Mk} {a0 a1 a2 : Int} (i : BrInv s1 t a3 a4 now k n xs xo) (h : turnC xs t xo l a0 a1 a2 a3 a4 now = 0) :
    (alB xs t xo a3 a4 now = true → BrInv s1 t a3 a4 now (k + 1) (n + 1) (alS xs t xo a3 a4 now) (alO xs t xo a3 a4 now)) ∧ (alB xs t xo a3 a4 now = false → BrInv s1 t a3 a4 now (k + 1) n (alS xs t xo a3 a4 now) (alO xs t xo a3 a4 now)) := by
  have g := good_of h
  have e := i.st
  subst e
  have hle := i.le
  rcases g.hs with rfl | rfl | rfl
  · have e1 : alS 0 t xo a3 a4 now = 0 := by simp [alS]
    have e2 : alO 0 t xo a3 a4 now = xo := by simp [alO]
    rw [e1, e2]
    refine ⟨fun _ => ⟨rfl, by omega, fun _ => by rw [i.c0 rfl], fun h => (by cases h), fun h => (by cases h)⟩, fun h => ?_⟩
    simp [alB] at h
  · have hx := (i.c1 rfl).2
    have e1 : alS 1 t xo a3 a4 now = 1 := by simp [alS, alB, hx]
    rw [e1]
    refine ⟨fun h => ?_, fun _ => ⟨rfl, by omega, fun h => (by cases h), fun _ => i.c1 rfl, fun h => (by cases h)⟩⟩
    simp [alB, hx] at h
  · have e1 : alS 2 t xo a3 a4 now = 2 := by simp [alS]
    rw [e1]
    have hc := i.c2 rfl
    by_cases hx : a4 ≤ xo
    · have e2 : alO 2 t xo a3 a4 now = xo := by simp [alO, alB, hx]
      rw [e2]
      refine ⟨fun h => ?_, fun _ => ⟨rfl, by omega, fun h => (by cases h), fun h => (by cases h), fun _ => hc⟩⟩
      simp [alB, hx] at h
    · have e2 : alO 2 t xo a3 a4 now = xo + 1 := by simp [alO, alB, hx]
      rw [e2]
      refine ⟨fun _ => ⟨rfl, by omega, fun h => (by cases h), fun h => (by cases h), fun _ => ⟨by omega, .inr (by omega)⟩⟩, fun h => ?_⟩
      simp [alB, hx] at h
theorem BrInv.end {s1 t a3 a4 now : Int} {n : Nat} {xs xo : Int} (i : BrInv s1 t a3 a4 now 8 n xs xo) (h4 : 1 ≤ a4) : n ≤ 8 ∧ (s1 = 0 → (n : Int) = 8) ∧ (s1 = 2 → (n : Int) ≤ a4) ∧ (s1 = 1 → (n : Int) = 0) :=
  ⟨i.le, fun h => by have := i.c0 h; omega, fun h => by have := i.c2 h; omega, fun h => by have := (i.c1 h).1; omega⟩
/-- Marks that lie in another block than M. -/
def MkNe (w : World) (M : Nat) (a : Option Addr) (l : List Mk) : Prop := l = [] ∨ ∃ b off, a = some ⟨b, off, none⟩ ∧ b ≠ M ∧ b < w.heap.size ∧ MkAt w b off l
theorem MkNe.of {w : World} {base M : Nat} {a : Option Addr} {n c : Nat} {l : List Mk} (h : MkNew w base (.slice a n c) l) (hM : ∀ g, base ≤ g → g < w.heap.size → g ≠ M) : MkNe w M a l := by
  rcases h with ⟨h, _⟩ | ⟨g, off, cap, e, h1, h2, h3, _⟩
  · exact .inl h
  · simp only [Value.slice.injEq] at e
    exact .inr ⟨g, off, e.1, hM g h1 h2, h2, h3⟩
theorem MkNe.keep {w w' : World} {M : Nat} {a : Option Addr} {l : List Mk} (h : MkNe w M a l) (hb : Below w.heap.size w w') : MkNe w' M a l := by
  rcases h with h | ⟨b, off, e, h1, h2, h3⟩
  · exact .inl h
  · exact .inr ⟨b, off, e, h1, Nat.lt_of_lt_of_le h2 hb.size, h3.keep hb⟩
theorem MkNe.off {w : World} {M i : Nat} {y : Value} {a : Option Addr} {l : List Mk} (h : MkNe w M a l) : MkNe (w.setCell ⟨M, i, none⟩ y) M a l := by
  rcases h with h | ⟨b, off, e, h1, h2, h3⟩
  · exact .inl h
  · refine .inr ⟨b, off, e, h1, by simpa using h2, fun j r hr => ?_⟩
    have ne : ∀ o : Nat, (w.setCell ⟨M, i, none⟩ y).cell? ⟨b, o, none⟩ = w.cell? ⟨b, o, none⟩ := fun o => World.cell?_setCell_other _ _ _ _ (fun e => h1 (congrArg Addr.block e).symm)
    obtain ⟨p0, p1⟩ := h3 j r hr
    exact ⟨by rw [ne]; exact p0, by rw [ne]; exact p1⟩
theorem MkNe.in {w : World} {M : Nat} {a : Option Addr} {l : List Mk} (h : MkNe w M a l) : MkIn w a l := by
  rcases h with h | ⟨b, off, e, _, _, h3⟩
  · exact .inl h
  · exact .inr ⟨b, off, e, h3⟩
end Go.Proofs.Ytmgidcigihpbeaa
