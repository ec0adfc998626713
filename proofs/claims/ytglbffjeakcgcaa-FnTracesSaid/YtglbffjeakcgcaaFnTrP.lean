/-
  What a run of traces tells, place by place.
-/
import Derived.Test.YtglbffjeakcgcaaTrcP
namespace Go.Proofs.Ytglbffjeakcgcaa
open Go.ChangeShapes Go.WideShapes Go.ChangeAt Go.RowKit Go.Sort
theorem runT_pre (a0 a1 a2 a3 a4 : Int) : ∀ (l : List Tr) (b : Bk) (S : List Int) (A : List Bool), (runT a0 a1 a2 a3 a4 b l S A).1 = 0 → S <+: (runT a0 a1 a2 a3 a4 b l S A).2.1 ∧ A <+: (runT a0 a1 a2 a3 a4 b l S A).2.2 ∧ (runT a0 a1 a2 a3 a4 b l S A).2.1.length = S.length + l.length ∧ (runT a0 a1 a2 a3 a4 b l S A).2.2.length = A.length + l.length
  | [], _, S, A, _ => by simp [runT]
  | x :: l, b, S, A, h => by
    rw [runT] at h ⊢
    by_cases hc : stepC b a0 a1 a2 a3 a4 x = 0
    · rw [if_pos hc] at h ⊢
      obtain ⟨h1, h2, h3, h4⟩ := runT_pre a0 a1 a2 a3 a4 l _ _ _ h
      refine ⟨(List.prefix_append _ _).trans h1, (List.prefix_append _ _).trans h2, ?_, ?_⟩
      · simp only [List.length_append, List.length_cons, List.length_nil] at h3 ⊢; omega
      · simp only [List.length_append, List.length_cons, List.length_nil] at h4 ⊢; omega
    · rw [if_neg hc] at h; exact absurd h hc
theorem pre_at {α : Type} {S T : List α} {s : α} {k : Nat} (h : (S ++ [s]) <+: T) (hk : S.length = k) : T[k]? = some s := by
  obtain ⟨U, rfl⟩ := h
  subst hk
  simp
theorem runT_at {a0 a1 a2 a3 a4 : Int} {b : Bk} {l : List Tr} {k : Nat} {x : Tr} {S : List Int} {A : List Bool} {q : Int × List Int × List Bool} (hx : l[k]? = some x) (h : runT a0 a1 a2 a3 a4 b (l.drop k) S A = q) (h0 : q.1 = 0) (hS : S.length = k) (hA : A.length = k) :
    stepC b a0 a1 a2 a3 a4 x = 0 ∧ q.2.1[k]? = some (stepB b a0 a1 a2 a3 a4 x).s ∧ q.2.2[k]? = some (stepA b a0 a1 a2 a3 a4 x) ∧ runT a0 a1 a2 a3 a4 (stepB b a0 a1 a2 a3 a4 x) (l.drop (k + 1)) (S ++ [(stepB b a0 a1 a2 a3 a4 x).s]) (A ++ [stepA b a0 a1 a2 a3 a4 x]) = q := by
  have hc : stepC b a0 a1 a2 a3 a4 x = 0 := by
    rw [dropTr l k x hx, runT] at h
    by_cases hc : stepC b a0 a1 a2 a3 a4 x = 0
    · exact hc
    · rw [if_neg hc] at h; rw [← h] at h0; exact h0
  rw [runT_step hx hc] at h
  have hp := runT_pre a0 a1 a2 a3 a4 (l.drop (k + 1)) (stepB b a0 a1 a2 a3 a4 x) (S ++ [(stepB b a0 a1 a2 a3 a4 x).s]) (A ++ [stepA b a0 a1 a2 a3 a4 x]) (by rw [h]; exact h0)
  rw [h] at hp
  exact ⟨hc, pre_at hp.1 hS, pre_at hp.2.1 hA, h⟩
theorem allowR_step {b : Bk} {a0 a1 a2 a3 a4 : Int} {x : Tr} (h : stepC b a0 a1 a2 a3 a4 x = 0) (ha : x.ak = true) : allowR b.s b.t b.o b.l a0 a1 a2 a3 a4 x.tm = (0, stepB b a0 a1 a2 a3 a4 x, stepA b a0 a1 a2 a3 a4 x) := by
  unfold stepC at h
  rw [allowR, if_pos h, stepB, if_pos ha, stepA, ha]
  rfl
theorem noteR_step {b : Bk} {a0 a1 a2 a3 a4 : Int} {x : Tr} (h : stepC b a0 a1 a2 a3 a4 x = 0) (ha : x.ak = false) : noteR b.s b.t b.o b.l a0 a1 a2 a3 a4 x.tm x.gd = (0, stepB b a0 a1 a2 a3 a4 x) := by
  unfold stepC at h
  rw [noteR, if_pos h, stepB, if_neg (by rw [ha]; decide)]
theorem tracesR_zero {a0 a1 a2 a3 a4 : Int} {l : List Tr} (h : (tracesR a0 a1 a2 a3 a4 l).1 = 0) : runT a0 a1 a2 a3 a4 ⟨0, 0, 0, []⟩ l [] [] = tracesR a0 a1 a2 a3 a4 l ∧ (tracesR a0 a1 a2 a3 a4 l).2.1.length = l.length ∧ (tracesR a0 a1 a2 a3 a4 l).2.2.length = l.length := by
  unfold tracesR at h ⊢
  by_cases hc : rulesC a0 a1 a2 a3 a4 = 0
  · rw [if_pos hc] at h ⊢
    by_cases hm : 100 < l.length
    · rw [if_pos hm] at h; exact absurd h (by decide)
    · rw [if_neg hm] at h ⊢
      have hp := runT_pre a0 a1 a2 a3 a4 l _ _ _ h
      exact ⟨rfl, by simpa using hp.2.2.1, by simpa using hp.2.2.2⟩
  · rw [if_neg hc] at h; exact absurd h hc
end Go.Proofs.Ytglbffjeakcgcaa
