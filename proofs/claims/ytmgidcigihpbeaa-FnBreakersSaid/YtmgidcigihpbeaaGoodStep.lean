/-
  A breaker that is right stays so when it is asked, and when an outcome is noted.
-/
import Derived.Test.YtmgidcigihpbeaaNoteP
namespace Go.Proofs.Ytmgidcigihpbeaa
theorem Good.later {s t o : Int} {l : List Mk} {a0 a1 a2 a3 a4 now now2 : Int} (g : Good s t o l a0 a1 a2 a3 a4 now) (h : now ≤ now2) (h2 : now2 ≤ 1000000000000000) : Good s t o l a0 a1 a2 a3 a4 now2 :=
  ⟨g.hs, ⟨g.ht.1, Int.le_trans g.ht.2 h⟩, g.ho, h2, g.hn, g.hts, g.hl0, g.ho0, g.hr0, g.hr1, g.hr2, g.hr3, g.hr4⟩
theorem Good.allow {s t o : Int} {l : List Mk} {a0 a1 a2 a3 a4 now : Int} (g : Good s t o l a0 a1 a2 a3 a4 now) : Good (alS s t o a3 a4 now) t (alO s t o a3 a4 now) l a0 a1 a2 a3 a4 now := by
  have ho := g.ho
  have h4 := g.hr4
  rcases g.hs with rfl | rfl | rfl
  · exact ⟨g.hs, g.ht, g.ho, g.hnow, g.hn, g.hts, g.hl0, g.ho0, g.hr0, g.hr1, g.hr2, g.hr3, g.hr4⟩
  · have e := g.hl0 (by decide)
    have z := g.ho0 (by decide)
    subst e
    subst z
    by_cases hx : now - t < a3
    · have e1 : alS 1 t 0 a3 a4 now = 1 := by simp [alS, alB, hx]
      have e2 : alO 1 t 0 a3 a4 now = 0 := by simp [alO, alB, hx]
      rw [e1, e2]; exact g
    · have e1 : alS 1 t 0 a3 a4 now = 2 := by simp [alS, alB, hx]
      have e2 : alO 1 t 0 a3 a4 now = 1 := by simp [alO, alB, hx]
      rw [e1, e2]
      exact ⟨by omega, g.ht, by omega, g.hnow, g.hn, g.hts, fun _ => rfl, fun h => absurd rfl h, g.hr0, g.hr1, g.hr2, g.hr3, g.hr4⟩
  · have e := g.hl0 (by decide)
    subst e
    have e1 : alS 2 t o a3 a4 now = 2 := by simp [alS]
    rw [e1]
    by_cases hx : a4 ≤ o
    · have e2 : alO 2 t o a3 a4 now = o := by simp [alO, alB, hx]
      rw [e2]; exact g
    · have e2 : alO 2 t o a3 a4 now = o + 1 := by simp [alO, alB, hx]
      rw [e2]
      exact ⟨by omega, g.ht, by omega, g.hnow, g.hn, g.hts, fun _ => rfl, fun h => absurd rfl h, g.hr0, g.hr1, g.hr2, g.hr3, g.hr4⟩
theorem noteL_le (l : List Mk) (a0 now : Int) (good : Bool) : (noteL l a0 now good).length ≤ l.length + 1 := by
  have h := List.length_filter_le (cntB a0 now) l
  unfold noteL cntL
  split
  · simp; omega
  · simp; omega
theorem noteL_mem {l : List Mk} {a0 now : Int} {good : Bool} {x : Mk} (h : x ∈ noteL l a0 now good) : x ∈ l ∨ x = ⟨now, good⟩ := by
  have hx : x ∈ cntL a0 now l ++ [(⟨now, good⟩ : Mk)] := by
    unfold noteL at h
    split at h
    · exact List.mem_of_mem_drop h
    · exact h
  rcases List.mem_append.1 hx with h | h
  · exact .inl (List.mem_filter.1 h).1
  · exact .inr (by simpa using h)
theorem Good.note {s t o : Int} {l : List Mk} {a0 a1 a2 a3 a4 now : Int} (g : Good s t o l a0 a1 a2 a3 a4 now) (good : Bool) (hl : l.length ≤ 59) : Good (noteV s t o l a0 a1 a2 now good).s (noteV s t o l a0 a1 a2 now good).t (noteV s t o l a0 a1 a2 now good).o (noteV s t o l a0 a1 a2 now good).l a0 a1 a2 a3 a4 now ∧ (noteV s t o l a0 a1 a2 now good).l.length ≤ l.length + 1 := by
  have hnow : 0 ≤ now := by have := g.ht; omega
  have htt := g.ht
  rcases g.hs with rfl | rfl | rfl
  · have z := g.ho0 (by decide)
    subst z
    unfold noteV
    simp only [show ¬ (0 : Int) = 1 by decide, show ¬ (0 : Int) = 2 by decide, if_false]
    split
    · exact ⟨⟨by simp, by simp; omega, by simp, g.hnow, by simp, by simp, fun _ => rfl, fun _ => rfl, g.hr0, g.hr1, g.hr2, g.hr3, g.hr4⟩, by simp⟩
    · have hle := noteL_le l a0 now good
      refine ⟨⟨by simp, g.ht, by simp, g.hnow, by simp only []; omega, fun i x hx => ?_, fun h => absurd rfl h, fun _ => rfl, g.hr0, g.hr1, g.hr2, g.hr3, g.hr4⟩, hle⟩
      rcases noteL_mem (List.mem_of_getElem? hx) with h | h
      · obtain ⟨j, hj⟩ := List.getElem?_of_mem h
        exact g.hts j x hj
      · subst h; exact ⟨hnow, g.hnow⟩
  · have e := g.hl0 (by decide)
    subst e
    simp only [noteV, if_true]
    exact ⟨g, by simp⟩
  · have e := g.hl0 (by decide)
    subst e
    cases good
    · simp only [noteV]
      exact ⟨⟨by simp, by simp; omega, by simp, g.hnow, by simp, by simp, fun _ => by simp, fun _ => by simp, g.hr0, g.hr1, g.hr2, g.hr3, g.hr4⟩, by simp⟩
    · simp only [noteV]
      exact ⟨⟨by simp, by simpa using g.ht, by simp, g.hnow, by simp, by simp, fun h => by simp at h ⊢, fun _ => by simp, g.hr0, g.hr1, g.hr2, g.hr3, g.hr4⟩, by simp⟩
end Go.Proofs.Ytmgidcigihpbeaa
