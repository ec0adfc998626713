/-
  A new list, marked; held.
-/
import Derived.Test.YtmgidcigihpbeaaWtOwn
namespace Go.Proofs.Ytmgidcigihpbeaa
open Go.ChangeShapes Go.WideShapes Go.ChangeAt Go.RowKit Go.Sort
/-- l, marked from k on. -/
def mkdWt : Nat → List Wt → List Wt
  | _, [] => []
  | k, _ :: l => ⟨(k : Int), (k : Int) + 1⟩ :: mkdWt (k + 2) l
theorem mkdWt_len : ∀ (l : List Wt) (k : Nat), (mkdWt k l).length = l.length
  | [], _ => rfl
  | _ :: l, k => by rw [mkdWt, List.length_cons, mkdWt_len l, List.length_cons]
theorem mkdWt_at : ∀ (l : List Wt) (k i : Nat), i < l.length → (mkdWt k l)[i]? = some ⟨((k + i * 2 : Nat) : Int), ((k + i * 2 : Nat) : Int) + 1⟩
  | [], _, _, h => by simp at h
  | x :: l, k, 0, _ => by simp [mkdWt]
  | x :: l, k, i + 1, h => by
    rw [mkdWt, List.getElem?_cons_succ, mkdWt_at l (k + 2) i (by simpa using h), show k + 2 + i * 2 = k + (i + 1) * 2 by omega]
theorem mkdWt_append : ∀ (A B : List Wt) (k : Nat), mkdWt k (A ++ B) = mkdWt k A ++ mkdWt (k + A.length * 2) B
  | [], B, k => by simp [mkdWt]
  | x :: A, B, k => by rw [List.cons_append, mkdWt, mkdWt, List.cons_append, mkdWt_append A B (k + 2), List.length_cons, show k + 2 + A.length * 2 = k + (A.length + 1) * 2 by omega]
/-- The first i of l are marked from k on. -/
theorem WtAt.mark1 {w : World} {g off k i : Nat} {l : List Wt} (h : WtAt w g off (mkdWt k (l.take i) ++ l.drop i)) (hi : i < l.length) :
    WtAt (((w.setCell ⟨g, off + i * 2, none⟩ (.int .i64 (((k + i * 2 : Nat) : Int)))).setCell ⟨g, off + i * 2 + 1, none⟩ (.int .i64 (((k + i * 2 : Nat) : Int) + 1)))) g off (mkdWt k (l.take (i + 1)) ++ l.drop (i + 1)) := by
  have len : (mkdWt k (l.take i) ++ l.drop i).length = l.length := by rw [List.length_append, mkdWt_len, ← List.length_append, List.take_append_drop]
  have lti : (l.take i).length = i := by rw [List.length_take]; omega
  have key : ∀ (q : Nat) r, (mkdWt k (l.take (i + 1)) ++ l.drop (i + 1))[q]? = some r → q = i ∧ r = ⟨((k + i * 2 : Nat) : Int), ((k + i * 2 : Nat) : Int) + 1⟩ ∨ q ≠ i ∧ (mkdWt k (l.take i) ++ l.drop i)[q]? = some r := by
    intro q r hr
    have e1 : l.take (i + 1) = l.take i ++ [l[i]] := List.take_succ_eq_append_getElem hi
    rw [e1, mkdWt_append, lti, List.append_assoc] at hr
    rw [List.drop_eq_getElem_cons hi]
    by_cases h1 : q < i
    · refine .inr ⟨by omega, ?_⟩
      rw [List.getElem?_append_left (by rw [mkdWt_len, lti]; exact h1)] at hr ⊢
      exact hr
    · rw [List.getElem?_append_right (by rw [mkdWt_len, lti]; omega), mkdWt_len, lti] at hr
      by_cases h2 : q = i
      · subst h2
        left
        rw [Nat.sub_self] at hr
        simp only [mkdWt, List.singleton_append, List.getElem?_cons_zero, Option.some.injEq] at hr
        exact ⟨rfl, hr.symm⟩
      · right
        refine ⟨h2, ?_⟩
        rw [List.getElem?_append_right (by rw [mkdWt_len, lti]; omega), mkdWt_len, lti]
        obtain ⟨d, hd⟩ : ∃ d, q - i = d + 1 := ⟨q - i - 1, by omega⟩
        rw [hd] at hr ⊢
        simp [mkdWt] at hr ⊢
        rw [show i + (d + 1) = i + 1 + d by omega]
        exact hr
  have there : ∀ j, j < 2 → ∃ u, w.cell? ⟨g, off + i * 2 + j, none⟩ = some u := by
    intro j hj
    obtain ⟨r, hr⟩ : ∃ r, (mkdWt k (l.take i) ++ l.drop i)[i]? = some r := ⟨_, List.getElem?_eq_getElem (by rw [len]; exact hi)⟩
    obtain ⟨p0, p1⟩ := h i r hr
    match j, hj with
    | 0, _ => exact ⟨_, p0⟩
    | 1, _ => exact ⟨_, p1⟩
  intro q r hr
  rcases key q r hr with ⟨rfl, rfl⟩ | ⟨hq, hr2⟩
  · obtain ⟨u0, g0⟩ : ∃ u, (w).cell? ⟨g, off + q * 2, none⟩ = some u := by
      obtain ⟨u, hu⟩ := there 0 (by omega)
      exact ⟨u, by simpa using hu⟩
    obtain ⟨u1, g1⟩ : ∃ u, ((w.setCell ⟨g, off + q * 2, none⟩ (.int .i64 (((k + q * 2 : Nat) : Int))))).cell? ⟨g, off + q * 2 + 1, none⟩ = some u := by
      obtain ⟨u, hu⟩ := there 1 (by omega)
      refine ⟨u, ?_⟩
      rw [World.cell?_setCell_other _ _ _ _ (offWt_ne (by omega))]
      exact hu
    exact ⟨by rw [World.cell?_setCell_other _ _ _ _ (offWt_ne (by omega))]; exact World.cell?_setCell_same _ _ _ g0, by exact World.cell?_setCell_same _ _ _ g1⟩
  · obtain ⟨p0, p1⟩ := h q r hr2
    exact ⟨by rw [World.cell?_setCell_other _ _ _ _ (offWt_ne (by omega)), World.cell?_setCell_other _ _ _ _ (offWt_ne (by omega))]; exact p0, by rw [World.cell?_setCell_other _ _ _ _ (offWt_ne (by omega)), World.cell?_setCell_other _ _ _ _ (offWt_ne (by omega))]; exact p1⟩
end Go.Proofs.Ytmgidcigihpbeaa
