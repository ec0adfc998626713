/-
  A bulkhead that was entered stays a right one.
-/
import Derived.Test.YtmgidcigihpbeaaEnterP
import Derived.Test.YtmgidcigihpbeaaLeaveP
namespace Go.Proofs.Ytmgidcigihpbeaa
structure EnOk (y : Int) (l : List Wt) (s c t : Int) (E : EnQ) : Prop where
  blk : blkC E.y E.l s c t = 0
  y1 : 1 ≤ E.y ∧ E.y ≤ 8
  l8 : E.l.length ≤ 8
  st : E.u = decide (y < s)
  nl : E.l = [] → E.u = true
theorem enter_ok {y s c t x now : Int} {l : List Wt} (h : (enterR y l s c t x now).c = 0) : EnOk y l s c t (enterR y l s c t x now) := by
  unfold enterR at h ⊢
  split
  · rename_i h0
    have g := goodB_of h0
    obtain ⟨b1, b2, b3, b4, b5⟩ := blkC_of h0
    have g1 := g.hs
    have g2 := g.hc
    have g3 := g.hy
    have g4 := g.hl
    rw [if_pos h0] at h
    split
    · rename_i h1
      rw [if_pos h1] at h
      split
      · rename_i h2
        rw [if_pos h2] at h
        cases h
      · rename_i h2
        rw [if_neg h2] at h
        have h2' : hasW l x = false := by simpa using h2
        split
        · rename_i h3
          exact ⟨show blkC (y + 1) l s c t = 0 from blkC_ok b1 (inW_yes (by omega) (by omega)) (by omega) b4 b5, show 1 ≤ y + 1 ∧ y + 1 ≤ 8 by omega, show l.length ≤ 8 by omega, by simp [h3], fun _ => rfl⟩
        · rename_i h3
          rw [if_neg h3] at h
          split
          · rename_i h4
            rw [if_pos h4] at h
            cases h
          · rename_i h4
            simp only [Bool.and_eq_true] at h1
            have tx := timeB_of h1.1
            have tn := timeB_of h1.2
            have ta := addT_time tn.1 g.ht.1
            refine ⟨blkC_ok b1 b2 (by simp only [List.length_append, List.length_cons, List.length_nil]; omega) ?_ ?_, show 1 ≤ y ∧ y ≤ 8 by omega, by simp only [List.length_append, List.length_cons, List.length_nil]; omega, by simp; omega, fun e => by simp at e⟩
            · simp only [waitsB, List.all_append, Bool.and_eq_true, List.all_cons, List.all_nil, Bool.and_true] at b4 ⊢
              exact ⟨b4, by simp only [waitB, Bool.and_eq_true]; exact ⟨h1.1, timeB_yes ta.1 ta.2⟩⟩
            · simp only [nodupW, decide_eq_true_eq, List.map_append, List.map_cons, List.map_nil] at b5 ⊢
              rw [List.nodup_append]
              refine ⟨b5, by simp, fun z hz w hw => ?_⟩
              obtain ⟨r, hr, rfl⟩ := List.mem_map.1 hz
              obtain rfl := List.mem_singleton.1 hw
              obtain ⟨j, hj⟩ := List.getElem?_of_mem hr
              exact hasW_none h2' hj
    · rename_i h1
      rw [if_neg h1] at h
      cases h
  · rename_i h0
    rw [if_neg h0] at h
    exact absurd h h0
end Go.Proofs.Ytmgidcigihpbeaa
