/-
  What the pieces of a text tell, one behind the other, plainly.
-/
import Derived.Test.YtibomkcbopkpkaaDoorParseSpec
import Derived.Test.YtibomkcbopkpkaaDoorPieceEnd
namespace Go.Proofs.YtibomkcbopkpkaaDoor
/-- The pieces, trimmed, without the empty ones. -/
def trims : List (List UInt8) → List ByteArray
  | [] => []
  | p :: ps => if (trimT (mkB p)).size = 0 then trims ps else trimT (mkB p) :: trims ps
theorem trims_skip {p : List UInt8} {ps : List (List UInt8)} (h : (trimT (mkB p)).size = 0) : trims (p :: ps) = trims ps := by rw [trims, if_pos h]
theorem trims_take {p : List UInt8} {ps : List (List UInt8)} (h : (trimT (mkB p)).size ≠ 0) : trims (p :: ps) = trimT (mkB p) :: trims ps := by rw [trims, if_neg h]
theorem trims_len : ∀ ps : List (List UInt8), (trims ps).length ≤ ps.length
  | [] => Nat.le_refl _
  | p :: ps => by
    have := trims_len ps
    rw [trims]
    split <;> simp only [List.length_cons] <;> omega
/-- What is told of a trimmed piece: an item and its code. -/
def Tells (t : ByteArray) (x : Rec × Int) : Prop := (x.2 = 0 ∧ readR t = some x.1) ∨ (x.2 = 5 ∧ readR t = none)
def AllTell : List ByteArray → List (Rec × Int) → Prop
  | [], [] => True
  | t :: d, x :: xs => Tells t x ∧ AllTell d xs
  | _, _ => False
theorem readP_all : ∀ (ps : List (List UInt8)) (xs : List (Rec × Int)), AllTell (trims ps) xs → (∀ x ∈ xs, x.2 = 0) → readP ps = some (xs.map (·.1))
  | [], [], _, _ => rfl
  | [], _ :: _, h, _ => h.elim
  | p :: ps, xs, h, h0 => by
    by_cases c : (trimT (mkB p)).size = 0
    · rw [trims_skip c] at h
      rw [readP_skip c]
      exact readP_all ps xs h h0
    · rw [trims_take c] at h
      match xs, h, h0 with
      | x :: xs, ⟨hx, ht⟩, h0 =>
        have hx0 := h0 x (by simp)
        rcases hx with hx | hx
        · rw [readP_take c hx.2, readP_all ps xs ht (fun y hy => h0 y (by simp [hy]))]
          rfl
        · omega
theorem readP_none : ∀ (ps : List (List UInt8)) (t : ByteArray), t ∈ trims ps → readR t = none → readP ps = none
  | [], t, h, _ => by simp [trims] at h
  | p :: ps, t, h, hr => by
    by_cases c : (trimT (mkB p)).size = 0
    · rw [trims_skip c] at h
      rw [readP_skip c]
      exact readP_none ps t h hr
    · rw [trims_take c] at h
      cases hq : readR (trimT (mkB p)) with
      | none => exact readP_bad c hq
      | some r =>
        rcases List.mem_cons.1 h with rfl | h
        · rw [hq] at hr; cases hr
        · rw [readP_take c hq, readP_none ps t h hr]; rfl
theorem trim_nothing : (trimT (mkB [])).size = 0 := by
  have := trim_le (mkB [])
  have e : (mkB []).size = 0 := rfl
  omega
theorem trims_nil : trims (pcs false [] []) = [] := by
  rw [show pcs false [] [] = [[]] from rfl, trims_skip trim_nothing]
  rfl
/-- One piece further on. -/
theorem trims_step (s : ByteArray) (b : Nat) (hb : b < s.size) :
    trims (pcs false [] (s.data.toList.drop b)) = trims ([(s.data.toList.drop b).take (pEnd s.data.toList b - b)] ++ (if pEnd s.data.toList b + 1 ≤ s.size then pcs false [] (s.data.toList.drop (pEnd s.data.toList b + 1)) else [])) := by
  have hz := size_list s
  have hl : (s.data.toList.drop b).length = s.size - b := by rw [List.length_drop, hz]
  have hp := peS_le _ (s.data.toList.drop b) false (Nat.le_refl _)
  rw [pcs_first _ (s.data.toList.drop b) false [] (Nat.le_refl _)]
  unfold pEnd
  rw [show b + peS false (s.data.toList.drop b) - b = peS false (s.data.toList.drop b) from by omega]
  by_cases q : peS false (s.data.toList.drop b) < (s.data.toList.drop b).length
  · rw [if_pos q, if_pos (by omega), List.drop_drop, List.nil_append, show b + (peS false (s.data.toList.drop b) + 1) = b + peS false (s.data.toList.drop b) + 1 from by omega]
    rfl
  · rw [if_neg q, if_neg (by omega), List.take_of_length_le (by omega)]
    rfl
/-- Where the teller stands: done is what it has told of. -/
def TellAt (s : ByteArray) (done : List ByteArray) (b : Nat) : Prop := (b ≤ s.size ∧ trims (pcs false [] s.data.toList) = done ++ trims (pcs false [] (s.data.toList.drop b))) ∨ (b = s.size + 1 ∧ trims (pcs false [] s.data.toList) = done)
theorem TellAt.over {s : ByteArray} {done : List ByteArray} {b : Nat} (h : TellAt s done b) (hb : ¬ b < s.size) : trims (pcs false [] s.data.toList) = done := by
  have hz := size_list s
  rcases h with h | h
  · rw [h.2, List.drop_of_length_le (by omega), trims_nil, List.append_nil]
  · exact h.2
theorem TellAt.skip {s : ByteArray} {done : List ByteArray} {b : Nat} (h : TellAt s done b) (hb : b < s.size) (ht : (trimT (mkB ((s.data.toList.drop b).take (pEnd s.data.toList b - b)))).size = 0) : TellAt s done (pEnd s.data.toList b + 1) := by
  have hz := size_list s
  have hp := peS_le _ (s.data.toList.drop b) false (Nat.le_refl _)
  rw [List.length_drop, hz] at hp
  rcases h with h | h
  · have e := h.2
    rw [trims_step s b hb, List.singleton_append, trims_skip ht] at e
    by_cases q : pEnd s.data.toList b + 1 ≤ s.size
    · rw [if_pos q] at e; exact .inl ⟨q, e⟩
    · rw [if_neg q] at e
      refine .inr ⟨by unfold pEnd at q ⊢; omega, by rw [e]; simp [trims]⟩
  · omega
theorem TellAt.take {s : ByteArray} {done : List ByteArray} {b : Nat} (h : TellAt s done b) (hb : b < s.size) (ht : (trimT (mkB ((s.data.toList.drop b).take (pEnd s.data.toList b - b)))).size ≠ 0) :
    TellAt s (done ++ [trimT (mkB ((s.data.toList.drop b).take (pEnd s.data.toList b - b)))]) (pEnd s.data.toList b + 1) ∧ (done ++ [trimT (mkB ((s.data.toList.drop b).take (pEnd s.data.toList b - b)))]) <+: trims (pcs false [] s.data.toList) := by
  have hz := size_list s
  have hp := peS_le _ (s.data.toList.drop b) false (Nat.le_refl _)
  rw [List.length_drop, hz] at hp
  rcases h with h | h
  · have e := h.2
    rw [trims_step s b hb, List.singleton_append, trims_take ht] at e
    refine ⟨?_, ?_⟩
    · by_cases q : pEnd s.data.toList b + 1 ≤ s.size
      · rw [if_pos q] at e; exact .inl ⟨q, by rw [e]; simp⟩
      · rw [if_neg q] at e
        exact .inr ⟨by unfold pEnd at q ⊢; omega, by rw [e]; simp [trims]⟩
    · rw [e]
      refine ⟨trims (if pEnd s.data.toList b + 1 ≤ s.size then pcs false [] (s.data.toList.drop (pEnd s.data.toList b + 1)) else []), ?_⟩
      rw [List.append_assoc]
      rfl
  · omega
theorem tells_snoc : ∀ {d : List ByteArray} {xs : List (Rec × Int)} {t : ByteArray} {x : Rec × Int}, AllTell d xs → Tells t x → AllTell (d ++ [t]) (xs ++ [x])
  | [], [], _, _, _, hx => ⟨hx, trivial⟩
  | _ :: _, _ :: _, _, _, h, hx => ⟨h.1, tells_snoc h.2 hx⟩
theorem tells_len : ∀ {d : List ByteArray} {xs : List (Rec × Int)}, AllTell d xs → d.length = xs.length
  | [], [], _ => rfl
  | _ :: _, _ :: _, h => by simp [tells_len h.2]
theorem tells_last : ∀ {d : List ByteArray} {xs : List (Rec × Int)} {x : Rec × Int}, AllTell d (xs ++ [x]) → ∃ t ∈ d, Tells t x
  | [], [], _, h => h.elim
  | [], _ :: _, _, h => h.elim
  | t :: _, [], _, h => ⟨t, by simp, h.1⟩
  | _ :: _, _ :: _, _, h => by
    obtain ⟨t, ht, hx⟩ := tells_last h.2
    exact ⟨t, by simp [ht], hx⟩
end Go.Proofs.YtibomkcbopkpkaaDoor
