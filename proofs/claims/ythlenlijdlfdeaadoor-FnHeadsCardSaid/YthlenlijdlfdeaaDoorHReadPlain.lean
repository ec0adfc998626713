/-
  Head lines read from a text, plainly. No Go in sight.
-/
import Derived.Test.YthlenlijdlfdeaaDoorHeadPlain
import Derived.Lib.IndexMore
import Derived.Lib.CutLaws
import Derived.Lib.Strings
namespace Go.Proofs.YthlenlijdlfdeaaDoor
/-- Where the first bytes 13 and 10 stand; the length where there are none. -/
def crAt : List UInt8 → Nat
  | [] => 0
  | [_] => 1
  | c :: d :: r => if c = 13 ∧ d = 10 then 0 else 1 + crAt (d :: r)
theorem crAt_le : ∀ l : List UInt8, crAt l ≤ l.length
  | [] => Nat.le_refl _
  | [_] => Nat.le_refl _
  | c :: d :: r => by
    have := crAt_le (d :: r)
    rw [crAt]
    split
    · exact Nat.zero_le _
    · simp only [List.length_cons] at this ⊢; omega
theorem crAt_room : ∀ l : List UInt8, crAt l < l.length → crAt l + 2 ≤ l.length
  | [], h => by simp [crAt] at h
  | [_], h => by simp [crAt] at h
  | c :: d :: r, h => by
    rw [crAt] at h ⊢
    by_cases e : c = 13 ∧ d = 10
    · rw [if_pos e]; simp only [List.length_cons]; omega
    · rw [if_neg e] at h ⊢
      have := crAt_room (d :: r) (by simp only [List.length_cons] at h ⊢; omega)
      simp only [List.length_cons] at this ⊢; omega
theorem crAt_on : ∀ (l : List UInt8) (k : Nat), k ≤ crAt l → (h : k + 1 < l.length) → (l[k] = 13 ∧ l[k + 1] = 10 → crAt l = k) ∧ (¬ (l[k] = 13 ∧ l[k + 1] = 10) → k + 1 ≤ crAt l)
  | [], k, _, h => by simp at h
  | [_], k, _, h => by simp at h
  | c :: d :: r, 0, _, h => by
    refine ⟨fun e => ?_, fun e => ?_⟩
    · rw [crAt, if_pos (by simpa using e)]
    · rw [crAt, if_neg (by simpa using e)]; omega
  | c :: d :: r, k + 1, hk, h => by
    rw [crAt] at hk ⊢
    by_cases e : c = 13 ∧ d = 10
    · rw [if_pos e] at hk; omega
    · rw [if_neg e] at hk ⊢
      have ih := crAt_on (d :: r) k (by omega) (by simp only [List.length_cons] at h ⊢; omega)
      refine ⟨fun x => ?_, fun x => ?_⟩
      · have := ih.1 (by simpa using x); omega
      · have := ih.2 (by simpa using x); omega
theorem crAt_end (l : List UInt8) (k : Nat) (hk : k ≤ crAt l) (h : ¬ k + 1 < l.length) : crAt l = l.length := by
  have h1 := crAt_le l
  by_cases c : crAt l < l.length
  · have := crAt_room l c; omega
  · omega
theorem crAt_is : ∀ l : List UInt8, crAt l < l.length → ([13, 10] : List UInt8).isPrefixOf (l.drop (crAt l)) = true
  | [], h => by simp [crAt] at h
  | [_], h => by simp [crAt] at h
  | c :: d :: r, h => by
    rw [crAt] at h ⊢
    by_cases e : c = 13 ∧ d = 10
    · rw [if_pos e]; simp [e.1, e.2, List.isPrefixOf]
    · rw [if_neg e] at h ⊢
      have := crAt_is (d :: r) (by simp only [List.length_cons] at h ⊢; omega)
      rw [show 1 + crAt (d :: r) = crAt (d :: r) + 1 from by omega, List.drop_succ_cons]
      exact this
theorem crAt_not : ∀ (l : List UInt8) (j : Nat), j < crAt l → ([13, 10] : List UInt8).isPrefixOf (l.drop j) = false
  | [], j, h => by simp [crAt] at h
  | [x], j, h => by
    have : j = 0 := by simp [crAt] at h; omega
    subst this
    simp [List.isPrefixOf]
  | c :: d :: r, j, h => by
    rw [crAt] at h
    by_cases e : c = 13 ∧ d = 10
    · rw [if_pos e] at h; omega
    · rw [if_neg e] at h
      cases j with
      | zero =>
        simp only [List.drop_zero, List.isPrefixOf, Bool.and_true]
        by_cases e1 : c = 13
        · have e2 : ¬ d = 10 := fun x => e ⟨e1, x⟩
          have : ((10 : UInt8) == d) = false := by rw [beq_eq_false_iff_ne]; exact fun x => e2 x.symm
          rw [this, Bool.and_false]
        · have : ((13 : UInt8) == c) = false := by rw [beq_eq_false_iff_ne]; exact fun x => e1 x.symm
          rw [this, Bool.false_and]
      | succ j => rw [List.drop_succ_cons]; exact crAt_not (d :: r) j (by omega)
theorem index_cr (l : List UInt8) : Lib.index l [13, 10] = if crAt l < l.length then (crAt l : Int) else -1 := by
  by_cases h : crAt l < l.length
  · rw [if_pos h]
    exact Lib.index_first (Nat.le_of_lt h) (crAt_is l h) (fun j hj => crAt_not l j hj)
  · rw [if_neg h]
    have e : crAt l = l.length := by have := crAt_le l; omega
    refine Lib.index_none fun j hj => ?_
    by_cases c : j < crAt l
    · exact crAt_not l j c
    · have : j = l.length := by omega
      subst this
      simp [Lib.occAt]
theorem cut_cr {l : List UInt8} (h : crAt l < l.length) : Lib.cut l [13, 10] = (l.take (crAt l), l.drop (crAt l + 2), true) := by
  unfold Lib.cut
  rw [index_cr, if_pos h, if_pos (by omega)]
  rfl
/-- Where the first colon stands; the length where there is none. -/
def clAt : List UInt8 → Nat
  | [] => 0
  | c :: r => if c = 58 then 0 else 1 + clAt r
theorem clAt_le : ∀ l : List UInt8, clAt l ≤ l.length
  | [] => Nat.le_refl _
  | c :: r => by
    have := clAt_le r
    rw [clAt]
    split
    · exact Nat.zero_le _
    · simp only [List.length_cons]; omega
theorem clAt_on : ∀ (l : List UInt8) (k : Nat), k ≤ clAt l → (h : k < l.length) → (l[k] = 58 → clAt l = k) ∧ (¬ l[k] = 58 → k + 1 ≤ clAt l)
  | [], k, _, h => by simp at h
  | c :: r, 0, _, h => by
    refine ⟨fun e => ?_, fun e => ?_⟩
    · rw [clAt, if_pos (by simpa using e)]
    · rw [clAt, if_neg (by simpa using e)]; omega
  | c :: r, k + 1, hk, h => by
    rw [clAt] at hk ⊢
    by_cases e : c = 58
    · rw [if_pos e] at hk; omega
    · rw [if_neg e] at hk ⊢
      have ih := clAt_on r k (by omega) (by simp only [List.length_cons] at h; omega)
      refine ⟨fun x => ?_, fun x => ?_⟩
      · have := ih.1 (by simpa using x); omega
      · have := ih.2 (by simpa using x); omega
theorem index_cl : ∀ l : List UInt8, Lib.index l [58] = if clAt l < l.length then (clAt l : Int) else -1
  | [] => by simp [Lib.index, clAt]
  | c :: r => by
    have ih := index_cl r
    rw [Lib.index, clAt]
    by_cases h : c = 58
    · rw [if_pos (by simp [List.isPrefixOf, h]), if_pos h]; simp
    · have h2 : ([58] : List UInt8).isPrefixOf (c :: r) = false := by
        simp only [List.isPrefixOf, Bool.and_true, beq_eq_false_iff_ne]
        exact fun x => h x.symm
      rw [h2, if_neg h, ih]
      by_cases q : clAt r < r.length
      · have q2 : 1 + clAt r < (c :: r).length := by simp only [List.length_cons]; omega
        have e1 : ((clAt r : Int) == -1) = false := by rw [beq_eq_false_iff_ne]; omega
        simp only [Bool.false_eq_true, if_false, if_pos q, if_pos q2, e1]
        omega
      · have q2 : ¬ 1 + clAt r < (c :: r).length := by simp only [List.length_cons]; omega
        simp only [Bool.false_eq_true, if_false, if_neg q, if_neg q2]
        rfl
theorem cut_cl {l : List UInt8} (h : clAt l < l.length) : Lib.cut l [58] = (l.take (clAt l), l.drop (clAt l + 1), true) := by
  unfold Lib.cut
  rw [index_cl, if_pos h, if_pos (by omega)]
  rfl
theorem cut_cl_no {l : List UInt8} (h : ¬ clAt l < l.length) : Lib.cut l [58] = (l, [], false) := by
  unfold Lib.cut
  rw [index_cl, if_neg h, if_neg (by omega)]
def hmk (p : List UInt8) : ByteArray := ⟨p.toArray⟩
theorem hmk_size (p : List UInt8) : (hmk p).size = p.length := by simp [hmk, ByteArray.size]
theorem hmk_list (p : List UInt8) : (hmk p).data.toList = p := by simp [hmk]
def lineOf (p : List UInt8) : Hdr := ⟨hmk (p.take (clAt p)), trimT (hmk (p.drop (clAt p + 1)))⟩
def lineR (p : List UInt8) : Option Hdr := if clAt p < p.length then some (lineOf p) else none
theorem lineR_yes {p : List UInt8} (h : clAt p < p.length) : lineR p = some (lineOf p) := by unfold lineR; rw [if_pos h]
theorem lineR_no {p : List UInt8} (h : ¬ clAt p < p.length) : lineR p = none := by unfold lineR; rw [if_neg h]
/-- The lines that the bytes 13 and 10 end; none: the last one is not ended. -/
def linesO (l : List UInt8) : Option (List (List UInt8)) :=
  if _h : l = [] then some [] else if crAt l < l.length then (linesO (l.drop (crAt l + 2))).map (l.take (crAt l) :: ·) else none
termination_by l.length
decreasing_by
  have := List.length_pos_iff.2 _h
  simp only [List.length_drop]; omega
theorem linesO_nil : linesO [] = some [] := by rw [linesO]; simp
theorem linesO_cut {l : List UInt8} (h : crAt l < l.length) : linesO l = (linesO (l.drop (crAt l + 2))).map (l.take (crAt l) :: ·) := by
  have h0 : ¬ l = [] := fun e => by subst e; simp [crAt] at h
  rw [linesO, dif_neg h0, if_pos h]
theorem linesO_bad {l : List UInt8} (h0 : ¬ l = []) (h : ¬ crAt l < l.length) : linesO l = none := by
  rw [linesO, dif_neg h0, if_neg h]
theorem linesO_len : ∀ (n : Nat) (l : List UInt8) (P : List (List UInt8)), l.length ≤ n → linesO l = some P → P.length ≤ l.length ∧ ∀ p ∈ P, p.length ≤ l.length := by
  intro n
  induction n with
  | zero =>
    intro l P hn h
    have : l = [] := List.eq_nil_of_length_eq_zero (by omega)
    subst this
    rw [linesO_nil] at h
    obtain rfl := Option.some.inj h
    simp
  | succ n ih =>
    intro l P hn h
    by_cases h0 : l = []
    · subst h0
      rw [linesO_nil] at h
      obtain rfl := Option.some.inj h
      simp
    · by_cases hc : crAt l < l.length
      · rw [linesO_cut hc] at h
        obtain ⟨Q, hQ, rfl⟩ := Option.map_eq_some_iff.1 h
        have hl := List.length_pos_iff.2 h0
        have := ih _ Q (by simp only [List.length_drop]; omega) hQ
        simp only [List.length_drop] at this
        refine ⟨by simp only [List.length_cons]; omega, fun p hp => ?_⟩
        rcases List.mem_cons.1 hp with rfl | hp
        · simp only [List.length_take]; omega
        · have := this.2 p hp; omega
      · rw [linesO_bad h0 hc] at h; cases h
theorem suffix_far {a b : UInt8} {p r : List UInt8} (h : 2 ≤ r.length) : ([a, b].isSuffixOf (p ++ r)) = ([a, b].isSuffixOf r) := by
  rw [Bool.eq_iff_iff, List.isSuffixOf_iff_suffix, List.isSuffixOf_iff_suffix]
  constructor
  · intro hs
    exact List.suffix_of_suffix_length_le hs (List.suffix_append _ _) (by simpa using h)
  · intro hs
    exact hs.trans (List.suffix_append _ _)
theorem linesO_suffix : ∀ (n : Nat) (l : List UInt8), l.length ≤ n → ¬ l = [] → (linesO l).isSome = ([13, 10] : List UInt8).isSuffixOf l := by
  intro n
  induction n with
  | zero => intro l hn h0; exact absurd (List.eq_nil_of_length_eq_zero (by omega)) h0
  | succ n ih =>
    intro l hn h0
    by_cases hc : crAt l < l.length
    · have hr := crAt_room l hc
      have hi := crAt_is l hc
      rw [linesO_cut hc, Option.isSome_map]
      have e : l = l.take (crAt l) ++ ([13, 10] ++ l.drop (crAt l + 2)) := by
        have h1 := (List.take_append_drop (crAt l) l).symm
        obtain ⟨t, ht⟩ := List.isPrefixOf_iff_prefix.1 hi
        have h2 : t = l.drop (crAt l + 2) := by
          have := congrArg (List.drop 2) ht
          simp only [List.drop_drop] at this
          simpa using this
        rw [← h2, ht]
        exact h1
      by_cases h3 : l.drop (crAt l + 2) = []
      · rw [h3, linesO_nil]
        rw [h3] at e
        symm
        rw [Option.isSome_some, List.isSuffixOf_iff_suffix, e]
        exact List.suffix_append _ _
      · rw [ih _ (by simp only [List.length_drop]; have := List.length_pos_iff.2 h0; omega) h3]
        generalize l.drop (crAt l + 2) = r at *
        generalize l.take (crAt l) = p at *
        subst e
        by_cases h4 : 2 ≤ r.length
        · rw [← List.append_assoc, suffix_far h4]
        · match r, h3, h4 with
          | [x], _, _ =>
            rw [Bool.eq_iff_iff, List.isSuffixOf_iff_suffix, List.isSuffixOf_iff_suffix]
            constructor
            · intro hs; have := hs.length_le; simp at this
            · rintro ⟨q, hq⟩
              have hq2 : (q ++ [13]) ++ [10] = (p ++ [13]) ++ ([10] ++ [x]) := by simpa using hq
              have h5 := congrArg List.reverse hq2
              simp at h5
          | _ :: _ :: _, _, h4 => exact absurd (by simp) h4
    · rw [linesO_bad h0 hc]
      symm
      rw [Option.isSome_none]
      cases hs : ([13, 10] : List UInt8).isSuffixOf l
      · rfl
      · obtain ⟨q, hq⟩ := List.isSuffixOf_iff_suffix.1 hs
        have hl : l.length = q.length + 2 := by rw [← hq]; simp
        have := crAt_le l
        have hn2 := crAt_not l q.length (by omega)
        rw [← hq] at hn2
        simp [List.isPrefixOf] at hn2
/-- All lines read. -/
def readLs : List (List UInt8) → Option (List Hdr)
  | [] => some []
  | p :: ps => match lineR p with
    | none => none
    | some r => (readLs ps).map (r :: ·)
theorem readLs_bad {p : List UInt8} {ps : List (List UInt8)} (h : ¬ clAt p < p.length) : readLs (p :: ps) = none := by rw [readLs, lineR_no h]
theorem readLs_take {p : List UInt8} {ps : List (List UInt8)} (h : clAt p < p.length) : readLs (p :: ps) = (readLs ps).map (lineOf p :: ·) := by rw [readLs, lineR_yes h]
def readT (l : List UInt8) : Option (List Hdr) := (linesO l).bind readLs
theorem readT_nil : readT [] = some [] := by unfold readT; rw [linesO_nil]; rfl
theorem readT_bad {l : List UInt8} (h : crAt l < l.length) (h2 : ¬ clAt (l.take (crAt l)) < (l.take (crAt l)).length) : readT l = none := by
  unfold readT
  rw [linesO_cut h]
  cases linesO (l.drop (crAt l + 2)) with
  | none => rfl
  | some P => simp only [Option.map_some, Option.bind_some]; rw [readLs_bad h2]
theorem readT_take {l : List UInt8} (h : crAt l < l.length) (h2 : clAt (l.take (crAt l)) < (l.take (crAt l)).length) : readT l = (readT (l.drop (crAt l + 2))).map (lineOf (l.take (crAt l)) :: ·) := by
  unfold readT
  rw [linesO_cut h]
  cases linesO (l.drop (crAt l + 2)) with
  | none => rfl
  | some P => simp only [Option.map_some, Option.bind_some]; rw [readLs_take h2]
def readHC (s : ByteArray) : Int := if 6000 < s.size then 2 else match readT s.data.toList with
  | none => 5
  | some L => headsC L
def readHL (s : ByteArray) : List Hdr := if 6000 < s.size then [] else match readT s.data.toList with
  | none => []
  | some L => if headsC L = 0 then L else []
theorem readH_long {s : ByteArray} (h : 6000 < s.size) : readHC s = 2 ∧ readHL s = [] := by unfold readHC readHL; rw [if_pos h, if_pos h]; exact ⟨rfl, rfl⟩
theorem readH_bad {s : ByteArray} (h : ¬ 6000 < s.size) (hr : readT s.data.toList = none) : readHC s = 5 ∧ readHL s = [] := by unfold readHC readHL; rw [if_neg h, if_neg h, hr]; exact ⟨rfl, rfl⟩
theorem readH_fault {s : ByteArray} {L : List Hdr} (h : ¬ 6000 < s.size) (hr : readT s.data.toList = some L) (hL : headsC L ≠ 0) : readHC s = headsC L ∧ readHL s = [] := by
  unfold readHC readHL; rw [if_neg h, if_neg h, hr]; exact ⟨rfl, if_neg hL⟩
theorem readH_ok {s : ByteArray} {L : List Hdr} (h : ¬ 6000 < s.size) (hr : readT s.data.toList = some L) (hL : headsC L = 0) : readHC s = 0 ∧ readHL s = L := by
  unfold readHC readHL; rw [if_neg h, if_neg h, hr]; exact ⟨hL, if_pos hL⟩
theorem readHL_len (s : ByteArray) : (readHL s).length ≤ 20 := by
  unfold readHL
  by_cases h : 6000 < s.size
  · rw [if_pos h]; exact Nat.zero_le _
  · rw [if_neg h]
    split
    · exact Nat.zero_le _
    · split
      · rename_i hc; exact (headsC_zero hc).1
      · exact Nat.zero_le _
end Go.Proofs.YthlenlijdlfdeaaDoor
