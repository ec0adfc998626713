/-
  Texts of one claim, one behind the other.
-/
import Derived.BigQuiet
import Derived.Deep.CutRange
import Derived.Deep.RegionHeld3
import Derived.Deep.RegionWith
import Derived.Laws.BytesArg
import Derived.Laws.OwnMore
import Derived.Laws.StructEq
import Derived.Lib.AppendIntMem
import Derived.Lib.CutLaws
import Derived.Lib.FieldsP
import Derived.Lib.IndexMore
import Derived.Lib.ItoaLen
import Derived.Lib.ItoaNum
import Derived.Lib.LaidTab
import Derived.Lib.QuietBelow
import Derived.Lib.SliceRun
import Derived.Lib.Split
import Derived.Lib.SplitLaws
import Derived.Lib.Strings
import Derived.Maps.AppendAt
import Derived.Shelf.SlicesE.Kit
import Derived.Shelf.Strconv.Itoa4
import Derived.Shelf.Strings.Cut
import Derived.Shelf.Strings.Prefix
import Derived.Sort.Walk0
import Derived.StillTail
import Derived.WalkSmall
import Derived.Test.YtolkgnnjocmkdaaGreatDoorMgD
/-
  Keys, plainly: what is cut at a byte, what is sorted. No Go in sight.
-/
namespace Go.Proofs.YtolkgnnjocmkdaaGreatDoor
/-- A text cut at each byte c; cur: what stands ahead of it in its piece. -/
def cutG (c : UInt8) : List UInt8 → List UInt8 → List (List UInt8)
  | cur, [] => [cur]
  | cur, x :: l => if x = c then cur :: cutG c [] l else cutG c (cur ++ [x]) l
theorem cutG_at {c : UInt8} (cur l : List UInt8) : cutG c cur (c :: l) = cur :: cutG c [] l := by rw [cutG, if_pos rfl]
theorem cutG_on {c x : UInt8} (cur l : List UInt8) (h : ¬ x = c) : cutG c cur (x :: l) = cutG c (cur ++ [x]) l := by rw [cutG, if_neg h]
theorem cutG_ne (c : UInt8) : ∀ (l cur : List UInt8), cutG c cur l ≠ []
  | [], cur => by simp [cutG]
  | x :: l, cur => by
    rw [cutG]
    split
    · simp
    · exact cutG_ne c l _
/-- The pieces that are not empty. -/
def fullP (ps : List (List UInt8)) : List (List UInt8) := ps.filter fun p => !p.isEmpty
theorem fullP_cons_nil (ps : List (List UInt8)) : fullP ([] :: ps) = fullP ps := rfl
theorem fullP_cons (p : List UInt8) (ps : List (List UInt8)) (h : p ≠ []) : fullP (p :: ps) = p :: fullP ps := by
  cases p with
  | nil => exact absurd rfl h
  | cons x p => rfl
theorem fullP_snoc_nil (ps : List (List UInt8)) : fullP (ps ++ [[]]) = fullP ps := by simp [fullP]
theorem fullP_snoc (ps : List (List UInt8)) (p : List UInt8) (h : p ≠ []) : fullP (ps ++ [p]) = fullP ps ++ [p] := by
  cases p with
  | nil => exact absurd rfl h
  | cons x p => simp [fullP]
def amp (r : Nat) : Bool := r == 38
def spanT (s : ByteArray) (x : Nat × Nat) : ByteArray := s.extract x.1 x.2
def spanL (s : ByteArray) (x : Nat × Nat) : List UInt8 := (s.data.toList.take x.2).drop x.1
theorem spanT_eq (s : ByteArray) (x : Nat × Nat) : spanT s x = ⟨(spanL s x).toArray⟩ := by
  apply ByteArray.ext
  unfold spanT spanL
  apply Array.ext'
  simp [List.drop_take]
theorem spans_amp (s : ByteArray) (ha : ∀ (i : Nat) (h : i < s.size), s[i].toNat < 128) : ∀ (f pos : Nat) (st : Option Nat) (acc : List (Nat × Nat)), s.size ≤ pos + f → pos ≤ s.size →
    (match st with | some a => a < pos | none => True) →
    (Lib.closeSpans s (Lib.spansFromP amp s f pos st acc)).map (spanL s) = acc.map (spanL s) ++ fullP (cutG 38 (match st with | some a => spanL s (a, pos) | none => []) (s.data.toList.drop pos)) := by
  intro f
  induction f with
  | zero =>
    intro pos st acc h1 h2 h3
    have e : pos = s.size := by omega
    subst e
    have ed : s.data.toList.drop s.size = [] := List.drop_of_length_le (by simp)
    rw [ed, Lib.spansFromP]
    cases st with
    | none => simp [Lib.closeSpans, cutG, fullP]
    | some a =>
      have hne : spanL s (a, s.size) ≠ [] := by
        intro e
        have := congrArg List.length e
        simp [spanL] at this
        omega
      simp only [Lib.closeSpans, cutG, List.map_append, List.map_cons, List.map_nil]
      rw [fullP_cons _ _ hne]; rfl
  | succ f ih =>
    intro pos st acc h1 h2 h3
    by_cases hp : pos < s.size
    · have hd := decode_ascii s pos hp (ha pos hp)
      have el : s.data.toList.drop pos = s[pos] :: s.data.toList.drop (pos + 1) := by
        rw [List.drop_eq_getElem_cons (by simpa using hp)]; rfl
      have sn : ∀ a, a ≤ pos → spanL s (a, pos + 1) = spanL s (a, pos) ++ [s[pos]] := fun a hap => by
        unfold spanL
        simp only
        rw [take_snoc s pos hp, List.drop_append_of_le_length (by simp; omega)]
      unfold Lib.spansFromP
      rw [if_pos hp, hd]
      simp only
      by_cases hc : s[pos] = 38
      · have hpp : amp s[pos].toNat = true := by rw [hc]; rfl
        rw [hpp, if_pos rfl, el, hc, cutG_at]
        cases st with
        | none =>
          simp only
          rw [ih (pos + 1) none acc (by omega) (by omega) trivial, fullP_cons_nil]
        | some a =>
          simp only at h3 ⊢
          have hne : spanL s (a, pos) ≠ [] := by
            intro e
            have := congrArg List.length e
            simp [spanL] at this
            omega
          rw [ih (pos + 1) none _ (by omega) (by omega) trivial, fullP_cons _ _ hne]
          simp
      · have hpp : amp s[pos].toNat = false := by
          unfold amp
          rw [beq_eq_false_iff_ne]
          intro e
          exact hc (UInt8.toNat_inj.1 (by simpa using e))
        rw [hpp, if_neg (by decide), el, cutG_on _ _ hc]
        cases st with
        | none =>
          simp only
          rw [ih (pos + 1) (some pos) acc (by omega) (by omega) (by simp)]
          simp only
          rw [sn pos (Nat.le_refl _)]
          have : spanL s (pos, pos) = [] := by simp [spanL]
          rw [this]
        | some a =>
          simp only at h3 ⊢
          rw [ih (pos + 1) (some a) acc (by omega) (by omega) (by simp only; omega)]
          simp only
          rw [sn a (by omega)]
    · have e : pos = s.size := by omega
      subst e
      have ed : s.data.toList.drop s.size = [] := List.drop_of_length_le (by simp)
      rw [Lib.spansFromP_end _ _ _ _ _ _ hp, ed]
      cases st with
      | none => simp [Lib.closeSpans, cutG, fullP]
      | some a =>
        have hne : spanL s (a, s.size) ≠ [] := by
          intro e
          have := congrArg List.length e
          simp [spanL] at this
          simp only at h3
          omega
        simp only [Lib.closeSpans, cutG, List.map_append, List.map_cons, List.map_nil]
        rw [fullP_cons _ _ hne]; rfl
theorem fields_amp (s : ByteArray) (ha : ∀ (i : Nat) (h : i < s.size), s[i].toNat < 128) : Lib.goFieldsP amp s = (fullP (cutG 38 [] s.data.toList)).map fun p => (⟨p.toArray⟩ : ByteArray) := by
  have h := spans_amp s ha s.size 0 none [] (by omega) (Nat.zero_le _) trivial
  simp only [List.map_nil, List.nil_append, List.drop_zero] at h
  unfold Lib.goFieldsP Lib.spansOfP
  rw [← h, List.map_map]
  apply List.map_congr_left
  intro x _
  exact spanT_eq s x
/-! ### sorted texts -/
/-- A text put into a sorted list, behind all that are not greater. -/
def putS (x : List UInt8) : List (List UInt8) → List (List UInt8)
  | [] => [x]
  | y :: l => if y ≤ x then y :: putS x l else x :: y :: l
def sortS (l : List (List UInt8)) : List (List UInt8) := l.foldl (fun o x => putS x o) []
theorem sortS_snoc (l : List (List UInt8)) (x : List UInt8) : sortS (l ++ [x]) = putS x (sortS l) := by simp [sortS]
theorem putS_perm (x : List UInt8) : ∀ l : List (List UInt8), (putS x l).Perm (x :: l)
  | [] => List.Perm.refl _
  | y :: l => by
    rw [putS]
    split
    · exact ((putS_perm x l).cons y).trans (List.Perm.swap x y l)
    · exact List.Perm.refl _
theorem sortS_perm (l : List (List UInt8)) : (sortS l).Perm l := by
  have : ∀ (l o : List (List UInt8)), (l.foldl (fun o x => putS x o) o).Perm (o ++ l) := fun l => by
    induction l with
    | nil => intro o; simp
    | cons x l ih =>
      intro o
      refine (ih (putS x o)).trans ?_
      refine ((putS_perm x o).append_right l).trans ?_
      simpa using (List.perm_middle (a := x) (l₁ := o) (l₂ := l)).symm
  simpa [sortS] using this l []
theorem list_le_trans {a b c : List UInt8} (h1 : a ≤ b) (h2 : b ≤ c) : a ≤ c := List.le_trans h1 h2
theorem list_le_total (a b : List UInt8) : a ≤ b ∨ b ≤ a := List.le_total a b
theorem putS_sorted (x : List UInt8) : ∀ l : List (List UInt8), l.Pairwise (· ≤ ·) → (putS x l).Pairwise (· ≤ ·)
  | [], _ => by simp [putS]
  | y :: l, h => by
    rw [putS]
    obtain ⟨h1, h2⟩ := List.pairwise_cons.1 h
    split
    · rename_i hy
      refine List.pairwise_cons.2 ⟨fun z hz => ?_, putS_sorted x l h2⟩
      rcases List.mem_cons.1 ((putS_perm x l).mem_iff.1 hz) with rfl | hz
      · exact hy
      · exact h1 z hz
    · rename_i hy
      have hxy : x ≤ y := (list_le_total x y).resolve_right hy
      refine List.pairwise_cons.2 ⟨fun z hz => ?_, h⟩
      rcases List.mem_cons.1 hz with rfl | hz
      · exact hxy
      · exact list_le_trans hxy (h1 z hz)
theorem sortS_sorted (l : List (List UInt8)) : (sortS l).Pairwise (· ≤ ·) := by
  have : ∀ (l o : List (List UInt8)), o.Pairwise (· ≤ ·) → (l.foldl (fun o x => putS x o) o).Pairwise (· ≤ ·) := fun l => by
    induction l with
    | nil => intro o h; exact h
    | cons x l ih => intro o h; exact ih _ (putS_sorted x o h)
  exact this l [] List.Pairwise.nil
theorem merge_eq (l : List (List UInt8)) : (l.mergeSort fun x y => decide (x ≤ y)) = sortS l := by
  have h1 : (l.mergeSort fun x y => decide (x ≤ y)).Pairwise (· ≤ ·) := by
    have := List.pairwise_mergeSort (le := fun x y : List UInt8 => decide (x ≤ y)) (fun a b c h1 h2 => by simp only [decide_eq_true_eq] at *; exact list_le_trans h1 h2) (fun a b => by simpa using list_le_total a b) l
    simpa using this
  exact List.Perm.eq_of_pairwise (fun a b _ _ h1 h2 => List.le_antisymm h1 h2) h1 (sortS_sorted l) ((List.mergeSort_perm l _).trans (sortS_perm l).symm)
end Go.Proofs.YtolkgnnjocmkdaaGreatDoor
/-
  Head lines read from a text, plainly. No Go in sight.
-/
namespace Go.Proofs.YtolkgnnjocmkdaaGreatDoor
/-- Where the first bytes 13 and 10 stand; the length where there are none. -/
def crAt : List UInt8 → Nat
  | [] => 0
  | [_] => 1
  | c :: d :: r => if c = 13 ∧ d = 10 then 0 else 1 + crAt (d :: r)
theorem crAt_le : ∀ l : List UInt8, crAt l ≤ l.length
  | [] => Nat.le_refl _
  | [_] => Nat.le_refl _
  | c :: d :: r => by
    have := crAt_le (d :: r)
    rw [crAt]
    split
    · exact Nat.zero_le _
    · simp only [List.length_cons] at this ⊢; omega
theorem crAt_room : ∀ l : List UInt8, crAt l < l.length → crAt l + 2 ≤ l.length
  | [], h => by simp [crAt] at h
  | [_], h => by simp [crAt] at h
  | c :: d :: r, h => by
    rw [crAt] at h ⊢
    by_cases e : c = 13 ∧ d = 10
    · rw [if_pos e]; simp only [List.length_cons]; omega
    · rw [if_neg e] at h ⊢
      have := crAt_room (d :: r) (by simp only [List.length_cons] at h ⊢; omega)
      simp only [List.length_cons] at this ⊢; omega
theorem crAt_on : ∀ (l : List UInt8) (k : Nat), k ≤ crAt l → (h : k + 1 < l.length) → (l[k] = 13 ∧ l[k + 1] = 10 → crAt l = k) ∧ (¬ (l[k] = 13 ∧ l[k + 1] = 10) → k + 1 ≤ crAt l)
  | [], k, _, h => by simp at h
  | [_], k, _, h => by simp at h
  | c :: d :: r, 0, _, h => by
    refine ⟨fun e => ?_, fun e => ?_⟩
    · rw [crAt, if_pos (by simpa using e)]
    · rw [crAt, if_neg (by simpa using e)]; omega
  | c :: d :: r, k + 1, hk, h => by
    rw [crAt] at hk ⊢
    by_cases e : c = 13 ∧ d = 10
    · rw [if_pos e] at hk; omega
    · rw [if_neg e] at hk ⊢
      have ih := crAt_on (d :: r) k (by omega) (by simp only [List.length_cons] at h ⊢; omega)
      refine ⟨fun x => ?_, fun x => ?_⟩
      · have := ih.1 (by simpa using x); omega
      · have := ih.2 (by simpa using x); omega
theorem crAt_end (l : List UInt8) (k : Nat) (hk : k ≤ crAt l) (h : ¬ k + 1 < l.length) : crAt l = l.length := by
  have h1 := crAt_le l
  by_cases c : crAt l < l.length
  · have := crAt_room l c; omega
  · omega
theorem crAt_is : ∀ l : List UInt8, crAt l < l.length → ([13, 10] : List UInt8).isPrefixOf (l.drop (crAt l)) = true
  | [], h => by simp [crAt] at h
  | [_], h => by simp [crAt] at h
  | c :: d :: r, h => by
    rw [crAt] at h ⊢
    by_cases e : c = 13 ∧ d = 10
    · rw [if_pos e]; simp [e.1, e.2, List.isPrefixOf]
    · rw [if_neg e] at h ⊢
      have := crAt_is (d :: r) (by simp only [List.length_cons] at h ⊢; omega)
      rw [show 1 + crAt (d :: r) = crAt (d :: r) + 1 from by omega, List.drop_succ_cons]
      exact this
theorem crAt_not : ∀ (l : List UInt8) (j : Nat), j < crAt l → ([13, 10] : List UInt8).isPrefixOf (l.drop j) = false
  | [], j, h => by simp [crAt] at h
  | [x], j, h => by
    have : j = 0 := by simp [crAt] at h; omega
    subst this
    simp [List.isPrefixOf]
  | c :: d :: r, j, h => by
    rw [crAt] at h
    by_cases e : c = 13 ∧ d = 10
    · rw [if_pos e] at h; omega
    · rw [if_neg e] at h
      cases j with
      | zero =>
        simp only [List.drop_zero, List.isPrefixOf, Bool.and_true]
        by_cases e1 : c = 13
        · have e2 : ¬ d = 10 := fun x => e ⟨e1, x⟩
          have : ((10 : UInt8) == d) = false := by rw [beq_eq_false_iff_ne]; exact fun x => e2 x.symm
          rw [this, Bool.and_false]
        · have : ((13 : UInt8) == c) = false := by rw [beq_eq_false_iff_ne]; exact fun x => e1 x.symm
          rw [this, Bool.false_and]
      | succ j => rw [List.drop_succ_cons]; exact crAt_not (d :: r) j (by omega)
theorem index_cr (l : List UInt8) : Lib.index l [13, 10] = if crAt l < l.length then (crAt l : Int) else -1 := by
  by_cases h : crAt l < l.length
  · rw [if_pos h]
    exact Lib.index_first (Nat.le_of_lt h) (crAt_is l h) (fun j hj => crAt_not l j hj)
  · rw [if_neg h]
    have e : crAt l = l.length := by have := crAt_le l; omega
    refine Lib.index_none fun j hj => ?_
    by_cases c : j < crAt l
    · exact crAt_not l j c
    · have : j = l.length := by omega
      subst this
      simp [Lib.occAt]
theorem cut_cr {l : List UInt8} (h : crAt l < l.length) : Lib.cut l [13, 10] = (l.take (crAt l), l.drop (crAt l + 2), true) := by
  unfold Lib.cut
  rw [index_cr, if_pos h, if_pos (by omega)]
  rfl
/-- Where the first colon stands; the length where there is none. -/
def clAt : List UInt8 → Nat
  | [] => 0
  | c :: r => if c = 58 then 0 else 1 + clAt r
theorem clAt_le : ∀ l : List UInt8, clAt l ≤ l.length
  | [] => Nat.le_refl _
  | c :: r => by
    have := clAt_le r
    rw [clAt]
    split
    · exact Nat.zero_le _
    · simp only [List.length_cons]; omega
theorem clAt_on : ∀ (l : List UInt8) (k : Nat), k ≤ clAt l → (h : k < l.length) → (l[k] = 58 → clAt l = k) ∧ (¬ l[k] = 58 → k + 1 ≤ clAt l)
  | [], k, _, h => by simp at h
  | c :: r, 0, _, h => by
    refine ⟨fun e => ?_, fun e => ?_⟩
    · rw [clAt, if_pos (by simpa using e)]
    · rw [clAt, if_neg (by simpa using e)]; omega
  | c :: r, k + 1, hk, h => by
    rw [clAt] at hk ⊢
    by_cases e : c = 58
    · rw [if_pos e] at hk; omega
    · rw [if_neg e] at hk ⊢
      have ih := clAt_on r k (by omega) (by simp only [List.length_cons] at h; omega)
      refine ⟨fun x => ?_, fun x => ?_⟩
      · have := ih.1 (by simpa using x); omega
      · have := ih.2 (by simpa using x); omega
theorem index_cl : ∀ l : List UInt8, Lib.index l [58] = if clAt l < l.length then (clAt l : Int) else -1
  | [] => by simp [Lib.index, clAt]
  | c :: r => by
    have ih := index_cl r
    rw [Lib.index, clAt]
    by_cases h : c = 58
    · rw [if_pos (by simp [List.isPrefixOf, h]), if_pos h]; simp
    · have h2 : ([58] : List UInt8).isPrefixOf (c :: r) = false := by
        simp only [List.isPrefixOf, Bool.and_true, beq_eq_false_iff_ne]
        exact fun x => h x.symm
      rw [h2, if_neg h, ih]
      by_cases q : clAt r < r.length
      · have q2 : 1 + clAt r < (c :: r).length := by simp only [List.length_cons]; omega
        have e1 : ((clAt r : Int) == -1) = false := by rw [beq_eq_false_iff_ne]; omega
        simp only [Bool.false_eq_true, if_false, if_pos q, if_pos q2, e1]
        omega
      · have q2 : ¬ 1 + clAt r < (c :: r).length := by simp only [List.length_cons]; omega
        simp only [Bool.false_eq_true, if_false, if_neg q, if_neg q2]
        rfl
theorem cut_cl {l : List UInt8} (h : clAt l < l.length) : Lib.cut l [58] = (l.take (clAt l), l.drop (clAt l + 1), true) := by
  unfold Lib.cut
  rw [index_cl, if_pos h, if_pos (by omega)]
  rfl
theorem cut_cl_no {l : List UInt8} (h : ¬ clAt l < l.length) : Lib.cut l [58] = (l, [], false) := by
  unfold Lib.cut
  rw [index_cl, if_neg h, if_neg (by omega)]
def hmk (p : List UInt8) : ByteArray := ⟨p.toArray⟩
theorem hmk_size (p : List UInt8) : (hmk p).size = p.length := by simp [hmk, ByteArray.size]
theorem hmk_list (p : List UInt8) : (hmk p).data.toList = p := by simp [hmk]
def lineOf (p : List UInt8) : Hdr := ⟨hmk (p.take (clAt p)), trimT (hmk (p.drop (clAt p + 1)))⟩
def lineR (p : List UInt8) : Option Hdr := if clAt p < p.length then some (lineOf p) else none
theorem lineR_yes {p : List UInt8} (h : clAt p < p.length) : lineR p = some (lineOf p) := by unfold lineR; rw [if_pos h]
theorem lineR_no {p : List UInt8} (h : ¬ clAt p < p.length) : lineR p = none := by unfold lineR; rw [if_neg h]
/-- The lines that the bytes 13 and 10 end; none: the last one is not ended. -/
def linesO (l : List UInt8) : Option (List (List UInt8)) :=
  if _h : l = [] then some [] else if crAt l < l.length then (linesO (l.drop (crAt l + 2))).map (l.take (crAt l) :: ·) else none
termination_by l.length
decreasing_by
  have := List.length_pos_iff.2 _h
  simp only [List.length_drop]; omega
theorem linesO_nil : linesO [] = some [] := by rw [linesO]; simp
theorem linesO_cut {l : List UInt8} (h : crAt l < l.length) : linesO l = (linesO (l.drop (crAt l + 2))).map (l.take (crAt l) :: ·) := by
  have h0 : ¬ l = [] := fun e => by subst e; simp [crAt] at h
  rw [linesO, dif_neg h0, if_pos h]
theorem linesO_bad {l : List UInt8} (h0 : ¬ l = []) (h : ¬ crAt l < l.length) : linesO l = none := by
  rw [linesO, dif_neg h0, if_neg h]
theorem linesO_len : ∀ (n : Nat) (l : List UInt8) (P : List (List UInt8)), l.length ≤ n → linesO l = some P → P.length ≤ l.length ∧ ∀ p ∈ P, p.length ≤ l.length := by
  intro n
  induction n with
  | zero =>
    intro l P hn h
    have : l = [] := List.eq_nil_of_length_eq_zero (by omega)
    subst this
    rw [linesO_nil] at h
    obtain rfl := Option.some.inj h
    simp
  | succ n ih =>
    intro l P hn h
    by_cases h0 : l = []
    · subst h0
      rw [linesO_nil] at h
      obtain rfl := Option.some.inj h
      simp
    · by_cases hc : crAt l < l.length
      · rw [linesO_cut hc] at h
        obtain ⟨Q, hQ, rfl⟩ := Option.map_eq_some_iff.1 h
        have hl := List.length_pos_iff.2 h0
        have := ih _ Q (by simp only [List.length_drop]; omega) hQ
        simp only [List.length_drop] at this
        refine ⟨by simp only [List.length_cons]; omega, fun p hp => ?_⟩
        rcases List.mem_cons.1 hp with rfl | hp
        · simp only [List.length_take]; omega
        · have := this.2 p hp; omega
      · rw [linesO_bad h0 hc] at h; cases h
theorem suffix_far {a b : UInt8} {p r : List UInt8} (h : 2 ≤ r.length) : ([a, b].isSuffixOf (p ++ r)) = ([a, b].isSuffixOf r) := by
  rw [Bool.eq_iff_iff, List.isSuffixOf_iff_suffix, List.isSuffixOf_iff_suffix]
  constructor
  · intro hs
    exact List.suffix_of_suffix_length_le hs (List.suffix_append _ _) (by simpa using h)
  · intro hs
    exact hs.trans (List.suffix_append _ _)
theorem linesO_suffix : ∀ (n : Nat) (l : List UInt8), l.length ≤ n → ¬ l = [] → (linesO l).isSome = ([13, 10] : List UInt8).isSuffixOf l := by
  intro n
  induction n with
  | zero => intro l hn h0; exact absurd (List.eq_nil_of_length_eq_zero (by omega)) h0
  | succ n ih =>
    intro l hn h0
    by_cases hc : crAt l < l.length
    · have hr := crAt_room l hc
      have hi := crAt_is l hc
      rw [linesO_cut hc, Option.isSome_map]
      have e : l = l.take (crAt l) ++ ([13, 10] ++ l.drop (crAt l + 2)) := by
        have h1 := (List.take_append_drop (crAt l) l).symm
        obtain ⟨t, ht⟩ := List.isPrefixOf_iff_prefix.1 hi
        have h2 : t = l.drop (crAt l + 2) := by
          have := congrArg (List.drop 2) ht
          simp only [List.drop_drop] at this
          simpa using this
        rw [← h2, ht]
        exact h1
      by_cases h3 : l.drop (crAt l + 2) = []
      · rw [h3, linesO_nil]
        rw [h3] at e
        symm
        rw [Option.isSome_some, List.isSuffixOf_iff_suffix, e]
        exact List.suffix_append _ _
      · rw [ih _ (by simp only [List.length_drop]; have := List.length_pos_iff.2 h0; omega) h3]
        generalize l.drop (crAt l + 2) = r at *
        generalize l.take (crAt l) = p at *
        subst e
        by_cases h4 : 2 ≤ r.length
        · rw [← List.append_assoc, suffix_far h4]
        · match r, h3, h4 with
          | [x], _, _ =>
            rw [Bool.eq_iff_iff, List.isSuffixOf_iff_suffix, List.isSuffixOf_iff_suffix]
            constructor
            · intro hs; have := hs.length_le; simp at this
            · rintro ⟨q, hq⟩
              have hq2 : (q ++ [13]) ++ [10] = (p ++ [13]) ++ ([10] ++ [x]) := by simpa using hq
              have h5 := congrArg List.reverse hq2
              simp at h5
          | _ :: _ :: _, _, h4 => exact absurd (by simp) h4
    · rw [linesO_bad h0 hc]
      symm
      rw [Option.isSome_none]
      cases hs : ([13, 10] : List UInt8).isSuffixOf l
      · rfl
      · obtain ⟨q, hq⟩ := List.isSuffixOf_iff_suffix.1 hs
        have hl : l.length = q.length + 2 := by rw [← hq]; simp
        have := crAt_le l
        have hn2 := crAt_not l q.length (by omega)
        rw [← hq] at hn2
        simp [List.isPrefixOf] at hn2
/-- All lines read. -/
def readLs : List (List UInt8) → Option (List Hdr)
  | [] => some []
  | p :: ps => match lineR p with
    | none => none
    | some r => (readLs ps).map (r :: ·)
theorem readLs_bad {p : List UInt8} {ps : List (List UInt8)} (h : ¬ clAt p < p.length) : readLs (p :: ps) = none := by rw [readLs, lineR_no h]
theorem readLs_take {p : List UInt8} {ps : List (List UInt8)} (h : clAt p < p.length) : readLs (p :: ps) = (readLs ps).map (lineOf p :: ·) := by rw [readLs, lineR_yes h]
def readT (l : List UInt8) : Option (List Hdr) := (linesO l).bind readLs
theorem readT_nil : readT [] = some [] := by unfold readT; rw [linesO_nil]; rfl
theorem readT_bad {l : List UInt8} (h : crAt l < l.length) (h2 : ¬ clAt (l.take (crAt l)) < (l.take (crAt l)).length) : readT l = none := by
  unfold readT
  rw [linesO_cut h]
  cases linesO (l.drop (crAt l + 2)) with
  | none => rfl
  | some P => simp only [Option.map_some, Option.bind_some]; rw [readLs_bad h2]
theorem readT_take {l : List UInt8} (h : crAt l < l.length) (h2 : clAt (l.take (crAt l)) < (l.take (crAt l)).length) : readT l = (readT (l.drop (crAt l + 2))).map (lineOf (l.take (crAt l)) :: ·) := by
  unfold readT
  rw [linesO_cut h]
  cases linesO (l.drop (crAt l + 2)) with
  | none => rfl
  | some P => simp only [Option.map_some, Option.bind_some]; rw [readLs_take h2]
def readHC (s : ByteArray) : Int := if 6000 < s.size then 2 else match readT s.data.toList with
  | none => 5
  | some L => headsC L
def readHL (s : ByteArray) : List Hdr := if 6000 < s.size then [] else match readT s.data.toList with
  | none => []
  | some L => if headsC L = 0 then L else []
theorem readH_long {s : ByteArray} (h : 6000 < s.size) : readHC s = 2 ∧ readHL s = [] := by unfold readHC readHL; rw [if_pos h, if_pos h]; exact ⟨rfl, rfl⟩
theorem readH_bad {s : ByteArray} (h : ¬ 6000 < s.size) (hr : readT s.data.toList = none) : readHC s = 5 ∧ readHL s = [] := by unfold readHC readHL; rw [if_neg h, if_neg h, hr]; exact ⟨rfl, rfl⟩
theorem readH_fault {s : ByteArray} {L : List Hdr} (h : ¬ 6000 < s.size) (hr : readT s.data.toList = some L) (hL : headsC L ≠ 0) : readHC s = headsC L ∧ readHL s = [] := by
  unfold readHC readHL; rw [if_neg h, if_neg h, hr]; exact ⟨rfl, if_neg hL⟩
theorem readH_ok {s : ByteArray} {L : List Hdr} (h : ¬ 6000 < s.size) (hr : readT s.data.toList = some L) (hL : headsC L = 0) : readHC s = 0 ∧ readHL s = L := by
  unfold readHC readHL; rw [if_neg h, if_neg h, hr]; exact ⟨hL, if_pos hL⟩
theorem readHL_len (s : ByteArray) : (readHL s).length ≤ 20 := by
  unfold readHL
  by_cases h : 6000 < s.size
  · rw [if_pos h]; exact Nat.zero_le _
  · rw [if_neg h]
    split
    · exact Nat.zero_le _
    · split
      · rename_i hc; exact (headsC_zero hc).1
      · exact Nat.zero_le _
end Go.Proofs.YtolkgnnjocmkdaaGreatDoor
/-
  Where a pattern stands first in a text; a text cut there. No Go in sight.
-/
namespace Go.Proofs.YtolkgnnjocmkdaaGreatDoor
/-- Where the pattern stands first; the length where it does not. -/
def patAt (p : List UInt8) : List UInt8 → Nat
  | [] => 0
  | x :: r => if p.isPrefixOf (x :: r) = true then 0 else 1 + patAt p r
theorem patAt_le (p : List UInt8) : ∀ l : List UInt8, patAt p l ≤ l.length
  | [] => Nat.le_refl _
  | x :: r => by
    have := patAt_le p r
    rw [patAt]
    split
    · exact Nat.zero_le _
    · simp only [List.length_cons]; omega
theorem patAt_is (p : List UInt8) : ∀ l : List UInt8, patAt p l < l.length → p.isPrefixOf (l.drop (patAt p l)) = true
  | [], h => by simp [patAt] at h
  | x :: r, h => by
    rw [patAt] at h ⊢
    by_cases e : p.isPrefixOf (x :: r) = true
    · rw [if_pos e]; exact e
    · rw [if_neg e] at h ⊢
      have := patAt_is p r (by simp only [List.length_cons] at h; omega)
      rw [show 1 + patAt p r = patAt p r + 1 from by omega, List.drop_succ_cons]
      exact this
theorem patAt_not (p : List UInt8) : ∀ (l : List UInt8) (j : Nat), j < patAt p l → p.isPrefixOf (l.drop j) = false
  | [], j, h => by simp [patAt] at h
  | x :: r, j, h => by
    rw [patAt] at h
    by_cases e : p.isPrefixOf (x :: r) = true
    · rw [if_pos e] at h; omega
    · rw [if_neg e] at h
      cases j with
      | zero => rw [List.drop_zero]; exact Bool.eq_false_iff.2 e
      | succ j => rw [List.drop_succ_cons]; exact patAt_not p r j (by omega)
theorem patAt_of (p : List UInt8) : ∀ (l : List UInt8) (k : Nat), k < l.length → p.isPrefixOf (l.drop k) = true → (∀ j, j < k → p.isPrefixOf (l.drop j) = false) → patAt p l = k
  | [], k, h, _, _ => by simp at h
  | x :: r, 0, _, h, _ => by rw [patAt, if_pos (by simpa using h)]
  | x :: r, k + 1, hk, h, hn => by
    have h0 := hn 0 (by omega)
    rw [patAt, if_neg (by rw [List.drop_zero] at h0; rw [h0]; decide), patAt_of p r k (by simpa using hk) (by simpa using h) (fun j hj => by simpa using hn (j + 1) (by omega))]
    omega
theorem patAt_none (p : List UInt8) : ∀ (l : List UInt8), (∀ j, j < l.length → p.isPrefixOf (l.drop j) = false) → patAt p l = l.length
  | [], _ => rfl
  | x :: r, h => by
    have h0 := h 0 (by simp)
    rw [patAt, if_neg (by rw [List.drop_zero] at h0; rw [h0]; decide), patAt_none p r (fun j hj => by simpa using h (j + 1) (by simpa using hj))]
    simp only [List.length_cons]; omega
theorem index_pat {p : List UInt8} (hp : p ≠ []) (l : List UInt8) : Lib.index l p = if patAt p l < l.length then (patAt p l : Int) else -1 := by
  by_cases h : patAt p l < l.length
  · rw [if_pos h]
    exact Lib.index_first (Nat.le_of_lt h) (patAt_is p l h) (fun j hj => patAt_not p l j hj)
  · rw [if_neg h]
    have e : patAt p l = l.length := by have := patAt_le p l; omega
    refine Lib.index_none fun j hj => ?_
    by_cases c : j < patAt p l
    · exact patAt_not p l j c
    · have : j = l.length := by omega
      subst this
      cases p with
      | nil => exact absurd rfl hp
      | cons a p => simp [Lib.occAt]
theorem cut_pat {p l : List UInt8} (hp : p ≠ []) (h : patAt p l < l.length) : Lib.cut l p = (l.take (patAt p l), l.drop (patAt p l + p.length), true) := by
  unfold Lib.cut
  rw [index_pat hp, if_pos h, if_pos (by omega)]
  rfl
theorem cut_pat_no {p l : List UInt8} (hp : p ≠ []) (h : ¬ patAt p l < l.length) : Lib.cut l p = (l, [], false) := by
  unfold Lib.cut
  rw [index_pat hp, if_neg h, if_neg (by omega)]
theorem pre_one (c x : UInt8) (r : List UInt8) : ([c] : List UInt8).isPrefixOf (x :: r) = decide (x = c) := by
  simp only [List.isPrefixOf, Bool.and_true]
  by_cases h : x = c
  · subst h; simp
  · rw [beq_eq_false_iff_ne.2 (fun e => h e.symm)]; simp [h]
/-- What is cut at a byte, by the place where the byte stands first. -/
theorem cutG_pat (c : UInt8) : ∀ (l cur : List UInt8), cutG c cur l = if patAt [c] l < l.length then (cur ++ l.take (patAt [c] l)) :: cutG c [] (l.drop (patAt [c] l + 1)) else [cur ++ l]
  | [], cur => by simp [cutG, patAt]
  | x :: r, cur => by
    rw [patAt, pre_one]
    by_cases h : x = c
    · subst h
      rw [cutG_at]; simp
    · rw [cutG_on _ _ h, cutG_pat c r (cur ++ [x])]
      simp only [h, decide_false, Bool.false_eq_true, if_false, List.length_cons]
      by_cases q : patAt [c] r < r.length
      · rw [if_pos q, if_pos (by omega), show 1 + patAt [c] r = patAt [c] r + 1 from by omega]
        simp
      · rw [if_neg q, if_neg (by omega)]
        simp
theorem splitK_cut (c : UInt8) : ∀ (n : Nat) (l : List UInt8), l.length ≤ n → Lib.splitK [c] 0 (Lib.count l [c]) l = cutG c [] l := by
  intro n
  induction n with
  | zero =>
    intro l h
    have : l = [] := List.eq_nil_of_length_eq_zero (by omega)
    subst this
    rw [Lib.count_miss (by simp [Lib.index])]
    rfl
  | succ n ih =>
    intro l h
    rw [cutG_pat]
    by_cases q : patAt [c] l < l.length
    · have hi : Lib.index l [c] = (patAt [c] l : Nat) := by rw [index_pat (by simp), if_pos q]
      rw [Lib.count_hit (by simp) hi, Nat.add_comm, Lib.splitK, if_neg (by rw [hi]; simp), hi, if_pos q]
      have e := ih (l.drop (patAt [c] l + 1)) (by rw [List.length_drop]; omega)
      simp only [Int.toNat_natCast, List.length_singleton, Nat.add_zero, List.nil_append]
      rw [e]
    · rw [Lib.count_miss (by rw [index_pat (by simp), if_neg q]), if_neg q]
      rfl
theorem splitB_cut (c : UInt8) (s : ByteArray) : Lib.splitB ⟨#[c]⟩ 0 (Lib.countB s ⟨#[c]⟩) s = (cutG c [] s.data.toList).map hmk := by
  have h := Lib.splitB_data ⟨#[c]⟩ 0 (Lib.countB s ⟨#[c]⟩) s
  have e : (Lib.splitB ⟨#[c]⟩ 0 (Lib.countB s ⟨#[c]⟩) s) = ((Lib.splitB ⟨#[c]⟩ 0 (Lib.countB s ⟨#[c]⟩) s).map (·.data.toList)).map hmk := by
    rw [List.map_map]
    have : (hmk ∘ fun x : ByteArray => x.data.toList) = id := by
      funext x
      cases x
      simp [hmk]
    rw [this, List.map_id]
  rw [e, h]
  congr 1
  exact splitK_cut c _ s.data.toList (Nat.le_refl _)
theorem cutG_count (c : UInt8) (s : ByteArray) : Lib.countB s ⟨#[c]⟩ + 1 = (cutG c [] s.data.toList).length := by
  have h := Lib.splitB_all ⟨#[c]⟩ (Nat.le_refl _) 0 _ s rfl
  rw [splitB_cut, List.length_map] at h
  exact h.symm
end Go.Proofs.YtolkgnnjocmkdaaGreatDoor
/-
  Plain mathematics of decimal digits that stay at their greatest: no Go in sight.
-/
namespace Go.Proofs.YtolkgnnjocmkdaaGreatDoor
def digB (c : UInt8) : Bool := decide (48 ≤ (c.toNat : Int)) && decide ((c.toNat : Int) ≤ 57)
def accD (n : Int) (c : UInt8) : Int := if n * 10 + ((c.toNat : Int) - 48) < 2147483648 then n * 10 + ((c.toNat : Int) - 48) else 2147483648
def valD (l : List UInt8) : Int := l.foldl accD 0
def allD (l : List UInt8) : Bool := l.all digB
theorem accD_bd (n : Int) (c : UInt8) (h0 : 0 ≤ n) (hc : digB c = true) : 0 ≤ accD n c ∧ accD n c ≤ 2147483648 := by
  simp [digB] at hc
  unfold accD
  split <;> omega
theorem foldD_bd (l : List UInt8) : ∀ n : Int, 0 ≤ n → n ≤ 2147483648 → l.all digB = true → 0 ≤ l.foldl accD n ∧ l.foldl accD n ≤ 2147483648 := by
  induction l with
  | nil => intro n h0 h1 _; exact ⟨h0, h1⟩
  | cons c l ih =>
    intro n h0 h1 h
    simp only [List.all_cons, Bool.and_eq_true] at h
    have := accD_bd n c h0 h.1
    exact ih _ this.1 this.2 h.2
theorem valD_bd (l : List UInt8) (h : allD l = true) : 0 ≤ valD l ∧ valD l ≤ 2147483648 := foldD_bd l 0 (by omega) (by omega) h
theorem valD_snoc (l : List UInt8) (c : UInt8) : valD (l ++ [c]) = accD (valD l) c := by simp [valD]
theorem allD_snoc (l : List UInt8) (c : UInt8) : allD (l ++ [c]) = (allD l && digB c) := by simp [allD]
theorem allD_of_take (l : List UInt8) (k : Nat) (h : allD (l.take k) = false) : allD l = false := by
  have e := List.take_append_drop k l
  rw [← e]
  simp only [allD] at h ⊢
  rw [List.all_append, h, Bool.false_and]
/-- Digits as a number; -1 where they are none. -/
def okD (s : ByteArray) : Bool := decide (1 ≤ s.size) && decide (s.size ≤ 64) && allD s.data.toList
def numD (s : ByteArray) : Int := if okD s = true then valD s.data.toList else -1
theorem okD_short (s : ByteArray) (h : s.size < 1) : okD s = false := by simp [okD]; omega
theorem okD_long (s : ByteArray) (h : 64 < s.size) : okD s = false := by simp [okD]; omega
theorem okD_not (s : ByteArray) (k : Nat) (h : k < s.size) (hd : digB s[k] = false) : okD s = false := by
  have : allD s.data.toList = false := by
    refine allD_of_take _ (k + 1) ?_
    rw [take_snoc s k h, allD_snoc, hd, Bool.and_false]
  simp [okD, this]
theorem okD_yes (s : ByteArray) (h1 : 1 ≤ s.size) (h2 : s.size ≤ 64) (h : allD s.data.toList = true) : okD s = true := by simp [okD, h, h1, h2]
theorem numD_no (s : ByteArray) (h : okD s = false) : numD s = -1 := by simp [numD, h]
theorem numD_yes (s : ByteArray) (h : okD s = true) : numD s = valD s.data.toList := by simp [numD, h]
theorem okD_bd (s : ByteArray) (h : okD s = true) : 0 ≤ valD s.data.toList ∧ valD s.data.toList ≤ 2147483648 := by
  refine valD_bd _ ?_
  simp [okD] at h
  exact h.2
end Go.Proofs.YtolkgnnjocmkdaaGreatDoor
/-
  Requests and responses read from bytes, plainly. No Go in sight.
-/
namespace Go.Proofs.YtolkgnnjocmkdaaGreatDoor
/-- A first line and what stands behind it, up to the last 13 and 10. -/
def okRest (r : List UInt8) : Bool := decide (r = [13, 10]) || ([13, 10, 13, 10] : List UInt8).isSuffixOf r
def firstO (l : List UInt8) : Option (List UInt8 × List UInt8) :=
  if crAt l < l.length ∧ okRest (l.drop (crAt l + 2)) = true then some (l.take (crAt l), (l.drop (crAt l + 2)).take (l.length - (crAt l + 2) - 2)) else none
theorem firstO_no {l : List UInt8} (h : ¬ crAt l < l.length) : firstO l = none := by rw [firstO, if_neg (fun x => h x.1)]
theorem firstO_bad {l : List UInt8} (h : okRest (l.drop (crAt l + 2)) = false) : firstO l = none := by rw [firstO, if_neg (fun x => by rw [h] at x; exact absurd x.2 (by decide))]
theorem firstO_yes {l : List UInt8} (h : crAt l < l.length) (h2 : okRest (l.drop (crAt l + 2)) = true) : firstO l = some (l.take (crAt l), (l.drop (crAt l + 2)).take (l.length - (crAt l + 2) - 2)) := by rw [firstO, if_pos ⟨h, h2⟩]
theorem okRest_len {r : List UInt8} (h : okRest r = true) : 2 ≤ r.length := by
  simp only [okRest, Bool.or_eq_true, decide_eq_true_eq] at h
  rcases h with rfl | h
  · simp
  · have := (List.isSuffixOf_iff_suffix.1 h).length_le
    simp only [List.length_cons, List.length_nil] at this; omega
theorem okRest_suffix {r : List UInt8} (h : okRest r = true) : Lib.hasSuffix r [13, 10] = true := by
  unfold Lib.hasSuffix
  simp only [okRest, Bool.or_eq_true, decide_eq_true_eq] at h
  rcases h with rfl | h
  · rfl
  · rw [List.isSuffixOf_iff_suffix] at h ⊢
    exact List.IsSuffix.trans ⟨[13, 10], rfl⟩ h
structure Rq where
  m : ByteArray
  h : ByteArray
  p : ByteArray
  l : List Hdr
def rq0 : Rq := ⟨⟨#[]⟩, ⟨#[]⟩, ⟨#[]⟩, []⟩
def rqC (q : Rq) : Int := reqC q.m q.h q.p q.l
theorem vals_drop_len (x : ByteArray) : ∀ l : List Hdr, (dropH x l).length + (valsOf x l).length = l.length
  | [] => rfl
  | r :: l => by
    have ih := vals_drop_len x l
    simp only [dropH, valsOf, List.length_map, List.filter_cons] at ih ⊢
    by_cases h : lowS r.name = x
    · simp only [h, not_true, decide_false, decide_true, Bool.false_eq_true, if_false, if_true, List.length_cons]
      omega
    · simp only [h, not_false_eq_true, decide_true, decide_false, Bool.false_eq_true, if_false, if_true, List.length_cons]
      omega
/-- A first line that is three words, the last one the version. -/
def wordsOk (ws : List (List UInt8)) : Bool := decide (ws.length = 3) && decide (ws[2]? = some verL)
def hostOk (H : List Hdr) : Bool := decide ((valsOf hostN H).length = 1)
def reqOf (ws : List (List UInt8)) (H : List Hdr) : Rq := ⟨hmk (ws.getD 0 []), hmk (hjoinL (valsOf hostN H)), hmk (ws.getD 1 []), dropH hostN H⟩
def readQ (d : List UInt8) : Int × Rq :=
  if 8000 < d.length then (2, rq0) else match firstO d with
  | none => (5, rq0)
  | some x => if readHC (hmk x.2) = 0 then (if (wordsOk (cutG 32 [] x.1) && hostOk (readHL (hmk x.2))) = true then (if rqC (reqOf (cutG 32 [] x.1) (readHL (hmk x.2))) = 0 then (0, reqOf (cutG 32 [] x.1) (readHL (hmk x.2))) else (rqC (reqOf (cutG 32 [] x.1) (readHL (hmk x.2))), rq0)) else (5, rq0)) else (readHC (hmk x.2), rq0)
theorem readQ_long {d : List UInt8} (h : 8000 < d.length) : readQ d = (2, rq0) := by rw [readQ, if_pos h]
theorem readQ_none {d : List UInt8} (h : ¬ 8000 < d.length) (h1 : firstO d = none) : readQ d = (5, rq0) := by rw [readQ, if_neg h, h1]
theorem readQ_heads {d : List UInt8} {a b : List UInt8} (h : ¬ 8000 < d.length) (h1 : firstO d = some (a, b)) (h2 : ¬ readHC (hmk b) = 0) : readQ d = (readHC (hmk b), rq0) := by rw [readQ, if_neg h, h1]; simp only; rw [if_neg h2]
theorem readQ_words {d : List UInt8} {a b : List UInt8} (h : ¬ 8000 < d.length) (h1 : firstO d = some (a, b)) (h2 : readHC (hmk b) = 0) (h3 : (wordsOk (cutG 32 [] a) && hostOk (readHL (hmk b))) = false) : readQ d = (5, rq0) := by rw [readQ, if_neg h, h1]; simp only; rw [if_pos h2, if_neg (by rw [h3]; decide)]
theorem readQ_fault {d : List UInt8} {a b : List UInt8} (h : ¬ 8000 < d.length) (h1 : firstO d = some (a, b)) (h2 : readHC (hmk b) = 0) (h3 : (wordsOk (cutG 32 [] a) && hostOk (readHL (hmk b))) = true) (h4 : ¬ rqC (reqOf (cutG 32 [] a) (readHL (hmk b))) = 0) : readQ d = (rqC (reqOf (cutG 32 [] a) (readHL (hmk b))), rq0) := by rw [readQ, if_neg h, h1]; simp only; rw [if_pos h2, if_pos h3, if_neg h4]
theorem readQ_ok {d : List UInt8} {a b : List UInt8} (h : ¬ 8000 < d.length) (h1 : firstO d = some (a, b)) (h2 : readHC (hmk b) = 0) (h3 : (wordsOk (cutG 32 [] a) && hostOk (readHL (hmk b))) = true) (h4 : rqC (reqOf (cutG 32 [] a) (readHL (hmk b))) = 0) : readQ d = (0, reqOf (cutG 32 [] a) (readHL (hmk b))) := by rw [readQ, if_neg h, h1]; simp only; rw [if_pos h2, if_pos h3, if_pos h4]
/-! ### responses -/
structure Rp where
  s : Int
  l : List Hdr
  b : List UInt8
def rp0 : Rp := ⟨0, [], []⟩
def rpC (q : Rp) : Int := respC q.s q.l q.b.length
def ccL : List UInt8 := [13, 10, 13, 10]
def ccAt (l : List UInt8) : Nat := patAt ccL l
def headB (d : List UInt8) : List UInt8 := d.take (ccAt d) ++ [13, 10]
def lnP (d : List UInt8) : List UInt8 := (headB d).take (crAt (headB d))
def restP (d : List UInt8) : List UInt8 := (headB d).drop (crAt (headB d) + 2)
def bodyP (d : List UInt8) : List UInt8 := d.drop (ccAt d + 4)
def lineOk (ln : List UInt8) : Bool := decide (ln.length = 12) && decide (ln.take 9 = verL ++ [32]) && okD (hmk (ln.drop 9))
def respOf (d : List UInt8) : Rp := ⟨valD ((lnP d).drop 9), readHL (hmk (restP d)), bodyP d⟩
def readP (d : List UInt8) : Int × Rp :=
  if 10000 < d.length then (2, rp0) else if ccAt d < d.length then (if readHC (hmk (restP d)) = 0 then (if lineOk (lnP d) = true then (if rpC (respOf d) = 0 then (0, respOf d) else (rpC (respOf d), rp0)) else (5, rp0)) else (readHC (hmk (restP d)), rp0)) else (5, rp0)
theorem readP_long {d : List UInt8} (h : 10000 < d.length) : readP d = (2, rp0) := by rw [readP, if_pos h]
theorem readP_none {d : List UInt8} (h : ¬ 10000 < d.length) (h1 : ¬ ccAt d < d.length) : readP d = (5, rp0) := by rw [readP, if_neg h, if_neg h1]
theorem readP_heads {d : List UInt8} (h : ¬ 10000 < d.length) (h1 : ccAt d < d.length) (h2 : ¬ readHC (hmk (restP d)) = 0) : readP d = (readHC (hmk (restP d)), rp0) := by rw [readP, if_neg h, if_pos h1, if_neg h2]
theorem readP_line {d : List UInt8} (h : ¬ 10000 < d.length) (h1 : ccAt d < d.length) (h2 : readHC (hmk (restP d)) = 0) (h3 : lineOk (lnP d) = false) : readP d = (5, rp0) := by rw [readP, if_neg h, if_pos h1, if_pos h2, if_neg (by rw [h3]; decide)]
theorem readP_fault {d : List UInt8} (h : ¬ 10000 < d.length) (h1 : ccAt d < d.length) (h2 : readHC (hmk (restP d)) = 0) (h3 : lineOk (lnP d) = true) (h4 : ¬ rpC (respOf d) = 0) : readP d = (rpC (respOf d), rp0) := by rw [readP, if_neg h, if_pos h1, if_pos h2, if_pos h3, if_neg h4]
theorem readP_ok {d : List UInt8} (h : ¬ 10000 < d.length) (h1 : ccAt d < d.length) (h2 : readHC (hmk (restP d)) = 0) (h3 : lineOk (lnP d) = true) (h4 : rpC (respOf d) = 0) : readP d = (0, respOf d) := by rw [readP, if_neg h, if_pos h1, if_pos h2, if_pos h3, if_pos h4]
/-- A line's end that stands behind a text: where the first one stands. -/
theorem crAt_app (h t : List UInt8) : crAt (h ++ 13 :: 10 :: t) ≤ h.length ∧ crAt (h ++ 13 :: 10 :: t) = crAt (h ++ [13, 10]) := by
  induction h with
  | nil => simp [crAt]
  | cons x h ih =>
    cases h with
    | nil =>
      have : ¬ ((13 : UInt8) = 10) := by decide
      simp [crAt, this]
    | cons y h =>
      simp only [List.cons_append] at ih ⊢
      rw [crAt, crAt]
      by_cases e : x = 13 ∧ y = 10
      · rw [if_pos e, if_pos e]; simp
      · rw [if_neg e, if_neg e]
        refine ⟨?_, by rw [ih.2]⟩
        have := ih.1
        simp only [List.length_cons] at this ⊢; omega
theorem crAt_apart (h : List UInt8) : crAt (h ++ [13, 10]) = h.length ∨ crAt (h ++ [13, 10]) + 2 ≤ h.length := by
  obtain ⟨h1, _⟩ := crAt_app h []
  have h2 := crAt_is (h ++ [13, 10]) (by simp; omega)
  by_cases c : crAt (h ++ [13, 10]) + 1 = h.length
  · exfalso
    obtain ⟨t, ht⟩ := List.isPrefixOf_iff_prefix.1 h2
    have e1 := congrArg (fun l => l[1]?) ht
    simp only [List.getElem?_drop, c] at e1
    simp at e1
  · omega
theorem firstO_two (h : List UInt8) : firstO (h ++ [13, 10] ++ [13, 10]) = some ((h ++ [13, 10]).take (crAt (h ++ [13, 10])), (h ++ [13, 10]).drop (crAt (h ++ [13, 10]) + 2)) := by
  have e0 : h ++ [13, 10] ++ [13, 10] = h ++ 13 :: 10 :: [13, 10] := by simp
  obtain ⟨h1, h2⟩ := crAt_app h [13, 10]
  have h3 := crAt_apart h
  have hc : crAt (h ++ [13, 10] ++ [13, 10]) = crAt (h ++ [13, 10]) := by rw [e0]; exact h2
  have hle : crAt (h ++ [13, 10]) ≤ h.length := by rw [← h2]; exact h1
  generalize hk : crAt (h ++ [13, 10]) = k at *
  have ed : (h ++ [13, 10] ++ [13, 10]).drop (k + 2) = (h ++ [13, 10]).drop (k + 2) ++ [13, 10] := by
    rw [List.drop_append_of_le_length (by simp; omega)]
  have ok : okRest ((h ++ [13, 10] ++ [13, 10]).drop (k + 2)) = true := by
    rw [ed]
    rcases h3 with h3 | h3
    · have : (h ++ [13, 10]).drop (k + 2) = [] := by rw [h3]; exact List.drop_of_length_le (by simp)
      rw [this]; rfl
    · have : (h ++ [13, 10]).drop (k + 2) = h.drop (k + 2) ++ [13, 10] := List.drop_append_of_le_length h3
      rw [this]
      simp only [okRest, Bool.or_eq_true]
      refine .inr ?_
      rw [List.isSuffixOf_iff_suffix]
      exact ⟨h.drop (k + 2), by simp⟩
  rw [firstO_yes (by rw [hc]; simp; omega) (by rw [hc]; exact ok), hc, ed]
  congr 2
  · rw [List.take_append_of_le_length (by simp; omega)]
  · rw [List.take_append_of_le_length (by simp only [List.length_append, List.length_drop, List.length_cons, List.length_nil]; omega)]
    exact List.take_of_length_le (by simp only [List.length_append, List.length_drop, List.length_cons, List.length_nil]; omega)
theorem ccAt_room {d : List UInt8} (h : ccAt d < d.length) : ccAt d + 4 ≤ d.length ∧ d.take (ccAt d + 4) = headB d ++ [13, 10] := by
  have h2 : ccL.isPrefixOf (d.drop (ccAt d)) = true := patAt_is ccL d h
  obtain ⟨t, ht⟩ := List.isPrefixOf_iff_prefix.1 h2
  unfold headB
  generalize ccAt d = k at *
  have hl := congrArg List.length ht
  simp only [List.length_append, List.length_drop, ccL, List.length_cons, List.length_nil] at hl
  refine ⟨by omega, ?_⟩
  have e : d = d.take k ++ (ccL ++ t) := by
    rw [ht, List.take_append_drop]
  have hlen : (d.take k).length = k := by rw [List.length_take]; omega
  generalize d.take k = f at *
  subst e
  rw [List.take_append, hlen, List.take_of_length_le (by omega), show k + 4 - k = 4 from by omega]
  simp [ccL]
theorem firstO_headB {d : List UInt8} (h : ccAt d < d.length) : firstO (d.take (ccAt d + 4)) = some (lnP d, restP d) := by
  rw [(ccAt_room h).2]
  exact firstO_two _
end Go.Proofs.YtolkgnnjocmkdaaGreatDoor
/-
  What the model's l4Lines answers.
-/
namespace Go.Proofs.YtolkgnnjocmkdaaGreatDoor
open Go.ChangeShapes Go.WideShapes Go.ChangeAt Go.RowKit
theorem u8_13 (x : UInt8) : x = 13 ↔ (x.toNat : Int) = 13 := by
  constructor
  · rintro rfl; rfl
  · intro h; exact UInt8.toNat_inj.1 (by simpa using (by omega : x.toNat = 13))
theorem u8_10 (x : UInt8) : x = 10 ↔ (x.toNat : Int) = 10 := by
  constructor
  · rintro rfl; rfl
  · intro h; exact UInt8.toNat_inj.1 (by simpa using (by omega : x.toNat = 10))
theorem u8_58 (x : UInt8) : x = 58 ↔ (x.toNat : Int) = 58 := by
  constructor
  · rintro rfl; rfl
  · intro h; exact UInt8.toNat_inj.1 (by simpa using (by omega : x.toNat = 58))
theorem hsize_list (s : ByteArray) : s.data.toList.length = s.size := by simp
theorem drop_get (s : ByteArray) (f k : Nat) (hf : f ≤ k) (hk : k < s.size) (h : k - f < (s.data.toList.drop f).length) : (s.data.toList.drop f)[k - f] = s[k] := by
  rw [List.getElem_drop]
  have e : f + (k - f) = k := by omega
  simp only [e]
  rfl
theorem hext_mk (s : ByteArray) (i j : Nat) : s.extract i j = hmk ((s.data.toList.drop i).take (j - i)) := by
  rw [Lib.extract_eq]; rfl
/-- The state of the walk over the text: O lines are found, the next one begins at f, k is looked at. -/
structure LnAt (s : ByteArray) (O : List (List UInt8)) (f k : Nat) : Prop where
  fk : f ≤ k
  ks : k ≤ s.size
  ol : O.length ≤ k
  eq : linesO s.data.toList = (linesO (s.data.toList.drop f)).map (O ++ ·)
  at' : k - f ≤ crAt (s.data.toList.drop f)
theorem LnAt.start (s : ByteArray) : LnAt s [] 0 0 := ⟨Nat.le_refl _, Nat.zero_le _, Nat.le_refl _, by simp, Nat.zero_le _⟩
theorem LnAt.hit {s : ByteArray} {O : List (List UInt8)} {f k : Nat} (h : LnAt s O f k) (hk : k + 1 < s.size) (h13 : s[k] = 13) (h10 : s[k + 1] = 10) : LnAt s (O ++ [(s.data.toList.drop f).take (k - f)]) (k + 2) (k + 2) := by
  have hl : (s.data.toList.drop f).length = s.size - f := by rw [List.length_drop, hsize_list]
  have hfk := h.fk
  have h1 := drop_get s f k h.fk (by omega) (by omega)
  have h2 := drop_get s f (k + 1) (by omega) hk (by omega)
  have e : k + 1 - f = k - f + 1 := by omega
  simp only [e] at h2
  have hc := (crAt_on _ (k - f) h.at' (by omega)).1 ⟨h1.trans h13, h2.trans h10⟩
  refine ⟨Nat.le_refl _, by omega, by simp; have := h.ol; omega, ?_, by omega⟩
  rw [h.eq, linesO_cut (by omega), hc, List.drop_drop, show f + (k - f + 2) = k + 2 from by omega, Option.map_map]
  congr 1
  funext x
  simp
theorem LnAt.on {s : ByteArray} {O : List (List UInt8)} {f k : Nat} (h : LnAt s O f k) (hk : k + 1 < s.size) (hn : ¬ (s[k] = 13 ∧ s[k + 1] = 10)) : LnAt s O f (k + 1) := by
  have hl : (s.data.toList.drop f).length = s.size - f := by rw [List.length_drop, hsize_list]
  have hfk := h.fk
  have h1 := drop_get s f k h.fk (by omega) (by omega)
  have h2 := drop_get s f (k + 1) (by omega) hk (by omega)
  have e : k + 1 - f = k - f + 1 := by omega
  simp only [e] at h2
  have hc := (crAt_on _ (k - f) h.at' (by omega)).2 (by rw [h1, h2]; exact hn)
  exact ⟨by omega, by omega, by have := h.ol; omega, h.eq, by omega⟩
theorem LnAt.done {s : ByteArray} {O : List (List UInt8)} {f k : Nat} (h : LnAt s O f k) (hk : ¬ k + 1 < s.size) : (f = s.size → linesO s.data.toList = some O) ∧ (f ≠ s.size → linesO s.data.toList = none) ∧ f ≤ s.size := by
  have hl : (s.data.toList.drop f).length = s.size - f := by rw [List.length_drop, hsize_list]
  have hfk := h.fk
  have hks := h.ks
  refine ⟨fun e => ?_, fun e => ?_, by omega⟩
  · rw [h.eq, List.drop_of_length_le (by rw [hsize_list]; omega), linesO_nil]
    simp
  · have h0 : ¬ s.data.toList.drop f = [] := fun x => by have := congrArg List.length x; rw [hl] at this; simp at this; omega
    have hc := crAt_end _ (k - f) h.at' (by omega)
    rw [h.eq, linesO_bad h0 (by omega)]
    rfl
theorem OwnS.shape {w : World} {base : Nat} {v : Value} {l : List ByteArray} (h : OwnS w base v l) : ∃ a c, v = .slice a l.length c ∧ ∀ (k : Nat) x, l[k]? = some x → ∃ g, a = some ⟨g, 0, none⟩ ∧ w.cell? ⟨g, k, none⟩ = some (.string x) := by
  have h0 := h
  obtain ⟨_, h1 | ⟨g, c, cur, rfl, _⟩⟩ := h
  · have e : l = [] := List.eq_nil_of_length_eq_zero h1.2
    exact ⟨none, 0, by rw [h1.1, e]; rfl, fun k x hx => by rw [e] at hx; simp at hx⟩
  · refine ⟨_, c, rfl, fun k x hx => ⟨g, rfl, ?_⟩⟩
    have hk := (List.getElem?_eq_some_iff.1 hx).1
    have := World.ownsRow.cellAt h0 k (by omega)
    rw [this]
    simp [textsW, hx]
theorem ownS_made0 (w : World) (base : Nat) (hb : base ≤ w.heap.size) : OwnS (w.alloc (.cells #[] 9)) base (.slice (some ⟨w.heap.size, 0, none⟩) 0 0) [] := World.ownsRow_made w #[] 0 hb (by unfold maxLen; omega) rfl
def LinesRes (s : ByteArray) (base : Nat) (e : Ending) (w : World) : Prop := ∃ v O ok, e = .returned (.tuple #[v, .bool ok]) ∧ OwnS w base v (O.map hmk) ∧ O.length ≤ 6000 ∧ (ok = true → linesO s.data.toList = some O) ∧ (ok = false → linesO s.data.toList = none)
theorem LinesRes.mk {s : ByteArray} {base : Nat} {w : World} {v : Value} {O : List (List UInt8)} {ok : Bool} (ho : OwnS w base v (O.map hmk)) (hl : O.length ≤ 6000) (h1 : ok = true → linesO s.data.toList = some O) (h2 : ok = false → linesO s.data.toList = none) : LinesRes s base (.returned (.tuple #[v, .bool ok])) w := ⟨v, O, ok, rfl, ho, hl, h1, h2⟩
end Go.Proofs.YtolkgnnjocmkdaaGreatDoor
/-
  What the model's l1Cut answers.
-/
namespace Go.Proofs.YtolkgnnjocmkdaaGreatDoor
open Go.ChangeShapes Go.WideShapes Go.ChangeAt Go.RowKit
theorem kdrop (s : ByteArray) (k : Nat) (h : k < s.size) : s.data.toList.drop k = s[k] :: s.data.toList.drop (k + 1) := by
  rw [List.drop_eq_getElem_cons (by simpa using h)]; rfl
theorem kcur (s : ByteArray) (f k : Nat) (hf : f ≤ k) (hk : k < s.size) : (s.data.toList.drop f).take (k + 1 - f) = (s.data.toList.drop f).take (k - f) ++ [s[k]] := by
  have hz := hsize_list s
  rw [show k + 1 - f = (k - f) + 1 from by omega, List.take_add_one, List.getElem?_drop, show f + (k - f) = k from by omega, List.getElem?_eq_getElem (by omega)]
  rfl
/-- O pieces are cut, the next one began at f, k is looked at. -/
structure CtAt (s : ByteArray) (c : UInt8) (O : List (List UInt8)) (f k : Nat) : Prop where
  fk : f ≤ k
  ks : k ≤ s.size
  ol : O.length ≤ k
  eq : cutG c [] s.data.toList = O ++ cutG c ((s.data.toList.drop f).take (k - f)) (s.data.toList.drop k)
theorem CtAt.start (s : ByteArray) (c : UInt8) : CtAt s c [] 0 0 := ⟨Nat.le_refl _, Nat.zero_le _, Nat.le_refl _, by simp⟩
theorem CtAt.hit {s : ByteArray} {c : UInt8} {O : List (List UInt8)} {f k : Nat} (h : CtAt s c O f k) (hk : k < s.size) (hc : s[k] = c) : CtAt s c (O ++ [(s.data.toList.drop f).take (k - f)]) (k + 1) (k + 1) :=
  ⟨Nat.le_refl _, by omega, by simp; exact h.ol, by rw [h.eq, kdrop s k hk, hc, cutG_at]; simp⟩
theorem CtAt.on {s : ByteArray} {c : UInt8} {O : List (List UInt8)} {f k : Nat} (h : CtAt s c O f k) (hk : k < s.size) (hc : ¬ s[k] = c) : CtAt s c O f (k + 1) :=
  ⟨by have := h.fk; omega, by omega, by have := h.ol; omega, by rw [h.eq, kdrop s k hk, cutG_on _ _ hc, kcur s f k h.fk hk]⟩
theorem CtAt.last {s : ByteArray} {c : UInt8} {O : List (List UInt8)} {f : Nat} (h : CtAt s c O f s.size) : cutG c [] s.data.toList = O ++ [(s.data.toList.drop f).take (s.size - f)] := by
  rw [h.eq, List.drop_of_length_le (i := s.size) (by rw [hsize_list]; omega)]
  rfl
def CutRes (ps : List (List UInt8)) (base : Nat) (e : Ending) (w : World) : Prop := ∃ v, e = .returned v ∧ OwnS w base v (ps.map hmk)
set_option maxRecDepth 100000 in
set_option maxHeartbeats 8000000 in
theorem l1Cut_any (s : ByteArray) (c : UInt8) (w : World) (hs : s.size ≤ 6000) :
    Calls Tryz.prog 226 #[.string s, .int .u8 (c.toNat : Int)] w fun e w' => CutRes (cutG c [] s.data.toList) w.heap.size e w' ∧ Below w.heap.size w w' := by
  go_enter Tryz.func226, Tryz.ntmps226
  go_wp2_with fail
  go_loopw [5, 6, 7] (fun v fr i wr => ∃ (O : List (List UInt8)) (f k : Nat), fr = .int .i64 (f : Int) ∧ i = .int .i64 (k : Int) ∧ (CtAt s c O f k ∨ (k = s.size + 1 ∧ cutG c [] s.data.toList = O)) ∧ OwnS wr w.heap.size v (O.map hmk) ∧ Below w.heap.size w wr) (fun _ _ i _ => s.size + 1 - (intOf i).toNat)
  case atStart => exact ⟨[], 0, 0, rfl, rfl, .inl (CtAt.start s c), ownS_made0 w w.heap.size (Nat.le_refl _), (Below.refl _ _).alloc (Nat.le_refl _) _⟩
  case round =>
    obtain ⟨O, f, k, rfl, rfl, hL, ho, hb⟩ := hrel
    have HO : Hid (OwnS wr w.heap.size u5 (O.map hmk)) := ho
    have hzb := hb.size
    clear ho
    rcases hL with hL | ⟨hk, hL⟩
    · have HL : Hid (CtAt s c O f k) := hL
      have hfk := hL.fk
      have hks := hL.ks
      have hol := hL.ol
      clear hL
      have g0 : (k : Int) ≤ s.size := by omega
      have gf0 : (0 : Int) ≤ f := by omega
      have gfk : (f : Int) ≤ k := by omega
      have HE : Hid (s.extract f k = hmk ((s.data.toList.drop f).take (k - f))) := hext_mk s f k
      have HM : Hid ((O ++ [(s.data.toList.drop f).take (k - f)]).map hmk = O.map hmk ++ [s.extract f k]) := by show _ = _; rw [List.map_append, HE.out]; rfl
      have hml : (O.map hmk).length ≤ 6000 := by rw [List.length_map]; omega
      by_cases hlt : k < s.size
      · have de : ((k : Int) == (s.size : Int)) = false := by simp; omega
        by_cases hc : s[k] = c
        · have HN : Hid (CtAt s c (O ++ [(s.data.toList.drop f).take (k - f)]) (k + 1) (k + 1)) := HL.out.hit hlt hc
          have dc : ((s[k].toNat : Int) == (c.toNat : Int)) = true := by rw [hc]; simp
          clear HL hc HE
          generalize O.map hmk = OM at *
          go_wp2_with (at_builtin; refine wpList_append_str _ rfl (.tmp 26) (.tmp 31) rfl w.heap.size _ OM (s.extract f k) rfl rfl HO.out (by omega) hzb ?_; intro v4 w4 HO4 hb4 hz4)
          go_roundw
          case rel => exact ⟨_, k + 1, k + 1, by go_num, by go_num, .inl HN.out, by rw [HM.out]; exact HO4, hb.trans hb4⟩
          case measure => simp [intOf]; omega
        · have HN : Hid (CtAt s c O f (k + 1)) := HL.out.on hlt hc
          have dc : ((s[k].toNat : Int) == (c.toNat : Int)) = false := by
            rw [beq_eq_false_iff_ne]
            intro e
            exact hc (UInt8.toNat_inj.1 (by omega))
          clear HL hc HE HM
          go_wp2_with fail
          go_roundw
          case rel => exact ⟨O, f, k + 1, rfl, by go_num, .inl HN.out, HO.out, hb⟩
          case measure => simp [intOf]; omega
      · have ek : k = s.size := by omega
        subst ek
        have HN : Hid (cutG c [] s.data.toList = O ++ [(s.data.toList.drop f).take (s.size - f)]) := HL.out.last
        have de : ((s.size : Int) == (s.size : Int)) = true := by simp
        clear HL HE
        generalize O.map hmk = OM at *
        go_wp2_with (at_builtin; refine wpList_append_str _ rfl (.tmp 26) (.tmp 31) rfl w.heap.size _ OM (s.extract f s.size) rfl rfl HO.out (by omega) hzb ?_; intro v4 w4 HO4 hb4 hz4)
        go_roundw
        case rel => exact ⟨_, s.size + 1, s.size + 1, by go_num, by go_num, .inr ⟨rfl, HN.out⟩, by rw [HM.out]; exact HO4, hb.trans hb4⟩
        case measure => simp [intOf]
    · have g0 : ¬ (k : Int) ≤ s.size := by omega
      have HL : Hid (cutG c [] s.data.toList = O) := hL
      clear hL
      go_wp2_with fail
      go_ret
      exact ⟨⟨_, rfl, by rw [HL.out]; exact HO.out⟩, hb⟩
end Go.Proofs.YtolkgnnjocmkdaaGreatDoor
/-
  What the model's l5First and l5Words answer.
-/
namespace Go.Proofs.YtolkgnnjocmkdaaGreatDoor
open Go.ChangeShapes Go.WideShapes Go.ChangeAt Go.RowKit Go.Sort
def firstMV (l : List UInt8) : Value := match firstO l with
  | some x => .tuple #[.string (hmk x.1), .string (hmk x.2), .bool true]
  | none => .tuple #[.string ⟨#[]⟩, .string ⟨#[]⟩, .bool false]
theorem firstMV_some {l a b : List UInt8} (h : firstO l = some (a, b)) : firstMV l = .tuple #[.string (hmk a), .string (hmk b), .bool true] := by rw [firstMV, h]
theorem firstMV_none {l : List UInt8} (h : firstO l = none) : firstMV l = .tuple #[.string ⟨#[]⟩, .string ⟨#[]⟩, .bool false] := by rw [firstMV, h]
theorem lit_is {m : ByteArray} {l : List UInt8} (h : m.data.toList = l) : (m.toList == l) = true := by
  rw [Lib.toList_data, h]; simp
theorem lit_not {m : ByteArray} {l : List UInt8} (h : ¬ m.data.toList = l) : (m.toList == l) = false := by
  rw [Lib.toList_data, beq_eq_false_iff_ne]; exact h
theorem suffix4 (r : ByteArray) (j : Nat) (hj : r.size = j + 4) : ([13, 10, 13, 10] : List UInt8).isSuffixOf r.data.toList = decide ((r.extract j r.size).data.toList = [13, 10, 13, 10]) := by
  have hd : (r.extract j r.size).data.toList = r.data.toList.drop j := by
    rw [hext_mk, hmk_list]
    exact List.take_of_length_le (by rw [List.length_drop, hsize_list]; omega)
  rw [hd, Bool.eq_iff_iff, List.isSuffixOf_iff_suffix, decide_eq_true_eq]
  have hl : r.data.toList.length = j + 4 := by rw [hsize_list]; exact hj
  constructor
  · rintro ⟨q, hq⟩
    have hql : q.length = j := by have := congrArg List.length hq; simp only [List.length_append, List.length_cons, List.length_nil] at this; omega
    rw [← hq, ← hql, List.drop_left]
  · intro h
    exact ⟨r.data.toList.take j, by rw [← h, List.take_append_drop]⟩
theorem okRest_short {r : List UInt8} (h1 : ¬ r = [13, 10]) (h2 : r.length < 4) : okRest r = false := by
  simp only [okRest, Bool.or_eq_false_iff, decide_eq_false_iff_not]
  refine ⟨h1, ?_⟩
  cases h : ([13, 10, 13, 10] : List UInt8).isSuffixOf r
  · rfl
  · have := (List.isSuffixOf_iff_suffix.1 h).length_le
    simp only [List.length_cons, List.length_nil] at this; omega
theorem okRest_is {r : List UInt8} (h : r = [13, 10]) : okRest r = true := by subst h; rfl
theorem okRest_by {r : List UInt8} (h : ¬ r = [13, 10]) : okRest r = ([13, 10, 13, 10] : List UInt8).isSuffixOf r := by
  rw [okRest, decide_eq_false h, Bool.false_or]
theorem kext2 (p : ByteArray) (k : Nat) : (p.extract k p.size).data.toList = p.data.toList.drop k := by
  rw [hext_mk, hmk_list]
  exact List.take_of_length_le (by rw [List.length_drop, hsize_list]; omega)
theorem kext0 (p : ByteArray) (k : Nat) : p.extract 0 k = hmk (p.data.toList.take k) := by
  rw [hext_mk]; simp
end Go.Proofs.YtolkgnnjocmkdaaGreatDoor
/-
  What the model's l4Read and ReadHeaders answer.
-/
namespace Go.Proofs.YtolkgnnjocmkdaaGreatDoor
open Go.ChangeShapes Go.WideShapes Go.ChangeAt Go.RowKit Go.Sort
theorem wpAny_seq3 {P : Program} {md : Region.Mode} {ops : Array Oper} {Q : Exit → Act → World → Prop} {k : Nat} {o1 o2 o3 : Oper} {listed : Array Bool} {a : Act} {w : World} (h1 : ops[k]? = some o1) (h2 : ops[k + 1]? = some o2) (h3 : ops[k + 2]? = some o3) (h4 : ops.size = k + 3)
    (hB : Region.seqB md ops 3 k listed = true) (h : wpList P ops Q [o1, o2, o3] a w) : wpAny P md ops Q 3 listed a w :=
  wpAny_of_seq [o1, o2, o3] k listed a w (fun j => by
    match j with
    | 0 => simpa using h1.symm
    | 1 => simpa using h2.symm
    | 2 => simpa using h3.symm
    | j + 3 => rw [Array.getElem?_eq_none (by omega)]; simp) hB h
def HReadRes (s : ByteArray) (base : Nat) (e : Ending) (w : World) : Prop := ∃ v, e = .returned (.tuple #[v, .int .i64 (readHC s)]) ∧ OwnH w base v (readHL s)
theorem HReadRes.mk {s : ByteArray} {base : Nat} {w : World} {v : Value} {c : Int} {L : List Hdr} (h : readHC s = c ∧ readHL s = L) (ho : OwnH w base v L) : HReadRes s base (.returned (.tuple #[v, .int .i64 c])) w := ⟨v, by rw [h.1], by rw [h.2]; exact ho⟩
theorem readT_of_none {l : List UInt8} (h : linesO l = none) : readT l = none := by unfold readT; rw [h]; rfl
theorem readT_of_some {l : List UInt8} {P : List (List UInt8)} (h : linesO l = some P) : readT l = readLs P := by unfold readT; rw [h]; rfl
theorem cl_get (p : List UInt8) (k : Nat) (h : k < (hmk p).size) : (hmk p)[k] = p[k]'(by rw [hmk_size] at h; exact h) := by
  rfl
theorem hext_take (p : List UInt8) (k : Nat) : (hmk p).extract 0 k = hmk (p.take k) := by
  rw [hext_mk, hmk_list]; simp
theorem hext_drop (p : List UInt8) (k : Nat) : (hmk p).extract k (hmk p).size = hmk (p.drop k) := by
  rw [hext_mk, hmk_list, hmk_size, List.take_of_length_le (by rw [List.length_drop]; exact Nat.le_refl _)]
end Go.Proofs.YtolkgnnjocmkdaaGreatDoor
/-
  What ReadHeaders and its model answer.
-/
namespace Go.Proofs.YtolkgnnjocmkdaaGreatDoor
open Go.ChangeShapes Go.WideShapes Go.ChangeAt Go.RowKit Go.Sort
/-- The library's own variable holds some number. -/
def MaxIs (w : World) : Prop := ∃ m, w.cell? ⟨6, 0, none⟩ = some (.int .i64 m)
theorem MaxIs.below {w w' : World} (h : MaxIs w) (hb : Below w.heap.size w w') : MaxIs w' := by
  obtain ⟨m, h⟩ := h
  exact ⟨m, hkeep hb h⟩
theorem below_drewN (w : World) (n : Nat) : Below w.heap.size w (w.drewN n) :=
  have h := Below.refl w.heap.size w
  ⟨h.os, h.tape, h.output, h.size, h.block⟩
theorem hcut_cr (l : List UInt8) (w : World) (hm : MaxIs w) (hl : l.length ≤ 6000) (h : crAt l < l.length) :
    Calls Tryz.prog 306 #[.string (hmk l), .string ⟨#[13, 10]⟩] w fun e w' => e = .returned (.tuple #[.string (hmk (l.take (crAt l))), .string (hmk (l.drop (crAt l + 2))), .bool true]) ∧ Below w.heap.size w w' := by
  obtain ⟨m, hm⟩ := hm
  have := Any.strings_Cut Tryz.laysM145.ton145 (hmk l) ⟨#[13, 10]⟩ m w (by rw [hmk_size]; omega) hm
  rw [hmk_list, show (⟨#[13, 10]⟩ : ByteArray).data.toList = [13, 10] from rfl, cut_cr h] at this
  exact this.mono fun e w' ⟨h1, n, h2⟩ => ⟨h1, h2 ▸ below_drewN w n⟩
theorem hcut_cl (l : List UInt8) (w : World) (hm : MaxIs w) (hl : l.length ≤ 6000) (h : clAt l < l.length) :
    Calls Tryz.prog 306 #[.string (hmk l), .string ⟨#[58]⟩] w fun e w' => e = .returned (.tuple #[.string (hmk (l.take (clAt l))), .string (hmk (l.drop (clAt l + 1))), .bool true]) ∧ Below w.heap.size w w' := by
  obtain ⟨m, hm⟩ := hm
  have := Any.strings_Cut Tryz.laysM145.ton145 (hmk l) ⟨#[58]⟩ m w (by rw [hmk_size]; omega) hm
  rw [hmk_list, show (⟨#[58]⟩ : ByteArray).data.toList = [58] from rfl, cut_cl h] at this
  exact this.mono fun e w' ⟨h1, n, h2⟩ => ⟨h1, h2 ▸ below_drewN w n⟩
theorem hcut_no (l : List UInt8) (w : World) (hm : MaxIs w) (hl : l.length ≤ 6000) (h : ¬ clAt l < l.length) :
    Calls Tryz.prog 306 #[.string (hmk l), .string ⟨#[58]⟩] w fun e w' => e = .returned (.tuple #[.string (hmk l), .string ⟨#[]⟩, .bool false]) ∧ Below w.heap.size w w' := by
  obtain ⟨m, hm⟩ := hm
  have := Any.strings_Cut Tryz.laysM145.ton145 (hmk l) ⟨#[58]⟩ m w (by rw [hmk_size]; omega) hm
  rw [hmk_list, show (⟨#[58]⟩ : ByteArray).data.toList = [58] from rfl, cut_cl_no h] at this
  exact this.mono fun e w' ⟨h1, n, h2⟩ => ⟨h1, h2 ▸ below_drewN w n⟩
theorem hmk_empty {l : List UInt8} (h : ¬ l = []) : (hmk l).toList.isEmpty = false := by
  rw [ByteArray.toList_eq, hmk_list]
  cases l with
  | nil => exact absurd rfl h
  | cons c r => rfl
theorem str_hmk (s : ByteArray) : s = hmk s.data.toList := by cases s; simp [hmk]
theorem linesO_found {l : List UInt8} (h0 : ¬ l = []) (h : (linesO l).isSome = true) : crAt l < l.length ∧ (linesO (l.drop (crAt l + 2))).isSome = true := by
  by_cases c : crAt l < l.length
  · refine ⟨c, ?_⟩
    rw [linesO_cut c, Option.isSome_map] at h
    exact h
  · rw [linesO_bad h0 c] at h; cases h
theorem readT_none_of {l : List UInt8} (h : (linesO l).isSome = false) : readT l = none := by
  cases c : linesO l with
  | none => exact readT_of_none c
  | some P => rw [c] at h; cases h
def strLen : Value → Nat
  | .string b => b.size
  | _ => 0
theorem trim_hmk (l : List UInt8) (h : l.length ≤ 6000) : (trimT (hmk l)).size ≤ 6000 := by
  have := trimT_size (hmk l)
  rw [hmk_size] at this
  omega
/-- The loop of ReadHeaders: what is read, and what is left. -/
structure ReadAt (s : ByteArray) (R : List Hdr) (rl : List UInt8) : Prop where
  eq : readT s.data.toList = (readT rl).map (R ++ ·)
  isS : (linesO rl).isSome = true
  len : R.length + rl.length ≤ 6000
theorem ReadAt.take {s : ByteArray} {R : List Hdr} {rl : List UInt8} (h : ReadAt s R rl) (h0 : ¬ rl = []) (hc : clAt (rl.take (crAt rl)) < (rl.take (crAt rl)).length) : ReadAt s (R ++ [lineOf (rl.take (crAt rl))]) (rl.drop (crAt rl + 2)) := by
  obtain ⟨h1, h2⟩ := linesO_found h0 h.isS
  have := crAt_room rl h1
  refine ⟨?_, h2, ?_⟩
  · rw [h.eq, readT_take h1 hc, Option.map_map]
    congr 1
    funext x
    simp
  · have hl := h.len
    simp only [List.length_append, List.length_cons, List.length_nil, List.length_drop]
    omega
theorem ReadAt.bad {s : ByteArray} {R : List Hdr} {rl : List UInt8} (h : ReadAt s R rl) (h0 : ¬ rl = []) (hc : ¬ clAt (rl.take (crAt rl)) < (rl.take (crAt rl)).length) : readT s.data.toList = none := by
  rw [h.eq, readT_bad (linesO_found h0 h.isS).1 hc]
  rfl
theorem ReadAt.done {s : ByteArray} {R : List Hdr} (h : ReadAt s R []) : readT s.data.toList = some R := by
  rw [h.eq, readT_nil]
  simp
theorem readH_none : readHC ⟨#[]⟩ = 0 ∧ readHL ⟨#[]⟩ = [] := readH_ok (L := []) (by decide) readT_nil rfl
end Go.Proofs.YtolkgnnjocmkdaaGreatDoor
/-
  What the model's SameHeaders and slices.Equal over head lines answer.
-/
namespace Go.Proofs.YtolkgnnjocmkdaaGreatDoor
open Go.ChangeShapes Go.WideShapes Go.ChangeAt Go.RowKit Go.Sort
def sameH (x y : Hdr) : Bool := (x.name.toList == y.name.toList) && (x.value.toList == y.value.toList)
def sameHs : List Hdr → List Hdr → Bool
  | [], [] => true
  | x :: l, y :: m => sameH x y && sameHs l m
  | _, _ => false
theorem guardHeader (op : BinOp) (a b : Operand) (x y : Array Value) (w : World) : (eqGuard op 110 a b (.agg x) (.agg y)).run Tryz.prog w = .ok () w := run_eqGuard_agg w op 110 a b x y (by kernel_rfl)
theorem neqHeader (x y : Hdr) (w : World) : (binOp .neq 110 (.agg #[.string x.name, .string x.value]) (.agg #[.string y.name, .string y.value])).run Tryz.prog w = .ok (.bool (!sameH x y)) w := by
  have u9 := Tryz.underlying9
  have a9 := Tryz.isAgg9
  have z9 := Tryz.sizeOf9
  have hS : Tryz.prog.underlying 110 = some (.struct (Tryz.prog.fieldsOf 110)) := by kernel_rfl
  have hp : Tryz.prog.stoodInHeld 110 = false := by kernel_rfl
  obtain ⟨n1, v1⟩ := x
  obtain ⟨n2, v2⟩ := y
  simp only [sameH]
  rw [run_neq_struct, show (10000 : Nat) = 9999 + 1 from rfl, run_equalIn_agg w 9999 110 _ _ hS hp]
  simp only [Program.fieldsOf, Tryz.underlying110]
  go_simp
  by_cases e1 : n1.toList = n2.toList <;> by_cases e3 : v1.toList = v2.toList <;> simp [e1, e3]
end Go.Proofs.YtolkgnnjocmkdaaGreatDoor
/-
  What the model's SameHeaders and slices.Equal over head lines answer, and SameHeaders.
-/
namespace Go.Proofs.YtolkgnnjocmkdaaGreatDoor
open Go.ChangeShapes Go.WideShapes Go.ChangeAt Go.RowKit Go.Sort
theorem sameHs_lens : ∀ (l m : List Hdr), l.length ≠ m.length → sameHs l m = false
  | [], [], h => absurd rfl h
  | [], _ :: _, _ => rfl
  | _ :: _, [], _ => rfl
  | x :: l, y :: m, h => by
    rw [sameHs, sameHs_lens l m (by simpa using h), Bool.and_false]
theorem sameHs_drop {l m : List Hdr} {k : Nat} {x y : Hdr} (hx : l[k]? = some x) (hy : m[k]? = some y) : sameHs (l.drop k) (m.drop k) = (sameH x y && sameHs (l.drop (k + 1)) (m.drop (k + 1))) := by
  rw [drop_hdr l k x hx, drop_hdr m k y hy, sameHs]
end Go.Proofs.YtolkgnnjocmkdaaGreatDoor
/-
  What SameResponses and its model answer.
-/
namespace Go.Proofs.YtolkgnnjocmkdaaGreatDoor
open Go.ChangeShapes Go.WideShapes Go.ChangeAt Go.RowKit
theorem bytes_text {w : World} {a : Option Addr} {l : List UInt8} (c : Nat) (h : BIn w a l) : (convert 25 9 (.slice a l.length c)).run Tryz.prog w = .ok (.string ⟨l.toArray⟩) w := by
  cases a with
  | none =>
    rcases h with h | ⟨b, off, e, _⟩
    · subst h
      exact run_convert_bytes_nil w 25 5 Tryz.underlying25 Tryz.underlying5 0 c 9 Tryz.underlying9
    · cases e
  | some x =>
    refine run_convert_bytes_back w 25 9 5 x c l Tryz.underlying25 Tryz.underlying5 Tryz.underlying9 ?_
    intro j hj
    rcases h with h | ⟨b, off, e, hat⟩
    · subst h; simp at hj
    · obtain rfl := Option.some.inj e
      have hadd : (⟨b, off, none⟩ : Addr).add j = ⟨b, off + j, none⟩ := by unfold Addr.add; split <;> simp_all
      rw [hadd]
      exact hat j l[j] (List.getElem?_eq_getElem hj)
def sameP (s : Int) (l : List Hdr) (bl : List UInt8) (s' : Int) (l' : List Hdr) (bl' : List UInt8) : Bool := (s == s') && sameHs l l' && ((⟨bl.toArray⟩ : ByteArray).toList == (⟨bl'.toArray⟩ : ByteArray).toList)
end Go.Proofs.YtolkgnnjocmkdaaGreatDoor
/-
  What PackRequest and its model answer.
-/
namespace Go.Proofs.YtolkgnnjocmkdaaGreatDoor
open Go.ChangeShapes Go.WideShapes Go.ChangeAt Go.RowKit
theorem two_put {w : World} {B : Nat} {u0 u1 v0 v1 : Value} (h : Two w B u0 u1) : Two ((w.setCell ⟨B, 0, none⟩ v0).setCell ⟨B, 1, none⟩ v1) B v0 v1 :=
  ⟨(two_set h.c0 h.c1).1, (two_set h.c0 h.c1).2, fun o => by rw [World.frozen?_setCell, World.frozen?_setCell]; exact h.fr o, by simpa using h.lt⟩
theorem BMine.put {w : World} {B g : Nat} {l : List UInt8} (h : BMine w g l) (v0 v1 : Value) (hne : B ≠ g) : BMine ((w.setCell ⟨B, 0, none⟩ v0).setCell ⟨B, 1, none⟩ v1) g l := by
  have ne : ∀ i o : Nat, (⟨B, i, none⟩ : Addr) ≠ ⟨g, o, none⟩ := fun i o e => hne (congrArg Addr.block e)
  refine ⟨fun i c hc => ?_, fun o ho => by rw [World.frozen?_setCell, World.frozen?_setCell]; exact h.free o ho, by simpa using h.lt⟩
  rw [World.cell?_setCell_other _ _ _ _ (ne _ _), World.cell?_setCell_other _ _ _ _ (ne _ _)]
  exact h.at0 i c hc
theorem method_size {m h p : ByteArray} (c : lineS m h p = true) : m.size ≤ 4 ∧ h.size ≤ 60 ∧ p.size ≤ 100 := by
  obtain ⟨h1, h2, h3⟩ := lineS_true c
  refine ⟨?_, (hostS_true h2).2.1, ?_⟩
  · simp only [methS, Bool.or_eq_true, decide_eq_true_eq] at h1
    rcases h1 with rfl | rfl <;> decide
  · simp only [pathS, Bool.and_eq_true, decide_eq_true_eq] at h3
    exact h3.1.2
def reqText (m h p : ByteArray) (t : ByteArray) : ByteArray := m ++ ⟨#[32]⟩ ++ p ++ ⟨#[32, 72, 84, 84, 80, 47, 49, 46, 49, 13, 10, 72, 111, 115, 116, 58, 32]⟩ ++ h ++ ⟨#[13, 10]⟩ ++ t ++ ⟨#[13, 10]⟩
theorem reqText_list (m h p : ByteArray) (l : List Hdr) : (reqText m h p ⟨(packL l).toArray⟩).data.toList = reqL m h p l := by
  simp only [reqText, reqL, packL_cons, lineL, hostT, verL, happ_list]
  simp
end Go.Proofs.YtolkgnnjocmkdaaGreatDoor
/-
  What the model's l1Cut answers, at longer texts.
-/
namespace Go.Proofs.YtolkgnnjocmkdaaGreatDoor
open Go.ChangeShapes Go.WideShapes Go.ChangeAt Go.RowKit
set_option maxRecDepth 100000 in
set_option maxHeartbeats 8000000 in
theorem l1CutW_any (s : ByteArray) (c : UInt8) (w : World) (hs : s.size ≤ 10100) :
    Calls Tryz.prog 226 #[.string s, .int .u8 (c.toNat : Int)] w fun e w' => CutRes (cutG c [] s.data.toList) w.heap.size e w' ∧ Below w.heap.size w w' := by
  go_enter Tryz.func226, Tryz.ntmps226
  go_wp2_with fail
  go_loopw [5, 6, 7] (fun v fr i wr => ∃ (O : List (List UInt8)) (f k : Nat), fr = .int .i64 (f : Int) ∧ i = .int .i64 (k : Int) ∧ (CtAt s c O f k ∨ (k = s.size + 1 ∧ cutG c [] s.data.toList = O)) ∧ OwnS wr w.heap.size v (O.map hmk) ∧ Below w.heap.size w wr) (fun _ _ i _ => s.size + 1 - (intOf i).toNat)
  case atStart => exact ⟨[], 0, 0, rfl, rfl, .inl (CtAt.start s c), ownS_made0 w w.heap.size (Nat.le_refl _), (Below.refl _ _).alloc (Nat.le_refl _) _⟩
  case round =>
    obtain ⟨O, f, k, rfl, rfl, hL, ho, hb⟩ := hrel
    have HO : Hid (OwnS wr w.heap.size u5 (O.map hmk)) := ho
    have hzb := hb.size
    clear ho
    rcases hL with hL | ⟨hk, hL⟩
    · have HL : Hid (CtAt s c O f k) := hL
      have hfk := hL.fk
      have hks := hL.ks
      have hol := hL.ol
      clear hL
      have g0 : (k : Int) ≤ s.size := by omega
      have gf0 : (0 : Int) ≤ f := by omega
      have gfk : (f : Int) ≤ k := by omega
      have HE : Hid (s.extract f k = hmk ((s.data.toList.drop f).take (k - f))) := hext_mk s f k
      have HM : Hid ((O ++ [(s.data.toList.drop f).take (k - f)]).map hmk = O.map hmk ++ [s.extract f k]) := by show _ = _; rw [List.map_append, HE.out]; rfl
      have hml : (O.map hmk).length ≤ 10100 := by rw [List.length_map]; omega
      by_cases hlt : k < s.size
      · have de : ((k : Int) == (s.size : Int)) = false := by simp; omega
        by_cases hc : s[k] = c
        · have HN : Hid (CtAt s c (O ++ [(s.data.toList.drop f).take (k - f)]) (k + 1) (k + 1)) := HL.out.hit hlt hc
          have dc : ((s[k].toNat : Int) == (c.toNat : Int)) = true := by rw [hc]; simp
          clear HL hc HE
          generalize O.map hmk = OM at *
          go_wp2_with (at_builtin; refine wpList_append_str _ rfl (.tmp 26) (.tmp 31) rfl w.heap.size _ OM (s.extract f k) rfl rfl HO.out (by omega) hzb ?_; intro v4 w4 HO4 hb4 hz4)
          go_roundw
          case rel => exact ⟨_, k + 1, k + 1, by go_num, by go_num, .inl HN.out, by rw [HM.out]; exact HO4, hb.trans hb4⟩
          case measure => simp [intOf]; omega
        · have HN : Hid (CtAt s c O f (k + 1)) := HL.out.on hlt hc
          have dc : ((s[k].toNat : Int) == (c.toNat : Int)) = false := by
            rw [beq_eq_false_iff_ne]
            intro e
            exact hc (UInt8.toNat_inj.1 (by omega))
          clear HL hc HE HM
          go_wp2_with fail
          go_roundw
          case rel => exact ⟨O, f, k + 1, rfl, by go_num, .inl HN.out, HO.out, hb⟩
          case measure => simp [intOf]; omega
      · have ek : k = s.size := by omega
        subst ek
        have HN : Hid (cutG c [] s.data.toList = O ++ [(s.data.toList.drop f).take (s.size - f)]) := HL.out.last
        have de : ((s.size : Int) == (s.size : Int)) = true := by simp
        clear HL HE
        generalize O.map hmk = OM at *
        go_wp2_with (at_builtin; refine wpList_append_str _ rfl (.tmp 26) (.tmp 31) rfl w.heap.size _ OM (s.extract f s.size) rfl rfl HO.out (by omega) hzb ?_; intro v4 w4 HO4 hb4 hz4)
        go_roundw
        case rel => exact ⟨_, s.size + 1, s.size + 1, by go_num, by go_num, .inr ⟨rfl, HN.out⟩, by rw [HM.out]; exact HO4, hb.trans hb4⟩
        case measure => simp [intOf]
    · have g0 : ¬ (k : Int) ≤ s.size := by omega
      have HL : Hid (cutG c [] s.data.toList = O) := hL
      clear hL
      go_wp2_with fail
      go_ret
      exact ⟨⟨_, rfl, by rw [HL.out]; exact HO.out⟩, hb⟩
end Go.Proofs.YtolkgnnjocmkdaaGreatDoor
/-
  What the model's l5Sort answers.
-/
namespace Go.Proofs.YtolkgnnjocmkdaaGreatDoor
open Go.ChangeShapes Go.WideShapes Go.ChangeAt Go.RowKit
/-- append of many texts, that lie elsewhere, onto the call's own. -/
theorem wpList_append_strs {ops : Array Oper} {rest : List Oper} {o : Oper} {a : Act} {Q : Exit → Act → World → Prop} (w : World) (hgd : o.guard = none) (s x : Operand)
    (ho : o.op = .call { callee := .builtin .append, args := #[s, x], argTypes := #[28, 28] }) (base : Nat) (v : Value) (l : List ByteArray) (m : List ByteArray) (n : Nat) (hn : m.length = n) (ad : Addr) (c : Nat)
    (hs : a.eval s = v) (hx : a.eval x = .slice (some ad) n c) (hown : OwnS w base v l) (hm : ∀ (j : Nat) z, m[j]? = some z → w.cell? (ad.add j) = some (.string z)) (hl : l.length + m.length ≤ 1000000) (hbase : base ≤ w.heap.size)
    (h : ∀ v' w', OwnS w' base v' (l ++ m) → Below base w w' → w.heap.size ≤ w'.heap.size → w.grownBy w' v.ownBlock → wpList Tryz.prog ops Q rest (a.put o.dst v') w') :
    wpList Tryz.prog ops Q (o :: rest) a w := by
  subst hn
  obtain ⟨i0, hi, hz0, hz1, hz2⟩ := info_parts infoStr
  refine wpList_append_own _ hgd s x 28 ho base 9 i0 (.string ⟨#[]⟩) 1 16 Tryz.underlying28 hi hz0 hz1 hz2 rfl (by decide) v l.length (textsW l) hs hown ad m.length c (textsW m) hx (by simp [textsW]) ?_ ?_ ?_ ?_ hbase ?_
  · intro j u hj
    simp only [textsW, List.getElem?_map, Option.map_eq_some_iff] at hj
    obtain ⟨z, hz, rfl⟩ := hj
    exact hm j z hz
  · intro u hu
    simp only [textsW, List.mem_map] at hu
    obtain ⟨z, _, rfl⟩ := hu
    rfl
  · unfold maxLen; omega
  · omega
  · intro v' w' h1 h2 h3
    have e : textsW (l ++ m) = textsW l ++ textsW m := by simp [textsW]
    refine h v' w' (by unfold OwnS; rw [e, List.length_append]; exact h1) ?_ ?_ h2
    · exact (Below.refl base w).grown h2 hbase (fun q hq => own_geS hown q hq)
    · exact ((Below.refl 0 w).grown h2 (Nat.zero_le _) (fun q _ => Nat.zero_le _)).size
theorem leq_text (a b : ByteArray) : (Op.bytesLess a.toList b.toList || a.toList == b.toList) = decide (a.data.toList ≤ b.data.toList) := by
  rw [bytesLess_eq, Lib.toList_data, Lib.toList_data]
  generalize a.data.toList = x
  generalize b.data.toList = y
  by_cases h1 : x < y
  · have : x ≤ y := List.le_of_lt h1
    simp [h1, this]
  · by_cases h2 : x = y
    · subst h2
      simp
    · have : ¬ x ≤ y := fun h => h2 (List.le_antisymm h (List.not_lt.1 h1))
      simp [h1, h2, this]
/-- putS, seen from the place where it is put. -/
theorem putS_at (x : List UInt8) : ∀ (l : List (List UInt8)) (j : Nat), j ≤ l.length → (∀ (i : Nat) y, i < j → l[i]? = some y → y ≤ x) → (∀ y, l[j]? = some y → ¬ y ≤ x) → putS x l = l.take j ++ x :: l.drop j
  | [], j, hj, _, _ => by
    have : j = 0 := by simpa using hj
    subst this; rfl
  | y :: l, 0, _, _, h2 => by
    rw [putS, if_neg (h2 y rfl)]; rfl
  | y :: l, j + 1, hj, h1, h2 => by
    rw [putS, if_pos (h1 0 y (by omega) rfl), putS_at x l j (by simpa using hj) (fun i z hi hz => h1 (i + 1) z (by omega) (by simpa using hz)) (fun z hz => h2 z (by simpa using hz))]
    rfl
theorem hmk_map_take (O : List (List UInt8)) (j : Nat) : (O.take j).map hmk = (O.map hmk).take j := by rw [List.map_take]
theorem hmk_map_drop (O : List (List UInt8)) (j : Nat) : (O.drop j).map hmk = (O.map hmk).drop j := by rw [List.map_drop]
theorem putS_len (x : List UInt8) (l : List (List UInt8)) : (putS x l).length = l.length + 1 := (putS_perm x l).length_eq
theorem sortS_len (l : List (List UInt8)) : (sortS l).length = l.length := (sortS_perm l).length_eq
theorem sorted_snoc (l : List (List UInt8)) (k : Nat) (x : List UInt8) (h : l[k]? = some x) : sortS (l.take (k + 1)) = putS x (sortS (l.take k)) := by
  rw [List.take_add_one, h]
  exact sortS_snoc _ _
theorem OwnS.cap {w : World} {base g n c : Nat} {l : List ByteArray} (h : OwnS w base (.slice (some ⟨g, 0, none⟩) n c) l) : n ≤ c := by
  obtain ⟨_, h1 | ⟨g', c', cur, e, _, _, hc, _⟩⟩ := h
  · exact absurd h1.1 (by simp)
  · simp only [Value.slice.injEq, Option.some.injEq, Addr.mk.injEq, and_true] at e
    obtain ⟨_, rfl, rfl⟩ := e
    exact hc
theorem OwnS.isS {w : World} {base : Nat} {v : Value} {l : List ByteArray} (h : OwnS w base v l) (hl : l ≠ []) : ∃ g c, v = .slice (some ⟨g, 0, none⟩) l.length c := by
  obtain ⟨_, h1 | ⟨g, c, cur, e, _⟩⟩ := h
  · exact absurd (List.eq_nil_of_length_eq_zero h1.2) hl
  · exact ⟨g, c, e⟩
theorem OwnS.cellAt {w : World} {base g n c : Nat} {l : List ByteArray} (h : OwnS w base (.slice (some ⟨g, 0, none⟩) n c) l) (k : Nat) (x : ByteArray) (hk : l[k]? = some x) : w.cell? ⟨g, k, none⟩ = some (.string x) := by
  obtain ⟨a, c', e, ha⟩ := h.shape
  obtain ⟨g', hg, hc⟩ := ha k x hk
  rw [hg] at e
  simp only [Value.slice.injEq, Option.some.injEq, Addr.mk.injEq, and_true] at e
  rw [e.1]; exact hc
end Go.Proofs.YtolkgnnjocmkdaaGreatDoor
/-
  What PackRequest answers.
-/
namespace Go.Proofs.YtolkgnnjocmkdaaGreatDoor
open Go.ChangeShapes Go.WideShapes Go.ChangeAt Go.RowKit
theorem hdrsW_cells {w : World} {b off : Nat} {l : List Hdr} (h : HeadsAt w b off l) : ∀ j u, (hdrsW l)[j]? = some u → w.cell? ((⟨b, off, none⟩ : Addr).add j) = some u := by
  intro j u hj
  have hadd : (⟨b, off, none⟩ : Addr).add j = ⟨b, off + j, none⟩ := by unfold Addr.add; split <;> simp_all
  rw [hadd]
  have hlt : j < (hdrsW l).length := (List.getElem?_eq_some_iff.1 hj).1
  rw [hdrsW_len] at hlt
  obtain ⟨r, hr⟩ : ∃ r, l[j / 2]? = some r := ⟨l[j / 2]'(by omega), List.getElem?_eq_getElem _⟩
  obtain ⟨e0, e1⟩ := hdrsW_at l (j / 2) r hr
  obtain ⟨c0, c1⟩ := h (j / 2) r hr
  rcases Nat.mod_two_eq_zero_or_one j with hm | hm
  · have ej : j / 2 * 2 = j := by omega
    rw [ej] at e0 c0
    rw [e0] at hj
    rw [← hj]; exact c0
  · have ej : j / 2 * 2 + 1 = j := by omega
    rw [ej] at e1
    rw [Nat.add_assoc, ej] at c1
    rw [e1] at hj
    rw [← hj]; exact c1
theorem Four.keepB {W W' : World} {B base : Nat} {v0 v1 v2 v3 : Value} (h : Four W B v0 v1 v2 v3) (hB : B < base) (hb : Below base W W') : Four W' B v0 v1 v2 v3 :=
  ⟨by rw [hb.cell (p := ⟨B, 0, none⟩) hB]; exact h.c0, by rw [hb.cell (p := ⟨B, 1, none⟩) hB]; exact h.c1, by rw [hb.cell (p := ⟨B, 2, none⟩) hB]; exact h.c2, by rw [hb.cell (p := ⟨B, 3, none⟩) hB]; exact h.c3,
    fun o => by rw [hb.frozen (p := ⟨B, o, none⟩) hB]; exact h.fr o, Nat.lt_of_lt_of_le h.lt hb.size⟩
theorem Two.keepB {W W' : World} {B base : Nat} {v0 v1 : Value} (h : Two W B v0 v1) (hB : B < base) (hb : Below base W W') : Two W' B v0 v1 :=
  ⟨by rw [hb.cell (p := ⟨B, 0, none⟩) hB]; exact h.c0, by rw [hb.cell (p := ⟨B, 1, none⟩) hB]; exact h.c1, fun o => by rw [hb.frozen (p := ⟨B, o, none⟩) hB]; exact h.fr o, Nat.lt_of_lt_of_le h.lt hb.size⟩
theorem hdrsW_oneP (l : List Hdr) : ∀ u ∈ hdrsW l, u.oneCell' = true := by
  intro u hu
  simp only [hdrsW, List.mem_flatMap] at hu
  obtain ⟨r, _, hr⟩ := hu
  simp only [hdrW, List.mem_cons, List.not_mem_nil, or_false] at hr
  rcases hr with rfl | rfl <;> rfl
theorem wpList_append_hdrs {ops : Array Oper} {rest : List Oper} {o : Oper} {a : Act} {Q : Exit → Act → World → Prop} (w : World) (hgd : o.guard = none) (s x : Operand)
    (ho : o.op = .call { callee := .builtin .append, args := #[s, x], argTypes := #[33, 33] }) (base : Nat) (v : Value) (l0 : List Hdr) (b off cap : Nat) (l : List Hdr)
    (hs : a.eval s = v) (hx : a.eval x = .slice (some ⟨b, off, none⟩) l.length cap) (hown : OwnH w base v l0) (hat : HeadsAt w b off l) (hl : l0.length + l.length ≤ 1000000) (hbase : base ≤ w.heap.size)
    (h : ∀ v' w', OwnH w' base v' (l0 ++ l) → Below base w w' → w.heap.size ≤ w'.heap.size → wpList Tryz.prog ops Q rest (a.put o.dst v') w') :
    wpList Tryz.prog ops Q (o :: rest) a w := by
  obtain ⟨i0, hi, hz0, hz1, hz2⟩ := info_parts infoHeader
  refine wpList_append_own _ hgd s x 33 ho base 110 i0 (.agg #[.string ⟨#[]⟩, .string ⟨#[]⟩]) 2 32 Tryz.underlying33 hi hz0 hz1 hz2 rfl (by decide) v l0.length (hdrsW l0) hs hown ⟨b, off, none⟩ l.length cap (hdrsW l) hx (hdrsW_len l) (hdrsW_cells hat) (hdrsW_oneP l) ?_ ?_ hbase ?_
  · unfold maxLen; omega
  · omega
  · intro v' w' h1 h2 h3
    have e : hdrsW (l0 ++ l) = hdrsW l0 ++ hdrsW l := by simp [hdrsW]
    refine h v' w' (by unfold OwnH; rw [e, List.length_append]; exact h1) ?_ ?_
    · exact (Below.refl base w).grown h2 hbase (fun q hq => own_geH hown q hq)
    · exact ((Below.refl 0 w).grown h2 (Nat.zero_le _) (fun q _ => Nat.zero_le _)).size
theorem OwnH.one (w : World) (n z : ByteArray) : OwnH (w.alloc (.cells #[.string n, .string z] 110)) w.heap.size (.slice (some ⟨w.heap.size, 0, none⟩) 1 1) [⟨n, z⟩] :=
  ⟨rfl, .inr ⟨w.heap.size, 1, #[.string n, .string z], rfl, Nat.le_refl _, heap_alloc_new _ _, by simp, by unfold maxLen; omega, by simp, by simp [hdrsW, hdrW]⟩⟩
end Go.Proofs.YtolkgnnjocmkdaaGreatDoor
/-
  What the model's l5Key answers.
-/
namespace Go.Proofs.YtolkgnnjocmkdaaGreatDoor
open Go.ChangeShapes Go.WideShapes Go.ChangeAt Go.RowKit
/-- How many bytes lie ahead of the first '?'. -/
def qAt : List UInt8 → Nat
  | [] => 0
  | x :: l => if x = 63 then 0 else qAt l + 1
theorem qAt_le : ∀ l : List UInt8, qAt l ≤ l.length
  | [] => Nat.le_refl _
  | x :: l => by
    rw [qAt]
    split
    · exact Nat.zero_le _
    · have := qAt_le l; simp; omega
theorem qAt_stop : ∀ (l : List UInt8) (k : Nat) (h : k < l.length), k ≤ qAt l → l[k] = 63 → qAt l = k
  | [], k, h, _, _ => by simp at h
  | x :: l, 0, _, _, h63 => by
    have : x = 63 := h63
    rw [qAt, if_pos this]
  | x :: l, k + 1, h, hk, h63 => by
    rw [qAt] at hk ⊢
    split at hk
    · omega
    · rename_i hx
      rw [if_neg hx, qAt_stop l k (by simpa using h) (by omega) h63]
theorem qAt_on : ∀ (l : List UInt8) (k : Nat) (h : k < l.length), k ≤ qAt l → ¬ l[k] = 63 → k + 1 ≤ qAt l
  | [], k, h, _, _ => by simp at h
  | x :: l, 0, _, _, h63 => by
    have : ¬ x = 63 := h63
    rw [qAt, if_neg this]; omega
  | x :: l, k + 1, h, hk, h63 => by
    rw [qAt] at hk ⊢
    split at hk
    · omega
    · rename_i hx
      rw [if_neg hx]
      have := qAt_on l k (by simpa using h) (by omega) h63
      omega
/-- What stands behind the path in a key. -/
def keyQ (ps : List (List UInt8)) : List UInt8 := if ps = [] then [] else 63 :: Lib.join ps [38]
theorem keyQ_nil : keyQ [] = [] := rfl
theorem join_snoc (ps : List (List UInt8)) (x sep : List UInt8) (h : ps ≠ []) : Lib.join (ps ++ [x]) sep = Lib.join ps sep ++ sep ++ x := by
  cases ps with
  | nil => exact absurd rfl h
  | cons y ps => rw [List.cons_append, Lib.join_cons, Lib.join_cons]; simp [Lib.joinTail]
theorem keyQ_first (x : List UInt8) : keyQ [x] = 63 :: x := by simp [keyQ, Lib.join_one]
theorem keyQ_more (ps : List (List UInt8)) (x : List UInt8) (h : ps ≠ []) : keyQ (ps ++ [x]) = keyQ ps ++ 38 :: x := by
  rw [keyQ, if_neg (by simp), keyQ, if_neg h, join_snoc _ _ _ h]; simp
def keyParts (p : List UInt8) : List (List UInt8) := sortS (fullP (cutG 38 [] (p.drop (qAt p + 1))))
def keyT (h p : ByteArray) : List UInt8 := (lowS h).data.toList ++ p.data.toList.take (qAt p.data.toList) ++ keyQ (keyParts p.data.toList)
theorem keyParts_none (p : List UInt8) (h : qAt p = p.length) : keyParts p = [] := by
  rw [keyParts, h, List.drop_of_length_le (by omega)]; rfl
theorem fullP_take_on (l : List (List UInt8)) (k : Nat) (x : List UInt8) (h : l[k]? = some x) (hx : x ≠ []) : fullP (l.take (k + 1)) = fullP (l.take k) ++ [x] := by
  rw [List.take_add_one, h]; exact fullP_snoc _ _ hx
theorem fullP_take_nil (l : List (List UInt8)) (k : Nat) (h : l[k]? = some []) : fullP (l.take (k + 1)) = fullP (l.take k) := by
  rw [List.take_add_one, h]; exact fullP_snoc_nil _
theorem fullP_len (l : List (List UInt8)) : (fullP l).length ≤ l.length := List.length_filter_le _ _
theorem cutG_len (c : UInt8) : ∀ (l cur : List UInt8), (cutG c cur l).length ≤ l.length + 1
  | [], cur => by simp [cutG]
  | x :: l, cur => by
    rw [cutG]
    split
    · have := cutG_len c l []; simp; omega
    · have := cutG_len c l (cur ++ [x]); simp; omega
/-- All bytes of the pieces. -/
def sumL (ps : List (List UInt8)) : Nat := (ps.map List.length).sum
theorem cutG_sum (c : UInt8) : ∀ (l cur : List UInt8), sumL (cutG c cur l) ≤ l.length + cur.length
  | [], cur => by simp [cutG, sumL]
  | x :: l, cur => by
    rw [cutG]
    split
    · have := cutG_sum c l []; simp [sumL] at this ⊢; omega
    · have := cutG_sum c l (cur ++ [x]); simp [sumL] at this ⊢; omega
theorem fullP_sum : ∀ ps : List (List UInt8), sumL (fullP ps) ≤ sumL ps
  | [] => Nat.le_refl _
  | [] :: ps => by have := fullP_sum ps; rw [fullP_cons_nil]; simp [sumL] at this ⊢; omega
  | (x :: p) :: ps => by have := fullP_sum ps; rw [fullP_cons _ _ (by simp)]; simp [sumL] at this ⊢; omega
theorem sortS_sum (ps : List (List UInt8)) : sumL (sortS ps) = sumL ps := ((sortS_perm ps).map List.length).sum_nat
theorem keyParts_len (p : List UInt8) : (keyParts p).length ≤ p.length + 1 := by
  rw [keyParts, sortS_len]
  have h1 := fullP_len (cutG 38 [] (p.drop (qAt p + 1)))
  have h2 := cutG_len 38 (p.drop (qAt p + 1)) []
  rw [List.length_drop] at h2
  omega
theorem keyParts_sum (p : List UInt8) : sumL (keyParts p) ≤ p.length := by
  rw [keyParts, sortS_sum]
  have h1 := fullP_sum (cutG 38 [] (p.drop (qAt p + 1)))
  have h2 := cutG_sum 38 (p.drop (qAt p + 1)) []
  rw [List.length_drop] at h2
  simp only [List.length_nil] at h2
  omega
theorem keyQ_len (ps : List (List UInt8)) : (keyQ ps).length ≤ sumL ps + ps.length := by
  rw [keyQ]
  split
  · simp
  · rename_i h
    cases ps with
    | nil => exact absurd rfl h
    | cons x r =>
      rw [Lib.join_cons]
      have : ∀ r : List (List UInt8), (Lib.joinTail [38] r).length = sumL r + r.length := fun r => by
        induction r with
        | nil => rfl
        | cons y r ih => simp [Lib.joinTail, sumL] at ih ⊢; omega
      simp [this, sumL]; omega
theorem sumL_take (ps : List (List UInt8)) (k : Nat) : sumL (ps.take k) ≤ sumL ps := by
  have e := List.take_append_drop k ps
  have : sumL (ps.take k ++ ps.drop k) = sumL (ps.take k) + sumL (ps.drop k) := by simp only [sumL, List.map_append, List.sum_append_nat]
  rw [e] at this
  omega
theorem keyQ_take_len (ps : List (List UInt8)) (k : Nat) : (keyQ (ps.take k)).length ≤ sumL ps + ps.length := by
  have h1 := keyQ_len (ps.take k)
  have h2 := sumL_take ps k
  have h3 : (ps.take k).length ≤ ps.length := List.length_take_le' _ _
  omega
theorem sumL_get (ps : List (List UInt8)) (k : Nat) (x : List UInt8) (h : ps[k]? = some x) : x.length ≤ sumL ps := by
  have e := List.take_append_drop k ps
  have hk := (List.getElem?_eq_some_iff.1 h).1
  rw [List.drop_eq_getElem_cons hk, (List.getElem?_eq_some_iff.1 h).2] at e
  rw [← e]
  simp [sumL]; omega
theorem hmk_add (a b : List UInt8) : (hmk a ++ hmk b : ByteArray) = hmk (a ++ b) := by
  apply ByteArray.ext
  apply Array.ext'
  rw [happ_list]; simp [hmk]
theorem hmk_of (s : ByteArray) : hmk s.data.toList = s := by cases s; simp [hmk]
/-- append of one text, where another row must stay. -/
theorem wpList_append_str_at {ops : Array Oper} {rest : List Oper} {o : Oper} {a : Act} {Q : Exit → Act → World → Prop} (w : World) (hgd : o.guard = none) (s x : Operand)
    (ho : o.op = .call { callee := .builtin .append, args := #[s, x], argTypes := #[28, 28] }) (base : Nat) (v : Value) (l : List ByteArray) (z : ByteArray)
    (hs : a.eval s = v) (hx : a.eval x = .slice (some ⟨w.heap.size, 0, none⟩) 1 1) (hown : OwnS w base v l) (hl : l.length ≤ 1000000) (hbase : base ≤ w.heap.size)
    (b6 : Nat) (v6 : Value) (l6 : List ByteArray) (h6 : OwnS w b6 v6 l6) (g6 : Nat) (hg6 : v6.ownBlock = some g6) (hne : v.ownBlock ≠ some g6)
    (h : ∀ v' w', OwnS w' base v' (l ++ [z]) → OwnS w' b6 v6 l6 → v'.ownBlock ≠ some g6 → Below base w w' → wpList Tryz.prog ops Q rest (a.put o.dst v') w') :
    wpList Tryz.prog ops Q (o :: rest) a (w.alloc (.cells #[.string z] 9)) := by
  obtain ⟨i0, hi, hz0, hz1, hz2⟩ := info_parts infoStr
  refine wpList_append_own_at _ hgd s x 28 ho base 9 i0 (.string ⟨#[]⟩) 1 16 Tryz.underlying28 hi hz0 hz1 hz2 rfl (by decide) v l.length (textsW l) hs (World.ownsRow.alloc hown _) ⟨w.heap.size, 0, none⟩ 1 1 [.string z] hx rfl ?_ ?_ ?_ ?_ ?_ ?_
  · intro j u hj
    match j, hj with
    | 0, hj => simp at hj; subst hj; simp [Addr.add]
  · intro u hu; simp at hu; subst hu; rfl
  · unfold maxLen; omega
  · omega
  · simp; omega
  · intro v' w' h1 h2 h3 h4
    have e : textsW (l ++ [z]) = textsW l ++ [Value.string z] := by simp [textsW]
    have hlt := (World.ownsRow.lt h6 g6 hg6).2
    refine h v' w' (by unfold OwnS; rw [e, List.length_append]; exact h1) ?_ ?_ ?_
    · exact World.ownsRow.kept (World.ownsRow.alloc h6 _) h2 (.inr (by rw [hg6]; exact fun e => hne e.symm))
    · rcases h4 with h4 | h4
      · rw [h4]; exact hne
      · rw [h4]
        intro e
        simp at e
        omega
    · exact ((Below.refl base w).alloc hbase _).grown h2 (by simp; omega) (fun q hq => own_geS hown q hq)
theorem hmk_eqE {x : List UInt8} (h : x ≠ []) : (hmk x).toList.isEmpty = false := by
  rw [Lib.toList_data]
  cases x with
  | nil => exact absurd rfl h
  | cons y x => rfl
theorem hmk_nilE {x : List UInt8} (h : x = []) : (hmk x).toList.isEmpty = true := by
  subst h; rw [Lib.toList_data]; rfl
theorem kext (p : ByteArray) (k : Nat) : (p.extract k p.size).data.toList = p.data.toList.drop k := by
  rw [hext_mk]
  show (List.take (p.size - k) (List.drop k p.data.toList)).toArray.toList = _
  rw [List.toList_toArray]
  exact List.take_of_length_le (by rw [List.length_drop, hsize_list]; omega)
end Go.Proofs.YtolkgnnjocmkdaaGreatDoor
/-
  What the model's ReadRequest answers.
-/
namespace Go.Proofs.YtolkgnnjocmkdaaGreatDoor
open Go.ChangeShapes Go.WideShapes Go.ChangeAt Go.RowKit Go.Sort
structure Five (W : World) (B : Nat) (v0 v1 v2 v3 v4 : Value) : Prop where
  c0 : W.cell? ⟨B, 0, none⟩ = some v0
  c1 : W.cell? ⟨B, 1, none⟩ = some v1
  c2 : W.cell? ⟨B, 2, none⟩ = some v2
  c3 : W.cell? ⟨B, 3, none⟩ = some v3
  c4 : W.cell? ⟨B, 4, none⟩ = some v4
  fr : ∀ o, W.frozen? ⟨B, o, none⟩ = false
  lt : B < W.heap.size
theorem Five.keep {W W' : World} {B : Nat} {v0 v1 v2 v3 v4 : Value} (h : Five W B v0 v1 v2 v3 v4) (hb : Below W.heap.size W W') : Five W' B v0 v1 v2 v3 v4 :=
  ⟨by rw [hb.cell (p := ⟨B, 0, none⟩) h.lt]; exact h.c0, by rw [hb.cell (p := ⟨B, 1, none⟩) h.lt]; exact h.c1, by rw [hb.cell (p := ⟨B, 2, none⟩) h.lt]; exact h.c2, by rw [hb.cell (p := ⟨B, 3, none⟩) h.lt]; exact h.c3, by rw [hb.cell (p := ⟨B, 4, none⟩) h.lt]; exact h.c4,
    fun o => by rw [hb.frozen (p := ⟨B, o, none⟩) h.lt]; exact h.fr o, Nat.lt_of_lt_of_le h.lt hb.size⟩
theorem Five.new (W : World) (v0 v1 v2 v3 v4 : Value) (t : TypeId) : Five (W.alloc (.cells #[v0, v1, v2, v3, v4] t)) W.heap.size v0 v1 v2 v3 v4 :=
  ⟨by rw [World.cell?_alloc_mark]; rfl, by rw [World.cell?_alloc_mark]; rfl, by rw [World.cell?_alloc_mark]; rfl, by rw [World.cell?_alloc_mark]; rfl, by rw [World.cell?_alloc_mark]; rfl, fun o => by have e := heap_alloc_new W (.cells #[v0, v1, v2, v3, v4] t); unfold World.frozen?; rw [e]; simp, by simp⟩
def put5 (w : World) (B : Nat) (v0 v1 v2 v3 v4 : Value) : World := ((((w.setCell ⟨B, 0, none⟩ v0).setCell ⟨B, 1, none⟩ v1).setCell ⟨B, 2, none⟩ v2).setCell ⟨B, 3, none⟩ v3).setCell ⟨B, 4, none⟩ v4
theorem off_ne {B i j : Nat} (h : i ≠ j) : (⟨B, i, none⟩ : Addr) ≠ ⟨B, j, none⟩ := fun e => h (congrArg Addr.off e)
theorem five_put {w : World} {B : Nat} {u0 u1 u2 u3 u4 v0 v1 v2 v3 v4 : Value} (h : Five w B u0 u1 u2 u3 u4) : Five (put5 w B v0 v1 v2 v3 v4) B v0 v1 v2 v3 v4 := by
  have o : ∀ (X : World) (i j : Nat) (v : Value), i ≠ j → (X.setCell ⟨B, i, none⟩ v).cell? ⟨B, j, none⟩ = X.cell? ⟨B, j, none⟩ := fun X i j v hij => World.cell?_setCell_other _ _ _ _ (off_ne hij)
  unfold put5
  refine ⟨?_, ?_, ?_, ?_, ?_, fun o => by simp only [World.frozen?_setCell]; exact h.fr o, by simpa using h.lt⟩
  · rw [o _ _ _ _ (by omega), o _ _ _ _ (by omega), o _ _ _ _ (by omega), o _ _ _ _ (by omega)]; exact World.cell?_setCell_same _ _ _ h.c0
  · rw [o _ _ _ _ (by omega), o _ _ _ _ (by omega), o _ _ _ _ (by omega)]; exact World.cell?_setCell_same _ _ _ (by rw [o _ _ _ _ (by omega)]; exact h.c1)
  · rw [o _ _ _ _ (by omega), o _ _ _ _ (by omega)]; exact World.cell?_setCell_same _ _ _ (by rw [o _ _ _ _ (by omega), o _ _ _ _ (by omega)]; exact h.c2)
  · rw [o _ _ _ _ (by omega)]; exact World.cell?_setCell_same _ _ _ (by rw [o _ _ _ _ (by omega), o _ _ _ _ (by omega), o _ _ _ _ (by omega)]; exact h.c3)
  · exact World.cell?_setCell_same _ _ _ (by rw [o _ _ _ _ (by omega), o _ _ _ _ (by omega), o _ _ _ _ (by omega), o _ _ _ _ (by omega)]; exact h.c4)
theorem Below.put5 {w w' : World} {base B : Nat} {v0 v1 v2 v3 v4 : Value} (h : Below base w w') (hB : base ≤ B) : Below base w (put5 w' B v0 v1 v2 v3 v4) :=
  ((((h.setCell hB _).setCell hB _).setCell hB _).setCell hB _).setCell hB _
theorem ownH_put5 {w : World} {base B : Nat} {v : Value} {l : List Hdr} {v0 v1 v2 v3 v4 : Value} (h : OwnH w base v l) (hB : B < base) : OwnH (put5 w B v0 v1 v2 v3 v4) base v l :=
  ownH_set (ownH_set (ownH_set (ownH_set (ownH_set h hB) hB) hB) hB) hB
/-- What a call hands back: a code and a request of its own. -/
def QGot (c : Int) (q : Rq) (base : Nat) (e : Ending) (w : World) : Prop := ∃ v, e = .returned (.agg #[.int .i64 c, .string q.m, .string q.h, .string q.p, v]) ∧ OwnH w base v q.l
theorem QGot.zero (c : Int) (base : Nat) (w : World) : QGot c rq0 base (.returned (.agg #[.int .i64 c, .string ⟨#[]⟩, .string ⟨#[]⟩, .string ⟨#[]⟩, .slice none 0 0])) w := ⟨_, rfl, OwnH.nil _ _⟩
def WordsRes (ws : List (List UInt8)) (base : Nat) (e : Ending) (w : World) : Prop := ∃ v, e = .returned (.tuple #[v, .bool ((ws.length : Int) == 3)]) ∧ OwnS w base v (ws.map hmk)
theorem words_host {H : List Hdr} (h : hostOk H = true) : valsOf hostN H ≠ [] ∧ (dropH hostN H).length + 1 = H.length := by
  have h1 : (valsOf hostN H).length = 1 := by simpa [hostOk] using h
  have h2 := vals_drop_len hostN H
  exact ⟨fun e => by rw [e] at h1; simp at h1, by omega⟩
theorem words_host_not {H : List Hdr} (h : hostOk H = false) : (dropH hostN H).length + 1 ≠ H.length := by
  have h1 : (valsOf hostN H).length ≠ 1 := by simpa [hostOk] using h
  have h2 := vals_drop_len hostN H
  omega
theorem hostOk_none {H : List Hdr} (h : valsOf hostN H = []) : hostOk H = false := by simp [hostOk, h]
theorem wordsOk_len {ws : List (List UInt8)} (h : ¬ ws.length = 3) : wordsOk ws = false := by simp [wordsOk, h]
theorem wordsOk_at {ws : List (List UInt8)} (h : ws.length = 3) : ∃ x y z, ws = [x, y, z] ∧ (wordsOk ws = decide (z = verL)) := by
  match ws, h with
  | [x, y, z], _ => exact ⟨x, y, z, rfl, by simp [wordsOk]⟩
end Go.Proofs.YtolkgnnjocmkdaaGreatDoor
/-
  Results that hold a request: compared, marked, held.
-/
namespace Go.Proofs.YtolkgnnjocmkdaaGreatDoor
open Go.ChangeShapes Go.WideShapes Go.ChangeAt Go.RowKit
theorem HAV.after {v : Value} {w V w' : World} (hV : Below w.heap.size w V) (h : HAV v V w') : HAV v w w' :=
  ⟨Nat.le_trans hV.size h.size, fun b o hb hn => by rw [h.cell b o (Nat.lt_of_lt_of_le hb hV.size) hn]; exact hV.cell (p := ⟨b, o, none⟩) hb, fun b o hb hn => by rw [h.frozen b o (Nat.lt_of_lt_of_le hb hV.size) hn]; exact hV.frozen (p := ⟨b, o, none⟩) hb⟩
theorem HAV.then {v : Value} {w w1 w2 : World} (h : HAV v w w1) (hb : Below w1.heap.size w1 w2) : HAV v w w2 :=
  ⟨Nat.le_trans h.size hb.size, fun b o h1 h2 => by rw [hb.cell (p := ⟨b, o, none⟩) (Nat.lt_of_lt_of_le h1 h.size)]; exact h.cell b o h1 h2, fun b o h1 h2 => by rw [hb.frozen (p := ⟨b, o, none⟩) (Nat.lt_of_lt_of_le h1 h.size)]; exact h.frozen b o h1 h2⟩
theorem Five.av {v : Value} {W W' : World} {B : Nat} {v0 v1 v2 v3 v4 : Value} (h : Five W B v0 v1 v2 v3 v4) (k : HAV v W W') (hne : v.ownBlock ≠ some B) : Five W' B v0 v1 v2 v3 v4 :=
  ⟨by rw [k.cell B 0 h.lt hne]; exact h.c0, by rw [k.cell B 1 h.lt hne]; exact h.c1, by rw [k.cell B 2 h.lt hne]; exact h.c2, by rw [k.cell B 3 h.lt hne]; exact h.c3, by rw [k.cell B 4 h.lt hne]; exact h.c4, fun o => by rw [k.frozen B o h.lt hne]; exact h.fr o, Nat.lt_of_lt_of_le h.lt k.size⟩
set_option maxHeartbeats 2000000 in
theorem eqRequest_lv (W : World) (m h p : ByteArray) (a b : Option Addr) (n k ca cb : Nat) (l : List Hdr) (hl : l.length ≤ 1048576) (h1 : HLV W (.slice a n ca) l) (h2 : HLV W (.slice b k cb) l) :
    Calls Tryz.prog 15 #[.agg #[.string m, .string h, .string p, .slice a n ca], .agg #[.string m, .string h, .string p, .slice b k cb]] W fun e w' => e = .returned (.bool true) ∧ Below W.heap.size W w' := by
  obtain ⟨V, hV⟩ : ∃ V, V = (W.alloc (.cells #[.string m, .string h, .string p, .slice a n ca] 35)).alloc (.cells #[.string m, .string h, .string p, .slice b k cb] 35) := ⟨_, rfl⟩
  have HV : Hid (V = (W.alloc (.cells #[.string m, .string h, .string p, .slice a n ca] 35)).alloc (.cells #[.string m, .string h, .string p, .slice b k cb] 35)) := hV
  have bV : Below W.heap.size W V := by rw [hV]; exact ((Below.refl _ _).alloc (Nat.le_refl _) _).alloc (by simp) _
  have C := eqHeaderS_lv V _ _ l hl (h1.below bV) (h2.below bV)
  have HB : Hid (Below W.heap.size W V) := bV
  clear bV h1 h2 hV hl
  go_enter Tryz.func15, Tryz.ntmps15
  go_wp2_with fail
  rw [← HV.out]
  refine C.mono ?_
  rintro e w1 ⟨rfl, hb1⟩
  have KB : Hid (Below W.heap.size W w1) := HB.out.trans (hb1.mono HB.out.size)
  clear hb1 C HB HV
  go_wp2_with fail
  go_ret
  exact ⟨rfl, KB.out⟩
set_option maxHeartbeats 2000000 in
theorem eqRequestResult_lv (W : World) (c : Int) (m h p : ByteArray) (a b : Option Addr) (n k ca cb : Nat) (l : List Hdr) (hl : l.length ≤ 1048576) (h1 : HLV W (.slice a n ca) l) (h2 : HLV W (.slice b k cb) l) :
    Calls Tryz.prog 14 #[.agg #[.int .i64 c, .string m, .string h, .string p, .slice a n ca], .agg #[.int .i64 c, .string m, .string h, .string p, .slice b k cb]] W fun e w' => e = .returned (.bool true) ∧ Below W.heap.size W w' := by
  obtain ⟨V, hV⟩ : ∃ V, V = (W.alloc (.cells #[.int .i64 c, .string m, .string h, .string p, .slice a n ca] 37)).alloc (.cells #[.int .i64 c, .string m, .string h, .string p, .slice b k cb] 37) := ⟨_, rfl⟩
  have HV : Hid (V = (W.alloc (.cells #[.int .i64 c, .string m, .string h, .string p, .slice a n ca] 37)).alloc (.cells #[.int .i64 c, .string m, .string h, .string p, .slice b k cb] 37)) := hV
  have bV : Below W.heap.size W V := by rw [hV]; exact ((Below.refl _ _).alloc (Nat.le_refl _) _).alloc (by simp) _
  have C := eqRequest_lv V m h p a b n k ca cb l hl (h1.below bV) (h2.below bV)
  have HB : Hid (Below W.heap.size W V) := bV
  clear bV h1 h2 hV hl
  go_enter Tryz.func14, Tryz.ntmps14
  go_wp2_with fail
  rw [← HV.out]
  refine C.mono ?_
  rintro e w1 ⟨rfl, hb1⟩
  have KB : Hid (Below W.heap.size W w1) := HB.out.trans (hb1.mono HB.out.size)
  clear hb1 C HB HV
  go_wp2_with fail
  go_ret
  exact ⟨rfl, KB.out⟩
/-- Head lines marked: what holds behind it. -/
structure MkQ (base : Nat) (a : Option Addr) (n ca : Nat) (w w' : World) : Prop where
  lv : HLV w' (.slice a n ca) (mkHL 1 n)
  av : HAV (.slice a n ca) w w'
  low : Below base w w'
theorem MkQ.after {base : Nat} {a : Option Addr} {n ca : Nat} {w V w' : World} (hV : Below w.heap.size w V) (hb : base ≤ w.heap.size) (h : MkQ base a n ca V w') : MkQ base a n ca w w' :=
  ⟨h.lv, h.av.after hV, (hV.mono hb).trans h.low⟩
set_option maxRecDepth 100000 in
set_option maxHeartbeats 2000000 in
theorem markRequest_lv (w : World) (m h p : ByteArray) (a : Option Addr) (n ca : Nat) (l : List Hdr) (hn : n = l.length) (hl : l.length ≤ 1000) (hv : HLV w (.slice a n ca) l) (base : Nat) (hb : ∀ b, (Value.slice a n ca).ownBlock = some b → base ≤ b) (hbs : base ≤ w.heap.size) (q : Int) (hq : ((1 + 2 * n : Nat) : Int) = q) :
    Calls Tryz.prog 17 #[.agg #[.string m, .string h, .string p, .slice a n ca], .int .i64 1] w fun e w' => e = .returned (.int .i64 q) ∧ MkQ base a n ca w w' := by
  obtain ⟨V, hV⟩ : ∃ V, V = w.alloc (.cells #[.string m, .string h, .string p, .slice a n ca] 35) := ⟨_, rfl⟩
  have HV : Hid (V = w.alloc (.cells #[.string m, .string h, .string p, .slice a n ca] 35)) := hV
  have bV : Below w.heap.size w V := by rw [hV]; exact (Below.refl _ _).alloc (Nat.le_refl _) _
  have C : Calls Tryz.prog 70 #[.slice a n ca, .int .i64 1] V fun e w' => e = .returned (.int .i64 q) ∧ MkQ base a n ca w w' := by
    have := markHeaderS_lv V (.slice a n ca) l (by omega) (hv.below bV) base hb (Nat.le_trans hbs bV.size)
    rw [← hn, hq] at this
    exact this.mono fun e w1 ⟨he, h1, h2, h3⟩ => ⟨he, MkQ.after bV hbs ⟨h1, h2, h3⟩⟩
  clear bV hV hv hn hl hb hbs hq
  go_enter Tryz.func17, Tryz.ntmps17
  go_wp2_with fail
  rw [← HV.out]
  refine C.mono ?_
  rintro e w1 ⟨rfl, hk⟩
  have K : Hid (MkQ base a n ca w w1) := hk
  clear hk C HV
  go_wp2_with fail
  go_ret
  exact ⟨rfl, K.out⟩
set_option maxRecDepth 100000 in
set_option maxHeartbeats 2000000 in
theorem markRequestResult_lv (w : World) (c : Int) (m h p : ByteArray) (a : Option Addr) (n ca : Nat) (l : List Hdr) (hn : n = l.length) (hl : l.length ≤ 1000) (hv : HLV w (.slice a n ca) l) (base : Nat) (hb : ∀ b, (Value.slice a n ca).ownBlock = some b → base ≤ b) (hbs : base ≤ w.heap.size) (q : Int) (hq : ((1 + 2 * n : Nat) : Int) = q) :
    Calls Tryz.prog 19 #[.agg #[.int .i64 c, .string m, .string h, .string p, .slice a n ca], .int .i64 1] w fun e w' => e = .returned (.int .i64 q) ∧ MkQ base a n ca w w' := by
  obtain ⟨V, hV⟩ : ∃ V, V = w.alloc (.cells #[.int .i64 c, .string m, .string h, .string p, .slice a n ca] 37) := ⟨_, rfl⟩
  have HV : Hid (V = w.alloc (.cells #[.int .i64 c, .string m, .string h, .string p, .slice a n ca] 37)) := hV
  have bV : Below w.heap.size w V := by rw [hV]; exact (Below.refl _ _).alloc (Nat.le_refl _) _
  have C : Calls Tryz.prog 17 #[.agg #[.string m, .string h, .string p, .slice a n ca], .int .i64 1] V fun e w' => e = .returned (.int .i64 q) ∧ MkQ base a n ca w w' :=
    (markRequest_lv V m h p a n ca l hn hl (hv.below bV) base hb (Nat.le_trans hbs bV.size) q hq).mono fun e w1 ⟨he, h1⟩ => ⟨he, MkQ.after bV hbs h1⟩
  clear bV hV hv hn hl hb hbs hq
  go_enter Tryz.func19, Tryz.ntmps19
  go_wp2_with fail
  rw [← HV.out]
  refine C.mono ?_
  rintro e w1 ⟨rfl, hk⟩
  have K : Hid (MkQ base a n ca w w1) := hk
  clear hk C HV
  go_wp2_with fail
  go_ret
  exact ⟨rfl, K.out⟩
set_option maxHeartbeats 2000000 in
theorem heldRequest_lv (w : World) (m h p : ByteArray) (a : Option Addr) (n ca : Nat) (hl : n ≤ 1000) (hv : HLV w (.slice a n ca) (mkHL 1 n)) (q : Int) (hq : ((1 + 2 * n : Nat) : Int) = q) :
    Calls Tryz.prog 73 #[.agg #[.string m, .string h, .string p, .slice a n ca], .int .i64 1] w fun e w' => e = .returned (.int .i64 q) ∧ Below w.heap.size w w' := by
  have HE := heldHeaderS_lv (w.alloc (.cells #[.string m, .string h, .string p, .slice a n ca] 35)) (.slice a n ca) n (by omega) (hv.below ((Below.refl _ _).alloc (Nat.le_refl _) _))
  have g : ¬ q < 0 := by omega
  rw [hq] at HE
  clear hv hq
  go_enter Tryz.func73, Tryz.ntmps73
  go_wp2_with fail
  refine HE.mono ?_
  rintro e w1 ⟨rfl, hb⟩
  have KB : Hid (Below w.heap.size w w1) := ((Below.refl _ _).alloc (Nat.le_refl _) _).trans (hb.mono (by simp))
  clear hb HE
  go_wp2_with fail
  go_ret
  exact ⟨rfl, KB.out⟩
set_option maxHeartbeats 2000000 in
theorem heldRequestResult_lv (w : World) (c : Int) (m h p : ByteArray) (a : Option Addr) (n ca : Nat) (hl : n ≤ 1000) (hv : HLV w (.slice a n ca) (mkHL 1 n)) (q : Int) (hq : ((1 + 2 * n : Nat) : Int) = q) :
    Calls Tryz.prog 20 #[.agg #[.int .i64 c, .string m, .string h, .string p, .slice a n ca], .int .i64 1] w fun e w' => e = .returned (.int .i64 q) ∧ Below w.heap.size w w' := by
  have HE := heldRequest_lv (w.alloc (.cells #[.int .i64 c, .string m, .string h, .string p, .slice a n ca] 37)) m h p a n ca hl (hv.below ((Below.refl _ _).alloc (Nat.le_refl _) _)) q hq
  have g : ¬ q < 0 := by omega
  clear hv hq
  go_enter Tryz.func20, Tryz.ntmps20
  go_wp2_with fail
  refine HE.mono ?_
  rintro e w1 ⟨rfl, hb⟩
  have KB : Hid (Below w.heap.size w w1) := ((Below.refl _ _).alloc (Nat.le_refl _) _).trans (hb.mono (by simp))
  clear hb HE
  go_wp2_with fail
  go_ret
  exact ⟨rfl, KB.out⟩
end Go.Proofs.YtolkgnnjocmkdaaGreatDoor
/-
  Requests as arguments of laws, and as what they answer.
-/
namespace Go.Proofs.YtolkgnnjocmkdaaGreatDoor
open Go.ChangeShapes Go.WideShapes Go.ChangeAt Go.RowKit Go.Sort
theorem reqT (w : World) (m h p : ByteArray) (a : Option Addr) (cap : Nat) (l : List Hdr) (hl : l.length ≤ 1048576) (hi : HdsIn w a l) (X : World) (hX : Below w.heap.size w X) :
    Calls Tryz.prog 11 #[.agg #[.string m, .string h, .string p, .slice a l.length cap]] X fun e w' => (∃ (K : Nat), e = .returned (.agg #[.string m, .string h, .string p, .slice (some ⟨K, 0, none⟩) l.length l.length]) ∧ At X.heap.size w'.heap.size (QM K l) w') ∧ Below X.heap.size X w' :=
  (toRequest_any X m h p a cap l hl (hi.keep hX)).mono fun _ _ ⟨h1, h2, h3⟩ =>
    ⟨⟨_, h1, Nat.le_refl _, QM.dep _ _ _ _, h2, by omega, h2.lt⟩, h3⟩
theorem reqQ (m h p : ByteArray) (l : List Hdr) (hl : l.length ≤ 1048576) (X : World) (la ha lb hb Kx Ky : Nat) (c : At la ha (QM Kx l) X) (d : At lb hb (QM Ky l) X) :
    Calls Tryz.prog 15 #[.agg #[.string m, .string h, .string p, .slice (some ⟨Kx, 0, none⟩) l.length l.length], .agg #[.string m, .string h, .string p, .slice (some ⟨Ky, 0, none⟩) l.length l.length]] X fun e w' => e = .returned (.bool true) ∧ Below X.heap.size X w' :=
  eqRequest_same X m h p _ _ l hl c.val.1.at0 d.val.1.at0
theorem reqM (m h p : ByteArray) (l : List Hdr) (hl : l.length ≤ 1048576) (k : Nat) (hk0 : 1 ≤ k) (hk : k ≤ 10000000000000) (base : Nat) (X : World) (lo hi K : Nat) (c : At lo hi (QM K l) X) (hb : base ≤ lo) :
    Calls Tryz.prog 17 #[.agg #[.string m, .string h, .string p, .slice (some ⟨K, 0, none⟩) l.length l.length], .int .i64 (k : Int)] X fun e w' => e = .returned (.int .i64 ((k + 2 * l.length : Nat) : Int)) ∧ Wi lo hi X w' ∧ Below base X w' :=
  markRequest_k X m h p K l k lo hi base hk0 hk hl c.val.1.at c.val.2.1 c.val.2.2 hb
/-- Marked. -/
def MQR (L : List Hdr) (a : Option Addr) (n c : Nat) (lo hi : Nat) (X : World) : Prop := n = L.length ∧ HL (.slice a n c) (mkHL 1 n) lo hi X
theorem MQR.dep (L : List Hdr) (a : Option Addr) (n c lo hi : Nat) : Dep lo hi (MQR L a n c lo hi) := fun X X' h1 h2 hc k => ⟨k.1, HL.dep _ _ _ _ X X' h1 h2 hc k.2⟩
def QR (L : List Hdr) (a : Option Addr) (n c : Nat) (lo hi : Nat) (X : World) : Prop := HLn a n c L lo hi X
theorem qrQ (c : Int) (m h p : ByteArray) (L : List Hdr) (hL : L.length ≤ 1048576) (X : World) (la ha lb hb : Nat) (xa : Option Addr) (xn xk : Nat) (ya : Option Addr) (yn yk : Nat) (r : At la ha (QR L xa xn xk) X) (q : At lb hb (QR L ya yn yk) X) :
    Calls Tryz.prog 14 #[.agg #[.int .i64 c, .string m, .string h, .string p, .slice xa xn xk], .agg #[.int .i64 c, .string m, .string h, .string p, .slice ya yn yk]] X fun e w' => e = .returned (.bool true) ∧ Below X.heap.size X w' :=
  eqRequestResult_lv X c m h p xa ya xn yn xk yk L hL r.val.2.1 q.val.2.1
theorem qrM (c : Int) (m h p : ByteArray) (L : List Hdr) (hL : L.length ≤ 1000) (base : Nat) (X : World) (lo hi : Nat) (ra : Option Addr) (rn rk : Nat) (r : At lo hi (QR L ra rn rk) X) (hb : base ≤ lo) (hbX : base ≤ X.heap.size) :
    Calls Tryz.prog 19 #[.agg #[.int .i64 c, .string m, .string h, .string p, .slice ra rn rk], .int .i64 1] X fun e w' => e = .returned (.int .i64 ((1 + 2 * L.length : Nat) : Int)) ∧ At lo hi (MQR L ra rn rk) w' ∧ Wi lo hi X w' ∧ Below base X w' := by
  obtain ⟨e1, h1⟩ := r.val
  subst e1
  refine (markRequestResult_lv X c m h p ra _ rk L rfl hL h1.1 base (fun b hb' => Nat.le_trans hb (h1.2 b hb').1) hbX _ rfl).mono ?_
  rintro e w' ⟨h4, h5⟩
  have g : Wi lo hi X w' := HAV.wi h5.av h1.2
  exact ⟨h4, ⟨Nat.le_trans r.le g.size, MQR.dep _ _ _ _ _ _, rfl, h5.lv, h1.2⟩, g, h5.low⟩
theorem qrH (c : Int) (m h p : ByteArray) (L : List Hdr) (hL : L.length ≤ 1000) (X : World) (lo hi : Nat) (ra : Option Addr) (rn rk : Nat) (r : At lo hi (MQR L ra rn rk) X) :
    Calls Tryz.prog 20 #[.agg #[.int .i64 c, .string m, .string h, .string p, .slice ra rn rk], .int .i64 1] X fun e w' => e = .returned (.int .i64 ((1 + 2 * L.length : Nat) : Int)) ∧ Below X.heap.size X w' := by
  obtain ⟨e1, h1⟩ := r.val
  subst e1
  exact heldRequestResult_lv X c m h p ra _ rk hL h1.1 _ rfl
end Go.Proofs.YtolkgnnjocmkdaaGreatDoor
/-
  Entries as arguments of laws.
-/
namespace Go.Proofs.YtolkgnnjocmkdaaGreatDoor
open Go.ChangeShapes Go.WideShapes Go.ChangeAt Go.RowKit Go.Sort
def CEnt (q : Ent) (K D J lo hi : Nat) (X : World) : Prop := QM K q.hs lo hi X ∧ BM D q.bl lo hi X ∧ TM J q.ts lo hi X ∧ K < D ∧ D < J
theorem CEnt.dep (q : Ent) (K D J lo hi : Nat) : Dep lo hi (CEnt q K D J lo hi) := fun X X' h1 h2 hc k =>
  ⟨QM.dep _ _ _ _ X X' h1 h2 hc k.1, BM.dep _ _ _ _ X X' h1 h2 hc k.2.1, TM.dep _ _ _ _ X X' h1 h2 hc k.2.2.1, k.2.2.2⟩
/-- Its lists are not too long. -/
structure EntFew (q : Ent) : Prop where
  k : q.key.size ≤ 1048576
  h : q.hs.length ≤ 1048576
  b : q.bl.length ≤ 1048576
  t : q.ts.length ≤ 1048576
theorem entFew {q : Ent} {left : Int} (hl : left ≤ 1048576) (h : ¬ szE left q.key q.hs q.bl q.ts < 0) : EntFew q ∧ szE left q.key q.hs q.bl q.ts ≤ left := by
  obtain ⟨a, b, c, d, e⟩ := szE_room hl h
  exact ⟨⟨a, b, c, d⟩, e⟩
theorem entZ (w : World) (q : Ent) (r : EntR) (hi : EntIn w q r) (hs : EntSm q) (left : Int) (h0 : 0 ≤ left) (h1 : left ≤ 1048576) (X : World) (hX : Below w.heap.size w X) :
    Calls Tryz.prog 9 #[.agg #[.string q.key, .int .i64 q.st, .slice r.ha q.hs.length r.hc, .slice r.ba q.bl.length r.bc, .int .i64 q.t, .int .i64 q.g, .int .i64 q.l, .int .i64 q.s, .int .i64 q.e, .bool q.b1, .bool q.b2, .slice r.ta q.ts.length r.tc, .int .i64 q.pins], .int .i64 left] X fun e w' => e = .returned (.int .i64 (szE left q.key q.hs q.bl q.ts)) ∧ Below X.heap.size X w' :=
  szEntry_any X q.key q.st r.ha r.hc r.ba r.bc q.t q.g q.l q.s q.e q.b1 q.b2 r.ta r.tc q.pins q.hs q.bl q.ts left h0 h1 hs.key hs.hl hs.hs hs.bl hs.tl hs.ts (hi.h.keep hX) (hi.k.keep hX)
theorem entT (w : World) (q : Ent) (r : EntR) (hi : EntIn w q r) (f : EntFew q) (X : World) (hX : Below w.heap.size w X) :
    Calls Tryz.prog 12 #[.agg #[.string q.key, .int .i64 q.st, .slice r.ha q.hs.length r.hc, .slice r.ba q.bl.length r.bc, .int .i64 q.t, .int .i64 q.g, .int .i64 q.l, .int .i64 q.s, .int .i64 q.e, .bool q.b1, .bool q.b2, .slice r.ta q.ts.length r.tc, .int .i64 q.pins]] X fun e w' => (∃ (K : Nat) (D : Nat) (J : Nat), e = .returned (.agg #[.string q.key, .int .i64 q.st, .slice (some ⟨K, 0, none⟩) q.hs.length q.hs.length, .slice (some ⟨D, 0, none⟩) q.bl.length q.bl.length, .int .i64 q.t, .int .i64 q.g, .int .i64 q.l, .int .i64 q.s, .int .i64 q.e, .bool q.b1, .bool q.b2, .slice (some ⟨J, 0, none⟩) q.ts.length q.ts.length, .int .i64 q.pins]) ∧ At X.heap.size w'.heap.size (CEnt q K D J) w') ∧ Below X.heap.size X w' :=
  (toEntry_any X q.key q.st r.ha r.hc r.ba r.bc q.t q.g q.l q.s q.e q.b1 q.b2 r.ta r.tc q.pins q.hs q.bl q.ts f.h f.b f.t (hi.h.keep hX) (hi.b.keep hX) (hi.k.keep hX)).mono fun _ _ ⟨⟨B2, B3, h1, h2, h3, h4, h5, h6⟩, h7⟩ =>
    ⟨⟨_, B2, B3, h1, Nat.le_refl _, CEnt.dep _ _ _ _ _ _, ⟨h2, by omega, h2.lt⟩, ⟨h3, by omega, h3.lt⟩, ⟨h4, by omega, h4.lt⟩, h5, h6⟩, h7⟩
theorem entQ (q : Ent) (f : EntFew q) (X : World) (la ha lb hb Kx Dx Jx Ky Dy Jy : Nat) (c : At la ha (CEnt q Kx Dx Jx) X) (d : At lb hb (CEnt q Ky Dy Jy) X) :
    Calls Tryz.prog 16 #[.agg #[.string q.key, .int .i64 q.st, .slice (some ⟨Kx, 0, none⟩) q.hs.length q.hs.length, .slice (some ⟨Dx, 0, none⟩) q.bl.length q.bl.length, .int .i64 q.t, .int .i64 q.g, .int .i64 q.l, .int .i64 q.s, .int .i64 q.e, .bool q.b1, .bool q.b2, .slice (some ⟨Jx, 0, none⟩) q.ts.length q.ts.length, .int .i64 q.pins], .agg #[.string q.key, .int .i64 q.st, .slice (some ⟨Ky, 0, none⟩) q.hs.length q.hs.length, .slice (some ⟨Dy, 0, none⟩) q.bl.length q.bl.length, .int .i64 q.t, .int .i64 q.g, .int .i64 q.l, .int .i64 q.s, .int .i64 q.e, .bool q.b1, .bool q.b2, .slice (some ⟨Jy, 0, none⟩) q.ts.length q.ts.length, .int .i64 q.pins]] X fun e w' => e = .returned (.bool true) ∧ Below X.heap.size X w' :=
  eqEntry_same X q.key q.st _ _ _ _ _ _ _ _ q.t q.g q.l q.s q.e q.b1 q.b2 _ _ _ _ q.pins q.hs q.bl q.ts f.h f.b f.t (.inr ⟨Kx, 0, rfl, c.val.1.1.at0⟩) (.inr ⟨Ky, 0, rfl, d.val.1.1.at0⟩) (.inr ⟨Dx, 0, rfl, c.val.2.1.1.at0⟩) (.inr ⟨Dy, 0, rfl, d.val.2.1.1.at0⟩) (.inr ⟨Jx, 0, rfl, c.val.2.2.1.1.at0⟩) (.inr ⟨Jy, 0, rfl, d.val.2.2.1.1.at0⟩)
theorem entM (q : Ent) (f : EntFew q) (k : Nat) (hk0 : 1 ≤ k) (hk : k ≤ 10000000000000) (base : Nat) (X : World) (lo hi K D J : Nat) (c : At lo hi (CEnt q K D J) X) (hb : base ≤ lo) :
    Calls Tryz.prog 18 #[.agg #[.string q.key, .int .i64 q.st, .slice (some ⟨K, 0, none⟩) q.hs.length q.hs.length, .slice (some ⟨D, 0, none⟩) q.bl.length q.bl.length, .int .i64 q.t, .int .i64 q.g, .int .i64 q.l, .int .i64 q.s, .int .i64 q.e, .bool q.b1, .bool q.b2, .slice (some ⟨J, 0, none⟩) q.ts.length q.ts.length, .int .i64 q.pins], .int .i64 (k : Int)] X fun e w' => e = .returned (.int .i64 ((k + 2 * q.hs.length + q.bl.length + q.ts.length : Nat) : Int)) ∧ Wi lo hi X w' ∧ Below base X w' :=
  markEntry_k X q.key q.st q.t q.g q.l q.s q.e q.b1 q.b2 q.pins K q.hs D q.bl J q.ts k lo hi base hk0 hk f.h c.val.1.1.at f.b c.val.2.1.1.at f.t c.val.2.2.1.1.at c.val.2.2.2.1 c.val.2.2.2.2 c.val.1.2.1 c.val.2.2.1.2.2 hb
end Go.Proofs.YtolkgnnjocmkdaaGreatDoor
/-
  The first line of a name, on both sides; EtagOf.
-/
namespace Go.Proofs.YtolkgnnjocmkdaaGreatDoor
open Go.ChangeShapes Go.WideShapes Go.ChangeAt Go.RowKit Go.Sort
theorem first_sizes {l : List Hdr} (h : headsC l = 0) : l.length ≤ 20 ∧ ∀ (i : Nat) r, l[i]? = some r → r.name.size ≤ 64 ∧ r.value.size ≤ 200 := by
  obtain ⟨h1, h2⟩ := headsC_zero h
  refine ⟨h1, fun i r hr => ?_⟩
  have := asked (l := l) (name := ⟨#[120]⟩) (by rw [askC, if_pos h]; decide +kernel)
  exact this.2.1 i r hr
def firstV (x : ByteArray) (l : List Hdr) : ByteArray := match firstAt x l with | some i => ((l[i]?).map (·.value)).getD ⟨#[]⟩ | none => ⟨#[]⟩
def firstB (x : ByteArray) (l : List Hdr) : Bool := (firstAt x l).isSome
theorem firstV_some {x : ByteArray} {l : List Hdr} {i : Nat} {r : Hdr} (h : firstAt x l = some i) (hr : l[i]? = some r) : firstV x l = r.value ∧ firstB x l = true := by
  unfold firstV firstB
  rw [h]
  simp [hr]
theorem firstV_none {x : ByteArray} {l : List Hdr} (h : firstAt x l = none) : firstV x l = ⟨#[]⟩ ∧ firstB x l = false := by
  unfold firstV firstB
  rw [h]
  simp
theorem firstAt_at {x : ByteArray} : ∀ {l : List Hdr} {k : Nat} {r : Hdr}, firstAt x (l.take k) = none → l[k]? = some r → lowS r.name = x → firstAt x l = some k
  | [], k, r, _, h, _ => by simp at h
  | y :: l, 0, r, _, h, hx => by
    simp at h
    subst h
    rw [firstAt, if_pos hx]
  | y :: l, k + 1, r, h0, h, hx => by
    rw [List.take_succ_cons, firstAt] at h0
    split at h0
    · cases h0
    · rename_i hy
      rw [firstAt, if_neg hy, firstAt_at (Option.map_eq_none_iff.1 h0) (by simpa using h) hx]
      rfl
theorem firstAt_over {x : ByteArray} {l : List Hdr} {k : Nat} {r : Hdr} (h0 : firstAt x (l.take k) = none) (h : l[k]? = some r) (hx : ¬ lowS r.name = x) : firstAt x (l.take (k + 1)) = none := by
  rw [take_hdr h, firstAt_snoc, h0]
  simp [hx]
theorem firstV_size {x : ByteArray} {l : List Hdr} (hz : ∀ (i : Nat) r, l[i]? = some r → r.name.size ≤ 64 ∧ r.value.size ≤ 200) : (firstV x l).size ≤ 200 := by
  cases h : firstAt x l with
  | none => rw [(firstV_none h).1]; decide
  | some i =>
    have hi := firstAt_lt h
    rw [(firstV_some h (List.getElem?_eq_getElem hi)).1]
    exact (hz i _ (List.getElem?_eq_getElem hi)).2
set_option maxRecDepth 100000 in
set_option maxHeartbeats 4000000 in
theorem l6First_any (w : World) (a : Option Addr) (cap : Nat) (l : List Hdr) (name : ByteArray) (h20 : l.length ≤ 20) (hz : ∀ (i : Nat) r, l[i]? = some r → r.name.size ≤ 64 ∧ r.value.size ≤ 200) (hnm : name.size ≤ 64) (hi : HdsIn w a l) :
    Calls Tryz.prog 176 #[.slice a l.length cap, .string name] w fun e w' => e = .returned (.tuple #[.string (firstV (lowS name) l), .bool (firstB (lowS name) l)]) ∧ Below w.heap.size w w' := by
  have HI : Hid (HdsIn w a l) := hi
  have HZ : Hid (∀ (i : Nat) r, l[i]? = some r → r.name.size ≤ 64 ∧ r.value.size ≤ 200) := hz
  clear hi hz
  generalize hn : l.length = n at *
  have HN : Hid (l.length = n) := hn
  clear hn
  go_enter Tryz.func176, Tryz.ntmps176
  go_wp2_with fail
  go_loopw [6] (fun i wr => ∃ k : Nat, k ≤ n ∧ i = .int .i64 k ∧ firstAt (lowS name) (l.take k) = none ∧ Below w.heap.size w wr) (fun i _ => n - (intOf i).toNat)
  case atStart => exact ⟨0, Nat.zero_le _, rfl, rfl, Below.refl _ _⟩
  case round =>
    obtain ⟨k, hk, rfl, hf, hb⟩ := hrel
    have HF : Hid (firstAt (lowS name) (l.take k) = none) := hf
    clear hf
    by_cases hlt : k < n
    · obtain ⟨r, hr⟩ : ∃ r, l[k]? = some r := ⟨l[k]'(by have := HN.out; omega), List.getElem?_eq_getElem _⟩
      obtain ⟨b, off, rfl, hat⟩ := HI.out.ok hr
      obtain ⟨p1, p3⟩ := (hat.keep hb) k r hr
      obtain ⟨z1, z2⟩ := HZ.out k r hr
      have gk : (k : Int) < n := by omega
      have SA := fun w => l4Alike_any r.name name w (by omega) (by omega)
      by_cases he : lowS r.name = lowS name
      · obtain ⟨e1, e2⟩ := firstV_some (firstAt_at HF.out hr he) hr
        have HR : Hid (firstV (lowS name) l = r.value ∧ firstB (lowS name) l = true) := ⟨e1, e2⟩
        have HSA : Hid (∀ w, Calls Tryz.prog 174 #[.string r.name, .string name] w fun e w' => e = .returned (.bool true) ∧ Below w.heap.size w w') := by
          rw [show decide (lowS r.name = lowS name) = true from by simpa using he] at SA
          exact SA
        have HAT : Hid (HeadsAt w b off l) := hat
        have HRR : Hid (l[k]? = some r) := hr
        clear SA he e1 e2 hat hr HI HZ HF
        obtain ⟨rn, rv⟩ := r
        simp only at p1 p3 z1 z2
        go_wp2_with fail
        refine (HSA.out _).mono ?_
        rintro e w2 ⟨rfl, hb2⟩
        have KB : Hid (Below w.heap.size w w2) := hb.trans (hb2.mono hb.size)
        obtain ⟨q1, q3⟩ := (HAT.out.keep KB.out) k _ HRR.out
        clear hb2 hb p1 p3
        simp only at q1 q3
        go_wp2_with fail
        go_ret2
        exact ⟨hret_sb HR.out.1.symm HR.out.2.symm, KB.out⟩
      · have HX : Hid (firstAt (lowS name) (l.take (k + 1)) = none) := firstAt_over HF.out hr he
        have HSA : Hid (∀ w, Calls Tryz.prog 174 #[.string r.name, .string name] w fun e w' => e = .returned (.bool false) ∧ Below w.heap.size w w') := by
          rw [show decide (lowS r.name = lowS name) = false from by simpa using he] at SA
          exact SA
        clear SA he hat hr HZ HF
        obtain ⟨rn, rv⟩ := r
        simp only at p1 p3 z1 z2
        go_wp2_with fail
        refine (HSA.out _).mono ?_
        rintro e w2 ⟨rfl, hb2⟩
        have KB : Hid (Below w.heap.size w w2) := hb.trans (hb2.mono hb.size)
        clear hb2 hb p1 p3
        go_wp2_with fail
        go_roundw
        case rel => exact ⟨k + 1, by omega, by go_num, HX.out, KB.out⟩
        case measure => simp [intOf]; omega
    · have HR : Hid (firstV (lowS name) l = ⟨#[]⟩ ∧ firstB (lowS name) l = false) := by
        have e : l.take k = l := List.take_of_length_le (by have := HN.out; omega)
        have := HF.out
        rw [e] at this
        exact firstV_none this
      go_wp2_with fail
      go_ret2
      exact ⟨hret_sb HR.out.1.symm HR.out.2.symm, hb⟩
set_option maxRecDepth 100000 in
set_option maxHeartbeats 4000000 in
theorem firstValue_any (w : World) (a : Option Addr) (cap : Nat) (l : List Hdr) (name : ByteArray) (h20 : l.length ≤ 20) (hz : ∀ (i : Nat) r, l[i]? = some r → r.name.size ≤ 64 ∧ r.value.size ≤ 200) (hnm : name.size ≤ 64) (hi : HdsIn w a l) :
    Calls Tryz.prog 115 #[.slice a l.length cap, .string name] w fun e w' => e = .returned (.tuple #[.string (firstV (lowS name) l), .bool (firstB (lowS name) l)]) ∧ Below w.heap.size w w' := by
  have HP := firstPlaces_any w a cap l h20 (fun i r hr => (hz i r hr).1) hi
  have HS : Hid (∀ W, Calls Tryz.prog 102 #[.string name] W fun e w' => e = .returned (.string (lowS name)) ∧ Below W.heap.size W w') := fun W => smallName_any name W (by omega)
  have HI : Hid (HdsIn w a l) := hi
  have sz := lowS_size name
  clear hi hz
  cases hf : firstAt (lowS name) l with
  | none =>
    have HR : Hid (firstV (lowS name) l = ⟨#[]⟩ ∧ firstB (lowS name) l = false) := firstV_none hf
    have HF : Hid (firstAt (lowS name) l = none) := hf
    clear hf
    generalize l.length = n at *
    generalize lowS name = q at *
    go_enter Tryz.func115, Tryz.ntmps115
    go_wp2_with fail
    refine HP.mono ?_
    rintro e w1 ⟨rfl, hm1, hb1⟩
    have HM1 : Hid (NamesMap w1 w.heap.size 20 (fun x => firstAt x l)) := hm1
    have HB1 : Hid (Below w.heap.size w w1) := hb1
    clear hm1 hb1 HP
    go_wp2_with fail
    refine (HS.out _).mono ?_
    rintro e w2 ⟨rfl, hb2⟩
    have HM2 : Hid (NamesMap w2 w.heap.size 20 (fun x => firstAt x l)) := HM1.out.below hb2
    have HB2 : Hid (Below w.heap.size w w2) := HB1.out.trans (hb2.mono HB1.out.size)
    clear hb2 HM1 HB1 HS
    go_wp2_with (at_lookup; refine wpList_look_none _ rfl _ _ rfl w.heap.size 20 _ rfl HM2.out q rfl (by omega) HF.out ?_)
    go_ret2
    exact ⟨hret_sb HR.out.1.symm HR.out.2.symm, HB2.out⟩
  | some i =>
    have hil := firstAt_lt hf
    obtain ⟨r, hr⟩ : ∃ r, l[i]? = some r := ⟨l[i], List.getElem?_eq_getElem hil⟩
    have HR : Hid (firstV (lowS name) l = r.value ∧ firstB (lowS name) l = true) := firstV_some hf hr
    have HF : Hid (firstAt (lowS name) l = some i) := hf
    obtain ⟨b, off, rfl, hat⟩ := HI.out.ok hr
    have HAT : Hid (∀ W, Below w.heap.size w W → W.cell? ⟨b, off + i * 2, none⟩ = some (.string r.name) ∧ W.cell? ⟨b, off + i * 2 + 1, none⟩ = some (.string r.value)) := fun W hb => (hat.keep hb) i r hr
    clear hf hr hat HI
    generalize l.length = n at *
    generalize lowS name = q at *
    generalize r.value = rv at *
    generalize r.name = rn at *
    have gi1 : (i : Int) < (n : Int) := by omega
    go_enter Tryz.func115, Tryz.ntmps115
    go_wp2_with fail
    refine HP.mono ?_
    rintro e w1 ⟨rfl, hm1, hb1⟩
    have HM1 : Hid (NamesMap w1 w.heap.size 20 (fun x => firstAt x l)) := hm1
    have HB1 : Hid (Below w.heap.size w w1) := hb1
    clear hm1 hb1 HP
    go_wp2_with fail
    refine (HS.out _).mono ?_
    rintro e w2 ⟨rfl, hb2⟩
    have HM2 : Hid (NamesMap w2 w.heap.size 20 (fun x => firstAt x l)) := HM1.out.below hb2
    have HB2 : Hid (Below w.heap.size w w2) := HB1.out.trans (hb2.mono HB1.out.size)
    obtain ⟨p1, p3⟩ := HAT.out _ HB2.out
    clear hb2 HM1 HB1 HS
    go_wp2_with (at_lookup; refine wpList_look_some _ rfl _ _ rfl w.heap.size 20 _ rfl HM2.out q rfl (by omega) i HF.out ?_)
    go_ret2
    exact ⟨hret_sb HR.out.1.symm HR.out.2.symm, HB2.out⟩
/-! ### EtagOf -/
def etagN : ByteArray := ⟨#[101, 116, 97, 103]⟩
theorem etag_low : lowS ⟨#[101, 116, 97, 103]⟩ = etagN := by decide +kernel
theorem etagI_low : lowS ⟨#[69, 84, 97, 103]⟩ = etagN := by decide +kernel
def etagC (l : List Hdr) : Int := if headsC l = 0 then (if firstV etagN l = ⟨#[]⟩ then 4 else 0) else headsC l
def etagT (l : List Hdr) : ByteArray := if headsC l = 0 then firstV etagN l else ⟨#[]⟩
theorem etag_bad {l : List Hdr} (h : ¬ headsC l = 0) : etagC l = headsC l ∧ etagT l = ⟨#[]⟩ := by rw [etagC, etagT, if_neg h, if_neg h]; exact ⟨rfl, rfl⟩
theorem etag_none {l : List Hdr} (h : headsC l = 0) (h2 : firstV etagN l = ⟨#[]⟩) : etagC l = 4 ∧ etagT l = ⟨#[]⟩ := by rw [etagC, etagT, if_pos h, if_pos h, if_pos h2]; exact ⟨rfl, h2⟩
theorem etag_some {l : List Hdr} (h : headsC l = 0) (h2 : ¬ firstV etagN l = ⟨#[]⟩) : etagC l = 0 ∧ etagT l = firstV etagN l := by rw [etagC, etagT, if_pos h, if_pos h, if_neg h2]; exact ⟨rfl, rfl⟩
theorem etxt_ne {a : ByteArray} (h : ¬ a = ⟨#[]⟩) : a.toList.isEmpty = false := by
  rw [ByteArray.toList_eq]
  cases hd : a.data.toList with
  | nil => exact absurd (ByteArray.ext (Array.ext' (by rw [hd]))) h
  | cons x l => rfl
theorem l6Etag_any (w : World) (a : Option Addr) (cap : Nat) (l : List Hdr) (h0 : headsC l = 0) (hi : HdsIn w a l) :
    Calls Tryz.prog 124 #[.slice a l.length cap] w fun e w' => e = .returned (.string (firstV etagN l)) ∧ Below w.heap.size w w' := by
  obtain ⟨h20, hz⟩ := first_sizes h0
  have H1 := l6First_any w a cap l ⟨#[101, 116, 97, 103]⟩ h20 hz (by decide) hi
  rw [etag_low] at H1
  generalize l.length = n at *
  clear hi hz
  obtain ⟨x, hx⟩ : ∃ x, Hid (firstV etagN l = x) := ⟨_, rfl⟩
  rw [hx.out] at H1 ⊢
  generalize firstB etagN l = y at *
  go_enter Tryz.func124, Tryz.ntmps124
  go_wp2_with fail
  refine H1.mono ?_
  rintro e w1 ⟨rfl, hb1⟩
  have HB : Hid (Below w.heap.size w w1) := hb1
  clear hb1
  go_wp2_with fail
  go_ret
  exact ⟨rfl, HB.out⟩
set_option maxRecDepth 100000 in
set_option maxHeartbeats 4000000 in
theorem implEtag_any (w : World) (a : Option Addr) (cap : Nat) (l : List Hdr) (hl : l.length ≤ 1048576) (hset : SetIs w) (hi : HdsIn w a l) :
    Calls Tryz.prog 51 #[.slice a l.length cap] w fun e w' => e = .returned (.agg #[.int .i64 (etagC l), .string (etagT l)]) ∧ Below w.heap.size w w' := by
  have HA : Hid (∀ W, Below w.heap.size w W → Calls Tryz.prog 95 #[.slice a l.length cap] W fun e w' => e = .returned (.int .i64 (headsC l)) ∧ Below W.heap.size W w') := fun W hb => implHFault_any W a cap l hl (hset.below hb) (hi.keep hb)
  by_cases h0 : headsC l = 0
  · obtain ⟨h20, hz⟩ := first_sizes h0
    have HJ : Hid (∀ W, Below w.heap.size w W → Calls Tryz.prog 115 #[.slice a l.length cap, .string ⟨#[69, 84, 97, 103]⟩] W fun e w' => e = .returned (.tuple #[.string (firstV etagN l), .bool (firstB etagN l)]) ∧ Below W.heap.size W w') := fun W hb => by
      have := firstValue_any W a cap l ⟨#[69, 84, 97, 103]⟩ h20 hz (by decide) (hi.keep hb)
      rw [etagI_low] at this
      exact this
    have hfz : (firstV etagN l).size ≤ 200 := firstV_size hz
    rw [h0] at HA
    clear hi hz
    generalize l.length = n at *
    generalize firstB etagN l = y at *
    by_cases hv : firstV etagN l = ⟨#[]⟩
    · rw [(etag_none h0 hv).1, (etag_none h0 hv).2]
      rw [hv] at HJ
      clear hv h0 hfz
      go_enter Tryz.func51, Tryz.ntmps51
      go_wp2_with fail
      refine (HA.out _ ((Below.refl _ _).alloc (Nat.le_refl _) _)).mono ?_
      rintro e w1 ⟨rfl, hb1⟩
      rw [World.size_alloc] at hb1
      have HB1 : Hid (Below (w.heap.size + 1) (w.alloc (.cells #[.int .i64 0, .string ⟨#[]⟩] 85)) w1) := hb1
      have hz1 : w.heap.size + 1 ≤ w1.heap.size := by have := hb1.size; rwa [World.size_alloc] at this
      clear hb1 HA
      go_wp2_with fail
      refine (HJ.out _ (text_room HB1.out).2.2.2.2.2).mono ?_
      rintro e w2 ⟨rfl, hb2⟩
      obtain ⟨hz2, q0, q1, f0, f1, kb⟩ := text_room (HB1.out.trans (hb2.mono hz1))
      obtain ⟨r0, r1⟩ := two_set (v0 := .int .i64 4) (v1 := .string ⟨#[]⟩) q0 q1
      clear hb2 HB1 HJ
      go_wp2_with fail
      exact bodyPost_ret (v := .agg #[.int .i64 4, .string ⟨#[]⟩]) (by simp [results, Tryz.results51, go_sem, r0, r1]) rfl ⟨rfl, (kb.setCell (Nat.le_refl _) _).setCell (Nat.le_refl _) _⟩
    · rw [(etag_some h0 hv).1, (etag_some h0 hv).2]
      have hne := etxt_ne hv
      clear h0 hv
      generalize firstV etagN l = jt at *
      go_enter Tryz.func51, Tryz.ntmps51
      go_wp2_with fail
      refine (HA.out _ ((Below.refl _ _).alloc (Nat.le_refl _) _)).mono ?_
      rintro e w1 ⟨rfl, hb1⟩
      rw [World.size_alloc] at hb1
      have HB1 : Hid (Below (w.heap.size + 1) (w.alloc (.cells #[.int .i64 0, .string ⟨#[]⟩] 85)) w1) := hb1
      have hz1 : w.heap.size + 1 ≤ w1.heap.size := by have := hb1.size; rwa [World.size_alloc] at this
      clear hb1 HA
      go_wp2_with fail
      refine (HJ.out _ (text_room HB1.out).2.2.2.2.2).mono ?_
      rintro e w2 ⟨rfl, hb2⟩
      have HB2 : Hid (Below (w.heap.size + 1) (w.alloc (.cells #[.int .i64 0, .string ⟨#[]⟩] 85)) w2) := HB1.out.trans (hb2.mono hz1)
      have hz2 : w.heap.size + 1 ≤ w2.heap.size := Nat.le_trans hz1 hb2.size
      clear hb2 HB1 HJ
      go_wp2_with fail
      refine (hclone_any jt _ (by omega)).mono ?_
      rintro e w3 ⟨rfl, hb3⟩
      obtain ⟨hz3, q0, q1, f0, f1, kb⟩ := text_room (HB2.out.trans (hb3.mono hz2))
      obtain ⟨r0, r1⟩ := two_set (v0 := .int .i64 0) (v1 := .string jt) q0 q1
      clear hb3 HB2
      go_wp2_with fail
      exact bodyPost_ret (v := .agg #[.int .i64 0, .string jt]) (by simp [results, Tryz.results51, go_sem, r0, r1]) rfl ⟨rfl, (kb.setCell (Nat.le_refl _) _).setCell (Nat.le_refl _) _⟩
  · rw [(etag_bad h0).1, (etag_bad h0).2]
    clear hi
    have hne : (headsC l != 0) = true := by simpa using h0
    generalize headsC l = fc at *
    generalize l.length = n at *
    go_enter Tryz.func51, Tryz.ntmps51
    go_wp2_with fail
    refine (HA.out _ ((Below.refl _ _).alloc (Nat.le_refl _) _)).mono ?_
    rintro e w1 ⟨rfl, hb1⟩
    rw [World.size_alloc] at hb1
    obtain ⟨hz2, q0, q1, f0, f1, kb⟩ := text_room hb1
    obtain ⟨r0, r1⟩ := two_set (v0 := .int .i64 fc) (v1 := .string ⟨#[]⟩) q0 q1
    clear hb1 HA
    go_wp2_with fail
    exact bodyPost_ret (v := .agg #[.int .i64 fc, .string ⟨#[]⟩]) (by simp [results, Tryz.results51, go_sem, r0, r1]) rfl ⟨rfl, (kb.setCell (Nat.le_refl _) _).setCell (Nat.le_refl _) _⟩
end Go.Proofs.YtolkgnnjocmkdaaGreatDoor
/-
  Head lines that were packed are read back, plainly. No Go in sight.
-/
namespace Go.Proofs.YtolkgnnjocmkdaaGreatDoor
theorem trim_space {v : List UInt8} (h : Lib.trimS v [32, 9] = v) : Lib.trimS (32 :: v) [32, 9] = v := by
  unfold Lib.trimS Lib.trimLeftS Lib.trimRightS at *
  have p32 : ([32, 9] : List UInt8).contains 32 = true := by decide
  generalize hp : (fun x => ([32, 9] : List UInt8).contains x) = p at *
  have q32 : p 32 = true := by rw [← hp]; exact p32
  have l1 : ((v.reverse.dropWhile p).reverse.dropWhile p).length ≤ (v.reverse.dropWhile p).reverse.length := (List.dropWhile_sublist p).length_le
  have l2 : (v.reverse.dropWhile p).length ≤ v.reverse.length := (List.dropWhile_sublist p).length_le
  rw [h] at l1
  rw [List.length_reverse] at l1
  have e1 : v.reverse.dropWhile p = v.reverse := (List.dropWhile_sublist p).eq_of_length (by rw [List.length_reverse] at l2 ⊢; omega)
  rw [e1, List.reverse_reverse] at h
  cases hv : v.reverse with
  | nil =>
    have : v = [] := by simpa using hv
    subst this
    simp [q32]
  | cons x t =>
    rw [hv] at e1
    have hx : p x = false := by
      cases hpx : p x with
      | false => rfl
      | true =>
        rw [List.dropWhile_cons_of_pos hpx] at e1
        have := (List.dropWhile_sublist p (l := t)).length_le
        rw [e1, List.length_cons] at this
        omega
    have e2 : (32 :: v).reverse.dropWhile p = (32 :: v).reverse := by
      rw [List.reverse_cons, hv, List.cons_append, List.dropWhile_cons_of_neg (by rw [hx]; decide)]
    rw [e2, List.reverse_reverse, List.dropWhile_cons_of_pos q32]
    exact h
theorem crAt_line : ∀ (b r : List UInt8), (∀ c ∈ b, c ≠ 13) → crAt (b ++ 13 :: 10 :: r) = b.length
  | [], r, _ => by simp [crAt]
  | c :: b, r, h => by
    have ih := crAt_line b r (fun c hc => h c (by simp [hc]))
    obtain ⟨d, t, e⟩ : ∃ d t, b ++ 13 :: 10 :: r = d :: t := by cases b <;> simp
    rw [List.cons_append, e, crAt, if_neg (fun x => h c (by simp) x.1), ← e, ih]
    simp only [List.length_cons]; omega
theorem clAt_line : ∀ (n t : List UInt8), (∀ c ∈ n, c ≠ 58) → clAt (n ++ 58 :: t) = n.length
  | [], t, _ => by simp [clAt]
  | c :: n, t, h => by
    have ih := clAt_line n t (fun c hc => h c (by simp [hc]))
    rw [List.cons_append, clAt, if_neg (h c (by simp)), ih]
    simp only [List.length_cons]; omega
theorem word_mem {s : ByteArray} (h : wordS s = true) : ∀ c ∈ s.data.toList, c ≠ 58 ∧ c ≠ 13 := by
  have h2 : allW s.data.toList = true := by
    simp only [wordS, Bool.and_eq_true] at h
    exact h.2
  intro c hc
  have := List.all_eq_true.1 h2 c hc
  refine ⟨fun e => ?_, fun e => ?_⟩ <;> subst e <;> revert this <;> decide +kernel
theorem plain_mem {l : List UInt8} (h : plainL l = true) : ∀ c ∈ l, c ≠ 13 := by
  intro c hc e
  have := List.all_eq_true.1 h c hc
  subst e
  revert this
  decide
theorem lineOf_back {r : Hdr} (h : faultH r = 0) : lineOf (r.name.data.toList ++ 58 :: 32 :: r.value.data.toList) = r := by
  obtain ⟨hw, _, _, ht⟩ := faultH_zero h
  have hc := clAt_line r.name.data.toList (32 :: r.value.data.toList) (fun c hc => (word_mem hw c hc).1)
  unfold lineOf
  rw [hc, List.take_left]
  have e2 : (r.name.data.toList ++ 58 :: 32 :: r.value.data.toList).drop (r.name.data.toList.length + 1) = 32 :: r.value.data.toList := by
    rw [← List.drop_drop, List.drop_left]; rfl
  rw [e2]
  obtain ⟨n, v⟩ := r
  simp only at *
  have hn : hmk n.data.toList = n := (hof_list rfl).symm
  have hvv : trimT (hmk (32 :: v.data.toList)) = v := by
    have hv : Lib.trimS v.data.toList [32, 9] = v.data.toList := by
      have := congrArg (fun b : ByteArray => b.data.toList) ht
      simpa [trimT] using this
    unfold trimT
    rw [hmk_list, trim_space hv]
  rw [hn, hvv]
theorem read_pack : ∀ l : List Hdr, (∀ r ∈ l, faultH r = 0) → readT (packL l) = some l
  | [], _ => readT_nil
  | r :: l, h => by
    have ih := read_pack l (fun q hq => h q (by simp [hq]))
    have h0 := h r (by simp)
    obtain ⟨hw, hz, hp, ht⟩ := faultH_zero h0
    have hb := lineOf_back h0
    have hcl := clAt_line r.name.data.toList (32 :: r.value.data.toList) (fun c hc => (word_mem hw c hc).1)
    have e : packL (r :: l) = (r.name.data.toList ++ 58 :: 32 :: r.value.data.toList) ++ 13 :: 10 :: packL l := by simp [packL, lineL]
    have h13 : ∀ c ∈ r.name.data.toList ++ 58 :: 32 :: r.value.data.toList, c ≠ 13 := by
      intro c hc
      simp only [List.mem_append, List.mem_cons] at hc
      rcases hc with hc | rfl | rfl | hc
      · exact (word_mem hw c hc).2
      · decide
      · decide
      · exact plain_mem hp c hc
    have hlt : clAt (r.name.data.toList ++ 58 :: 32 :: r.value.data.toList) < (r.name.data.toList ++ 58 :: 32 :: r.value.data.toList).length := by rw [hcl]; simp only [List.length_append, List.length_cons]; omega
    rw [e]
    generalize r.name.data.toList ++ 58 :: 32 :: r.value.data.toList = b at *
    have hc := crAt_line b (packL l) h13
    have t1 : (b ++ 13 :: 10 :: packL l).take b.length = b := List.take_left
    have t2 : (b ++ 13 :: 10 :: packL l).drop (b.length + 2) = packL l := by rw [← List.drop_drop, List.drop_left]; rfl
    rw [readT_take (by rw [hc]; simp only [List.length_append, List.length_cons]; omega) (by rw [hc, t1]; exact hlt), hc, t1, t2, ih, hb]
    rfl
theorem packL_len4 : ∀ l : List Hdr, (∀ r ∈ l, faultH r = 0) → (packL l).length ≤ l.length * 268
  | [], _ => by simp [packL]
  | r :: l, h => by
    have ih := packL_len4 l (fun q hq => h q (by simp [hq]))
    have := lineL_len (h r (by simp))
    have e : packL (r :: l) = lineL r ++ packL l := by simp [packL]
    rw [e, List.length_append, List.length_cons]
    omega
theorem heads_mem {l : List Hdr} (h : headsC l = 0) : l.length ≤ 20 ∧ ∀ r ∈ l, faultH r = 0 := by
  obtain ⟨h1, h2⟩ := headsC_zero h
  refine ⟨h1, fun r hr => ?_⟩
  obtain ⟨i, hi⟩ := List.mem_iff_getElem?.1 hr
  exact h2 i r hi
theorem heads_of {l : List Hdr} (h1 : l.length ≤ 20) (h2 : ∀ r ∈ l, faultH r = 0) : headsC l = 0 := by rw [headsC_few (by omega)]; exact faultHL_of l h2
theorem pack_read {l : List Hdr} (h : headsC l = 0) : readHC (packT l) = 0 ∧ readHL (packT l) = l := by
  obtain ⟨h1, h2⟩ := heads_mem h
  have hl := packL_len4 l h2
  have hr := read_pack l h2
  rw [packT_ok h]
  exact readH_ok (by show ¬ 6000 < (packL l).toArray.size; rw [List.size_toArray]; omega) hr h
theorem read_heads {s : ByteArray} (h : readHC s = 0) : headsC (readHL s) = 0 := by
  by_cases c : 6000 < s.size
  · rw [(readH_long c).1] at h; omega
  · cases hr : readT s.data.toList with
    | none => rw [(readH_bad c hr).1] at h; omega
    | some L =>
      by_cases hL : headsC L = 0
      · rw [(readH_ok c hr hL).2]; exact hL
      · rw [(readH_fault c hr hL).1] at h; exact absurd h hL
end Go.Proofs.YtolkgnnjocmkdaaGreatDoor
/-
  What is read back, set and dropped, plainly. No Go in sight.
-/
namespace Go.Proofs.YtolkgnnjocmkdaaGreatDoor
theorem drop_heads {l : List Hdr} {x : ByteArray} (h : headsC l = 0) : headsC (dropH x l) = 0 := by
  obtain ⟨h1, h2⟩ := heads_mem h
  exact heads_of (Nat.le_trans (dropH_len x l) h1) fun r hr => h2 r (List.mem_filter.1 hr).1
theorem vals_dropped (x : ByteArray) (l : List Hdr) : valsOf x (dropH x l) = [] := by
  unfold valsOf dropH
  rw [List.filter_filter, List.map_eq_nil_iff, List.filter_eq_nil_iff]
  intro r _
  simp
theorem drop_join {l : List Hdr} {name : ByteArray} (h : askC l name = 0) : joinC (dropL l name) name = 4 := by
  obtain ⟨h1, h2⟩ := askC_zero h
  have e : dropL l name = dropH (lowS name) l := by unfold dropL; rw [if_pos h]
  rw [e]
  exact (join_none (askC_word (drop_heads h1) h2) (vals_dropped _ _)).1
theorem set_mem (h : Hdr) : ∀ (bd : Bool) (l : List Hdr), ∀ r ∈ setGo h bd l, r = h ∨ r ∈ l
  | true, [], r, hr => by simp [setGo] at hr
  | false, [], r, hr => by simp [setGo] at hr; exact .inl hr
  | bd, y :: l, r, hr => by
    by_cases c : lowS y.name = lowS h.name
    · cases bd
      · rw [setGo_put c] at hr
        rcases List.mem_cons.1 hr with rfl | hr
        · exact .inl rfl
        · rcases set_mem h true l r hr with h1 | h1
          · exact .inl h1
          · exact .inr (by simp [h1])
      · rw [setGo_skip c] at hr
        rcases set_mem h true l r hr with h1 | h1
        · exact .inl h1
        · exact .inr (by simp [h1])
    · rw [setGo_other c] at hr
      rcases List.mem_cons.1 hr with rfl | hr
      · exact .inr (by simp)
      · rcases set_mem h bd l r hr with h1 | h1
        · exact .inl h1
        · exact .inr (by simp [h1])
theorem set_vals (h : Hdr) : ∀ l : List Hdr, valsOf (lowS h.name) (setGo h false l) = [h.value]
  | [] => by simp [setGo, valsOf]
  | y :: l => by
    by_cases c : lowS y.name = lowS h.name
    · rw [setGo_put c, setGo_done]
      have := vals_dropped (lowS h.name) l
      unfold valsOf at this ⊢
      rw [List.filter_cons_of_pos (by simp), List.map_cons, this]
    · have := set_vals h l
      rw [setGo_other c]
      unfold valsOf at this ⊢
      rw [List.filter_cons_of_neg (by simpa using c), this]
theorem drop_twice (x : ByteArray) (l : List Hdr) : dropH x (dropH x l) = dropH x l := by
  unfold dropH
  rw [List.filter_filter]
  simp
theorem set_drop (h : Hdr) : ∀ l : List Hdr, dropH (lowS h.name) (setGo h false l) = dropH (lowS h.name) l
  | [] => by simp [setGo, dropH]
  | y :: l => by
    by_cases c : lowS y.name = lowS h.name
    · rw [setGo_put c, setGo_done]
      have := drop_twice (lowS h.name) l
      unfold dropH at this ⊢
      rw [List.filter_cons_of_neg (by simp), List.filter_cons_of_neg (by simpa using c), this]
    · have := set_drop h l
      rw [setGo_other c]
      unfold dropH at this ⊢
      rw [List.filter_cons_of_pos (by simpa using c), List.filter_cons_of_pos (by simpa using c), this]
theorem set_zero {l : List Hdr} {h : Hdr} (hc : setC l h = 0) : askC l h.name = 0 ∧ setL l h = setGo h false l ∧ headsC (setGo h false l) = 0 := by
  have e : setL l h = setGo h false l := by unfold setL; rw [if_pos hc]
  unfold setC at hc
  by_cases h0 : askC l h.name = 0
  · rw [if_pos h0] at hc
    by_cases h1 : faultH h = 0
    · rw [if_pos h1] at hc
      by_cases h2 : 20 < (setGo h false l).length
      · rw [if_pos h2] at hc; omega
      · obtain ⟨h3, _⟩ := askC_zero h0
        obtain ⟨_, h4⟩ := heads_mem h3
        refine ⟨h0, e, heads_of (by omega) fun r hr => ?_⟩
        rcases set_mem h false l r hr with rfl | hr
        · exact h1
        · exact h4 r hr
    · rw [if_neg h1] at hc; exact absurd hc h1
  · rw [if_neg h0] at hc; exact absurd hc h0
theorem set_join {l : List Hdr} {name value : ByteArray} (hc : setC l ⟨name, value⟩ = 0) : joinC (setL l ⟨name, value⟩) name = 0 ∧ joinT (setL l ⟨name, value⟩) name = value := by
  obtain ⟨h0, e, h1⟩ := set_zero hc
  obtain ⟨_, hw⟩ := askC_zero h0
  have hv := set_vals ⟨name, value⟩ l
  simp only at hv hw
  rw [e]
  obtain ⟨j1, j2⟩ := join_some (askC_word h1 hw) (by rw [hv]; simp)
  refine ⟨j1, ?_⟩
  rw [j2, hv]
  have : hjoinL [value] = value.data.toList := by simp [hjoinL, Lib.join, List.intercalate]
  rw [this]
theorem set_dropL {l : List Hdr} {name value : ByteArray} (hc : setC l ⟨name, value⟩ = 0) : askC (setL l ⟨name, value⟩) name = 0 ∧ dropL (setL l ⟨name, value⟩) name = dropL l name ∧ askC l name = 0 := by
  obtain ⟨h0, e, h1⟩ := set_zero hc
  simp only at h0
  obtain ⟨_, hw⟩ := askC_zero h0
  have ha := askC_word h1 hw
  rw [e]
  refine ⟨ha, ?_, h0⟩
  unfold dropL
  rw [if_pos ha, if_pos h0]
  exact set_drop ⟨name, value⟩ l
theorem sameH_refl (x : Hdr) : sameH x x = true := by simp [sameH]
theorem sameHs_refl : ∀ l : List Hdr, sameHs l l = true
  | [] => rfl
  | x :: l => by rw [sameHs, sameH_refl, sameHs_refl l]; rfl
theorem dropL_le (l : List Hdr) (name : ByteArray) : (dropL l name).length ≤ l.length := by
  unfold dropL
  split
  · exact dropH_len _ _
  · exact Nat.zero_le _
end Go.Proofs.YtolkgnnjocmkdaaGreatDoor
/-
  Head lines put behind others.
-/
namespace Go.Proofs.YtolkgnnjocmkdaaGreatDoor
open Go.ChangeShapes Go.WideShapes Go.ChangeAt Go.RowKit Go.Sort
theorem hdrsW_cellsA {w : World} {b off : Nat} {l : List Hdr} (h : HeadsAt w b off l) : ∀ j u, (hdrsW l)[j]? = some u → w.cell? ((⟨b, off, none⟩ : Addr).add j) = some u := by
  intro j u hj
  have hadd : (⟨b, off, none⟩ : Addr).add j = ⟨b, off + j, none⟩ := by unfold Addr.add; split <;> simp_all
  rw [hadd]
  have hlt : j < (hdrsW l).length := (List.getElem?_eq_some_iff.1 hj).1
  rw [hdrsW_len] at hlt
  obtain ⟨r, hr⟩ : ∃ r, l[j / 2]? = some r := ⟨l[j / 2]'(by omega), List.getElem?_eq_getElem _⟩
  obtain ⟨e0, e1⟩ := hdrsW_at l (j / 2) r hr
  obtain ⟨c0, c1⟩ := h (j / 2) r hr
  rcases Nat.mod_two_eq_zero_or_one j with hm | hm
  · have ej : j / 2 * 2 = j := by omega
    rw [ej] at e0 c0
    rw [e0] at hj
    rw [← hj]; exact c0
  · have ej : j / 2 * 2 + 1 = j := by omega
    rw [ej] at e1
    rw [Nat.add_assoc, ej] at c1
    rw [e1] at hj
    rw [← hj]; exact c1
theorem hdrsW_oneA (l : List Hdr) : ∀ u ∈ hdrsW l, u.oneCell' = true := by
  intro u hu
  simp only [hdrsW, List.mem_flatMap] at hu
  obtain ⟨r, _, hr⟩ := hu
  simp only [hdrW, List.mem_cons, List.not_mem_nil, or_false] at hr
  rcases hr with rfl | rfl <;> rfl
theorem wpList_append_hdrsA {ops : Array Oper} {rest : List Oper} {o : Oper} {a : Act} {Q : Exit → Act → World → Prop} (w : World) (hgd : o.guard = none) (s x : Operand)
    (ho : o.op = .call { callee := .builtin .append, args := #[s, x], argTypes := #[33, 33] }) (base : Nat) (v : Value) (l0 : List Hdr) (b off cap : Nat) (l : List Hdr)
    (hs : a.eval s = v) (hx : a.eval x = .slice (some ⟨b, off, none⟩) l.length cap) (hown : OwnH w base v l0) (hat : HeadsAt w b off l) (hl : l0.length + l.length ≤ 1000000) (hbase : base ≤ w.heap.size)
    (h : ∀ v' w', OwnH w' base v' (l0 ++ l) → Below base w w' → w.heap.size ≤ w'.heap.size → wpList Tryz.prog ops Q rest (a.put o.dst v') w') :
    wpList Tryz.prog ops Q (o :: rest) a w := by
  obtain ⟨i0, hi, hz0, hz1, hz2⟩ := info_parts infoHeader
  refine wpList_append_own _ hgd s x 33 ho base 110 i0 (.agg #[.string ⟨#[]⟩, .string ⟨#[]⟩]) 2 32 Tryz.underlying33 hi hz0 hz1 hz2 rfl (by decide) v l0.length (hdrsW l0) hs hown ⟨b, off, none⟩ l.length cap (hdrsW l) hx (hdrsW_len l) (hdrsW_cellsA hat) (hdrsW_oneA l) ?_ ?_ hbase ?_
  · unfold maxLen; omega
  · omega
  · intro v' w' h1 h2 h3
    have e : hdrsW (l0 ++ l) = hdrsW l0 ++ hdrsW l := by simp [hdrsW]
    refine h v' w' (by unfold OwnH; rw [e, List.length_append]; exact h1) ?_ ?_
    · exact (Below.refl base w).grown h2 hbase (fun q hq => own_geH hown q hq)
    · exact ((Below.refl 0 w).grown h2 (Nat.zero_le _) (fun q _ => Nat.zero_le _)).size
theorem OwnH.oneA (w : World) (n z : ByteArray) : OwnH (w.alloc (.cells #[.string n, .string z] 110)) w.heap.size (.slice (some ⟨w.heap.size, 0, none⟩) 1 1) [⟨n, z⟩] :=
  ⟨rfl, .inr ⟨w.heap.size, 1, #[.string n, .string z], rfl, Nat.le_refl _, heap_alloc_new _ _, by simp, by unfold maxLen; omega, by simp, by simp [hdrsW, hdrW]⟩⟩
theorem append_zeroA {P : Program} (w : World) (t ty e : TypeId) (i : TypeInfo) (ht : P.underlying t = some (.slice e)) (hi : P.info? e = some i) (base : Option Addr) (n k : Nat) (hle : n ≤ k) (pb : Option Addr) (c : Nat) :
    (Builtin.append_ #[t, t] ty #[.slice base n k, .slice pb 0 c]).run P w = .ok (.slice base n k) w := by
  cases base <;> cases pb <;> simp [Builtin.append_, run_underlying ht, sizeOf, typeInfo, hi, Builtin.lenOf, Builtin.firstCells, hle, storeCells, loadCells, loadCellsFrom]
theorem wpList_append_hdrsInA {ops : Array Oper} {rest : List Oper} {o : Oper} {a : Act} {Q : Exit → Act → World → Prop} (w : World) (hgd : o.guard = none) (s x : Operand)
    (ho : o.op = .call { callee := .builtin .append, args := #[s, x], argTypes := #[33, 33] }) (base : Nat) (v : Value) (l0 : List Hdr) (pa : Option Addr) (cap : Nat) (l : List Hdr)
    (hs : a.eval s = v) (hx : a.eval x = .slice pa l.length cap) (hown : OwnH w base v l0) (hat : HdsIn w pa l) (hl : l0.length + l.length ≤ 1000000) (hbase : base ≤ w.heap.size)
    (h : ∀ v' w', OwnH w' base v' (l0 ++ l) → Below base w w' → w.heap.size ≤ w'.heap.size → wpList Tryz.prog ops Q rest (a.put o.dst v') w') :
    wpList Tryz.prog ops Q (o :: rest) a w := by
  rcases hat with rfl | ⟨b, off, rfl, hat⟩
  · obtain ⟨i0, hi, _⟩ := info_parts infoHeader
    obtain ⟨va, vc, rfl, hle⟩ : ∃ va vc, v = .slice va l0.length vc ∧ l0.length ≤ vc := by
      obtain ⟨_, h1 | ⟨g, c2, cur, e2, _, _, hc2, _⟩⟩ := hown
      · have e : l0 = [] := List.eq_nil_of_length_eq_zero h1.2
        subst e
        exact ⟨none, 0, h1.1, Nat.le_refl _⟩
      · exact ⟨_, c2, e2, hc2⟩
    refine wpList_plain hgd fun K hK => ?_
    unfold Oper.wp execOp
    simp only [ho, resolve, invoke, builtin, Sem.run_bind, Sem.run_pure, Result.andThen_ok, List.map_toArray, List.map_cons, List.map_nil, hs, hx, List.length_nil]
    rw [append_zeroA w 33 _ 110 i0 Tryz.underlying33 hi va l0.length vc hle pa cap]
    exact hK _ _ (h _ w (by simpa using hown) (Below.refl _ _) (Nat.le_refl _))
  · exact wpList_append_hdrsA w hgd s x ho base v l0 b off cap l hs hx hown hat hl hbase h
end Go.Proofs.YtolkgnnjocmkdaaGreatDoor
/-
  Is it an entry? The specification's answer.
-/
namespace Go.Proofs.YtolkgnnjocmkdaaGreatDoor
open Go.ChangeShapes Go.WideShapes Go.ChangeAt Go.RowKit Go.Sort
def stB (st : Int) : Bool := decide (st = 200) || decide (st = 404) || decide (st = 410)
def pinB (p : Int) : Bool := decide (0 ≤ p) && decide (p ≤ 20)
def entryC (key : ByteArray) (st pins : Int) (hs : List Hdr) (bn tn : Nat) (t g l s e : Int) : Int :=
  if key.size < 1 ∨ 500 < key.size then 2 else
  if (stB st && pinB pins) = false then 3 else
  if headsC hs ≠ 0 then headsC hs else
  if 2000 < bn ∨ 10 < tn then 2 else metaC t g l s e
set_option maxHeartbeats 8000000 in
theorem specEntry_any (w : World) (key : ByteArray) (st : Int) (ha : Option Addr) (hc : Nat) (ba : Option Addr) (bc : Nat) (t g l s e : Int) (b1 b2 : Bool) (ta : Option Addr) (tc : Nat) (pins : Int) (hs : List Hdr) (bn tn : Nat) (hk : key.size ≤ maxLen) (hhl : hs.length ≤ 1048576) (hbn : bn ≤ maxLen) (htn : tn ≤ maxLen) (hH : HdsIn w ha hs) :
    Calls Tryz.prog 57 #[.agg #[.string key, .int .i64 st, .slice ha hs.length hc, .slice ba bn bc, .int .i64 t, .int .i64 g, .int .i64 l, .int .i64 s, .int .i64 e, .bool b1, .bool b2, .slice ta tn tc, .int .i64 pins]] w fun r w' => r = .returned (.int .i64 (entryC key st pins hs bn tn t g l s e)) ∧ Below w.heap.size w w' := by
  have HK : Hid (Below w.heap.size w (w.alloc (.cells #[.string key, .int .i64 st, .slice ha hs.length hc, .slice ba bn bc, .int .i64 t, .int .i64 g, .int .i64 l, .int .i64 s, .int .i64 e, .bool b1, .bool b2, .slice ta tn tc, .int .i64 pins] 42)) ∧ E13 (w.alloc (.cells #[.string key, .int .i64 st, .slice ha hs.length hc, .slice ba bn bc, .int .i64 t, .int .i64 g, .int .i64 l, .int .i64 s, .int .i64 e, .bool b1, .bool b2, .slice ta tn tc, .int .i64 pins] 42)) w.heap.size (.string key) (.int .i64 st) (.slice ha hs.length hc) (.slice ba bn bc) (.int .i64 t) (.int .i64 g) (.int .i64 l) (.int .i64 s) (.int .i64 e) (.bool b1) (.bool b2) (.slice ta tn tc) (.int .i64 pins)) := ⟨(Below.refl _ _).alloc (Nat.le_refl _) _, E13.new w _ _ _ _ _ _ _ _ _ _ _ _ _ _⟩
  have HI : Hid (∀ w, Calls Tryz.prog 110 #[.int .i64 pins, .int .i64 0, .int .i64 20] w fun r w' => r = .returned (.bool (pinB pins)) ∧ w' = w) := l1In_all pins 0 20
  have HH : Hid (∀ X, Below w.heap.size w X → Calls Tryz.prog 111 #[.slice ha hs.length hc] X fun e w' => e = .returned (.int .i64 (headsC hs)) ∧ Below X.heap.size X w') := fun X hb => specHFault_any X ha hc hs hhl (hH.keep hb)
  have HM : Hid (∀ X, Calls Tryz.prog 121 #[.agg #[.int .i64 t, .int .i64 g, .int .i64 l, .int .i64 s, .int .i64 e, .bool b1, .bool b2]] X fun r w' => r = .returned (.int .i64 (metaC t g l s e)) ∧ Below X.heap.size X w') := fun X => specMeta_any t g l s e b1 b2 X
  obtain ⟨Z, hZ⟩ : ∃ Z, entryC key st pins hs bn tn t g l s e = Z := ⟨_, rfl⟩
  rw [hZ]
  unfold entryC at hZ
  obtain ⟨hcd, hhc⟩ : ∃ x, headsC hs = x := ⟨_, rfl⟩
  obtain ⟨mcd, hmc⟩ : ∃ x, metaC t g l s e = x := ⟨_, rfl⟩
  obtain ⟨pb, hpb⟩ : ∃ x, pinB pins = x := ⟨_, rfl⟩
  rw [hhc] at HH hZ
  rw [hmc] at HM hZ
  rw [hpb] at HI hZ
  clear hhc hmc hpb hH hhl
  generalize hs.length = hl at *
  unfold maxLen at hk hbn htn
  have HZ : Hid (_ = Z) := hZ
  clear hZ
  by_cases c1 : key.size < 1
  · have HR := HZ.out
    rw [if_pos (.inl c1)] at HR
    rw [← HR]
    clear HR HZ
    go_enter Tryz.func57, Tryz.ntmps57
    go_wp2_with fail
    go_ret
    exact ⟨rfl, HK.out.1⟩
  by_cases c2 : 500 < key.size
  · have HR := HZ.out
    rw [if_pos (.inr c2)] at HR
    rw [← HR]
    clear HR HZ
    go_enter Tryz.func57, Tryz.ntmps57
    go_wp2_with fail
    go_ret
    exact ⟨rfl, HK.out.1⟩
  rw [if_neg (by omega)] at HZ
  by_cases hst : stB st = false
  · have HR := HZ.out
    rw [if_pos (by rw [hst]; rfl)] at HR
    rw [← HR]
    clear HR HZ
    unfold stB at hst
    have n1 : st ≠ 200 := fun q => by subst q; simp at hst
    have n2 : st ≠ 404 := fun q => by subst q; simp at hst
    have n3 : st ≠ 410 := fun q => by subst q; simp at hst
    clear hst
    go_enter Tryz.func57, Tryz.ntmps57
    go_wp2_with fail
    go_ret
    exact ⟨rfl, HK.out.1⟩
  have hst1 : stB st = true := by cases q : stB st <;> simp_all
  clear hst
  rw [hst1, Bool.true_and] at HZ
  have three : st = 200 ∨ st = 404 ∨ st = 410 := by unfold stB at hst1; simp at hst1; omega
  clear hst1
  rcases three with h | h | h
  · subst h
    cases pb
    · have HR := HZ.out
      rw [if_pos rfl] at HR
      rw [← HR]
      clear HR HZ
      go_enter Tryz.func57, Tryz.ntmps57
      go_wp2_with fail
      refine (HI.out _).mono ?_
      rintro r w1 ⟨rfl, rfl⟩
      go_wp2_with fail
      go_ret
      exact ⟨rfl, HK.out.1⟩
    rw [if_neg (by decide)] at HZ
    have HE : Hid (∀ X, Below w.heap.size w X → Calls Tryz.prog 111 #[.slice ha hl hc] X fun e w' => e = .returned (.int .i64 hcd) ∧ Below X.heap.size X w') := HH
    by_cases c3 : hcd ≠ 0
    · have HR := HZ.out
      rw [if_pos c3] at HR
      rw [← HR]
      clear HR HZ
      go_enter Tryz.func57, Tryz.ntmps57
      go_wp2_with fail
      refine (HI.out _).mono ?_
      rintro r w1 ⟨rfl, rfl⟩
      have q2 := HK.out.2.c2
      go_wp2_with fail
      refine (HH.out _ HK.out.1).mono ?_
      rintro r w2 ⟨rfl, hb2⟩
      have HB2 : Hid (Below w.heap.size w w2) := HK.out.1.trans (hb2.mono HK.out.1.size)
      clear hb2
      go_wp2_with fail
      go_ret
      exact ⟨rfl, HB2.out⟩
    rw [if_neg c3] at HZ
    have c3' : hcd = 0 := by omega
    subst c3'
    clear c3 HE
    by_cases c4 : 2000 < bn
    · have HR := HZ.out
      rw [if_pos (.inl c4)] at HR
      rw [← HR]
      clear HR HZ
      go_enter Tryz.func57, Tryz.ntmps57
      go_wp2_with fail
      refine (HI.out _).mono ?_
      rintro r w1 ⟨rfl, rfl⟩
      have q2 := HK.out.2.c2
      go_wp2_with fail
      refine (HH.out _ HK.out.1).mono ?_
      rintro r w2 ⟨rfl, hb2⟩
      have HK2 : Hid (Below w.heap.size w w2 ∧ E13 w2 w.heap.size (.string key) (.int .i64 200) (.slice ha hl hc) (.slice ba bn bc) (.int .i64 t) (.int .i64 g) (.int .i64 l) (.int .i64 s) (.int .i64 e) (.bool b1) (.bool b2) (.slice ta tn tc) (.int .i64 pins)) := ⟨HK.out.1.trans (hb2.mono HK.out.1.size), HK.out.2.keep hb2⟩
      clear hb2
      have k3 := HK2.out.2.c3
      have k4 := HK2.out.2.c4
      have k5 := HK2.out.2.c5
      have k6 := HK2.out.2.c6
      have k7 := HK2.out.2.c7
      have k8 := HK2.out.2.c8
      have k9 := HK2.out.2.c9
      have k10 := HK2.out.2.c10
      have k11 := HK2.out.2.c11
      go_wp2_with fail
      go_ret
      exact ⟨rfl, HK2.out.1⟩
    by_cases c5 : 10 < tn
    · have HR := HZ.out
      rw [if_pos (.inr c5)] at HR
      rw [← HR]
      clear HR HZ
      go_enter Tryz.func57, Tryz.ntmps57
      go_wp2_with fail
      refine (HI.out _).mono ?_
      rintro r w1 ⟨rfl, rfl⟩
      have q2 := HK.out.2.c2
      go_wp2_with fail
      refine (HH.out _ HK.out.1).mono ?_
      rintro r w2 ⟨rfl, hb2⟩
      have HK2 : Hid (Below w.heap.size w w2 ∧ E13 w2 w.heap.size (.string key) (.int .i64 200) (.slice ha hl hc) (.slice ba bn bc) (.int .i64 t) (.int .i64 g) (.int .i64 l) (.int .i64 s) (.int .i64 e) (.bool b1) (.bool b2) (.slice ta tn tc) (.int .i64 pins)) := ⟨HK.out.1.trans (hb2.mono HK.out.1.size), HK.out.2.keep hb2⟩
      clear hb2
      have k3 := HK2.out.2.c3
      have k4 := HK2.out.2.c4
      have k5 := HK2.out.2.c5
      have k6 := HK2.out.2.c6
      have k7 := HK2.out.2.c7
      have k8 := HK2.out.2.c8
      have k9 := HK2.out.2.c9
      have k10 := HK2.out.2.c10
      have k11 := HK2.out.2.c11
      go_wp2_with fail
      go_ret
      exact ⟨rfl, HK2.out.1⟩
    rw [if_neg (by omega)] at HZ
    · rw [← HZ.out]
      clear HZ
      go_enter Tryz.func57, Tryz.ntmps57
      go_wp2_with fail
      refine (HI.out _).mono ?_
      rintro r w1 ⟨rfl, rfl⟩
      have q2 := HK.out.2.c2
      go_wp2_with fail
      refine (HH.out _ HK.out.1).mono ?_
      rintro r w2 ⟨rfl, hb2⟩
      have HK2 : Hid (Below w.heap.size w w2 ∧ E13 w2 w.heap.size (.string key) (.int .i64 200) (.slice ha hl hc) (.slice ba bn bc) (.int .i64 t) (.int .i64 g) (.int .i64 l) (.int .i64 s) (.int .i64 e) (.bool b1) (.bool b2) (.slice ta tn tc) (.int .i64 pins)) := ⟨HK.out.1.trans (hb2.mono HK.out.1.size), HK.out.2.keep hb2⟩
      clear hb2
      have k3 := HK2.out.2.c3
      have k4 := HK2.out.2.c4
      have k5 := HK2.out.2.c5
      have k6 := HK2.out.2.c6
      have k7 := HK2.out.2.c7
      have k8 := HK2.out.2.c8
      have k9 := HK2.out.2.c9
      have k10 := HK2.out.2.c10
      have k11 := HK2.out.2.c11
      go_wp2_with fail
      refine (HM.out _).mono ?_
      rintro r w3 ⟨rfl, hb3⟩
      have HB3 : Hid (Below w.heap.size w w3) := HK2.out.1.trans (hb3.mono HK2.out.1.size)
      clear hb3
      go_wp2_with fail
      go_ret
      exact ⟨rfl, HB3.out⟩
  · subst h
    cases pb
    · have HR := HZ.out
      rw [if_pos rfl] at HR
      rw [← HR]
      clear HR HZ
      go_enter Tryz.func57, Tryz.ntmps57
      go_wp2_with fail
      refine (HI.out _).mono ?_
      rintro r w1 ⟨rfl, rfl⟩
      go_wp2_with fail
      go_ret
      exact ⟨rfl, HK.out.1⟩
    rw [if_neg (by decide)] at HZ
    have HE : Hid (∀ X, Below w.heap.size w X → Calls Tryz.prog 111 #[.slice ha hl hc] X fun e w' => e = .returned (.int .i64 hcd) ∧ Below X.heap.size X w') := HH
    by_cases c3 : hcd ≠ 0
    · have HR := HZ.out
      rw [if_pos c3] at HR
      rw [← HR]
      clear HR HZ
      go_enter Tryz.func57, Tryz.ntmps57
      go_wp2_with fail
      refine (HI.out _).mono ?_
      rintro r w1 ⟨rfl, rfl⟩
      have q2 := HK.out.2.c2
      go_wp2_with fail
      refine (HH.out _ HK.out.1).mono ?_
      rintro r w2 ⟨rfl, hb2⟩
      have HB2 : Hid (Below w.heap.size w w2) := HK.out.1.trans (hb2.mono HK.out.1.size)
      clear hb2
      go_wp2_with fail
      go_ret
      exact ⟨rfl, HB2.out⟩
    rw [if_neg c3] at HZ
    have c3' : hcd = 0 := by omega
    subst c3'
    clear c3 HE
    by_cases c4 : 2000 < bn
    · have HR := HZ.out
      rw [if_pos (.inl c4)] at HR
      rw [← HR]
      clear HR HZ
      go_enter Tryz.func57, Tryz.ntmps57
      go_wp2_with fail
      refine (HI.out _).mono ?_
      rintro r w1 ⟨rfl, rfl⟩
      have q2 := HK.out.2.c2
      go_wp2_with fail
      refine (HH.out _ HK.out.1).mono ?_
      rintro r w2 ⟨rfl, hb2⟩
      have HK2 : Hid (Below w.heap.size w w2 ∧ E13 w2 w.heap.size (.string key) (.int .i64 404) (.slice ha hl hc) (.slice ba bn bc) (.int .i64 t) (.int .i64 g) (.int .i64 l) (.int .i64 s) (.int .i64 e) (.bool b1) (.bool b2) (.slice ta tn tc) (.int .i64 pins)) := ⟨HK.out.1.trans (hb2.mono HK.out.1.size), HK.out.2.keep hb2⟩
      clear hb2
      have k3 := HK2.out.2.c3
      have k4 := HK2.out.2.c4
      have k5 := HK2.out.2.c5
      have k6 := HK2.out.2.c6
      have k7 := HK2.out.2.c7
      have k8 := HK2.out.2.c8
      have k9 := HK2.out.2.c9
      have k10 := HK2.out.2.c10
      have k11 := HK2.out.2.c11
      go_wp2_with fail
      go_ret
      exact ⟨rfl, HK2.out.1⟩
    by_cases c5 : 10 < tn
    · have HR := HZ.out
      rw [if_pos (.inr c5)] at HR
      rw [← HR]
      clear HR HZ
      go_enter Tryz.func57, Tryz.ntmps57
      go_wp2_with fail
      refine (HI.out _).mono ?_
      rintro r w1 ⟨rfl, rfl⟩
      have q2 := HK.out.2.c2
      go_wp2_with fail
      refine (HH.out _ HK.out.1).mono ?_
      rintro r w2 ⟨rfl, hb2⟩
      have HK2 : Hid (Below w.heap.size w w2 ∧ E13 w2 w.heap.size (.string key) (.int .i64 404) (.slice ha hl hc) (.slice ba bn bc) (.int .i64 t) (.int .i64 g) (.int .i64 l) (.int .i64 s) (.int .i64 e) (.bool b1) (.bool b2) (.slice ta tn tc) (.int .i64 pins)) := ⟨HK.out.1.trans (hb2.mono HK.out.1.size), HK.out.2.keep hb2⟩
      clear hb2
      have k3 := HK2.out.2.c3
      have k4 := HK2.out.2.c4
      have k5 := HK2.out.2.c5
      have k6 := HK2.out.2.c6
      have k7 := HK2.out.2.c7
      have k8 := HK2.out.2.c8
      have k9 := HK2.out.2.c9
      have k10 := HK2.out.2.c10
      have k11 := HK2.out.2.c11
      go_wp2_with fail
      go_ret
      exact ⟨rfl, HK2.out.1⟩
    rw [if_neg (by omega)] at HZ
    · rw [← HZ.out]
      clear HZ
      go_enter Tryz.func57, Tryz.ntmps57
      go_wp2_with fail
      refine (HI.out _).mono ?_
      rintro r w1 ⟨rfl, rfl⟩
      have q2 := HK.out.2.c2
      go_wp2_with fail
      refine (HH.out _ HK.out.1).mono ?_
      rintro r w2 ⟨rfl, hb2⟩
      have HK2 : Hid (Below w.heap.size w w2 ∧ E13 w2 w.heap.size (.string key) (.int .i64 404) (.slice ha hl hc) (.slice ba bn bc) (.int .i64 t) (.int .i64 g) (.int .i64 l) (.int .i64 s) (.int .i64 e) (.bool b1) (.bool b2) (.slice ta tn tc) (.int .i64 pins)) := ⟨HK.out.1.trans (hb2.mono HK.out.1.size), HK.out.2.keep hb2⟩
      clear hb2
      have k3 := HK2.out.2.c3
      have k4 := HK2.out.2.c4
      have k5 := HK2.out.2.c5
      have k6 := HK2.out.2.c6
      have k7 := HK2.out.2.c7
      have k8 := HK2.out.2.c8
      have k9 := HK2.out.2.c9
      have k10 := HK2.out.2.c10
      have k11 := HK2.out.2.c11
      go_wp2_with fail
      refine (HM.out _).mono ?_
      rintro r w3 ⟨rfl, hb3⟩
      have HB3 : Hid (Below w.heap.size w w3) := HK2.out.1.trans (hb3.mono HK2.out.1.size)
      clear hb3
      go_wp2_with fail
      go_ret
      exact ⟨rfl, HB3.out⟩
  · subst h
    cases pb
    · have HR := HZ.out
      rw [if_pos rfl] at HR
      rw [← HR]
      clear HR HZ
      go_enter Tryz.func57, Tryz.ntmps57
      go_wp2_with fail
      refine (HI.out _).mono ?_
      rintro r w1 ⟨rfl, rfl⟩
      go_wp2_with fail
      go_ret
      exact ⟨rfl, HK.out.1⟩
    rw [if_neg (by decide)] at HZ
    have HE : Hid (∀ X, Below w.heap.size w X → Calls Tryz.prog 111 #[.slice ha hl hc] X fun e w' => e = .returned (.int .i64 hcd) ∧ Below X.heap.size X w') := HH
    by_cases c3 : hcd ≠ 0
    · have HR := HZ.out
      rw [if_pos c3] at HR
      rw [← HR]
      clear HR HZ
      go_enter Tryz.func57, Tryz.ntmps57
      go_wp2_with fail
      refine (HI.out _).mono ?_
      rintro r w1 ⟨rfl, rfl⟩
      have q2 := HK.out.2.c2
      go_wp2_with fail
      refine (HH.out _ HK.out.1).mono ?_
      rintro r w2 ⟨rfl, hb2⟩
      have HB2 : Hid (Below w.heap.size w w2) := HK.out.1.trans (hb2.mono HK.out.1.size)
      clear hb2
      go_wp2_with fail
      go_ret
      exact ⟨rfl, HB2.out⟩
    rw [if_neg c3] at HZ
    have c3' : hcd = 0 := by omega
    subst c3'
    clear c3 HE
    by_cases c4 : 2000 < bn
    · have HR := HZ.out
      rw [if_pos (.inl c4)] at HR
      rw [← HR]
      clear HR HZ
      go_enter Tryz.func57, Tryz.ntmps57
      go_wp2_with fail
      refine (HI.out _).mono ?_
      rintro r w1 ⟨rfl, rfl⟩
      have q2 := HK.out.2.c2
      go_wp2_with fail
      refine (HH.out _ HK.out.1).mono ?_
      rintro r w2 ⟨rfl, hb2⟩
      have HK2 : Hid (Below w.heap.size w w2 ∧ E13 w2 w.heap.size (.string key) (.int .i64 410) (.slice ha hl hc) (.slice ba bn bc) (.int .i64 t) (.int .i64 g) (.int .i64 l) (.int .i64 s) (.int .i64 e) (.bool b1) (.bool b2) (.slice ta tn tc) (.int .i64 pins)) := ⟨HK.out.1.trans (hb2.mono HK.out.1.size), HK.out.2.keep hb2⟩
      clear hb2
      have k3 := HK2.out.2.c3
      have k4 := HK2.out.2.c4
      have k5 := HK2.out.2.c5
      have k6 := HK2.out.2.c6
      have k7 := HK2.out.2.c7
      have k8 := HK2.out.2.c8
      have k9 := HK2.out.2.c9
      have k10 := HK2.out.2.c10
      have k11 := HK2.out.2.c11
      go_wp2_with fail
      go_ret
      exact ⟨rfl, HK2.out.1⟩
    by_cases c5 : 10 < tn
    · have HR := HZ.out
      rw [if_pos (.inr c5)] at HR
      rw [← HR]
      clear HR HZ
      go_enter Tryz.func57, Tryz.ntmps57
      go_wp2_with fail
      refine (HI.out _).mono ?_
      rintro r w1 ⟨rfl, rfl⟩
      have q2 := HK.out.2.c2
      go_wp2_with fail
      refine (HH.out _ HK.out.1).mono ?_
      rintro r w2 ⟨rfl, hb2⟩
      have HK2 : Hid (Below w.heap.size w w2 ∧ E13 w2 w.heap.size (.string key) (.int .i64 410) (.slice ha hl hc) (.slice ba bn bc) (.int .i64 t) (.int .i64 g) (.int .i64 l) (.int .i64 s) (.int .i64 e) (.bool b1) (.bool b2) (.slice ta tn tc) (.int .i64 pins)) := ⟨HK.out.1.trans (hb2.mono HK.out.1.size), HK.out.2.keep hb2⟩
      clear hb2
      have k3 := HK2.out.2.c3
      have k4 := HK2.out.2.c4
      have k5 := HK2.out.2.c5
      have k6 := HK2.out.2.c6
      have k7 := HK2.out.2.c7
      have k8 := HK2.out.2.c8
      have k9 := HK2.out.2.c9
      have k10 := HK2.out.2.c10
      have k11 := HK2.out.2.c11
      go_wp2_with fail
      go_ret
      exact ⟨rfl, HK2.out.1⟩
    rw [if_neg (by omega)] at HZ
    · rw [← HZ.out]
      clear HZ
      go_enter Tryz.func57, Tryz.ntmps57
      go_wp2_with fail
      refine (HI.out _).mono ?_
      rintro r w1 ⟨rfl, rfl⟩
      have q2 := HK.out.2.c2
      go_wp2_with fail
      refine (HH.out _ HK.out.1).mono ?_
      rintro r w2 ⟨rfl, hb2⟩
      have HK2 : Hid (Below w.heap.size w w2 ∧ E13 w2 w.heap.size (.string key) (.int .i64 410) (.slice ha hl hc) (.slice ba bn bc) (.int .i64 t) (.int .i64 g) (.int .i64 l) (.int .i64 s) (.int .i64 e) (.bool b1) (.bool b2) (.slice ta tn tc) (.int .i64 pins)) := ⟨HK.out.1.trans (hb2.mono HK.out.1.size), HK.out.2.keep hb2⟩
      clear hb2
      have k3 := HK2.out.2.c3
      have k4 := HK2.out.2.c4
      have k5 := HK2.out.2.c5
      have k6 := HK2.out.2.c6
      have k7 := HK2.out.2.c7
      have k8 := HK2.out.2.c8
      have k9 := HK2.out.2.c9
      have k10 := HK2.out.2.c10
      have k11 := HK2.out.2.c11
      go_wp2_with fail
      refine (HM.out _).mono ?_
      rintro r w3 ⟨rfl, hb3⟩
      have HB3 : Hid (Below w.heap.size w w3) := HK2.out.1.trans (hb3.mono HK2.out.1.size)
      clear hb3
      go_wp2_with fail
      go_ret
      exact ⟨rfl, HB3.out⟩
end Go.Proofs.YtolkgnnjocmkdaaGreatDoor
/-
  What is kept with an answer: ages and phases, on both sides.
-/
namespace Go.Proofs.YtolkgnnjocmkdaaGreatDoor
open Go.ChangeShapes Go.WideShapes Go.ChangeAt Go.RowKit Go.Sort
theorem meta_ir (w w1 : World) (t g l s e : Int) (b1 b2 : Bool) (hb : Below (w.heap.size + 2) ((w.alloc (.cells #[.int .i64 t, .int .i64 g, .int .i64 l, .int .i64 s, .int .i64 e, .bool b1, .bool b2] 40)).alloc (.cells #[.int .i64 0, .int .i64 0] 144)) w1) : Below w.heap.size w w1 ∧ MetaAt w1 w.heap.size t g l s e b1 b2 ∧ IR w1 (w.heap.size + 1) (.int .i64 0) (.int .i64 0) := by
  obtain ⟨u, hu⟩ : ∃ X, X = w.alloc (.cells #[.int .i64 t, .int .i64 g, .int .i64 l, .int .i64 s, .int .i64 e, .bool b1, .bool b2] 40) := ⟨_, rfl⟩
  have a1 : Below w.heap.size w u := by rw [hu]; exact (Below.refl _ _).alloc (Nat.le_refl _) _
  have p1 : MetaAt u w.heap.size t g l s e b1 b2 := by rw [hu]; exact MetaAt.new w t g l s e b1 b2 _
  have ez : u.heap.size = w.heap.size + 1 := by rw [hu]; simp
  rw [← hu] at hb
  have i1 := IR.new u (.int .i64 0) (.int .i64 0) 144
  have a2 : Below u.heap.size u (u.alloc (.cells #[.int .i64 0, .int .i64 0] 144)) := (Below.refl _ _).alloc (Nat.le_refl _) _
  have hb' : Below (u.alloc (.cells #[.int .i64 0, .int .i64 0] 144)).heap.size (u.alloc (.cells #[.int .i64 0, .int .i64 0] 144)) w1 := by
    have : (u.alloc (.cells #[.int .i64 0, .int .i64 0] 144)).heap.size = w.heap.size + 2 := by simp [ez]
    rw [this]; exact hb
  refine ⟨a1.trans ((a2.mono a1.size).trans (hb.mono (by omega))), (p1.keep a2).keep hb', ?_⟩
  rw [← ez]
  exact i1.keep hb'
def firstP (b1 b2 : Bool) : Int := if b2 = true then 3 else if b1 = true then 2 else 1
end Go.Proofs.YtolkgnnjocmkdaaGreatDoor
/-
  What is kept with an answer, within an entry.
-/
namespace Go.Proofs.YtolkgnnjocmkdaaGreatDoor
open Go.ChangeShapes Go.WideShapes Go.ChangeAt Go.RowKit Go.Sort
structure MetaE (w : World) (b : Nat) (t g l s e : Int) (b1 b2 : Bool) : Prop where
  c0 : w.cell? ⟨b, 4, none⟩ = some (.int .i64 t)
  c1 : w.cell? ⟨b, 5, none⟩ = some (.int .i64 g)
  c2 : w.cell? ⟨b, 6, none⟩ = some (.int .i64 l)
  c3 : w.cell? ⟨b, 7, none⟩ = some (.int .i64 s)
  c4 : w.cell? ⟨b, 8, none⟩ = some (.int .i64 e)
  c5 : w.cell? ⟨b, 9, none⟩ = some (.bool b1)
  c6 : w.cell? ⟨b, 10, none⟩ = some (.bool b2)
  fr : ∀ o, w.frozen? ⟨b, o, none⟩ = false
  lt : b < w.heap.size
theorem MetaE.keep {w w' : World} {b : Nat} {t g l s e : Int} {b1 b2 : Bool} (k : MetaE w b t g l s e b1 b2) (hb : Below w.heap.size w w') : MetaE w' b t g l s e b1 b2 :=
  ⟨by rw [hb.cell (p := ⟨b, 4, none⟩) k.lt]; exact k.c0, by rw [hb.cell (p := ⟨b, 5, none⟩) k.lt]; exact k.c1, by rw [hb.cell (p := ⟨b, 6, none⟩) k.lt]; exact k.c2, by rw [hb.cell (p := ⟨b, 7, none⟩) k.lt]; exact k.c3, by rw [hb.cell (p := ⟨b, 8, none⟩) k.lt]; exact k.c4, by rw [hb.cell (p := ⟨b, 9, none⟩) k.lt]; exact k.c5, by rw [hb.cell (p := ⟨b, 10, none⟩) k.lt]; exact k.c6, fun o => by rw [hb.frozen (p := ⟨b, o, none⟩) k.lt]; exact k.fr o, Nat.lt_of_lt_of_le k.lt hb.size⟩
end Go.Proofs.YtolkgnnjocmkdaaGreatDoor
/-
  AgeAt and PhaseOf, on both sides.
-/
namespace Go.Proofs.YtolkgnnjocmkdaaGreatDoor
open Go.ChangeShapes Go.WideShapes Go.ChangeAt Go.RowKit Go.Sort
set_option maxHeartbeats 4000000 in
theorem implAge_any (t g l s e : Int) (b1 b2 : Bool) (n : Int) (w : World) :
    Calls Tryz.prog 97 #[.agg #[.int .i64 t, .int .i64 g, .int .i64 l, .int .i64 s, .int .i64 e, .bool b1, .bool b2], .int .i64 n] w fun r w' => r = .returned (.agg #[.int .i64 (askM t g l s e n), .int .i64 (ageA t g l s e n)]) ∧ Below w.heap.size w w' := by
  have HM : Hid (∀ w, Calls Tryz.prog 96 #[.agg #[.int .i64 t, .int .i64 g, .int .i64 l, .int .i64 s, .int .i64 e, .bool b1, .bool b2]] w fun r w' => r = .returned (.int .i64 (metaC t g l s e)) ∧ Below w.heap.size w w') := implMeta_any t g l s e b1 b2
  have HT : Hid (∀ x w, Calls Tryz.prog 154 #[.int .i64 x] w fun r w' => r = .returned (.bool (timeB x)) ∧ w' = w) := isTime_all
  have K0 : Hid (∀ w1, Below (w.heap.size + 2) ((w.alloc (.cells #[.int .i64 t, .int .i64 g, .int .i64 l, .int .i64 s, .int .i64 e, .bool b1, .bool b2] 40)).alloc (.cells #[.int .i64 0, .int .i64 0] 144)) w1 → Below w.heap.size w w1 ∧ MetaAt w1 w.heap.size t g l s e b1 b2 ∧ IR w1 (w.heap.size + 1) (.int .i64 0) (.int .i64 0)) := fun w1 hb => meta_ir w w1 t g l s e b1 b2 hb
  cases hm : metaB t g l s e
  · have ha : askB t g l s e n = false := by simp [askB, hm]
    rw [ageA_bad ha, askM_bad ha]
    rw [metaC_bad hm] at HM
    clear ha hm
    go_enter Tryz.func97, Tryz.ntmps97
    go_wp2_with fail
    refine (HM.out _).mono ?_
    rintro r w1 ⟨rfl, hb1⟩
    have K1 : Hid (Below w.heap.size w w1 ∧ MetaAt w1 w.heap.size t g l s e b1 b2 ∧ IR w1 (w.heap.size + 1) (.int .i64 0) (.int .i64 0)) := K0.out w1 (by simpa using hb1)
    clear hb1 K0
    obtain ⟨r0, r1, rf, _⟩ := K1.out.2.2
    have rf0 := rf 0
    have rf1 := rf 1
    clear rf
    go_wp2_with fail
    refine bodyPost_ret (v := .agg #[.int .i64 3, .int .i64 0]) ?_ rfl ⟨rfl, (K1.out.1.setCell (by simp) _).setCell (by simp) _⟩
    simp [results, Tryz.results97, go_sem, r0, r1]
  rw [metaC_ok hm] at HM
  cases hn : timeB n
  · have ha : askB t g l s e n = false := by simp [askB, hn]
    rw [ageA_bad ha, askM_bad ha]
    clear ha hm
    go_enter Tryz.func97, Tryz.ntmps97
    go_wp2_with fail
    refine (HM.out _).mono ?_
    rintro r w1 ⟨rfl, hb1⟩
    have K1 : Hid (Below w.heap.size w w1 ∧ MetaAt w1 w.heap.size t g l s e b1 b2 ∧ IR w1 (w.heap.size + 1) (.int .i64 0) (.int .i64 0)) := K0.out w1 (by simpa using hb1)
    clear hb1 K0
    go_wp2_with fail
    refine (HT.out n _).mono ?_
    rintro r w2 ⟨rfl, rfl⟩
    rw [hn]
    obtain ⟨r0, r1, rf, _⟩ := K1.out.2.2
    have rf0 := rf 0
    have rf1 := rf 1
    clear rf
    go_wp2_with fail
    refine bodyPost_ret (v := .agg #[.int .i64 3, .int .i64 0]) ?_ rfl ⟨rfl, (K1.out.1.setCell (by simp) _).setCell (by simp) _⟩
    simp [results, Tryz.results97, go_sem, r0, r1]
  by_cases ht : n < t
  · have ha : askB t g l s e n = false := by simp [askB]; omega
    rw [ageA_bad ha, askM_bad ha]
    have d : decide (n < t) = true := by simp [ht]
    clear ha hm
    go_enter Tryz.func97, Tryz.ntmps97
    go_wp2_with fail
    refine (HM.out _).mono ?_
    rintro r w1 ⟨rfl, hb1⟩
    have K1 : Hid (Below w.heap.size w w1 ∧ MetaAt w1 w.heap.size t g l s e b1 b2 ∧ IR w1 (w.heap.size + 1) (.int .i64 0) (.int .i64 0)) := K0.out w1 (by simpa using hb1)
    clear hb1 K0
    have c0 := K1.out.2.1.c0
    go_wp2_with fail
    refine (HT.out n _).mono ?_
    rintro r w2 ⟨rfl, rfl⟩
    rw [hn]
    obtain ⟨r0, r1, rf, _⟩ := K1.out.2.2
    have rf0 := rf 0
    have rf1 := rf 1
    clear rf
    go_wp2_with fail
    refine bodyPost_ret (v := .agg #[.int .i64 3, .int .i64 0]) ?_ rfl ⟨rfl, (K1.out.1.setCell (by simp) _).setCell (by simp) _⟩
    simp [results, Tryz.results97, go_sem, r0, r1]
  have ha : askB t g l s e n = true := by simp [askB, hm, hn]; omega
  have d : decide (n < t) = false := by simp [ht]
  obtain ⟨⟨t0, t1⟩, hg, _⟩ := metaB_of hm
  obtain ⟨n0, n1⟩ := timeB_of hn
  have HA : Hid (∀ w, Calls Tryz.prog 155 #[.int .i64 g, .int .i64 (n - t)] w fun r w' => r = .returned (.agg #[.int .i64 0, .int .i64 (ageM t g n)]) ∧ Below w.heap.size w w') := implAdd_all g (n - t) hg (by omega)
  rw [ageA_ok ha, askM_ok ha]
  clear ha hm hg
  generalize ageM t g n = z at *
  go_enter Tryz.func97, Tryz.ntmps97
  go_wp2_with fail
  refine (HM.out _).mono ?_
  rintro r w1 ⟨rfl, hb1⟩
  have K1 : Hid (Below w.heap.size w w1 ∧ MetaAt w1 w.heap.size t g l s e b1 b2 ∧ IR w1 (w.heap.size + 1) (.int .i64 0) (.int .i64 0)) := K0.out w1 (by simpa using hb1)
  clear hb1 K0
  have c0 := K1.out.2.1.c0
  have c1 := K1.out.2.1.c1
  go_wp2_with fail
  refine (HT.out n _).mono ?_
  rintro r w2 ⟨rfl, rfl⟩
  rw [hn]
  go_wp2_with fail
  refine (HA.out _).mono ?_
  rintro r w2 ⟨rfl, hb2⟩
  clear c0 c1
  have K2 : Hid (Below w.heap.size w w2 ∧ MetaAt w2 w.heap.size t g l s e b1 b2 ∧ IR w2 (w.heap.size + 1) (.int .i64 0) (.int .i64 0)) := ⟨K1.out.1.trans (hb2.mono K1.out.1.size), K1.out.2.1.keep hb2, K1.out.2.2.keep hb2⟩
  clear hb2 K1
  obtain ⟨r0, r1, rf, _⟩ := K2.out.2.2
  have rf0 := rf 0
  have rf1 := rf 1
  clear rf
  go_wp2_with fail
  refine bodyPost_ret (v := .agg #[.int .i64 0, .int .i64 z]) ?_ rfl ⟨rfl, (K2.out.1.setCell (by simp) _).setCell (by simp) _⟩
  simp [results, Tryz.results97, go_sem, r0, r1]
end Go.Proofs.YtolkgnnjocmkdaaGreatDoor
/-
  What the model's l1Digits answers: the decimal digits of a number.
-/
namespace Go.Proofs.YtolkgnnjocmkdaaGreatDoor
open Go.ChangeShapes Go.WideShapes Go.ChangeAt Go.RowKit
namespace num
/-- One byte in a slice of its own, as a text. -/
theorem one_byte (c : Int) (x : UInt8) (hx : (x.toNat : Int) = c) (W : World) (B cap : Nat) (hc : W.cell? ⟨B, 0, none⟩ = some (.int .u8 c)) :
    (convert 25 9 (.slice (some ⟨B, 0, none⟩) 1 cap)).run Tryz.prog W = .ok (.string ⟨#[x]⟩) W := by
  have := run_convert_bytes_back (P := Tryz.prog) W 25 9 5 ⟨B, 0, none⟩ cap [x] Tryz.underlying25 Tryz.underlying5 Tryz.underlying9 (fun j hj => by
    obtain rfl : j = 0 := by simp at hj; omega
    simp [Addr.add, hc, hx])
  simpa using this
theorem dig_nat (d : Nat) (h : d < 10) : ((UInt8.ofNat (48 + d)).toNat : Int) = 48 + (d : Int) := by
  rw [UInt8.toNat_ofNat_of_lt' (by show 48 + d < 256; omega)]; omega
set_option maxHeartbeats 1000000 in
theorem l1Digits_one (u : Nat) (h : u < 10) (w : World) :
    Calls Tryz.prog 93 #[.int .i64 u] w fun e w' => e = .returned (.string ⟨(Lib.decDigits u).toArray⟩) ∧ Below w.heap.size w w' := by
  have HD : Hid ((⟨#[UInt8.ofNat (48 + u)]⟩ : ByteArray) = ⟨(Lib.decDigits u).toArray⟩) := by
    show _ = _
    rw [Lib.decDigits_one h]
  have hcv := one_byte (48 + (u : Int)) (UInt8.ofNat (48 + u)) (dig_nat u h)
  have g : (u : Int) < 10 := by omega
  generalize (⟨#[UInt8.ofNat (48 + u)]⟩ : ByteArray) = r at *
  go_enter Tryz.func93, Tryz.ntmps93
  go_wp2_with fail
  go_ret
  exact ⟨ret_str HD.out, (Below.refl _ _).alloc (Nat.le_refl _) _⟩
set_option maxHeartbeats 1000000 in
theorem l1Digits_any (k : Nat) : ∀ (u : Nat) (w : World), u < 10 ^ k → u ≤ 1000000000000000 →
    Calls Tryz.prog 93 #[.int .i64 u] w fun e w' => e = .returned (.string ⟨(Lib.decDigits u).toArray⟩) ∧ Below w.heap.size w w' := by
  induction k with
  | zero =>
    intro u w h _
    exact l1Digits_one u (by simp at h; omega) w
  | succ k ih =>
    intro u w h hb
    by_cases c : u < 10
    · exact l1Digits_one u c w
    · have IH : Hid (∀ w, Calls Tryz.prog 93 #[.int .i64 ((u : Int) / 10)] w fun e w' => e = .returned (.string ⟨(Lib.decDigits (u / 10)).toArray⟩) ∧ Below w.heap.size w w') := by
        intro w
        have := ih (u / 10) w (by rw [Nat.pow_succ] at h; omega) (by omega)
        rw [show (((u / 10 : Nat)) : Int) = (u : Int) / 10 from by omega] at this
        exact this
      have HD : Hid ((⟨(Lib.decDigits (u / 10)).toArray⟩ : ByteArray) ++ (⟨#[UInt8.ofNat (48 + u % 10)]⟩ : ByteArray) = ⟨(Lib.decDigits u).toArray⟩) := by
        show _ = _
        rw [show Lib.decDigits u = Lib.decDigits (u / 10) ++ [UInt8.ofNat (48 + u % 10)] from by rw [Lib.decDigits, dif_neg c]]
        apply ByteArray.ext
        simp
      have hcv := one_byte (48 + (u : Int) % 10) (UInt8.ofNat (48 + u % 10)) (by rw [dig_nat (u % 10) (by omega)]; omega)
      have g : ¬ (u : Int) < 10 := by omega
      have g2 : (u : Int) ≤ 1000000000000000 := by omega
      have e1 : IntKind.i64.wrap ((u : Int) / 10) = (u : Int) / 10 := by rw [IntKind.wrap_i64]; omega
      have e2 : IntKind.u8.wrap (IntKind.i64.wrap (48 + (u : Int).tmod 10)) = 48 + (u : Int) % 10 := by
        rw [Int.tmod_eq_emod_of_nonneg (by omega), IntKind.wrap_i64, IntKind.wrap_u8]; omega
      clear ih h c
      have zr : (⟨#[UInt8.ofNat (48 + u % 10)]⟩ : ByteArray).size ≤ 1 := Nat.le_refl _
      have zq : (⟨(Lib.decDigits (u / 10)).toArray⟩ : ByteArray).size ≤ 21 := by
        have := Lib.itoa_length_le ((u / 10 : Nat) : Int) (by omega) (by omega)
        rw [Lib.itoa_nonneg] at this
        simpa [ByteArray.size] using this
      generalize (⟨#[UInt8.ofNat (48 + u % 10)]⟩ : ByteArray) = r at *
      generalize (⟨(Lib.decDigits (u / 10)).toArray⟩ : ByteArray) = q at *
      have hadd := fun w => run_string_add_sum (P := Tryz.prog) (w := w) q r (by omega)
      go_enter Tryz.func93, Tryz.ntmps93
      go_wp2_with fail
      go_region_with (go_at_call 93; refine (IH.out _).mono ?_; rintro e w1 ⟨rfl, hb1⟩; obtain ⟨hc1, hf1⟩ := bcell hb1; have hz1 := hb1.size)
      all_goals (go_wp2_with fail; go_ret; refine ⟨ret_str HD.out, ?_⟩; clear IH HD hcv hadd)
      · exact ((Below.refl w.heap.size w).drew.trans hb1).alloc hz1 _
      · exact (((Below.refl w.heap.size w).alloc (Nat.le_refl _) _).drew).trans (hb1.mono (by simp))
      · exact (((Below.refl w.heap.size w).alloc (Nat.le_refl _) _).drew).trans (hb1.mono (by simp))
end num
end Go.Proofs.YtolkgnnjocmkdaaGreatDoor
/-
  What NumberText and its model answer; the law of NumberText out of them.
-/
namespace Go.Proofs.YtolkgnnjocmkdaaGreatDoor
open Go.ChangeShapes Go.WideShapes Go.ChangeAt Go.RowKit
namespace num
/-- The library's table of powers of ten lies in memory. -/
def PowIs (w : World) : Prop := Lib.TabIs Tryz.prog w "internal/strconv.uint64pow10" .u64 Lib.pow10Tab
theorem powNamed : Tryz.prog.globalNamed "internal/strconv.uint64pow10" = some 7 := by kernel_rfl
theorem PowIs.below {w w' : World} (h : PowIs w) (hb : Below w.heap.size w w') : PowIs w' := by
  unfold PowIs Lib.TabIs at h ⊢
  refine var?_below hb powNamed ?_ h
  unfold World.var? at h
  rw [powNamed] at h
  simp only [Option.bind_some] at h
  cases hh : w.heap[7]? with
  | none => rw [hh] at h; cases h
  | some o => exact (Array.getElem?_eq_some_iff.1 hh).1
def numT (n : Int) : ByteArray := ⟨(Lib.itoa n).toArray⟩
theorem format_lib (n : Int) (h0 : 0 ≤ n) (h1 : n ≤ 1000000000000000) (w : World) (h : PowIs w) :
    Calls Tryz.prog 209 #[.int .i64 n, .int .i64 10] w fun e w' => e = .returned (.string (numT n)) ∧ Below w.heap.size w w' := by
  refine (Any.strconv_FormatInt_10 Tryz.laysM173 n (by omega) (by omega) w h).mono ?_
  rintro e w' ⟨rfl, k, os, rfl⟩
  exact ⟨rfl, Lib.below_grow _ _ (Nat.le_refl _) _ _⟩
theorem l1Digits_all (n : Int) (h0 : 0 ≤ n) (h1 : n ≤ 1000000000000000) (w : World) :
    Calls Tryz.prog 93 #[.int .i64 n] w fun e w' => e = .returned (.string (numT n)) ∧ Below w.heap.size w w' := by
  obtain ⟨u, rfl⟩ := Int.eq_ofNat_of_zero_le h0
  have := l1Digits_any 16 u w (by omega) (by omega)
  unfold numT
  rw [Lib.itoa_nonneg]
  exact this
set_option maxHeartbeats 400000 in
theorem implNum_bad (n : Int) (w : World) (h : n < 0 ∨ 1000000000000000 < n) :
    Calls Tryz.prog 158 #[.int .i64 n] w fun e w' => e = .returned (.agg #[.int .i64 3, .string ⟨#[]⟩]) ∧ Below w.heap.size w w' := by
  rcases h with h | h
  · go_enter Tryz.func158, Tryz.ntmps158
    go_wp2
    exact bodyPost_ret (v := .agg #[.int .i64 3, .string ⟨#[]⟩]) (by simp [results, Tryz.results158, go_sem]) rfl ⟨rfl, (Below.refl _ _).alloc (Nat.le_refl _) _⟩
  · have h0 : 0 ≤ n := by omega
    have d : decide (n ≤ 1000000000000000) = false := by simp; omega
    go_enter Tryz.func158, Tryz.ntmps158
    go_wp2
    exact bodyPost_ret (v := .agg #[.int .i64 3, .string ⟨#[]⟩]) (by simp [results, Tryz.results158, go_sem]) rfl ⟨rfl, (Below.refl _ _).alloc (Nat.le_refl _) _⟩
set_option maxHeartbeats 400000 in
theorem implNum_any (n : Int) (w : World) (h0 : 0 ≤ n) (h1 : n ≤ 1000000000000000) (hp : PowIs w) :
    Calls Tryz.prog 158 #[.int .i64 n] w fun e w' => e = .returned (.agg #[.int .i64 0, .string (numT n)]) ∧ Below w.heap.size w w' := by
  have HP : Hid (PowIs (w.alloc (.cells #[.int .i64 0, .string ⟨#[]⟩] 85))) := hp.below ((Below.refl _ _).alloc (Nat.le_refl _) _)
  clear hp
  have d : decide (n ≤ 1000000000000000) = true := by simpa using h1
  go_enter Tryz.func158, Tryz.ntmps158
  go_wp2_with (go_at_call 154; go_in)
  refine (format_lib n h0 h1 _ HP.out).mono ?_
  rintro e w1 ⟨rfl, hb⟩
  simp only [World.size_alloc] at hb
  have hz := hb.size
  simp only [World.size_alloc] at hz
  have p0 : w1.cell? ⟨w.heap.size, 0, none⟩ = some (.int .i64 0) := by rw [hb.cell (p := ⟨w.heap.size, 0, none⟩) (Nat.lt_succ_self _)]; simp
  have p1 : w1.cell? ⟨w.heap.size, 1, none⟩ = some (.string ⟨#[]⟩) := by rw [hb.cell (p := ⟨w.heap.size, 1, none⟩) (Nat.lt_succ_self _)]; simp
  have f0 : w1.frozen? ⟨w.heap.size, 0, none⟩ = false := by rw [hb.frozen (p := ⟨w.heap.size, 0, none⟩) (Nat.lt_succ_self _)]; simp
  have f1 : w1.frozen? ⟨w.heap.size, 1, none⟩ = false := by rw [hb.frozen (p := ⟨w.heap.size, 1, none⟩) (Nat.lt_succ_self _)]; simp
  generalize hr : numT n = r
  have HL : Hid (r = numT n) := hr.symm
  clear hr
  obtain ⟨q0, q1⟩ := two_set (v0 := .int .i64 0) (v1 := .string r) p0 p1
  go_wp2
  have kb : Below w.heap.size w w1 := ((Below.refl _ _).alloc (Nat.le_refl _) _).trans (hb.mono (Nat.le_succ _))
  exact bodyPost_ret (v := .agg #[.int .i64 0, .string r]) (by simp [results, Tryz.results158, go_sem, q0, q1]) rfl ⟨by rw [HL.out], (kb.setCell (Nat.le_refl _) _).setCell (Nat.le_refl _) _⟩
end num
end Go.Proofs.YtolkgnnjocmkdaaGreatDoor
/-
  AnswerOf: plain, and by the model.
-/
namespace Go.Proofs.YtolkgnnjocmkdaaGreatDoor
open Go.ChangeShapes Go.WideShapes Go.ChangeAt Go.RowKit Go.Sort
abbrev ageN : ByteArray := ⟨#[65, 103, 101]⟩
/-- The lines of an answer of a kept one. -/
def ansL (l : List Hdr) (a : Int) (src : ByteArray) : List Hdr := setGo ⟨cacheN, src⟩ false (setGo ⟨ageN, num.numT (a.tdiv 1000)⟩ false l)
def ansC (c m : Int) (l : List Hdr) (a : Int) (src : ByteArray) : Int :=
  if c ≠ 0 then c else if m ≠ 0 then m else if wordS src = false then 5 else if 20 < (ansL l a src).length then 2 else 0
def ansR (c st : Int) : Int := if c = 0 then st else 0
def ansLs (c : Int) (l : List Hdr) (a : Int) (src : ByteArray) : List Hdr := if c = 0 then ansL l a src else []
theorem setGo_sub (h : Hdr) : ∀ (b : Bool) (l : List Hdr) (r : Hdr), r ∈ setGo h b l → r = h ∨ r ∈ l
  | true, [], r, k => by simp [(setGo_end h).1] at k
  | false, [], r, k => by simp [(setGo_end h).2] at k; exact .inl k
  | b, x :: l, r, k => by
    by_cases he : lowS x.name = lowS h.name
    · cases b
      · rw [setGo_put he] at k
        rcases List.mem_cons.1 k with e | k
        · exact .inl e
        · rcases setGo_sub h true l r k with e | e
          · exact .inl e
          · exact .inr (List.mem_cons_of_mem _ e)
      · rw [setGo_skip he] at k
        rcases setGo_sub h true l r k with e | e
        · exact .inl e
        · exact .inr (List.mem_cons_of_mem _ e)
    · rw [setGo_other he] at k
      rcases List.mem_cons.1 k with e | k
      · subst e; exact .inr (by simp)
      · rcases setGo_sub h b l r k with e | e
        · exact .inl e
        · exact .inr (List.mem_cons_of_mem _ e)
theorem setGo_le (h : Hdr) (l : List Hdr) : (setGo h false l).length ≤ l.length + 1 := by
  rw [setGo_len]
  have := dropH_len (lowS h.name) l
  cases firstAt (lowS h.name) l <;> simp only <;> omega
theorem dec_len : ∀ (k u : Nat), u < 10 ^ (k + 1) → (Lib.decDigits u).length ≤ k + 1
  | 0, u, h => by rw [Lib.decDigits_one (by simpa using h)]; simp
  | k + 1, u, h => by
    by_cases c : u < 10
    · rw [Lib.decDigits_one c]; simp
    · rw [Lib.decDigits, dif_neg c]
      have := dec_len k (u / 10) (by rw [Nat.div_lt_iff_lt_mul (by omega)]; rw [Nat.pow_succ] at h; omega)
      simp only [List.length_append, List.length_cons, List.length_nil]
      omega
theorem numT_len {n : Int} (h0 : 0 ≤ n) (h1 : n ≤ 1000000000000000) : (num.numT n).size ≤ 20 := by
  obtain ⟨u, rfl⟩ := Int.eq_ofNat_of_zero_le h0
  have e : (num.numT (u : Int)).size = (Lib.decDigits u).length := by simp [num.numT, Lib.itoa_nonneg, ByteArray.size]
  rw [e]
  exact Nat.le_trans (dec_len 19 u (by have : (10 : Nat) ^ (19 + 1) = 100000000000000000000 := by decide
                                       omega)) (by omega)
theorem ageM_bd {t g l s e n : Int} (h : askM t g l s e n = 0) : askB t g l s e n = true ∧ 0 ≤ ageM t g n ∧ ageM t g n ≤ 1000000000000000 := by
  have hb : askB t g l s e n = true := by
    cases hh : askB t g l s e n
    · rw [askM_bad hh] at h; cases h
    · rfl
  obtain ⟨hm, ⟨n0, n1⟩, tn⟩ := askB_of hb
  obtain ⟨⟨t0, t1⟩, ⟨g0, g1⟩, _⟩ := metaB_of hm
  refine ⟨hb, ?_⟩
  unfold ageM addT
  split <;> omega
/-- What AnswerOf answers. -/
def AnsRes (c st : Int) (L : List Hdr) (B : List UInt8) (w w' : World) (e : Ending) : Prop :=
  ∃ ra rn rk rb rm rl, e = .returned (.agg #[.int .i64 c, .int .i64 st, .slice ra rn rk, .slice rb rm rl]) ∧ At w.heap.size w'.heap.size (RR L B ra rn rk rb rm rl) w'
theorem AnsRes.bad {c d st : Int} {l : List Hdr} {a : Int} {src : ByteArray} {hd : Bool} {bs : List UInt8} {w w' : World} (h : c = d) (h0 : d ≠ 0) : AnsRes c (ansR c st) (ansLs c l a src) (relB c hd bs) w w' (.returned (.agg #[.int .i64 d, .int .i64 0, .slice none 0 0, .slice none 0 0])) := by
  subst h
  refine ⟨none, 0, 0, none, 0, 0, ?_, ?_⟩
  · unfold ansR; rw [if_neg h0]
  · unfold ansLs relB; rw [if_neg h0, if_neg h0]; exact (RR.nil _ _)
theorem AnsRes.good {c st : Int} {l : List Hdr} {a : Int} {src : ByteArray} {hd : Bool} {bs : List UInt8} {w w' : World} {ra : Option Addr} {rn rk : Nat} {rb : Option Addr} {rm rl : Nat} (h : c = 0) (k : At w.heap.size w'.heap.size (RR (ansL l a src) (bodyL hd bs) ra rn rk rb rm rl) w') : AnsRes c (ansR c st) (ansLs c l a src) (relB c hd bs) w w' (.returned (.agg #[.int .i64 0, .int .i64 st, .slice ra rn rk, .slice rb rm rl])) := by
  subst h
  exact ⟨ra, rn, rk, rb, rm, rl, rfl, k⟩
theorem Bx.meta {X : World} {B : Nat} {key : ByteArray} {st : Int} {v2 v3 v11 : Value} {t g l s e : Int} {b1 b2 : Bool} {pins : Int} (k : At B (B + 1) (Bx B [.string key, .int .i64 st, v2, v3, .int .i64 t, .int .i64 g, .int .i64 l, .int .i64 s, .int .i64 e, .bool b1, .bool b2, v11, .int .i64 pins]) X) : MetaE X B t g l s e b1 b2 :=
  ⟨k.val.1 4 _ rfl, k.val.1 5 _ rfl, k.val.1 6 _ rfl, k.val.1 7 _ rfl, k.val.1 8 _ rfl, k.val.1 9 _ rfl, k.val.1 10 _ rfl, k.val.2, k.le⟩
end Go.Proofs.YtolkgnnjocmkdaaGreatDoor
/-
  What an entry costs, by the specification.
-/
namespace Go.Proofs.YtolkgnnjocmkdaaGreatDoor
open Go.ChangeShapes Go.WideShapes Go.ChangeAt Go.RowKit Go.Sort
/-- What an entry costs that has no fault. -/
def costN (key : ByteArray) (hs : List Hdr) (bn : Nat) : Int := 50 + ((key.size : Int) + ((packL hs).length : Int) + (bn : Int))
end Go.Proofs.YtolkgnnjocmkdaaGreatDoor
/-
  CostOf, by the specification.
-/
namespace Go.Proofs.YtolkgnnjocmkdaaGreatDoor
open Go.ChangeShapes Go.WideShapes Go.ChangeAt Go.RowKit Go.Sort
theorem entryC_zero {key : ByteArray} {st pins : Int} {hs : List Hdr} {bn tn : Nat} {t g l s e : Int} (h : entryC key st pins hs bn tn t g l s e = 0) : (1 ≤ key.size ∧ key.size ≤ 500) ∧ stB st = true ∧ pinB pins = true ∧ headsC hs = 0 ∧ bn ≤ 2000 ∧ tn ≤ 10 ∧ metaC t g l s e = 0 := by
  unfold entryC at h
  split at h
  · omega
  split at h
  · omega
  split at h
  · contradiction
  split at h
  · omega
  rename_i c1 c2 c3 c4
  have hb : stB st = true ∧ pinB pins = true := by cases x : stB st <;> cases y : pinB pins <;> simp_all
  exact ⟨by omega, hb.1, hb.2, by omega, by omega, by omega, h⟩
end Go.Proofs.YtolkgnnjocmkdaaGreatDoor
/-
  AnswerOf: what it answers, by the model.
-/
namespace Go.Proofs.YtolkgnnjocmkdaaGreatDoor
open Go.ChangeShapes Go.WideShapes Go.ChangeAt Go.RowKit Go.Sort
theorem ansC1 {c m : Int} {l : List Hdr} {a : Int} {src : ByteArray} (h : c ≠ 0) : ansC c m l a src = c := by unfold ansC; rw [if_pos h]
theorem ansC2 {c m : Int} {l : List Hdr} {a : Int} {src : ByteArray} (h : c = 0) (h2 : m ≠ 0) : ansC c m l a src = m := by unfold ansC; rw [if_neg (by simp [h]), if_pos h2]
theorem ansC3 {c m : Int} {l : List Hdr} {a : Int} {src : ByteArray} (h : c = 0) (h2 : m = 0) (h3 : wordS src = false) : ansC c m l a src = 5 := by unfold ansC; rw [if_neg (by simp [h]), if_neg (by simp [h2]), if_pos h3]
theorem ansC4 {c m : Int} {l : List Hdr} {a : Int} {src : ByteArray} (h : c = 0) (h2 : m = 0) (h3 : wordS src = true) (h4 : 20 < (ansL l a src).length) : ansC c m l a src = 2 := by unfold ansC; rw [if_neg (by simp [h]), if_neg (by simp [h2]), if_neg (by simp [h3]), if_pos h4]
theorem ansC5 {c m : Int} {l : List Hdr} {a : Int} {src : ByteArray} (h : c = 0) (h2 : m = 0) (h3 : wordS src = true) (h4 : ¬ 20 < (ansL l a src).length) : ansC c m l a src = 0 := by unfold ansC; rw [if_neg (by simp [h]), if_neg (by simp [h2]), if_neg (by simp [h3]), if_neg h4]
theorem ent_small {key : ByteArray} {st pins : Int} {hs : List Hdr} {bn tn : Nat} {t g l s e : Int} (h : entryC key st pins hs bn tn t g l s e = 0) : hs.length ≤ 20 ∧ ∀ (i : Nat) r, hs[i]? = some r → r.name.size ≤ 64 ∧ r.value.size ≤ 200 := by
  obtain ⟨_, _, _, z4, _⟩ := entryC_zero h
  obtain ⟨h20, hf⟩ := headsC_zero z4
  exact ⟨h20, fun i r hr => by obtain ⟨x1, x2, _⟩ := faultH_zero (hf i r hr); exact ⟨hword_max x1, x2⟩⟩
theorem ansL_len (l : List Hdr) (a : Int) (src : ByteArray) : (ansL l a src).length ≤ l.length + 2 := by
  unfold ansL
  have := setGo_le ⟨cacheN, src⟩ (setGo ⟨ageN, num.numT (a.tdiv 1000)⟩ false l)
  have := setGo_le ⟨ageN, num.numT (a.tdiv 1000)⟩ l
  omega
end Go.Proofs.YtolkgnnjocmkdaaGreatDoor
/-
  A region that draws its order, whose last operation waits for all others: what is held of the world is held behind each operation but that last one.
-/
namespace Go.Proofs.YtolkgnnjocmkdaaGreatDoor
open Go Go.ChangeShapes Go.WideShapes Go.ChangeAt Go.RowKit
section
variable {P : Program} {ops : Array Oper} {Q : Exit → Act → World → Prop} {S : World → Prop} {m : Nat}
/-- Whatever may come up; behind it S is shown, but where it was operation m. -/
def butLast (P : Program) (ops : Array Oper) (Q : Exit → Act → World → Prop) (S : World → Prop) (m : Nat) : Nat → Array Bool → Act → World → Prop
  | 0, done, a, w => Region.ready .any ops done = [] ∧ Q .normal a w
  | n + 1, done, a, w => (Region.ready .any ops done = [] → Q .normal a w) ∧
      ∀ i ∈ Region.ready .any ops done, wpOp P ops Q i (fun a' w' => (i = m ∨ S w') ∧ butLast P ops Q S m n (done.setIfInBounds i true) a' w') a w
theorem butLast_any : ∀ (n : Nat) (done : Array Bool) (a : Act) (w : World), butLast P ops Q S m n done a w → wpAny P .any ops Q n done a w := by
  intro n
  induction n with
  | zero => intro done a w h; exact h
  | succ n ih => intro done a w h; exact ⟨h.1, fun i hi => wpOp_mono (fun a' w' k => ih _ a' w' k.2) (h.2 i hi)⟩
theorem ready_not_done {done : Array Bool} {i : Nat} (h : i ∈ Region.ready .any ops done) (k : done.getD i false = true) : False := by
  have q := (mem_ready.1 h).1
  rcases Nat.lt_or_ge i done.size with z | z
  · simp [z] at q k
    rw [q] at k
    cases k
  · simp [Array.getElem?_eq_none z] at k
/-- While operation i has not come up, one that waits for it cannot. -/
theorem waits_not {done : Array Bool} {i j : Nat} (hi : i ∈ Region.ready .any ops done) (hj : j ∈ Region.ready .any ops done) (hw : Region.waitsFor .any ops j i = true) : False := by
  obtain ⟨oj, hoj, e, he, hb, rfl⟩ := Region.waitsFor_spec hw
  obtain ⟨_, oj', hoj', hall⟩ := mem_ready.1 hj
  rw [hoj] at hoj'
  cases hoj'
  exact ready_not_done hi (hall e he hb)
/-- One that yields in every world that meets S may be taken first, if the last one waits for it. -/
theorem butLast_first {i : Nat} {oi : Oper} {v : Value} (hi : ops[i]? = some oi) (hsel : ∀ (j : Nat) (o : Oper) cs b, ops[j]? = some o → o.op ≠ .select cs b)
    (hw : Region.waitsFor .any ops m i = true) (hQ : ∀ c a w, Q (.panic c) (a.put oi.dst v) w → Q (.panic c) a w) :
    ∀ (n : Nat) (done : Array Bool) (a : Act) (w : World), (∀ j oj, ops[j]? = some oj → j ≠ i → done.getD j true = false → (∀ e ∈ oj.after, Region.binds .any e = true → e.on ≠ i) → oi.apart ops oj = true) →
      i ∈ Region.ready .any ops done → YieldsIf P ops S oi v a → S w → butLast P ops Q S m n (done.setIfInBounds i true) (a.put oi.dst v) w → butLast P ops Q S m (n + 1) done a w := by
  intro n
  induction n with
  | zero =>
    intro done a w _ hr hy hS H
    refine ⟨fun z => (by rw [z] at hr; cases hr), fun j hj => ?_⟩
    by_cases e : j = i
    · rw [e]; exact hy.wpOp hi hS ⟨.inr hS, H⟩
    · have k := ready_mono hj e
      rw [H.1] at k
      cases k
  | succ n ih =>
    intro done a w hap hr hy hS H
    refine ⟨fun z => (by rw [z] at hr; cases hr), fun j hj => ?_⟩
    by_cases e : j = i
    · rw [e]; exact hy.wpOp hi hS ⟨.inr hS, H⟩
    · have hjm : j ≠ m := fun q => waits_not hr hj (by rw [q]; exact hw)
      obtain ⟨hun, oj, hoj, hall⟩ := mem_ready.1 hj
      have hno : ∀ x ∈ oj.after, Region.binds .any x = true → x.on ≠ i := fun x hx hb q => ready_not_done hr (by have := hall x hx hb; rwa [q] at this)
      have step := wpOp_putIf hoj (hap j oj hoj e hun hno) (fun cs b => hsel i oi cs b hi) (fun cs b => hsel j oj cs b hoj) hQ hy (H.2 j (ready_mono hj e))
      refine wpOp_mono (fun a' w' k => ?_) step
      have hS' : S w' := k.2.1.resolve_left hjm
      refine ⟨.inr hS', ih (done.setIfInBounds j true) a' w' (fun c oc hc hci hcu hcn => hap c oc hc hci ?_ hcn) (ready_mono hr (Ne.symm e)) k.1 hS' ?_⟩
      · by_cases q : j = c
        · rw [← q]; exact hun
        · rwa [getD_set_ne true q] at hcu
      · rw [Array.setIfInBounds_comm _ _ e]
        exact k.2.2
theorem butLast_take {i : Nat} {oi : Oper} {v : Value} {n : Nat} {done : Array Bool} {a : Act} {w : World} (hi : ops[i]? = some oi) (hs : Region.noSelect ops = true)
    (hf : Region.free .any ops done i = true) (hr : (Region.ready .any ops done).contains i = true) (hw : Region.waitsFor .any ops m i = true)
    (hQ : ∀ c a w, Q (.panic c) (a.put oi.dst v) w → Q (.panic c) a w) (hy : YieldsIf P ops S oi v a) (hS : S w)
    (h : butLast P ops Q S m n (done.setIfInBounds i true) (a.put oi.dst v) w) : butLast P ops Q S m (n + 1) done a w :=
  butLast_first hi (Region.noSelect_spec hs) hw hQ n done a w (Region.free_spec hi hf) (by simpa using hr) hy hS h
/-- Only one may come up. -/
theorem butLast_one {i n : Nat} {o : Oper} {done : Array Bool} {a : Act} {w : World} (ho : ops[i]? = some o) (hr : Region.ready .any ops done = [i])
    (h : ∀ K : Act → World → Prop, (∀ a' w', (i = m ∨ S w') → butLast P ops Q S m n (done.setIfInBounds i true) a' w' → K a' w') → if Region.wanted o (yielded ops a.tmps) = true then Oper.wp P o a w K Q else K (a.put o.dst undef) w) :
    butLast P ops Q S m (n + 1) done a w := by
  refine ⟨fun z => (by rw [z] at hr; cases hr), fun j hj => ?_⟩
  rw [hr, List.mem_singleton] at hj
  rw [hj]
  exact wpOp_step ho fun K hK => h K fun a' w' h1 h2 => hK a' w' ⟨h1, h2⟩
theorem butLast_end {done : Array Bool} {a : Act} {w : World} {n : Nat} (hr : Region.ready .any ops done = []) (h : Q .normal a w) : butLast P ops Q S m n done a w := by
  cases n with
  | zero => exact ⟨hr, h⟩
  | succ n => exact ⟨fun _ => h, by rw [hr]; simp⟩
theorem wp_region_last (S : World → Prop) (m : Nat) {id : Nat} {a : Act} {w : World} (hm : P.follows .mixedOrders = true) (h : butLast P ops Q S m ops.size (Array.replicate ops.size false) a w.drew) : (Code.region id ops true).wp P Q a w :=
  wp_region_any hm (butLast_any _ _ _ _ h)
end
end Go.Proofs.YtolkgnnjocmkdaaGreatDoor
/-
  FetchFor: what it answers, plain, and by the model.
-/
namespace Go.Proofs.YtolkgnnjocmkdaaGreatDoor
open Go.ChangeShapes Go.WideShapes Go.ChangeAt Go.RowKit Go.Sort
abbrev getN : ByteArray := ⟨#[71, 69, 84]⟩
abbrev matchN : ByteArray := ⟨#[105, 102, 45, 110, 111, 110, 101, 45, 109, 97, 116, 99, 104]⟩
abbrev sinceN : ByteArray := ⟨#[105, 102, 45, 109, 111, 100, 105, 102, 105, 101, 100, 45, 115, 105, 110, 99, 101]⟩
abbrev matchI : ByteArray := ⟨#[73, 102, 45, 78, 111, 110, 101, 45, 77, 97, 116, 99, 104]⟩
abbrev sinceI : ByteArray := ⟨#[73, 102, 45, 77, 111, 100, 105, 102, 105, 101, 100, 45, 83, 105, 110, 99, 101]⟩
theorem match_low : lowS matchN = matchN := by decide +kernel
theorem since_low : lowS sinceN = sinceN := by decide +kernel
theorem matchI_low : lowS matchI = matchN := by decide +kernel
theorem sinceI_low : lowS sinceI = sinceN := by decide +kernel
/-- The lines that go to an origin. -/
def fetL (l : List Hdr) : List Hdr := dropH sinceN (dropH matchN l)
def fetM (l hs : List Hdr) (has : Bool) : List Hdr := if has = true ∧ ¬ firstV etagN hs = ⟨#[]⟩ ∧ (fetL l).length < 19 then fetL l ++ [⟨matchI, firstV etagN hs⟩] else fetL l
def fetC (rc ec : Int) (has : Bool) : Int := if rc ≠ 0 then rc else if has then ec else 0
def fetS (c : Int) (s : ByteArray) : ByteArray := if c = 0 then s else ⟨#[]⟩
def fetLs (c : Int) (l hs : List Hdr) (has : Bool) : List Hdr := if c = 0 then fetM l hs has else []
def FetRes (c : Int) (h p : ByteArray) (L : List Hdr) (w w' : World) (r : Ending) : Prop :=
  ∃ ra rn rk, r = .returned (.agg #[.int .i64 c, .string (fetS c getN), .string (fetS c h), .string (fetS c p), .slice ra rn rk]) ∧ At w.heap.size w'.heap.size (QR L ra rn rk) w'
theorem OwnH.atHL {w : World} {base : Nat} {v : Value} {l : List Hdr} (h : OwnH w base v l) : At base w.heap.size (HL v l) w :=
  ⟨Nat.le_refl _, HL.dep _ _ _ _, h.lv.1, fun b hb => ⟨h.lv.2 b hb, (World.ownsRow.lt h b hb).2⟩⟩
theorem OwnH.qr {w : World} {base : Nat} {a : Option Addr} {n c : Nat} {l : List Hdr} (h : OwnH w base (.slice a n c) l) (e : n = l.length) : At base w.heap.size (QR l a n c) w := by
  subst e
  exact HLn.of h.atHL
theorem fetL_len (l : List Hdr) : (fetL l).length ≤ l.length := Nat.le_trans (dropH_len _ _) (dropH_len _ _)
theorem fetM_len (l hs : List Hdr) (has : Bool) (h : l.length ≤ 20) : (fetM l hs has).length ≤ 20 := by
  have := fetL_len l
  unfold fetM
  split
  · rename_i k; simp only [List.length_append, List.length_cons, List.length_nil]; omega
  · omega
theorem FetRes.bad {c d : Int} {h p : ByteArray} {l hs : List Hdr} {has : Bool} {w w' : World} (e : c = d) (h0 : d ≠ 0) : FetRes c h p (fetLs c l hs has) w w' (.returned (.agg #[.int .i64 d, .string ⟨#[]⟩, .string ⟨#[]⟩, .string ⟨#[]⟩, .slice none 0 0])) := by
  subst e
  refine ⟨none, 0, 0, ?_, ?_⟩
  · unfold fetS; rw [if_neg h0, if_neg h0, if_neg h0]
  · unfold fetLs; rw [if_neg h0]; exact ⟨Nat.le_refl _, fun X X' h1 h2 hc k => ⟨k.1, HL.dep _ _ _ _ X X' h1 h2 hc k.2⟩, rfl, .inl ⟨rfl, rfl⟩, fun b hb => by cases hb⟩
theorem FetRes.good {c : Int} {h p : ByteArray} {l hs : List Hdr} {has : Bool} {w w' : World} {ra : Option Addr} {rn rk : Nat} (e : c = 0) (k : At w.heap.size w'.heap.size (QR (fetM l hs has) ra rn rk) w') : FetRes c h p (fetLs c l hs has) w w' (.returned (.agg #[.int .i64 0, .string getN, .string h, .string p, .slice ra rn rk])) := by
  subst e
  exact ⟨ra, rn, rk, rfl, k⟩
theorem req_heads {m h p : ByteArray} {l : List Hdr} (hz : reqC m h p l = 0) : headsC l = 0 := by
  by_cases c : lineS m h p = true
  · rw [reqC_ok c] at hz
    by_cases k : headsC l = 0
    · exact k
    · rw [restC_heads k] at hz; exact hz
  · have := reqC_bad (l := l) (Bool.eq_false_iff.2 c); omega
set_option maxRecDepth 100000 in
set_option maxHeartbeats 4000000 in
theorem l5CopyR_any (w : World) (R : Nat) (m h p : ByteArray) (a : Option Addr) (cap : Nat) (l : List Hdr) (hl : l.length ≤ 1048576) (hi : HdsIn w a l) (bx : At R (R + 1) (Bx R [.string m, .string h, .string p, .slice a l.length cap]) w) :
    Calls Tryz.prog 122 #[.pointer (some ⟨R, 0, none⟩)] w fun e w' => (∃ va vc, e = .returned (.agg #[.string m, .string h, .string p, .slice va l.length vc]) ∧ OwnH w' w.heap.size (.slice va l.length vc) l) ∧ Below w.heap.size w w' := by
  have CC : Hid (∀ X, Below w.heap.size w X → Calls Tryz.prog 135 #[.slice a l.length cap] X fun e w' => (∃ va vc, e = .returned (.slice va l.length vc) ∧ OwnH w' X.heap.size (.slice va l.length vc) l) ∧ Below X.heap.size X w') := fun X hX => (l4Copy_in X a cap l hl (hi.keep hX)).mono fun e w' ⟨⟨v, q1, q2⟩, q3⟩ => by
    obtain ⟨va, vc, rfl, _⟩ := row_form q2
    exact ⟨⟨va, vc, q1, q2⟩, q3⟩
  have KB : Hid (At R (R + 1) (Bx R [.string m, .string h, .string p, .slice a l.length cap]) w) := bx
  clear hi bx hl
  generalize l.length = n at *
  have KW := KB.out.al (.cells #[.string ⟨#[]⟩, .string ⟨#[]⟩, .string ⟨#[]⟩, .slice none 0 0] 35)
  have p0 := KW.val.1 0 _ rfl
  have p1 := KW.val.1 1 _ rfl
  have p2 := KW.val.1 2 _ rfl
  have p3 := KW.val.1 3 _ rfl
  have hRw := KB.out.le
  clear KW
  obtain ⟨V, hV⟩ : ∃ V, V = (w.alloc (.cells #[.string ⟨#[]⟩, .string ⟨#[]⟩, .string ⟨#[]⟩, .slice none 0 0] 35)).alloc (.cells #[.string m, .string h, .string p, .slice a n cap] 35) := ⟨_, rfl⟩
  have HV : Hid (V = (w.alloc (.cells #[.string ⟨#[]⟩, .string ⟨#[]⟩, .string ⟨#[]⟩, .slice none 0 0] 35)).alloc (.cells #[.string m, .string h, .string p, .slice a n cap] 35)) := hV
  have KV : Hid (Below w.heap.size w V ∧ At w.heap.size (w.heap.size + 1) (Bx w.heap.size [.string ⟨#[]⟩, .string ⟨#[]⟩, .string ⟨#[]⟩, .slice none 0 0]) V ∧ At (w.heap.size + 1) (w.heap.size + 1 + 1) (Bx (w.heap.size + 1) [.string m, .string h, .string p, .slice a n cap]) V) := by
    rw [hV]
    exact ⟨((Below.refl _ _).alloc (Nat.le_refl _) _).alloc (by simp) _, (Bx.new _ [.string ⟨#[]⟩, .string ⟨#[]⟩, .string ⟨#[]⟩, .slice none 0 0] _).al _, Bx.newAt (by simp) [.string m, .string h, .string p, .slice a n cap] _⟩
  have q3 := (KB.out.keep KV.out.1).val.1 3 _ rfl
  rw [HV.out] at q3
  clear hV
  go_enter Tryz.func122, Tryz.ntmps122
  go_wp2_with fail
  rw [← HV.out]
  refine (CC.out V KV.out.1).mono ?_
  rintro r0 w1 ⟨⟨va, vc, rfl, ho⟩, hb⟩
  have K1 : Hid (Below w.heap.size w w1 ∧ At w.heap.size (w.heap.size + 1) (Bx w.heap.size [.string ⟨#[]⟩, .string ⟨#[]⟩, .string ⟨#[]⟩, .slice none 0 0]) w1 ∧ At (w.heap.size + 1) (w.heap.size + 1 + 1) (Bx (w.heap.size + 1) [.string m, .string h, .string p, .slice a n cap]) w1 ∧ OwnH w1 V.heap.size (.slice va n vc) l ∧ w.heap.size + 2 ≤ V.heap.size) := ⟨KV.out.1.trans (hb.mono KV.out.1.size), KV.out.2.1.keep hb, KV.out.2.2.keep hb, ho, by rw [HV.out]; simp⟩
  clear ho hb KV HV CC KB p0 p1 p2 p3 q3
  have z0 := K1.out.2.1.val.1 0 _ rfl
  have z1 := K1.out.2.1.val.1 1 _ rfl
  have z2 := K1.out.2.1.val.1 2 _ rfl
  have z3 := K1.out.2.1.val.1 3 _ rfl
  have zf0 := K1.out.2.1.val.2 0
  have zf1 := K1.out.2.1.val.2 1
  have zf2 := K1.out.2.1.val.2 2
  have zf3 := K1.out.2.1.val.2 3
  have y0 := K1.out.2.2.1.val.1 0 _ rfl
  have y1 := K1.out.2.2.1.val.1 1 _ rfl
  have y2 := K1.out.2.2.1.val.1 2 _ rfl
  have y3 := K1.out.2.2.1.val.1 3 _ rfl
  have yf3 := K1.out.2.2.1.val.2 3
  have HF : Hid (∀ X, X = putAll (w1.setCell ⟨w.heap.size + 1, 3, none⟩ (.slice va n vc)) w.heap.size 0 [.string m, .string h, .string p, .slice va n vc] → OwnH X w.heap.size (.slice va n vc) l ∧ Below w.heap.size w X) := by
    rintro X rfl
    have hx := K1.out.2.2.2.1
    have hs := K1.out.2.2.2.2
    refine ⟨?_, below_putAll (Nat.le_refl _) _ 0 (K1.out.1.setCell (by simp) _)⟩
    have e : ∀ {Y : World} {b i : Nat} (u : Value), b < V.heap.size → OwnH Y V.heap.size (.slice va n vc) l → OwnH (Y.setCell ⟨b, i, none⟩ u) V.heap.size (.slice va n vc) l := fun u hb k => ownH_set k hb
    have k1 := e (b := w.heap.size + 1) (i := 3) (.slice va n vc) (by omega) hx
    have k2 := e (b := w.heap.size) (i := 0) (.string m) (by omega) k1
    have k3 := e (b := w.heap.size) (i := 1) (.string h) (by omega) k2
    have k4 := e (b := w.heap.size) (i := 2) (.string p) (by omega) k3
    have k5 := e (b := w.heap.size) (i := 3) (.slice va n vc) (by omega) k4
    have hle : w.heap.size ≤ V.heap.size := by omega
    exact row_lower k5 hle
  have KU := K1.out.2.1.set (b := w.heap.size + 1) (i := 3) (.slice va n vc) (.inr (Nat.le_refl _))
  have x0 := KU.val.1 0 _ rfl
  have x1 := KU.val.1 1 _ rfl
  have x2 := KU.val.1 2 _ rfl
  have x3 := KU.val.1 3 _ rfl
  clear K1 KU
  go_wp2_with fail
  exact bodyPost_ret (v := .agg #[.string m, .string h, .string p, .slice va n vc]) (by simp [results, Tryz.results122, go_sem, x0, x1, x2, x3]) rfl ⟨⟨va, vc, rfl, (HF.out _ rfl).1⟩, (HF.out _ rfl).2⟩
end Go.Proofs.YtolkgnnjocmkdaaGreatDoor
/-
  FetchFor by the model: the request that goes to an origin.
-/
namespace Go.Proofs.YtolkgnnjocmkdaaGreatDoor
open Go.ChangeShapes Go.WideShapes Go.ChangeAt Go.RowKit Go.Sort
theorem OwnH.putAll {b lo : Nat} {v : Value} {l : List Hdr} (hb : b < lo) : ∀ (vs : List Value) (i : Nat) {X : World}, OwnH X lo v l → OwnH (putAll X b i vs) lo v l
  | [], _, _, k => k
  | _ :: vs, i, _, k => OwnH.putAll hb vs (i + 1) (ownH_set k hb)
theorem fet_fin {w X : World} {lo : Nat} {v : Value} {M : List Hdr} {vs : List Value} (hb : Below w.heap.size w X) (ho : OwnH X lo v M) (hlo : w.heap.size < lo) : OwnH (putAll X w.heap.size 0 vs) w.heap.size v M ∧ Below w.heap.size w (putAll X w.heap.size 0 vs) :=
  ⟨row_lower (OwnH.putAll hlo vs 0 ho) (Nat.le_of_lt hlo), below_putAll (Nat.le_refl _) vs 0 hb⟩
theorem At.gr {l h : Nat} {C : Nat → Nat → World → Prop} {X X' : World} {own : Option Nat} (k : At l h C X) (g : X.grownBy X' own) (hd : ∀ b, own = some b → b < l ∨ h ≤ b) : At l h C X' :=
  ⟨Nat.le_trans k.le g.size, k.dep, k.dep X X' k.le g.size (fun b o h1 h2 => by
    have hb : b < X.heap.size := by have := k.le; omega
    have hn : some b ≠ own := fun e => by have := hd b e.symm; omega
    exact ⟨World.cell?_of_block (g.block b hb hn), World.frozen?_of_block (g.block b hb hn)⟩) k.val⟩
theorem step_append1H {ops : Array Oper} {o : Oper} {a : Act} {K : Act → World → Prop} {Q : Exit → Act → World → Prop} {E : Prop} (w : World) (hgd : o.guard = none) (s x : Operand)
    (ho : o.op = .call { callee := .builtin .append, args := #[s, x], argTypes := #[33, 33] }) (base : Nat) (v : Value) (l : List Hdr) (r : Hdr) (b0 : Nat)
    (hs : a.eval s = v) (hown : OwnH w base v l) (hx : a.eval x = .slice (some ⟨b0, 0, none⟩) 1 1) (h0 : w.cell? ⟨b0, 0, none⟩ = some (.string r.name)) (h1 : w.cell? ⟨b0, 1, none⟩ = some (.string r.value)) (hl : l.length ≤ 1000) (hbase : base ≤ w.heap.size)
    (h : ∀ va vn vc w', OwnH w' base (.slice va vn vc) (l ++ [r]) → w.grownBy w' v.ownBlock → K (a.put o.dst (.slice va vn vc)) w') :
    if Region.wanted o (yielded ops a.tmps) = true then Oper.wp Tryz.prog o a w K Q else E := by
  have hw : Region.wanted o (yielded ops a.tmps) = true := by simp [Region.wanted, hgd]
  rw [if_pos hw]
  obtain ⟨i0, hi, hz0, hz1, hz2⟩ := info_parts infoHeader
  refine wp_append_lies w s x 33 ho base 110 i0 (.agg #[.string ⟨#[]⟩, .string ⟨#[]⟩]) 2 32 Tryz.underlying33 hi hz0 hz1 hz2 rfl (by decide) v l.length (hdrsW l) hs hown ⟨b0, 0, none⟩ 1 1 (hdrW r) hx rfl ?_ ?_ (by decide) (by unfold maxLen; omega) (by omega) hbase _ rfl ?_
  · intro j u hj
    match j, hj with
    | 0, hj => simp [hdrW] at hj; subst hj; simpa [Addr.add] using h0
    | 1, hj => simp [hdrW] at hj; subst hj; simpa [Addr.add] using h1
  · intro u hu; simp [hdrW] at hu; rcases hu with rfl | rfl <;> rfl
  · intro g cap w' h2 h3 h4 _
    refine h (some ⟨g, 0, none⟩) (l.length + 1) cap w' ?_ h3
    unfold OwnH
    rw [List.length_append, show hdrsW (l ++ [r]) = hdrsW l ++ hdrW r by simp [hdrsW]]
    exact h2
theorem OwnH.n {w : World} {base : Nat} {a : Option Addr} {n c : Nat} {l : List Hdr} (h : OwnH w base (.slice a n c) l) : n = l.length := by
  obtain ⟨x, y, e, _⟩ := OwnH.at h
  simp only [Value.slice.injEq] at e
  exact e.2.1
theorem OwnH.inn {w : World} {base : Nat} {a : Option Addr} {n c : Nat} {l : List Hdr} (h : OwnH w base (.slice a n c) l) : HdsIn w a l := by
  obtain ⟨x, y, e, k⟩ := OwnH.at h
  simp only [Value.slice.injEq] at e
  rw [e.1]; exact k
set_option linter.unusedSimpArgs false in
set_option maxRecDepth 100000 in
set_option maxHeartbeats 16000000 in
theorem l13Fetch_any (w : World) (R B : Nat) (m h p : ByteArray) (a : Option Addr) (cap : Nat) (l : List Hdr) (key : ByteArray) (st : Int) (ha : Option Addr) (hc : Nat) (v3 : Value) (t g lf s e : Int) (b1 b2 : Bool) (v11 : Value) (pins : Int) (hs : List Hdr) (has : Bool) (h0 : headsC l = 0) (he : has = true → headsC hs = 0) (hi : HdsIn w a l) (hh : HdsIn w ha hs) (bx : At R (R + 1) (Bx R [.string m, .string h, .string p, .slice a l.length cap]) w) (be : At B (B + 1) (Bx B [.string key, .int .i64 st, .slice ha hs.length hc, v3, .int .i64 t, .int .i64 g, .int .i64 lf, .int .i64 s, .int .i64 e, .bool b1, .bool b2, v11, .int .i64 pins]) w) :
    Calls Tryz.prog 58 #[.pointer (some ⟨R, 0, none⟩), .pointer (some ⟨B, 0, none⟩), .bool has] w fun r w' => (∃ va vn vc, r = .returned (.agg #[.string getN, .string h, .string p, .slice va vn vc]) ∧ OwnH w' w.heap.size (.slice va vn vc) (fetM l hs has)) ∧ Below w.heap.size w w' := by
  obtain ⟨h20, hz⟩ := first_sizes h0
  have CC : Hid (∀ X, Below w.heap.size w X → Calls Tryz.prog 122 #[.pointer (some ⟨R, 0, none⟩)] X fun e w' => (∃ va vn vc, e = .returned (.agg #[.string m, .string h, .string p, .slice va vn vc]) ∧ OwnH w' X.heap.size (.slice va vn vc) l) ∧ Below X.heap.size X w') := fun X hX => (l5CopyR_any X R m h p a cap l (by omega) (hi.keep hX) (bx.keep hX)).mono fun e w' ⟨⟨va, vc, q1, q2⟩, q3⟩ => ⟨⟨va, _, vc, q1, q2⟩, q3⟩
  have CD1 : Hid (∀ X lo va vn vc, OwnH X lo (.slice va vn vc) l → Calls Tryz.prog 123 #[.slice va vn vc, .string matchN] X fun e w' => (∃ va vn vc, e = .returned (.slice va vn vc) ∧ OwnH w' X.heap.size (.slice va vn vc) (dropH matchN l)) ∧ Below X.heap.size X w') := fun X lo va vn vc k => by
    have e1 := k.n
    subst e1
    exact (l4Drop_any X va vc l matchN h20 (fun i r hr => (hz i r hr).1) (by decide) k.inn).mono fun e w' ⟨⟨v, q1, q2⟩, q3⟩ => by
      rw [match_low] at q2
      obtain ⟨a2, c2, rfl, _⟩ := row_form q2
      exact ⟨⟨a2, _, c2, q1, q2⟩, q3⟩
  have CD2 : Hid (∀ X lo va vn vc, OwnH X lo (.slice va vn vc) (dropH matchN l) → Calls Tryz.prog 123 #[.slice va vn vc, .string sinceN] X fun e w' => (∃ va vn vc, e = .returned (.slice va vn vc) ∧ OwnH w' X.heap.size (.slice va vn vc) (fetL l)) ∧ Below X.heap.size X w') := fun X lo va vn vc k => by
    have e1 := k.n
    subst e1
    obtain ⟨x20, xz⟩ := first_sizes (drop_heads (x := matchN) h0)
    exact (l4Drop_any X va vc _ sinceN x20 (fun i r hr => (xz i r hr).1) (by decide) k.inn).mono fun e w' ⟨⟨v, q1, q2⟩, q3⟩ => by
      rw [since_low] at q2
      obtain ⟨a2, c2, rfl, _⟩ := row_form q2
      exact ⟨⟨a2, _, c2, q1, q2⟩, q3⟩
  have CE : Hid (has = true → ∀ X, Below w.heap.size w X → Calls Tryz.prog 124 #[.slice ha hs.length hc] X fun e w' => e = .returned (.string (firstV etagN hs)) ∧ Below X.heap.size X w') := fun k X hX => l6Etag_any X ha hc hs (he k) (hh.keep hX)
  have HL0 : Hid (∀ va vn vc X lo, OwnH X lo (.slice va vn vc) (fetL l) → vn = (fetL l).length ∧ vn ≤ 20) := fun va vn vc X lo k => ⟨k.n, by have := fetL_len l; have := k.n; omega⟩
  have HM1 : Hid (has = false → fetM l hs has = fetL l) := fun k => by unfold fetM; rw [if_neg (by simp [k])]
  have HM2 : Hid (firstV etagN hs = ⟨#[]⟩ → fetM l hs has = fetL l) := fun k => by unfold fetM; rw [if_neg (by simp [k])]
  have HM3 : Hid (¬ (fetL l).length < 19 → fetM l hs has = fetL l) := fun k => by unfold fetM; rw [if_neg (by simp [k])]
  have HM4 : Hid (has = true → ¬ firstV etagN hs = ⟨#[]⟩ → (fetL l).length < 19 → fetM l hs has = fetL l ++ [⟨matchI, firstV etagN hs⟩]) := fun k1 k2 k3 => by unfold fetM; rw [if_pos ⟨k1, k2, k3⟩]
  have KE : Hid (At B (B + 1) (Bx B [.string key, .int .i64 st, .slice ha hs.length hc, v3, .int .i64 t, .int .i64 g, .int .i64 lf, .int .i64 s, .int .i64 e, .bool b1, .bool b2, v11, .int .i64 pins]) w) := be
  obtain ⟨W, hW⟩ : ∃ W, W = w.alloc (.cells #[.string ⟨#[]⟩, .string ⟨#[]⟩, .string ⟨#[]⟩, .slice none 0 0] 35) := ⟨_, rfl⟩
  have HW : Hid (W = w.alloc (.cells #[.string ⟨#[]⟩, .string ⟨#[]⟩, .string ⟨#[]⟩, .slice none 0 0] 35)) := hW
  have KW : Hid (Below w.heap.size w W ∧ At w.heap.size (w.heap.size + 1) (Bx w.heap.size [.string ⟨#[]⟩, .string ⟨#[]⟩, .string ⟨#[]⟩, .slice none 0 0]) W) := by
    rw [hW]
    exact ⟨(Below.refl _ _).alloc (Nat.le_refl _) _, Bx.new _ [.string ⟨#[]⟩, .string ⟨#[]⟩, .string ⟨#[]⟩, .slice none 0 0] _⟩
  clear hW hi hh bx be h0 he h20 hz
  generalize l.length = ln at *
  generalize hs.length = hn at *
  generalize fetM l hs has = M at *
  generalize firstV etagN hs = E at *
  generalize fetL l = L2 at *
  generalize dropH matchN l = L1 at *
  go_enter Tryz.func58, Tryz.ntmps58
  go_wp2_with fail
  rw [← HW.out]
  refine (CC.out W KW.out.1).mono ?_
  rintro r0 w1 ⟨⟨va, vn, vc, rfl, ho⟩, hb⟩
  obtain ⟨V, hV⟩ : ∃ V, V = w1.alloc (.cells #[.string getN, .string h, .string p, .slice va vn vc] 35) := ⟨_, rfl⟩
  have HV : Hid (V = w1.alloc (.cells #[.string getN, .string h, .string p, .slice va vn vc] 35)) := hV
  have K1 : Hid (Below w.heap.size w V ∧ At w.heap.size (w.heap.size + 1) (Bx w.heap.size [.string ⟨#[]⟩, .string ⟨#[]⟩, .string ⟨#[]⟩, .slice none 0 0]) V ∧ OwnH V W.heap.size (.slice va vn vc) l ∧ At w1.heap.size (w1.heap.size + 1) (Bx w1.heap.size [.string getN, .string h, .string p, .slice va vn vc]) V ∧ w.heap.size < w1.heap.size) := by
    have b1 := KW.out.1.trans (hb.mono KW.out.1.size)
    have aV : Below w1.heap.size w1 V := by rw [hV]; exact (Below.refl _ _).alloc (Nat.le_refl _) _
    refine ⟨b1.trans (aV.mono b1.size), (KW.out.2.keep hb).keep aV, ho.below aV, by rw [hV]; exact Bx.newAt rfl [.string getN, .string h, .string p, .slice va vn vc] _, ?_⟩
    have := (KW.out.2.keep hb).le
    omega
  clear ho hb KW CC hV
  go_wp2_with fail
  rw [← HV.out]
  clear HW HV
  generalize w1.heap.size = O at *
  refine (CD1.out V _ va vn vc K1.out.2.2.1).mono ?_
  rintro r0 w2 ⟨⟨xa, xn, xc, rfl, ho⟩, hb⟩
  have K2 : Hid (Below w.heap.size w w2 ∧ At w.heap.size (w.heap.size + 1) (Bx w.heap.size [.string ⟨#[]⟩, .string ⟨#[]⟩, .string ⟨#[]⟩, .slice none 0 0]) w2 ∧ OwnH w2 V.heap.size (.slice xa xn xc) L1 ∧ At O (O + 1) (Bx O [.string getN, .string h, .string p, .slice va vn vc]) w2 ∧ w.heap.size < O) := ⟨K1.out.1.trans (hb.mono K1.out.1.size), K1.out.2.1.keep hb, ho, K1.out.2.2.2.1.keep hb, K1.out.2.2.2.2⟩
  clear ho hb K1 CD1
  go_wp2_with fail
  refine (CD2.out w2 _ xa xn xc K2.out.2.2.1).mono ?_
  rintro r0 w3 ⟨⟨ya, yn, yc, rfl, ho⟩, hb⟩
  obtain ⟨U, hU⟩ : ∃ U, U = w3.setCell ⟨O, 3, none⟩ (.slice ya yn yc) := ⟨_, rfl⟩
  have HU : Hid (U = w3.setCell ⟨O, 3, none⟩ (.slice ya yn yc)) := hU
  have HYN := hidL (HL0.out ya yn yc w3 _ ho)
  have K3 : Hid (Below w.heap.size w U ∧ At w.heap.size (w.heap.size + 1) (Bx w.heap.size [.string ⟨#[]⟩, .string ⟨#[]⟩, .string ⟨#[]⟩, .slice none 0 0]) U ∧ OwnH U w2.heap.size (.slice ya yn yc) L2 ∧ At O (O + 1) (Bx O [.string getN, .string h, .string p, .slice ya yn yc]) U ∧ w.heap.size < O ∧ O < w2.heap.size ∧ w2.heap.size ≤ U.heap.size) := by
    have hOw := K2.out.2.2.2.1.le
    have hwO := K2.out.2.2.2.2
    rw [hU]
    refine ⟨(K2.out.1.trans (hb.mono K2.out.1.size)).setCell (by simp; omega) _, (K2.out.2.1.keep hb).set _ (.inr (by omega)), ownH_set ho (by omega), Bx.put (K2.out.2.2.2.1.keep hb) 3 _ (by simp), hwO, by omega, by simpa using hb.size⟩
  have zO := (K2.out.2.2.2.1.keep hb).val.1 3 _ rfl
  have zF := (K2.out.2.2.2.1.keep hb).val.2 3
  clear ho hb K2 CD2 hU HL0
  cases has
  · have HM := hidL (HM1.out rfl)
    clear HM1 HM2 HM3 HM4 CE
    have z0 := K3.out.2.1.val.1 0 _ rfl
    have z1 := K3.out.2.1.val.1 1 _ rfl
    have z2 := K3.out.2.1.val.1 2 _ rfl
    have z3 := K3.out.2.1.val.1 3 _ rfl
    have zf0 := K3.out.2.1.val.2 0
    have zf1 := K3.out.2.1.val.2 1
    have zf2 := K3.out.2.1.val.2 2
    have zf3 := K3.out.2.1.val.2 3
    have y0 := K3.out.2.2.2.1.val.1 0 _ rfl
    have y1 := K3.out.2.2.2.1.val.1 1 _ rfl
    have y2 := K3.out.2.2.2.1.val.1 2 _ rfl
    have y3 := K3.out.2.2.2.1.val.1 3 _ rfl
    rw [HU.out] at z0 z1 z2 z3 zf0 zf1 zf2 zf3 y0 y1 y2 y3
    have HF := hidL (fet_fin (vs := [.string getN, .string h, .string p, .slice ya yn yc]) K3.out.1 K3.out.2.2.1 (by have := K3.out.2.2.2.2; omega))
    rw [← HM.out, HU.out] at HF
    go_wp2_with fail
    exact bodyPost_ret (v := .agg #[.string getN, .string h, .string p, .slice ya yn yc]) (by simp [results, Tryz.results58, go_sem, z0, z1, z2, z3]) rfl ⟨⟨ya, yn, yc, rfl, HF.out.1⟩, HF.out.2⟩
  · clear HM1
    have CE1 := hidL (CE.out rfl U K3.out.1)
    have y3 := K3.out.2.2.2.1.val.1 3 _ rfl
    have b2 := (KE.out.keep K3.out.1).val.1 2 _ rfl
    rw [HU.out] at b2
    go_wp2_with fail
    rw [← HU.out]
    refine CE1.out.mono ?_
    rintro r0 w4 ⟨rfl, hb⟩
    have K4 : Hid (Below w.heap.size w w4 ∧ At w.heap.size (w.heap.size + 1) (Bx w.heap.size [.string ⟨#[]⟩, .string ⟨#[]⟩, .string ⟨#[]⟩, .slice none 0 0]) w4 ∧ OwnH w4 w2.heap.size (.slice ya yn yc) L2 ∧ At O (O + 1) (Bx O [.string getN, .string h, .string p, .slice ya yn yc]) w4 ∧ w.heap.size < O ∧ O < w2.heap.size ∧ w2.heap.size ≤ w4.heap.size) := ⟨K3.out.1.trans (hb.mono K3.out.1.size), K3.out.2.1.keep hb, K3.out.2.2.1.below hb, K3.out.2.2.2.1.keep hb, K3.out.2.2.2.2.1, K3.out.2.2.2.2.2.1, Nat.le_trans K3.out.2.2.2.2.2.2 hb.size⟩
    clear hb K3 HU CE1 zO zF y3 b2
    have z0 := K4.out.2.1.val.1 0 _ rfl
    have z1 := K4.out.2.1.val.1 1 _ rfl
    have z2 := K4.out.2.1.val.1 2 _ rfl
    have z3 := K4.out.2.1.val.1 3 _ rfl
    have zf0 := K4.out.2.1.val.2 0
    have zf1 := K4.out.2.1.val.2 1
    have zf2 := K4.out.2.1.val.2 2
    have zf3 := K4.out.2.1.val.2 3
    have y0 := K4.out.2.2.2.1.val.1 0 _ rfl
    have y1 := K4.out.2.2.2.1.val.1 1 _ rfl
    have y2 := K4.out.2.2.2.1.val.1 2 _ rfl
    have y3 := K4.out.2.2.2.1.val.1 3 _ rfl
    by_cases hE : E = ⟨#[]⟩
    · have HM := hidL (HM2.out hE)
      clear HM2 HM3 HM4
      subst hE
      have HF := hidL (fet_fin (vs := [.string getN, .string h, .string p, .slice ya yn yc]) K4.out.1 K4.out.2.2.1 (by have := K4.out.2.2.2.2; omega))
      rw [← HM.out] at HF
      go_wp2_with fail
      exact bodyPost_ret (v := .agg #[.string getN, .string h, .string p, .slice ya yn yc]) (by simp [results, Tryz.results58, go_sem, z0, z1, z2, z3]) rfl ⟨⟨ya, yn, yc, rfl, HF.out.1⟩, HF.out.2⟩
    have ee := etxt_ne hE
    by_cases hy : L2.length < 19
    · have HM := hidL (HM4.out trivial hE hy)
      have hy' : (yn : Int) < 19 := by have := HYN.out.1; omega
      clear HM2 HM3 HM4 hE
      have CE1 := hidL (fun X hX => CE.out trivial X hX)
      have HKS : Hid (∀ X, Below w4.heap.size w4 X → (fun X : World => X.cell? ⟨O, 3, none⟩ = some (.slice ya yn yc) ∧ X.cell? ⟨B, 2, none⟩ = some (.slice ha hn hc)) X) := fun X hX => ⟨(K4.out.2.2.2.1.keep hX).val.1 3 _ rfl, (KE.out.keep (K4.out.1.trans (hX.mono K4.out.1.size))).val.1 2 _ rfl⟩
      have B0 : Hid (Below w4.heap.size w4 w4.drew) := (Below.refl _ _).drew
      have HS0 := hidL (HKS.out _ B0.out)
      go_wp2_with fail
      clear z0 z1 z2 z3 zf0 zf1 zf2 zf3 y0 y1 y2 y3
      refine wp_region_last (fun X : World => X.cell? ⟨O, 3, none⟩ = some (.slice ya yn yc) ∧ X.cell? ⟨B, 2, none⟩ = some (.slice ha hn hc)) 11 (by kernel_rfl) ?_
      refine butLast_take (i := 0) (v := .pointer (some ⟨O, 3, none⟩)) rfl (by kernel_rfl) (by kernel_rfl) (by kernel_rfl) (by kernel_rfl) (fun _ _ _ h => h) (Or.inl ⟨by kernel_rfl, ?_⟩) HS0.out ?_
      · rintro X ⟨s1, s2⟩
        go_simp
      try simp only [Act.put, List.setIfInBounds_toArray, List.set_cons_zero, List.set_cons_succ]
      refine butLast_take (i := 1) (v := .slice ya yn yc) rfl (by kernel_rfl) (by kernel_rfl) (by kernel_rfl) (by kernel_rfl) (fun _ _ _ h => h) (Or.inl ⟨by kernel_rfl, ?_⟩) HS0.out ?_
      · rintro X ⟨s1, s2⟩
        go_simp
      try simp only [Act.put, List.setIfInBounds_toArray, List.set_cons_zero, List.set_cons_succ]
      refine butLast_take (i := 2) (v := .pointer (some ⟨B, 0, none⟩)) rfl (by kernel_rfl) (by kernel_rfl) (by kernel_rfl) (by kernel_rfl) (fun _ _ _ h => h) (Or.inl ⟨by kernel_rfl, ?_⟩) HS0.out ?_
      · rintro X ⟨s1, s2⟩
        go_simp
      try simp only [Act.put, List.setIfInBounds_toArray, List.set_cons_zero, List.set_cons_succ]
      refine butLast_take (i := 3) (v := .pointer (some ⟨B, 0, none⟩)) rfl (by kernel_rfl) (by kernel_rfl) (by kernel_rfl) (by kernel_rfl) (fun _ _ _ h => h) (Or.inl ⟨by kernel_rfl, ?_⟩) HS0.out ?_
      · rintro X ⟨s1, s2⟩
        go_simp
      try simp only [Act.put, List.setIfInBounds_toArray, List.set_cons_zero, List.set_cons_succ]
      refine butLast_take (i := 4) (v := .pointer (some ⟨B, 2, none⟩)) rfl (by kernel_rfl) (by kernel_rfl) (by kernel_rfl) (by kernel_rfl) (fun _ _ _ h => h) (Or.inl ⟨by kernel_rfl, ?_⟩) HS0.out ?_
      · rintro X ⟨s1, s2⟩
        go_simp
      try simp only [Act.put, List.setIfInBounds_toArray, List.set_cons_zero, List.set_cons_succ]
      refine butLast_take (i := 5) (v := .slice ha hn hc) rfl (by kernel_rfl) (by kernel_rfl) (by kernel_rfl) (by kernel_rfl) (fun _ _ _ h => h) (Or.inl ⟨by kernel_rfl, ?_⟩) HS0.out ?_
      · rintro X ⟨s1, s2⟩
        go_simp
      try simp only [Act.put, List.setIfInBounds_toArray, List.set_cons_zero, List.set_cons_succ]
      refine butLast_one (i := 6) rfl (by kernel_rfl) (fun K hK => ?_)
      go_simp
      refine (CE1.out _ (K4.out.1.trans (B0.out.mono K4.out.1.size))).mono ?_
      rintro r0 wa ⟨rfl, hb⟩
      have BA : Hid (Below w4.heap.size w4 wa) := B0.out.trans (hb.mono B0.out.size)
      clear hb
      refine hK _ _ (.inr (HKS.out _ BA.out)) ?_
      clear hK K
      try simp only [Act.put, List.setIfInBounds_toArray, List.set_cons_zero, List.set_cons_succ]
      refine butLast_one (i := 7) rfl (by kernel_rfl) (fun K hK => ?_)
      go_simp
      refine hK _ _ (.inr (HKS.out _ BA.out)) ?_
      clear hK K
      try simp only [Act.put, List.setIfInBounds_toArray, List.set_cons_zero, List.set_cons_succ]
      have BB : Hid (Below w4.heap.size w4 (wa.alloc (.cells #[.string matchI, .string E] 110))) := BA.out.alloc BA.out.size _
      refine butLast_one (i := 8) rfl (by kernel_rfl) (fun K hK => ?_)
      go_simp
      refine hK _ _ (.inr (HKS.out _ BB.out)) ?_
      clear hK K
      try simp only [Act.put, List.setIfInBounds_toArray, List.set_cons_zero, List.set_cons_succ]
      obtain ⟨X3, hX3⟩ : ∃ X3, X3 = wa.alloc (.cells #[.string matchI, .string E] 110) := ⟨_, rfl⟩
      have N3 : Hid (X3.cell? ⟨wa.heap.size, 0, none⟩ = some (.string matchI) ∧ X3.cell? ⟨wa.heap.size, 1, none⟩ = some (.string E)) := by rw [hX3]; exact ⟨by simp, by simp⟩
      rw [← hX3] at BB ⊢
      clear hX3
      have O3 := hidL (K4.out.2.2.1.below BB.out)
      have bs3 : Hid (w2.heap.size ≤ X3.heap.size) := Nat.le_trans K4.out.2.2.2.2.2.2 BB.out.size
      refine butLast_one (i := 9) rfl (by kernel_rfl) (fun K hK => ?_)
      refine step_append1H X3 (by rfl) _ _ (by rfl) w2.heap.size _ L2 ⟨matchI, E⟩ wa.heap.size (by rfl) O3.out (by rfl) N3.out.1 N3.out.2 (by omega) bs3.out ?_
      intro ga gn gc w5 h41 h42
      have hn1 : ∀ b, (Value.slice ya yn yc).ownBlock = some b → w2.heap.size ≤ b := fun b hb => own_geH K4.out.2.2.1 b hb
      have hq := K4.out.2.2.2.2
      have bX := K4.out.1.trans (BB.out.mono K4.out.1.size)
      have O5 := (K4.out.2.2.2.1.keep BB.out).gr h42 (fun b hb => .inr (by have := hn1 b hb; omega))
      have R5 := (K4.out.2.1.keep BB.out).gr h42 (fun b hb => .inr (by have := hn1 b hb; omega))
      have E5 := (KE.out.keep bX).gr h42 (fun b hb => .inr (by have := hn1 b hb; have := KE.out.le; omega))
      have W5 : Below w.heap.size w w5 := bX.trans ⟨h42.os, h42.tape, h42.output, h42.size, fun k hk => h42.block k (Nat.lt_of_lt_of_le hk bX.size) (fun e => by have := hn1 k e.symm; omega)⟩
      have K5 : Hid (Below w.heap.size w w5 ∧ At w.heap.size (w.heap.size + 1) (Bx w.heap.size [.string ⟨#[]⟩, .string ⟨#[]⟩, .string ⟨#[]⟩, .slice none 0 0]) w5 ∧ OwnH w5 w2.heap.size (.slice ga gn gc) (L2 ++ [⟨matchI, E⟩]) ∧ At O (O + 1) (Bx O [.string getN, .string h, .string p, .slice ya yn yc]) w5 ∧ w.heap.size < O ∧ O < w2.heap.size) := ⟨W5, R5, h41, O5, hq.1, hq.2.1⟩
      have HS5 := hidL (show w5.cell? ⟨O, 3, none⟩ = some (.slice ya yn yc) ∧ w5.cell? ⟨B, 2, none⟩ = some (.slice ha hn hc) from ⟨O5.val.1 3 _ rfl, E5.val.1 2 _ rfl⟩)
      clear h41 h42 hn1 hq bX O5 R5 E5 W5 O3 bs3 N3 BA BB B0 HS0 HKS K4 CE1 CE
      refine hK _ _ (.inr HS5.out) ?_
      clear hK K
      try simp only [Act.put, List.setIfInBounds_toArray, List.set_cons_zero, List.set_cons_succ]
      refine butLast_one (i := 10) rfl (by kernel_rfl) (fun K hK => ?_)
      go_simp
      refine hK _ _ (.inr HS5.out) ?_
      clear hK K
      try simp only [Act.put, List.setIfInBounds_toArray, List.set_cons_zero, List.set_cons_succ]
      have y3 := K5.out.2.2.2.1.val.1 3 _ rfl
      have yf3 := K5.out.2.2.2.1.val.2 3
      refine butLast_one (i := 11) rfl (by kernel_rfl) (fun K hK => ?_)
      go_simp
      refine hK _ _ (.inl rfl) ?_
      clear hK K
      refine butLast_end (by kernel_rfl) ?_
      have K6 : Hid (Below w.heap.size w (w5.setCell ⟨O, 3, none⟩ (.slice ga gn gc)) ∧ At w.heap.size (w.heap.size + 1) (Bx w.heap.size [.string ⟨#[]⟩, .string ⟨#[]⟩, .string ⟨#[]⟩, .slice none 0 0]) (w5.setCell ⟨O, 3, none⟩ (.slice ga gn gc)) ∧ OwnH (w5.setCell ⟨O, 3, none⟩ (.slice ga gn gc)) w2.heap.size (.slice ga gn gc) M ∧ At O (O + 1) (Bx O [.string getN, .string h, .string p, .slice ga gn gc]) (w5.setCell ⟨O, 3, none⟩ (.slice ga gn gc))) := by
        have hq := K5.out.2.2.2.2
        refine ⟨K5.out.1.setCell (by simp; omega) _, K5.out.2.1.set _ (.inr (by omega)), ?_, Bx.put K5.out.2.2.2.1 3 _ (by simp)⟩
        rw [HM.out]
        exact ownH_set K5.out.2.2.1 hq.2
      have HF := hidL (fet_fin (vs := [.string getN, .string h, .string p, .slice ga gn gc]) K6.out.1 K6.out.2.2.1 (by have := K5.out.2.2.2.2; omega))
      have z0 := K6.out.2.1.val.1 0 _ rfl
      have z1 := K6.out.2.1.val.1 1 _ rfl
      have z2 := K6.out.2.1.val.1 2 _ rfl
      have z3 := K6.out.2.1.val.1 3 _ rfl
      have zf0 := K6.out.2.1.val.2 0
      have zf1 := K6.out.2.1.val.2 1
      have zf2 := K6.out.2.1.val.2 2
      have zf3 := K6.out.2.1.val.2 3
      have x0 := K6.out.2.2.2.val.1 0 _ rfl
      have x1 := K6.out.2.2.2.val.1 1 _ rfl
      have x2 := K6.out.2.2.2.val.1 2 _ rfl
      have x3 := K6.out.2.2.2.val.1 3 _ rfl
      clear y3 yf3 K5 K6 HS5
      go_wp2_with fail
      exact bodyPost_ret (v := .agg #[.string getN, .string h, .string p, .slice ga gn gc]) (by simp [results, Tryz.results58, go_sem, z0, z1, z2, z3]) rfl ⟨⟨ga, gn, gc, rfl, HF.out.1⟩, HF.out.2⟩
    · have HM := hidL (HM3.out hy)
      have hy' : ¬ (yn : Int) < 19 := by have := HYN.out.1; omega
      clear HM2 HM3 HM4 hE
      have HF := hidL (fet_fin (vs := [.string getN, .string h, .string p, .slice ya yn yc]) K4.out.1 K4.out.2.2.1 (by have := K4.out.2.2.2.2; omega))
      rw [← HM.out] at HF
      go_wp2_with fail
      exact bodyPost_ret (v := .agg #[.string getN, .string h, .string p, .slice ya yn yc]) (by simp [results, Tryz.results58, go_sem, z0, z1, z2, z3]) rfl ⟨⟨ya, yn, yc, rfl, HF.out.1⟩, HF.out.2⟩
end Go.Proofs.YtolkgnnjocmkdaaGreatDoor
