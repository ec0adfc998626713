/-
  The text of a list of items, plainly.
-/
import Derived.Test.YtibomkcbopkpkaaDoorItemFaultSpec
import Derived.Test.YtibomkcbopkpkaaDoorQuoteBase
import Derived.Lib.Join
namespace Go.Proofs.YtibomkcbopkpkaaDoor
def itemL (r : Rec) : List UInt8 := if r.has = false then r.name.data.toList else if wordS r.value = true then r.name.data.toList ++ [61] ++ r.value.data.toList else r.name.data.toList ++ [61] ++ quoteL r.value.data.toList
theorem itemL_bare {r : Rec} (h : r.has = false) : itemL r = r.name.data.toList := by simp only [itemL, if_pos h]
theorem itemL_word {r : Rec} (h : r.has = true) (hw : wordS r.value = true) : itemL r = r.name.data.toList ++ [61] ++ r.value.data.toList := by simp only [itemL]; rw [if_neg (by rw [h]; decide), if_pos hw]
theorem itemL_quote {r : Rec} (h : r.has = true) (hw : wordS r.value = false) : itemL r = r.name.data.toList ++ [61] ++ quoteL r.value.data.toList := by simp only [itemL]; rw [if_neg (by rw [h]; decide), if_neg (by rw [hw]; decide)]
def joinL (l : List Rec) : List UInt8 := Lib.join (l.map itemL) [44, 32]
def sepK (k : Nat) : List UInt8 := if k = 0 then [] else [44, 32]
theorem joinL_snoc (l : List Rec) (r : Rec) : joinL (l ++ [r]) = joinL l ++ sepK l.length ++ itemL r := by
  cases l with
  | nil => simp [joinL, sepK, Lib.join, List.intercalate]
  | cons x l =>
    unfold joinL
    rw [List.map_append, List.map_cons, List.cons_append, Lib.join_cons, Lib.join_cons]
    simp [Lib.joinTail, sepK]
theorem take_rec {l : List Rec} {k : Nat} {r : Rec} (h : l[k]? = some r) : l.take (k + 1) = l.take k ++ [r] := by rw [List.take_add_one, h]; rfl
theorem joinL_take {l : List Rec} {k : Nat} {r : Rec} (h : l[k]? = some r) : joinL (l.take (k + 1)) = joinL (l.take k) ++ sepK k ++ itemL r := by
  have hk : k < l.length := (List.getElem?_eq_some_iff.1 h).1
  rw [take_rec h, joinL_snoc, List.length_take, Nat.min_eq_left (by omega)]
def faultL : List Rec → Int
  | [] => 0
  | r :: l => if faultR r = 0 then faultL l else faultR r
theorem faultL_ok {r : Rec} {l : List Rec} (h : faultR r = 0) : faultL (r :: l) = faultL l := by rw [faultL, if_pos h]
theorem faultL_bad {r : Rec} {l : List Rec} (h : faultR r ≠ 0) : faultL (r :: l) = faultR r := by rw [faultL, if_neg h]
def textC (l : List Rec) : Int := if 20 < l.length then 2 else if faultL l = 0 then (if 1000 < (joinL l).length then 2 else 0) else faultL l
def textT (l : List Rec) : ByteArray := if textC l = 0 then ⟨(joinL l).toArray⟩ else ⟨#[]⟩
theorem fault_zero {r : Rec} (h : faultR r = 0) : wordS r.name = true ∧ r.value.size ≤ 1000 ∧ plainL r.value.data.toList = true ∧ (r.has = false → r.value.size = 0) := by
  unfold faultR at h
  cases hw : wordS r.name
  · rw [hw, if_pos rfl] at h; cases h
  · rw [hw, if_neg (by decide)] at h
    by_cases c1 : r.has = false ∧ r.value.size ≠ 0
    · rw [if_pos c1] at h; cases h
    · rw [if_neg c1] at h
      by_cases c2 : 1000 < r.value.size
      · rw [if_pos c2] at h; cases h
      · rw [if_neg c2] at h
        cases hp : plainL r.value.data.toList
        · rw [hp, if_pos rfl] at h; cases h
        · refine ⟨rfl, by omega, rfl, fun hh => ?_⟩
          by_cases c3 : r.value.size = 0
          · exact c3
          · exact absurd ⟨hh, c3⟩ c1
theorem word_max {s : ByteArray} (h : wordS s = true) : s.size ≤ 64 := by
  by_cases c : 64 < s.size
  · rw [wordS_long s c] at h; cases h
  · omega
theorem itemL_len {r : Rec} (h : faultR r = 0) : (itemL r).length ≤ 2067 := by
  obtain ⟨h1, h2, _⟩ := fault_zero h
  have e1 : r.name.data.toList.length = r.name.size := by simp
  have e2 : r.value.data.toList.length = r.value.size := by simp
  have e3 := quoteB_len r.value.data.toList
  have h3 := word_max h1
  unfold itemL
  split
  · omega
  · split
    · simp only [List.length_append, List.length_cons, List.length_nil]; omega
    · simp only [quoteL, List.length_append, List.length_cons, List.length_nil]; omega
theorem quoteT_max (s : ByteArray) : (quoteT s).size ≤ 2 * s.size + 2 := by
  have h1 := quoteB_len s.data.toList
  have e : (quoteT s).size = (quoteB s.data.toList).length + 2 := by simp [quoteT, quoteL, ByteArray.size]
  rw [e]
  simp only [Array.length_toList] at h1
  have e2 : s.data.size = s.size := rfl
  omega
theorem app_list (a b : ByteArray) : (a ++ b).data.toList = a.data.toList ++ b.data.toList := by simp
theorem sepK_len (k : Nat) : (sepK k).length ≤ 2 := by unfold sepK; split <;> simp
theorem textC_many {l : List Rec} (h : 20 < l.length) : textC l = 2 ∧ textT l = ⟨#[]⟩ := by
  have e : textC l = 2 := by simp only [textC, if_pos h]
  exact ⟨e, by unfold textT; rw [e]; rfl⟩
theorem textC_fault {l : List Rec} (h : ¬ 20 < l.length) (hf : faultL l ≠ 0) : textC l = faultL l ∧ textT l = ⟨#[]⟩ := by
  have e : textC l = faultL l := by simp only [textC]; rw [if_neg h, if_neg hf]
  exact ⟨e, by unfold textT; rw [e, if_neg hf]⟩
theorem textC_long {l : List Rec} (h : ¬ 20 < l.length) (hf : faultL l = 0) (hj : 1000 < (joinL l).length) : textC l = 2 ∧ textT l = ⟨#[]⟩ := by
  have e : textC l = 2 := by simp only [textC]; rw [if_neg h, if_pos hf, if_pos hj]
  exact ⟨e, by unfold textT; rw [e]; rfl⟩
theorem textC_ok {l : List Rec} (h : ¬ 20 < l.length) (hf : faultL l = 0) (hj : ¬ 1000 < (joinL l).length) : textC l = 0 ∧ textT l = ⟨(joinL l).toArray⟩ := by
  have e : textC l = 0 := by simp only [textC]; rw [if_neg h, if_pos hf, if_neg hj]
  exact ⟨e, by unfold textT; rw [e]; rfl⟩
theorem ret_ct {a b : Int} {s t : ByteArray} (h : a = b ∧ s = t) : Ending.returned (.agg #[.int .i64 b, .string t]) = .returned (.agg #[.int .i64 a, .string s]) := by rw [h.1, h.2]
end Go.Proofs.YtibomkcbopkpkaaDoor
