/-
  What is read back, set and dropped, plainly. No Go in sight.
-/
import Derived.Test.YthlenlijdlfdeaaDoorHReadPlain
import Derived.Test.YthlenlijdlfdeaaDoorHSetAny
import Derived.Test.YthlenlijdlfdeaaDoorSameHeads
namespace Go.Proofs.YthlenlijdlfdeaaDoor
theorem trim_space {v : List UInt8} (h : Lib.trimS v [32, 9] = v) : Lib.trimS (32 :: v) [32, 9] = v := by
  unfold Lib.trimS Lib.trimLeftS Lib.trimRightS at *
  have p32 : ([32, 9] : List UInt8).contains 32 = true := by decide
  generalize hp : (fun x => ([32, 9] : List UInt8).contains x) = p at *
  have q32 : p 32 = true := by rw [← hp]; exact p32
  have l1 : ((v.reverse.dropWhile p).reverse.dropWhile p).length ≤ (v.reverse.dropWhile p).reverse.length := (List.dropWhile_sublist p).length_le
  have l2 : (v.reverse.dropWhile p).length ≤ v.reverse.length := (List.dropWhile_sublist p).length_le
  rw [h] at l1
  rw [List.length_reverse] at l1
  have e1 : v.reverse.dropWhile p = v.reverse := (List.dropWhile_sublist p).eq_of_length (by rw [List.length_reverse] at l2 ⊢; omega)
  rw [e1, List.reverse_reverse] at h
  cases hv : v.reverse with
  | nil =>
    have : v = [] := by simpa using hv
    subst this
    simp [q32]
  | cons x t =>
    rw [hv] at e1
    have hx : p x = false := by
      cases hpx : p x with
      | false => rfl
      | true =>
        rw [List.dropWhile_cons_of_pos hpx] at e1
        have := (List.dropWhile_sublist p (l := t)).length_le
        rw [e1, List.length_cons] at this
        omega
    have e2 : (32 :: v).reverse.dropWhile p = (32 :: v).reverse := by
      rw [List.reverse_cons, hv, List.cons_append, List.dropWhile_cons_of_neg (by rw [hx]; decide)]
    rw [e2, List.reverse_reverse, List.dropWhile_cons_of_pos q32]
    exact h
theorem crAt_line : ∀ (b r : List UInt8), (∀ c ∈ b, c ≠ 13) → crAt (b ++ 13 :: 10 :: r) = b.length
  | [], r, _ => by simp [crAt]
  | c :: b, r, h => by
    have ih := crAt_line b r (fun c hc => h c (by simp [hc]))
    obtain ⟨d, t, e⟩ : ∃ d t, b ++ 13 :: 10 :: r = d :: t := by cases b <;> simp
    rw [List.cons_append, e, crAt, if_neg (fun x => h c (by simp) x.1), ← e, ih]
    simp only [List.length_cons]; omega
theorem clAt_line : ∀ (n t : List UInt8), (∀ c ∈ n, c ≠ 58) → clAt (n ++ 58 :: t) = n.length
  | [], t, _ => by simp [clAt]
  | c :: n, t, h => by
    have ih := clAt_line n t (fun c hc => h c (by simp [hc]))
    rw [List.cons_append, clAt, if_neg (h c (by simp)), ih]
    simp only [List.length_cons]; omega
theorem word_mem {s : ByteArray} (h : wordS s = true) : ∀ c ∈ s.data.toList, c ≠ 58 ∧ c ≠ 13 := by
  have h2 : allW s.data.toList = true := by
    simp only [wordS, Bool.and_eq_true] at h
    exact h.2
  intro c hc
  have := List.all_eq_true.1 h2 c hc
  refine ⟨fun e => ?_, fun e => ?_⟩ <;> subst e <;> revert this <;> decide +kernel
theorem plain_mem {l : List UInt8} (h : plainL l = true) : ∀ c ∈ l, c ≠ 13 := by
  intro c hc e
  have := List.all_eq_true.1 h c hc
  subst e
  revert this
  decide
theorem lineOf_back {r : Hdr} (h : faultH r = 0) : lineOf (r.name.data.toList ++ 58 :: 32 :: r.value.data.toList) = r := by
  obtain ⟨hw, _, _, ht⟩ := faultH_zero h
  have hc := clAt_line r.name.data.toList (32 :: r.value.data.toList) (fun c hc => (word_mem hw c hc).1)
  unfold lineOf
  rw [hc, List.take_left]
  have e2 : (r.name.data.toList ++ 58 :: 32 :: r.value.data.toList).drop (r.name.data.toList.length + 1) = 32 :: r.value.data.toList := by
    rw [← List.drop_drop, List.drop_left]; rfl
  rw [e2]
  obtain ⟨n, v⟩ := r
  simp only at *
  have hn : hmk n.data.toList = n := (hof_list rfl).symm
  have hvv : trimT (hmk (32 :: v.data.toList)) = v := by
    have hv : Lib.trimS v.data.toList [32, 9] = v.data.toList := by
      have := congrArg (fun b : ByteArray => b.data.toList) ht
      simpa [trimT] using this
    unfold trimT
    rw [hmk_list, trim_space hv]
  rw [hn, hvv]
theorem read_pack : ∀ l : List Hdr, (∀ r ∈ l, faultH r = 0) → readT (packL l) = some l
  | [], _ => readT_nil
  | r :: l, h => by
    have ih := read_pack l (fun q hq => h q (by simp [hq]))
    have h0 := h r (by simp)
    obtain ⟨hw, hz, hp, ht⟩ := faultH_zero h0
    have hb := lineOf_back h0
    have hcl := clAt_line r.name.data.toList (32 :: r.value.data.toList) (fun c hc => (word_mem hw c hc).1)
    have e : packL (r :: l) = (r.name.data.toList ++ 58 :: 32 :: r.value.data.toList) ++ 13 :: 10 :: packL l := by simp [packL, lineL]
    have h13 : ∀ c ∈ r.name.data.toList ++ 58 :: 32 :: r.value.data.toList, c ≠ 13 := by
      intro c hc
      simp only [List.mem_append, List.mem_cons] at hc
      rcases hc with hc | rfl | rfl | hc
      · exact (word_mem hw c hc).2
      · decide
      · decide
      · exact plain_mem hp c hc
    have hlt : clAt (r.name.data.toList ++ 58 :: 32 :: r.value.data.toList) < (r.name.data.toList ++ 58 :: 32 :: r.value.data.toList).length := by rw [hcl]; simp only [List.length_append, List.length_cons]; omega
    rw [e]
    generalize r.name.data.toList ++ 58 :: 32 :: r.value.data.toList = b at *
    have hc := crAt_line b (packL l) h13
    have t1 : (b ++ 13 :: 10 :: packL l).take b.length = b := List.take_left
    have t2 : (b ++ 13 :: 10 :: packL l).drop (b.length + 2) = packL l := by rw [← List.drop_drop, List.drop_left]; rfl
    rw [readT_take (by rw [hc]; simp only [List.length_append, List.length_cons]; omega) (by rw [hc, t1]; exact hlt), hc, t1, t2, ih, hb]
    rfl
theorem packL_len : ∀ l : List Hdr, (∀ r ∈ l, faultH r = 0) → (packL l).length ≤ l.length * 268
  | [], _ => by simp [packL]
  | r :: l, h => by
    have ih := packL_len l (fun q hq => h q (by simp [hq]))
    have := lineL_len (h r (by simp))
    have e : packL (r :: l) = lineL r ++ packL l := by simp [packL]
    rw [e, List.length_append, List.length_cons]
    omega
theorem heads_mem {l : List Hdr} (h : headsC l = 0) : l.length ≤ 20 ∧ ∀ r ∈ l, faultH r = 0 := by
  obtain ⟨h1, h2⟩ := headsC_zero h
  refine ⟨h1, fun r hr => ?_⟩
  obtain ⟨i, hi⟩ := List.mem_iff_getElem?.1 hr
  exact h2 i r hi
theorem heads_of {l : List Hdr} (h1 : l.length ≤ 20) (h2 : ∀ r ∈ l, faultH r = 0) : headsC l = 0 := by rw [headsC_few (by omega)]; exact faultHL_of l h2
theorem pack_read {l : List Hdr} (h : headsC l = 0) : readHC (packT l) = 0 ∧ readHL (packT l) = l := by
  obtain ⟨h1, h2⟩ := heads_mem h
  have hl := packL_len l h2
  have hr := read_pack l h2
  rw [packT_ok h]
  exact readH_ok (by show ¬ 6000 < (packL l).toArray.size; rw [List.size_toArray]; omega) hr h
theorem read_heads {s : ByteArray} (h : readHC s = 0) : headsC (readHL s) = 0 := by
  by_cases c : 6000 < s.size
  · rw [(readH_long c).1] at h; omega
  · cases hr : readT s.data.toList with
    | none => rw [(readH_bad c hr).1] at h; omega
    | some L =>
      by_cases hL : headsC L = 0
      · rw [(readH_ok c hr hL).2]; exact hL
      · rw [(readH_fault c hr hL).1] at h; exact absurd h hL
theorem drop_heads {l : List Hdr} {x : ByteArray} (h : headsC l = 0) : headsC (dropH x l) = 0 := by
  obtain ⟨h1, h2⟩ := heads_mem h
  exact heads_of (Nat.le_trans (dropH_len x l) h1) fun r hr => h2 r (List.mem_filter.1 hr).1
theorem vals_dropped (x : ByteArray) (l : List Hdr) : valsOf x (dropH x l) = [] := by
  unfold valsOf dropH
  rw [List.filter_filter, List.map_eq_nil_iff, List.filter_eq_nil_iff]
  intro r _
  simp
theorem drop_join {l : List Hdr} {name : ByteArray} (h : askC l name = 0) : joinC (dropL l name) name = 4 := by
  obtain ⟨h1, h2⟩ := askC_zero h
  have e : dropL l name = dropH (lowS name) l := by unfold dropL; rw [if_pos h]
  rw [e]
  exact (join_none (askC_word (drop_heads h1) h2) (vals_dropped _ _)).1
theorem set_mem (h : Hdr) : ∀ (bd : Bool) (l : List Hdr), ∀ r ∈ setGo h bd l, r = h ∨ r ∈ l
  | true, [], r, hr => by simp [setGo] at hr
  | false, [], r, hr => by simp [setGo] at hr; exact .inl hr
  | bd, y :: l, r, hr => by
    by_cases c : lowS y.name = lowS h.name
    · cases bd
      · rw [setGo_put c] at hr
        rcases List.mem_cons.1 hr with rfl | hr
        · exact .inl rfl
        · rcases set_mem h true l r hr with h1 | h1
          · exact .inl h1
          · exact .inr (by simp [h1])
      · rw [setGo_skip c] at hr
        rcases set_mem h true l r hr with h1 | h1
        · exact .inl h1
        · exact .inr (by simp [h1])
    · rw [setGo_other c] at hr
      rcases List.mem_cons.1 hr with rfl | hr
      · exact .inr (by simp)
      · rcases set_mem h bd l r hr with h1 | h1
        · exact .inl h1
        · exact .inr (by simp [h1])
theorem set_vals (h : Hdr) : ∀ l : List Hdr, valsOf (lowS h.name) (setGo h false l) = [h.value]
  | [] => by simp [setGo, valsOf]
  | y :: l => by
    by_cases c : lowS y.name = lowS h.name
    · rw [setGo_put c, setGo_done]
      have := vals_dropped (lowS h.name) l
      unfold valsOf at this ⊢
      rw [List.filter_cons_of_pos (by simp), List.map_cons, this]
    · have := set_vals h l
      rw [setGo_other c]
      unfold valsOf at this ⊢
      rw [List.filter_cons_of_neg (by simpa using c), this]
theorem drop_twice (x : ByteArray) (l : List Hdr) : dropH x (dropH x l) = dropH x l := by
  unfold dropH
  rw [List.filter_filter]
  simp
theorem set_drop (h : Hdr) : ∀ l : List Hdr, dropH (lowS h.name) (setGo h false l) = dropH (lowS h.name) l
  | [] => by simp [setGo, dropH]
  | y :: l => by
    by_cases c : lowS y.name = lowS h.name
    · rw [setGo_put c, setGo_done]
      have := drop_twice (lowS h.name) l
      unfold dropH at this ⊢
      rw [List.filter_cons_of_neg (by simp), List.filter_cons_of_neg (by simpa using c), this]
    · have := set_drop h l
      rw [setGo_other c]
      unfold dropH at this ⊢
      rw [List.filter_cons_of_pos (by simpa using c), List.filter_cons_of_pos (by simpa using c), this]
theorem set_zero {l : List Hdr} {h : Hdr} (hc : setC l h = 0) : askC l h.name = 0 ∧ setL l h = setGo h false l ∧ headsC (setGo h false l) = 0 := by
  have e : setL l h = setGo h false l := by unfold setL; rw [if_pos hc]
  unfold setC at hc
  by_cases h0 : askC l h.name = 0
  · rw [if_pos h0] at hc
    by_cases h1 : faultH h = 0
    · rw [if_pos h1] at hc
      by_cases h2 : 20 < (setGo h false l).length
      · rw [if_pos h2] at hc; omega
      · obtain ⟨h3, _⟩ := askC_zero h0
        obtain ⟨_, h4⟩ := heads_mem h3
        refine ⟨h0, e, heads_of (by omega) fun r hr => ?_⟩
        rcases set_mem h false l r hr with rfl | hr
        · exact h1
        · exact h4 r hr
    · rw [if_neg h1] at hc; exact absurd hc h1
  · rw [if_neg h0] at hc; exact absurd hc h0
theorem set_join {l : List Hdr} {name value : ByteArray} (hc : setC l ⟨name, value⟩ = 0) : joinC (setL l ⟨name, value⟩) name = 0 ∧ joinT (setL l ⟨name, value⟩) name = value := by
  obtain ⟨h0, e, h1⟩ := set_zero hc
  obtain ⟨_, hw⟩ := askC_zero h0
  have hv := set_vals ⟨name, value⟩ l
  simp only at hv hw
  rw [e]
  obtain ⟨j1, j2⟩ := join_some (askC_word h1 hw) (by rw [hv]; simp)
  refine ⟨j1, ?_⟩
  rw [j2, hv]
  have : hjoinL [value] = value.data.toList := by simp [hjoinL, Lib.join, List.intercalate]
  rw [this]
theorem set_dropL {l : List Hdr} {name value : ByteArray} (hc : setC l ⟨name, value⟩ = 0) : askC (setL l ⟨name, value⟩) name = 0 ∧ dropL (setL l ⟨name, value⟩) name = dropL l name ∧ askC l name = 0 := by
  obtain ⟨h0, e, h1⟩ := set_zero hc
  simp only at h0
  obtain ⟨_, hw⟩ := askC_zero h0
  have ha := askC_word h1 hw
  rw [e]
  refine ⟨ha, ?_, h0⟩
  unfold dropL
  rw [if_pos ha, if_pos h0]
  exact set_drop ⟨name, value⟩ l
theorem sameH_refl (x : Hdr) : sameH x x = true := by simp [sameH]
theorem sameHs_refl : ∀ l : List Hdr, sameHs l l = true
  | [] => rfl
  | x :: l => by rw [sameHs, sameH_refl, sameHs_refl l]; rfl
theorem dropL_le (l : List Hdr) (name : ByteArray) : (dropL l name).length ≤ l.length := by
  unfold dropL
  split
  · exact dropH_len _ _
  · exact Nat.zero_le _
end Go.Proofs.YthlenlijdlfdeaaDoor
