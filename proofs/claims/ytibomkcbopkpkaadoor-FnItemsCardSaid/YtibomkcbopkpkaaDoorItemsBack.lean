/-
  Plain: items are read back from their text.
-/
import Derived.Test.YtibomkcbopkpkaaDoorJoinPlain
import Derived.Test.YtibomkcbopkpkaaDoorReadPlain
import Derived.Test.YtibomkcbopkpkaaDoorTrimsPlain
namespace Go.Proofs.YtibomkcbopkpkaaDoor
theorem word_byte {c : UInt8} (h : wordI (c.toNat : Int) = true) : (c.toNat : Int) ≠ 34 ∧ (c.toNat : Int) ≠ 44 ∧ (c.toNat : Int) ≠ 61 ∧ blankI (c.toNat : Int) = false := by
  have key : ∀ n : Fin 256, wordI (n.val : Int) = true → (n.val : Int) ≠ 34 ∧ (n.val : Int) ≠ 44 ∧ (n.val : Int) ≠ 61 ∧ blankI (n.val : Int) = false := by decide +kernel
  have hc : c.toNat < 256 := c.toNat_lt
  exact key ⟨c.toNat, hc⟩ h
theorem word_bytes {s : ByteArray} (h : wordS s = true) : ∀ c ∈ s.data.toList, wordI (c.toNat : Int) = true := by
  simp only [wordS, Bool.and_eq_true] at h
  have := h.2
  unfold allW at this
  exact List.all_eq_true.1 this
theorem word_some {s : ByteArray} (h : wordS s = true) : 1 ≤ s.size := by
  simp only [wordS, Bool.and_eq_true, decide_eq_true_eq] at h
  exact h.1.1
/-- A stretch of text that ends outside quotes and holds no comma outside them. -/
def Closed (p : List UInt8) : Prop := ∀ cur r, pcs false cur (p ++ r) = pcs false (cur ++ p) r
theorem Closed.nil : Closed [] := fun cur r => by simp
theorem Closed.append {p q : List UInt8} (hp : Closed p) (hq : Closed q) : Closed (p ++ q) := fun cur r => by
  rw [List.append_assoc, hp, hq, List.append_assoc]
theorem Closed.plain {p : List UInt8} (h : ∀ c ∈ p, (c.toNat : Int) ≠ 34 ∧ (c.toNat : Int) ≠ 44) : Closed p := by
  induction p with
  | nil => exact Closed.nil
  | cons c p ih =>
    intro cur r
    have hc := h c (by simp)
    have := ih (fun d hd => h d (by simp [hd])) (cur ++ [c]) r
    rw [List.cons_append, pcs_take (by simp) hc.1 (fun k => hc.2 k.1), this, List.append_assoc]
    rfl
theorem inside (l : List UInt8) : ∀ cur r, pcs true cur (quoteB l ++ r) = pcs true (cur ++ quoteB l) r := by
  induction l with
  | nil => intro cur r; simp [quoteB]
  | cons c l ih =>
    intro cur r
    have e : quoteB (c :: l) = quoteC c ++ quoteB l := by simp [quoteB]
    rw [e, List.append_assoc]
    by_cases hc : (c.toNat : Int) = 34 ∨ (c.toNat : Int) = 92
    · rw [quoteC_yes hc]
      show pcs true cur (92 :: c :: (quoteB l ++ r)) = _
      rw [pcs_esc (by decide), ih]
      simp
    · rw [quoteC_no hc]
      show pcs true cur (c :: (quoteB l ++ r)) = _
      rw [pcs_take (fun k => hc (.inr k.2)) (fun k => hc (.inl k)) (by simp), ih]
      simp
theorem Closed.quote (l : List UInt8) : Closed (quoteL l) := by
  intro cur r
  have e : quoteL l ++ r = 34 :: (quoteB l ++ (34 :: r)) := by simp [quoteL]
  rw [e, pcs_quote (by decide)]
  show pcs true (cur ++ [34]) (quoteB l ++ 34 :: r) = _
  rw [inside, pcs_quote (by decide)]
  show pcs false (cur ++ [34] ++ quoteB l ++ [34]) r = _
  simp [quoteL]
theorem Closed.item {r : Rec} (h : faultR r = 0) : Closed (itemL r) := by
  obtain ⟨hn, _, _, _⟩ := fault_zero h
  have cn : Closed r.name.data.toList := .plain fun c hc => ⟨(word_byte (word_bytes hn c hc)).1, (word_byte (word_bytes hn c hc)).2.1⟩
  have c61 : Closed [61] := .plain fun c hc => by simp only [List.mem_singleton] at hc; subst hc; decide
  cases hh : r.has
  · rw [itemL_bare hh]; exact cn
  · cases hw : wordS r.value
    · rw [itemL_quote hh hw]; exact (cn.append c61).append (.quote _)
    · rw [itemL_word hh hw]
      exact (cn.append c61).append (.plain fun c hc => ⟨(word_byte (word_bytes hw c hc)).1, (word_byte (word_bytes hw c hc)).2.1⟩)
/-- The pieces of a list's text. -/
theorem pcs_tail (l : List Rec) : ∀ cur : List UInt8, (∀ r ∈ l, faultR r = 0) → pcs false cur (Lib.joinTail [44, 32] (l.map itemL)) = cur :: l.map (fun r => 32 :: itemL r) := by
  induction l with
  | nil => intro cur _; simp [Lib.joinTail, pcs]
  | cons r l ih =>
    intro cur hf
    have e : Lib.joinTail [44, 32] ((r :: l).map itemL) = 44 :: 32 :: (itemL r ++ Lib.joinTail [44, 32] (l.map itemL)) := by simp [Lib.joinTail]
    rw [e, pcs_comma (by decide), pcs_take (by simp) (by decide) (by decide)]
    show cur :: pcs false [32] _ = _
    rw [Closed.item (hf r (by simp)) [32], ih _ (fun q hq => hf q (by simp [hq]))]
    rfl
theorem pcs_join {r : Rec} {l : List Rec} (hf : ∀ q ∈ r :: l, faultR q = 0) : pcs false [] (joinL (r :: l)) = itemL r :: l.map (fun r => 32 :: itemL r) := by
  unfold joinL
  rw [List.map_cons, Lib.join_cons, Closed.item (hf r (by simp)) [], pcs_tail l _ (fun q hq => hf q (by simp [hq]))]
  simp
theorem item_ends {r : Rec} (h : faultR r = 0) : (∃ b t, itemL r = b :: t ∧ blankI (b.toNat : Int) = false) ∧ ∃ t b, itemL r = t ++ [b] ∧ blankI (b.toNat : Int) = false := by
  obtain ⟨hn, _, _, _⟩ := fault_zero h
  have h1 := word_some hn
  have hb := word_bytes hn
  have hl : r.name.data.toList.length = r.name.size := by simp
  obtain ⟨b, t, e⟩ : ∃ b t, r.name.data.toList = b :: t := by
    cases k : r.name.data.toList with
    | nil => rw [k] at hl; simp at hl; omega
    | cons b t => exact ⟨b, t, rfl⟩
  have hbb : blankI (b.toNat : Int) = false := (word_byte (hb b (by rw [e]; simp))).2.2.2
  have lst : ∀ s : ByteArray, wordS s = true → ∃ t b, s.data.toList = t ++ [b] ∧ blankI (b.toNat : Int) = false := by
    intro s hs
    have g1 := word_some hs
    have gl : s.data.toList.length = s.size := by simp
    have hne : s.data.toList ≠ [] := fun k => by rw [k] at gl; simp at gl; omega
    exact ⟨s.data.toList.dropLast, s.data.toList.getLast hne, (List.dropLast_concat_getLast hne).symm, (word_byte (word_bytes hs _ (List.getLast_mem hne))).2.2.2⟩
  constructor
  · cases hh : r.has
    · rw [itemL_bare hh, e]; exact ⟨b, t, rfl, hbb⟩
    · cases hw : wordS r.value
      · rw [itemL_quote hh hw, e]; exact ⟨b, _, rfl, hbb⟩
      · rw [itemL_word hh hw, e]; exact ⟨b, _, rfl, hbb⟩
  · cases hh : r.has
    · rw [itemL_bare hh]; exact lst _ hn
    · cases hw : wordS r.value
      · rw [itemL_quote hh hw]
        exact ⟨r.name.data.toList ++ [61] ++ ([34] ++ quoteB r.value.data.toList), 34, by simp [quoteL], by decide⟩
      · rw [itemL_word hh hw]
        obtain ⟨t, b, e, hb⟩ := lst _ hw
        exact ⟨r.name.data.toList ++ [61] ++ t, b, by rw [e]; simp, hb⟩
theorem trim_item {r : Rec} (h : faultR r = 0) : trimT (mkB (itemL r)) = mkB (itemL r) ∧ trimT (mkB (32 :: itemL r)) = mkB (itemL r) := by
  obtain ⟨⟨b, t, e1, hb⟩, ⟨t2, b2, e2, hb2⟩⟩ := item_ends h
  have hlen : 0 < (itemL r).length := by rw [e1]; simp
  have hlast : (itemL r)[(itemL r).length - 1]? = some b2 := by
    rw [e2]; simp
  have hfirst : (itemL r)[0]? = some b := by rw [e1]; rfl
  constructor
  · have := trim_between (itemL r) 0 (itemL r).length (Nat.zero_le _) (Nat.le_refl _) (fun j b hj => by omega) (fun c _ hc => by rw [hfirst] at hc; obtain rfl := Option.some.inj hc; exact hb) (fun j c hj hc => by rw [List.getElem?_eq_none hj] at hc; cases hc) (fun c _ hc => by rw [hlast] at hc; obtain rfl := Option.some.inj hc; exact hb2)
    unfold trimT mkB
    simp only [List.take_length, List.drop_zero] at this
    simp [this]
  · have := trim_between (32 :: itemL r) 1 (32 :: itemL r).length (by simp) (Nat.le_refl _) (fun j c hj hc => by
        obtain rfl : j = 0 := by omega
        simp at hc; subst hc; decide) (fun c _ hc => by
        have hc2 : (itemL r)[0]? = some c := by simpa using hc
        rw [hfirst] at hc2; obtain rfl := Option.some.inj hc2; exact hb) (fun j c hj hc => by rw [List.getElem?_eq_none hj] at hc; cases hc) (fun c _ hc => by
        have hc2 : (itemL r)[(itemL r).length - 1]? = some c := by
          have e : (32 :: itemL r).length - 1 = (itemL r).length - 1 + 1 := by simp; omega
          rw [e] at hc
          simpa using hc
        rw [hlast] at hc2; obtain rfl := Option.some.inj hc2; exact hb2)
    unfold trimT mkB
    simp only [List.take_length] at this
    simp [this]
theorem eqAt_app {p : List UInt8} (h : ∀ c ∈ p, (c.toNat : Int) ≠ 61) (q : List UInt8) : eqAt (p ++ q) = p.length + eqAt q := by
  induction p with
  | nil => simp
  | cons c p ih =>
    rw [List.cons_append, eqAt, if_neg (h c (by simp)), ih (fun d hd => h d (by simp [hd]))]
    simp
    omega
theorem cut_front (s : ByteArray) (q : List UInt8) : (mkB (s.data.toList ++ q)).extract 0 s.size = s := by
  apply ByteArray.ext
  apply Array.ext'
  simp [mkB]
theorem cut_back (s : ByteArray) (c : UInt8) (q : List UInt8) : (mkB (s.data.toList ++ c :: q)).extract (s.size + 1) (mkB (s.data.toList ++ c :: q)).size = mkB q := by
  have e : (mkB (s.data.toList ++ c :: q)).size = (s.data.toList ++ c :: q).length := List.size_toArray
  have e2 : s.size = s.data.toList.length := by simp
  rw [e, e2]
  apply ByteArray.ext
  apply Array.ext'
  simp only [mkB, ByteArray.data_extract, List.extract_toArray, List.extract_eq_take_drop]
  rw [List.take_of_length_le (by simp), ← List.drop_drop, List.drop_left]
  rfl
theorem read_item {r : Rec} (h : faultR r = 0) : readR (mkB (itemL r)) = some r := by
  obtain ⟨hn, hz, hp, hv⟩ := fault_zero h
  have ne : ∀ c ∈ r.name.data.toList, (c.toNat : Int) ≠ 61 := fun c hc => (word_byte (word_bytes hn c hc)).2.2.1
  have hl : r.name.data.toList.length = r.name.size := by simp
  cases hh : r.has
  · have e0 : mkB (itemL r) = r.name := by rw [itemL_bare hh]; rfl
    rw [e0]
    have e1 : eqAt r.name.data.toList = r.name.size := by
      have := eqAt_app ne []
      rw [List.append_nil] at this
      rw [this, hl]
      rfl
    have e2 : r.name.extract 0 r.name.size = r.name := ByteArray.extract_zero_size
    rw [read_bare (by rw [e1, e2]; exact hn) e1]
    have hv0 : r.value = ⟨#[]⟩ := ByteArray.ext (Array.eq_empty_of_size_eq_zero (hv hh))
    obtain ⟨n, b, v⟩ := r
    simp only at hh hv0 ⊢
    rw [hh, hv0]
  · have key : ∀ q : List UInt8, itemL r = r.name.data.toList ++ 61 :: q → eqAt (mkB (itemL r)).data.toList = r.name.size ∧ (mkB (itemL r)).extract 0 r.name.size = r.name ∧ (mkB (itemL r)).extract (r.name.size + 1) (mkB (itemL r)).size = mkB q ∧ r.name.size ≠ (mkB (itemL r)).size := by
      intro q e
      refine ⟨?_, ?_, ?_, ?_⟩
      · show eqAt (itemL r) = _
        rw [e, eqAt_app ne, hl]
        rfl
      · rw [e]; exact cut_front _ _
      · rw [e]; exact cut_back _ _ _
      · rw [e]
        show _ ≠ (r.name.data.toList ++ 61 :: q).toArray.size
        simp
    cases hw : wordS r.value
    · obtain ⟨k1, k2, k3, k4⟩ := key (quoteL r.value.data.toList) (by rw [itemL_quote hh hw]; simp)
      have uq := unqT_quote r.value.data.toList hp
      have n1 : wordS (mkB (quoteL r.value.data.toList)) = false := by
        cases z : wordS (mkB (quoteL r.value.data.toList))
        · rfl
        · have := word_bytes z 34 (by simp [mkB, quoteL])
          exact absurd rfl (word_byte this).1
      rw [read_quote (by rw [k1, k2]; exact hn) (by rw [k1]; exact k4) (by rw [k1, k3]; exact n1) (by rw [k1, k3]; show (unqT (quoteL r.value.data.toList)).2 = true; rw [uq]), k1, k2, k3]
      have e3 : unqS (mkB (quoteL r.value.data.toList)) = r.value := by
        show (⟨(unqT (quoteL r.value.data.toList)).1.toArray⟩ : ByteArray) = _
        rw [uq]
      rw [e3]
      obtain ⟨n, b, v⟩ := r
      simp only at hh ⊢
      rw [hh]
    · obtain ⟨k1, k2, k3, k4⟩ := key r.value.data.toList (by rw [itemL_word hh hw]; simp)
      have e3 : mkB r.value.data.toList = r.value := rfl
      rw [e3] at k3
      rw [read_word (by rw [k1, k2]; exact hn) (by rw [k1]; exact k4) (by rw [k1, k3]; exact hw), k1, k2, k3]
      obtain ⟨n, b, v⟩ := r
      simp only at hh ⊢
      rw [hh]
theorem item_some {r : Rec} (h : faultR r = 0) : (mkB (itemL r)).size ≠ 0 := by
  obtain ⟨⟨b, t, e, _⟩, _⟩ := item_ends h
  rw [e]
  show (b :: t).toArray.size ≠ 0
  simp
theorem readP_tail (l : List Rec) (hf : ∀ q ∈ l, faultR q = 0) : readP (l.map (fun r => 32 :: itemL r)) = some l := by
  induction l with
  | nil => rfl
  | cons r l ih =>
    have h := hf r (by simp)
    rw [List.map_cons, readP_take (r := r) (by rw [(trim_item h).2]; exact item_some h) (by rw [(trim_item h).2]; exact read_item h), ih (fun q hq => hf q (by simp [hq]))]
    rfl
theorem faultL_all (l : List Rec) (h : faultL l = 0) : ∀ q ∈ l, faultR q = 0 := by
  induction l with
  | nil => intro q hq; simp at hq
  | cons r l ih =>
    by_cases hr : faultR r = 0
    · rw [faultL_ok hr] at h
      intro q hq
      rcases List.mem_cons.1 hq with rfl | hq
      · exact hr
      · exact ih h q hq
    · rw [faultL_bad hr] at h
      exact absurd h hr
theorem readP_join (l : List Rec) (h : faultL l = 0) : readP (pcs false [] (joinL l)) = some l := by
  have hf := faultL_all l h
  cases l with
  | nil =>
    show readP (pcs false [] []) = some []
    rw [show pcs false [] [] = [[]] from rfl, readP_skip trim_nothing]
    rfl
  | cons r l =>
    have hr := hf r (by simp)
    rw [pcs_join hf, readP_take (r := r) (by rw [(trim_item hr).1]; exact item_some hr) (by rw [(trim_item hr).1]; exact read_item hr), readP_tail l (fun q hq => hf q (by simp [hq]))]
    rfl
/-- What was told is read back. -/
theorem parse_text {l : List Rec} (h : textC l = 0) : parseC (textT l) = 0 ∧ parseL (textT l) = l := by
  by_cases h1 : 20 < l.length
  · rw [(textC_many h1).1] at h; cases h
  by_cases h2 : faultL l = 0
  · by_cases h3 : 1000 < (joinL l).length
    · rw [(textC_long h1 h2 h3).1] at h; cases h
    · rw [(textC_ok h1 h2 h3).2]
      refine parse_ok ?_ ?_ h1
      · show ¬ 1000 < (joinL l).toArray.size
        simpa using h3
      · exact readP_join l h2
  · rw [(textC_fault h1 h2).1] at h; exact absurd h h2
end Go.Proofs.YtibomkcbopkpkaaDoor
