/-
  Small letters twice, blanks cut twice; a word has no blanks at its ends: plainly.
-/
import Derived.Test.YtgnlpjdndhciaaaDoorLowS
import Derived.Test.YtgnlpjdndhciaaaDoorTrimPlain
import Derived.Test.YtgnlpjdndhciaaaDoorWordPlain
namespace Go.Proofs.YtgnlpjdndhciaaaDoor
theorem lowU_twice (c : UInt8) : lowU (lowU c) = lowU c := by
  by_cases h : 65 ≤ (c.toNat : Int) ∧ (c.toNat : Int) ≤ 90
  · have e := lowU_yes c h.1 h.2
    exact lowU_no _ (by omega)
  · rw [lowU_no c h, lowU_no c h]
theorem lowS_twice (s : ByteArray) : lowS (lowS s) = lowS s := by
  unfold lowS
  congr 1
  simp [lowU_twice]
theorem lowS_size (s : ByteArray) : (lowS s).size = s.size := by
  show ((s.data.toList.map lowU).toArray).size = s.data.size
  rw [List.size_toArray, List.length_map, Array.length_toList]
theorem dropWhile_fix {α : Type} (p : α → Bool) (l : List α) (h : ∀ x, l.head? = some x → p x = false) : l.dropWhile p = l := by
  cases l with
  | nil => rfl
  | cons x r => rw [List.dropWhile_cons, h x rfl]; rfl
theorem head_dropWhile {α : Type} (p : α → Bool) (l : List α) (x : α) (h : (l.dropWhile p).head? = some x) : p x = false := by
  induction l with
  | nil => cases h
  | cons y r ih =>
    rw [List.dropWhile_cons] at h
    by_cases e : p y = true
    · rw [if_pos e] at h; exact ih h
    · rw [if_neg e] at h
      simp only [List.head?_cons, Option.some.injEq] at h
      subst h
      simpa using e
theorem trimLeft_of {l cs : List UInt8} (h : ∀ x, l.head? = some x → cs.contains x = false) : Lib.trimLeftS l cs = l := dropWhile_fix _ _ h
theorem trimRight_of {l cs : List UInt8} (h : ∀ x, l.getLast? = some x → cs.contains x = false) : Lib.trimRightS l cs = l := by
  unfold Lib.trimRightS
  rw [dropWhile_fix _ _ (fun x hx => h x (by rw [List.head?_reverse] at hx; exact hx)), List.reverse_reverse]
theorem last_trimRight (l cs : List UInt8) (x : UInt8) (h : (Lib.trimRightS l cs).getLast? = some x) : cs.contains x = false := by
  unfold Lib.trimRightS at h
  rw [List.getLast?_reverse] at h
  exact head_dropWhile _ _ x h
theorem last_trimLeft (l cs : List UInt8) (x : UInt8) (h : (Lib.trimLeftS l cs).getLast? = some x) : l.getLast? = some x := by
  unfold Lib.trimLeftS at h
  obtain ⟨p, hp⟩ := List.dropWhile_suffix (l := l) (fun b => cs.contains b)
  rw [← hp, List.getLast?_append, h]
  rfl
theorem trimS_twice (l cs : List UInt8) : Lib.trimS (Lib.trimS l cs) cs = Lib.trimS l cs := by
  have e : Lib.trimRightS (Lib.trimS l cs) cs = Lib.trimS l cs := trimRight_of fun x hx => by
    unfold Lib.trimS at hx
    exact last_trimRight l cs x (last_trimLeft _ cs x hx)
  rw [Lib.trimS, e]
  exact trimLeft_of fun x hx => head_dropWhile _ _ x hx
theorem trimT_twice (s : ByteArray) : trimT (trimT s) = trimT s := by
  unfold trimT
  congr 1
  rw [show (⟨(Lib.trimS s.data.toList [32, 9]).toArray⟩ : ByteArray).data.toList = Lib.trimS s.data.toList [32, 9] from by simp, trimS_twice]
theorem wordI_blank (c : UInt8) (h : wordI (c.toNat : Int) = true) : [(32 : UInt8), 9].contains c = false := by
  rw [contains_blank]
  cases hb : blankI (c.toNat : Int)
  · rfl
  · simp only [blankI, Bool.or_eq_true, beq_iff_eq] at hb
    rcases hb with hb | hb <;> rw [hb] at h <;> exact absurd h (by decide +kernel)
theorem word_trim (s : ByteArray) (h : wordS s = true) : trimT s = s := by
  simp only [wordS, Bool.and_eq_true] at h
  have hall : ∀ x, x ∈ s.data.toList → [(32 : UInt8), 9].contains x = false := fun x hx => wordI_blank x (List.all_eq_true.1 h.2 x hx)
  have e1 : Lib.trimRightS s.data.toList [32, 9] = s.data.toList := trimRight_of fun x hx => hall x (List.mem_of_getLast? hx)
  have e2 : Lib.trimS s.data.toList [32, 9] = s.data.toList := by
    rw [Lib.trimS, e1]
    exact trimLeft_of fun x hx => hall x (List.mem_of_head? hx)
  unfold trimT
  rw [e2]
theorem word_size (s : ByteArray) (h : wordS s = true) : s.size ≤ 64 := by
  simp only [wordS, Bool.and_eq_true, decide_eq_true_eq] at h
  exact h.1.2
end Go.Proofs.YtgnlpjdndhciaaaDoor
