/-
  What the model's l2Unquote answers.
-/
import Derived.Test.YtibomkcbopkpkaaDoorQuoteBase
namespace Go.Proofs.YtibomkcbopkpkaaDoor
open Go.ChangeShapes Go.WideShapes Go.ChangeAt Go.RowKit
def unqS (s : ByteArray) : ByteArray := ⟨(unqT s.data.toList).1.toArray⟩
def unqB (s : ByteArray) : Bool := (unqT s.data.toList).2
theorem ret_two {a b : ByteArray} {c d : Bool} (h1 : a = b) (h2 : c = d) : Ending.returned (.tuple #[.string a, .bool c]) = .returned (.tuple #[.string b, .bool d]) := by rw [h1, h2]
theorem unq_of {s : ByteArray} {p : List UInt8 × Bool} (h : unqT s.data.toList = p) : (⟨p.1.toArray⟩ : ByteArray) = unqS s ∧ p.2 = unqB s := by subst h; exact ⟨rfl, rfl⟩
theorem unqT_no {l : List UInt8} (h : ¬ (2 ≤ l.length ∧ l.head? = some 34 ∧ plainL l = true)) : unqT l = ([], false) := by unfold unqT; rw [if_neg h]
theorem unqT_go {l : List UInt8} (h1 : 2 ≤ l.length) (h2 : l.head? = some 34) (h3 : plainL l = true) : unqT l = unq [] (l.drop 1) := by unfold unqT; rw [if_pos ⟨h1, h2, h3⟩, List.drop_one]
theorem drop_at (s : ByteArray) (k : Nat) (h : k < s.size) : s.data.toList.drop k = s[k] :: s.data.toList.drop (k + 1) := by
  rw [List.drop_eq_getElem_cons (by simpa using h)]; rfl
set_option maxHeartbeats 400000 in
theorem l2Unquote_not (s : ByteArray) (w : World) (hs : s.size ≤ 2002) (h : ¬ (2 ≤ s.data.toList.length ∧ s.data.toList.head? = some 34 ∧ plainL s.data.toList = true)) :
    Calls Tryd.prog 153 #[.string s] w fun e w' => e = .returned (.tuple #[.string ⟨#[]⟩, .bool false]) ∧ Below w.heap.size w w' := by
  by_cases h1 : s.size < 2
  · have g1 : (s.size : Int) < 2 := by omega
    clear h
    go_enter Tryd.func153, Tryd.ntmps153
    go_wp2
    go_ret2
    exact ⟨rfl, Below.refl _ _⟩
  · have g1 : ¬ (s.size : Int) < 2 := by omega
    have h0 : 0 < s.size := by omega
    have g0 : (0 : Int) < s.size := by omega
    have eh : s.data.toList.head? = some s[0] := by
      have := drop_at s 0 h0
      rw [List.drop_zero] at this
      rw [this]; rfl
    by_cases h2 : (s[0].toNat : Int) = 34
    · have g2 : ((s[0].toNat : Int) != 34) = false := by simpa using h2
      have h3 : plainL s.data.toList = false := by
        cases hp : plainL s.data.toList
        · rfl
        · refine absurd ⟨by simpa using (by omega : 2 ≤ s.size), ?_, hp⟩ h
          rw [eh]
          exact congrArg some (UInt8.toNat_inj.1 (by simpa using (by omega : s[0].toNat = 34)))
      have HP : Hid (plainL s.data.toList = false) := h3
      clear h3 h eh h2
      go_enter Tryd.func153, Tryd.ntmps153
      go_wp2_with fail
      refine (plainText_any s _ (by omega)).mono ?_
      rintro e w1 ⟨rfl, rfl⟩
      rw [HP.out]
      go_wp2
      go_ret2
      exact ⟨rfl, Below.refl _ _⟩
    · have g2 : ((s[0].toNat : Int) != 34) = true := by simpa using h2
      clear h eh h2
      go_enter Tryd.func153, Tryd.ntmps153
      go_wp2
      go_ret2
      exact ⟨rfl, Below.refl _ _⟩
set_option maxHeartbeats 2000000 in
theorem l2Unquote_yes (s : ByteArray) (w : World) (hs : s.size ≤ 2002) (h1 : 2 ≤ s.data.toList.length) (h2 : s.data.toList.head? = some 34) (h3 : plainL s.data.toList = true) :
    Calls Tryd.prog 153 #[.string s] w fun e w' => e = .returned (.tuple #[.string (unqS s), .bool (unqB s)]) ∧ Below w.heap.size w w' := by
  have hn : 2 ≤ s.size := by simpa using h1
  have g1 : ¬ (s.size : Int) < 2 := by omega
  have h0 : 0 < s.size := by omega
  have g0 : (0 : Int) < s.size := by omega
  have g2 : ((s[0].toNat : Int) != 34) = false := by
    have := drop_at s 0 h0
    rw [List.drop_zero] at this
    rw [this] at h2
    simp only [List.head?_cons, Option.some.injEq] at h2
    rw [h2]; decide
  have HT : Hid (unqT s.data.toList = unq [] (s.data.toList.drop 1)) := unqT_go h1 h2 h3
  have HP : Hid (plainL s.data.toList = true) := h3
  clear h1 h2 h3
  go_enter Tryd.func153, Tryd.ntmps153
  go_wp2_with fail
  refine (plainText_any s _ (by omega)).mono ?_
  rintro e w1 ⟨rfl, rfl⟩
  rw [HP.out]
  clear HP
  go_wp2
  go_loopw [4, 5] (fun v i wr => ∃ (k : Nat) (acc : List UInt8), k ≤ s.size ∧ acc.length ≤ k ∧ i = .int .i64 k ∧ OwnB wr w1.heap.size v acc ∧ unqT s.data.toList = unq acc (s.data.toList.drop k) ∧ Below w1.heap.size w1 wr) (fun _ i _ => s.size - (intOf i).toNat)
  case atStart => exact ⟨1, [], by omega, by simp, rfl, OwnB.made w1 w1.heap.size (Nat.le_refl _) [] (by decide), HT.out, (Below.refl _ _).alloc (Nat.le_refl _) _⟩
  case round =>
    obtain ⟨k, acc, hk, ha, rfl, hown, hq, hb⟩ := hrel
    have HO : Hid (OwnB wr w1.heap.size u4 acc) := hown
    have HQ : Hid (unqT s.data.toList = unq acc (s.data.toList.drop k)) := hq
    have hz := hb.size
    clear hown hq HT
    by_cases hlt : k < s.size
    · have HD : Hid (s.data.toList.drop k = s[k] :: s.data.toList.drop (k + 1)) := drop_at s k hlt
      by_cases c1 : (s[k].toNat : Int) = 34
      · have HE : Hid ((⟨acc.toArray⟩ : ByteArray) = unqS s ∧ decide (s.data.toList.drop (k + 1) = []) = unqB s) := by
          have := HQ.out
          rw [HD.out, unq_end _ _ _ c1] at this
          exact unq_of this
        have e1 : ((s[k].toNat : Int) == 34) = true := by simpa using c1
        have hcv := HO.out.text
        by_cases hl : k + 1 = s.size
        · have e2 : ((k : Int) == (s.size : Int) - 1) = true := by simp; omega
          have HF : Hid (unqB s = true) := by
            show _ = _
            rw [← HE.out.2]; simp; omega
          have HG : Hid ((⟨acc.toArray⟩ : ByteArray) = unqS s) := HE.out.1
          clear HE HQ HD c1
          generalize (⟨acc.toArray⟩ : ByteArray) = r at *
          go_wp2_with fail
          go_ret2
          exact ⟨ret_two HG.out HF.out.symm, hb⟩
        · have e2 : ((k : Int) == (s.size : Int) - 1) = false := by simp; omega
          have HF : Hid (unqB s = false) := by
            show _ = _
            rw [← HE.out.2]; simp; omega
          have HG : Hid ((⟨acc.toArray⟩ : ByteArray) = unqS s) := HE.out.1
          clear HE HQ HD c1
          generalize (⟨acc.toArray⟩ : ByteArray) = r at *
          go_wp2_with fail
          go_ret2
          exact ⟨ret_two HG.out HF.out.symm, hb⟩
      · have e1 : ((s[k].toNat : Int) == 34) = false := by simpa using c1
        by_cases c2 : (s[k].toNat : Int) = 92
        · have e2 : ((s[k].toNat : Int) == 92) = true := by simpa using c2
          by_cases hl : k + 1 = s.size
          · have e3 : ((k : Int) + 1 == (s.size : Int)) = true := by simp; omega
            have HE : Hid ((⟨#[]⟩ : ByteArray) = unqS s ∧ false = unqB s) := by
              have := HQ.out
              rw [HD.out, show s.data.toList.drop (k + 1) = [] from List.drop_of_length_le (by simp; omega), unq_cut _ _ c2] at this
              exact unq_of this
            clear HQ HD c1 c2
            go_wp2_with fail
            go_ret2
            exact ⟨ret_two HE.out.1 HE.out.2, hb⟩
          · have e3 : ((k : Int) + 1 == (s.size : Int)) = false := by simp; omega
            have hlt2 : k + 1 < s.size := by omega
            have HE : Hid (unqT s.data.toList = unq (acc ++ [s[k + 1]]) (s.data.toList.drop (k + 2))) := by
              show _ = _
              rw [HQ.out, HD.out, drop_at s (k + 1) hlt2, unq_esc _ _ _ _ c2]
            clear HQ HD c1 c2
            go_wp2_with (at_builtin; refine wpList_append_byte _ rfl (.tmp 49) (.tmp 53) rfl w1.heap.size _ acc _ s[k + 1] rfl rfl HO.out rfl (by omega) hz ?_; intro v2 w2 HO2 hb2 hz2)
            go_roundw
            case rel => exact ⟨k + 2, acc ++ [s[k + 1]], by omega, by simp; omega, by go_num, HO2, HE.out, hb.trans hb2⟩
            case measure => simp [intOf]; omega
        · have e2 : ((s[k].toNat : Int) == 92) = false := by simpa using c2
          have HE : Hid (unqT s.data.toList = unq (acc ++ [s[k]]) (s.data.toList.drop (k + 1))) := by
            show _ = _
            rw [HQ.out, HD.out, unq_take _ _ _ c1 c2]
          clear HQ HD c1 c2
          go_wp2_with (at_builtin; refine wpList_append_byte _ rfl (.tmp 49) (.tmp 53) rfl w1.heap.size _ acc _ s[k] rfl rfl HO.out rfl (by omega) hz ?_; intro v2 w2 HO2 hb2 hz2)
          go_roundw
          case rel => exact ⟨k + 1, acc ++ [s[k]], by omega, by simp; omega, by go_num, HO2, HE.out, hb.trans hb2⟩
          case measure => simp [intOf]; omega
    · have HE : Hid ((⟨#[]⟩ : ByteArray) = unqS s ∧ false = unqB s) := by
        have := HQ.out
        rw [show s.data.toList.drop k = [] from List.drop_of_length_le (by simp; omega)] at this
        exact unq_of this
      clear HQ
      go_wp2_with fail
      go_ret2
      exact ⟨ret_two HE.out.1 HE.out.2, hb⟩
theorem l2Unquote_any (s : ByteArray) (w : World) (hs : s.size ≤ 2002) :
    Calls Tryd.prog 153 #[.string s] w fun e w' => e = .returned (.tuple #[.string (unqS s), .bool (unqB s)]) ∧ Below w.heap.size w w' := by
  by_cases h : 2 ≤ s.data.toList.length ∧ s.data.toList.head? = some 34 ∧ plainL s.data.toList = true
  · exact l2Unquote_yes s w hs h.1 h.2.1 h.2.2
  · have e := unq_of (unqT_no h)
    have := l2Unquote_not s w hs h
    rw [← e.1, ← e.2]
    exact this
end Go.Proofs.YtibomkcbopkpkaaDoor
