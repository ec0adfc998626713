/-
  What quoteEnd answers.
-/
import Derived.Test.YtibomkcbopkpkaaDoorOwnNil
namespace Go.Proofs.YtibomkcbopkpkaaDoor
open Go.ChangeShapes Go.WideShapes Go.ChangeAt Go.RowKit
set_option maxHeartbeats 1000000 in
theorem quoteEnd_any (s : ByteArray) (b : Nat) (w : World) (hs : s.size ≤ 1048576) (hb : b < s.size) :
    Calls Tryd.prog 149 #[.string s, .int .i64 b] w fun e w' => e = .returned (.int .i64 (qEnd s.data.toList b : Int)) ∧ w' = w := by
  go_enter Tryd.func149, Tryd.ntmps149
  go_wp2
  go_loop [5] (fun i => ∃ k : Nat, i = .int .i64 k ∧ ((k ≤ s.size ∧ qEnd s.data.toList b = k + qLen (s.data.toList.drop k)) ∨ (k = s.size + 1 ∧ qEnd s.data.toList b = s.size))) (fun i => s.size + 1 - (intOf i).toNat)
  case atStart => exact ⟨b + 1, by go_num, .inl ⟨by omega, rfl⟩⟩
  case round =>
    obtain ⟨k, rfl, hk⟩ := hrel
    by_cases hlt : k < s.size
    · have HK : Hid (qEnd s.data.toList b = k + qLen (s.data.toList.drop k)) := by
        rcases hk with hk | hk
        · exact hk.2
        · omega
      have HD : Hid (s.data.toList.drop k = s[k] :: s.data.toList.drop (k + 1)) := drop_at s k hlt
      clear hk
      by_cases c1 : (s[k].toNat : Int) = 34
      · have e1 : ((s[k].toNat : Int) == 34) = true := by simpa using c1
        have e2 : ((s[k].toNat : Int) == 92) = false := by simp; omega
        have HE : Hid ((k : Int) = (qEnd s.data.toList b : Int)) := by
          show _ = _
          rw [HK.out, HD.out, qLen_end _ _ c1]; omega
        clear HK HD c1
        go_wp2
        go_ret
        exact ⟨ret_int HE.out, rfl⟩
      · have e1 : ((s[k].toNat : Int) == 34) = false := by simpa using c1
        by_cases c2 : (s[k].toNat : Int) = 92
        · have e2 : ((s[k].toNat : Int) == 92) = true := by simpa using c2
          have HE : Hid ((k + 2 ≤ s.size ∧ qEnd s.data.toList b = (k + 2) + qLen (s.data.toList.drop (k + 2))) ∨ (k + 2 = s.size + 1 ∧ qEnd s.data.toList b = s.size)) := by
            show _ ∨ _
            by_cases hl : k + 1 = s.size
            · right
              refine ⟨by omega, ?_⟩
              rw [HK.out, HD.out, show s.data.toList.drop (k + 1) = [] from List.drop_of_length_le (by simp; omega), qLen_cut _ c2]; omega
            · left
              refine ⟨by omega, ?_⟩
              rw [HK.out, HD.out, drop_at s (k + 1) (by omega), qLen_esc _ _ _ c2, show k + 1 + 1 = k + 2 from rfl]; omega
          clear HK HD c1 c2
          go_wp2
          go_round
          case rel => exact ⟨k + 2, by go_num, HE.out⟩
          case measure => simp [intOf]; omega
        · have e2 : ((s[k].toNat : Int) == 92) = false := by simpa using c2
          have HE : Hid (k + 1 ≤ s.size ∧ qEnd s.data.toList b = (k + 1) + qLen (s.data.toList.drop (k + 1))) := by
            show _ ∧ _
            refine ⟨by omega, ?_⟩
            rw [HK.out, HD.out, qLen_take _ _ c1 c2]; omega
          clear HK HD c1 c2
          go_wp2
          go_round
          case rel => exact ⟨k + 1, by go_num, .inl HE.out⟩
          case measure => simp [intOf]; omega
    · have HE : Hid ((s.size : Int) = (qEnd s.data.toList b : Int)) := by
        show _ = _
        rcases hk with hk | hk
        · rw [hk.2, show s.data.toList.drop k = [] from List.drop_of_length_le (by simp; omega)]; simp [qLen]; omega
        · rw [hk.2]
      clear hk
      go_wp2
      go_ret
      exact ⟨ret_int HE.out, rfl⟩
set_option maxHeartbeats 400000 in
theorem hasQuote_any (s : ByteArray) (w : World) (hs : s.size ≤ 1048576) :
    Calls Tryd.prog 168 #[.string s, .string ⟨#[34]⟩] w fun e w' => e = .returned (.bool (decide (s.data.toList.head? = some 34))) ∧ w' = w := by
  by_cases h : s.size < 1
  · have HE : Hid (decide (s.data.toList.head? = some 34) = false) := by
      show _ = _
      have : s.data.toList = [] := List.eq_nil_of_length_eq_zero (by have := size_list s; omega)
      rw [this]; simp
    go_enter Tryd.func168, Tryd.ntmps168
    go_wp2
    go_ret
    exact ⟨ret_bool HE.out.symm, rfl⟩
  · have HE : Hid (((s.extract 0 1).toList == [34]) = decide (s.data.toList.head? = some 34)) := by
      show _ = _
      have h0 : 0 < s.size := by omega
      have e1 := drop_at s 0 h0
      rw [List.drop_zero] at e1
      have e2 : (s.extract 0 1).toList = [s[0]] := by
        rw [ByteArray.toList_eq, ByteArray.data_extract, Array.toList_extract, List.extract_eq_take_drop, List.drop_zero, e1]; rfl
      rw [e2, e1]
      simp only [List.head?_cons, Option.some.injEq]
      by_cases c : s[0] = 34
      · rw [c]; rfl
      · simp [c]
    go_enter Tryd.func168, Tryd.ntmps168
    go_wp2
    go_ret
    exact ⟨ret_bool HE.out, rfl⟩
end Go.Proofs.YtibomkcbopkpkaaDoor
