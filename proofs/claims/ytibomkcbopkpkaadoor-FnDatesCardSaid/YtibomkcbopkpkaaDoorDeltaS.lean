/-
  What the model's l1Delta answers.
-/
import Derived.Test.YtibomkcbopkpkaaDoorBase
import Derived.Test.YtibomkcbopkpkaaDoorDigits
namespace Go.Proofs.YtibomkcbopkpkaaDoor
open Go.ChangeShapes Go.WideShapes Go.ChangeAt Go.RowKit
set_option maxHeartbeats 400000 in
theorem l1Delta_size (s : ByteArray) (w : World) (h : s.size < 1 ∨ 64 < s.size) :
    Calls Tryd.prog 71 #[.string s] w fun e w' => e = .returned (.int .i64 (numD s)) ∧ w' = w := by
  rcases h with h | h
  · rw [numD_no s (okD_short s h)]
    have hh : (s.size : Int) < 1 := by omega
    go_enter Tryd.func71, Tryd.ntmps71
    go_wp2
    go_ret
    exact ⟨rfl, rfl⟩
  · rw [numD_no s (okD_long s h)]
    have hh : (64 : Int) < s.size := by omega
    have h1 : ¬ (s.size : Int) < 1 := by omega
    go_enter Tryd.func71, Tryd.ntmps71
    go_wp2
    go_ret
    exact ⟨rfl, rfl⟩
set_option maxHeartbeats 1000000 in
theorem l1Delta_any (s : ByteArray) (w : World) (h1 : 1 ≤ s.size) (h2 : s.size ≤ 64) :
    Calls Tryd.prog 71 #[.string s] w fun e w' => e = .returned (.int .i64 (numD s)) ∧ w' = w := by
  have g1 : ¬ (s.size : Int) < 1 := by omega
  have g2 : ¬ (64 : Int) < s.size := by omega
  go_enter Tryd.func71, Tryd.ntmps71
  go_wp2
  go_loop [3, 4] (fun n i => ∃ k : Nat, k ≤ s.size ∧ i = .int .i64 k ∧ allD (s.data.toList.take k) = true ∧ n = .int .i64 (valD (s.data.toList.take k))) (fun _ i => s.size - (intOf i).toNat)
  case atStart => exact ⟨0, Nat.zero_le _, rfl, rfl, rfl⟩
  case round =>
    obtain ⟨k, hk, rfl, hall, rfl⟩ := hrel
    have hd := valD_bd _ hall
    by_cases hlt : k < s.size
    · by_cases hdig : digB s[k] = true
      · have hb : 48 ≤ (s[k].toNat : Int) ∧ (s[k].toNat : Int) ≤ 57 := by simpa [digB] using hdig
        obtain ⟨hb1, hb2⟩ := hb
        have HS : Hid (valD (s.data.toList.take (k + 1)) = accD (valD (s.data.toList.take k)) s[k]) := by
          show _ = _
          rw [take_snoc s k hlt, valD_snoc]
        have HA : Hid (allD (s.data.toList.take (k + 1)) = true) := by
          show _ = _
          rw [take_snoc s k hlt, allD_snoc, hall, hdig]; rfl
        have d2 : decide ((s[k].toNat : Int) ≤ 57) = true := by simpa using hb2
        clear hdig hall
        generalize hv : valD (s.data.toList.take k) = n at *
        clear hv
        by_cases hm : n * 10 + ((s[k].toNat : Int) - 48) < 2147483648
        · have HE : Hid (valD (s.data.toList.take (k + 1)) = n * 10 + ((s[k].toNat : Int) - 48)) := by
            show _ = _
            rw [HS.out, accD, if_pos hm]
          go_wp2
          go_round
          case rel => exact ⟨k + 1, by omega, by go_num, HA.out, by rw [HE.out]; rfl⟩
          case measure => simp [intOf]; omega
        · have HE : Hid (valD (s.data.toList.take (k + 1)) = 2147483648) := by
            show _ = _
            rw [HS.out, accD, if_neg hm]
          go_wp2
          go_round
          case rel => exact ⟨k + 1, by omega, by go_num, HA.out, by rw [HE.out]; rfl⟩
          case measure => simp [intOf]; omega
      · have hf : digB s[k] = false := by simpa using hdig
        have HN : Hid (numD s = -1) := numD_no s (okD_not s k hlt hf)
        have hb : ¬ (48 ≤ (s[k].toNat : Int) ∧ (s[k].toNat : Int) ≤ 57) := by simpa [digB] using hdig
        clear hdig hf
        by_cases hb1 : 48 ≤ (s[k].toNat : Int)
        · have hb2 : 57 < (s[k].toNat : Int) := by omega
          have d2 : decide ((s[k].toNat : Int) ≤ 57) = false := by simp; omega
          clear hb hall hd
          go_wp2
          go_ret
          exact ⟨ret_int (by rw [HN.out]), rfl⟩
        · clear hb hall hd
          go_wp2
          go_ret
          exact ⟨ret_int (by rw [HN.out]), rfl⟩
    · have ek : s.data.toList.take k = s.data.toList := List.take_of_length_le (by simp; omega)
      rw [ek] at hall hd ⊢
      have HN : Hid (numD s = valD s.data.toList) := numD_yes s (okD_yes s h1 h2 hall)
      clear ek hall
      go_wp2
      go_ret
      exact ⟨ret_int (by rw [HN.out]), rfl⟩
end Go.Proofs.YtibomkcbopkpkaaDoor
