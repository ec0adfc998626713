/-
  What pieceEnd answers.
-/
import Derived.Test.YtibomkcbopkpkaaDoorPiecesSpec
import Derived.Test.YtibomkcbopkpkaaDoorQuoteEnd
import Derived.WalkMore
namespace Go.Proofs.YtibomkcbopkpkaaDoor
open Go.ChangeShapes Go.WideShapes Go.ChangeAt Go.RowKit
/-- Where the piece that begins at b ends. -/
def pEnd (l : List UInt8) (b : Nat) : Nat := b + peS false (l.drop b)
theorem pEnd_quote (s : ByteArray) (k : Nat) (hk : k < s.size) (hc : (s[k].toNat : Int) = 34) :
    (qEnd s.data.toList k + 1 ≤ s.size ∧ k + peS false (s.data.toList.drop k) = (qEnd s.data.toList k + 1) + peS false (s.data.toList.drop (qEnd s.data.toList k + 1))) ∨ (qEnd s.data.toList k + 1 = s.size + 1 ∧ k + peS false (s.data.toList.drop k) = s.size) := by
  have hz := size_list s
  have hr : (s.data.toList.drop (k + 1)).length = s.size - (k + 1) := by rw [List.length_drop, hz]
  have hq := qLen_le (s.data.toList.drop (k + 1))
  have e : k + peS false (s.data.toList.drop k) = k + 1 + peS true (s.data.toList.drop (k + 1)) := by
    rw [drop_at s k hk, peS_quote hc]; simp only [Bool.not_false]; omega
  rw [e, peS_in _ (s.data.toList.drop (k + 1)) (Nat.le_refl _)]
  unfold qEnd
  by_cases q : qLen (s.data.toList.drop (k + 1)) < (s.data.toList.drop (k + 1)).length
  · left
    rw [if_pos q, List.drop_drop]
    refine ⟨by omega, ?_⟩
    rw [show k + 1 + (qLen (s.data.toList.drop (k + 1)) + 1) = k + 1 + qLen (s.data.toList.drop (k + 1)) + 1 from by omega]
    omega
  · right
    rw [if_neg q]
    omega
set_option maxHeartbeats 2000000 in
theorem pieceEnd_any (s : ByteArray) (b : Nat) (w : World) (hs : s.size ≤ 1000) (hb : b < s.size) :
    Calls Tryd.prog 124 #[.string s, .int .i64 b] w fun e w' => e = .returned (.int .i64 (pEnd s.data.toList b : Int)) ∧ w' = w := by
  have hz := size_list s
  go_enter Tryd.func124, Tryd.ntmps124
  go_wp2
  go_step3
  go_wp2
  go_step3
  go_wp2
  go_loop [5] (fun i => ∃ k : Nat, i = .int .i64 k ∧ ((k ≤ s.size ∧ pEnd s.data.toList b = k + peS false (s.data.toList.drop k)) ∨ (k = s.size + 1 ∧ pEnd s.data.toList b = s.size))) (fun i => s.size + 1 - (intOf i).toNat)
  case atStart => exact ⟨b, rfl, .inl ⟨by omega, rfl⟩⟩
  case round =>
    obtain ⟨k, rfl, hk⟩ := hrel
    by_cases hlt : k < s.size
    · have HK : Hid (pEnd s.data.toList b = k + peS false (s.data.toList.drop k)) := by
        rcases hk with hk | hk
        · exact hk.2
        · omega
      clear hk
      by_cases c1 : (s[k].toNat : Int) = 34
      · have e1 : ((s[k].toNat : Int) == 34) = true := by simpa using c1
        have hq := pEnd_quote s k hlt c1
        have hqk : k ≤ qEnd s.data.toList k := by unfold qEnd; omega
        have HQ := quoteEnd_any s k w (by omega) hlt
        generalize qEnd s.data.toList k = q at *
        have HX : Hid ((q + 1 ≤ s.size ∧ pEnd s.data.toList b = (q + 1) + peS false (s.data.toList.drop (q + 1))) ∨ (q + 1 = s.size + 1 ∧ pEnd s.data.toList b = s.size)) := by
          rw [HK.out]; exact hq
        have hq1 : q ≤ s.size := by rcases hq with h | h <;> omega
        clear hq HK c1
        go_wp2_with fail
        refine HQ.mono ?_
        rintro e w1 ⟨rfl, rfl⟩
        go_wp2_with fail
        go_round
        case rel => exact ⟨q + 1, by go_num, HX.out⟩
        case measure => simp [intOf]; omega
      · have e1 : ((s[k].toNat : Int) == 34) = false := by simpa using c1
        by_cases c2 : (s[k].toNat : Int) = 44
        · have e2 : ((s[k].toNat : Int) == 44) = true := by simpa using c2
          have HX : Hid ((k : Int) = (pEnd s.data.toList b : Int)) := by
            show _ = _
            rw [HK.out, drop_at s k hlt, peS_comma c2]; omega
          have hm : min (k : Int) (s.size : Int) = k := by omega
          clear HK c1 c2
          go_wp2_with fail
          go_ret
          exact ⟨ret_int HX.out, rfl⟩
        · have e2 : ((s[k].toNat : Int) == 44) = false := by simpa using c2
          have HX : Hid (k + 1 ≤ s.size ∧ pEnd s.data.toList b = (k + 1) + peS false (s.data.toList.drop (k + 1))) := by
            show _ ∧ _
            refine ⟨by omega, ?_⟩
            rw [HK.out, drop_at s k hlt, peS_take (by simp) c1 (fun x => c2 x.1)]; omega
          clear HK c1 c2
          go_wp2_with fail
          go_round
          case rel => exact ⟨k + 1, by go_num, .inl HX.out⟩
          case measure => simp [intOf]; omega
    · have HX : Hid ((s.size : Int) = (pEnd s.data.toList b : Int)) := by
        show _ = _
        rcases hk with hk | hk
        · rw [hk.2, show s.data.toList.drop k = [] from List.drop_of_length_le (by omega)]; simp [peS]; omega
        · rw [hk.2]
      have hm : min (k : Int) (s.size : Int) = s.size := by omega
      clear hk
      go_wp2_with fail
      go_ret
      exact ⟨ret_int HX.out, rfl⟩
end Go.Proofs.YtibomkcbopkpkaaDoor
