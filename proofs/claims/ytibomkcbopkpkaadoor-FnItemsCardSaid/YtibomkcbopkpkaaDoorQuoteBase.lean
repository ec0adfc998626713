/-
  What the model's l2Quote answers.
-/
import Derived.Test.YtibomkcbopkpkaaDoorPlainSpec
namespace Go.Proofs.YtibomkcbopkpkaaDoor
open Go.ChangeShapes Go.WideShapes Go.ChangeAt Go.RowKit
def quoteT (s : ByteArray) : ByteArray := ⟨(quoteL s.data.toList).toArray⟩
set_option maxHeartbeats 2000000 in
theorem l2Quote_any (s : ByteArray) (w : World) (hs : s.size ≤ 2002) :
    Calls Tryd.prog 81 #[.string s] w fun e w' => e = .returned (.string (quoteT s)) ∧ Below w.heap.size w w' := by
  go_enter Tryd.func81, Tryd.ntmps81
  go_wp2
  go_loopw [3, 4] (fun v i wr => ∃ k : Nat, k ≤ s.size ∧ i = .int .i64 k ∧ OwnB wr w.heap.size v ([34] ++ quoteB (s.data.toList.take k)) ∧ Below w.heap.size w wr) (fun _ i _ => s.size - (intOf i).toNat)
  case atStart => exact ⟨0, Nat.zero_le _, rfl, OwnB.made w w.heap.size (Nat.le_refl _) [34] (by decide), (Below.refl _ _).alloc (Nat.le_refl _) _⟩
  case round =>
    obtain ⟨k, hk, rfl, hown, hb⟩ := hrel
    have HO : Hid (OwnB wr w.heap.size u3 ([34] ++ quoteB (s.data.toList.take k))) := hown
    have hz := hb.size
    have hlen : ([34] ++ quoteB (s.data.toList.take k)).length ≤ 5000 := by
      have := quoteB_len (s.data.toList.take k)
      simp only [List.length_append, List.length_cons, List.length_nil, List.length_take] at this ⊢
      omega
    clear hown
    by_cases hlt : k < s.size
    · have HS : Hid (s.data.toList.take (k + 1) = s.data.toList.take k ++ [s[k]]) := take_snoc s k hlt
      by_cases hq : (s[k].toNat : Int) = 34 ∨ (s[k].toNat : Int) = 92
      · have HE : Hid ([34] ++ quoteB (s.data.toList.take (k + 1)) = [34] ++ quoteB (s.data.toList.take k) ++ [92] ++ [s[k]]) := by
          show _ = _
          rw [HS.out, quoteB_snoc, quoteC_yes hq]; simp
        generalize [34] ++ quoteB (s.data.toList.take k) = L at *
        by_cases q1 : (s[k].toNat : Int) = 34
        · have g1 : ((s[k].toNat : Int) == 34) = true := by simpa using q1
          clear hq q1
          go_wp2_with (first
            | (at_builtin; refine wpList_append_byte _ rfl (.tmp 22) (.tmp 23) rfl w.heap.size _ L 92 92 rfl rfl HO.out rfl (by omega) hz ?_; intro v1 w1 HO1 hb1 hz1)
            | (at_builtin; refine wpList_append_byte _ rfl (.tmp 25) (.tmp 29) rfl w.heap.size _ (L ++ [92]) _ s[k] rfl rfl HO1 rfl (by simp; omega) (by omega) ?_; intro v2 w2 HO2 hb2 hz2))
          go_roundw
          case rel => exact ⟨k + 1, by omega, by go_num, by rw [HE.out]; exact HO2, hb.trans (hb1.trans hb2)⟩
          case measure => simp [intOf]; omega
        · have g1 : ((s[k].toNat : Int) == 34) = false := by simpa using q1
          have g2 : ((s[k].toNat : Int) == 92) = true := by simp; omega
          clear hq q1
          go_wp2_with (first
            | (at_builtin; refine wpList_append_byte _ rfl (.tmp 22) (.tmp 23) rfl w.heap.size _ L 92 92 rfl rfl HO.out rfl (by omega) hz ?_; intro v1 w1 HO1 hb1 hz1)
            | (at_builtin; refine wpList_append_byte _ rfl (.tmp 25) (.tmp 29) rfl w.heap.size _ (L ++ [92]) _ s[k] rfl rfl HO1 rfl (by simp; omega) (by omega) ?_; intro v2 w2 HO2 hb2 hz2))
          go_roundw
          case rel => exact ⟨k + 1, by omega, by go_num, by rw [HE.out]; exact HO2, hb.trans (hb1.trans hb2)⟩
          case measure => simp [intOf]; omega
      · have HE : Hid ([34] ++ quoteB (s.data.toList.take (k + 1)) = [34] ++ quoteB (s.data.toList.take k) ++ [s[k]]) := by
          show _ = _
          rw [HS.out, quoteB_snoc, quoteC_no hq]; simp
        generalize [34] ++ quoteB (s.data.toList.take k) = L at *
        have g1 : ((s[k].toNat : Int) == 34) = false := by simp; omega
        have g2 : ((s[k].toNat : Int) == 92) = false := by simp; omega
        clear hq
        go_wp2_with (at_builtin; refine wpList_append_byte _ rfl (.tmp 25) (.tmp 29) rfl w.heap.size _ L _ s[k] rfl rfl HO.out rfl (by omega) hz ?_; intro v2 w2 HO2 hb2 hz2)
        go_roundw
        case rel => exact ⟨k + 1, by omega, by go_num, by rw [HE.out]; exact HO2, hb.trans hb2⟩
        case measure => simp [intOf]; omega
    · have ek : s.data.toList.take k = s.data.toList := List.take_of_length_le (by simp; omega)
      rw [ek] at hlen HO
      have HE : Hid ((⟨([34] ++ quoteB s.data.toList ++ [34]).toArray⟩ : ByteArray) = quoteT s) := rfl
      generalize [34] ++ quoteB s.data.toList = L at *
      clear ek
      go_wp2_with (at_builtin; refine wpList_append_byte _ rfl (.tmp 31) (.tmp 32) rfl w.heap.size _ L 34 34 rfl rfl HO.out rfl (by omega) hz ?_; intro v1 w1 HO1 hb1 hz1; have hcv := HO1.text)
      go_ret
      exact ⟨ret_str HE.out, hb.trans hb1⟩
end Go.Proofs.YtibomkcbopkpkaaDoor
