/-
  What DeltaOf's model and DeltaOf itself answer, for any text; the law out of them.
-/
import Derived.Test.YtibomkcbopkpkaaDoorBase
import Derived.Test.YtibomkcbopkpkaaDoorDeltaS
namespace Go.Proofs.YtibomkcbopkpkaaDoor
open Go.ChangeShapes Go.WideShapes Go.ChangeAt Go.RowKit
set_option maxHeartbeats 400000 in
theorem specDelta_no (s : ByteArray) (w : World) (h : okD s = false) :
    Calls Tryd.prog 25 #[.string s] w fun e w' => e = .returned (.agg #[.int .i64 5, .int .i64 0]) ∧ Below w.heap.size w w' := by
  have HN : Hid (numD s = -1) := numD_no s h
  have H24 : Hid (∀ w, Calls Tryd.prog 71 #[.string s] w fun e w' => e = .returned (.int .i64 (numD s)) ∧ w' = w) := by
    intro w
    by_cases c : s.size < 1 ∨ 64 < s.size
    · exact l1Delta_size s w c
    · exact l1Delta_any s w (by omega) (by omega)
  clear h
  go_enter Tryd.func25, Tryd.ntmps25
  go_wp2_with fail
  refine (H24.out _).mono ?_
  rintro e w1 ⟨rfl, rfl⟩
  rw [HN.out]
  go_wp2
  exact bodyPost_ret (v := .agg #[.int .i64 5, .int .i64 0]) (by simp [results, Tryd.results25, go_sem]) rfl ⟨rfl, (Below.refl _ _).alloc (Nat.le_refl _) _⟩
set_option maxHeartbeats 400000 in
theorem specDelta_yes (s : ByteArray) (w : World) (h : okD s = true) :
    Calls Tryd.prog 25 #[.string s] w fun e w' => e = .returned (.agg #[.int .i64 0, .int .i64 (valD s.data.toList)]) ∧ Below w.heap.size w w' := by
  have HN : Hid (numD s = valD s.data.toList) := numD_yes s h
  have hb := okD_bd s h
  have H24 : Hid (∀ w, Calls Tryd.prog 71 #[.string s] w fun e w' => e = .returned (.int .i64 (numD s)) ∧ w' = w) := by
    intro w
    by_cases c : s.size < 1 ∨ 64 < s.size
    · exact l1Delta_size s w c
    · exact l1Delta_any s w (by omega) (by omega)
  clear h
  go_enter Tryd.func25, Tryd.ntmps25
  go_wp2_with fail
  refine (H24.out _).mono ?_
  rintro e w1 ⟨rfl, rfl⟩
  rw [HN.out]
  go_wp2
  exact bodyPost_ret (v := .agg #[.int .i64 0, .int .i64 (valD s.data.toList)]) (by simp [results, Tryd.results25, go_sem]) rfl ⟨rfl, (Below.refl _ _).alloc (Nat.le_refl _) _⟩
set_option maxHeartbeats 400000 in
theorem implDelta_size (s : ByteArray) (w : World) (h : s.size < 1 ∨ 64 < s.size) :
    Calls Tryd.prog 20 #[.string s] w fun e w' => e = .returned (.agg #[.int .i64 5, .int .i64 0]) ∧ Below w.heap.size w w' := by
  rcases h with h | h
  · have hh : (s.size : Int) < 1 := by omega
    go_enter Tryd.func20, Tryd.ntmps20
    go_wp2
    exact bodyPost_ret (v := .agg #[.int .i64 5, .int .i64 0]) (by simp [results, Tryd.results20, go_sem]) rfl ⟨rfl, (Below.refl _ _).alloc (Nat.le_refl _) _⟩
  · have hh : (64 : Int) < s.size := by omega
    have h1 : ¬ (s.size : Int) < 1 := by omega
    go_enter Tryd.func20, Tryd.ntmps20
    go_wp2
    exact bodyPost_ret (v := .agg #[.int .i64 5, .int .i64 0]) (by simp [results, Tryd.results20, go_sem]) rfl ⟨rfl, (Below.refl _ _).alloc (Nat.le_refl _) _⟩
def dC (s : ByteArray) : Int := if okD s = true then 0 else 5
def dV (s : ByteArray) : Int := if okD s = true then valD s.data.toList else 0
theorem dC_no {s : ByteArray} (h : okD s = false) : dC s = 5 := by simp [dC, h]
theorem dV_no {s : ByteArray} (h : okD s = false) : dV s = 0 := by simp [dV, h]
theorem dC_yes {s : ByteArray} (h : okD s = true) : dC s = 0 := by simp [dC, h]
theorem dV_yes {s : ByteArray} (h : okD s = true) : dV s = valD s.data.toList := by simp [dV, h]
set_option maxHeartbeats 1000000 in
theorem implDelta_any (s : ByteArray) (w : World) (h1 : 1 ≤ s.size) (h2 : s.size ≤ 64) :
    Calls Tryd.prog 20 #[.string s] w fun e w' => e = .returned (.agg #[.int .i64 (dC s), .int .i64 (dV s)]) ∧ Below w.heap.size w w' := by
  have g1 : ¬ (s.size : Int) < 1 := by omega
  have g2 : ¬ (64 : Int) < s.size := by omega
  go_enter Tryd.func20, Tryd.ntmps20
  go_wp2
  go_loop [3, 16] (fun n i => ∃ k : Nat, k ≤ s.size ∧ i = .int .i64 k ∧ allD (s.data.toList.take k) = true ∧ n = .int .i64 (valD (s.data.toList.take k))) (fun _ i => s.size - (intOf i).toNat)
  case atStart => exact ⟨0, Nat.zero_le _, rfl, rfl, rfl⟩
  case round =>
    obtain ⟨k, hk, rfl, hall, rfl⟩ := hrel
    have hd := valD_bd _ hall
    by_cases hlt : k < s.size
    · by_cases hdig : digB s[k] = true
      · have hb : 48 ≤ (s[k].toNat : Int) ∧ (s[k].toNat : Int) ≤ 57 := by simpa [digB] using hdig
        obtain ⟨hb1, hb2⟩ := hb
        have HS : Hid (valD (s.data.toList.take (k + 1)) = accD (valD (s.data.toList.take k)) s[k]) := by
          show _ = _
          rw [take_snoc s k hlt, valD_snoc]
        have HA : Hid (allD (s.data.toList.take (k + 1)) = true) := by
          show _ = _
          rw [take_snoc s k hlt, allD_snoc, hall, hdig]; rfl
        have d2 : decide ((s[k].toNat : Int) ≤ 57) = true := by simpa using hb2
        clear hdig hall
        generalize hv : valD (s.data.toList.take k) = n at *
        clear hv
        by_cases hm : n * 10 + ((s[k].toNat : Int) - 48) < 2147483648
        · have HE : Hid (valD (s.data.toList.take (k + 1)) = n * 10 + ((s[k].toNat : Int) - 48)) := by
            show _ = _
            rw [HS.out, accD, if_pos hm]
          go_wp2
          go_round
          case rel => exact ⟨k + 1, by omega, by go_num, HA.out, by rw [HE.out]⟩
          case measure => simp [intOf]; omega
        · have HE : Hid (valD (s.data.toList.take (k + 1)) = 2147483648) := by
            show _ = _
            rw [HS.out, accD, if_neg hm]
          go_wp2
          go_round
          case rel => exact ⟨k + 1, by omega, by go_num, HA.out, by rw [HE.out]; congr 1; split <;> omega⟩
          case measure => simp [intOf]; omega
      · have hf : digB s[k] = false := by simpa using hdig
        have ho := okD_not s k hlt hf
        have HO : Hid (okD s = false) := ho
        have hb : ¬ (48 ≤ (s[k].toNat : Int) ∧ (s[k].toNat : Int) ≤ 57) := by simpa [digB] using hdig
        clear hdig hf ho
        by_cases hb1 : 48 ≤ (s[k].toNat : Int)
        · have hb2 : 57 < (s[k].toNat : Int) := by omega
          have d2 : decide ((s[k].toNat : Int) ≤ 57) = false := by simp; omega
          clear hb hall hd
          go_wp2
          exact bodyPost_ret (v := .agg #[.int .i64 5, .int .i64 0]) (by simp [results, Tryd.results20, go_sem]) rfl ⟨by rw [dC_no HO.out, dV_no HO.out], (Below.refl _ _).alloc (Nat.le_refl _) _⟩
        · clear hb hall hd
          go_wp2
          exact bodyPost_ret (v := .agg #[.int .i64 5, .int .i64 0]) (by simp [results, Tryd.results20, go_sem]) rfl ⟨by rw [dC_no HO.out, dV_no HO.out], (Below.refl _ _).alloc (Nat.le_refl _) _⟩
    · have ek : s.data.toList.take k = s.data.toList := List.take_of_length_le (by simp; omega)
      rw [ek] at hall hd ⊢
      have ho := okD_yes s h1 h2 hall
      have HO : Hid (okD s = true) := ho
      clear ek hall ho
      go_wp2
      exact bodyPost_ret (v := .agg #[.int .i64 0, .int .i64 (valD s.data.toList)]) (by simp [results, Tryd.results20, go_sem]) rfl ⟨by rw [dC_yes HO.out, dV_yes HO.out], (Below.refl _ _).alloc (Nat.le_refl _) _⟩
theorem specDelta_any (s : ByteArray) (w : World) :
    Calls Tryd.prog 25 #[.string s] w fun e w' => e = .returned (.agg #[.int .i64 (dC s), .int .i64 (dV s)]) ∧ Below w.heap.size w w' := by
  cases h : okD s
  · rw [dC_no h, dV_no h]; exact specDelta_no s w h
  · rw [dC_yes h, dV_yes h]; exact specDelta_yes s w h
theorem implDelta (s : ByteArray) (w : World) :
    Calls Tryd.prog 20 #[.string s] w fun e w' => e = .returned (.agg #[.int .i64 (dC s), .int .i64 (dV s)]) ∧ Below w.heap.size w w' := by
  by_cases c : s.size < 1 ∨ 64 < s.size
  · have h : okD s = false := by
      rcases c with c | c
      · exact okD_short s c
      · exact okD_long s c
    rw [dC_no h, dV_no h]; exact implDelta_size s w c
  · exact implDelta_any s w (by omega) (by omega)
end Go.Proofs.YtibomkcbopkpkaaDoor
