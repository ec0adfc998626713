/-
  The model's ParseDate.
-/
import Derived.Test.YtibomkcbopkpkaaDoorDatePar
import Derived.Test.YtibomkcbopkpkaaDoorDateFmtS
import Derived.Test.YtibomkcbopkpkaaDoorDateSecs
import Derived.Test.YtibomkcbopkpkaaDoorDateDig
import Derived.Test.YtibomkcbopkpkaaDoorDeltaS
namespace Go.Proofs.YtibomkcbopkpkaaDoor
open Go.ChangeShapes Go.WideShapes Go.ChangeAt Go.RowKit Go.Sort
theorem l1Delta_fn (s : ByteArray) (w : World) : Calls Tryd.prog 71 #[.string s] w fun e w' => e = .returned (.int .i64 (numD s)) ∧ w' = w := by
  by_cases c : s.size < 1 ∨ 64 < s.size
  · exact l1Delta_size s w c
  · exact l1Delta_any s w (by omega) (by omega)
theorem cut_slice (s : ByteArray) (a b : Nat) (hab : a ≤ b) (hb : b ≤ s.size) (w : World) :
    (Instr.slice 9 (.string s) (some (.int .i64 (a : Int))) (some (.int .i64 (b : Int))) none).run Tryd.prog w = .ok (.string (s.extract a b)) w := by
  have := run_slice_string (P := Tryd.prog) w 9 s .i64 .i64 (a : Int) (b : Int) Tryd.underlying9 (by omega) (by omega) (by omega)
  simpa using this
set_option maxHeartbeats 1000000 in
theorem l3Number_any (s : ByteArray) (a k : Nat) (ha : a ≤ 100) (hk : k ≤ 100) (h : a + k ≤ s.size) (w : World) :
    Calls Tryd.prog 136 #[.string s, .int .i64 (a : Int), .int .i64 (k : Int)] w fun e w' => e = .returned (.int .i64 (numD (s.extract a (a + k)))) ∧ w' = w := by
  have hc := cut_slice s a (a + k) (by omega) h
  rw [show ((a + k : Nat) : Int) = (a : Int) + k by omega] at hc
  have H := l1Delta_fn (s.extract a (a + k))
  generalize s.extract a (a + k) = t at *
  go_enter Tryd.func136, Tryd.ntmps136
  go_wp2_with fail
  refine (H _).mono ?_
  rintro e w1 ⟨rfl, rfl⟩
  go_wp2_with fail
  go_ret
  exact ⟨rfl, rfl⟩
set_option maxRecDepth 100000 in
set_option maxHeartbeats 4000000 in
theorem l3Parse_any (s : ByteArray) (w : World) :
    Calls Tryd.prog 100 #[.string s] w fun e w' => e = .returned (.int .i64 (parI s)) ∧ Below w.heap.size w w' := by
  by_cases hz : ¬ s.size = 29
  · have HN : Hid (parI s = -1) := parI_no fun h => absurd h hz
    have hz2 : ¬ (s.size : Int) = 29 := by omega
    clear hz
    go_enter Tryd.func100, Tryd.ntmps100
    go_wp2
    go_ret
    exact ⟨ret_int (by rw [HN.out]), Below.refl _ _⟩
  have hz : s.size = 29 := Decidable.not_not.1 hz
  have HY : Hid (∀ m, Cand s m → parI s = parS s m) := fun m h => parI_yes hz h
  have HN : Hid ((∀ m, ¬ Cand s m) → parI s = -1) := fun h => parI_no fun _ => h
  have HA : Hid (∀ w, Calls Tryd.prog 136 #[.string s, .int .i64 12, .int .i64 4] w fun e w' => e = .returned (.int .i64 (numD (s.extract 12 16))) ∧ w' = w) := fun w => l3Number_any s 12 4 (by omega) (by omega) (by omega) w
  have HB : Hid (∀ w, Calls Tryd.prog 136 #[.string s, .int .i64 5, .int .i64 2] w fun e w' => e = .returned (.int .i64 (numD (s.extract 5 7))) ∧ w' = w) := fun w => l3Number_any s 5 2 (by omega) (by omega) (by omega) w
  have HC : Hid (∀ w, Calls Tryd.prog 136 #[.string s, .int .i64 17, .int .i64 2] w fun e w' => e = .returned (.int .i64 (numD (s.extract 17 19))) ∧ w' = w) := fun w => l3Number_any s 17 2 (by omega) (by omega) (by omega) w
  have HD : Hid (∀ w, Calls Tryd.prog 136 #[.string s, .int .i64 20, .int .i64 2] w fun e w' => e = .returned (.int .i64 (numD (s.extract 20 22))) ∧ w' = w) := fun w => l3Number_any s 20 2 (by omega) (by omega) (by omega) w
  have HE : Hid (∀ w, Calls Tryd.prog 136 #[.string s, .int .i64 23, .int .i64 2] w fun e w' => e = .returned (.int .i64 (numD (s.extract 23 25))) ∧ w' = w) := fun w => l3Number_any s 23 2 (by omega) (by omega) (by omega) w
  have HCA : Hid (∀ m, 1 ≤ m → m ≤ 12 → moT m = s.extract 8 11 → parB s m = true → fmtT (parS s m) = s → Cand s m) := fun m a b c d e => ⟨a, b, c, d, e⟩
  have HCB : Hid (∀ m, Cand s m → moT m = s.extract 8 11 ∧ parB s m = true ∧ fmtT (parS s m) = s ∧ 1 ≤ m ∧ m ≤ 12) := fun m h => ⟨h.mon, h.ok, h.same, h.m0, h.m1⟩
  have HPB : Hid (∀ m, parB s m = dateB (numD (s.extract 12 16)) m (numD (s.extract 5 7)) (numD (s.extract 17 19)) (numD (s.extract 20 22)) (numD (s.extract 23 25))) := fun m => rfl
  have HPS : Hid (∀ m, parS s m = secsD (numD (s.extract 12 16)) m (numD (s.extract 5 7)) (numD (s.extract 17 19)) (numD (s.extract 20 22)) (numD (s.extract 23 25))) := fun m => rfl
  generalize numD (s.extract 12 16) = y at *
  generalize numD (s.extract 5 7) = d at *
  generalize numD (s.extract 17 19) = h at *
  generalize numD (s.extract 20 22) = i at *
  generalize numD (s.extract 23 25) = c at *
  have hz2 : (s.size : Int) = 29 := by omega
  have hsm : Hid (∀ k, 1 ≤ k → k ≤ 12 → ∀ w, (Instr.slice 9 (.string monNames) (some (.int .i64 (3 * k - 3))) (some (.int .i64 (3 * k))) none).run Tryd.prog w = .ok (.string (moT k)) w) := fun k a b => mon_slice k a b
  unfold monNames at hsm
  clear hz
  go_enter Tryd.func100, Tryd.ntmps100
  go_wp2
  generalize (⟨#[74, 97, 110, 70, 101, 98, 77, 97, 114, 65, 112, 114, 77, 97, 121, 74, 117, 110, 74, 117, 108, 65, 117, 103, 83, 101, 112, 79, 99, 116, 78, 111, 118, 68, 101, 99]⟩ : ByteArray) = MN at *
  go_loopw [4] (fun x wr => ∃ k : Int, 1 ≤ k ∧ k ≤ 13 ∧ x = .int .i64 k ∧ (∀ j : Int, j < k → ¬ Cand s j) ∧ Below w.heap.size w wr) (fun x _ => (13 - intOf x).toNat)
  case atStart => exact ⟨1, by omega, by omega, rfl, fun j h hc => by have := (HCB.out j hc).2.2.2.1; omega, Below.refl _ _⟩
  case round =>
    obtain ⟨k, hk0, hk1, rfl, hno, hb⟩ := hrel
    have HNO : Hid (∀ j : Int, j < k → ¬ Cand s j) := hno
    have KB : Hid (Below w.heap.size w wr) := hb
    clear hno hb
    by_cases hlt : k ≤ 12
    · have hs2 := hsm.out k hk0 hlt
      by_cases hm : moT k = s.extract 8 11
      · have HM : Hid (moT k = s.extract 8 11) := hm
        rw [hm] at hs2
        clear hm
        go_wp2_with fail
        go_quiet (fail)
        go_wp2_with fail
        refine (HA.out _).mono ?_
        rintro e w1 ⟨rfl, hw1⟩
        have K1 : Hid (Below w.heap.size w w1) := by
          show Below _ _ _
          rw [hw1]
          first | exact below_drewN KB.out _ | exact KB.out
        clear hw1 KB
        go_wp2_with fail
        refine (HB.out _).mono ?_
        rintro e w2 ⟨rfl, rfl⟩
        go_wp2_with fail
        refine (HC.out _).mono ?_
        rintro e w2 ⟨rfl, rfl⟩
        go_wp2_with fail
        refine (HD.out _).mono ?_
        rintro e w2 ⟨rfl, rfl⟩
        go_wp2_with fail
        refine (HE.out _).mono ?_
        rintro e w2 ⟨rfl, rfl⟩
        go_wp2_with fail
        refine (specFault_any y k d h i c _).mono ?_
        rintro e w3 ⟨rfl, hb3⟩
        have K3 : Hid (Below w.heap.size w w3 ∧ DateAtB w3 w2.heap.size y k d h i c) := ⟨(K1.out.alloc K1.out.size _).trans (hb3.mono (by have := K1.out.size; simp; omega)), (dateAtB_new w2 y k d h i c 48).keep hb3⟩
        clear hb3 K1
        generalize w2.heap.size = Bd at *
        clear w2
        obtain ⟨c0, c1, c2, c3, c4, c5, fr⟩ := K3.out.2
        clear fr
        cases hbd : dateB y k d h i c
        · have HQ : Hid (¬ Cand s k) := fun hc => by
            have := (HCB.out k hc).2.1
            rw [HPB.out, hbd] at this
            cases this
          rw [dfC_no hbd]
          clear hbd
          go_wp2_with fail
          go_roundw
          case rel => exact ⟨k + 1, by omega, by omega, by go_num, fun j h1 => by
            by_cases hj : j = k
            · subst hj; exact HQ.out
            · exact HNO.out j (by omega), K3.out.1⟩
          case measure => simp [intOf]; omega
        · have HOK := dateB_yes hbd
          have HPO : Hid (parB s k = true) := by show _ = _; rw [HPB.out, hbd]
          rw [dfC_yes hbd]
          clear hbd
          have HSC : Hid (∀ w, Calls Tryd.prog 137 #[.agg #[.int .i64 y, .int .i64 k, .int .i64 d, .int .i64 h, .int .i64 i, .int .i64 c]] w fun e w' => e = .returned (.int .i64 (secsD y k d h i c)) ∧ Below w.heap.size w w') := fun w => specSecs_any y k d h i c w HOK
          have ⟨hv0, hv1⟩ := secsD_bd HOK
          have HPS2 : Hid (parS s k = secsD y k d h i c) := HPS.out k
          clear HOK
          generalize secsD y k d h i c = v at *
          have HFM : Hid (∀ w, Calls Tryd.prog 131 #[.int .i64 v] w fun e w' => e = .returned (.string (fmtT v)) ∧ Below w.heap.size w w') := fun w => l3Format_any v w hv0 hv1
          go_wp2_with fail
          refine (HSC.out _).mono ?_
          rintro e w4 ⟨rfl, hb4⟩
          have K4 : Hid (Below w.heap.size w w4 ∧ DateAtB w4 Bd y k d h i c) := ⟨K3.out.1.trans (hb4.mono K3.out.1.size), K3.out.2.keep hb4⟩
          clear hb4 K3 c0 c1 c2 c3 c4 c5
          go_wp2_with fail
          refine (HFM.out _).mono ?_
          rintro e w5 ⟨rfl, hb5⟩
          have K5 : Hid (Below w.heap.size w w5 ∧ DateAtB w5 Bd y k d h i c) := ⟨K4.out.1.trans (hb5.mono K4.out.1.size), K4.out.2.keep hb5⟩
          clear hb5 K4
          obtain ⟨c0, c1, c2, c3, c4, c5, fr⟩ := K5.out.2
          clear fr
          by_cases heq : fmtT v = s
          · have HX : Hid (parI s = v) := by
              show _ = _
              rw [HY.out k (HCA.out k hk0 hlt HM.out HPO.out (by rw [HPS2.out, heq])), HPS2.out]
            rw [heq]
            clear heq
            go_wp2_with fail
            refine (HSC.out _).mono ?_
            rintro e w6 ⟨rfl, hb6⟩
            have K6 : Hid (Below w.heap.size w w6) := K5.out.1.trans (hb6.mono K5.out.1.size)
            clear hb6 K5
            go_wp2_with fail
            go_ret
            exact ⟨ret_int (by rw [HX.out]), K6.out⟩
          · have HQ : Hid (¬ Cand s k) := fun hc => heq (by have := (HCB.out k hc).2.2.1; rw [HPS2.out] at this; exact this)
            have hne := str_neB heq
            clear heq
            generalize fmtT v = r at *
            go_wp2_with fail
            go_roundw
            case rel => exact ⟨k + 1, by omega, by omega, by go_num, fun j h1 => by
              by_cases hj : j = k
              · subst hj; exact HQ.out
              · exact HNO.out j (by omega), K5.out.1⟩
            case measure => simp [intOf]; omega
      · have HQ : Hid (¬ Cand s k) := fun hc => hm (HCB.out k hc).1
        have hne := str_neB (fun e : s.extract 8 11 = moT k => hm e.symm)
        obtain ⟨q, hq⟩ : ∃ q, Hid (moT k = q) := ⟨_, rfl⟩
        rw [hq.out] at hs2 hne
        clear hm
        go_wp2_with fail
        go_quiet (fail)
        go_wp2_with fail
        go_roundw
        case rel => exact ⟨k + 1, by omega, by omega, by go_num, fun j h1 => by
          by_cases hj : j = k
          · subst hj; exact HQ.out
          · exact HNO.out j (by omega), by first | exact below_drewN KB.out _ | exact KB.out⟩
        case measure => simp [intOf]; omega
    · obtain rfl : k = 13 := by omega
      have HX : Hid (parI s = -1) := HN.out fun m hc => by
        have := (HCB.out m hc).2.2.2.2
        exact HNO.out m (by omega) hc
      go_wp2_with fail
      go_ret
      exact ⟨ret_int (by rw [HX.out]), KB.out⟩
end Go.Proofs.YtibomkcbopkpkaaDoor
