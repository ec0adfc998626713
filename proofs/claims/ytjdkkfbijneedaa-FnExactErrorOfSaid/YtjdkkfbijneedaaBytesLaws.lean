/-
  Results that hold bytes: compared, marked, held.
-/
import Derived.Test.YtjdkkfbijneedaaBytesRes
namespace Go.Proofs.Ytjdkkfbijneedaa
open Go.ChangeShapes Go.WideShapes Go.ChangeAt Go.RowKit Go.Sort
/-- All that was there, but for the memory of v, is as it was. -/
structure BAV (v : Value) (w w' : World) : Prop where
  size : w'.heap.size = w.heap.size
  cell : ∀ b o, b < w.heap.size → v.ownBlock ≠ some b → w'.cell? ⟨b, o, none⟩ = w.cell? ⟨b, o, none⟩
  frozen : ∀ b o, w'.frozen? ⟨b, o, none⟩ = w.frozen? ⟨b, o, none⟩
/-- v holds the marks from k on. -/
def MarkB (w : World) (v : Value) (k n : Nat) : Prop := n = 0 ∨ ∃ g c, v = .slice (some ⟨g, 0, none⟩) n c ∧ g < w.heap.size ∧ ∀ i, i < n → w.cell? ⟨g, i, none⟩ = some (.int .u8 (((k + i : Nat) : Int) % 256))
theorem MarkB.keep {w w' : World} {v : Value} {k n : Nat} (h : MarkB w v k n) (hb : Below w.heap.size w w') : MarkB w' v k n := by
  rcases h with h | ⟨g, c, e, hg, hc⟩
  · exact .inl h
  · exact .inr ⟨g, c, e, Nat.lt_of_lt_of_le hg hb.size, fun i hi => by rw [hb.cell (p := ⟨g, i, none⟩) hg]; exact hc i hi⟩
theorem MarkB.av {w w' : World} {v u : Value} {k n : Nat} (h : MarkB w v k n) (ha : BAV u w w') (hne : ∀ b, v.ownBlock = some b → u.ownBlock ≠ some b) : MarkB w' v k n := by
  rcases h with h | ⟨g, c, rfl, hg, hc⟩
  · exact .inl h
  · exact .inr ⟨g, c, rfl, by rw [ha.size]; exact hg, fun i hi => by rw [ha.cell g i hg (hne g rfl)]; exact hc i hi⟩
set_option maxHeartbeats 2000000 in
theorem markByteS_row (W : World) (g n cap k base : Nat) (hn : n ≤ 1048576) (hk : k ≤ 100000000000000) (hbase : base ≤ g) (hg : g < W.heap.size) (hm : HRoom W g n) :
    Calls Try.prog 19 #[.slice (some ⟨g, 0, none⟩) n cap, .int .i64 (k : Int)] W fun e w' => e = .returned (.int .i64 ((k + n : Nat) : Int)) ∧ (MarkB w' (.slice (some ⟨g, 0, none⟩) n cap) k n ∧ BAV (.slice (some ⟨g, 0, none⟩) n cap) W w' ∧ Below base W w') := by
  have HM : Hid (HRoom W g n) := hm
  clear hm
  go_enter Try.func19, Try.ntmps19
  go_wp2_with fail
  go_loopw [1, 5] (fun x i wr => ∃ j : Nat, j ≤ n ∧ i = .int .i64 (j : Int) ∧ x = .int .i64 ((k + j : Nat) : Int) ∧ HRoom wr g n ∧ (∀ q, q < j → wr.cell? ⟨g, q, none⟩ = some (.int .u8 (((k + q : Nat) : Int) % 256))) ∧ BAV (.slice (some ⟨g, 0, none⟩) n cap) W wr ∧ Below base W wr) (fun _ i _ => n - (intOf i).toNat)
  case atStart => exact ⟨0, Nat.zero_le _, rfl, rfl, HM.out, fun q hq => absurd hq (by omega), ⟨rfl, fun _ _ _ _ => rfl, fun _ _ => rfl⟩, Below.refl _ _⟩
  case round =>
    obtain ⟨j, hj, rfl, rfl, hroom, hcells, hav, hb⟩ := hrel
    clear HM
    by_cases hlt : j < n
    · obtain ⟨⟨u, hu⟩, hf⟩ := hroom j hlt
      have H1 : Hid (HRoom wr g n ∧ (∀ q, q < j → wr.cell? ⟨g, q, none⟩ = some (.int .u8 (((k + q : Nat) : Int) % 256))) ∧ BAV (.slice (some ⟨g, 0, none⟩) n cap) W wr ∧ Below base W wr) := ⟨hroom, hcells, hav, hb⟩
      have hw : IntKind.i64.wrap ((k + j : Nat) + 1 : Int) = ((k + (j + 1) : Nat) : Int) := by
        rw [show (((k + j : Nat) : Int) + 1) = ((k + (j + 1) : Nat) : Int) from by omega]
        unfold IntKind.wrap; simp [IntKind.signed, IntKind.bits]; omega
      have g1 : (j : Int) < n := by omega
      have HJ : Hid (((k + (j + 1) : Nat) : Int) = ((k + (j + 1) : Nat) : Int)) := rfl
      clear hroom hcells hav hb
      obtain ⟨K, hK⟩ : ∃ K : Int, K = ((k + j : Nat) : Int) := ⟨_, rfl⟩
      have HK : Hid (K = ((k + j : Nat) : Int)) := hK
      rw [← hK] at hw ⊢
      clear hK
      go_wp2_with fail
      refine ⟨⟨j + 1, by omega, by congr 1, by congr 1, ?_⟩, by simp [intOf]; omega⟩
      obtain ⟨hroom, hcells, hav, hb⟩ := H1.out
      rw [HK.out]
      refine ⟨hroom.set _ _, fun q hq => ?_, ⟨by simpa using hav.size, fun b o hb0 hne => ?_, fun b o => by rw [World.frozen?_setCell]; exact hav.frozen b o⟩, hb.setCell hbase _⟩
      · by_cases e : q = j
        · subst e; exact World.cell?_setCell_same _ _ _ hu
        · rw [World.cell?_setCell_other _ _ _ _ (hoff_ne (by omega))]; exact hcells q (by omega)
      · have hbg : b ≠ g := fun e => hne (by subst e; rfl)
        rw [World.cell?_setCell_other _ _ _ _ (fun e => hbg (congrArg Addr.block e).symm)]
        exact hav.cell b o hb0 hne
    · have ej : j = n := by omega
      subst ej
      have HF : Hid (MarkB wr (.slice (some ⟨g, 0, none⟩) j cap) k j ∧ BAV (.slice (some ⟨g, 0, none⟩) j cap) W wr ∧ Below base W wr) := ⟨.inr ⟨g, cap, rfl, by rw [hav.size]; exact hg, hcells⟩, hav, hb⟩
      clear hcells hav hb hroom
      obtain ⟨K, hK⟩ : ∃ K : Int, K = ((k + j : Nat) : Int) := ⟨_, rfl⟩
      have HK : Hid (K = ((k + j : Nat) : Int)) := hK
      rw [← hK]
      clear hK
      go_wp2_with fail
      go_ret
      exact ⟨ret_int (by rw [HK.out]), HF.out⟩
set_option maxHeartbeats 2000000 in
theorem heldByteS_row (W : World) (g n cap k : Nat) (hn : n ≤ 1048576) (hk : k ≤ 100000000000000) (hc : ∀ i, i < n → W.cell? ⟨g, i, none⟩ = some (.int .u8 (((k + i : Nat) : Int) % 256))) :
    Calls Try.prog 21 #[.slice (some ⟨g, 0, none⟩) n cap, .int .i64 (k : Int)] W fun e w' => e = .returned (.int .i64 ((k + n : Nat) : Int)) ∧ w' = W := by
  have HC : Hid (∀ i, i < n → W.cell? ⟨g, i, none⟩ = some (.int .u8 (((k + i : Nat) : Int) % 256))) := hc
  clear hc
  go_enter Try.func21, Try.ntmps21
  go_wp2_with fail
  go_loop [1, 5] (fun x i => ∃ j : Nat, j ≤ n ∧ i = .int .i64 (j : Int) ∧ x = .int .i64 ((k + j : Nat) : Int)) (fun _ i => n - (intOf i).toNat)
  case atStart => exact ⟨0, Nat.zero_le _, rfl, rfl⟩
  case round =>
    obtain ⟨j, hj, rfl, rfl⟩ := hrel
    by_cases hlt : j < n
    · have hu := HC.out j hlt
      have hw : IntKind.i64.wrap ((k + j : Nat) + 1 : Int) = ((k + (j + 1) : Nat) : Int) := by
        rw [show (((k + j : Nat) : Int) + 1) = ((k + (j + 1) : Nat) : Int) from by omega]
        unfold IntKind.wrap; simp [IntKind.signed, IntKind.bits]; omega
      have g1 : (j : Int) < n := by omega
      obtain ⟨K, hK⟩ : ∃ K : Int, K = ((k + j : Nat) : Int) := ⟨_, rfl⟩
      rw [← hK] at hw hu ⊢
      clear hK
      go_wp2_with fail
      exact ⟨⟨j + 1, by omega, by congr 1, by congr 1⟩, by simp [intOf]; omega⟩
    · have ej : j = n := by omega
      subst ej
      clear HC
      obtain ⟨K, hK⟩ : ∃ K : Int, K = ((k + j : Nat) : Int) := ⟨_, rfl⟩
      have HK : Hid (K = ((k + j : Nat) : Int)) := hK
      rw [← hK]
      clear hK
      go_wp2_with fail
      go_ret
      exact ⟨ret_int (by rw [HK.out]; omega), rfl⟩
/-! ### as results -/
end Go.Proofs.Ytjdkkfbijneedaa
