/-
  What the model's l1Lower answers.
-/
import Derived.Test.YtbandckkgdnlpaaDoorBase
import Derived.Test.YtbandckkgdnlpaaDoorRow
namespace Go.Proofs.YtbandckkgdnlpaaDoor
open Go.ChangeShapes Go.WideShapes Go.ChangeAt Go.RowKit
def lowS (s : ByteArray) : ByteArray := ⟨(s.data.toList.map lowU).toArray⟩
set_option maxHeartbeats 1000000 in
theorem l1Lower_any (s : ByteArray) (w : World) (hs : s.size ≤ 1048576) :
    Calls Tryd.prog 66 #[.string s] w fun e w' => e = .returned (.string (lowS s)) ∧ Below w.heap.size w w' := by
  obtain ⟨C, cap, hcv, hrow⟩ : ∃ C cap, (convert 9 82 (.string s)).run Tryd.prog w = .ok (.slice (some ⟨w.heap.size, 0, none⟩) s.size cap) (w.drew.alloc (.cells C 5 (C.size, C.size + 1))) ∧ BRow (w.alloc (.cells C 5 (C.size, C.size + 1))) w.heap.size s.data.toList :=
    ⟨_, _, run_bytes_of_string w 9 82 5 s Tryd.underlying9 Tryd.underlying82 Tryd.underlying5, BRow.made w s _ _ rfl⟩
  go_enter Tryd.func66, Tryd.ntmps66
  go_wp2
  go_loopw [4] (fun i wr => ∃ k : Nat, k ≤ s.size ∧ i = .int .i64 k ∧ BRow wr w.heap.size (lowK s.data.toList k) ∧ Below w.heap.size w wr) (fun i _ => s.size - (intOf i).toNat)
  case atStart => exact ⟨0, Nat.zero_le _, rfl, by rw [lowK_zero]; exact ⟨hrow.cell, hrow.free⟩, ((Below.refl _ _).alloc (Nat.le_refl _) _).drew⟩
  case round =>
    obtain ⟨k, hk, rfl, hr, hb⟩ := hrel
    clear hcv hrow
    have hlen := lowK_length s.data.toList k
    by_cases hlt : k < s.size
    · have hl : k < s.data.toList.length := by simpa using hlt
      have hl2 : k < (lowK s.data.toList k).length := by omega
      have hc := hr.cell k hl2
      have hf := hr.free k hl2
      rw [lowK_at _ _ hl hl2] at hc
      have Y : Hid (65 ≤ (s.data.toList[k].toNat : Int) ∧ (s.data.toList[k].toNat : Int) ≤ 90 → BRow (wr.setCell ⟨w.heap.size, k, none⟩ (.int .u8 ((s.data.toList[k].toNat : Int) + 32))) w.heap.size (lowK s.data.toList (k + 1))) := by
        intro ⟨u1, u2⟩
        have := hr.set k (lowU s.data.toList[k])
        rw [lowU_yes _ u1 u2] at this
        rw [lowK_succ _ _ hl]
        exact this
      have N : Hid (¬ (65 ≤ (s.data.toList[k].toNat : Int) ∧ (s.data.toList[k].toNat : Int) ≤ 90) → BRow wr w.heap.size (lowK s.data.toList (k + 1))) := by
        intro u
        rw [lowK_keep _ _ hl u]
        exact hr
      generalize s.data.toList[k] = x at *
      clear hr hlen hl2 hl
      by_cases hU : 65 ≤ (x.toNat : Int) ∧ (x.toNat : Int) ≤ 90
      · have R : Hid (BRow (wr.setCell ⟨w.heap.size, k, none⟩ (.int .u8 ((x.toNat : Int) + 32))) w.heap.size (lowK s.data.toList (k + 1))) := Y.out hU
        obtain ⟨u1, u2⟩ := hU
        have d2 : decide ((x.toNat : Int) ≤ 90) = true := by simpa using u2
        clear Y N
        go_wp2
        go_roundw
        case rel => exact ⟨k + 1, by omega, by go_num, R.out, hb.setCell (Nat.le_refl _) _⟩
        case measure => simp [intOf]; omega
      · have R : Hid (BRow wr w.heap.size (lowK s.data.toList (k + 1))) := N.out hU
        clear Y N
        by_cases u1 : 65 ≤ (x.toNat : Int)
        · have u2 : 90 < (x.toNat : Int) := by omega
          have d2 : decide ((x.toNat : Int) ≤ 90) = false := by simp; omega
          clear hU
          go_wp2
          go_roundw
          case rel => exact ⟨k + 1, by omega, by go_num, R.out, hb⟩
          case measure => simp [intOf]; omega
        · clear hU
          go_wp2
          go_roundw
          case rel => exact ⟨k + 1, by omega, by go_num, R.out, hb⟩
          case measure => simp [intOf]; omega
    · have e : lowK s.data.toList k = s.data.toList.map lowU := lowK_all _ _ (by simp; omega)
      rw [e] at hr
      have hback := hr.back (P := Tryd.prog) 82 9 5 s.size cap (by simp) Tryd.underlying82 Tryd.underlying5 Tryd.underlying9
      have HL : Hid ((⟨(s.data.toList.map lowU).toArray⟩ : ByteArray) = lowS s) := rfl
      generalize (⟨(s.data.toList.map lowU).toArray⟩ : ByteArray) = r at *
      clear hr e hlen
      go_wp2
      go_ret
      exact ⟨ret_str HL.out, hb⟩
end Go.Proofs.YtbandckkgdnlpaaDoor
