/-
  What the model's l1Digits answers: the decimal digits of a number.
-/
import Derived.Test.YtibomkcbopkpkaaDoorBase
import Derived.Deep.RegionWith
import Derived.Lib.ItoaNum
import Derived.Lib.ItoaLen
namespace Go.Proofs.YtibomkcbopkpkaaDoor
open Go.ChangeShapes Go.WideShapes Go.ChangeAt Go.RowKit
namespace num
/-- One byte in a slice of its own, as a text. -/
theorem one_byte (c : Int) (x : UInt8) (hx : (x.toNat : Int) = c) (W : World) (B cap : Nat) (hc : W.cell? ⟨B, 0, none⟩ = some (.int .u8 c)) :
    (convert 22 9 (.slice (some ⟨B, 0, none⟩) 1 cap)).run Tryd.prog W = .ok (.string ⟨#[x]⟩) W := by
  have := run_convert_bytes_back (P := Tryd.prog) W 22 9 5 ⟨B, 0, none⟩ cap [x] Tryd.underlying22 Tryd.underlying5 Tryd.underlying9 (fun j hj => by
    obtain rfl : j = 0 := by simp at hj; omega
    simp [Addr.add, hc, hx])
  simpa using this
theorem dig_nat (d : Nat) (h : d < 10) : ((UInt8.ofNat (48 + d)).toNat : Int) = 48 + (d : Int) := by
  rw [UInt8.toNat_ofNat_of_lt' (by show 48 + d < 256; omega)]; omega
set_option maxHeartbeats 1000000 in
theorem l1Digits_one (u : Nat) (h : u < 10) (w : World) :
    Calls Tryd.prog 72 #[.int .i64 u] w fun e w' => e = .returned (.string ⟨(Lib.decDigits u).toArray⟩) ∧ Below w.heap.size w w' := by
  have HD : Hid ((⟨#[UInt8.ofNat (48 + u)]⟩ : ByteArray) = ⟨(Lib.decDigits u).toArray⟩) := by
    show _ = _
    rw [Lib.decDigits_one h]
  have hcv := one_byte (48 + (u : Int)) (UInt8.ofNat (48 + u)) (dig_nat u h)
  have g : (u : Int) < 10 := by omega
  generalize (⟨#[UInt8.ofNat (48 + u)]⟩ : ByteArray) = r at *
  go_enter Tryd.func72, Tryd.ntmps72
  go_wp2_with fail
  go_ret
  exact ⟨ret_str HD.out, (Below.refl _ _).alloc (Nat.le_refl _) _⟩
set_option maxHeartbeats 1000000 in
theorem l1Digits_any (k : Nat) : ∀ (u : Nat) (w : World), u < 10 ^ k → u ≤ 1000000000000000 →
    Calls Tryd.prog 72 #[.int .i64 u] w fun e w' => e = .returned (.string ⟨(Lib.decDigits u).toArray⟩) ∧ Below w.heap.size w w' := by
  induction k with
  | zero =>
    intro u w h _
    exact l1Digits_one u (by simp at h; omega) w
  | succ k ih =>
    intro u w h hb
    by_cases c : u < 10
    · exact l1Digits_one u c w
    · have IH : Hid (∀ w, Calls Tryd.prog 72 #[.int .i64 ((u : Int) / 10)] w fun e w' => e = .returned (.string ⟨(Lib.decDigits (u / 10)).toArray⟩) ∧ Below w.heap.size w w') := by
        intro w
        have := ih (u / 10) w (by rw [Nat.pow_succ] at h; omega) (by omega)
        rw [show (((u / 10 : Nat)) : Int) = (u : Int) / 10 from by omega] at this
        exact this
      have HD : Hid ((⟨(Lib.decDigits (u / 10)).toArray⟩ : ByteArray) ++ (⟨#[UInt8.ofNat (48 + u % 10)]⟩ : ByteArray) = ⟨(Lib.decDigits u).toArray⟩) := by
        show _ = _
        rw [show Lib.decDigits u = Lib.decDigits (u / 10) ++ [UInt8.ofNat (48 + u % 10)] from by rw [Lib.decDigits, dif_neg c]]
        apply ByteArray.ext
        simp
      have hcv := one_byte (48 + (u : Int) % 10) (UInt8.ofNat (48 + u % 10)) (by rw [dig_nat (u % 10) (by omega)]; omega)
      have g : ¬ (u : Int) < 10 := by omega
      have g2 : (u : Int) ≤ 1000000000000000 := by omega
      have e1 : IntKind.i64.wrap ((u : Int) / 10) = (u : Int) / 10 := by rw [IntKind.wrap_i64]; omega
      have e2 : IntKind.u8.wrap (IntKind.i64.wrap (48 + (u : Int).tmod 10)) = 48 + (u : Int) % 10 := by
        rw [Int.tmod_eq_emod_of_nonneg (by omega), IntKind.wrap_i64, IntKind.wrap_u8]; omega
      clear ih h c
      have zr : (⟨#[UInt8.ofNat (48 + u % 10)]⟩ : ByteArray).size ≤ 1 := Nat.le_refl _
      have zq : (⟨(Lib.decDigits (u / 10)).toArray⟩ : ByteArray).size ≤ 21 := by
        have := Lib.itoa_length_le ((u / 10 : Nat) : Int) (by omega) (by omega)
        rw [Lib.itoa_nonneg] at this
        simpa [ByteArray.size] using this
      generalize (⟨#[UInt8.ofNat (48 + u % 10)]⟩ : ByteArray) = r at *
      generalize (⟨(Lib.decDigits (u / 10)).toArray⟩ : ByteArray) = q at *
      have hadd := fun w => run_string_add_sum (P := Tryd.prog) (w := w) q r (by omega)
      go_enter Tryd.func72, Tryd.ntmps72
      go_wp2_with fail
      go_region_with (go_at_call 72; refine (IH.out _).mono ?_; rintro e w1 ⟨rfl, hb1⟩; obtain ⟨hc1, hf1⟩ := bcell hb1; have hz1 := hb1.size)
      all_goals (go_wp2_with fail; go_ret; refine ⟨ret_str HD.out, ?_⟩; clear IH HD hcv hadd)
      · exact ((Below.refl w.heap.size w).drew.trans hb1).alloc hz1 _
      · exact (((Below.refl w.heap.size w).alloc (Nat.le_refl _) _).drew).trans (hb1.mono (by simp))
      · exact (((Below.refl w.heap.size w).alloc (Nat.le_refl _) _).drew).trans (hb1.mono (by simp))
end num
end Go.Proofs.YtibomkcbopkpkaaDoor
