/-
  What the model's l1Digits answers: the decimal digits of a number.
-/
import Derived.Test.YtibomkcbopkpkakDoorBase
import Derived.Deep.RegionWith
import Derived.Lib.ItoaNum
import Derived.Lib.ItoaLen
namespace Go.Proofs.YtibomkcbopkpkakDoor
open Go.ChangeShapes Go.WideShapes Go.ChangeAt Go.RowKit
namespace num
/-- One byte in a slice of its own, as a text. -/
theorem one_byte (c : Int) (x : UInt8) (hx : (x.toNat : Int) = c) (W : World) (B cap : Nat) (hc : W.cell? ⟨B, 0, none⟩ = some (.int .u8 c)) :
    (convert 50 9 (.slice (some ⟨B, 0, none⟩) 1 cap)).run Tryd.prog W = .ok (.string ⟨#[x]⟩) W := by
  have := run_convert_bytes_back (P := Tryd.prog) W 50 9 5 ⟨B, 0, none⟩ cap [x] Tryd.underlying50 Tryd.underlying5 Tryd.underlying9 (fun j hj => by
    obtain rfl : j = 0 := by simp at hj; omega
    simp [Addr.add, hc, hx])
  simpa using this
theorem dig_nat (d : Nat) (h : d < 10) : ((UInt8.ofNat (48 + d)).toNat : Int) = 48 + (d : Int) := by
  rw [UInt8.toNat_ofNat_of_lt' (by show 48 + d < 256; omega)]; omega
end num
end Go.Proofs.YtibomkcbopkpkakDoor
