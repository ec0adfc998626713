/-
  markText: a text of its own for each number.
-/
import Derived.Test.YtibomkcbopkpkaaDoorBase
import Derived.Deep.RegionWith
namespace Go.Proofs.YtibomkcbopkpkaaDoor
open Go.ChangeShapes Go.WideShapes Go.ChangeAt Go.RowKit
def mkD (k : Nat) (o : ByteArray) : ByteArray := if _h : k = 0 then o else mkD (k / 10) ((⟨#[UInt8.ofNat (48 + k % 10)]⟩ : ByteArray) ++ o)
termination_by k
decreasing_by omega
theorem mkD_zero (o : ByteArray) : mkD 0 o = o := by rw [mkD]; simp
theorem mkD_more {k : Nat} (h : k ≠ 0) (o : ByteArray) : mkD k o = mkD (k / 10) ((⟨#[UInt8.ofNat (48 + k % 10)]⟩ : ByteArray) ++ o) := by rw [mkD, dif_neg h]
def mkT (k : Nat) : ByteArray := (⟨#[109]⟩ : ByteArray) ++ mkD k ⟨#[]⟩
theorem one_byteM (c : Int) (x : UInt8) (hx : (x.toNat : Int) = c) (W : World) (B cap : Nat) (hc : W.cell? ⟨B, 0, none⟩ = some (.int .u8 c)) :
    (convert 22 9 (.slice (some ⟨B, 0, none⟩) 1 cap)).run Tryd.prog W = .ok (.string ⟨#[x]⟩) W := by
  have := run_convert_bytes_back (P := Tryd.prog) W 22 9 5 ⟨B, 0, none⟩ cap [x] Tryd.underlying22 Tryd.underlying5 Tryd.underlying9 (fun j hj => by
    obtain rfl : j = 0 := by simp at hj; omega
    simp [Addr.add, hc, hx])
  simpa using this
end Go.Proofs.YtibomkcbopkpkaaDoor
