/-
  An item that came in by value, opened.
-/
import Derived.Test.YtfclbkjigihcnaiDoorItemsOpen
namespace Go.Proofs.YtfclbkjigihcnaiDoor
open Go.ChangeShapes Go.WideShapes Go.ChangeAt Go.RowKit
set_option maxRecDepth 100000 in
theorem open_item {H : Type} {enc : TypeId × Value → H} {w : World} {r : Reach} {b0 base : Nat} {spare : Nat → Bool} {held : Bool} {v : Value} {d : DataW H} {p : List MemPlace}
    (hv : Value.okWide Tryd.prog w r b0 23 v) (h : DataW.Trod enc Tryd.prog w base spare held 23 v d p) :
    ∃ r : Rec, v = .agg #[.string r.name, .bool r.has, .string r.value] ∧ r.name.size ≤ maxLen ∧ r.value.size ≤ maxLen := by
  obtain ⟨cs, rfl, hsz⟩ := okWide_struct Tryd.underlying23 hv
  obtain ⟨fuel, hf⟩ := h
  obtain ⟨r, hr, z⟩ := rec_of hf
  refine ⟨r, ?_, z⟩
  have e : cs.toList = [.string r.name, .bool r.has, .string r.value] := by simpa [Value.cells] using hr
  congr 1
  exact Array.toList_inj.1 e
end Go.Proofs.YtfclbkjigihcnaiDoor
