/-
  Times drawn; what lies apart from the source of draws.
-/
import Derived.Test.YtmgidcigihpbeaaDrawApart
import Derived.Deep.CutRange
import Derived.Lib.QuietBelow
namespace Go.Proofs.Ytmgidcigihpbeaa
open Go.ChangeShapes Go.WideShapes Go.ChangeAt Go.RowKit Go.Sort
theorem Apart.off {B b o : Nat} {w X : World} {v : Value} (h : Apart B w X) (hb : w.heap.size ≤ b) : Apart B w (X.setCell ⟨b, o, none⟩ v) := by
  refine ⟨by simpa using h.size, fun c o' hc hn => ?_, fun c o' hc hn => ?_⟩
  · rw [World.cell?_setCell_other _ _ _ _ (by intro q; have := congrArg Addr.block q; simp at this; omega)]
    exact h.cell c o' hc hn
  · rw [World.frozen?_setCell]
    exact h.frozen c o' hc hn
theorem Apart.frozen_ok {B : Nat} {w w' : World} (h : Apart B w w') : w.heap.size ≤ w'.heap.size := h.size
theorem src_off {w : World} {B b o : Nat} {a : Option Addr} {len cap k : Nat} {v : Value} (hs : Src w B a len cap k) (hb : B < b) : Src (w.setCell ⟨b, o, none⟩ v) B a len cap k :=
  hs.below ((Below.refl _ _).setCell (by show B + 1 ≤ b; omega) _)
end Go.Proofs.Ytmgidcigihpbeaa
