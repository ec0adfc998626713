/-
  markHeaderS and heldHeaderS: marks laid into head lines, and found again.
-/
import Derived.Test.YtjdkkfbijneedaaMarkText
import Derived.Test.YtjdkkfbijneedaaApart
import Derived.Test.YtjdkkfbijneedaaHeadsLaws
import Derived.Lib.QuietBelow
import Derived.BigQuiet
namespace Go.Proofs.Ytjdkkfbijneedaa
open Go.ChangeShapes Go.WideShapes Go.ChangeAt Go.RowKit Go.Sort
def mkHR (k : Nat) (j : Nat) : Hdr := ⟨mkT (k + 2 * j), mkT (k + 2 * j + 1)⟩
def mkHL (k n : Nat) : List Hdr := (List.range n).map (mkHR k)
theorem mkHL_len (k n : Nat) : (mkHL k n).length = n := by simp [mkHL]
theorem mkHL_get {k n i : Nat} (h : i < n) : (mkHL k n)[i]? = some (mkHR k i) := by simp [mkHL, h]
theorem hcell_set_same {w : World} {g o : Nat} {u v : Value} (h : w.cell? ⟨g, o, none⟩ = some u) : (w.setCell ⟨g, o, none⟩ v).cell? ⟨g, o, none⟩ = some v := World.cell?_setCell_same _ _ _ h
theorem hcell_set_off {w : World} {g o o' : Nat} {v : Value} (h : o ≠ o') : (w.setCell ⟨g, o', none⟩ v).cell? ⟨g, o, none⟩ = w.cell? ⟨g, o, none⟩ :=
  World.cell?_setCell_other _ _ _ _ (by intro e; have := congrArg Addr.off e; simp at this; omega)
/-- One field of one line written. -/
theorem hput_name {w : World} {g off i : Nat} {L : List Hdr} {r : Hdr} (h : HeadsAt w g off L) (hr : L[i]? = some r) (n : ByteArray) :
    HeadsAt (w.setCell ⟨g, off + i * 2, none⟩ (.string n)) g off (L.set i { r with name := n }) := by
  intro j q hq
  by_cases e : j = i
  · subst e
    have hl := (List.getElem?_eq_some_iff.1 hr).1
    rw [List.getElem?_set_self hl] at hq
    obtain rfl := Option.some.inj hq
    obtain ⟨a, c⟩ := h j r hr
    exact ⟨hcell_set_same a, by rw [hcell_set_off (by omega)]; exact c⟩
  · rw [List.getElem?_set_ne (fun k => e k.symm)] at hq
    obtain ⟨a, c⟩ := h j q hq
    exact ⟨by rw [hcell_set_off (by omega)]; exact a, by rw [hcell_set_off (by omega)]; exact c⟩
theorem hput_value {w : World} {g off i : Nat} {L : List Hdr} {r : Hdr} (h : HeadsAt w g off L) (hr : L[i]? = some r) (n : ByteArray) :
    HeadsAt (w.setCell ⟨g, off + i * 2 + 1, none⟩ (.string n)) g off (L.set i { r with value := n }) := by
  intro j q hq
  by_cases e : j = i
  · subst e
    have hl := (List.getElem?_eq_some_iff.1 hr).1
    rw [List.getElem?_set_self hl] at hq
    obtain rfl := Option.some.inj hq
    obtain ⟨a, c⟩ := h j r hr
    exact ⟨by rw [hcell_set_off (by omega)]; exact a, hcell_set_same c⟩
  · rw [List.getElem?_set_ne (fun k => e k.symm)] at hq
    obtain ⟨a, c⟩ := h j q hq
    exact ⟨by rw [hcell_set_off (by omega)]; exact a, by rw [hcell_set_off (by omega)]; exact c⟩
/-- The state of the marking loop: j lines are marked. -/
structure HMarked (w : World) (g off : Nat) (k n j : Nat) (L : List Hdr) (W : World) : Prop where
  len : L.length = n
  done : ∀ i, i < j → L[i]? = some (mkHR k i)
  items : HeadsAt W g off L
  thaw : ∀ o, W.frozen? ⟨g, o, none⟩ = false
  apart : Apart g w W
  low : Below g w W
  lt : g < W.heap.size
theorem HMarked.below {w : World} {g off k n j : Nat} {L : List Hdr} {W W' : World} (h : HMarked w g off k n j L W) (hb : Below W.heap.size W W') : HMarked w g off k n j L W' :=
  ⟨h.len, h.done, h.items.keep hb, fun o => by rw [hb.frozen (p := ⟨g, o, none⟩) h.lt, h.thaw], h.apart.trans (.below hb), h.low.trans (hb.mono (Nat.le_of_lt h.lt)), Nat.lt_of_lt_of_le h.lt hb.size⟩
theorem HMarked.set {w : World} {g off k n j o : Nat} {L L' : List Hdr} {W : World} {v : Value} (h : HMarked w g off k n j L W) (hl : L'.length = L.length) (hd : ∀ i, i < j → L'[i]? = L[i]?) (hi : HeadsAt (W.setCell ⟨g, o, none⟩ v) g off L') : HMarked w g off k n j L' (W.setCell ⟨g, o, none⟩ v) :=
  ⟨hl.trans h.len, fun i hi => (hd i hi).trans (h.done i hi), hi, fun o => by rw [World.frozen?_setCell, h.thaw], h.apart.trans (.set _ _ _ _), h.low.setCell (Nat.le_refl _) _, by simpa using h.lt⟩
end Go.Proofs.Ytjdkkfbijneedaa
