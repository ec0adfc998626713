/-
  markItemS and heldItemS: marks laid into a list of items, and found again.
-/
import Derived.Test.YtibomkcbopkpkaaDoorMarkText
import Derived.Test.YtibomkcbopkpkaaDoorApart
import Derived.Test.YtibomkcbopkpkaaDoorItemsLaws
import Derived.Lib.QuietBelow
import Derived.BigQuiet
namespace Go.Proofs.YtibomkcbopkpkaaDoor
open Go.ChangeShapes Go.WideShapes Go.ChangeAt Go.RowKit Go.Sort
def mkR (k : Nat) (j : Nat) : Rec := ⟨mkT (k + 3 * j), decide ((k + 3 * j + 1) % 3 = 0), mkT (k + 3 * j + 2)⟩
def mkL (k n : Nat) : List Rec := (List.range n).map (mkR k)
theorem mkL_len (k n : Nat) : (mkL k n).length = n := by simp [mkL]
theorem mkL_get {k n i : Nat} (h : i < n) : (mkL k n)[i]? = some (mkR k i) := by simp [mkL, h]
theorem cell_set_same {w : World} {g o : Nat} {u v : Value} (h : w.cell? ⟨g, o, none⟩ = some u) : (w.setCell ⟨g, o, none⟩ v).cell? ⟨g, o, none⟩ = some v := World.cell?_setCell_same _ _ _ h
theorem cell_set_off {w : World} {g o o' : Nat} {v : Value} (h : o ≠ o') : (w.setCell ⟨g, o', none⟩ v).cell? ⟨g, o, none⟩ = w.cell? ⟨g, o, none⟩ :=
  World.cell?_setCell_other _ _ _ _ (by intro e; have := congrArg Addr.off e; simp at this; omega)
/-- One field of one item written. -/
theorem put_name {w : World} {g off i : Nat} {L : List Rec} {r : Rec} (h : ItemsAt w g off L) (hr : L[i]? = some r) (n : ByteArray) :
    ItemsAt (w.setCell ⟨g, off + i * 3, none⟩ (.string n)) g off (L.set i { r with name := n }) := by
  intro j q hq
  by_cases e : j = i
  · subst e
    have hl := (List.getElem?_eq_some_iff.1 hr).1
    rw [List.getElem?_set_self hl] at hq
    obtain rfl := Option.some.inj hq
    obtain ⟨a, b, c⟩ := h j r hr
    exact ⟨cell_set_same a, by rw [cell_set_off (by omega)]; exact b, by rw [cell_set_off (by omega)]; exact c⟩
  · rw [List.getElem?_set_ne (fun k => e k.symm)] at hq
    obtain ⟨a, b, c⟩ := h j q hq
    exact ⟨by rw [cell_set_off (by omega)]; exact a, by rw [cell_set_off (by omega)]; exact b, by rw [cell_set_off (by omega)]; exact c⟩
theorem put_has {w : World} {g off i : Nat} {L : List Rec} {r : Rec} (h : ItemsAt w g off L) (hr : L[i]? = some r) (n : Bool) :
    ItemsAt (w.setCell ⟨g, off + i * 3 + 1, none⟩ (.bool n)) g off (L.set i { r with has := n }) := by
  intro j q hq
  by_cases e : j = i
  · subst e
    have hl := (List.getElem?_eq_some_iff.1 hr).1
    rw [List.getElem?_set_self hl] at hq
    obtain rfl := Option.some.inj hq
    obtain ⟨a, b, c⟩ := h j r hr
    exact ⟨by rw [cell_set_off (by omega)]; exact a, cell_set_same b, by rw [cell_set_off (by omega)]; exact c⟩
  · rw [List.getElem?_set_ne (fun k => e k.symm)] at hq
    obtain ⟨a, b, c⟩ := h j q hq
    exact ⟨by rw [cell_set_off (by omega)]; exact a, by rw [cell_set_off (by omega)]; exact b, by rw [cell_set_off (by omega)]; exact c⟩
theorem put_value {w : World} {g off i : Nat} {L : List Rec} {r : Rec} (h : ItemsAt w g off L) (hr : L[i]? = some r) (n : ByteArray) :
    ItemsAt (w.setCell ⟨g, off + i * 3 + 2, none⟩ (.string n)) g off (L.set i { r with value := n }) := by
  intro j q hq
  by_cases e : j = i
  · subst e
    have hl := (List.getElem?_eq_some_iff.1 hr).1
    rw [List.getElem?_set_self hl] at hq
    obtain rfl := Option.some.inj hq
    obtain ⟨a, b, c⟩ := h j r hr
    exact ⟨by rw [cell_set_off (by omega)]; exact a, by rw [cell_set_off (by omega)]; exact b, cell_set_same c⟩
  · rw [List.getElem?_set_ne (fun k => e k.symm)] at hq
    obtain ⟨a, b, c⟩ := h j q hq
    exact ⟨by rw [cell_set_off (by omega)]; exact a, by rw [cell_set_off (by omega)]; exact b, by rw [cell_set_off (by omega)]; exact c⟩
/-- The state of the marking loop: j items are marked. -/
structure Marked (w : World) (g off : Nat) (k n j : Nat) (L : List Rec) (W : World) : Prop where
  len : L.length = n
  done : ∀ i, i < j → L[i]? = some (mkR k i)
  items : ItemsAt W g off L
  thaw : ∀ o, W.frozen? ⟨g, o, none⟩ = false
  apart : Apart g w W
  low : Below g w W
  lt : g < W.heap.size
theorem Marked.below {w : World} {g off k n j : Nat} {L : List Rec} {W W' : World} (h : Marked w g off k n j L W) (hb : Below W.heap.size W W') : Marked w g off k n j L W' :=
  ⟨h.len, h.done, h.items.keep hb, fun o => by rw [hb.frozen (p := ⟨g, o, none⟩) h.lt, h.thaw], h.apart.trans (.below hb), h.low.trans (hb.mono (Nat.le_of_lt h.lt)), Nat.lt_of_lt_of_le h.lt hb.size⟩
theorem Marked.set {w : World} {g off k n j o : Nat} {L L' : List Rec} {W : World} {v : Value} (h : Marked w g off k n j L W) (hl : L'.length = L.length) (hd : ∀ i, i < j → L'[i]? = L[i]?) (hi : ItemsAt (W.setCell ⟨g, o, none⟩ v) g off L') : Marked w g off k n j L' (W.setCell ⟨g, o, none⟩ v) :=
  ⟨hl.trans h.len, fun i hi => (hd i hi).trans (h.done i hi), hi, fun o => by rw [World.frozen?_setCell, h.thaw], h.apart.trans (.set _ _ _ _), h.low.setCell (Nat.le_refl _) _, by simpa using h.lt⟩
end Go.Proofs.YtibomkcbopkpkaaDoor
