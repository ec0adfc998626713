/-
  The laws' copy of a list of items, and their comparing of two.
-/
import Derived.Test.YtibomkcbopkpkaiDoorItemsAt
import Derived.BigQuiet
import Derived.Lib.QuietBelow
namespace Go.Proofs.YtibomkcbopkpkaiDoor
open Go.ChangeShapes Go.WideShapes Go.ChangeAt Go.RowKit Go.Sort
/-- m cells from the head of block G on are there and may be written. -/
def Room (w : World) (G m : Nat) : Prop := ∀ j, j < m → (∃ u, w.cell? ⟨G, j, none⟩ = some u) ∧ w.frozen? ⟨G, j, none⟩ = false
theorem Room.keep {w w' : World} {G m : Nat} (h : Room w G m) (hb : Below w.heap.size w w') : Room w' G m := by
  intro j hj
  obtain ⟨⟨u, hu⟩, hf⟩ := h j hj
  exact ⟨⟨u, by rw [hb.cell (block_lt_of_cell hu)]; exact hu⟩, by rw [hb.frozen (block_lt_of_cell hu)]; exact hf⟩
theorem Room.set {w : World} {G m : Nat} (h : Room w G m) (a : Addr) (v : Value) : Room (w.setCell a v) G m := by
  intro j hj
  obtain ⟨⟨u, hu⟩, hf⟩ := h j hj
  refine ⟨?_, by rw [World.frozen?_setCell]; exact hf⟩
  by_cases e : a = ⟨G, j, none⟩
  · exact ⟨v, by subst e; exact World.cell?_setCell_same _ _ _ hu⟩
  · exact ⟨u, by rw [World.cell?_setCell_other _ _ _ _ e]; exact hu⟩
def put3 (w : World) (G k : Nat) (r : Rec) : World := ((w.setCell ⟨G, k * 3, none⟩ (.string r.name)).setCell ⟨G, k * 3 + 1, none⟩ (.bool r.has)).setCell ⟨G, k * 3 + 2, none⟩ (.string r.value)
theorem off_ne {G i j : Nat} (h : i ≠ j) : (⟨G, i, none⟩ : Addr) ≠ ⟨G, j, none⟩ := fun e => h (congrArg Addr.off e)
theorem put3_other (w : World) (G k : Nat) (r : Rec) (j : Nat) (h0 : k * 3 ≠ j) (h1 : k * 3 + 1 ≠ j) (h2 : k * 3 + 2 ≠ j) : (put3 w G k r).cell? ⟨G, j, none⟩ = w.cell? ⟨G, j, none⟩ := by
  unfold put3
  rw [World.cell?_setCell_other _ _ _ _ (off_ne h2), World.cell?_setCell_other _ _ _ _ (off_ne h1), World.cell?_setCell_other _ _ _ _ (off_ne h0)]
theorem Room.put {w : World} {G m : Nat} (h : Room w G m) (k : Nat) (r : Rec) : Room (put3 w G k r) G m := ((h.set _ _).set _ _).set _ _
theorem ItemsAt.put {w : World} {G n : Nat} {l : List Rec} {k : Nat} {r : Rec} (h : ItemsAt w G 0 (l.take k)) (hr : l[k]? = some r) (hm : Room w G (n * 3)) (hk : k < n) : ItemsAt (put3 w G k r) G 0 (l.take (k + 1)) := by
  intro i q hq
  have hi : i < k + 1 := by
    have := (List.getElem?_eq_some_iff.1 hq).1
    simp at this; omega
  rw [List.getElem?_take_of_lt hi] at hq
  simp only [Nat.zero_add]
  by_cases e : i = k
  · subst e
    rw [hr] at hq
    obtain rfl := Option.some.inj hq
    obtain ⟨⟨u0, g0⟩, _⟩ := hm (i * 3) (by omega)
    obtain ⟨⟨u1, g1⟩, _⟩ := (hm.set ⟨G, i * 3, none⟩ (.string r.name)) (i * 3 + 1) (by omega)
    obtain ⟨⟨u2, g2⟩, _⟩ := ((hm.set ⟨G, i * 3, none⟩ (.string r.name)).set ⟨G, i * 3 + 1, none⟩ (.bool r.has)) (i * 3 + 2) (by omega)
    unfold put3
    refine ⟨?_, ?_, World.cell?_setCell_same _ _ _ g2⟩
    · rw [World.cell?_setCell_other _ _ _ _ (off_ne (by omega)), World.cell?_setCell_other _ _ _ _ (off_ne (by omega))]
      exact World.cell?_setCell_same _ _ _ g0
    · rw [World.cell?_setCell_other _ _ _ _ (off_ne (by omega))]
      exact World.cell?_setCell_same _ _ _ g1
  · have hq2 : (l.take k)[i]? = some q := by rw [List.getElem?_take_of_lt (by omega)]; exact hq
    obtain ⟨a1, a2, a3⟩ := h i q hq2
    simp only [Nat.zero_add] at a1 a2 a3
    exact ⟨by rw [put3_other _ _ _ _ _ (by omega) (by omega) (by omega)]; exact a1, by rw [put3_other _ _ _ _ _ (by omega) (by omega) (by omega)]; exact a2, by rw [put3_other _ _ _ _ _ (by omega) (by omega) (by omega)]; exact a3⟩
theorem infoItem : (Tryd.prog.info? 26).map (fun i => (i.zero, i.size, i.bytes)) = some (some (.agg #[.string ⟨#[]⟩, .bool false, .string ⟨#[]⟩]), 3, 40) := by kernel_rfl
set_option maxHeartbeats 2000000 in
theorem toItemS_any (w : World) (a : Option Addr) (cap : Nat) (l : List Rec) (hl : l.length ≤ 1048576) (hi : l = [] ∨ ∃ b off, a = some ⟨b, off, none⟩ ∧ ItemsAt w b off l) :
    Calls Tryd.prog 18 #[.slice a l.length cap] w fun e w' => e = .returned (.slice (some ⟨w.heap.size, 0, none⟩) l.length l.length) ∧ ItemsAt w' w.heap.size 0 l ∧ Below w.heap.size w w' := by
  have HI : Hid (l = [] ∨ ∃ b off, a = some ⟨b, off, none⟩ ∧ ItemsAt w b off l) := hi
  obtain ⟨i0, hi0, hz0, hz1, hz2⟩ := info_parts infoItem
  clear hi
  generalize hn : l.length = n at *
  have HN : Hid (l.length = n) := hn
  clear hn
  go_enter Tryd.func18, Tryd.ntmps18
  go_wp2_with (at_make; refine wpList_make_full w rfl _ _ 29 rfl w.heap.size 26 i0 _ 3 Tryd.underlying29 hi0 hz0 hz1 _ _ _ _ n rfl rfl rfl rfl (by rw [hz2]; omega) (by unfold maxLen; omega) (Nat.le_refl _) ?_; intro w1 hown hgrow)
  have HR1 : Hid (Room w1 w.heap.size (n * 3) ∧ Below w.heap.size w w1) := by
    refine ⟨fun j hj => ⟨?_, hown.frozenAt j⟩, (Below.refl _ _).grown hgrow (Nat.le_refl _) (fun q hq => by cases hq)⟩
    have h1 := hown.cellAt j hj
    have h2 : j < (madeCells (Value.agg #[.string ⟨#[]⟩, .bool false, .string ⟨#[]⟩]).cells (n * 3)).toList.length := by have := hown.1; omega
    exact ⟨_, h1.trans (List.getElem?_eq_getElem h2)⟩
  clear hown hgrow
  go_loopw [4] (fun i wr => ∃ k : Nat, k ≤ n ∧ i = .int .i64 k ∧ ItemsAt wr w.heap.size 0 (l.take k) ∧ Room wr w.heap.size (n * 3) ∧ Below w.heap.size w wr) (fun i _ => n - (intOf i).toNat)
  case atStart => exact ⟨0, Nat.zero_le _, rfl, fun i r hr => by simp at hr, HR1.out.1, HR1.out.2⟩
  case round =>
    obtain ⟨k, hk, rfl, hat, hroom, hb⟩ := hrel
    clear HR1
    by_cases hlt : k < n
    · obtain ⟨r, hr⟩ : ∃ r, l[k]? = some r := ⟨l[k]'(by have := HN.out; omega), List.getElem?_eq_getElem _⟩
      rcases HI.out with h | ⟨b, off, rfl, hsrc⟩
      · subst h; simp at hr
      have hblt : b < w.heap.size := block_lt_of_cell (hsrc k r hr).1
      have hkeep := (hsrc.keep (w' := w) (Below.refl _ _)) k r hr
      have p1 : wr.cell? ⟨b, off + k * 3, none⟩ = some (.string r.name) := by rw [hb.cell (p := ⟨b, off + k * 3, none⟩) hblt]; exact hkeep.1
      have p2 : wr.cell? ⟨b, off + k * 3 + 1, none⟩ = some (.bool r.has) := by rw [hb.cell (p := ⟨b, off + k * 3 + 1, none⟩) hblt]; exact hkeep.2.1
      have p3 : wr.cell? ⟨b, off + k * 3 + 2, none⟩ = some (.string r.value) := by rw [hb.cell (p := ⟨b, off + k * 3 + 2, none⟩) hblt]; exact hkeep.2.2
      have HA : Hid (ItemsAt wr w.heap.size 0 (l.take k)) := hat
      have HM : Hid (Room wr w.heap.size (n * 3)) := hroom
      have HR : Hid (l[k]? = some r) := hr
      have g : (k : Int) < n := by omega
      clear hat hroom hr hsrc hkeep HI
      go_wp2_with fail
      refine (toItem_any r _).mono ?_
      rintro e w2 ⟨rfl, hb2⟩
      have HA2 : Hid (ItemsAt w2 w.heap.size 0 (l.take k)) := HA.out.keep hb2
      have HM2 : Hid (Room w2 w.heap.size (n * 3)) := HM.out.keep hb2
      have hbb : Below w.heap.size w w2 := hb.trans (hb2.mono hb.size)
      obtain ⟨⟨u0, g0⟩, f0⟩ := HM2.out (k * 3) (by omega)
      obtain ⟨⟨u1, g1⟩, f1⟩ := HM2.out (k * 3 + 1) (by omega)
      obtain ⟨⟨u2, g2⟩, f2⟩ := HM2.out (k * 3 + 2) (by omega)
      have HP : Hid (ItemsAt (put3 w2 w.heap.size k r) w.heap.size 0 (l.take (k + 1)) ∧ Room (put3 w2 w.heap.size k r) w.heap.size (n * 3)) := ⟨HA2.out.put HR.out HM2.out hlt, HM2.out.put k r⟩
      clear HA HM HA2 HM2 hb2 hb p1 p2 p3
      obtain ⟨rn, rh, rv⟩ := r
      go_wp2_with fail
      go_roundw
      case rel => exact ⟨k + 1, by omega, by go_num, HP.out.1, HP.out.2, ((hbb.setCell (Nat.le_refl _) _).setCell (Nat.le_refl _) _).setCell (Nat.le_refl _) _⟩
      case measure => simp [intOf]; omega
    · have HF : Hid (ItemsAt wr w.heap.size 0 l) := by
        have e : l.take k = l := List.take_of_length_le (by have := HN.out; omega)
        rw [e] at hat
        exact hat
      clear hat hroom
      go_wp2_with fail
      go_ret
      exact ⟨rfl, HF.out, hb⟩
end Go.Proofs.YtibomkcbopkpkaiDoor
