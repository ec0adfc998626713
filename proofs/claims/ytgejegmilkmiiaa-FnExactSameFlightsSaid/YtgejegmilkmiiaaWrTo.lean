/-
  The laws' copy of a list, and their comparing of two.
-/
import Derived.Test.YtgejegmilkmiiaaWrAt
import Derived.BigQuiet
import Derived.Lib.QuietBelow
import Derived.Deep.RegionWith
namespace Go.Proofs.Ytgejegmilkmiiaa
open Go.ChangeShapes Go.WideShapes Go.ChangeAt Go.RowKit Go.Sort
/-- m cells from the head of block G on are there and may be written. -/
def RoomWr (w : World) (G m : Nat) : Prop := ∀ j, j < m → (∃ u, w.cell? ⟨G, j, none⟩ = some u) ∧ w.frozen? ⟨G, j, none⟩ = false
theorem RoomWr.keep {w w' : World} {G m : Nat} (h : RoomWr w G m) (hb : Below w.heap.size w w') : RoomWr w' G m := by
  intro j hj
  obtain ⟨⟨u, hu⟩, hf⟩ := h j hj
  exact ⟨⟨u, by rw [hb.cell (block_lt_of_cell hu)]; exact hu⟩, by rw [hb.frozen (block_lt_of_cell hu)]; exact hf⟩
theorem RoomWr.set {w : World} {G m : Nat} (h : RoomWr w G m) (a : Addr) (v : Value) : RoomWr (w.setCell a v) G m := by
  intro j hj
  obtain ⟨⟨u, hu⟩, hf⟩ := h j hj
  refine ⟨?_, by rw [World.frozen?_setCell]; exact hf⟩
  by_cases e : a = ⟨G, j, none⟩
  · exact ⟨v, by subst e; exact World.cell?_setCell_same _ _ _ hu⟩
  · exact ⟨u, by rw [World.cell?_setCell_other _ _ _ _ e]; exact hu⟩
def putWr (w : World) (G k : Nat) (r : Wr) : World := (((w.setCell ⟨G, k * 4, none⟩ (.int .i64 r.rq)).setCell ⟨G, k * 4 + 1, none⟩ (.bool r.hd)).setCell ⟨G, k * 4 + 2, none⟩ (.int .i64 r.du)).setCell ⟨G, k * 4 + 3, none⟩ (.bool r.lt)
theorem offWr_ne {G i j : Nat} (h : i ≠ j) : (⟨G, i, none⟩ : Addr) ≠ ⟨G, j, none⟩ := fun e => h (congrArg Addr.off e)
theorem putWr_other (w : World) (G k : Nat) (r : Wr) (j : Nat) (h0 : k * 4 ≠ j) (h1 : k * 4 + 1 ≠ j) (h2 : k * 4 + 2 ≠ j) (h3 : k * 4 + 3 ≠ j) : (putWr w G k r).cell? ⟨G, j, none⟩ = w.cell? ⟨G, j, none⟩ := by
  unfold putWr
  rw [World.cell?_setCell_other _ _ _ _ (offWr_ne h3), World.cell?_setCell_other _ _ _ _ (offWr_ne h2), World.cell?_setCell_other _ _ _ _ (offWr_ne h1), World.cell?_setCell_other _ _ _ _ (offWr_ne h0)]
theorem RoomWr.put {w : World} {G m : Nat} (h : RoomWr w G m) (k : Nat) (r : Wr) : RoomWr (putWr w G k r) G m := (((h.set _ _).set _ _).set _ _).set _ _
theorem WrAt.put {w : World} {G n : Nat} {l : List Wr} {k : Nat} {r : Wr} (h : WrAt w G 0 (l.take k)) (hr : l[k]? = some r) (hm : RoomWr w G (n * 4)) (hk : k < n) : WrAt (putWr w G k r) G 0 (l.take (k + 1)) := by
  intro i q hq
  have hi : i < k + 1 := by
    have := (List.getElem?_eq_some_iff.1 hq).1
    simp at this; omega
  rw [List.getElem?_take_of_lt hi] at hq
  simp only [Nat.zero_add]
  by_cases e : i = k
  · subst e
    rw [hr] at hq
    obtain rfl := Option.some.inj hq
    obtain ⟨⟨u0, g0⟩, _⟩ := hm (i * 4) (by omega)
    obtain ⟨⟨u1, g1⟩, _⟩ := (hm.set ⟨G, i * 4, none⟩ (.int .i64 r.rq)) (i * 4 + 1) (by omega)
    obtain ⟨⟨u2, g2⟩, _⟩ := ((hm.set ⟨G, i * 4, none⟩ (.int .i64 r.rq)).set ⟨G, i * 4 + 1, none⟩ (.bool r.hd)) (i * 4 + 2) (by omega)
    obtain ⟨⟨u3, g3⟩, _⟩ := (((hm.set ⟨G, i * 4, none⟩ (.int .i64 r.rq)).set ⟨G, i * 4 + 1, none⟩ (.bool r.hd)).set ⟨G, i * 4 + 2, none⟩ (.int .i64 r.du)) (i * 4 + 3) (by omega)
    unfold putWr
    exact ⟨by rw [World.cell?_setCell_other _ _ _ _ (offWr_ne (by omega)), World.cell?_setCell_other _ _ _ _ (offWr_ne (by omega)), World.cell?_setCell_other _ _ _ _ (offWr_ne (by omega))]; exact World.cell?_setCell_same _ _ _ g0, by rw [World.cell?_setCell_other _ _ _ _ (offWr_ne (by omega)), World.cell?_setCell_other _ _ _ _ (offWr_ne (by omega))]; exact World.cell?_setCell_same _ _ _ g1, by rw [World.cell?_setCell_other _ _ _ _ (offWr_ne (by omega))]; exact World.cell?_setCell_same _ _ _ g2, by exact World.cell?_setCell_same _ _ _ g3⟩
  · have hq2 : (l.take k)[i]? = some q := by rw [List.getElem?_take_of_lt (by omega)]; exact hq
    obtain ⟨a0, a1, a2, a3⟩ := h i q hq2
    simp only [Nat.zero_add] at a0 a1 a2 a3
    exact ⟨by rw [putWr_other _ _ _ _ _ (by omega) (by omega) (by omega) (by omega)]; exact a0, by rw [putWr_other _ _ _ _ _ (by omega) (by omega) (by omega) (by omega)]; exact a1, by rw [putWr_other _ _ _ _ _ (by omega) (by omega) (by omega) (by omega)]; exact a2, by rw [putWr_other _ _ _ _ _ (by omega) (by omega) (by omega) (by omega)]; exact a3⟩
theorem infoWr : (Try.prog.info? 50).map (fun i => (i.zero, i.size, i.bytes)) = some (some (.agg #[.int .i64 0, .bool false, .int .i64 0, .bool false]), 4, 32) := by kernel_rfl
set_option maxHeartbeats 2000000 in
theorem toWrS_any (w : World) (a : Option Addr) (cap : Nat) (l : List Wr) (hl : l.length ≤ 1048576) (hi : WrIn w a l) :
    Calls Try.prog 20 #[.slice a l.length cap] w fun e w' => e = .returned (.slice (some ⟨w.heap.size, 0, none⟩) l.length l.length) ∧ WrAt w' w.heap.size 0 l ∧ RoomWr w' w.heap.size (l.length * 4) ∧ w.heap.size < w'.heap.size ∧ Below w.heap.size w w' := by
  have HI : Hid (WrIn w a l) := hi
  obtain ⟨i0, hi0, hz0, hz1, hz2⟩ := info_parts infoWr
  clear hi
  generalize hn : l.length = n at *
  have HN : Hid (l.length = n) := hn
  clear hn
  go_enter Try.func20, Try.ntmps20
  go_wp2_with (at_make; refine wpList_make_full w rfl _ _ 38 rfl w.heap.size 50 i0 _ 4 Try.underlying38 hi0 hz0 hz1 _ _ _ _ n rfl rfl rfl rfl (by rw [hz2]; omega) (by unfold maxLen; omega) (Nat.le_refl _) ?_; intro w1 hown hgrow)
  have HR1 : Hid (RoomWr w1 w.heap.size (n * 4) ∧ w.heap.size < w1.heap.size ∧ Below w.heap.size w w1) := by
    refine ⟨fun j hj => ⟨?_, hown.frozenAt j⟩, (hown.lt _ rfl).2, (Below.refl _ _).grown hgrow (Nat.le_refl _) (fun q hq => by cases hq)⟩
    have h1 := hown.cellAt j hj
    have h2 : j < (madeCells (Value.agg #[.int .i64 0, .bool false, .int .i64 0, .bool false]).cells (n * 4)).toList.length := by have := hown.1; omega
    exact ⟨_, h1.trans (List.getElem?_eq_getElem h2)⟩
  clear hown hgrow
  go_loopw [4] (fun i wr => ∃ k : Nat, k ≤ n ∧ i = .int .i64 k ∧ WrAt wr w.heap.size 0 (l.take k) ∧ RoomWr wr w.heap.size (n * 4) ∧ w.heap.size < wr.heap.size ∧ Below w.heap.size w wr) (fun i _ => n - (intOf i).toNat)
  case atStart => exact ⟨0, Nat.zero_le _, rfl, fun i r hr => by simp at hr, HR1.out.1, HR1.out.2.1, HR1.out.2.2⟩
  case round =>
    obtain ⟨k, hk, rfl, hat, hroom, hup, hb⟩ := hrel
    clear HR1
    by_cases hlt : k < n
    · obtain ⟨r, hr⟩ : ∃ r, l[k]? = some r := ⟨l[k]'(by have := HN.out; omega), List.getElem?_eq_getElem _⟩
      rcases HI.out with h | ⟨b, off, rfl, hsrc⟩
      · subst h; simp at hr
      have hblt : b < w.heap.size := block_lt_of_cell (hsrc k r hr).1
      obtain ⟨q0, q1, q2, q3⟩ := hsrc k r hr
      have p0 : wr.cell? ⟨b, off + k * 4, none⟩ = some (.int .i64 r.rq) := by rw [hb.cell (p := ⟨b, off + k * 4, none⟩) hblt]; exact q0
      have p1 : wr.cell? ⟨b, off + k * 4 + 1, none⟩ = some (.bool r.hd) := by rw [hb.cell (p := ⟨b, off + k * 4 + 1, none⟩) hblt]; exact q1
      have p2 : wr.cell? ⟨b, off + k * 4 + 2, none⟩ = some (.int .i64 r.du) := by rw [hb.cell (p := ⟨b, off + k * 4 + 2, none⟩) hblt]; exact q2
      have p3 : wr.cell? ⟨b, off + k * 4 + 3, none⟩ = some (.bool r.lt) := by rw [hb.cell (p := ⟨b, off + k * 4 + 3, none⟩) hblt]; exact q3
      have HA : Hid (WrAt wr w.heap.size 0 (l.take k)) := hat
      have HM : Hid (RoomWr wr w.heap.size (n * 4)) := hroom
      have HR : Hid (l[k]? = some r) := hr
      have g : (k : Int) < n := by omega
      clear hat hroom hr hsrc q0 q1 q2 q3 HI
      go_wp2_with fail
      refine (toWr_any r _).mono ?_
      rintro e w2 ⟨rfl, hb2⟩
      have HA2 : Hid (WrAt w2 w.heap.size 0 (l.take k)) := HA.out.keep hb2
      have HM2 : Hid (RoomWr w2 w.heap.size (n * 4)) := HM.out.keep hb2
      have hbb : Below w.heap.size w w2 := hb.trans (hb2.mono hb.size)
      have hup2 : w.heap.size < w2.heap.size := Nat.lt_of_lt_of_le hup hb2.size
      obtain ⟨⟨u0, g0⟩, f0⟩ := HM2.out (k * 4) (by omega)
      obtain ⟨⟨u1, g1⟩, f1⟩ := HM2.out (k * 4 + 1) (by omega)
      obtain ⟨⟨u2, g2⟩, f2⟩ := HM2.out (k * 4 + 2) (by omega)
      obtain ⟨⟨u3, g3⟩, f3⟩ := HM2.out (k * 4 + 3) (by omega)
      have HP : Hid (WrAt (putWr w2 w.heap.size k r) w.heap.size 0 (l.take (k + 1)) ∧ RoomWr (putWr w2 w.heap.size k r) w.heap.size (n * 4)) := ⟨HA2.out.put HR.out HM2.out hlt, HM2.out.put k r⟩
      clear HA HM HA2 HM2 hb2 hb p0 p1 p2 p3
      obtain ⟨rrq, rhd, rdu, rlt⟩ := r
      go_wp2_with fail
      go_roundw
      case rel => exact ⟨k + 1, by omega, by go_num, HP.out.1, HP.out.2, by simpa using hup2, (((hbb.setCell (Nat.le_refl _) _).setCell (Nat.le_refl _) _).setCell (Nat.le_refl _) _).setCell (Nat.le_refl _) _⟩
      case measure => simp [intOf]; omega
    · have HF : Hid (WrAt wr w.heap.size 0 l ∧ RoomWr wr w.heap.size (n * 4)) := by
        have e : l.take k = l := List.take_of_length_le (by have := HN.out; omega)
        rw [e] at hat
        exact ⟨hat, hroom⟩
      clear hat hroom
      go_wp2_with fail
      go_ret
      exact ⟨rfl, HF.out.1, HF.out.2, hup, hb⟩
set_option maxRecDepth 100000 in
set_option maxHeartbeats 2000000 in
theorem eqWrS_same (w : World) (a1 a2 : Option Addr) (c1 c2 : Nat) (l : List Wr) (hl : l.length ≤ 1048576) (h1 : WrIn w a1 l) (h2 : WrIn w a2 l) :
    Calls Try.prog 25 #[.slice a1 l.length c1, .slice a2 l.length c2] w fun e w' => e = .returned (.bool true) ∧ Below w.heap.size w w' := by
  have H1 : Hid (WrIn w a1 l) := h1
  have H2 : Hid (WrIn w a2 l) := h2
  clear h1 h2
  generalize hn : l.length = n at *
  have HN : Hid (l.length = n) := hn
  clear hn
  go_enter Try.func25, Try.ntmps25
  go_wp2_with fail
  go_loopw [5] (fun i wr => ∃ k : Nat, k ≤ n ∧ i = .int .i64 k ∧ Below w.heap.size w wr) (fun i _ => n - (intOf i).toNat)
  case atStart => exact ⟨0, Nat.zero_le _, rfl, Below.refl _ _⟩
  case round =>
    obtain ⟨k, hk, rfl, hb⟩ := hrel
    by_cases hlt : k < n
    · obtain ⟨r, hr⟩ : ∃ r, l[k]? = some r := ⟨l[k]'(by have := HN.out; omega), List.getElem?_eq_getElem _⟩
      rcases (H1.out.keep hb) with h | ⟨b1, o1, rfl, at1⟩
      · subst h; simp at hr
      rcases (H2.out.keep hb) with h | ⟨b2, o2, rfl, at2⟩
      · subst h; simp at hr
      obtain ⟨p0, p1, p2, p3⟩ := at1 k r hr
      obtain ⟨q0, q1, q2, q3⟩ := at2 k r hr
      have x0 := cell_regrown p0
      have y0 := cell_regrown q0
      have x1 := cell_regrown p1
      have y1 := cell_regrown q1
      have x2 := cell_regrown p2
      have y2 := cell_regrown q2
      have x3 := cell_regrown p3
      have y3 := cell_regrown q3
      have cE : ∀ d os, Calls Try.prog 31 #[.agg #[.int .i64 r.rq, .bool r.hd, .int .i64 r.du, .bool r.lt], .agg #[.int .i64 r.rq, .bool r.hd, .int .i64 r.du, .bool r.lt]] (grow (redrawn wr d) os) fun e w'' => e = .returned (.bool true) ∧ ∃ p : Regrown, w'' = grow (redrawn wr p.d) p.os := fun d os => Calls.regrown_of (eqWr_same r _)
      have g0 : (0 : Int) ≤ k := by omega
      have g : (k : Int) < n := by omega
      clear hr p0 p1 p2 p3 q0 q1 q2 q3 at1 at2
      generalize r.rq = rrq at *
      generalize r.hd = rhd at *
      generalize r.du = rdu at *
      generalize r.lt = rlt at *
      go_wp2_with fail
      refine wp_region_quiet_below (by kernel_rfl) (by kernel_rfl) ?_
      repeat (go_big_quiet_step ((go_at_call 31; exact cE _ _)))
      refine wpQuiet_nil ?_
      intro w2 hw2
      have hbb : Below w.heap.size w w2 := by
        obtain ⟨⟨d, os⟩, rfl⟩ := hw2
        exact hb.trans ((below_regrown wr d os).mono hb.size)
      clear x0 y0 x1 y1 x2 y2 x3 y3 cE hw2 hb
      go_wp2_with fail
      go_roundw
      case rel => exact ⟨k + 1, by omega, by go_num, hbb⟩
      case measure => simp [intOf]; omega
    · go_wp2_with fail
      go_ret
      exact ⟨rfl, hb⟩
end Go.Proofs.Ytgejegmilkmiiaa
