/-
  Texts of one claim, one behind the other.
-/
import Derived.BigQuiet
import Derived.Deep.RegionHeld3
import Derived.Lib.OwnBridge
import Derived.Lib.QuietBelow
import Derived.Lib.SliceRun
import Derived.LoopIn
import Derived.LoopNIn
import Derived.OwnWalkIn
import Derived.RangeFuncBound
import Derived.RangeFuncBox
import Derived.RangeFuncCalls
import Derived.RangeFuncLeaves
import Derived.RangeFuncNested
import Derived.Shelf.Abstract
import Derived.Shelf.AbstractIn
import Derived.Shelf.RegionOpen
import Derived.Shelf.SlicesE.Delete
import Derived.Stop.RegionWithIn
import Derived.TacticsInMore
import Derived.WalkKit
import Derived.WalkSmall
import Derived.Test.YtdooopkpnanekaaGreatDoorMgD
/-
  An entry that is copied, by the program.
-/
namespace Go.Proofs.YtdooopkpnanekaaGreatDoor
open Go.ChangeShapes Go.WideShapes Go.ChangeAt Go.RowKit Go.Sort
theorem row_ne {w : World} {base : Nat} {e : TypeId} {size : Nat} {v : Value} {n : Nat} {xs : List Value} (h : w.ownsRow base e size v n xs) {A i : Nat} (u : Value) (hA : ∀ q, v.ownBlock = some q → q ≠ A) : (w.setCell ⟨A, i, none⟩ u).ownsRow base e size v n xs := by
  obtain ⟨h1, h2⟩ := h
  refine ⟨h1, ?_⟩
  rcases h2 with h2 | ⟨g, c, cur, e', hg, hh, hrest⟩
  · exact .inl h2
  · exact .inr ⟨g, c, cur, e', hg, by rw [heap_setCell_other w ⟨A, i, none⟩ g u (by have := hA g (by rw [e']; rfl); exact this)]; exact hh, hrest⟩
theorem ne_blk2 {a b : Option Addr} {n c n' c' m : Nat} (h1 : ∀ q, Value.ownBlock (.slice a n c) = some q → q < m) (h2 : ∀ q, Value.ownBlock (.slice b n' c') = some q → m ≤ q) : a = none ∨ a ≠ b := by
  cases a with
  | none => exact .inl rfl
  | some p =>
    refine .inr fun e => ?_
    subst e
    have := h1 p.block rfl
    have := h2 p.block rfl
    omega
theorem heads_small {x : Ent} (hz : entC x = 0) : ∀ r ∈ x.hs, r.name.size ≤ 1048576 ∧ r.value.size ≤ 1048576 := fun r hr => by
  obtain ⟨_, _, _, z4, _, _, _⟩ := entryC_zero hz
  obtain ⟨_, hfl⟩ := headsC_zero z4
  obtain ⟨i, hi⟩ := List.mem_iff_getElem?.1 hr
  obtain ⟨x1, x2, _⟩ := faultH_zero (hfl i r hi)
  exact ⟨Nat.le_trans (hword_max x1) (by omega), by omega⟩
theorem off13 {X : World} {b c o : Nat} (x0 x1 x2 x3 x4 x5 x6 x7 x8 x9 x10 x11 x12 : Value) (h : b ≠ c) : ((((((((((((((X.setCell ⟨b, 0, none⟩ x0).setCell ⟨b, 1, none⟩ x1).setCell ⟨b, 2, none⟩ x2).setCell ⟨b, 3, none⟩ x3).setCell ⟨b, 4, none⟩ x4).setCell ⟨b, 5, none⟩ x5).setCell ⟨b, 6, none⟩ x6).setCell ⟨b, 7, none⟩ x7).setCell ⟨b, 8, none⟩ x8).setCell ⟨b, 9, none⟩ x9).setCell ⟨b, 10, none⟩ x10).setCell ⟨b, 11, none⟩ x11).setCell ⟨b, 12, none⟩ x12)).cell? ⟨c, o, none⟩ = X.cell? ⟨c, o, none⟩ := by
  have ne : ∀ i : Nat, (⟨b, i, none⟩ : Addr) ≠ ⟨c, o, none⟩ := fun i e => h (congrArg Addr.block e)
  rw [World.cell?_setCell_other _ _ _ _ (ne _), World.cell?_setCell_other _ _ _ _ (ne _), World.cell?_setCell_other _ _ _ _ (ne _), World.cell?_setCell_other _ _ _ _ (ne _), World.cell?_setCell_other _ _ _ _ (ne _), World.cell?_setCell_other _ _ _ _ (ne _), World.cell?_setCell_other _ _ _ _ (ne _), World.cell?_setCell_other _ _ _ _ (ne _), World.cell?_setCell_other _ _ _ _ (ne _), World.cell?_setCell_other _ _ _ _ (ne _), World.cell?_setCell_other _ _ _ _ (ne _), World.cell?_setCell_other _ _ _ _ (ne _), World.cell?_setCell_other _ _ _ _ (ne _)]
set_option linter.unusedSimpArgs false in
set_option maxRecDepth 100000 in
set_option maxHeartbeats 64000000 in
theorem anew_at (w : World) (h : Hdl) (hz : entC h.x = 0) (hts : ∀ t ∈ h.x.ts, t.size ≤ 1048576) (ht : HThere w h) :
    Calls Tryz.prog 102 #[.pointer (some ⟨h.b, h.o, none⟩)] w fun e w' => (∃ r, e = .returned (entV h.x r) ∧ EntRow w' w.heap.size h.x r) ∧ Below w.heap.size w w' := by
  obtain ⟨z1, _, _, z4, z5, z6, _⟩ := entryC_zero hz
  obtain ⟨z20, _⟩ := headsC_zero z4
  have CK : Hid (∀ X, Calls Tryz.prog 134 #[.string h.x.key] X fun e w' => e = .returned (.string h.x.key) ∧ Below X.heap.size X w') := fun X => clone_text _ X (by omega)
  have CB : Hid (∀ X, Below w.heap.size w X → Calls Tryz.prog 149 #[.slice h.r.ba h.x.bl.length h.r.bc] X fun e w' => (∃ b2 k2, e = .returned (.slice b2 h.x.bl.length k2) ∧ RowB w' X.heap.size (.slice b2 h.x.bl.length k2) h.x.bl) ∧ Below X.heap.size X w') := fun X hX => (bClone_any X _ _ _ (by omega) (ht.keep hX).2.b).mono fun e w' ⟨⟨v, q1, q2⟩, q3⟩ => by
    obtain ⟨va, vc, rfl, _⟩ := row_form q2
    exact ⟨⟨va, vc, q1, q2⟩, q3⟩
  have CH : Hid (∀ X, Below w.heap.size w X → Calls Tryz.prog 148 #[.slice h.r.ha h.x.hs.length h.r.hc] X fun e w' => (∃ va vc, e = .returned (.slice va h.x.hs.length vc) ∧ RowH w' X.heap.size (.slice va h.x.hs.length vc) h.x.hs) ∧ Below X.heap.size X w') := fun X hX => (linesAnew_any X _ _ _ (by omega) (heads_small hz) (ht.keep hX).2.h).mono fun e w' ⟨⟨v, q1, q2⟩, q3⟩ => by
    obtain ⟨va, vc, rfl, _⟩ := row_form q2
    exact ⟨⟨va, vc, q1, q2⟩, q3⟩
  have CT : Hid (∀ X, Below w.heap.size w X → Calls Tryz.prog 150 #[.slice h.r.ta h.x.ts.length h.r.tc] X fun e w' => (∃ ta2 tc2, e = .returned (.slice ta2 h.x.ts.length tc2) ∧ RowT w' X.heap.size (.slice ta2 h.x.ts.length tc2) h.x.ts) ∧ Below X.heap.size X w') := fun X hX => (textsAnew_any X _ _ _ (by omega) hts (ht.keep hX).2.k).mono fun e w' ⟨⟨v, q1, q2⟩, q3⟩ => by
    obtain ⟨va, vc, rfl, _⟩ := row_form q2
    exact ⟨⟨va, vc, q1, q2⟩, q3⟩
  obtain ⟨W, hW⟩ : ∃ W, W = w.alloc (.cells #[.string ⟨#[]⟩, .int .i64 0, .slice none 0 0, .slice none 0 0, .int .i64 0, .int .i64 0, .int .i64 0, .int .i64 0, .int .i64 0, .bool false, .bool false, .slice none 0 0, .int .i64 0] 52) := ⟨_, rfl⟩
  have HW : Hid (W = w.alloc (.cells #[.string ⟨#[]⟩, .int .i64 0, .slice none 0 0, .slice none 0 0, .int .i64 0, .int .i64 0, .int .i64 0, .int .i64 0, .int .i64 0, .bool false, .bool false, .slice none 0 0, .int .i64 0] 52)) := hW
  have K0 : Hid (Below w.heap.size w W ∧ E13 W w.heap.size (.string ⟨#[]⟩) (.int .i64 0) (.slice none 0 0) (.slice none 0 0) (.int .i64 0) (.int .i64 0) (.int .i64 0) (.int .i64 0) (.int .i64 0) (.bool false) (.bool false) (.slice none 0 0) (.int .i64 0) ∧ W.heap.size = w.heap.size + 1) := by
    rw [hW]; exact ⟨(Below.refl _ _).alloc (Nat.le_refl _) _, E13.new w _ _ _ _ _ _ _ _ _ _ _ _ _ _, by simp⟩
  have HLT : Hid (h.b < w.heap.size) := ht.lt
  have HKS : Hid (∀ X, Below W.heap.size W X → X.cell? ⟨h.b, h.o, none⟩ = some (.string h.x.key) ∧ X.cell? ⟨h.b, h.o + 1, none⟩ = some (.int .i64 h.x.st) ∧ X.cell? ⟨h.b, h.o + 2, none⟩ = some (.slice h.r.ha h.x.hs.length h.r.hc) ∧ X.cell? ⟨h.b, h.o + 3, none⟩ = some (.slice h.r.ba h.x.bl.length h.r.bc) ∧ X.cell? ⟨h.b, h.o + 4, none⟩ = some (.int .i64 h.x.t) ∧ X.cell? ⟨h.b, h.o + 5, none⟩ = some (.int .i64 h.x.g) ∧ X.cell? ⟨h.b, h.o + 6, none⟩ = some (.int .i64 h.x.l) ∧ X.cell? ⟨h.b, h.o + 7, none⟩ = some (.int .i64 h.x.s) ∧ X.cell? ⟨h.b, h.o + 8, none⟩ = some (.int .i64 h.x.e) ∧ X.cell? ⟨h.b, h.o + 9, none⟩ = some (.bool h.x.b1) ∧ X.cell? ⟨h.b, h.o + 10, none⟩ = some (.bool h.x.b2) ∧ X.cell? ⟨h.b, h.o + 11, none⟩ = some (.slice h.r.ta h.x.ts.length h.r.tc) ∧ X.cell? ⟨h.b, h.o + 12, none⟩ = some (.int .i64 h.x.pins)) := fun X hX => by
    have c := (ht.keep (K0.out.1.trans (hX.mono K0.out.1.size))).cells
    exact ⟨c.1, c.2.1, c.2.2.1, c.2.2.2.1, c.2.2.2.2.1, c.2.2.2.2.2.1, c.2.2.2.2.2.2.1, c.2.2.2.2.2.2.2.1, c.2.2.2.2.2.2.2.2.1, c.2.2.2.2.2.2.2.2.2.1, c.2.2.2.2.2.2.2.2.2.2.1, c.2.2.2.2.2.2.2.2.2.2.2.1, c.2.2.2.2.2.2.2.2.2.2.2.2⟩
  have HLOW : Hid (∀ X, Below W.heap.size W X → Below w.heap.size w X) := fun X hX => K0.out.1.trans (hX.mono K0.out.1.size)
  have BZ : Hid (Below W.heap.size W W.drew) := (Below.refl _ _).drew
  clear hW ht hts
  go_enter Tryz.func102, Tryz.ntmps102
  go_upto_region 1 with fail
  rw [← HW.out]
  clear HW
  go_region_held3 (fun X => X.cell? ⟨h.b, h.o, none⟩ = some (.string h.x.key) ∧ X.cell? ⟨h.b, h.o + 1, none⟩ = some (.int .i64 h.x.st) ∧ X.cell? ⟨h.b, h.o + 2, none⟩ = some (.slice h.r.ha h.x.hs.length h.r.hc) ∧ X.cell? ⟨h.b, h.o + 3, none⟩ = some (.slice h.r.ba h.x.bl.length h.r.bc) ∧ X.cell? ⟨h.b, h.o + 4, none⟩ = some (.int .i64 h.x.t) ∧ X.cell? ⟨h.b, h.o + 5, none⟩ = some (.int .i64 h.x.g) ∧ X.cell? ⟨h.b, h.o + 6, none⟩ = some (.int .i64 h.x.l) ∧ X.cell? ⟨h.b, h.o + 7, none⟩ = some (.int .i64 h.x.s) ∧ X.cell? ⟨h.b, h.o + 8, none⟩ = some (.int .i64 h.x.e) ∧ X.cell? ⟨h.b, h.o + 9, none⟩ = some (.bool h.x.b1) ∧ X.cell? ⟨h.b, h.o + 10, none⟩ = some (.bool h.x.b2) ∧ X.cell? ⟨h.b, h.o + 11, none⟩ = some (.slice h.r.ta h.x.ts.length h.r.tc) ∧ X.cell? ⟨h.b, h.o + 12, none⟩ = some (.int .i64 h.x.pins))
    (first | (with_reducible exact SF.out) | ((with_reducible refine HKS.out _ ?_); (with_reducible exact BD.out)) | ((with_reducible refine HKS.out _ ?_); (with_reducible exact BC.out)) | ((with_reducible refine HKS.out _ ?_); (with_reducible exact BB.out)) | ((with_reducible refine HKS.out _ ?_); (with_reducible exact BA.out)) | ((with_reducible refine HKS.out _ ?_); (with_reducible exact BZ.out)))
    (first
    | (go_at_call 134; (with_reducible refine (CK.out W.drew).mono ?_); rintro e0 u1 ⟨rfl, hb⟩; have BA : Hid (Below W.heap.size W u1) := BZ.out.trans (hb.mono BZ.out.size); clear hb)
    | (go_at_call 148; (with_reducible refine (CH.out u1 (HLOW.out _ BA.out)).mono ?_); rintro e0 u2 ⟨⟨va, vc, rfl, hrow⟩, hb⟩; have BB : Hid (Below W.heap.size W u2) := BA.out.trans (hb.mono BA.out.size); have HRH : Hid (RowH u2 u1.heap.size (.slice va h.x.hs.length vc) h.x.hs ∧ W.heap.size ≤ u1.heap.size) := ⟨hrow, BA.out.size⟩; clear hb hrow)
    | (go_at_call 149; (with_reducible refine (CB.out u2 (HLOW.out _ BB.out)).mono ?_); rintro e0 u3 ⟨⟨b2, k2, rfl, hrow⟩, hb⟩; have BC : Hid (Below W.heap.size W u3) := BB.out.trans (hb.mono BB.out.size); have HRB : Hid (RowB u3 u2.heap.size (.slice b2 h.x.bl.length k2) h.x.bl ∧ Below u2.heap.size u2 u3) := ⟨hrow, hb⟩; clear hb hrow)
    | (go_at_call 150; (with_reducible refine (CT.out u3 (HLOW.out _ BC.out)).mono ?_); rintro e0 u4 ⟨⟨ta2, tc2, rfl, hrow⟩, hb⟩; have BD : Hid (Below W.heap.size W u4) := BC.out.trans (hb.mono BC.out.size); have HRT : Hid (RowT u4 u3.heap.size (.slice ta2 h.x.ts.length tc2) h.x.ts ∧ Below u3.heap.size u3 u4) := ⟨hrow, hb⟩; obtain ⟨z0, z1, z2, z3, z4, z5, z6, z7, z8, z9, z10, z11, z12, zf, zl⟩ := K0.out.2.1.keep BD.out; have zf0 := zf 0; have zf1 := zf 1; have zf2 := zf 2; have zf3 := zf 3; have zf4 := zf 4; have zf5 := zf 5; have zf6 := zf 6; have zf7 := zf 7; have zf8 := zf 8; have zf9 := zf 9; have zf10 := zf 10; have zf11 := zf 11; have zf12 := zf 12; have SF : Hid ((((((((((((((u4.setCell ⟨w.heap.size, 0, none⟩ (.string h.x.key)).setCell ⟨w.heap.size, 1, none⟩ (.int .i64 h.x.st)).setCell ⟨w.heap.size, 2, none⟩ (.slice va h.x.hs.length vc)).setCell ⟨w.heap.size, 3, none⟩ (.slice b2 h.x.bl.length k2)).setCell ⟨w.heap.size, 4, none⟩ (.int .i64 h.x.t)).setCell ⟨w.heap.size, 5, none⟩ (.int .i64 h.x.g)).setCell ⟨w.heap.size, 6, none⟩ (.int .i64 h.x.l)).setCell ⟨w.heap.size, 7, none⟩ (.int .i64 h.x.s)).setCell ⟨w.heap.size, 8, none⟩ (.int .i64 h.x.e)).setCell ⟨w.heap.size, 9, none⟩ (.bool h.x.b1)).setCell ⟨w.heap.size, 10, none⟩ (.bool h.x.b2)).setCell ⟨w.heap.size, 11, none⟩ (.slice ta2 h.x.ts.length tc2)).setCell ⟨w.heap.size, 12, none⟩ (.int .i64 h.x.pins)).cell? ⟨h.b, h.o, none⟩ = some (.string h.x.key) ∧ (((((((((((((u4.setCell ⟨w.heap.size, 0, none⟩ (.string h.x.key)).setCell ⟨w.heap.size, 1, none⟩ (.int .i64 h.x.st)).setCell ⟨w.heap.size, 2, none⟩ (.slice va h.x.hs.length vc)).setCell ⟨w.heap.size, 3, none⟩ (.slice b2 h.x.bl.length k2)).setCell ⟨w.heap.size, 4, none⟩ (.int .i64 h.x.t)).setCell ⟨w.heap.size, 5, none⟩ (.int .i64 h.x.g)).setCell ⟨w.heap.size, 6, none⟩ (.int .i64 h.x.l)).setCell ⟨w.heap.size, 7, none⟩ (.int .i64 h.x.s)).setCell ⟨w.heap.size, 8, none⟩ (.int .i64 h.x.e)).setCell ⟨w.heap.size, 9, none⟩ (.bool h.x.b1)).setCell ⟨w.heap.size, 10, none⟩ (.bool h.x.b2)).setCell ⟨w.heap.size, 11, none⟩ (.slice ta2 h.x.ts.length tc2)).setCell ⟨w.heap.size, 12, none⟩ (.int .i64 h.x.pins)).cell? ⟨h.b, h.o + 1, none⟩ = some (.int .i64 h.x.st) ∧ (((((((((((((u4.setCell ⟨w.heap.size, 0, none⟩ (.string h.x.key)).setCell ⟨w.heap.size, 1, none⟩ (.int .i64 h.x.st)).setCell ⟨w.heap.size, 2, none⟩ (.slice va h.x.hs.length vc)).setCell ⟨w.heap.size, 3, none⟩ (.slice b2 h.x.bl.length k2)).setCell ⟨w.heap.size, 4, none⟩ (.int .i64 h.x.t)).setCell ⟨w.heap.size, 5, none⟩ (.int .i64 h.x.g)).setCell ⟨w.heap.size, 6, none⟩ (.int .i64 h.x.l)).setCell ⟨w.heap.size, 7, none⟩ (.int .i64 h.x.s)).setCell ⟨w.heap.size, 8, none⟩ (.int .i64 h.x.e)).setCell ⟨w.heap.size, 9, none⟩ (.bool h.x.b1)).setCell ⟨w.heap.size, 10, none⟩ (.bool h.x.b2)).setCell ⟨w.heap.size, 11, none⟩ (.slice ta2 h.x.ts.length tc2)).setCell ⟨w.heap.size, 12, none⟩ (.int .i64 h.x.pins)).cell? ⟨h.b, h.o + 2, none⟩ = some (.slice h.r.ha h.x.hs.length h.r.hc) ∧ (((((((((((((u4.setCell ⟨w.heap.size, 0, none⟩ (.string h.x.key)).setCell ⟨w.heap.size, 1, none⟩ (.int .i64 h.x.st)).setCell ⟨w.heap.size, 2, none⟩ (.slice va h.x.hs.length vc)).setCell ⟨w.heap.size, 3, none⟩ (.slice b2 h.x.bl.length k2)).setCell ⟨w.heap.size, 4, none⟩ (.int .i64 h.x.t)).setCell ⟨w.heap.size, 5, none⟩ (.int .i64 h.x.g)).setCell ⟨w.heap.size, 6, none⟩ (.int .i64 h.x.l)).setCell ⟨w.heap.size, 7, none⟩ (.int .i64 h.x.s)).setCell ⟨w.heap.size, 8, none⟩ (.int .i64 h.x.e)).setCell ⟨w.heap.size, 9, none⟩ (.bool h.x.b1)).setCell ⟨w.heap.size, 10, none⟩ (.bool h.x.b2)).setCell ⟨w.heap.size, 11, none⟩ (.slice ta2 h.x.ts.length tc2)).setCell ⟨w.heap.size, 12, none⟩ (.int .i64 h.x.pins)).cell? ⟨h.b, h.o + 3, none⟩ = some (.slice h.r.ba h.x.bl.length h.r.bc) ∧ (((((((((((((u4.setCell ⟨w.heap.size, 0, none⟩ (.string h.x.key)).setCell ⟨w.heap.size, 1, none⟩ (.int .i64 h.x.st)).setCell ⟨w.heap.size, 2, none⟩ (.slice va h.x.hs.length vc)).setCell ⟨w.heap.size, 3, none⟩ (.slice b2 h.x.bl.length k2)).setCell ⟨w.heap.size, 4, none⟩ (.int .i64 h.x.t)).setCell ⟨w.heap.size, 5, none⟩ (.int .i64 h.x.g)).setCell ⟨w.heap.size, 6, none⟩ (.int .i64 h.x.l)).setCell ⟨w.heap.size, 7, none⟩ (.int .i64 h.x.s)).setCell ⟨w.heap.size, 8, none⟩ (.int .i64 h.x.e)).setCell ⟨w.heap.size, 9, none⟩ (.bool h.x.b1)).setCell ⟨w.heap.size, 10, none⟩ (.bool h.x.b2)).setCell ⟨w.heap.size, 11, none⟩ (.slice ta2 h.x.ts.length tc2)).setCell ⟨w.heap.size, 12, none⟩ (.int .i64 h.x.pins)).cell? ⟨h.b, h.o + 4, none⟩ = some (.int .i64 h.x.t) ∧ (((((((((((((u4.setCell ⟨w.heap.size, 0, none⟩ (.string h.x.key)).setCell ⟨w.heap.size, 1, none⟩ (.int .i64 h.x.st)).setCell ⟨w.heap.size, 2, none⟩ (.slice va h.x.hs.length vc)).setCell ⟨w.heap.size, 3, none⟩ (.slice b2 h.x.bl.length k2)).setCell ⟨w.heap.size, 4, none⟩ (.int .i64 h.x.t)).setCell ⟨w.heap.size, 5, none⟩ (.int .i64 h.x.g)).setCell ⟨w.heap.size, 6, none⟩ (.int .i64 h.x.l)).setCell ⟨w.heap.size, 7, none⟩ (.int .i64 h.x.s)).setCell ⟨w.heap.size, 8, none⟩ (.int .i64 h.x.e)).setCell ⟨w.heap.size, 9, none⟩ (.bool h.x.b1)).setCell ⟨w.heap.size, 10, none⟩ (.bool h.x.b2)).setCell ⟨w.heap.size, 11, none⟩ (.slice ta2 h.x.ts.length tc2)).setCell ⟨w.heap.size, 12, none⟩ (.int .i64 h.x.pins)).cell? ⟨h.b, h.o + 5, none⟩ = some (.int .i64 h.x.g) ∧ (((((((((((((u4.setCell ⟨w.heap.size, 0, none⟩ (.string h.x.key)).setCell ⟨w.heap.size, 1, none⟩ (.int .i64 h.x.st)).setCell ⟨w.heap.size, 2, none⟩ (.slice va h.x.hs.length vc)).setCell ⟨w.heap.size, 3, none⟩ (.slice b2 h.x.bl.length k2)).setCell ⟨w.heap.size, 4, none⟩ (.int .i64 h.x.t)).setCell ⟨w.heap.size, 5, none⟩ (.int .i64 h.x.g)).setCell ⟨w.heap.size, 6, none⟩ (.int .i64 h.x.l)).setCell ⟨w.heap.size, 7, none⟩ (.int .i64 h.x.s)).setCell ⟨w.heap.size, 8, none⟩ (.int .i64 h.x.e)).setCell ⟨w.heap.size, 9, none⟩ (.bool h.x.b1)).setCell ⟨w.heap.size, 10, none⟩ (.bool h.x.b2)).setCell ⟨w.heap.size, 11, none⟩ (.slice ta2 h.x.ts.length tc2)).setCell ⟨w.heap.size, 12, none⟩ (.int .i64 h.x.pins)).cell? ⟨h.b, h.o + 6, none⟩ = some (.int .i64 h.x.l) ∧ (((((((((((((u4.setCell ⟨w.heap.size, 0, none⟩ (.string h.x.key)).setCell ⟨w.heap.size, 1, none⟩ (.int .i64 h.x.st)).setCell ⟨w.heap.size, 2, none⟩ (.slice va h.x.hs.length vc)).setCell ⟨w.heap.size, 3, none⟩ (.slice b2 h.x.bl.length k2)).setCell ⟨w.heap.size, 4, none⟩ (.int .i64 h.x.t)).setCell ⟨w.heap.size, 5, none⟩ (.int .i64 h.x.g)).setCell ⟨w.heap.size, 6, none⟩ (.int .i64 h.x.l)).setCell ⟨w.heap.size, 7, none⟩ (.int .i64 h.x.s)).setCell ⟨w.heap.size, 8, none⟩ (.int .i64 h.x.e)).setCell ⟨w.heap.size, 9, none⟩ (.bool h.x.b1)).setCell ⟨w.heap.size, 10, none⟩ (.bool h.x.b2)).setCell ⟨w.heap.size, 11, none⟩ (.slice ta2 h.x.ts.length tc2)).setCell ⟨w.heap.size, 12, none⟩ (.int .i64 h.x.pins)).cell? ⟨h.b, h.o + 7, none⟩ = some (.int .i64 h.x.s) ∧ (((((((((((((u4.setCell ⟨w.heap.size, 0, none⟩ (.string h.x.key)).setCell ⟨w.heap.size, 1, none⟩ (.int .i64 h.x.st)).setCell ⟨w.heap.size, 2, none⟩ (.slice va h.x.hs.length vc)).setCell ⟨w.heap.size, 3, none⟩ (.slice b2 h.x.bl.length k2)).setCell ⟨w.heap.size, 4, none⟩ (.int .i64 h.x.t)).setCell ⟨w.heap.size, 5, none⟩ (.int .i64 h.x.g)).setCell ⟨w.heap.size, 6, none⟩ (.int .i64 h.x.l)).setCell ⟨w.heap.size, 7, none⟩ (.int .i64 h.x.s)).setCell ⟨w.heap.size, 8, none⟩ (.int .i64 h.x.e)).setCell ⟨w.heap.size, 9, none⟩ (.bool h.x.b1)).setCell ⟨w.heap.size, 10, none⟩ (.bool h.x.b2)).setCell ⟨w.heap.size, 11, none⟩ (.slice ta2 h.x.ts.length tc2)).setCell ⟨w.heap.size, 12, none⟩ (.int .i64 h.x.pins)).cell? ⟨h.b, h.o + 8, none⟩ = some (.int .i64 h.x.e) ∧ (((((((((((((u4.setCell ⟨w.heap.size, 0, none⟩ (.string h.x.key)).setCell ⟨w.heap.size, 1, none⟩ (.int .i64 h.x.st)).setCell ⟨w.heap.size, 2, none⟩ (.slice va h.x.hs.length vc)).setCell ⟨w.heap.size, 3, none⟩ (.slice b2 h.x.bl.length k2)).setCell ⟨w.heap.size, 4, none⟩ (.int .i64 h.x.t)).setCell ⟨w.heap.size, 5, none⟩ (.int .i64 h.x.g)).setCell ⟨w.heap.size, 6, none⟩ (.int .i64 h.x.l)).setCell ⟨w.heap.size, 7, none⟩ (.int .i64 h.x.s)).setCell ⟨w.heap.size, 8, none⟩ (.int .i64 h.x.e)).setCell ⟨w.heap.size, 9, none⟩ (.bool h.x.b1)).setCell ⟨w.heap.size, 10, none⟩ (.bool h.x.b2)).setCell ⟨w.heap.size, 11, none⟩ (.slice ta2 h.x.ts.length tc2)).setCell ⟨w.heap.size, 12, none⟩ (.int .i64 h.x.pins)).cell? ⟨h.b, h.o + 9, none⟩ = some (.bool h.x.b1) ∧ (((((((((((((u4.setCell ⟨w.heap.size, 0, none⟩ (.string h.x.key)).setCell ⟨w.heap.size, 1, none⟩ (.int .i64 h.x.st)).setCell ⟨w.heap.size, 2, none⟩ (.slice va h.x.hs.length vc)).setCell ⟨w.heap.size, 3, none⟩ (.slice b2 h.x.bl.length k2)).setCell ⟨w.heap.size, 4, none⟩ (.int .i64 h.x.t)).setCell ⟨w.heap.size, 5, none⟩ (.int .i64 h.x.g)).setCell ⟨w.heap.size, 6, none⟩ (.int .i64 h.x.l)).setCell ⟨w.heap.size, 7, none⟩ (.int .i64 h.x.s)).setCell ⟨w.heap.size, 8, none⟩ (.int .i64 h.x.e)).setCell ⟨w.heap.size, 9, none⟩ (.bool h.x.b1)).setCell ⟨w.heap.size, 10, none⟩ (.bool h.x.b2)).setCell ⟨w.heap.size, 11, none⟩ (.slice ta2 h.x.ts.length tc2)).setCell ⟨w.heap.size, 12, none⟩ (.int .i64 h.x.pins)).cell? ⟨h.b, h.o + 10, none⟩ = some (.bool h.x.b2) ∧ (((((((((((((u4.setCell ⟨w.heap.size, 0, none⟩ (.string h.x.key)).setCell ⟨w.heap.size, 1, none⟩ (.int .i64 h.x.st)).setCell ⟨w.heap.size, 2, none⟩ (.slice va h.x.hs.length vc)).setCell ⟨w.heap.size, 3, none⟩ (.slice b2 h.x.bl.length k2)).setCell ⟨w.heap.size, 4, none⟩ (.int .i64 h.x.t)).setCell ⟨w.heap.size, 5, none⟩ (.int .i64 h.x.g)).setCell ⟨w.heap.size, 6, none⟩ (.int .i64 h.x.l)).setCell ⟨w.heap.size, 7, none⟩ (.int .i64 h.x.s)).setCell ⟨w.heap.size, 8, none⟩ (.int .i64 h.x.e)).setCell ⟨w.heap.size, 9, none⟩ (.bool h.x.b1)).setCell ⟨w.heap.size, 10, none⟩ (.bool h.x.b2)).setCell ⟨w.heap.size, 11, none⟩ (.slice ta2 h.x.ts.length tc2)).setCell ⟨w.heap.size, 12, none⟩ (.int .i64 h.x.pins)).cell? ⟨h.b, h.o + 11, none⟩ = some (.slice h.r.ta h.x.ts.length h.r.tc) ∧ (((((((((((((u4.setCell ⟨w.heap.size, 0, none⟩ (.string h.x.key)).setCell ⟨w.heap.size, 1, none⟩ (.int .i64 h.x.st)).setCell ⟨w.heap.size, 2, none⟩ (.slice va h.x.hs.length vc)).setCell ⟨w.heap.size, 3, none⟩ (.slice b2 h.x.bl.length k2)).setCell ⟨w.heap.size, 4, none⟩ (.int .i64 h.x.t)).setCell ⟨w.heap.size, 5, none⟩ (.int .i64 h.x.g)).setCell ⟨w.heap.size, 6, none⟩ (.int .i64 h.x.l)).setCell ⟨w.heap.size, 7, none⟩ (.int .i64 h.x.s)).setCell ⟨w.heap.size, 8, none⟩ (.int .i64 h.x.e)).setCell ⟨w.heap.size, 9, none⟩ (.bool h.x.b1)).setCell ⟨w.heap.size, 10, none⟩ (.bool h.x.b2)).setCell ⟨w.heap.size, 11, none⟩ (.slice ta2 h.x.ts.length tc2)).setCell ⟨w.heap.size, 12, none⟩ (.int .i64 h.x.pins)).cell? ⟨h.b, h.o + 12, none⟩ = some (.int .i64 h.x.pins)) := (by have ne : w.heap.size ≠ h.b := by { have := HLT.out; omega }; rw [off13 _ _ _ _ _ _ _ _ _ _ _ _ _ ne, off13 _ _ _ _ _ _ _ _ _ _ _ _ _ ne, off13 _ _ _ _ _ _ _ _ _ _ _ _ _ ne, off13 _ _ _ _ _ _ _ _ _ _ _ _ _ ne, off13 _ _ _ _ _ _ _ _ _ _ _ _ _ ne, off13 _ _ _ _ _ _ _ _ _ _ _ _ _ ne, off13 _ _ _ _ _ _ _ _ _ _ _ _ _ ne, off13 _ _ _ _ _ _ _ _ _ _ _ _ _ ne, off13 _ _ _ _ _ _ _ _ _ _ _ _ _ ne, off13 _ _ _ _ _ _ _ _ _ _ _ _ _ ne, off13 _ _ _ _ _ _ _ _ _ _ _ _ _ ne, off13 _ _ _ _ _ _ _ _ _ _ _ _ _ ne, off13 _ _ _ _ _ _ _ _ _ _ _ _ _ ne]; exact HKS.out _ BD.out); clear zf zl hb hrow))
  have HF : Hid (EntRow (((((((((((((u4.setCell ⟨w.heap.size, 0, none⟩ (.string h.x.key)).setCell ⟨w.heap.size, 1, none⟩ (.int .i64 h.x.st)).setCell ⟨w.heap.size, 2, none⟩ (.slice va h.x.hs.length vc)).setCell ⟨w.heap.size, 3, none⟩ (.slice b2 h.x.bl.length k2)).setCell ⟨w.heap.size, 4, none⟩ (.int .i64 h.x.t)).setCell ⟨w.heap.size, 5, none⟩ (.int .i64 h.x.g)).setCell ⟨w.heap.size, 6, none⟩ (.int .i64 h.x.l)).setCell ⟨w.heap.size, 7, none⟩ (.int .i64 h.x.s)).setCell ⟨w.heap.size, 8, none⟩ (.int .i64 h.x.e)).setCell ⟨w.heap.size, 9, none⟩ (.bool h.x.b1)).setCell ⟨w.heap.size, 10, none⟩ (.bool h.x.b2)).setCell ⟨w.heap.size, 11, none⟩ (.slice ta2 h.x.ts.length tc2)).setCell ⟨w.heap.size, 12, none⟩ (.int .i64 h.x.pins)) w.heap.size h.x ⟨va, vc, b2, k2, ta2, tc2⟩ ∧ Below w.heap.size w (((((((((((((u4.setCell ⟨w.heap.size, 0, none⟩ (.string h.x.key)).setCell ⟨w.heap.size, 1, none⟩ (.int .i64 h.x.st)).setCell ⟨w.heap.size, 2, none⟩ (.slice va h.x.hs.length vc)).setCell ⟨w.heap.size, 3, none⟩ (.slice b2 h.x.bl.length k2)).setCell ⟨w.heap.size, 4, none⟩ (.int .i64 h.x.t)).setCell ⟨w.heap.size, 5, none⟩ (.int .i64 h.x.g)).setCell ⟨w.heap.size, 6, none⟩ (.int .i64 h.x.l)).setCell ⟨w.heap.size, 7, none⟩ (.int .i64 h.x.s)).setCell ⟨w.heap.size, 8, none⟩ (.int .i64 h.x.e)).setCell ⟨w.heap.size, 9, none⟩ (.bool h.x.b1)).setCell ⟨w.heap.size, 10, none⟩ (.bool h.x.b2)).setCell ⟨w.heap.size, 11, none⟩ (.slice ta2 h.x.ts.length tc2)).setCell ⟨w.heap.size, 12, none⟩ (.int .i64 h.x.pins))) := by
    have hs1 := K0.out.2.2
    have rh := HRH.out.1
    have rb := HRB.out.1
    have rt := HRT.out.1
    have s1 := HRH.out.2
    have s3 := HRB.out.2.size
    have s4 := HRT.out.2.size
    have rh4 := row_below (row_below rh HRB.out.2) HRT.out.2
    have rb4 := row_below rb HRT.out.2
    have b4 := HLOW.out _ BD.out
    have nh : ∀ q, Value.ownBlock (.slice va h.x.hs.length vc) = some q → q ≠ w.heap.size := fun q hq => by have := (World.ownsRow.lt rh q hq).1; omega
    have s2 := BB.out.size
    have nb : ∀ q, Value.ownBlock (.slice b2 h.x.bl.length k2) = some q → q ≠ w.heap.size := fun q hq => by have := (World.ownsRow.lt rb q hq).1; omega
    have nt : ∀ q, Value.ownBlock (.slice ta2 h.x.ts.length tc2) = some q → q ≠ w.heap.size := fun q hq => by have := (World.ownsRow.lt rt q hq).1; omega
    refine ⟨⟨row_lower (row_ne (row_ne (row_ne (row_ne (row_ne (row_ne (row_ne (row_ne (row_ne (row_ne (row_ne (row_ne (row_ne rh4 _ nh) _ nh) _ nh) _ nh) _ nh) _ nh) _ nh) _ nh) _ nh) _ nh) _ nh) _ nh) _ nh) (by omega), row_lower (row_ne (row_ne (row_ne (row_ne (row_ne (row_ne (row_ne (row_ne (row_ne (row_ne (row_ne (row_ne (row_ne rb4 _ nb) _ nb) _ nb) _ nb) _ nb) _ nb) _ nb) _ nb) _ nb) _ nb) _ nb) _ nb) _ nb) (by omega), row_lower (row_ne (row_ne (row_ne (row_ne (row_ne (row_ne (row_ne (row_ne (row_ne (row_ne (row_ne (row_ne (row_ne rt _ nt) _ nt) _ nt) _ nt) _ nt) _ nt) _ nt) _ nt) _ nt) _ nt) _ nt) _ nt) _ nt) (by omega), ?_, ?_, ?_⟩, (((((((((((((b4.setCell (Nat.le_refl _) _).setCell (Nat.le_refl _) _).setCell (Nat.le_refl _) _).setCell (Nat.le_refl _) _).setCell (Nat.le_refl _) _).setCell (Nat.le_refl _) _).setCell (Nat.le_refl _) _).setCell (Nat.le_refl _) _).setCell (Nat.le_refl _) _).setCell (Nat.le_refl _) _).setCell (Nat.le_refl _) _).setCell (Nat.le_refl _) _).setCell (Nat.le_refl _) _)⟩
    · exact ne_blk2 (m := u2.heap.size) (fun q hq => (World.ownsRow.lt rh q hq).2) (fun q hq => (World.ownsRow.lt rb q hq).1)
    · exact ne_blk2 (m := u3.heap.size) (fun q hq => by have := (World.ownsRow.lt rh q hq).2; omega) (fun q hq => (World.ownsRow.lt rt q hq).1)
    · exact ne_blk2 (m := u3.heap.size) (fun q hq => (World.ownsRow.lt rb q hq).2) (fun q hq => (World.ownsRow.lt rt q hq).1)
  go_wp2_with fail
  exact bodyPost_ret (v := .agg #[.string h.x.key, .int .i64 h.x.st, .slice va h.x.hs.length vc, .slice b2 h.x.bl.length k2, .int .i64 h.x.t, .int .i64 h.x.g, .int .i64 h.x.l, .int .i64 h.x.s, .int .i64 h.x.e, .bool h.x.b1, .bool h.x.b2, .slice ta2 h.x.ts.length tc2, .int .i64 h.x.pins]) (by simp [results, Tryz.results102, go_sem, z0, z1, z2, z3, z4, z5, z6, z7, z8, z9, z10, z11, z12]) rfl ⟨⟨⟨va, vc, b2, k2, ta2, tc2⟩, rfl, HF.out.1⟩, HF.out.2⟩
end Go.Proofs.YtdooopkpnanekaaGreatDoor
/-
  PeekEntry, by the specification and by the program.
-/
namespace Go.Proofs.YtdooopkpnanekaaGreatDoor
open Go.ChangeShapes Go.WideShapes Go.ChangeAt Go.RowKit Go.Sort
/-- An answer of PeekEntry: code and entry. -/
def PeekOk (c : Int) (x : Ent) (base : Nat) (e : Ending) (w' : World) : Prop := ∃ r, e = .returned (.agg #[.int .i64 c, .string x.key, .int .i64 x.st, .slice r.ha x.hs.length r.hc, .slice r.ba x.bl.length r.bc, .int .i64 x.t, .int .i64 x.g, .int .i64 x.l, .int .i64 x.s, .int .i64 x.e, .bool x.b1, .bool x.b2, .slice r.ta x.ts.length r.tc, .int .i64 x.pins]) ∧ EntRow w' base x r
theorem peekR_bad {bu gu : Int} {tl kl : List Ent} {key : ByteArray} (h : storeC bu gu tl kl ≠ 0) : peekR bu gu tl kl key = (storeC bu gu tl kl, zeroEnt) := by unfold peekR; rw [if_pos h]
theorem peekR_none {bu gu : Int} {tl kl : List Ent} {key : ByteArray} (h : storeC bu gu tl kl = 0) (hf : (tl ++ kl).find? (isKey key) = none) : peekR bu gu tl kl key = (4, zeroEnt) := by unfold peekR; rw [if_neg (by simpa using h), hf]
theorem peekR_some {bu gu : Int} {tl kl : List Ent} {key : ByteArray} {x : Ent} (h : storeC bu gu tl kl = 0) (hf : (tl ++ kl).find? (isKey key) = some x) : peekR bu gu tl kl key = (0, x) := by unfold peekR; rw [if_neg (by simpa using h), hf]
set_option maxRecDepth 100000 in
set_option maxHeartbeats 16000000 in
theorem implPeek_any (w : World) (bu gu : Int) (ta ka : Option Addr) (tc kc : Nat) (tl kl : List (Ent × EntR)) (key : ByteArray) (hset : SetIs w) (hl : tl.length ≤ 1048576) (hk : kl.length ≤ 1048576) (hto : ∀ q ∈ tl ++ kl, EntOk q.1)  (hts : ∀ q ∈ tl ++ kl, ∀ t ∈ q.1.ts, t.size ≤ 1048576) (ht : EntsIn w ta tl) (hq : EntsIn w ka kl) :
    Calls Tryz.prog 33 #[.agg #[.int .i64 bu, .int .i64 gu, .slice ta tl.length tc, .slice ka kl.length kc], .string key] w fun e w' => PeekOk (peekR bu gu (tl.map Prod.fst) (kl.map Prod.fst) key).1 (peekR bu gu (tl.map Prod.fst) (kl.map Prod.fst) key).2 w.heap.size e w' ∧ Below w.heap.size w w' := by
  have HF : Hid (∀ X, Below w.heap.size w X → Calls Tryz.prog 55 #[.agg #[.int .i64 bu, .int .i64 gu, .slice ta tl.length tc, .slice ka kl.length kc], .string key] X fun r w' => r = .returned (.int .i64 (keyC bu gu (tl.map Prod.fst) (kl.map Prod.fst) key)) ∧ Below X.heap.size X w') := fun X hb => keyFault_any X bu gu ta ka tc kc tl kl key (hset.below hb) hl hk hto (ht.keep hb) (hq.keep hb)
  have HC : Hid (storeC bu gu (tl.map Prod.fst) (kl.map Prod.fst) = 0 → ∀ X, Below w.heap.size w X → Calls Tryz.prog 56 #[.agg #[.int .i64 bu, .int .i64 gu, .slice ta tl.length tc, .slice ka kl.length kc]] X fun e w' => (∃ v1 v2, e = .returned (.agg #[v1, v2]) ∧ Calls Tryz.prog 103 #[.agg #[v1, v2], .string key] w' fun e w'' => (∃ v, e = .returned v ∧ FindH (hdl2 ta ka tl kl) key v) ∧ Below w'.heap.size w' w'') ∧ Below X.heap.size X w') := fun h0 X hX => shFind_any X bu gu ta ka tc kc tl kl key h0 (ht.keep hX) (hq.keep hX)
  have HA : Hid (storeC bu gu (tl.map Prod.fst) (kl.map Prod.fst) = 0 → ∀ x, (tl.map Prod.fst ++ kl.map Prod.fst).find? (isKey key) = some x → ∀ v, FindH (hdl2 ta ka tl kl) key v → ∃ p, v = .pointer (some p) ∧ ∀ X, Below w.heap.size w X → Calls Tryz.prog 102 #[.pointer (some p)] X fun e w' => (∃ r, e = .returned (entV x r) ∧ EntRow w' X.heap.size x r) ∧ Below X.heap.size X w') := fun h0 x hx v hv => by
    obtain ⟨_, _, z3, _, _, _⟩ := storeC_zero h0
    rcases hv with ⟨h, hm, e, rfl⟩ | ⟨e, rfl⟩
    · rw [hdl2_x] at e
      rw [hx] at e
      obtain rfl := Option.some.inj e
      refine ⟨_, rfl, fun X hX => ?_⟩
      have hmem : h.x ∈ tl.map Prod.fst ++ kl.map Prod.fst := by rw [← hdl2_x ta ka tl kl]; exact List.mem_map_of_mem hm
      refine anew_at X h (faultE_zero z3 h.x hmem) ?_ (hdl2_there (ht.keep hX) (hq.keep hX) h hm)
      rw [← List.map_append] at hmem
      obtain ⟨q, hq', e2⟩ := List.mem_map.1 hmem
      rw [← e2]
      exact hts q hq'
    · rw [hdl2_x] at e
      rw [hx] at e
      cases e
  obtain ⟨W, hW⟩ : ∃ W, W = (w.alloc (.cells #[.int .i64 bu, .int .i64 gu, .slice ta tl.length tc, .slice ka kl.length kc] 28)).alloc (.cells #[.int .i64 0, .string ⟨#[]⟩, .int .i64 0, .slice none 0 0, .slice none 0 0, .int .i64 0, .int .i64 0, .int .i64 0, .int .i64 0, .int .i64 0, .bool false, .bool false, .slice none 0 0, .int .i64 0] 66) := ⟨_, rfl⟩
  have HW : Hid (W = (w.alloc (.cells #[.int .i64 bu, .int .i64 gu, .slice ta tl.length tc, .slice ka kl.length kc] 28)).alloc (.cells #[.int .i64 0, .string ⟨#[]⟩, .int .i64 0, .slice none 0 0, .slice none 0 0, .int .i64 0, .int .i64 0, .int .i64 0, .int .i64 0, .int .i64 0, .bool false, .bool false, .slice none 0 0, .int .i64 0] 66)) := hW
  have K0 : Hid (Below w.heap.size w W ∧ S4 W w.heap.size (.int .i64 bu) (.int .i64 gu) (.slice ta tl.length tc) (.slice ka kl.length kc) ∧ E14 W (w.heap.size + 1) (.int .i64 0) (.string ⟨#[]⟩) (.int .i64 0) (.slice none 0 0) (.slice none 0 0) (.int .i64 0) (.int .i64 0) (.int .i64 0) (.int .i64 0) (.int .i64 0) (.bool false) (.bool false) (.slice none 0 0) (.int .i64 0) ∧ w.heap.size + 2 ≤ W.heap.size) := by
    rw [hW]
    refine ⟨((Below.refl _ _).alloc (Nat.le_refl _) _).alloc (by simp) _, (S4.new w _ _ _ _ _).keep ((Below.refl _ _).alloc (Nat.le_refl _) _), ?_, by simp⟩
    have := E14.new (w.alloc (.cells #[.int .i64 bu, .int .i64 gu, .slice ta tl.length tc, .slice ka kl.length kc] 28)) (.int .i64 0) (.string ⟨#[]⟩) (.int .i64 0) (.slice none 0 0) (.slice none 0 0) (.int .i64 0) (.int .i64 0) (.int .i64 0) (.int .i64 0) (.int .i64 0) (.bool false) (.bool false) (.slice none 0 0) (.int .i64 0) 66
    simpa using this
  have PB : Hid (storeC bu gu (tl.map Prod.fst) (kl.map Prod.fst) ≠ 0 → peekR bu gu (tl.map Prod.fst) (kl.map Prod.fst) key = (storeC bu gu (tl.map Prod.fst) (kl.map Prod.fst), zeroEnt)) := peekR_bad
  have PN : Hid (storeC bu gu (tl.map Prod.fst) (kl.map Prod.fst) = 0 → (tl.map Prod.fst ++ kl.map Prod.fst).find? (isKey key) = none → peekR bu gu (tl.map Prod.fst) (kl.map Prod.fst) key = (4, zeroEnt)) := peekR_none
  have PS : Hid (∀ x, storeC bu gu (tl.map Prod.fst) (kl.map Prod.fst) = 0 → (tl.map Prod.fst ++ kl.map Prod.fst).find? (isKey key) = some x → peekR bu gu (tl.map Prod.fst) (kl.map Prod.fst) key = (0, x)) := fun x => peekR_some
  have KC : Hid (keyC bu gu (tl.map Prod.fst) (kl.map Prod.fst) key = if storeC bu gu (tl.map Prod.fst) (kl.map Prod.fst) ≠ 0 then storeC bu gu (tl.map Prod.fst) (kl.map Prod.fst) else if (tl.map Prod.fst ++ kl.map Prod.fst).find? (isKey key) = none then 4 else 0) := rfl
  clear hW hto ht hq hl hk hset hts
  generalize peekR bu gu (tl.map Prod.fst) (kl.map Prod.fst) key = pr at *
  obtain ⟨c, hc⟩ : ∃ c, storeC bu gu (tl.map Prod.fst) (kl.map Prod.fst) = c := ⟨_, rfl⟩
  obtain ⟨kcd, hkcd⟩ : ∃ x, keyC bu gu (tl.map Prod.fst) (kl.map Prod.fst) key = x := ⟨_, rfl⟩
  rw [hkcd] at HF KC
  clear hkcd
  rw [hc] at HC HA PB PN PS KC
  clear hc
  generalize hfo : (tl.map Prod.fst ++ kl.map Prod.fst).find? (isKey key) = fo at *
  clear hfo
  generalize tl.length = tn at *
  generalize kl.length = kn at *
  by_cases c0 : c = 0
  rotate_left
  · have ek : kcd = c := by have := KC.out; rw [if_pos c0] at this; exact this
    rw [PB.out c0]
    subst ek
    clear HC PB PN PS HA KC
    go_enter Tryz.func33, Tryz.ntmps33
    go_wp2_with fail
    rw [← HW.out]
    refine (HF.out _ K0.out.1).mono ?_
    rintro r w1 ⟨rfl, hb1⟩
    have K1 : Hid (Below w.heap.size w w1 ∧ S4 w1 w.heap.size (.int .i64 bu) (.int .i64 gu) (.slice ta tn tc) (.slice ka kn kc) ∧ E14 w1 (w.heap.size + 1) (.int .i64 0) (.string ⟨#[]⟩) (.int .i64 0) (.slice none 0 0) (.slice none 0 0) (.int .i64 0) (.int .i64 0) (.int .i64 0) (.int .i64 0) (.int .i64 0) (.bool false) (.bool false) (.slice none 0 0) (.int .i64 0) ∧ w.heap.size + 2 ≤ w1.heap.size) := ⟨K0.out.1.trans (hb1.mono K0.out.1.size), K0.out.2.1.keep hb1, K0.out.2.2.1.keep hb1, Nat.le_trans K0.out.2.2.2 hb1.size⟩
    clear hb1 K0 HW HF
    have z0 := K1.out.2.2.1.c0
    have zf0 := K1.out.2.2.1.fr 0
    have z1 := K1.out.2.2.1.c1
    have zf1 := K1.out.2.2.1.fr 1
    have z2 := K1.out.2.2.1.c2
    have zf2 := K1.out.2.2.1.fr 2
    have z3 := K1.out.2.2.1.c3
    have zf3 := K1.out.2.2.1.fr 3
    have z4 := K1.out.2.2.1.c4
    have zf4 := K1.out.2.2.1.fr 4
    have z5 := K1.out.2.2.1.c5
    have zf5 := K1.out.2.2.1.fr 5
    have z6 := K1.out.2.2.1.c6
    have zf6 := K1.out.2.2.1.fr 6
    have z7 := K1.out.2.2.1.c7
    have zf7 := K1.out.2.2.1.fr 7
    have z8 := K1.out.2.2.1.c8
    have zf8 := K1.out.2.2.1.fr 8
    have z9 := K1.out.2.2.1.c9
    have zf9 := K1.out.2.2.1.fr 9
    have z10 := K1.out.2.2.1.c10
    have zf10 := K1.out.2.2.1.fr 10
    have z11 := K1.out.2.2.1.c11
    have zf11 := K1.out.2.2.1.fr 11
    have z12 := K1.out.2.2.1.c12
    have zf12 := K1.out.2.2.1.fr 12
    have z13 := K1.out.2.2.1.c13
    have zf13 := K1.out.2.2.1.fr 13
    have FIN : Hid (∀ u0 u1 u2 u3 u4 u5 u6 u7 u8 u9 u10 u11 u12 u13, EntRow ((((((((((((((w1.setCell ⟨w.heap.size + 1, 0, none⟩ u0).setCell ⟨w.heap.size + 1, 1, none⟩ u1).setCell ⟨w.heap.size + 1, 2, none⟩ u2).setCell ⟨w.heap.size + 1, 3, none⟩ u3).setCell ⟨w.heap.size + 1, 4, none⟩ u4).setCell ⟨w.heap.size + 1, 5, none⟩ u5).setCell ⟨w.heap.size + 1, 6, none⟩ u6).setCell ⟨w.heap.size + 1, 7, none⟩ u7).setCell ⟨w.heap.size + 1, 8, none⟩ u8).setCell ⟨w.heap.size + 1, 9, none⟩ u9).setCell ⟨w.heap.size + 1, 10, none⟩ u10).setCell ⟨w.heap.size + 1, 11, none⟩ u11).setCell ⟨w.heap.size + 1, 12, none⟩ u12).setCell ⟨w.heap.size + 1, 13, none⟩ u13) w.heap.size zeroEnt zeroR ∧ Below w.heap.size w ((((((((((((((w1.setCell ⟨w.heap.size + 1, 0, none⟩ u0).setCell ⟨w.heap.size + 1, 1, none⟩ u1).setCell ⟨w.heap.size + 1, 2, none⟩ u2).setCell ⟨w.heap.size + 1, 3, none⟩ u3).setCell ⟨w.heap.size + 1, 4, none⟩ u4).setCell ⟨w.heap.size + 1, 5, none⟩ u5).setCell ⟨w.heap.size + 1, 6, none⟩ u6).setCell ⟨w.heap.size + 1, 7, none⟩ u7).setCell ⟨w.heap.size + 1, 8, none⟩ u8).setCell ⟨w.heap.size + 1, 9, none⟩ u9).setCell ⟨w.heap.size + 1, 10, none⟩ u10).setCell ⟨w.heap.size + 1, 11, none⟩ u11).setCell ⟨w.heap.size + 1, 12, none⟩ u12).setCell ⟨w.heap.size + 1, 13, none⟩ u13)) := fun u0 u1 u2 u3 u4 u5 u6 u7 u8 u9 u10 u11 u12 u13 => ⟨zeroRow _ _, ((((((((((((((K1.out.1.setCell (by simp) u0).setCell (by simp) u1).setCell (by simp) u2).setCell (by simp) u3).setCell (by simp) u4).setCell (by simp) u5).setCell (by simp) u6).setCell (by simp) u7).setCell (by simp) u8).setCell (by simp) u9).setCell (by simp) u10).setCell (by simp) u11).setCell (by simp) u12).setCell (by simp) u13)⟩
    go_wp2_with fail
    exact bodyPost_ret (v := .agg #[.int .i64 kcd, .string ⟨#[]⟩, .int .i64 0, .slice none 0 0, .slice none 0 0, .int .i64 0, .int .i64 0, .int .i64 0, .int .i64 0, .int .i64 0, .bool false, .bool false, .slice none 0 0, .int .i64 0]) (by simp [results, Tryz.results33, go_sem, z0, z1, z2, z3, z4, z5, z6, z7, z8, z9, z10, z11, z12, z13]) rfl ⟨⟨zeroR, rfl, (FIN.out _ _ _ _ _ _ _ _ _ _ _ _ _ _).1⟩, (FIN.out _ _ _ _ _ _ _ _ _ _ _ _ _ _).2⟩
  subst c0
  cases fo with
  | none =>
    have ek : kcd = 4 := by have := KC.out; simpa using this
    rw [PN.out rfl rfl]
    subst ek
    clear HC PB PN PS HA KC
    go_enter Tryz.func33, Tryz.ntmps33
    go_wp2_with fail
    rw [← HW.out]
    refine (HF.out _ K0.out.1).mono ?_
    rintro r w1 ⟨rfl, hb1⟩
    have K1 : Hid (Below w.heap.size w w1 ∧ S4 w1 w.heap.size (.int .i64 bu) (.int .i64 gu) (.slice ta tn tc) (.slice ka kn kc) ∧ E14 w1 (w.heap.size + 1) (.int .i64 0) (.string ⟨#[]⟩) (.int .i64 0) (.slice none 0 0) (.slice none 0 0) (.int .i64 0) (.int .i64 0) (.int .i64 0) (.int .i64 0) (.int .i64 0) (.bool false) (.bool false) (.slice none 0 0) (.int .i64 0) ∧ w.heap.size + 2 ≤ w1.heap.size) := ⟨K0.out.1.trans (hb1.mono K0.out.1.size), K0.out.2.1.keep hb1, K0.out.2.2.1.keep hb1, Nat.le_trans K0.out.2.2.2 hb1.size⟩
    clear hb1 K0 HW HF
    have z0 := K1.out.2.2.1.c0
    have zf0 := K1.out.2.2.1.fr 0
    have z1 := K1.out.2.2.1.c1
    have zf1 := K1.out.2.2.1.fr 1
    have z2 := K1.out.2.2.1.c2
    have zf2 := K1.out.2.2.1.fr 2
    have z3 := K1.out.2.2.1.c3
    have zf3 := K1.out.2.2.1.fr 3
    have z4 := K1.out.2.2.1.c4
    have zf4 := K1.out.2.2.1.fr 4
    have z5 := K1.out.2.2.1.c5
    have zf5 := K1.out.2.2.1.fr 5
    have z6 := K1.out.2.2.1.c6
    have zf6 := K1.out.2.2.1.fr 6
    have z7 := K1.out.2.2.1.c7
    have zf7 := K1.out.2.2.1.fr 7
    have z8 := K1.out.2.2.1.c8
    have zf8 := K1.out.2.2.1.fr 8
    have z9 := K1.out.2.2.1.c9
    have zf9 := K1.out.2.2.1.fr 9
    have z10 := K1.out.2.2.1.c10
    have zf10 := K1.out.2.2.1.fr 10
    have z11 := K1.out.2.2.1.c11
    have zf11 := K1.out.2.2.1.fr 11
    have z12 := K1.out.2.2.1.c12
    have zf12 := K1.out.2.2.1.fr 12
    have z13 := K1.out.2.2.1.c13
    have zf13 := K1.out.2.2.1.fr 13
    have FIN : Hid (∀ u0 u1 u2 u3 u4 u5 u6 u7 u8 u9 u10 u11 u12 u13, EntRow ((((((((((((((w1.setCell ⟨w.heap.size + 1, 0, none⟩ u0).setCell ⟨w.heap.size + 1, 1, none⟩ u1).setCell ⟨w.heap.size + 1, 2, none⟩ u2).setCell ⟨w.heap.size + 1, 3, none⟩ u3).setCell ⟨w.heap.size + 1, 4, none⟩ u4).setCell ⟨w.heap.size + 1, 5, none⟩ u5).setCell ⟨w.heap.size + 1, 6, none⟩ u6).setCell ⟨w.heap.size + 1, 7, none⟩ u7).setCell ⟨w.heap.size + 1, 8, none⟩ u8).setCell ⟨w.heap.size + 1, 9, none⟩ u9).setCell ⟨w.heap.size + 1, 10, none⟩ u10).setCell ⟨w.heap.size + 1, 11, none⟩ u11).setCell ⟨w.heap.size + 1, 12, none⟩ u12).setCell ⟨w.heap.size + 1, 13, none⟩ u13) w.heap.size zeroEnt zeroR ∧ Below w.heap.size w ((((((((((((((w1.setCell ⟨w.heap.size + 1, 0, none⟩ u0).setCell ⟨w.heap.size + 1, 1, none⟩ u1).setCell ⟨w.heap.size + 1, 2, none⟩ u2).setCell ⟨w.heap.size + 1, 3, none⟩ u3).setCell ⟨w.heap.size + 1, 4, none⟩ u4).setCell ⟨w.heap.size + 1, 5, none⟩ u5).setCell ⟨w.heap.size + 1, 6, none⟩ u6).setCell ⟨w.heap.size + 1, 7, none⟩ u7).setCell ⟨w.heap.size + 1, 8, none⟩ u8).setCell ⟨w.heap.size + 1, 9, none⟩ u9).setCell ⟨w.heap.size + 1, 10, none⟩ u10).setCell ⟨w.heap.size + 1, 11, none⟩ u11).setCell ⟨w.heap.size + 1, 12, none⟩ u12).setCell ⟨w.heap.size + 1, 13, none⟩ u13)) := fun u0 u1 u2 u3 u4 u5 u6 u7 u8 u9 u10 u11 u12 u13 => ⟨zeroRow _ _, ((((((((((((((K1.out.1.setCell (by simp) u0).setCell (by simp) u1).setCell (by simp) u2).setCell (by simp) u3).setCell (by simp) u4).setCell (by simp) u5).setCell (by simp) u6).setCell (by simp) u7).setCell (by simp) u8).setCell (by simp) u9).setCell (by simp) u10).setCell (by simp) u11).setCell (by simp) u12).setCell (by simp) u13)⟩
    go_wp2_with fail
    exact bodyPost_ret (v := .agg #[.int .i64 4, .string ⟨#[]⟩, .int .i64 0, .slice none 0 0, .slice none 0 0, .int .i64 0, .int .i64 0, .int .i64 0, .int .i64 0, .int .i64 0, .bool false, .bool false, .slice none 0 0, .int .i64 0]) (by simp [results, Tryz.results33, go_sem, z0, z1, z2, z3, z4, z5, z6, z7, z8, z9, z10, z11, z12, z13]) rfl ⟨⟨zeroR, rfl, (FIN.out _ _ _ _ _ _ _ _ _ _ _ _ _ _).1⟩, (FIN.out _ _ _ _ _ _ _ _ _ _ _ _ _ _).2⟩
  | some x =>
    have ek : kcd = 0 := by have := KC.out; simpa using this
    rw [PS.out x rfl rfl]
    subst ek
    have HC1 := HC.out rfl
    have HA1 : Hid (∀ v, FindH (hdl2 ta ka tl kl) key v → ∃ p, v = .pointer (some p) ∧ ∀ X, Below w.heap.size w X → Calls Tryz.prog 102 #[.pointer (some p)] X fun e w' => (∃ r, e = .returned (entV x r) ∧ EntRow w' X.heap.size x r) ∧ Below X.heap.size X w') := HA.out rfl x rfl
    clear HC PB PN PS HA KC
    go_enter Tryz.func33, Tryz.ntmps33
    go_wp2_with fail
    rw [← HW.out]
    refine (HF.out _ K0.out.1).mono ?_
    rintro r w1 ⟨rfl, hb1⟩
    have K1 : Hid (Below w.heap.size w w1 ∧ S4 w1 w.heap.size (.int .i64 bu) (.int .i64 gu) (.slice ta tn tc) (.slice ka kn kc) ∧ E14 w1 (w.heap.size + 1) (.int .i64 0) (.string ⟨#[]⟩) (.int .i64 0) (.slice none 0 0) (.slice none 0 0) (.int .i64 0) (.int .i64 0) (.int .i64 0) (.int .i64 0) (.int .i64 0) (.bool false) (.bool false) (.slice none 0 0) (.int .i64 0) ∧ w.heap.size + 2 ≤ w1.heap.size) := ⟨K0.out.1.trans (hb1.mono K0.out.1.size), K0.out.2.1.keep hb1, K0.out.2.2.1.keep hb1, Nat.le_trans K0.out.2.2.2 hb1.size⟩
    clear hb1 K0 HW HF
    have q0 := K1.out.2.1.c0
    have q1 := K1.out.2.1.c1
    have q2 := K1.out.2.1.c2
    have q3 := K1.out.2.1.c3
    go_wp2_with fail
    refine (HC1 _ K1.out.1).mono ?_
    rintro r w2 ⟨⟨v1, v2, rfl, C2⟩, hb2⟩
    have K2 : Hid (Below w.heap.size w w2 ∧ E14 w2 (w.heap.size + 1) (.int .i64 0) (.string ⟨#[]⟩) (.int .i64 0) (.slice none 0 0) (.slice none 0 0) (.int .i64 0) (.int .i64 0) (.int .i64 0) (.int .i64 0) (.int .i64 0) (.bool false) (.bool false) (.slice none 0 0) (.int .i64 0) ∧ w.heap.size + 2 ≤ w2.heap.size) := ⟨K1.out.1.trans (hb2.mono K1.out.1.size), K1.out.2.2.1.keep hb2, Nat.le_trans K1.out.2.2.2 hb2.size⟩
    clear hb2 K1 q0 q1 q2 q3 HC1
    go_wp2_with fail
    refine C2.mono ?_
    rintro r w3 ⟨⟨v, rfl, hv⟩, hb3⟩
    have K3 : Hid (Below w.heap.size w w3 ∧ E14 w3 (w.heap.size + 1) (.int .i64 0) (.string ⟨#[]⟩) (.int .i64 0) (.slice none 0 0) (.slice none 0 0) (.int .i64 0) (.int .i64 0) (.int .i64 0) (.int .i64 0) (.int .i64 0) (.bool false) (.bool false) (.slice none 0 0) (.int .i64 0) ∧ w.heap.size + 2 ≤ w3.heap.size) := ⟨K2.out.1.trans (hb3.mono K2.out.1.size), K2.out.2.1.keep hb3, Nat.le_trans K2.out.2.2 hb3.size⟩
    obtain ⟨p, rfl, C3⟩ := HA1.out v hv
    have C4 := C3 w3 K3.out.1
    clear hb3 K2 C2 hv HA1 C3
    go_wp2_with fail
    refine C4.mono ?_
    rintro e w4 ⟨⟨r, rfl, hrow⟩, hb4⟩
    have K4 : Hid (Below w.heap.size w w4 ∧ E14 w4 (w.heap.size + 1) (.int .i64 0) (.string ⟨#[]⟩) (.int .i64 0) (.slice none 0 0) (.slice none 0 0) (.int .i64 0) (.int .i64 0) (.int .i64 0) (.int .i64 0) (.int .i64 0) (.bool false) (.bool false) (.slice none 0 0) (.int .i64 0) ∧ w.heap.size + 2 ≤ w3.heap.size) := ⟨K3.out.1.trans (hb4.mono K3.out.1.size), K3.out.2.1.keep hb4, K3.out.2.2⟩
    have HRW : Hid (EntRow w4 w3.heap.size x r) := hrow
    clear hb4 K3 C4 hrow
    unfold entV entW
    have z0 := K4.out.2.1.c0
    have zf0 := K4.out.2.1.fr 0
    have z1 := K4.out.2.1.c1
    have zf1 := K4.out.2.1.fr 1
    have z2 := K4.out.2.1.c2
    have zf2 := K4.out.2.1.fr 2
    have z3 := K4.out.2.1.c3
    have zf3 := K4.out.2.1.fr 3
    have z4 := K4.out.2.1.c4
    have zf4 := K4.out.2.1.fr 4
    have z5 := K4.out.2.1.c5
    have zf5 := K4.out.2.1.fr 5
    have z6 := K4.out.2.1.c6
    have zf6 := K4.out.2.1.fr 6
    have z7 := K4.out.2.1.c7
    have zf7 := K4.out.2.1.fr 7
    have z8 := K4.out.2.1.c8
    have zf8 := K4.out.2.1.fr 8
    have z9 := K4.out.2.1.c9
    have zf9 := K4.out.2.1.fr 9
    have z10 := K4.out.2.1.c10
    have zf10 := K4.out.2.1.fr 10
    have z11 := K4.out.2.1.c11
    have zf11 := K4.out.2.1.fr 11
    have z12 := K4.out.2.1.c12
    have zf12 := K4.out.2.1.fr 12
    have z13 := K4.out.2.1.c13
    have zf13 := K4.out.2.1.fr 13
    have hle := K4.out.2.2
    have FIN : Hid (∀ u0 u1 u2 u3 u4 u5 u6 u7 u8 u9 u10 u11 u12 u13, EntRow ((((((((((((((w4.setCell ⟨w.heap.size + 1, 0, none⟩ u0).setCell ⟨w.heap.size + 1, 1, none⟩ u1).setCell ⟨w.heap.size + 1, 2, none⟩ u2).setCell ⟨w.heap.size + 1, 3, none⟩ u3).setCell ⟨w.heap.size + 1, 4, none⟩ u4).setCell ⟨w.heap.size + 1, 5, none⟩ u5).setCell ⟨w.heap.size + 1, 6, none⟩ u6).setCell ⟨w.heap.size + 1, 7, none⟩ u7).setCell ⟨w.heap.size + 1, 8, none⟩ u8).setCell ⟨w.heap.size + 1, 9, none⟩ u9).setCell ⟨w.heap.size + 1, 10, none⟩ u10).setCell ⟨w.heap.size + 1, 11, none⟩ u11).setCell ⟨w.heap.size + 1, 12, none⟩ u12).setCell ⟨w.heap.size + 1, 13, none⟩ u13) w.heap.size x r ∧ Below w.heap.size w ((((((((((((((w4.setCell ⟨w.heap.size + 1, 0, none⟩ u0).setCell ⟨w.heap.size + 1, 1, none⟩ u1).setCell ⟨w.heap.size + 1, 2, none⟩ u2).setCell ⟨w.heap.size + 1, 3, none⟩ u3).setCell ⟨w.heap.size + 1, 4, none⟩ u4).setCell ⟨w.heap.size + 1, 5, none⟩ u5).setCell ⟨w.heap.size + 1, 6, none⟩ u6).setCell ⟨w.heap.size + 1, 7, none⟩ u7).setCell ⟨w.heap.size + 1, 8, none⟩ u8).setCell ⟨w.heap.size + 1, 9, none⟩ u9).setCell ⟨w.heap.size + 1, 10, none⟩ u10).setCell ⟨w.heap.size + 1, 11, none⟩ u11).setCell ⟨w.heap.size + 1, 12, none⟩ u12).setCell ⟨w.heap.size + 1, 13, none⟩ u13)) := fun u0 u1 u2 u3 u4 u5 u6 u7 u8 u9 u10 u11 u12 u13 => ⟨((((((((((((((HRW.out.off1 u0 (by omega)).off1 u1 (by omega)).off1 u2 (by omega)).off1 u3 (by omega)).off1 u4 (by omega)).off1 u5 (by omega)).off1 u6 (by omega)).off1 u7 (by omega)).off1 u8 (by omega)).off1 u9 (by omega)).off1 u10 (by omega)).off1 u11 (by omega)).off1 u12 (by omega)).off1 u13 (by omega)).lower (by omega), ((((((((((((((K4.out.1.setCell (by simp) u0).setCell (by simp) u1).setCell (by simp) u2).setCell (by simp) u3).setCell (by simp) u4).setCell (by simp) u5).setCell (by simp) u6).setCell (by simp) u7).setCell (by simp) u8).setCell (by simp) u9).setCell (by simp) u10).setCell (by simp) u11).setCell (by simp) u12).setCell (by simp) u13)⟩
    clear HRW hle
    go_wp2_with fail
    exact bodyPost_ret (v := .agg #[.int .i64 0, .string x.key, .int .i64 x.st, .slice r.ha x.hs.length r.hc, .slice r.ba x.bl.length r.bc, .int .i64 x.t, .int .i64 x.g, .int .i64 x.l, .int .i64 x.s, .int .i64 x.e, .bool x.b1, .bool x.b2, .slice r.ta x.ts.length r.tc, .int .i64 x.pins]) (by simp [results, Tryz.results33, go_sem, z0, z1, z2, z3, z4, z5, z6, z7, z8, z9, z10, z11, z12, z13]) rfl ⟨⟨r, rfl, (FIN.out _ _ _ _ _ _ _ _ _ _ _ _ _ _).1⟩, (FIN.out _ _ _ _ _ _ _ _ _ _ _ _ _ _).2⟩
end Go.Proofs.YtdooopkpnanekaaGreatDoor
/-
  The law of StoreFault.
-/
namespace Go.Proofs.YtdooopkpnanekaaGreatDoor
open Go.ChangeShapes Go.WideShapes Go.ChangeAt Go.RowKit Go.Sort
theorem ok_of {w : World} {ta ka : Option Addr} {tl kl : List (Ent × EntR)} (h : StoArg w ta ka tl kl) (hf : StoFit tl kl) : ∀ x ∈ (tl ++ kl).map Prod.fst, EntOk x := by
  intro x hx
  obtain ⟨q, hq, rfl⟩ := List.mem_map.1 hx
  rcases List.mem_append.1 hq with hq | hq
  · have s := h.ts q hq
    exact ⟨s.key, (hf.tf q hq).h, s.bl, s.tl⟩
  · have s := h.ks q hq
    exact ⟨s.key, (hf.kf q hq).h, s.bl, s.tl⟩
theorem ok_map {tl kl a b : List (Ent × EntR)} (e1 : a.map Prod.fst = tl.map Prod.fst) (e2 : b.map Prod.fst = kl.map Prod.fst) (h : ∀ x ∈ (tl ++ kl).map Prod.fst, EntOk x) : ∀ q ∈ a ++ b, EntOk q.1 := fun q hq => h q.1 (by rw [List.map_append, ← e1, ← e2, ← List.map_append]; exact List.mem_map_of_mem hq)
theorem specSto_new (w : World) (bu gu : Int) (tl kl : List (Ent × EntR)) (G1 G2 : Nat) (hok : ∀ x ∈ (tl ++ kl).map Prod.fst, EntOk x) (hf : StoFit tl kl) (h : StoNew w G1 G2 tl kl) :
    Calls Tryz.prog 30 #[.agg #[.int .i64 bu, .int .i64 gu, .slice (some ⟨G1, 0, none⟩) tl.length tl.length, .slice (some ⟨G2, 0, none⟩) kl.length kl.length]] w fun r w' => r = .returned (.int .i64 (storeC bu gu (tl.map Prod.fst) (kl.map Prod.fst))) ∧ Below w.heap.size w w' := by
  obtain ⟨a, b, e1, e2, m⟩ := h
  have l1 := len_map e1
  have l2 := len_map e2
  rw [← l1, ← l2, ← e1, ← e2]
  exact specSto_any w bu gu _ _ _ _ a b (by rw [l1]; exact hf.tn) (by rw [l2]; exact hf.kn) (ok_map e1 e2 hok) m.t.in m.k.in
theorem implSto_new (w : World) (bu gu : Int) (tl kl : List (Ent × EntR)) (G1 G2 : Nat) (hset : SetIs w) (hok : ∀ x ∈ (tl ++ kl).map Prod.fst, EntOk x) (hf : StoFit tl kl) (h : StoNew w G1 G2 tl kl) :
    Calls Tryz.prog 29 #[.agg #[.int .i64 bu, .int .i64 gu, .slice (some ⟨G1, 0, none⟩) tl.length tl.length, .slice (some ⟨G2, 0, none⟩) kl.length kl.length]] w fun r w' => r = .returned (.int .i64 (storeC bu gu (tl.map Prod.fst) (kl.map Prod.fst))) ∧ Below w.heap.size w w' := by
  obtain ⟨a, b, e1, e2, m⟩ := h
  have l1 := len_map e1
  have l2 := len_map e2
  rw [← l1, ← l2, ← e1, ← e2]
  exact implSto_any w bu gu _ _ _ _ a b hset (by rw [l1]; exact hf.tn) (by rw [l2]; exact hf.kn) (ok_map e1 e2 hok) m.t.in m.k.in
end Go.Proofs.YtdooopkpnanekaaGreatDoor
/-
  PeekEntry of a store that a law handed over.
-/
namespace Go.Proofs.YtdooopkpnanekaaGreatDoor
open Go.ChangeShapes Go.WideShapes Go.ChangeAt Go.RowKit Go.Sort
theorem szE_tags {left : Int} {key : ByteArray} {hs : List Hdr} {bs : List UInt8} {ts : List ByteArray} (hl : left ≤ 1048576) (h : ¬ szE left key hs bs ts < 0) : ∀ t ∈ ts, t.size ≤ 1048576 := by
  unfold szE at h
  split at h
  · exact absurd (by decide) h
  split at h
  · exact absurd (by decide) h
  split at h
  · exact absurd (by decide) h
  split at h
  · exact absurd (by decide) h
  rename_i c1 c2 c3 c4
  have r2 := szHL_le c2
  exact (szTL_room (l := ts) (left := szHL (left - (key.size : Int)) hs - (bs.length : Int)) (by omega) c4).2
theorem szEs_tags : ∀ (l : List (Ent × EntR)) (c : Int), c ≤ 1048576 → ¬ szEs c l < 0 → ∀ q ∈ l, ∀ t ∈ q.1.ts, t.size ≤ 1048576
  | [], _, _, _ => by simp
  | q :: l, c, hc, h => by
    unfold szEs at h
    by_cases d : szE c q.1.key q.1.hs q.1.bl q.1.ts < 0
    · rw [if_pos d] at h; exact absurd (by decide) h
    · rw [if_neg d] at h
      intro p hp
      rcases List.mem_cons.1 hp with rfl | hp
      · exact szE_tags hc d
      · exact szEs_tags l _ (by have := (szE_room hc d).2.2.2.2; omega) h p hp
theorem szEL_tags {l : List (Ent × EntR)} {left : Int} (hc : left ≤ 1048576) (h : ¬ szEL left l < 0) : ∀ q ∈ l, ∀ t ∈ q.1.ts, t.size ≤ 1048576 := by
  unfold szEL at h
  by_cases d : left - (l.length : Int) < 0
  · rw [if_pos d] at h; omega
  · rw [if_neg d] at h
    exact szEs_tags l _ (by omega) h
theorem szSt_tags {left : Int} {tl kl : List (Ent × EntR)} (hl : left ≤ 1048576) (h : ¬ szSt left tl kl < 0) : ∀ x ∈ (tl ++ kl).map Prod.fst, ∀ t ∈ x.ts, t.size ≤ 1048576 := by
  unfold szSt at h
  by_cases c1 : szEL left tl < 0
  · rw [if_pos c1] at h; omega
  rw [if_neg c1] at h
  by_cases c2 : szEL (szEL left tl) kl < 0
  · rw [if_pos c2] at h; omega
  have r1 := szEL_room hl c1
  have t1 := szEL_tags hl c1
  have t2 := szEL_tags (Int.le_trans r1.1 hl) c2
  intro x hx
  obtain ⟨q, hq, rfl⟩ := List.mem_map.1 hx
  rcases List.mem_append.1 hq with hq | hq
  · exact t1 q hq
  · exact t2 q hq
theorem fit_all {tl kl a b : List (Ent × EntR)} (e1 : a.map Prod.fst = tl.map Prod.fst) (e2 : b.map Prod.fst = kl.map Prod.fst) (hf : StoFit tl kl) : ∀ q ∈ a ++ b, EntFit q.1 := fun q hq => by
  rcases List.mem_append.1 hq with hq | hq
  · exact fit_map e1 hf.tf q hq
  · exact fit_map e2 hf.kf q hq
theorem peek_fit {bu gu : Int} {tl kl : List (Ent × EntR)} {key : ByteArray} (hf : StoFit tl kl) : EntFit (peekR bu gu (tl.map Prod.fst) (kl.map Prod.fst) key).2 := by
  have z : EntFit zeroEnt := ⟨by decide, by decide, by decide⟩
  unfold peekR
  split
  · exact z
  · split
    · exact z
    · rename_i x hx
      have hm := List.mem_of_find?_eq_some hx
      rw [← List.map_append] at hm
      obtain ⟨q, hq, rfl⟩ := List.mem_map.1 hm
      exact fit_all rfl rfl hf q hq
theorem implPeek_new (w : World) (bu gu : Int) (tl kl : List (Ent × EntR)) (G1 G2 : Nat) (key : ByteArray) (hset : SetIs w) (hok : ∀ x ∈ (tl ++ kl).map Prod.fst, EntOk x) (hf : StoFit tl kl) (hts : ∀ x ∈ (tl ++ kl).map Prod.fst, ∀ t ∈ x.ts, t.size ≤ 1048576) (h : StoNew w G1 G2 tl kl) :
    Calls Tryz.prog 33 #[.agg #[.int .i64 bu, .int .i64 gu, .slice (some ⟨G1, 0, none⟩) tl.length tl.length, .slice (some ⟨G2, 0, none⟩) kl.length kl.length], .string key] w fun e w' => PeekOk (peekR bu gu (tl.map Prod.fst) (kl.map Prod.fst) key).1 (peekR bu gu (tl.map Prod.fst) (kl.map Prod.fst) key).2 w.heap.size e w' ∧ Below w.heap.size w w' := by
  obtain ⟨a, b, e1, e2, m⟩ := h
  have l1 := len_map e1
  have l2 := len_map e2
  rw [← l1, ← l2, ← e1, ← e2]
  exact implPeek_any w bu gu _ _ _ _ a b key hset (by rw [l1]; exact hf.tn) (by rw [l2]; exact hf.kn) (ok_map e1 e2 hok) (fun q hq => hts q.1 (by rw [List.map_append, ← e1, ← e2, ← List.map_append]; exact List.mem_map_of_mem hq)) m.t.in m.k.in
end Go.Proofs.YtdooopkpnanekaaGreatDoor
/-
  A right store that has a key, copied by the model; or a code.
-/
namespace Go.Proofs.YtdooopkpnanekaaGreatDoor
open Go.ChangeShapes Go.WideShapes Go.ChangeAt Go.RowKit Go.Sort
/-- What l8Ask hands back. -/
def AskOk (c : Int) (bu gu : Int) (tl kl : List Ent) (base : Nat) (e : Ending) (w' : World) : Prop :=
  (c ≠ 0 ∧ e = .returned (.tuple #[.agg #[.int .i64 0, .int .i64 0, .slice none 0 0, .slice none 0 0], .int .i64 c])) ∨ (c = 0 ∧ ∃ a1 k1 n1 a2 k2 n2 m1 m2, e = .returned (.tuple #[.agg #[.int .i64 bu, .int .i64 gu, .slice a1 n1 k1, .slice a2 n2 k2], .int .i64 0]) ∧ m1.map Prod.fst = tl ∧ m2.map Prod.fst = kl ∧ StoO w' base (.slice a1 n1 k1) (.slice a2 n2 k2) m1 m2)
set_option maxRecDepth 100000 in
set_option maxHeartbeats 16000000 in
theorem l8Ask_at (w : World) (B : Nat) (bu gu : Int) (ta ka : Option Addr) (tc kc : Nat) (tl kl : List (Ent × EntR)) (key : ByteArray) (hc : S4 w B (.int .i64 bu) (.int .i64 gu) (.slice ta tl.length tc) (.slice ka kl.length kc)) (hl : tl.length ≤ 1048576) (hk : kl.length ≤ 1048576) (hto : ∀ q ∈ tl ++ kl, EntOk q.1) (hft : ∀ q ∈ tl ++ kl, EntFit q.1) (ht : EntsIn w ta tl) (hq : EntsIn w ka kl) :
    Calls Tryz.prog 52 #[.pointer (some ⟨B, 0, none⟩), .string key] w fun e w' => AskOk (peekR bu gu (tl.map Prod.fst) (kl.map Prod.fst) key).1 bu gu (tl.map Prod.fst) (kl.map Prod.fst) w.heap.size e w' ∧ Below w.heap.size w w' := by
  have HF : Hid (∀ X, Below w.heap.size w X → Calls Tryz.prog 30 #[.agg #[.int .i64 bu, .int .i64 gu, .slice ta tl.length tc, .slice ka kl.length kc]] X fun r w' => r = .returned (.int .i64 (storeC bu gu (tl.map Prod.fst) (kl.map Prod.fst))) ∧ Below X.heap.size X w') := fun X hb => specSto_any X bu gu ta ka tc kc tl kl hl hk hto (ht.keep hb) (hq.keep hb)
  have HP : Hid (storeC bu gu (tl.map Prod.fst) (kl.map Prod.fst) = 0 → ∀ X, Below w.heap.size w X → Calls Tryz.prog 107 #[.pointer (some ⟨B, 0, none⟩), .string key] X fun e w' => ((∃ x r, (tl.map Prod.fst ++ kl.map Prod.fst).find? (isKey key) = some x ∧ e = .returned (.tuple #[entV x r, .bool true])) ∨ ((tl.map Prod.fst ++ kl.map Prod.fst).find? (isKey key) = none ∧ e = .returned (.tuple #[entV zeroEnt zeroR, .bool false]))) ∧ Below X.heap.size X w') := fun h0 X hX => by
    have s := hc.keep hX
    refine (l8Peek_at X B key ta ka tc kc tl kl s.c2 s.c3 (by have := (storeC_zero h0).2.1; rw [List.length_map, List.length_map] at this; omega) (fun q hq' => ⟨(hft q hq').h, (hft q hq').b, (hft q hq').t⟩) (ht.keep hX) (hq.keep hX)).mono ?_
    rintro e w' ⟨⟨x, r, h1, h2, _⟩ | h1, hb⟩
    · exact ⟨.inl ⟨x, r, h1, h2⟩, hb⟩
    · exact ⟨.inr h1, hb⟩
  have HC : Hid (∀ X, Below w.heap.size w X → Calls Tryz.prog 67 #[.pointer (some ⟨B, 0, none⟩)] X fun e w' => (∃ a1 k1 n1 a2 k2 n2 m1 m2, e = .returned (.agg #[.int .i64 bu, .int .i64 gu, .slice a1 n1 k1, .slice a2 n2 k2]) ∧ m1.map Prod.fst = tl.map Prod.fst ∧ m2.map Prod.fst = kl.map Prod.fst ∧ StoO w' X.heap.size (.slice a1 n1 k1) (.slice a2 n2 k2) m1 m2) ∧ Below X.heap.size X w') := fun X hX => by
    have s := hc.keep hX
    refine (l8Copy_at X B bu gu ta ka tc kc tl kl ⟨s.c0, s.c1, s.c2, s.c3⟩ s.lt hl hk (fun q h => hft q (List.mem_append.2 (.inl h))) (fun q h => hft q (List.mem_append.2 (.inr h))) (ht.keep hX) (hq.keep hX)).mono ?_
    rintro e w' ⟨⟨v1, v2, m1, m2, rfl, q1, q2, o⟩, hb⟩
    obtain ⟨a1, k1, rfl, _⟩ := row_form o.t.own
    obtain ⟨a2, k2, rfl, _⟩ := row_form o.k.own
    exact ⟨⟨a1, k1, _, a2, k2, _, m1, m2, rfl, q1, q2, o⟩, hb⟩
  obtain ⟨W, hW⟩ : ∃ W, W = w.alloc (.cells #[.int .i64 0, .int .i64 0, .slice none 0 0, .slice none 0 0] 28) := ⟨_, rfl⟩
  have HW : Hid (W = w.alloc (.cells #[.int .i64 0, .int .i64 0, .slice none 0 0, .slice none 0 0] 28)) := hW
  have K0 : Hid (Below w.heap.size w W ∧ S4 W w.heap.size (.int .i64 0) (.int .i64 0) (.slice none 0 0) (.slice none 0 0)) := by
    rw [hW]; exact ⟨(Below.refl _ _).alloc (Nat.le_refl _) _, S4.new w _ _ _ _ _⟩
  have HS : Hid (∀ X, Below w.heap.size w X → S4 X B (.int .i64 bu) (.int .i64 gu) (.slice ta tl.length tc) (.slice ka kl.length kc)) := fun X hX => hc.keep hX
  have PB := peekR_bad (bu := bu) (gu := gu) (tl := tl.map Prod.fst) (kl := kl.map Prod.fst) (key := key)
  have PN := peekR_none (bu := bu) (gu := gu) (tl := tl.map Prod.fst) (kl := kl.map Prod.fst) (key := key)
  have PS : ∀ x, _ := fun x => peekR_some (bu := bu) (gu := gu) (tl := tl.map Prod.fst) (kl := kl.map Prod.fst) (key := key) (x := x)
  have HPB : Hid _ := PB
  have HPN : Hid _ := PN
  have HPS : Hid _ := PS
  have e0 := (HS.out W K0.out.1).c0
  have e1 := (HS.out W K0.out.1).c1
  have e2 := (HS.out W K0.out.1).c2
  have e3 := (HS.out W K0.out.1).c3
  rw [hW] at e0 e1 e2 e3
  clear hW hc hto hft ht hq hl hk PB PN PS HS
  generalize storeC bu gu (tl.map Prod.fst) (kl.map Prod.fst) = sc at *
  generalize peekR bu gu (tl.map Prod.fst) (kl.map Prod.fst) key = pr at *
  generalize tl.length = tn at *
  generalize kl.length = kn at *
  go_enter Tryz.func52, Tryz.ntmps52
  go_wp2_with fail
  rw [← HW.out]
  refine (HF.out _ K0.out.1).mono ?_
  rintro r0 w1 ⟨rfl, hb1⟩
  have K1 : Hid (Below w.heap.size w w1 ∧ S4 w1 w.heap.size (.int .i64 0) (.int .i64 0) (.slice none 0 0) (.slice none 0 0)) := ⟨K0.out.1.trans (hb1.mono K0.out.1.size), K0.out.2.keep hb1⟩
  clear K0 HW hb1 HF e0 e1 e2 e3
  by_cases cs : sc = 0
  · subst cs
    clear HPB
    go_wp2_with fail
    refine (HP.out (by trivial) _ K1.out.1).mono ?_
    rintro r0 w2 ⟨hcase, hb2⟩
    rcases hcase with ⟨x, r, hx, rfl⟩ | ⟨hx, rfl⟩
    · have hp := HPS.out x (by trivial) hx
      subst hp
      unfold entV entW
      obtain ⟨V2, hV2⟩ : ∃ V, V = w2.alloc (.cells (entW x r).toArray 52) := ⟨_, rfl⟩
      have HV2 : Hid (V2 = w2.alloc (.cells (entW x r).toArray 52)) := hV2
      have K2 : Hid (Below w.heap.size w V2 ∧ S4 V2 w.heap.size (.int .i64 0) (.int .i64 0) (.slice none 0 0) (.slice none 0 0)) := by
        have a2 : Below w2.heap.size w2 V2 := by rw [hV2]; exact (Below.refl _ _).alloc (Nat.le_refl _) _
        have b2 := K1.out.1.trans (hb2.mono K1.out.1.size)
        exact ⟨b2.trans (a2.mono b2.size), (K1.out.2.keep hb2).keep a2⟩
      unfold entW at HV2
      clear hV2 K1 hb2 HP HPN HPS hx
      go_wp2_with fail
      rw [← HV2.out]
      refine (HC.out _ K2.out.1).mono ?_
      rintro r0 w3 ⟨⟨a1, k1, n1, a2, k2, n2, m1, m2, rfl, q1, q2, o⟩, hb3⟩
      have s3 := K2.out.2.keep hb3
      have z0 := s3.c0
      have z1 := s3.c1
      have z2 := s3.c2
      have z3 := s3.c3
      have zf0 := s3.fr 0
      have zf1 := s3.fr 1
      have zf2 := s3.fr 2
      have zf3 := s3.fr 3
      have HFIN : Hid (∀ u0 u1 u2 u3, (∃ m1 m2, m1.map Prod.fst = tl.map Prod.fst ∧ m2.map Prod.fst = kl.map Prod.fst ∧ StoO ((((w3.setCell ⟨w.heap.size, 0, none⟩ u0).setCell ⟨w.heap.size, 1, none⟩ u1).setCell ⟨w.heap.size, 2, none⟩ u2).setCell ⟨w.heap.size, 3, none⟩ u3) w.heap.size (.slice a1 n1 k1) (.slice a2 n2 k2) m1 m2) ∧ Below w.heap.size w ((((w3.setCell ⟨w.heap.size, 0, none⟩ u0).setCell ⟨w.heap.size, 1, none⟩ u1).setCell ⟨w.heap.size, 2, none⟩ u2).setCell ⟨w.heap.size, 3, none⟩ u3)) := fun u0 u1 u2 u3 => by
        have hlt := K2.out.2.lt
        refine ⟨⟨m1, m2, q1, q2, ((((o.off1 _ hlt).off1 _ hlt).off1 _ hlt).off1 _ hlt).lower (Nat.le_of_lt hlt)⟩, ?_⟩
        exact ((((K2.out.1.trans (hb3.mono K2.out.1.size)).setCell (Nat.le_refl _) _).setCell (Nat.le_refl _) _).setCell (Nat.le_refl _) _).setCell (Nat.le_refl _) _
      clear s3 hb3 o q1 q2 K2 HC HV2
      go_wp2_with fail
      refine bodyPost_ret (v := .tuple #[.agg #[.int .i64 bu, .int .i64 gu, .slice a1 n1 k1, .slice a2 n2 k2], .int .i64 0]) (by simp [results, Tryz.results52, go_sem, z0, z1, z2, z3]) rfl ?_
      obtain ⟨⟨m1, m2, q1, q2, o⟩, b⟩ := HFIN.out (.int .i64 bu) (.int .i64 gu) (.slice a1 n1 k1) (.slice a2 n2 k2)
      exact ⟨.inr ⟨rfl, a1, k1, n1, a2, k2, n2, m1, m2, rfl, q1, q2, o⟩, b⟩
    · have hp := HPN.out (by trivial) hx
      subst hp
      unfold entV entW zeroEnt zeroR
      simp only [List.length_nil]
      have s2 := (K1.out.2.keep hb2).keep ((Below.refl w2.heap.size w2).alloc (Nat.le_refl _) (.cells #[.string ⟨#[]⟩, .int .i64 0, .slice none 0 0, .slice none 0 0, .int .i64 0, .int .i64 0, .int .i64 0, .int .i64 0, .int .i64 0, .bool false, .bool false, .slice none 0 0, .int .i64 0] 52))
      have HBB : Hid (Below w.heap.size w (w2.alloc (.cells #[.string ⟨#[]⟩, .int .i64 0, .slice none 0 0, .slice none 0 0, .int .i64 0, .int .i64 0, .int .i64 0, .int .i64 0, .int .i64 0, .bool false, .bool false, .slice none 0 0, .int .i64 0] 52))) := (K1.out.1.trans (hb2.mono K1.out.1.size)).alloc (by have := hb2.size; have := K1.out.1.size; omega) _
      have z0 := s2.c0
      have z1 := s2.c1
      have z2 := s2.c2
      have z3 := s2.c3
      have zf0 := s2.fr 0
      have zf1 := s2.fr 1
      have zf2 := s2.fr 2
      have zf3 := s2.fr 3
      clear s2 K1 hb2 HP HPN HPS HC hx
      go_wp2_with fail
      refine bodyPost_ret (v := .tuple #[.agg #[.int .i64 0, .int .i64 0, .slice none 0 0, .slice none 0 0], .int .i64 4]) (by simp [results, Tryz.results52, go_sem, z0, z1, z2, z3]) rfl ?_
      exact ⟨.inl ⟨by decide, rfl⟩, (((HBB.out.setCell (Nat.le_refl _) _).setCell (Nat.le_refl _) _).setCell (Nat.le_refl _) _).setCell (Nat.le_refl _) _⟩
  · have hp := HPB.out cs
    subst hp
    have z0 := K1.out.2.c0
    have z1 := K1.out.2.c1
    have z2 := K1.out.2.c2
    have z3 := K1.out.2.c3
    have zf0 := K1.out.2.fr 0
    have zf1 := K1.out.2.fr 1
    have zf2 := K1.out.2.fr 2
    have zf3 := K1.out.2.fr 3
    have HB1 : Hid (Below w.heap.size w w1) := K1.out.1
    clear K1 HP HPN HPS HPB HC
    go_wp2_with fail
    refine bodyPost_ret (v := .tuple #[.agg #[.int .i64 0, .int .i64 0, .slice none 0 0, .slice none 0 0], .int .i64 sc]) (by simp [results, Tryz.results52, go_sem, z0, z1, z2, z3]) rfl ?_
    exact ⟨.inl ⟨cs, rfl⟩, (((HB1.out.setCell (Nat.le_refl _) _).setCell (Nat.le_refl _) _).setCell (Nat.le_refl _) _).setCell (Nat.le_refl _) _⟩
end Go.Proofs.YtdooopkpnanekaaGreatDoor
/-
  DropEntry, by the model.
-/
namespace Go.Proofs.YtdooopkpnanekaaGreatDoor
open Go.ChangeShapes Go.WideShapes Go.ChangeAt Go.RowKit Go.Sort
/-- A store that is handed back, with its code. -/
def StoRes (c bu gu : Int) (tl kl : List Ent) (base : Nat) (e : Ending) (w' : World) : Prop :=
  ∃ a1 k1 n1 a2 k2 n2 m1 m2, e = .returned (.agg #[.int .i64 c, .int .i64 bu, .int .i64 gu, .slice a1 n1 k1, .slice a2 n2 k2]) ∧ m1.map Prod.fst = tl ∧ m2.map Prod.fst = kl ∧ StoO w' base (.slice a1 n1 k1) (.slice a2 n2 k2) m1 m2
theorem S5.low {w w' : World} {b B : Nat} {v0 v1 v2 v3 v4 : Value} (k : S5 w b v0 v1 v2 v3 v4) (hb : Below B w w') (h : b < B) : S5 w' b v0 v1 v2 v3 v4 :=
  ⟨by rw [hb.cell (p := ⟨b, 0, none⟩) h]; exact k.c0, by rw [hb.cell (p := ⟨b, 1, none⟩) h]; exact k.c1, by rw [hb.cell (p := ⟨b, 2, none⟩) h]; exact k.c2, by rw [hb.cell (p := ⟨b, 3, none⟩) h]; exact k.c3, by rw [hb.cell (p := ⟨b, 4, none⟩) h]; exact k.c4, fun o => by rw [hb.frozen (p := ⟨b, o, none⟩) h]; exact k.fr o, Nat.lt_of_lt_of_le k.lt hb.size⟩
theorem EntsO.none (w : World) (base : Nat) : EntsO w base (.slice none 0 0) [] := ⟨OwnE.nil w base, fun q hq => by simp at hq, by simp [foot, Value.ownBlock]⟩
theorem StoO.none (w : World) (base : Nat) : StoO w base (.slice none 0 0) (.slice none 0 0) [] [] := ⟨.none w base, .none w base, fun b hb => by simp [foot, Value.ownBlock] at hb⟩
theorem offKey_map (key : ByteArray) (m : List (Ent × EntR)) : (offKey key m).map Prod.fst = (m.map Prod.fst).filter fun x => !isKey key x := by
  unfold offKey
  rw [List.filter_map]
  rfl
def dropC (bu gu : Int) (tl kl : List Ent) (key : ByteArray) : Int := (peekR bu gu tl kl key).1
end Go.Proofs.YtdooopkpnanekaaGreatDoor
/-
  PinEntry, by the model.
-/
namespace Go.Proofs.YtdooopkpnanekaaGreatDoor
open Go.ChangeShapes Go.WideShapes Go.ChangeAt Go.RowKit Go.Sort
theorem StoLV.off1 {w : World} {base : Nat} {v1 v2 : Value} {l1 l2 : List (Ent × EntR)} (h : StoLV w base v1 v2 l1 l2) {b i : Nat} (u : Value) (hb : b < base) : StoLV (w.setCell ⟨b, i, none⟩ u) base v1 v2 l1 l2 :=
  h.out (Out.set w b i u) (fun c hc e => by simp at hc; subst hc; have := h.t.ge e; omega) (fun c hc e => by simp at hc; subst hc; have := h.k.ge e; omega)
theorem StoLV.none (w : World) (base : Nat) : StoLV w base (.slice none 0 0) (.slice none 0 0) [] [] := (StoO.none w base).lv
theorem StoAns.mk {A : SAns} {base b : Nat} {a1 a2 : Option Addr} {n1 k1 n2 k2 : Nat} {w' : World} {m1 m2 : List (Ent × EntR)} (h : StoLV w' b (.slice a1 n1 k1) (.slice a2 n2 k2) m1 m2) (hb : base ≤ b) (e1 : m1.map Prod.fst = A.t) (e2 : m2.map Prod.fst = A.k) : StoAns A base (.returned (.agg #[.int .i64 A.c, .int .i64 A.bu, .int .i64 A.gu, .slice a1 n1 k1, .slice a2 n2 k2])) w' :=
  ⟨⟨a1, k1, n1, a2, k2, n2⟩, rfl, RSto.mk (r := ⟨a1, k1, n1, a2, k2, n2⟩) e1 e2 (h.lower hb)⟩
def badA (c : Int) : SAns := ⟨c, 0, 0, [], []⟩
theorem StoAns.bad (c : Int) (base : Nat) (w' : World) : StoAns (badA c) base (.returned (.agg #[.int .i64 c, .int .i64 0, .int .i64 0, .slice none 0 0, .slice none 0 0])) w' := StoAns.mk (A := badA c) (StoLV.none w' base) (Nat.le_refl _) rfl rfl
theorem StoAns.got {c bu gu : Int} {t k : List Ent} {base b : Nat} {a1 a2 : Option Addr} {n1 k1 n2 k2 : Nat} {w' : World} {m1 m2 : List (Ent × EntR)} (h : StoLV w' b (.slice a1 n1 k1) (.slice a2 n2 k2) m1 m2) (hb : base ≤ b) (e1 : m1.map Prod.fst = t) (e2 : m2.map Prod.fst = k) : StoAns ⟨c, bu, gu, t, k⟩ base (.returned (.agg #[.int .i64 c, .int .i64 bu, .int .i64 gu, .slice a1 n1 k1, .slice a2 n2 k2])) w' := StoAns.mk (A := ⟨c, bu, gu, t, k⟩) h hb e1 e2
theorem StoAns.of {A B : SAns} {base : Nat} {e : Ending} {w' : World} (h : StoAns B base e w') (he : A = B) : StoAns A base e w' := he ▸ h
open Classical in
noncomputable def pinA (bu gu : Int) (tl kl : List Ent) (key : ByteArray) (by' : Int) : SAns :=
  if (peekR bu gu tl kl key).1 ≠ 0 then badA (peekR bu gu tl kl key).1 else
  if ¬ (0 ≤ (peekR bu gu tl kl key).2.pins + by' ∧ (peekR bu gu tl kl key).2.pins + by' ≤ 20) then badA 3 else
  ⟨0, bu, gu, turnE (isKey key) (pinBy by') tl, turnE (isKey key) (pinBy by') kl⟩
theorem peekR_zero {bu gu : Int} {tl kl : List Ent} {key : ByteArray} (h : (peekR bu gu tl kl key).1 = 0) : storeC bu gu tl kl = 0 ∧ (tl ++ kl).find? (isKey key) = some (peekR bu gu tl kl key).2 := by
  by_cases hs : storeC bu gu tl kl = 0
  · refine ⟨hs, ?_⟩
    cases hf : (tl ++ kl).find? (isKey key) with
    | none => rw [peekR_none hs hf] at h; exact absurd h (by decide)
    | some x => rw [peekR_some hs hf]
  · rw [peekR_bad hs] at h; exact absurd h hs
theorem storeC_nd {bu gu : Int} {tl kl : List Ent} (h : storeC bu gu tl kl = 0) : NdK (tl ++ kl) := by
  have := (storeC_zero h).2.2.2.1
  unfold dupE at this
  simpa [NdK] using this
theorem storeC_ent {bu gu : Int} {tl kl : List Ent} (h : storeC bu gu tl kl = 0) : ∀ x ∈ tl ++ kl, entC x = 0 := faultE_zero (storeC_zero h).2.2.1
theorem key_one {key : ByteArray} {L : List Ent} {x y : Ent} (hn : NdK L) (hx : L.find? (isKey key) = some x) (hy : y ∈ L) (hk : isKey key y = true) : y = x := by
  have hx1 := List.mem_of_find?_eq_some hx
  have hx2 := List.find?_some hx
  have e := isKey_eq hx2 hk
  unfold NdK keysE at hn
  obtain ⟨i, hi, rfl⟩ := List.mem_iff_getElem.1 hx1
  obtain ⟨j, hj, rfl⟩ := List.mem_iff_getElem.1 hy
  have := (List.getElem_inj (xs := L.map fun x => x.key.toList) (h₀ := by simpa using hi) (h₁ := by simpa using hj) hn).1 (by simpa using e)
  subst this
  rfl
set_option maxHeartbeats 1000000 in
theorem l1In_any (x a b : Int) (w : World) : Calls Tryz.prog 93 #[.int .i64 x, .int .i64 a, .int .i64 b] w fun e w' => e = .returned (.bool (decide (a ≤ x) && decide (x ≤ b))) ∧ w' = w := by
  by_cases h1 : a ≤ x
  · by_cases h2 : x ≤ b
    · go_enter Tryz.func93, Tryz.ntmps93
      go_wp2_with fail
      go_ret
      exact ⟨by simp; omega, rfl⟩
    · go_enter Tryz.func93, Tryz.ntmps93
      go_wp2_with fail
      go_ret
      exact ⟨by simp [h2], rfl⟩
  · go_enter Tryz.func93, Tryz.ntmps93
    go_wp2_with fail
    go_ret
    exact ⟨by simp; omega, rfl⟩
set_option maxRecDepth 100000 in
set_option maxHeartbeats 16000000 in
theorem specPin_any (w : World) (bu gu by' : Int) (ta ka : Option Addr) (tc kc : Nat) (tl kl : List (Ent × EntR)) (key : ByteArray) (hl : tl.length ≤ 1048576) (hk : kl.length ≤ 1048576) (hto : ∀ q ∈ tl ++ kl, EntOk q.1) (hft : ∀ q ∈ tl ++ kl, EntFit q.1) (ht : EntsIn w ta tl) (hq : EntsIn w ka kl) :
    Calls Tryz.prog 41 #[.agg #[.int .i64 bu, .int .i64 gu, .slice ta tl.length tc, .slice ka kl.length kc], .string key, .int .i64 by'] w fun e w' => StoAns (pinA bu gu (tl.map Prod.fst) (kl.map Prod.fst) key by') w.heap.size e w' ∧ Below w.heap.size w w' := by
  obtain ⟨W, hW⟩ : ∃ W, W = (w.alloc (.cells #[.int .i64 bu, .int .i64 gu, .slice ta tl.length tc, .slice ka kl.length kc] 28)).alloc (.cells #[.int .i64 0, .int .i64 0, .int .i64 0, .slice none 0 0, .slice none 0 0] 30) := ⟨_, rfl⟩
  have HW : Hid (W = (w.alloc (.cells #[.int .i64 bu, .int .i64 gu, .slice ta tl.length tc, .slice ka kl.length kc] 28)).alloc (.cells #[.int .i64 0, .int .i64 0, .int .i64 0, .slice none 0 0, .slice none 0 0] 30)) := hW
  have K0 : Hid (Below w.heap.size w W ∧ S4 W w.heap.size (.int .i64 bu) (.int .i64 gu) (.slice ta tl.length tc) (.slice ka kl.length kc) ∧ S5 W (w.heap.size + 1) (.int .i64 0) (.int .i64 0) (.int .i64 0) (.slice none 0 0) (.slice none 0 0) ∧ w.heap.size + 2 ≤ W.heap.size) := by
    rw [hW]
    refine ⟨((Below.refl _ _).alloc (Nat.le_refl _) _).alloc (by simp) _, (S4.new w _ _ _ _ _).keep ((Below.refl _ _).alloc (Nat.le_refl _) _), ?_, by simp⟩
    have := S5.new (w.alloc (.cells #[.int .i64 bu, .int .i64 gu, .slice ta tl.length tc, .slice ka kl.length kc] 28)) (.int .i64 0) (.int .i64 0) (.int .i64 0) (.slice none 0 0) (.slice none 0 0) 30
    simpa using this
  have CA : Hid (Calls Tryz.prog 52 #[.pointer (some ⟨w.heap.size, 0, none⟩), .string key] W fun e w' => AskOk (peekR bu gu (tl.map Prod.fst) (kl.map Prod.fst) key).1 bu gu (tl.map Prod.fst) (kl.map Prod.fst) W.heap.size e w' ∧ Below W.heap.size W w') := l8Ask_at W w.heap.size bu gu ta ka tc kc tl kl key K0.out.2.1 hl hk hto hft (ht.keep K0.out.1) (hq.keep K0.out.1)
  have HFT : Hid (∀ q ∈ tl ++ kl, EntFit q.1) := hft
  obtain ⟨A, hA⟩ : ∃ A, pinA bu gu (tl.map Prod.fst) (kl.map Prod.fst) key by' = A := ⟨_, rfl⟩
  rw [hA]
  unfold pinA at hA
  have HA : Hid (_ = A) := hA
  clear hW hl hk hto hft ht hq hA
  obtain ⟨P, hP⟩ : ∃ P, peekR bu gu (tl.map Prod.fst) (kl.map Prod.fst) key = P := ⟨_, rfl⟩
  have HP : Hid (peekR bu gu (tl.map Prod.fst) (kl.map Prod.fst) key = P) := hP
  rw [hP] at CA HA
  clear hP
  obtain ⟨c, x⟩ := P
  simp only at CA HA
  go_enter Tryz.func41, Tryz.ntmps41
  go_wp2_with fail
  rw [← HW.out]
  refine CA.out.mono ?_
  rintro r0 w1 ⟨hask, hb1⟩
  clear CA HW
  rcases hask with ⟨hc, rfl⟩ | ⟨rfl, a1, k1, n1, a2, k2, n2, m1, m2, rfl, q1, q2, o⟩
  · have aV : Below w1.heap.size w1 (w1.alloc (.cells #[.int .i64 0, .int .i64 0, .slice none 0 0, .slice none 0 0] 28)) := (Below.refl _ _).alloc (Nat.le_refl _) _
    have s5 := (K0.out.2.2.1.keep hb1).keep aV
    have b1 := K0.out.1.trans (hb1.mono K0.out.1.size)
    have HB : Hid (Below w.heap.size w (w1.alloc (.cells #[.int .i64 0, .int .i64 0, .slice none 0 0, .slice none 0 0] 28))) := b1.trans (aV.mono b1.size)
    have HAe : Hid (A = badA c) := by have := HA.out; rw [if_pos hc] at this; exact this.symm
    have z0 := s5.c0
    have z1 := s5.c1
    have z2 := s5.c2
    have z3 := s5.c3
    have z4 := s5.c4
    have zf0 := s5.fr 0
    have zf1 := s5.fr 1
    have zf2 := s5.fr 2
    have zf3 := s5.fr 3
    have zf4 := s5.fr 4
    clear s5 aV hb1 b1 K0 HA HP HFT
    go_wp2_with fail
    refine bodyPost_ret (v := .agg #[.int .i64 c, .int .i64 0, .int .i64 0, .slice none 0 0, .slice none 0 0]) (by simp [results, Tryz.results41, go_sem, z0, z1, z2, z3, z4]) rfl ?_
    exact ⟨(StoAns.bad _ _ _).of HAe.out, ((((HB.out.setCell (by simp) _).setCell (by simp) _).setCell (by simp) _).setCell (by simp) _).setCell (by simp) _⟩
  · obtain ⟨V1, hV1⟩ : ∃ V, V = w1.alloc (.cells #[.int .i64 bu, .int .i64 gu, .slice a1 n1 k1, .slice a2 n2 k2] 28) := ⟨_, rfl⟩
    have HV1 : Hid (V1 = w1.alloc (.cells #[.int .i64 bu, .int .i64 gu, .slice a1 n1 k1, .slice a2 n2 k2] 28)) := hV1
    have aV : Below w1.heap.size w1 V1 := by rw [hV1]; exact (Below.refl _ _).alloc (Nat.le_refl _) _
    have sV : S4 V1 w1.heap.size (.int .i64 bu) (.int .i64 gu) (.slice a1 n1 k1) (.slice a2 n2 k2) := by rw [hV1]; exact S4.new w1 _ _ _ _ _
    have b1 := K0.out.1.trans (hb1.mono K0.out.1.size)
    obtain ⟨hst, hfi⟩ := peekR_zero (bu := bu) (gu := gu) (tl := tl.map Prod.fst) (kl := kl.map Prod.fst) (key := key) (by rw [HP.out])
    rw [HP.out] at hfi
    simp only at hfi
    have hln := (storeC_zero hst).2.1
    have ln1 : m1.length = (tl.map Prod.fst).length := by have := congrArg List.length q1; rw [List.length_map] at this; exact this
    have ln2 : m2.length = (kl.map Prod.fst).length := by have := congrArg List.length q2; rw [List.length_map] at this; exact this
    have oV := (o.below aV).lv
    obtain ⟨hn1, in1⟩ := slice_len oV.t
    obtain ⟨hn2, in2⟩ := slice_len oV.k
    have hft2 : ∀ q ∈ m1 ++ m2, q.1.hs.length ≤ 1048576 ∧ q.1.bl.length ≤ 1048576 ∧ q.1.ts.length ≤ 1048576 := fun q hq => by
      have : q.1 ∈ (tl ++ kl).map Prod.fst := by rw [List.map_append, ← q1, ← q2, ← List.map_append]; exact List.mem_map_of_mem hq
      obtain ⟨p, hp, e⟩ := List.mem_map.1 this
      have f := HFT.out p hp
      rw [← e]
      exact ⟨f.h, f.b, f.t⟩
    have CP : Hid (Calls Tryz.prog 107 #[.pointer (some ⟨w1.heap.size, 0, none⟩), .string key] V1 fun e w' => (∃ r : EntR, e = .returned (.tuple #[.agg #[.string x.key, .int .i64 x.st, .slice r.ha x.hs.length r.hc, .slice r.ba x.bl.length r.bc, .int .i64 x.t, .int .i64 x.g, .int .i64 x.l, .int .i64 x.s, .int .i64 x.e, .bool x.b1, .bool x.b2, .slice r.ta x.ts.length r.tc, .int .i64 x.pins], .bool true])) ∧ Below V1.heap.size V1 w') := by
      have c2 := sV.c2
      have c3 := sV.c3
      rw [hn1] at c2
      rw [hn2] at c3
      refine (l8Peek_at V1 w1.heap.size key a1 a2 k1 k2 m1 m2 c2 c3 (by omega) hft2 in1 in2).mono ?_
      rintro e w' ⟨hh, hb⟩
      rw [q1, q2, hfi] at hh
      rcases hh with ⟨y, r, ey, er, _⟩ | ⟨ey, _⟩
      · obtain rfl := Option.some.inj ey
        exact ⟨⟨r, er⟩, hb⟩
      · exact absurd ey (by simp)
    have K1 : Hid (Below w.heap.size w V1 ∧ S5 V1 (w.heap.size + 1) (.int .i64 0) (.int .i64 0) (.int .i64 0) (.slice none 0 0) (.slice none 0 0) ∧ S4 V1 w1.heap.size (.int .i64 bu) (.int .i64 gu) (.slice a1 n1 k1) (.slice a2 n2 k2) ∧ w.heap.size + 2 ≤ W.heap.size ∧ W.heap.size ≤ w1.heap.size) := ⟨b1.trans (aV.mono b1.size), (K0.out.2.2.1.keep hb1).keep aV, sV, K0.out.2.2.2, hb1.size⟩
    have HO : Hid (StoLV V1 W.heap.size (.slice a1 n1 k1) (.slice a2 n2 k2) m1 m2 ∧ w1.heap.size ∉ fp (.slice a1 n1 k1) m1 ∧ w1.heap.size ∉ fp (.slice a2 n2 k2) m2) := ⟨oV, fun h => by have := o.t.lt h; omega, fun h => by have := o.k.lt h; omega⟩
    have HM : Hid (m1.map Prod.fst = tl.map Prod.fst ∧ m2.map Prod.fst = kl.map Prod.fst ∧ m1.length ≤ 40 ∧ m2.length ≤ 40 ∧ NdK ((m1 ++ m2).map Prod.fst) ∧ (∀ q ∈ m1 ++ m2, isKey key q.1 = true → q.1 = x)) := by
      have nd := storeC_nd hst
      rw [← q1, ← q2, ← List.map_append] at nd hfi
      exact ⟨q1, q2, by omega, by omega, nd, fun q hq hk => key_one nd hfi (List.mem_map_of_mem hq) hk⟩
    have HXP : Hid (0 ≤ x.pins ∧ x.pins ≤ 20) := entC_pins (storeC_ent hst x (List.mem_of_find?_eq_some hfi))
    have HA2 : Hid (A = if ¬ (0 ≤ x.pins + by' ∧ x.pins + by' ≤ 20) then badA 3 else ⟨0, bu, gu, turnE (isKey key) (pinBy by') (tl.map Prod.fst), turnE (isKey key) (pinBy by') (kl.map Prod.fst)⟩) := by have := HA.out; simp only [ne_eq, not_true_eq_false, if_false] at this; exact this.symm
    clear hV1 aV sV b1 hb1 K0 o q1 q2 ln1 ln2 hn1 hn2 in1 in2 hft2 oV hst hfi hln HA HFT HP
    go_wp2_with fail
    rw [← HV1.out]
    refine Calls.mono CP.out ?_
    rintro e0 w2 ⟨⟨r, rfl⟩, hb2⟩
    obtain ⟨V2, hV2⟩ : ∃ V, V = w2.alloc (.cells #[.string x.key, .int .i64 x.st, .slice r.ha x.hs.length r.hc, .slice r.ba x.bl.length r.bc, .int .i64 x.t, .int .i64 x.g, .int .i64 x.l, .int .i64 x.s, .int .i64 x.e, .bool x.b1, .bool x.b2, .slice r.ta x.ts.length r.tc, .int .i64 x.pins] 52) := ⟨_, rfl⟩
    have HV2 : Hid (V2 = w2.alloc (.cells #[.string x.key, .int .i64 x.st, .slice r.ha x.hs.length r.hc, .slice r.ba x.bl.length r.bc, .int .i64 x.t, .int .i64 x.g, .int .i64 x.l, .int .i64 x.s, .int .i64 x.e, .bool x.b1, .bool x.b2, .slice r.ta x.ts.length r.tc, .int .i64 x.pins] 52)) := hV2
    have aV2 : Below w2.heap.size w2 V2 := by rw [hV2]; exact (Below.refl _ _).alloc (Nat.le_refl _) _
    have bV : Below V1.heap.size V1 V2 := hb2.trans (aV2.mono hb2.size)
    have y12 : V2.cell? ⟨w2.heap.size, 12, none⟩ = some (.int .i64 x.pins) := by rw [hV2]; simp
    have K2 : Hid (Below w.heap.size w V2 ∧ S5 V2 (w.heap.size + 1) (.int .i64 0) (.int .i64 0) (.int .i64 0) (.slice none 0 0) (.slice none 0 0) ∧ S4 V2 w1.heap.size (.int .i64 bu) (.int .i64 gu) (.slice a1 n1 k1) (.slice a2 n2 k2) ∧ StoLV V2 W.heap.size (.slice a1 n1 k1) (.slice a2 n2 k2) m1 m2) := ⟨K1.out.1.trans (bV.mono K1.out.1.size), K1.out.2.1.keep bV, K1.out.2.2.1.keep bV, HO.out.1.below bV⟩
    have L1 : Hid (∀ X, Calls Tryz.prog 93 #[.int .i64 by', .int .i64 (-20), .int .i64 20] X fun e w' => e = .returned (.bool (decide (-20 ≤ by') && decide (by' ≤ 20))) ∧ w' = X) := fun X => l1In_any by' (-20) 20 X
    clear hV2 aV2 bV hb2 CP HV1
    obtain ⟨xp0, xp1⟩ := HXP.out
    by_cases c1 : -20 ≤ by' ∧ by' ≤ 20
    · have ew : IntKind.i64.wrap (x.pins + by') = x.pins + by' := by unfold IntKind.wrap; simp [IntKind.signed, IntKind.bits]; omega
      have L2 : Hid (∀ X, Calls Tryz.prog 93 #[.int .i64 (x.pins + by'), .int .i64 0, .int .i64 20] X fun e w' => e = .returned (.bool (decide (0 ≤ x.pins + by') && decide (x.pins + by' ≤ 20))) ∧ w' = X) := fun X => l1In_any _ 0 20 X
      have d1 : (decide (-20 ≤ by') && decide (by' ≤ 20)) = true := by simp [c1]
      rw [d1] at L1
      by_cases c2 : 0 ≤ x.pins + by' ∧ x.pins + by' ≤ 20
      · have d2 : (decide (0 ≤ x.pins + by') && decide (x.pins + by' ≤ 20)) = true := by simp [c2]
        rw [d2] at L2
        have HAe : Hid (A = ⟨0, bu, gu, turnE (isKey key) (pinBy by') (tl.map Prod.fst), turnE (isKey key) (pinBy by') (kl.map Prod.fst)⟩) := by have := HA2.out; rw [if_neg (by simpa using c2)] at this; exact this
        have CD : Hid _ := l8Pin_at V2 w1.heap.size W.heap.size bu gu by' a1 a2 n1 k1 n2 k2 m1 m2 key K2.out.2.2.1 K2.out.2.2.2 HO.out.2.1 HO.out.2.2 K1.out.2.2.2.2 HM.out.2.2.1 HM.out.2.2.2.1 HM.out.2.2.2.2.1 (fun q hq hk => by rw [HM.out.2.2.2.2.2 q hq hk]; exact c2)
        clear c1 c2 d1 d2 HA2 HO xp0 xp1 HXP
        generalize x.pins = xp at *
        rw [HV2.out] at y12
        go_wp2_with fail
        refine (L1.out _).mono ?_
        rintro e0 X1 ⟨rfl, rfl⟩
        go_wp2_with fail
        refine (L2.out _).mono ?_
        rintro e0 X1 ⟨rfl, rfl⟩
        go_wp2_with fail
        rw [← HV2.out]
        refine Calls.mono CD.out ?_
        rintro e0 w3 ⟨rfl, s3, o3, hb3⟩
        have hs5 : S5 w3 (w.heap.size + 1) (.int .i64 0) (.int .i64 0) (.int .i64 0) (.slice none 0 0) (.slice none 0 0) := K2.out.2.1.low hb3 (by have := K1.out.2.2.2.1; omega)
        have HB : Hid (Below w.heap.size w w3) := K2.out.1.trans (hb3.mono (by have := K1.out.2.2.2.1; omega))
        have HO3 : Hid (StoLV w3 W.heap.size (.slice a1 n1 k1) (.slice a2 n2 k2) (turnM (isKey key) (pinBy by') m1) (turnM (isKey key) (pinBy by') m2)) := o3
        have HWB : Hid (w.heap.size + 1 < W.heap.size) := by show _ < _; have := K1.out.2.2.2.1; omega
        have z0 := hs5.c0
        have z1 := hs5.c1
        have z2 := hs5.c2
        have z3 := hs5.c3
        have z4 := hs5.c4
        have zf0 := hs5.fr 0
        have zf1 := hs5.fr 1
        have zf2 := hs5.fr 2
        have zf3 := hs5.fr 3
        have zf4 := hs5.fr 4
        have y0 := s3.c0
        have y1 := s3.c1
        have y2 := s3.c2
        have y3 := s3.c3
        clear hs5 s3 o3 hb3 K1 K2 CD HV2 L1 L2 y12
        go_wp2_with fail
        refine bodyPost_ret (v := .agg #[.int .i64 0, .int .i64 bu, .int .i64 gu, .slice a1 n1 k1, .slice a2 n2 k2]) (by simp [results, Tryz.results41, go_sem, z0, z1, z2, z3, z4]) rfl ?_
        have hlt := HWB.out
        exact ⟨(StoAns.got (((((HO3.out.off1 _ hlt).off1 _ hlt).off1 _ hlt).off1 _ hlt).off1 _ hlt) (Nat.le_trans (Nat.le_succ _) (Nat.le_of_lt hlt)) (by rw [turnM_fst, HM.out.1]) (by rw [turnM_fst, HM.out.2.1])).of HAe.out, ((((HB.out.setCell (by simp) _).setCell (by simp) _).setCell (by simp) _).setCell (by simp) _).setCell (by simp) _⟩
      · have d2 : (decide (0 ≤ x.pins + by') && decide (x.pins + by' ≤ 20)) = false := by simpa using c2
        rw [d2] at L2
        have HAe : Hid (A = badA 3) := by have := HA2.out; rw [if_pos c2] at this; exact this
        have HB : Hid (Below w.heap.size w V2) := K2.out.1
        have hs5 := K2.out.2.1
        have z0 := hs5.c0
        have z1 := hs5.c1
        have z2 := hs5.c2
        have z3 := hs5.c3
        have z4 := hs5.c4
        have zf0 := hs5.fr 0
        have zf1 := hs5.fr 1
        have zf2 := hs5.fr 2
        have zf3 := hs5.fr 3
        have zf4 := hs5.fr 4
        clear c1 c2 d1 d2 HA2 HO xp0 xp1 HXP K1 K2 hs5 HM
        generalize x.pins = xp at *
        rw [HV2.out] at y12 z0 z1 z2 z3 z4 zf0 zf1 zf2 zf3 zf4
        go_wp2_with fail
        refine (L1.out _).mono ?_
        rintro e0 X1 ⟨rfl, rfl⟩
        go_wp2_with fail
        refine (L2.out _).mono ?_
        rintro e0 X1 ⟨rfl, rfl⟩
        go_wp2_with fail
        rw [← HV2.out]
        rw [← HV2.out] at z0 z1 z2 z3 z4
        refine bodyPost_ret (v := .agg #[.int .i64 3, .int .i64 0, .int .i64 0, .slice none 0 0, .slice none 0 0]) (by simp [results, Tryz.results41, go_sem, z0, z1, z2, z3, z4]) rfl ?_
        exact ⟨(StoAns.bad _ _ _).of HAe.out, ((((HB.out.setCell (by simp) _).setCell (by simp) _).setCell (by simp) _).setCell (by simp) _).setCell (by simp) _⟩
    · have d1 : (decide (-20 ≤ by') && decide (by' ≤ 20)) = false := by simpa using c1
      rw [d1] at L1
      have HAe : Hid (A = badA 3) := by have := HA2.out; rw [if_pos (fun h => c1 (by omega))] at this; exact this
      have HB : Hid (Below w.heap.size w V2) := K2.out.1
      have hs5 := K2.out.2.1
      have z0 := hs5.c0
      have z1 := hs5.c1
      have z2 := hs5.c2
      have z3 := hs5.c3
      have z4 := hs5.c4
      have zf0 := hs5.fr 0
      have zf1 := hs5.fr 1
      have zf2 := hs5.fr 2
      have zf3 := hs5.fr 3
      have zf4 := hs5.fr 4
      clear c1 d1 HA2 HO xp0 xp1 HXP K1 K2 hs5 HM y12
      rw [HV2.out] at z0 z1 z2 z3 z4 zf0 zf1 zf2 zf3 zf4
      go_wp2_with fail
      refine (L1.out _).mono ?_
      rintro e0 X1 ⟨rfl, rfl⟩
      go_wp2_with fail
      rw [← HV2.out]
      rw [← HV2.out] at z0 z1 z2 z3 z4
      refine bodyPost_ret (v := .agg #[.int .i64 3, .int .i64 0, .int .i64 0, .slice none 0 0, .slice none 0 0]) (by simp [results, Tryz.results41, go_sem, z0, z1, z2, z3, z4]) rfl ?_
      exact ⟨(StoAns.bad _ _ _).of HAe.out, ((((HB.out.setCell (by simp) _).setCell (by simp) _).setCell (by simp) _).setCell (by simp) _).setCell (by simp) _⟩
end Go.Proofs.YtdooopkpnanekaaGreatDoor
/-
  IsTagged, on both sides, and its law.
-/
namespace Go.Proofs.YtdooopkpnanekaaGreatDoor
open Go.ChangeShapes Go.WideShapes Go.ChangeAt Go.RowKit
theorem tag_ne {a b : ByteArray} (h : a ≠ b) : (a.toList == b.toList) = false := by
  rw [beq_eq_false_iff_ne]
  intro e
  rw [ByteArray.toList_eq, ByteArray.toList_eq] at e
  exact h (ByteArray.ext (Array.ext' e))
def tagB (l : List ByteArray) (t : ByteArray) : Bool := l.any fun x => decide (x = t)
theorem tagB_yes {l : List ByteArray} {k : Nat} {t : ByteArray} (h : l[k]? = some t) : tagB l t = true :=
  List.any_eq_true.2 ⟨t, List.mem_of_getElem? h, by simp⟩
theorem tagB_no {l : List ByteArray} {t : ByteArray} (h : ∀ (j : Nat) x, l[j]? = some x → x ≠ t) : tagB l t = false := by
  rw [← Bool.not_eq_true]
  intro e
  obtain ⟨x, hx, hd⟩ := List.any_eq_true.1 e
  obtain ⟨j, hj⟩ := List.getElem?_of_mem hx
  exact h j x hj (by simpa using hd)
theorem tret_bool {a b : Bool} (h : a = b) : Ending.returned (.bool a) = Ending.returned (.bool b) := by rw [h]
theorem tret_int {a b : Int} (h : a = b) : Ending.returned (.int .i64 a) = Ending.returned (.int .i64 b) := by rw [h]
set_option maxHeartbeats 2000000 in
theorem specTagged_any (w : World) (a : Option Addr) (cap : Nat) (l : List ByteArray) (t : ByteArray) (hl : l.length ≤ 1048576) (hi : TIn w a l) :
    Calls Tryz.prog 163 #[.slice a l.length cap, .string t] w fun e w' => e = .returned (.bool (tagB l t)) ∧ w' = w := by
  have HI : Hid (TIn w a l) := hi
  clear hi
  generalize hnn : l.length = n at *
  have HN : Hid (l.length = n) := hnn
  clear hnn
  go_enter Tryz.func163, Tryz.ntmps163
  go_wp2_with fail
  go_loopw [5] (fun i wr => ∃ k : Nat, k ≤ n ∧ i = .int .i64 k ∧ (∀ (j : Nat) x, j < k → l[j]? = some x → x ≠ t) ∧ wr = w) (fun i _ => n - (intOf i).toNat)
  case atStart => exact ⟨0, Nat.zero_le _, rfl, fun j x hj _ => absurd hj (by omega), rfl⟩
  case round =>
    obtain ⟨k, hk, rfl, hw, rfl⟩ := hrel
    have HW : Hid (∀ (j : Nat) x, j < k → l[j]? = some x → x ≠ t) := hw
    clear hw
    by_cases hlt : k < n
    · obtain ⟨x, hx⟩ : ∃ r, l[k]? = some r := ⟨l[k]'(by have := HN.out; omega), List.getElem?_eq_getElem _⟩
      rcases HI.out with h | ⟨b, off, rfl, hat⟩
      · subst h; simp at hx
      have p1 := hat k x hx
      have HX : Hid (l[k]? = some x) := hx
      have gk : (k : Int) < n := by omega
      clear hx hat
      by_cases e : x = t
      · subst e
        have HE : Hid (tagB l x = true) := tagB_yes HX.out
        have hbe : (x.toList == x.toList) = true := by simp
        go_wp2_with fail
        go_ret
        exact ⟨tret_bool HE.out.symm, rfl⟩
      · have hbe := tag_ne e
        have HXE : Hid (x ≠ t) := e
        clear e
        go_wp2_with fail
        go_roundw
        case rel =>
          refine ⟨k + 1, by omega, by go_num, fun j y hj hy => ?_, by trivial⟩
          by_cases e : j = k
          · subst e
            rw [HX.out] at hy
            obtain rfl := Option.some.inj hy
            exact HXE.out
          · exact HW.out j y (by omega) hy
        case measure => simp [intOf]; omega
    · have HE : Hid (tagB l t = false) := tagB_no fun j x hx => HW.out j x (by have := (List.getElem?_eq_some_iff.1 hx).1; have := HN.out; omega) hx
      go_wp2_with fail
      go_ret
      exact ⟨tret_bool HE.out.symm, rfl⟩
/-- Where a text stands first, or -1. -/
def TagAt (l : List ByteArray) (t : ByteArray) (e : Ending) : Prop := ∃ i : Int, e = .returned (.int .i64 i) ∧ -1 ≤ i ∧ decide (0 ≤ i) = tagB l t
set_option maxHeartbeats 2000000 in
theorem slicesIndex_any (w : World) (a : Option Addr) (cap : Nat) (l : List ByteArray) (t : ByteArray) (hl : l.length ≤ 1048576) (hi : TIn w a l) :
    Calls Tryz.prog 213 #[.slice a l.length cap, .string t] w fun e w' => TagAt l t e ∧ w' = w := by
  have HI : Hid (TIn w a l) := hi
  clear hi
  generalize hnn : l.length = n at *
  have HN : Hid (l.length = n) := hnn
  clear hnn
  go_enter Tryz.func213, Tryz.ntmps213
  go_wp2_with fail
  go_loopw [8] (fun i wr => ∃ k : Nat, k ≤ n ∧ i = .int .i64 k ∧ (∀ (j : Nat) x, j < k → l[j]? = some x → x ≠ t) ∧ wr = w) (fun i _ => n - (intOf i).toNat)
  case atStart => exact ⟨0, Nat.zero_le _, rfl, fun j x hj _ => absurd hj (by omega), rfl⟩
  case round =>
    obtain ⟨k, hk, rfl, hw, rfl⟩ := hrel
    have HW : Hid (∀ (j : Nat) x, j < k → l[j]? = some x → x ≠ t) := hw
    clear hw
    by_cases hlt : k < n
    · obtain ⟨x, hx⟩ : ∃ r, l[k]? = some r := ⟨l[k]'(by have := HN.out; omega), List.getElem?_eq_getElem _⟩
      rcases HI.out with h | ⟨b, off, rfl, hat⟩
      · subst h; simp at hx
      have p1 := hat k x hx
      have HX : Hid (l[k]? = some x) := hx
      have gk : (k : Int) < n := by omega
      clear hx hat
      by_cases e : x = t
      · subst e
        have HE : Hid (tagB l x = true) := tagB_yes HX.out
        have hbe : (x.toList == x.toList) = true := by simp
        go_wp2_with fail
        go_ret
        exact ⟨⟨_, rfl, by omega, by rw [HE.out]; simp⟩, rfl⟩
      · have hbe := tag_ne (Ne.symm e)
        have HXE : Hid (x ≠ t) := e
        clear e
        go_wp2_with fail
        go_roundw
        case rel =>
          refine ⟨k + 1, by omega, by go_num, fun j y hj hy => ?_, by trivial⟩
          by_cases e : j = k
          · subst e
            rw [HX.out] at hy
            obtain rfl := Option.some.inj hy
            exact HXE.out
          · exact HW.out j y (by omega) hy
        case measure => simp [intOf]; omega
    · have HE : Hid (tagB l t = false) := tagB_no fun j x hx => HW.out j x (by have := (List.getElem?_eq_some_iff.1 hx).1; have := HN.out; omega) hx
      go_wp2_with fail
      go_ret
      exact ⟨⟨-1, rfl, by omega, by rw [HE.out]; simp⟩, rfl⟩
set_option maxHeartbeats 1000000 in
theorem implTagged_any (w : World) (a : Option Addr) (cap : Nat) (l : List ByteArray) (t : ByteArray) (hl : l.length ≤ 1048576) (hi : TIn w a l) :
    Calls Tryz.prog 161 #[.slice a l.length cap, .string t] w fun e w' => e = .returned (.bool (tagB l t)) ∧ w' = w := by
  have HI : Hid (Calls Tryz.prog 213 #[.slice a l.length cap, .string t] w fun e w' => TagAt l t e ∧ w' = w) := slicesIndex_any w a cap l t hl hi
  have HC : Hid (Calls Tryz.prog 195 #[.slice a l.length cap, .string t] w fun e w' => e = .returned (.bool (tagB l t)) ∧ w' = w) := by
    clear hi
    generalize l.length = n at *
    show Calls _ _ _ _ _
    go_enter Tryz.func195, Tryz.ntmps195
    go_wp2_with fail
    refine HI.out.mono ?_
    rintro e w1 ⟨⟨i, rfl, _, hi⟩, rfl⟩
    have HD : Hid (decide (0 ≤ i) = tagB l t) := hi
    clear hi
    go_wp2_with fail
    go_ret
    exact ⟨tret_bool HD.out, rfl⟩
  clear hi HI
  generalize l.length = n at *
  go_enter Tryz.func161, Tryz.ntmps161
  go_wp2_with fail
  refine HC.out.mono ?_
  rintro e w1 ⟨rfl, rfl⟩
  go_wp2_with fail
  go_ret
  exact ⟨rfl, rfl⟩
end Go.Proofs.YtdooopkpnanekaaGreatDoor
/-
  The keys of entries that are meant, by the model.
-/
namespace Go.Proofs.YtdooopkpnanekaaGreatDoor
open Go.ChangeShapes Go.WideShapes Go.ChangeAt Go.RowKit Go.Sort
/-- The keys of those that are meant. -/
def keysP (p : Ent → Bool) (L : List Ent) : List ByteArray := (L.filter p).map Ent.key
def tagP (tag : ByteArray) (x : Ent) : Bool := tagB x.ts tag
theorem keysP_next {p : Ent → Bool} {l : List (Ent × EntR)} {k : Nat} {q : Ent × EntR} (h : l[k]? = some q) : keysP p ((l.take (k + 1)).map Prod.fst) = if p q.1 then keysP p ((l.take k).map Prod.fst) ++ [q.1.key] else keysP p ((l.take k).map Prod.fst) := by
  unfold keysP
  rw [take_next h, List.map_append, List.filter_append]
  cases hk : p q.1 <;> simp [hk]
theorem keysP_len (p : Ent → Bool) (L : List Ent) : (keysP p L).length ≤ L.length := by unfold keysP; rw [List.length_map]; exact List.length_filter_le _ _
theorem RowT.made0 (w : World) (base : Nat) (hb : base ≤ w.heap.size) : RowT (w.alloc (.cells #[] 9)) base (.slice (some ⟨w.heap.size, 0, none⟩) 0 0) [] := World.ownsRow_made w #[] 0 hb (by unfold maxLen; omega) rfl
theorem RowT.below {w w' : World} {base : Nat} {v : Value} {l : List ByteArray} (h : RowT w base v l) (hb : Below w.heap.size w w') : RowT w' base v l := row_below h hb
theorem RowT.lower {w : World} {base b0 : Nat} {v : Value} {l : List ByteArray} (h : RowT w base v l) (hb : b0 ≤ base) : RowT w b0 v l := row_lower h hb
theorem RowT.nil (w : World) (base : Nat) : RowT w base (.slice none 0 0) [] := World.ownsRow_nil _ _ _ _
theorem cTexts_app (l m : List ByteArray) : cTexts (l ++ m) = cTexts l ++ cTexts m := by simp [cTexts]
/-- A text is appended. -/
theorem RowT.app {w w1 w3 : World} {base g cap n : Nat} {va : Option Addr} {vc : Nat} {l : List ByteArray} {t : ByteArray} (hn : l.length = n) (hs : base ≤ w1.heap.size) (hO : w1.ownsRow base 9 1 (.slice va n vc) n (cTexts l)) (h1 : w3.ownsRow base 9 1 (.slice (some ⟨g, 0, none⟩) (n + 1) cap) (n + 1) (cTexts l ++ [.string t])) (h2 : w1.grownBy w3 (Value.slice va n vc).ownBlock) (hb : Below w.heap.size w w1) (hbw : base = w.heap.size) : RowT w3 base (.slice (some ⟨g, 0, none⟩) (n + 1) cap) (l ++ [t]) ∧ Below w.heap.size w w3 := by
  subst hn hbw
  refine ⟨?_, hb.trans ((Below.refl _ _).grown h2 hs (fun q hq => row_ge hO q hq))⟩
  unfold RowT
  rw [List.length_append, cTexts_app]
  exact h1
theorem cell_str (w : World) (t : ByteArray) (T : TypeId) : ∀ j u, ([Value.string t] : List Value)[j]? = some u → (w.alloc (.cells #[.string t] T)).cell? ((⟨w.heap.size, 0, none⟩ : Addr).add j) = some u := by
  intro j u hj
  match j, hj with
  | 0, hj => simp at hj; subst hj; rw [cadd]; simp
/-- While keys are told: where the row of all entries lies, and the row of keys. -/
structure KW (w w1 : World) (av : Value) (al : List (Ent × EntR)) (v : Value) (X : World) : Prop where
  b : Below w.heap.size w X
  all : OwnE X (w.heap.size + 1) av al
  far : ∀ q, v.ownBlock = some q → q = w.heap.size ∨ w1.heap.size ≤ q
  lt : ∀ q, av.ownBlock = some q → q < w1.heap.size
  le : w1.heap.size ≤ X.heap.size
theorem KW.below {w w1 X X' : World} {av v : Value} {al : List (Ent × EntR)} (h : KW w w1 av al v X) (hb : Below X.heap.size X X') : KW w w1 av al v X' :=
  ⟨h.b.trans (hb.mono h.b.size), h.all.below hb, h.far, h.lt, Nat.le_trans h.le hb.size⟩
theorem KW.app {w w1 X X' : World} {av v v' : Value} {al : List (Ent × EntR)} {g : Nat} (h : KW w w1 av al v X) (hg : X.grownBy X' v.ownBlock) (hb : Below w.heap.size w X') (hv : v'.ownBlock = some g) (h3 : v.ownBlock = some g ∨ g = X.heap.size) : KW w w1 av al v' X' := by
  refine ⟨hb, World.ownsRow.kept h.all hg ?_, fun q hq => ?_, h.lt, Nat.le_trans h.le hg.size⟩
  · cases e : av.ownBlock with
    | none => exact .inl rfl
    | some q =>
      refine .inr fun e2 => ?_
      have h1 := own_geE h.all q e
      have h2 := h.lt q e
      rcases h.far q e2.symm with h4 | h4 <;> omega
  · rw [hv] at hq
    obtain rfl := Option.some.inj hq
    rcases h3 with h3 | rfl
    · exact h.far _ h3
    · exact .inr h.le
set_option maxRecDepth 100000 in
set_option maxHeartbeats 8000000 in
theorem l9Tagged_at (w : World) (S : Nat) (tag : ByteArray) (ta ka : Option Addr) (tc kc : Nat) (tl kl : List (Ent × EntR)) (c2 : w.cell? ⟨S, 2, none⟩ = some (.slice ta tl.length tc)) (c3 : w.cell? ⟨S, 3, none⟩ = some (.slice ka kl.length kc)) (hl : tl.length + kl.length ≤ 1000000) (hf : ∀ q ∈ tl ++ kl, EntFit q.1) (ht : EntsIn w ta tl) (hk : EntsIn w ka kl) :
    Calls Tryz.prog 118 #[.pointer (some ⟨S, 0, none⟩), .string tag] w fun e w' => (∃ v, e = .returned v ∧ RowT w' w.heap.size v (keysP (tagP tag) (tl.map Prod.fst ++ kl.map Prod.fst))) ∧ Below w.heap.size w w' := by
  obtain ⟨i0, hi0, hz0, hz1, hz2⟩ := info_parts cTextI
  obtain ⟨W, hW⟩ : ∃ W, W = w.alloc (.cells #[] 9) := ⟨_, rfl⟩
  have HW : Hid (W = w.alloc (.cells #[] 9)) := hW
  have bW : Below w.heap.size w W := by rw [hW]; exact (Below.refl _ _).alloc (Nat.le_refl _) _
  have hS : S < w.heap.size := block_lt_of_cell c2
  have CA : Hid (Calls Tryz.prog 94 #[.pointer (some ⟨S, 0, none⟩)] W fun e w' => (∃ v, e = .returned v ∧ OwnE w' W.heap.size v (tl ++ kl)) ∧ Below W.heap.size W w') := l8All_any W S 0 ta ka tc kc tl kl (by rw [bW.cell (p := ⟨S, 0 + 2, none⟩) hS]; exact c2) (by rw [bW.cell (p := ⟨S, 0 + 3, none⟩) hS]; exact c3) hl (ht.keep bW) (hk.keep bW)
  have HIN : Hid (∀ X, Below w.heap.size w X → ∀ q ∈ tl ++ kl, EntIn X q.1 q.2) := fun X hX q hq' => by
    rcases List.mem_append.1 hq' with h | h
    · rcases ht.keep hX with e | ⟨b, off, _, hat⟩
      · subst e; simp at h
      · obtain ⟨i, hi⟩ := List.mem_iff_getElem?.1 h; exact hat.in hi
    · rcases hk.keep hX with e | ⟨b, off, _, hat⟩
      · subst e; simp at h
      · obtain ⟨i, hi⟩ := List.mem_iff_getElem?.1 h; exact hat.in hi
  have HF : Hid (∀ q ∈ tl ++ kl, EntFit q.1) := hf
  have HR0 : Hid (RowT W w.heap.size (.slice (some ⟨w.heap.size, 0, none⟩) 0 0) [] ∧ Below w.heap.size w W) := ⟨by rw [hW]; exact RowT.made0 w _ (Nat.le_refl _), bW⟩
  have HWS : Hid (w.heap.size + 1 ≤ W.heap.size) := by rw [hW]; simp [Hid]
  rw [← List.map_append]
  have hln : (tl ++ kl).length ≤ 1000000 := by rw [List.length_append]; exact hl
  clear hW bW c2 c3 ht hk hf hS hl
  generalize tl ++ kl = al at *
  go_enter Tryz.func118, Tryz.ntmps118
  go_wp2_with fail
  rw [← HW.out]
  refine CA.out.mono ?_
  rintro e w1 ⟨⟨v, rfl, ho⟩, hb1⟩
  have hbb := HR0.out.2.trans (hb1.mono HR0.out.2.size)
  obtain ⟨a, c, rfl, _, hi⟩ := ho.at (HIN.out _ hbb)
  have K1 : Hid (KW w w1 (.slice a al.length c) al (.slice (some ⟨w.heap.size, 0, none⟩) 0 0) w1 ∧ RowT w1 w.heap.size (.slice (some ⟨w.heap.size, 0, none⟩) 0 0) []) := ⟨⟨hbb, ho.lower HWS.out, fun q hq => .inl (Option.some.inj hq).symm, fun q hq => (World.ownsRow.lt ho q hq).2, Nat.le_refl _⟩, HR0.out.1.below hb1⟩
  clear HW CA hb1 hbb ho hi HR0 HWS
  obtain ⟨n, hn0⟩ : ∃ n, al.length = n := ⟨_, rfl⟩
  rw [hn0] at hln K1 ⊢
  have HN : Hid (al.length = n) := hn0
  clear hn0
  go_wp2_with fail
  go_loopw [5, 7] (fun v i wr => ∃ k : Nat, k ≤ n ∧ i = .int .i64 (k : Int) ∧ RowT wr w.heap.size v (keysP (tagP tag) ((al.take k).map Prod.fst)) ∧ KW w w1 (.slice a n c) al v wr) (fun _ i _ => n - (intOf i).toNat)
  case atStart => exact ⟨0, Nat.zero_le _, rfl, by simpa [keysP] using K1.out.2, K1.out.1⟩
  case round =>
    obtain ⟨k, hk, rfl, ho, hkw⟩ := hrel
    clear K1
    by_cases hlt : k < n
    · obtain ⟨⟨x, r⟩, hr⟩ : ∃ r, al[k]? = some r := ⟨al[k]'(by have := HN.out; omega), List.getElem?_eq_getElem _⟩
      have hin : EntsIn wr a al := by
        obtain ⟨a', c', e', _, hi⟩ := hkw.all.at (HIN.out _ hkw.b)
        simp only [Value.slice.injEq] at e'
        rw [e'.1]; exact hi
      rcases hin with h | ⟨b, off, rfl, hat⟩
      · subst h; simp at hr
      have cc := hat.cells hr
      have p0 := cc.1
      have p11 := cc.2.2.2.2.2.2.2.2.2.2.2.1
      simp only at p0 p11
      have ft := HF.out (x, r) (List.mem_of_getElem? hr)
      have CT : Hid (Calls Tryz.prog 163 #[.slice r.ta x.ts.length r.tc, .string tag] wr fun e w' => e = .returned (.bool (tagP tag x)) ∧ w' = wr) := specTagged_any wr r.ta r.tc x.ts tag ft.t (hat.in hr).k
      have hnx := keysP_next (p := tagP tag) hr
      simp only at hnx
      have hle : (keysP (tagP tag) ((al.take k).map Prod.fst)).length ≤ 1000000 := by
        have := keysP_len (tagP tag) ((al.take k).map Prod.fst)
        rw [List.length_map, List.length_take] at this
        omega
      obtain ⟨m, hm⟩ : ∃ m, m = keysP (tagP tag) ((al.take k).map Prod.fst) := ⟨_, rfl⟩
      rw [← hm] at ho hnx hle
      obtain ⟨va, vc, rfl, hvc⟩ := row_form ho
      have HO : Hid (RowT wr w.heap.size (.slice va m.length vc) m) := ho
      have HB : Hid (KW w w1 (.slice (some ⟨b, off, none⟩) n c) al (.slice va m.length vc) wr) := hkw
      have gk : (k : Int) < n := by omega
      have gk0 : (0 : Int) ≤ k := by omega
      clear hat hr hm ho hkw cc ft HF HIN
      cases he : tagP tag x
      · rw [he] at hnx CT
        simp only [Bool.false_eq_true, if_false] at hnx
        have HA : Hid (RowT wr w.heap.size (.slice va m.length vc) (keysP (tagP tag) ((al.take (k + 1)).map Prod.fst)) ∧ KW w w1 (.slice (some ⟨b, off, none⟩) n c) al (.slice va m.length vc) wr) := ⟨by rw [hnx]; exact HO.out, HB.out⟩
        clear hnx HO HB he
        generalize m.length = mn at *
        go_wp2_with fail
        refine CT.out.mono ?_
        rintro e w2 ⟨rfl, rfl⟩
        clear CT
        go_wp2_with fail
        go_roundw
        case rel => exact ⟨k + 1, by omega, by go_num, HA.out.1, HA.out.2⟩
        case measure => simp [intOf]; omega
      · rw [he] at hnx CT
        simp only [if_true] at hnx
        obtain ⟨xk, hxk⟩ : ∃ t, x.key = t := ⟨_, rfl⟩
        rw [hxk] at hnx p0
        have K2 : Below wr.heap.size wr (wr.alloc (.cells #[.string xk] 9)) := (Below.refl _ _).alloc (Nat.le_refl _) _
        obtain ⟨mn, hmn⟩ : ∃ q, m.length = q := ⟨_, rfl⟩
        have O2 : Hid ((wr.alloc (.cells #[.string xk] 9)).ownsRow w.heap.size 9 1 (.slice va mn vc) mn (cTexts m)) := by
          have := HO.out.below K2
          unfold RowT at this
          rw [hmn] at this
          exact this
        have s2 : Hid (w.heap.size ≤ (wr.alloc (.cells #[.string xk] 9)).heap.size) := by show _ ≤ _; have := K2.size; have := HB.out.b.size; omega
        have HA : Hid (∀ g cap w3, w3.ownsRow w.heap.size 9 1 (.slice (some ⟨g, 0, none⟩) (mn + 1) cap) (mn + 1) (cTexts m ++ [.string xk]) → (wr.alloc (.cells #[.string xk] 9)).grownBy w3 (Value.slice va mn vc).ownBlock → ((Value.slice va mn vc).ownBlock = some g ∨ g = (wr.alloc (.cells #[.string xk] 9)).heap.size) → RowT w3 w.heap.size (.slice (some ⟨g, 0, none⟩) (mn + 1) cap) (keysP (tagP tag) ((al.take (k + 1)).map Prod.fst)) ∧ KW w w1 (.slice (some ⟨b, off, none⟩) n c) al (.slice (some ⟨g, 0, none⟩) (mn + 1) cap) w3) := fun g cap w3 h1 h2 h3 => by
          have := RowT.app (w := w) hmn s2.out O2.out h1 h2 (HB.out.below K2).b rfl
          rw [hnx]
          have hkw := HB.out.below K2
          rw [hmn] at hkw
          exact ⟨this.1, hkw.app h2 this.2 rfl h3⟩
        have HW : Hid (∀ j u, ([Value.string xk] : List Value)[j]? = some u → (wr.alloc (.cells #[.string xk] 9)).cell? ((⟨wr.heap.size, 0, none⟩ : Addr).add j) = some u) := cell_str wr xk _
        rw [hmn] at hle hvc ⊢
        clear K2 hnx HO HB hmn
        go_wp2_with fail
        refine CT.out.mono ?_
        rintro e w2 ⟨rfl, rfl⟩
        clear CT
        go_wp2_with (at_builtin; refine wpList_append_lies _ rfl (.tmp 24) (.tmp 30) 42 rfl w.heap.size 9 i0 _ 1 16 Tryz.underlying42 hi0 hz0 hz1 hz2 rfl (by omega) _ mn (cTexts m) rfl O2.out _ 1 1 [.string xk] rfl rfl HW.out (by simp [Value.oneCell']) (by omega) (by unfold maxLen; omega) (by omega) s2.out _ rfl ?_; intro g cp w3 h1 h2 h3 h4)
        go_roundw
        case rel => exact ⟨k + 1, by omega, by go_num, (HA.out _ _ _ h1 h2 h3).1, (HA.out _ _ _ h1 h2 h3).2⟩
        case measure => simp [intOf]; omega
    · have ek : k = n := by omega
      subst ek
      obtain ⟨va, vc, rfl, _⟩ := row_form ho
      have HE : Hid ((∃ v', Ending.returned (.slice va (keysP (tagP tag) ((al.take k).map Prod.fst)).length vc) = .returned v' ∧ RowT wr w.heap.size v' (keysP (tagP tag) (al.map Prod.fst))) ∧ Below w.heap.size w wr) := ⟨⟨_, rfl, by rw [List.take_of_length_le (by have := HN.out; omega)] at ho ⊢; exact ho⟩, hkw.b⟩
      clear ho hkw
      go_wp2_with fail
      go_ret
      exact HE.out
end Go.Proofs.YtdooopkpnanekaaGreatDoor
/-
  Entries that are meant, told by a function value; their keys, by the program.
-/
namespace Go.Proofs.YtdooopkpnanekaaGreatDoor
open Go.ChangeShapes Go.WideShapes Go.ChangeAt Go.RowKit Go.Sort
/-- The function value g, bound to lb, tells whether an entry is meant, as long as C holds; what lies below B0 is all that C speaks of. -/
structure PredF (B0 : Nat) (g : Nat) (lb : Array Value) (p : Ent → Bool) (C : World → Prop) : Prop where
  eg : ∀ args X, (callFunc g args).run Tryz.prog X = .ok (.enter g args) X
  keep : ∀ X X', C X → Below B0 X X' → C X'
  call : ∀ X (h : Hdl), C X → HThere X h → h.x.ts.length ≤ 1048576 → Calls Tryz.prog g (#[.pointer (some ⟨h.b, h.o, none⟩)] ++ lb) X fun e X' => e = .returned (.bool (p h.x)) ∧ Below X.heap.size X X'
set_option maxHeartbeats 2000000 in
theorem predAny (B0 : Nat) : PredF B0 116 #[] (fun _ => true) (fun _ => True) := by
  refine ⟨enters_of Tryz.func116 (by kernel_rfl) rfl, fun _ _ _ _ => trivial, fun X h _ _ _ => ?_⟩
  show Calls Tryz.prog 116 #[.pointer (some ⟨h.b, h.o, none⟩)] X _
  go_enter Tryz.func116, Tryz.ntmps116
  go_wp2_with fail
  go_ret
  exact ⟨rfl, Below.refl _ _⟩
set_option maxHeartbeats 4000000 in
theorem predKey (B0 K : Nat) (key : ByteArray) (hK : K < B0) : PredF B0 164 #[.pointer (some ⟨K, 0, none⟩)] (isKey key) (fun X => X.cell? ⟨K, 0, none⟩ = some (.string key)) := by
  refine ⟨enters_of Tryz.func164 (by kernel_rfl) rfl, fun X X' h hb => by rw [hb.cell (p := ⟨K, 0, none⟩) hK]; exact h, fun X h hc ht _ => ?_⟩
  show Calls Tryz.prog 164 #[.pointer (some ⟨h.b, h.o, none⟩), .pointer (some ⟨K, 0, none⟩)] X _
  have c0 := ht.cells.1
  clear ht
  have HE : Hid (isKey key h.x = (h.x.key.toList == key.toList)) := rfl
  generalize isKey key h.x = z at *
  generalize h.x.key = xk at *
  cases he : (xk.toList == key.toList)
  · rw [he] at HE
    go_enter Tryz.func164, Tryz.ntmps164
    go_wp2_with fail
    go_region
    all_goals go_wp2_with fail
    all_goals go_ret
    all_goals exact ⟨by rw [HE.out]; rfl, (Below.refl _ _).drew⟩
  · rw [he] at HE
    go_enter Tryz.func164, Tryz.ntmps164
    go_wp2_with fail
    go_region
    all_goals go_wp2_with fail
    all_goals go_ret
    all_goals exact ⟨by rw [HE.out]; rfl, (Below.refl _ _).drew⟩
set_option maxHeartbeats 4000000 in
theorem predTag (B0 K : Nat) (tag : ByteArray) (hK : K < B0) : PredF B0 160 #[.pointer (some ⟨K, 0, none⟩)] (tagP tag) (fun X => X.cell? ⟨K, 0, none⟩ = some (.string tag)) := by
  refine ⟨enters_of Tryz.func160 (by kernel_rfl) rfl, fun X X' h hb => by rw [hb.cell (p := ⟨K, 0, none⟩) hK]; exact h, fun X h hc ht htl => ?_⟩
  show Calls Tryz.prog 160 #[.pointer (some ⟨h.b, h.o, none⟩), .pointer (some ⟨K, 0, none⟩)] X _
  have c11 := cell_regrown ht.cells.2.2.2.2.2.2.2.2.2.2.2.1
  have cK := cell_regrown hc
  have cE : ∀ d os, Calls Tryz.prog 161 #[.slice h.r.ta h.x.ts.length h.r.tc, .string tag] (grow (redrawn X d) os) fun e w'' => e = .returned (.bool (tagP tag h.x)) ∧ ∃ p : Regrown, w'' = grow (redrawn X p.d) p.os := fun d os => by
    have b := below_regrown X d os
    refine Calls.regrown_of ((implTagged_any _ h.r.ta h.r.tc h.x.ts tag htl (ht.2.keep b).k).mono ?_)
    rintro e w' ⟨rfl, rfl⟩
    exact ⟨rfl, Below.refl _ _⟩
  clear ht hc htl
  generalize tagP tag h.x = z at *
  go_enter Tryz.func160, Tryz.ntmps160
  go_wp2_with fail
  refine wp_region_quiet_below (by kernel_rfl) (by kernel_rfl) ?_
  repeat (go_big_quiet_step ((go_at_call 161; exact cE _ _)))
  refine wpQuiet_nil ?_
  intro w3 hw3
  have KB3 : Hid (Below X.heap.size X w3) := by
    obtain ⟨⟨d, os⟩, rfl⟩ := hw3
    exact below_regrown X d os
  clear c11 cK cE hw3
  go_wp2_with fail
  go_ret
  exact ⟨rfl, KB3.out⟩
theorem keysH_next {p : Ent → Bool} {l : List Hdl} {k : Nat} {q : Hdl} (h : l[k]? = some q) : keysP p ((l.take (k + 1)).map Hdl.x) = if p q.x then keysP p ((l.take k).map Hdl.x) ++ [q.x.key] else keysP p ((l.take k).map Hdl.x) := by
  unfold keysP
  rw [take_next h, List.map_append, List.filter_append]
  cases hk : p q.x <;> simp [hk]
set_option maxRecDepth 100000 in
set_option maxHeartbeats 8000000 in
theorem keysOf_any (w : World) (v1 v2 : Value) (base B0 g : Nat) (lb : Array Value) (p : Ent → Bool) (C : World → Prop) (l1 l2 : List Hdl) (h : TwoP w base v1 v2 l1 l2) (PF : PredF B0 g lb p C) (hC : C w) (hB0 : B0 ≤ w.heap.size) (hl : l1.length + l2.length ≤ 1000) (hth : ∀ h ∈ l1 ++ l2, HThere w h) (hts : ∀ h ∈ l1 ++ l2, h.x.ts.length ≤ 1048576) (hks : ∀ h ∈ l1 ++ l2, h.x.key.size ≤ 1048576) :
    Calls Tryz.prog 115 #[.agg #[v1, v2], .func (.func g) #[] lb] w fun e w' => (∃ v, e = .returned v ∧ RowT w' w.heap.size v (keysP p ((l1 ++ l2).map Hdl.x))) ∧ Below w.heap.size w w' := by
  obtain ⟨i0, hi0, hz0, hz1, hz2⟩ := info_parts cTextI
  obtain ⟨a1, k1, e1, _⟩ := h.a.form
  obtain ⟨a2, k2, e2, _⟩ := h.b.form
  obtain ⟨W, hW⟩ : ∃ W, W = w.alloc (.cells #[v1, v2] 98) := ⟨_, rfl⟩
  have HW : Hid (W = w.alloc (.cells #[v1, v2] 98)) := hW
  have bW : Below w.heap.size w W := by rw [hW]; exact (Below.refl _ _).alloc (Nat.le_refl _) _
  have CA : Hid (Calls Tryz.prog 87 #[.agg #[v1, v2]] W fun e w' => (∃ v, e = .returned v ∧ OwnP w' W.heap.size v (l1 ++ l2)) ∧ Below W.heap.size W w') := shAll_any W v1 v2 base l1 l2 (h.below bW) (by omega)
  have HT : Hid (∀ X, Below w.heap.size w X → ∀ h ∈ l1 ++ l2, X.cell? ⟨h.b, h.o, none⟩ = some (.string h.x.key) ∧ Calls Tryz.prog g (#[.pointer (some ⟨h.b, h.o, none⟩)] ++ lb) X fun e X' => e = .returned (.bool (p h.x)) ∧ Below X.heap.size X X') := fun X hX h hh => ⟨(((hth h hh).keep hX).cells).1, PF.call X h (PF.keep _ _ hC (hX.mono hB0)) ((hth h hh).keep hX) (hts h hh)⟩
  have HKZ : Hid (∀ h ∈ l1 ++ l2, h.x.key.size ≤ 1048576) := hks
  have HB : Hid (Below w.heap.size w W) := bW
  have hln : (l1 ++ l2).length ≤ 1000 := by rw [List.length_append]; exact hl
  have eg := PF.eg
  clear hW bW h hth hl PF hC hts hks
  generalize l1 ++ l2 = al at *
  subst e1
  subst e2
  go_enter Tryz.func115, Tryz.ntmps115
  go_wp2_with fail
  rw [← HW.out]
  refine CA.out.mono ?_
  rintro e w1 ⟨⟨v, rfl, ho⟩, hb1⟩
  obtain ⟨av, ac, rfl, _, hf⟩ := ho.form
  have HB1 : Hid (Below w.heap.size w w1) := HB.out.trans (hb1.mono HB.out.size)
  have HC : Hid (∀ X, Below w1.heap.size w1 X → ∀ (k : Nat) h, al[k]? = some h → ∃ g, av = some ⟨g, 0, none⟩ ∧ X.cell? ⟨g, k, none⟩ = some (.pointer (some ⟨h.b, h.o, none⟩))) := fun X hX k h hk => by
    rcases hf with e | ⟨g, e, _, hg, hc⟩
    · rw [e] at hk; simp at hk
    · exact ⟨g, e, by rw [hX.cell (p := ⟨g, k, none⟩) hg]; exact hc k h hk⟩
  clear hf ho hb1 HB HW CA
  obtain ⟨n, hn⟩ : ∃ n, al.length = n := ⟨_, rfl⟩
  rw [hn] at hln ⊢
  have HN : Hid (al.length = n) := hn
  clear hn
  go_wp2_with fail
  go_loopw [5, 11] (fun v i wr => ∃ k : Nat, k ≤ n ∧ i = .int .i64 (k : Int) ∧ RowT wr w1.heap.size v (keysP p ((al.take k).map Hdl.x)) ∧ Below w1.heap.size w1 wr) (fun _ i _ => n - (intOf i).toNat)
  case atStart => exact ⟨0, Nat.zero_le _, rfl, by simpa [keysP] using RowT.nil w1 w1.heap.size, Below.refl _ _⟩
  case round =>
    obtain ⟨k, hk, rfl, ho, hb⟩ := hrel
    by_cases hlt : k < n
    · obtain ⟨q, hr⟩ : ∃ r, al[k]? = some r := ⟨al[k]'(by have := HN.out; omega), List.getElem?_eq_getElem _⟩
      obtain ⟨g', rfl, p1⟩ := HC.out wr hb k q hr
      have hqm := List.mem_of_getElem? hr
      have HBW : Hid (Below w.heap.size w wr) := HB1.out.trans (hb.mono HB1.out.size)
      have CP := (HT.out wr HBW.out q hqm).2
      have hnx := keysH_next (p := p) hr
      have hle : (keysP p ((al.take k).map Hdl.x)).length ≤ 1000000 := by
        have := keysP_len p ((al.take k).map Hdl.x)
        rw [List.length_map, List.length_take] at this
        omega
      obtain ⟨m, hm⟩ : ∃ m, m = keysP p ((al.take k).map Hdl.x) := ⟨_, rfl⟩
      rw [← hm] at ho hnx hle
      obtain ⟨va, vc, rfl, hvc⟩ := row_form ho
      have HO : Hid (RowT wr w1.heap.size (.slice va m.length vc) m) := ho
      have HBb : Hid (Below w1.heap.size w1 wr) := hb
      have gk : (k : Int) < n := by omega
      have gk0 : (0 : Int) ≤ k := by omega
      have HCL : Hid (∀ X, Below w.heap.size w X → X.cell? ⟨q.b, q.o, none⟩ = some (.string q.x.key)) := fun X hX => (HT.out X hX q hqm).1
      have HZ := HKZ.out q hqm
      clear hr hm ho hb HC HT hqm HKZ
      cases he : p q.x
      · rw [he] at hnx CP
        simp only [Bool.false_eq_true, if_false] at hnx
        have HA : Hid (∀ X, Below wr.heap.size wr X → RowT X w1.heap.size (.slice va m.length vc) (keysP p ((al.take (k + 1)).map Hdl.x)) ∧ Below w1.heap.size w1 X) := fun X hX => ⟨by rw [hnx]; exact HO.out.below hX, HBb.out.trans (hX.mono HBb.out.size)⟩
        clear hnx HO HBb he HCL
        generalize m.length = mn at *
        go_wp2_with (go_at_fn g; refine CP.mono ?_; rintro e w2 ⟨rfl, hb2⟩)
        go_roundw
        case rel => exact ⟨k + 1, by omega, by go_num, (HA.out _ hb2).1, (HA.out _ hb2).2⟩
        case measure => simp [intOf]; omega
      · rw [he] at hnx CP
        simp only [if_true] at hnx
        obtain ⟨xk, hxk⟩ : ∃ t, q.x.key = t := ⟨_, rfl⟩
        rw [hxk] at hnx HCL HZ
        have CCL : Hid (∀ X, Calls Tryz.prog 134 #[.string xk] X fun e w' => e = .returned (.string xk) ∧ Below X.heap.size X w') := fun X => clone_text xk X HZ
        obtain ⟨mn, hmn⟩ : ∃ q, m.length = q := ⟨_, rfl⟩
        have HQ : Hid (∀ X, Below wr.heap.size wr X → (X.alloc (.cells #[.string xk] 9)).ownsRow w1.heap.size 9 1 (.slice va mn vc) mn (cTexts m) ∧ w1.heap.size ≤ (X.alloc (.cells #[.string xk] 9)).heap.size ∧ (∀ g cap w3, w3.ownsRow w1.heap.size 9 1 (.slice (some ⟨g, 0, none⟩) (mn + 1) cap) (mn + 1) (cTexts m ++ [.string xk]) → (X.alloc (.cells #[.string xk] 9)).grownBy w3 (Value.slice va mn vc).ownBlock → RowT w3 w1.heap.size (.slice (some ⟨g, 0, none⟩) (mn + 1) cap) (keysP p ((al.take (k + 1)).map Hdl.x)) ∧ Below w1.heap.size w1 w3)) := fun X hX => by
          have K2 : Below X.heap.size X (X.alloc (.cells #[.string xk] 9)) := (Below.refl _ _).alloc (Nat.le_refl _) _
          have O2 : (X.alloc (.cells #[.string xk] 9)).ownsRow w1.heap.size 9 1 (.slice va mn vc) mn (cTexts m) := by
            have := (HO.out.below hX).below K2
            unfold RowT at this
            rw [hmn] at this
            exact this
          have bX : Below w1.heap.size w1 (X.alloc (.cells #[.string xk] 9)) := HBb.out.trans ((hX.trans (K2.mono hX.size)).mono HBb.out.size)
          refine ⟨O2, bX.size, fun g cap w3 h1 h2 => ?_⟩
          have := RowT.app (w := w1) hmn bX.size O2 h1 h2 bX rfl
          rw [hnx]
          exact this
        rw [hmn] at hle hvc ⊢
        clear hnx HO HBb hmn he
        go_wp2_with (go_at_fn g; refine CP.mono ?_; rintro e w2 ⟨rfl, hb2⟩; have y0 := HCL.out _ (HBW.out.trans (hb2.mono HBW.out.size)))
        refine (CCL.out _).mono ?_
        rintro e w3 ⟨rfl, hb3⟩
        have hb23 := hb2.trans (hb3.mono hb2.size)
        have O2 : Hid _ := (HQ.out w3 hb23).1
        have s2 : Hid _ := (HQ.out w3 hb23).2.1
        have HA : Hid _ := (HQ.out w3 hb23).2.2
        have HW : Hid (∀ j u, ([Value.string xk] : List Value)[j]? = some u → (w3.alloc (.cells #[.string xk] 9)).cell? ((⟨w3.heap.size, 0, none⟩ : Addr).add j) = some u) := cell_str w3 xk _
        clear CP CCL HQ hb2 hb3 hb23 y0
        go_wp2_with (at_builtin; refine wpList_append_lies _ rfl (.tmp 18) (.tmp 24) 42 rfl w1.heap.size 9 i0 _ 1 16 Tryz.underlying42 hi0 hz0 hz1 hz2 rfl (by omega) _ mn (cTexts m) rfl O2.out _ 1 1 [.string xk] rfl rfl HW.out (by simp [Value.oneCell']) (by omega) (by unfold maxLen; omega) (by omega) s2.out _ rfl ?_; intro g cp w4 h1 h2 h3 h4)
        go_roundw
        case rel => exact ⟨k + 1, by omega, by go_num, (HA.out _ _ _ h1 h2).1, (HA.out _ _ _ h1 h2).2⟩
        case measure => simp [intOf]; omega
    · have ek : k = n := by omega
      subst ek
      obtain ⟨va, vc, rfl, _⟩ := row_form ho
      have HE : Hid ((∃ v', Ending.returned (.slice va (keysP p ((al.take k).map Hdl.x)).length vc) = .returned v' ∧ RowT wr w.heap.size v' (keysP p (al.map Hdl.x))) ∧ Below w.heap.size w wr) := ⟨⟨_, rfl, by rw [List.take_of_length_le (by have := HN.out; omega)] at ho ⊢; exact ho.lower HB1.out.size⟩, HB1.out.trans (hb.mono HB1.out.size)⟩
      clear ho hb HC HT HKZ
      go_wp2_with fail
      go_ret
      exact HE.out
end Go.Proofs.YtdooopkpnanekaaGreatDoor
/-
  slices.DeleteFunc at a row of pointers of one's own.
-/
namespace Go.Proofs.YtdooopkpnanekaaGreatDoor
open Go.ChangeShapes Go.WideShapes Go.ChangeAt Go.RowKit Go.Sort
theorem grow_below {w w' : World} (row : Option Nat) (h : Below w.heap.size w w') : w.grownBy w' row := ⟨h.os, h.tape, h.output, h.size, fun k hk _ => h.block k hk⟩
theorem grow_trans {w w1 w2 : World} {row : Option Nat} (h : w.grownBy w1 row) (k : w1.grownBy w2 row) : w.grownBy w2 row :=
  ⟨k.os.trans h.os, k.tape.trans h.tape, k.output.trans h.output, Nat.le_trans h.size k.size, fun i hi hn => (k.block i (Nat.lt_of_lt_of_le hi h.size) hn).trans (h.block i hi hn)⟩
theorem row_setCells {base g n cap : Nat} {e : TypeId} : ∀ (vs : List Value) (o : Nat) (w : World) (xs : List Value), w.ownsRow base e 1 (.slice (some ⟨g, 0, none⟩) n cap) n xs → ∃ ys, (w.setCells g o vs).ownsRow base e 1 (.slice (some ⟨g, 0, none⟩) n cap) n ys ∧ (∀ k, k < o → ys[k]? = xs[k]?) ∧ w.grownBy (w.setCells g o vs) (some g)
  | [], _, w, xs, h => ⟨xs, h, fun _ _ => rfl, grow_below _ (Below.refl _ _)⟩
  | v :: r, o, w, xs, h => by
    obtain ⟨h1, h2⟩ := World.ownsRow.stored h o v
    obtain ⟨ys, h3, h4, h5⟩ := row_setCells r (o + 1) _ _ h1
    exact ⟨ys, h3, fun k hk => by rw [h4 k (by omega), List.getElem?_set_ne (by omega)], grow_trans h2 h5⟩
theorem row_cut {w : World} {base g n cap i : Nat} {e : TypeId} {xs : List Value} (h : w.ownsRow base e 1 (.slice (some ⟨g, 0, none⟩) n cap) n xs) (hi : i ≤ n) : w.ownsRow base e 1 (.slice (some ⟨g, 0, none⟩) i cap) i (xs.take i) := by
  obtain ⟨hx, h2⟩ := h
  rcases h2 with ⟨h0, _⟩ | ⟨g', cap', cur, hv, hg, hh, hn, hcap, hsz, htake⟩
  · cases h0
  · simp only [Value.slice.injEq, Option.some.injEq, Addr.mk.injEq, and_true, true_and] at hv
    obtain ⟨rfl, rfl⟩ := hv
    refine ⟨by rw [List.length_take]; omega, .inr ⟨g, cap, cur, rfl, hg, hh, by omega, hcap, hsz, ?_⟩⟩
    rw [← htake, List.take_take]
    congr 1
    omega
/-- A function value tells of the handles l whether they are meant, whatever world follows w. -/
structure PredH (lo : Nat) (w : World) (g : Nat) (lb : Array Value) (p : Hdl → Bool) (l : List Hdl) : Prop where
  eg : ∀ args X, (callFunc g args).run Tryz.prog X = .ok (.enter g args) X
  call : ∀ X, Below lo w X → ∀ h ∈ l, Calls Tryz.prog g (#[.pointer (some ⟨h.b, h.o, none⟩)] ++ lb) X fun e X' => e = .returned (.bool (p h)) ∧ Below X.heap.size X X'
theorem PredH.later {lo : Nat} {w w' : World} {g : Nat} {lb : Array Value} {p : Hdl → Bool} {l : List Hdl} (h : PredH lo w g lb p l) (hb : Below lo w w') : PredH lo w' g lb p l := ⟨h.eg, fun X hX => h.call X (hb.trans hX)⟩
theorem PredH.sub {lo : Nat} {w : World} {g : Nat} {lb : Array Value} {p : Hdl → Bool} {l m : List Hdl} (h : PredH lo w g lb p l) (hs : ∀ x ∈ m, x ∈ l) : PredH lo w g lb p m := ⟨h.eg, fun X hX x hx => h.call X hX x (hs x hx)⟩
theorem PredF.h {B0 g : Nat} {lb : Array Value} {p : Ent → Bool} {C : World → Prop} {w : World} {l : List Hdl} (PF : PredF B0 g lb p C) (hC : C w) (hB : B0 ≤ w.heap.size) (hth : ∀ h ∈ l, HThere w h) (hts : ∀ h ∈ l, h.x.ts.length ≤ 1048576) : PredH w.heap.size w g lb (fun h => p h.x) l :=
  ⟨PF.eg, fun X hX h hh => PF.call X h (PF.keep _ _ hC (hX.mono hB)) ((hth h hh).keep hX) (hts h hh)⟩
def IdxR (p : Hdl → Bool) (l : List Hdl) (e : Ending) : Prop := (∃ A h B, l = A ++ h :: B ∧ p h = true ∧ (∀ a ∈ A, p a = false) ∧ e = .returned (.int .i64 (A.length : Int))) ∨ ((∀ h ∈ l, p h = false) ∧ e = .returned (.int .i64 (-1)))
set_option maxRecDepth 100000 in
set_option maxHeartbeats 8000000 in
theorem indexFunc_any (w : World) (lo base g : Nat) (lb : Array Value) (p : Hdl → Bool) (va : Option Addr) (vc : Nat) (l : List Hdl) (ho : OwnP w base (.slice va l.length vc) l) (hl : l.length ≤ 1000) (hlo : lo ≤ w.heap.size) (PH : PredH lo w g lb p l) :
    Calls Tryz.prog 221 #[.slice va l.length vc, .func (.func g) #[] lb] w fun e w' => IdxR p l e ∧ Below w.heap.size w w' := by
  obtain ⟨va', vc', e0, _, hf⟩ := ho.form
  simp only [Value.slice.injEq, true_and] at e0
  obtain ⟨rfl, rfl⟩ := e0
  have HC : Hid (∀ X, Below w.heap.size w X → ∀ (k : Nat) h, l[k]? = some h → ∃ g, va = some ⟨g, 0, none⟩ ∧ X.cell? ⟨g, k, none⟩ = some (.pointer (some ⟨h.b, h.o, none⟩))) := fun X hX k h hk => by
    rcases hf with e | ⟨g, e, _, hg, hc⟩
    · rw [e] at hk; simp at hk
    · exact ⟨g, e, by rw [hX.cell (p := ⟨g, k, none⟩) hg]; exact hc k h hk⟩
  have HP : Hid (∀ X, Below w.heap.size w X → ∀ h ∈ l, Calls Tryz.prog g (#[.pointer (some ⟨h.b, h.o, none⟩)] ++ lb) X fun e X' => e = .returned (.bool (p h)) ∧ Below X.heap.size X X') := fun X hX => PH.call X (hX.mono hlo)
  have eg := PH.eg
  clear hf ho PH
  obtain ⟨n, hn⟩ : ∃ n, l.length = n := ⟨_, rfl⟩
  rw [hn] at hl ⊢
  have HN : Hid (l.length = n) := hn
  clear hn
  go_enter Tryz.func221, Tryz.ntmps221
  go_wp2_with fail
  go_loopw [8] (fun i wr => ∃ A B, l = A ++ B ∧ i = .int .i64 (A.length : Int) ∧ (∀ a ∈ A, p a = false) ∧ Below w.heap.size w wr) (fun i _ => n - (intOf i).toNat)
  case atStart => exact ⟨[], l, rfl, rfl, by simp, Below.refl _ _⟩
  case round =>
    obtain ⟨A, B, hAB, rfl, hA, hb⟩ := hrel
    obtain ⟨k, hk⟩ : ∃ k, A.length = k := ⟨_, rfl⟩
    have hlen : n = k + B.length := by have := HN.out; rw [hAB, List.length_append] at this; omega
    rw [hk]
    cases B with
    | cons q B =>
      simp only [List.length_cons] at hlen
      have hkn : k < n := by omega
      clear hlen
      have hr : l[k]? = some q := by rw [hAB, ← hk]; exact mid_eq _ _ _
      obtain ⟨g', rfl, p1⟩ := HC.out wr hb k q hr
      have CP := HP.out wr hb q (List.mem_of_getElem? hr)
      have gk : (k : Int) < n := by omega
      have gk0 : (0 : Int) ≤ k := by omega
      have HB : Hid (Below w.heap.size w wr) := hb
      have HQ : Hid (l = A ++ q :: B ∧ A.length = k ∧ ∀ a ∈ A, p a = false) := ⟨hAB, hk, hA⟩
      clear hr hb hAB hk hA HC HP
      cases he : p q
      · rw [he] at CP
        have HF : Hid (l = (A ++ [q]) ++ B ∧ (A ++ [q]).length = k + 1 ∧ ∀ a ∈ A ++ [q], p a = false) := ⟨by rw [HQ.out.1]; simp, by simp [HQ.out.2.1], fun a ha => by
          rcases List.mem_append.1 ha with ha | ha
          · exact HQ.out.2.2 a ha
          · simp at ha; subst ha; exact he⟩
        clear HQ he
        go_wp2_with (go_at_fn g; refine CP.mono ?_; rintro e w2 ⟨rfl, hb2⟩)
        go_roundw
        case rel => exact ⟨A ++ [q], B, HF.out.1, by rw [HF.out.2.1]; go_num, HF.out.2.2, HB.out.trans (hb2.mono HB.out.size)⟩
        case measure => simp [intOf]; omega
      · rw [he] at CP
        have HF : Hid (IdxR p l (.returned (.int .i64 (k : Int)))) := .inl ⟨A, q, B, HQ.out.1, he, HQ.out.2.2, by rw [HQ.out.2.1]⟩
        clear HQ he
        go_wp2_with (go_at_fn g; refine CP.mono ?_; rintro e w2 ⟨rfl, hb2⟩)
        go_ret
        exact ⟨HF.out, HB.out.trans (hb2.mono HB.out.size)⟩
    | nil =>
      simp only [List.length_nil] at hlen
      have e : k = n := by omega
      clear hlen
      subst e
      simp only [List.append_nil] at hAB
      subst hAB
      have HF : Hid (IdxR p l (.returned (.int .i64 (-1)))) := .inr ⟨hA, rfl⟩
      have HB : Hid (Below w.heap.size w wr) := hb
      clear hA hk hb HC HP HN
      go_wp2_with fail
      go_ret
      exact ⟨HF.out, HB.out⟩
def keepH (p : Hdl → Bool) (l : List Hdl) : List Hdl := l.filter fun h => !p h
set_option maxRecDepth 100000 in
set_option maxHeartbeats 8000000 in
theorem deleteFunc_any (w : World) (lo base g : Nat) (lb : Array Value) (p : Hdl → Bool) (v : Value) (l : List Hdl) (ho : OwnP w base v l) (hl : l.length ≤ 1000) (hlo : lo ≤ w.heap.size) (hbl : lo ≤ base) (PH : PredH lo w g lb p l) :
    Calls Tryz.prog 212 #[v, .func (.func g) #[] lb] w fun e w' => (∃ v', e = .returned v' ∧ OwnP w' base v' (keepH p l) ∧ v'.ownBlock = v.ownBlock) ∧ w.grownBy w' v.ownBlock := by
  obtain ⟨va, vc, rfl, hvc, hf⟩ := ho.form
  have hzp : ∀ X : World, (zeroValue 101).run Tryz.prog X = .ok (.pointer none) X := fun X => by rfl
  have CI : Hid (Calls Tryz.prog 221 #[.slice va l.length vc, .func (.func g) #[] lb] w fun e w' => IdxR p l e ∧ Below w.heap.size w w') := indexFunc_any w lo base g lb p va vc l ho hl hlo PH
  have HO : Hid (OwnP w base (.slice va l.length vc) l) := ho
  have HPH : Hid (PredH lo w g lb p l) := PH
  have eg := PH.eg
  have HLO : Hid (lo ≤ w.heap.size ∧ lo ≤ base) := ⟨hlo, hbl⟩
  clear ho PH
  obtain ⟨n, hn⟩ : ∃ n, l.length = n := ⟨_, rfl⟩
  rw [hn] at hl hvc CI HO ⊢
  have HN : Hid (l.length = n) := hn
  clear hn
  go_enter Tryz.func212, Tryz.ntmps212
  go_wp2_with fail
  refine CI.out.mono ?_
  rintro e w1 ⟨hI, hb1⟩
  rcases hI with ⟨A, h0, B, hAB, hp0, hA, rfl⟩ | ⟨hall, rfl⟩
  · have hgn : ∃ G, va = some ⟨G, 0, none⟩ := by
      rcases hf with e | ⟨G, e, _⟩
      · rw [e] at hAB; simp at hAB
      · exact ⟨G, e⟩
    obtain ⟨G, rfl⟩ := hgn
    clear hf
    have HST : Hid (w1.ownsRow base 101 1 (.slice (some ⟨G, 0, none⟩) n vc) n ((keepH p A).map hP ++ [hP h0] ++ B.map hP)) := by
      have := HO.out.below hb1
      unfold OwnP at this
      rw [HN.out] at this
      have e : keepH p A = A := List.filter_eq_self.2 fun a ha => by simp [hA a ha]
      rw [e, show A.map hP ++ [hP h0] ++ B.map hP = l.map hP from by rw [hAB]; simp]
      exact this
    have hlA : A.length + 1 + B.length = n := by have := HN.out; rw [hAB] at this; simp at this; omega
    have hkA : (keepH p (A ++ [h0])).length = A.length := by
      unfold keepH
      rw [List.filter_append]
      have e : A.filter (fun h => !p h) = A := List.filter_eq_self.2 fun a ha => by simp [hA a ha]
      simp [e, hp0]
    have HK0 : Hid (∃ M B', B' = B ∧ l = (A ++ [h0]) ++ B' ∧ (keepH p (A ++ [h0])).length = A.length ∧ M.length + A.length = A.length + 1 ∧ 0 < M.length ∧ w1.ownsRow base 101 1 (.slice (some ⟨G, 0, none⟩) n vc) n ((keepH p (A ++ [h0])).map hP ++ M ++ B'.map hP) ∧ w.grownBy w1 (some G)) := by
      refine ⟨[hP h0], B, rfl, by rw [hAB]; simp, hkA, by simp; omega, by simp, ?_, grow_below _ hb1⟩
      have e : keepH p (A ++ [h0]) = keepH p A := by unfold keepH; rw [List.filter_append]; simp [hp0]
      rw [e]
      exact HST.out
    have gi1 : IntKind.i64.wrap ((A.length : Int) + 1) = (A.length : Int) + 1 := by unfold IntKind.wrap; simp [IntKind.signed, IntKind.bits]; omega
    have gne : ((A.length : Int) == -1) = false := beq_eq_false_iff_ne.2 (by omega)
    obtain ⟨i0, hi0⟩ : ∃ i, A.length = i := ⟨_, rfl⟩
    rw [hi0] at HK0 gi1 gne hlA ⊢
    clear HST CI hA hp0 hAB hkA HO
    go_wp2_with fail
    go_loopw [5, 6] (fun i j wr => ∃ C B M, l = C ++ B ∧ i = .int .i64 ((keepH p C).length : Int) ∧ j = .int .i64 (C.length : Int) ∧ (keepH p C).length + M.length = C.length ∧ 0 < M.length ∧ wr.ownsRow base 101 1 (.slice (some ⟨G, 0, none⟩) n vc) n ((keepH p C).map hP ++ M ++ B.map hP) ∧ w.grownBy wr (some G)) (fun _ j _ => n - (intOf j).toNat)
    case atStart =>
      obtain ⟨M, B', _, h1, h2, h3, h4, h5, h6⟩ := HK0.out
      exact ⟨A ++ [h0], B', M, h1, by rw [h2], by simp [hi0], by simp [h2, hi0]; omega, h4, h5, h6⟩
    case round =>
      obtain ⟨C, B, M, hCB, rfl, rfl, hM, hM0, hrow, hgr⟩ := hrel
      clear HK0
      obtain ⟨i, hi⟩ : ∃ i, (keepH p C).length = i := ⟨_, rfl⟩
      obtain ⟨j, hj⟩ : ∃ j, C.length = j := ⟨_, rfl⟩
      rw [hi, hj] at hM ⊢
      have hlen : n = j + B.length := by have := HN.out; rw [hCB, List.length_append] at this; omega
      have hbw : Below lo w wr := (Below.refl lo w).grown hgr HLO.out.1 (fun q hq => by
        have := (World.ownsRow.lt hrow q hq).1
        have := HLO.out.2
        omega)
      cases B with
      | cons q B =>
        simp only [List.length_cons] at hlen
        have hjn : j < n := by omega
        have hin : i < n := by omega
        have hij : i < j := by omega
        clear hlen
        have cj : wr.cell? ⟨G, j, none⟩ = some (.pointer (some ⟨q.b, q.o, none⟩)) := by
          rw [World.ownsRow.cellAt hrow j (by omega), List.getElem?_append_right (by simp; omega)]
          simp only [List.length_append, List.length_map, hi]
          rw [show j - (i + M.length) = 0 from by omega]
          rfl
        have CP := HPH.out.call wr hbw q (by rw [hCB]; simp)
        have gj : (j : Int) < n := by omega
        have gj0 : (0 : Int) ≤ j := by omega
        have gi : (i : Int) < n := by omega
        have gi0 : (0 : Int) ≤ i := by omega
        have HR : Hid (wr.ownsRow base 101 1 (.slice (some ⟨G, 0, none⟩) n vc) n ((keepH p C).map hP ++ M ++ (q :: B).map hP) ∧ w.grownBy wr (some G)) := ⟨hrow, hgr⟩
        have HQ : Hid (l = C ++ q :: B ∧ (keepH p C).length = i ∧ C.length = j ∧ i + M.length = j ∧ 0 < M.length) := ⟨hCB, hi, hj, hM, hM0⟩
        clear hrow hgr hbw hCB hi hj hM hM0
        cases he : p q
        · rw [he] at CP
          have HA : Hid (∀ X, Below wr.heap.size wr X → (∃ u, X.cell? ⟨G, i, none⟩ = some u) ∧ X.frozen? ⟨G, i, none⟩ = false ∧ (∃ M', l = (C ++ [q]) ++ B ∧ (keepH p (C ++ [q])).length = i + 1 ∧ (C ++ [q]).length = j + 1 ∧ i + 1 + M'.length = j + 1 ∧ 0 < M'.length ∧ (X.setCell ⟨G, i, none⟩ (.pointer (some ⟨q.b, q.o, none⟩))).ownsRow base 101 1 (.slice (some ⟨G, 0, none⟩) n vc) n ((keepH p (C ++ [q])).map hP ++ M' ++ B.map hP) ∧ w.grownBy (X.setCell ⟨G, i, none⟩ (.pointer (some ⟨q.b, q.o, none⟩))) (some G))) := fun X hX => by
            obtain ⟨q1, q2, q3, q4, q5⟩ := HQ.out
            have hrX := row_below HR.out.1 hX
            obtain ⟨m0, Mt, rfl⟩ : ∃ m0 Mt, M = m0 :: Mt := by cases M with
              | nil => simp at q5
              | cons a b => exact ⟨a, b, rfl⟩
            have hk : keepH p (C ++ [q]) = keepH p C ++ [q] := by unfold keepH; rw [List.filter_append]; simp [he]
            obtain ⟨s1, s2⟩ := World.ownsRow.stored hrX i (.pointer (some ⟨q.b, q.o, none⟩))
            refine ⟨⟨m0, ?_⟩, ?_, Mt ++ [hP q], by rw [q1]; simp, by rw [hk]; simp [q2], by simp [q3], by simp at q4 ⊢; omega, by simp, ?_, grow_trans (grow_trans HR.out.2 (grow_below _ hX)) s2⟩
            · rw [World.ownsRow.cellAt hrX i (by omega), List.append_assoc, List.getElem?_append_right (by simp; omega)]
              simp [q2]
            · exact World.ownsRow.frozenAt hrX i
            · have e : ((keepH p C).map hP ++ (m0 :: Mt) ++ (q :: B).map hP).set i (.pointer (some ⟨q.b, q.o, none⟩)) = (keepH p (C ++ [q])).map hP ++ (Mt ++ [hP q]) ++ B.map hP := by
                rw [hk, List.append_assoc, List.set_append_right _ _ (by simp; omega)]
                simp [q2, hP]
              rw [← e]
              exact s1
          clear HR HQ he
          go_wp2_with (go_at_fn g; refine CP.mono ?_; rintro e w2 ⟨rfl, hb2⟩; obtain ⟨⟨u, hu⟩, hfz, hnx⟩ := HA.out _ hb2; have HX : Hid _ := hnx; clear hnx)
          go_roundw
          case rel =>
            obtain ⟨M', h1, h2, h3, h4, h5, h6, h7⟩ := HX.out
            exact ⟨C ++ [q], B, M', h1, by rw [h2]; go_num, by rw [h3]; go_num, by rw [h2, h3]; exact h4, h5, h6, h7⟩
          case measure => simp [intOf]; omega
        · rw [he] at CP
          have HA : Hid (∀ X, Below wr.heap.size wr X → (∃ M', l = (C ++ [q]) ++ B ∧ (keepH p (C ++ [q])).length = i ∧ (C ++ [q]).length = j + 1 ∧ i + M'.length = j + 1 ∧ 0 < M'.length ∧ X.ownsRow base 101 1 (.slice (some ⟨G, 0, none⟩) n vc) n ((keepH p (C ++ [q])).map hP ++ M' ++ B.map hP) ∧ w.grownBy X (some G))) := fun X hX => by
            obtain ⟨q1, q2, q3, q4, q5⟩ := HQ.out
            have hk : keepH p (C ++ [q]) = keepH p C := by unfold keepH; rw [List.filter_append]; simp [he]
            refine ⟨M ++ [hP q], by rw [q1]; simp, by rw [hk]; exact q2, by simp [q3], by simp; omega, by simp, ?_, grow_trans HR.out.2 (grow_below _ hX)⟩
            have := row_below HR.out.1 hX
            rw [hk]
            rw [show (keepH p C).map hP ++ (M ++ [hP q]) ++ B.map hP = (keepH p C).map hP ++ M ++ (q :: B).map hP from by simp]
            exact this
          clear HR HQ he
          go_wp2_with (go_at_fn g; refine CP.mono ?_; rintro e w2 ⟨rfl, hb2⟩; have HX : Hid _ := HA.out _ hb2)
          go_roundw
          case rel =>
            obtain ⟨M', h1, h2, h3, h4, h5, h6, h7⟩ := HX.out
            exact ⟨C ++ [q], B, M', h1, by rw [h2], by rw [h3]; go_num, by rw [h2, h3]; exact h4, h5, h6, h7⟩
          case measure => simp [intOf]; omega
      | nil =>
        simp only [List.length_nil] at hlen
        have ejn : j = n := by omega
        have hin : i < n := by omega
        clear hlen
        subst ejn
        simp only [List.append_nil] at hCB
        subst hCB
        simp only [List.map_nil, List.append_nil] at hrow
        have hcl : ∀ ty, (Builtin.clear_ #[94] ty #[.slice (some ⟨G, i, none⟩) (j - i) (vc - i)]).run Tryz.prog wr = .ok (.tuple #[]) (wr.setCells G i (List.replicate (j - i) (.pointer none))) := fun ty => Lib.run_clear_slice wr _ _ ty _ Tryz.underlying94 hzp rfl rfl G i _ _ (by omega) (fun t ht => by rw [World.ownsRow.cellAt hrow (i + t) (by omega)]; rw [List.getElem?_eq_getElem (by simp [hi]; omega)]; rfl) (fun t ht => World.ownsRow.frozenAt hrow (i + t))
        have HF : Hid (OwnP (wr.setCells G i (List.replicate (j - i) (.pointer none))) base (.slice (some ⟨G, 0, none⟩) i vc) (keepH p l) ∧ w.grownBy (wr.setCells G i (List.replicate (j - i) (.pointer none))) (some G)) := by
          obtain ⟨ys, h1, h2, h3⟩ := row_setCells (List.replicate (j - i) (.pointer none)) i wr _ hrow
          refine ⟨?_, grow_trans hgr h3⟩
          have hc := row_cut h1 (i := i) (by omega)
          have ey : ys.take i = (keepH p l).map hP := by
            apply List.ext_getElem?
            intro k
            rw [List.getElem?_take]
            by_cases hk : k < i
            · rw [if_pos hk, h2 k hk, List.getElem?_append_left (by simp [hi]; omega)]
            · rw [if_neg hk, List.getElem?_eq_none (by simp [hi]; omega)]
          unfold OwnP
          rw [← ey, hi]
          exact hc
        have gi0 : (0 : Int) ≤ i := by omega
        have gi1 : (i : Int) ≤ j := by omega
        have gi2 : (i : Int) ≤ vc := by omega
        have gjv : (j : Int) ≤ vc := by omega
        have gne2 : ¬ vc = i := by omega
        clear hrow hgr hbw hM hM0 hi hj HPH
        go_wp2_with fail
        go_ret
        exact ⟨⟨_, rfl, HF.out.1, rfl⟩, HF.out.2⟩
  · have e : keepH p l = l := List.filter_eq_self.2 fun a ha => by simp [hall a ha]
    have HF : Hid (OwnP w1 base (.slice va n vc) (keepH p l) ∧ w.grownBy w1 (Value.slice va n vc).ownBlock) := by rw [e]; exact ⟨HO.out.below hb1, grow_below _ hb1⟩
    clear HO CI hall hf hb1 e
    go_wp2_with fail
    go_ret
    exact ⟨⟨_, rfl, HF.out.1, rfl⟩, HF.out.2⟩
end Go.Proofs.YtdooopkpnanekaaGreatDoor
/-
  slices.Delete of one pointer of a row of one's own.
-/
namespace Go.Proofs.YtdooopkpnanekaaGreatDoor
open Go.ChangeShapes Go.WideShapes Go.ChangeAt Go.RowKit Go.Sort Go.Shelf
def laysDel_ren : Go.Shelf.Ren := ⟨fun | 45 => 169 | n => n, fun | 22 => 94 | 23 => 101 | 3 => 3 | 4 => 4 | 0 => 0 | n => n, fun | n => n⟩
theorem laysDel : Go.Proofs.SlLaysE.n45 Tryz.prog laysDel_ren := {
  mixed := by kernel_rfl
  f45 := ⟨Tryz.f169.name, by decide, Tryz.func169.trans (congrArg some (by kernel_rfl))⟩
  t0 := Tryz.underlying0
  a0 := Tryz.isAgg0
  z0 := Tryz.sizeOf0
  v0 := Tryz.zeroValue0
  t3 := Tryz.underlying3
  a3 := Tryz.isAgg3
  z3 := Tryz.sizeOf3
  v3 := Tryz.zeroValue3
  t4 := Tryz.underlying4
  a4 := Tryz.isAgg4
  z4 := Tryz.sizeOf4
  v4 := Tryz.zeroValue4
  t22 := Tryz.underlying94
  a22 := Tryz.isAgg94
  z22 := Tryz.sizeOf94
  v22 := Tryz.zeroValue94
  a23 := Tryz.isAgg101
  z23 := Tryz.sizeOf101 }
def eH : Option Hdl → Value
  | some h => hP h
  | none => .pointer none
theorem eH_map (l : List Hdl) : (l.map some).map eH = l.map hP := by rw [List.map_map]; rfl
theorem grow_putRow {α : Type} [Inhabited α] (enc : α → Value) (w : World) (q g : Nat) (d : Array α) : w.grownBy (putRow enc (Sort.ahead w q) g 0 d) (some g) :=
  ⟨rfl, rfl, rfl, by simp [putRow, mapBlock, Sort.ahead], fun k _ hn => by
    have : g ≠ k := fun e => hn (by rw [e])
    simp [putRow, mapBlock, Sort.ahead, Array.getElem?_modify, this]⟩
set_option maxRecDepth 100000 in
theorem delOne_any (w : World) (base : Nat) (v : Value) (A : List Hdl) (h0 : Hdl) (B : List Hdl) (ho : OwnP w base v (A ++ h0 :: B)) :
    Calls Tryz.prog 169 #[v, .int .i64 (A.length : Nat), .int .i64 ((A.length + 1 : Nat) : Int)] w fun e w' => (∃ v', e = .returned v' ∧ OwnP w' base v' (A ++ B) ∧ v'.ownBlock = v.ownBlock) ∧ w.grownBy w' v.ownBlock := by
  have hr : w.ownsRow base 101 1 v (A ++ h0 :: B).length (((A ++ h0 :: B).map some).map eH) := by rw [eH_map]; exact ho
  obtain ⟨i0, hi0, hz⟩ : ∃ i, Tryz.prog.info? 101 = some i ∧ i.size = 1 := by
    have := infoPtr
    cases h : Tryz.prog.info? 101 with
    | none => rw [h] at this; cases this
    | some i => rw [h] at this; simp at this; exact ⟨i, rfl, this.2.1⟩
  have hv : v ≠ .slice none 0 0 := fun e => by
    obtain ⟨va, vc, e1, _, h1 | ⟨g, e2, _⟩⟩ := ho.form
    · simp at h1
    · rw [e, e2] at e1; cases e1
  obtain ⟨g, cap, rfl, hg, hlt, hn, hc, hzs, hH⟩ := Lib.holds_of_ownsRow (enc := eH) (zs := (A ++ h0 :: B).map some) hr hv
  have hm : maxLen ≤ 9223372036854775807 := by decide
  have e0 : (A ++ h0 :: B).length = ((A ++ h0 :: B).map some).toArray.size := by simp
  have hzp : ∀ X : World, (zeroValue 101).run Tryz.prog X = .ok (.pointer none) X := fun X => by rfl
  have key := AnyE.slices_Delete (α := Option Hdl) laysDel eH (fun x => by cases x <;> rfl) none hzp i0 hi0 hz g 0 cap A.length (A.length + 1) ((A ++ h0 :: B).map some).toArray w hH (by rw [← e0]; exact hn) (Nat.le_trans hc hm) (Nat.le_succ _) (by simp)
  rw [← e0] at key
  refine Calls.mono (R := _) key ?_
  rintro e w' ⟨rfl, q, rfl⟩
  have hy : (((A ++ h0 :: B).map some).toArray.toList.take A.length ++ ((A ++ h0 :: B).map some).toArray.toList.drop (A.length + 1) ++ List.replicate (A.length + 1 - A.length) none) = (A ++ B).map some ++ [none] := by
    have e5 : ((A ++ h0 :: B).map some).drop (A.length + 1) = B.map some := by
      rw [List.map_append, List.map_cons, List.drop_append, List.drop_eq_nil_of_le (by simp)]
      simp
    rw [List.toList_toArray, e5]
    simp
  rw [hy]
  have hL : (A ++ h0 :: B).length - (A.length + 1 - A.length) = (A ++ B).length := by simp; try omega
  rw [hL]
  have := Lib.ownsRow_putRow (enc := eH) (q := q) (k := (A ++ B).length) (ys := (A ++ B).map some ++ [none]) hr (by simp; try omega) (by simp)
  refine ⟨⟨_, rfl, ?_, rfl⟩, grow_putRow _ _ _ _ _⟩
  have e3 : ((A ++ B).map some ++ [none]).take (A ++ B).length = (A ++ B).map some := by rw [List.take_append_of_le_length (by simp)]; exact List.take_of_length_le (by simp)
  rw [e3, eH_map] at this
  exact this
end Go.Proofs.YtdooopkpnanekaaGreatDoor
/-
  slices.Backward at a row of pointers: what its teller does, for every loop body.
-/
namespace Go.Proofs.YtdooopkpnanekaaGreatDoor
open Go.ChangeShapes Go.WideShapes Go.ChangeAt Go.RowKit Go.Sort Go.Shelf
attribute [local go_sem] Oper.semAt_some
/-- One of a list, and its place. -/
abbrev AtH (l : List Hdl) := { x : Nat × Hdl // l[x.1]? = some x.2 }
def encB {l : List Hdl} (x : AtH l) : Array Value := #[.int .i64 (x.1.1 : Int), .pointer (some ⟨x.1.2.b, x.1.2.o, none⟩)]
/-- What is told of a list, from its end on. -/
def toldB : Nat → List Hdl → List (Nat × Hdl)
  | _, [] => []
  | k, h :: B => toldB (k + 1) B ++ [(k, h)]
theorem toldB_mem {h : Hdl} : ∀ (l : List Hdl) (k : Nat), h ∈ l → ∃ i, (i, h) ∈ toldB k l
  | [], _, hh => by cases hh
  | q :: B, k, hh => by
    rcases List.mem_cons.1 hh with rfl | hh
    · exact ⟨k, List.mem_append_right _ (by simp)⟩
    · obtain ⟨i, hi⟩ := toldB_mem B (k + 1) hh
      exact ⟨i, List.mem_append_left _ hi⟩
theorem toldB_len : ∀ (l : List Hdl) (k : Nat), (toldB k l).length = l.length
  | [], _ => rfl
  | q :: B, k => by simp [toldB, toldB_len B (k + 1)]
theorem back_any (w : World) (a : Option Addr) (n c : Nat) : Calls Tryz.prog 168 #[.slice a n c] w fun e w' => e = .returned (.func (.func 198) #[] #[.pointer (some ⟨w.heap.size, 0, none⟩)]) ∧ w' = w.alloc (.cells #[.slice a n c] 94) := by
  go_enter Tryz.func168, Tryz.ntmps168
  go_wp2_with fail
  go_ret
  exact ⟨rfl, rfl⟩
set_option maxRecDepth 100000 in
set_option maxHeartbeats 8000000 in
theorem backTell (n : Nat) (hn : 1 ≤ n) (Bt n0 : Nat) (va : Option Addr) (vc : Nat) (l : List Hdl) (hl : l.length ≤ 1000) (w : World) (hn0 : n0 ≤ w.heap.size) (hBt : Bt < n0)
    (hf : l = [] ∨ ∃ g, va = some ⟨g, 0, none⟩ ∧ g < n0 ∧ ∀ (i : Nat) k, l[i]? = some k → w.cell? ⟨g, i, none⟩ = some (hP k)) (hc : w.cell? ⟨Bt, 0, none⟩ = some (.slice va l.length vc)) :
    SeqStopsK Fence.wide n Tryz.prog 198 #[.pointer (some ⟨Bt, 0, none⟩)] (encB (l := l)) (fun A B => Below n0 A B) (fun ys => ys.map (·.1) = toldB 0 l) (fun pre => ∃ A h R, l = A ++ h :: R ∧ pre.map (·.1) = toldB A.length (h :: R)) 1001 w := by
  intro lp J Jx W hW hJ hJx hY h0
  have HG : Hid (∀ X, Below n0 w X → X.cell? ⟨Bt, 0, none⟩ = some (.slice va l.length vc) ∧ ∀ (i : Nat) k, l[i]? = some k → ∃ g, va = some ⟨g, 0, none⟩ ∧ X.cell? ⟨g, i, none⟩ = some (.pointer (some ⟨k.b, k.o, none⟩))) := fun X hX => by
    refine ⟨by rw [hX.cell (p := ⟨Bt, 0, none⟩) hBt]; exact hc, fun i k hk => ?_⟩
    rcases hf with e | ⟨g, e, hg, h1⟩
    · rw [e] at hk; simp at hk
    · exact ⟨g, e, by rw [hX.cell (p := ⟨g, i, none⟩) hg]; exact h1 i k hk⟩
  have HY : Hid (∀ pre x W1, J pre W1 → pre.length < 1001 → YieldAt Fence.wide (n - 1) Tryz.prog lp (encB (l := l) x) W1 fun e W' =>
      (e = .returned (.bool true) ∧ J (pre ++ [x]) W' ∧ Below n0 W1 W') ∨ (e = .returned (.bool false) ∧ Jx (pre ++ [x]) W')) := hY
  have hbW : Below n0 w W := hW.mono hn0
  clear hY hf hc hJ hJx hW
  obtain ⟨m, hm⟩ : ∃ m, l.length = m := ⟨_, rfl⟩
  rw [hm] at hl HG
  have HM : Hid (l.length = m) := hm
  clear hm
  have cB := (HG.out W hbW).1
  have gw : IntKind.i64.wrap ((m : Int) - 1) = (m : Int) - 1 := by unfold IntKind.wrap; simp [IntKind.signed, IntKind.bits]; omega
  refine callsIn_of_wp Tryz.func198 rfl trivial ?_ rfl
  simp only [Tryz.ntmps198, List.size_toArray, List.length_cons, List.length_nil, Nat.reduceAdd, Nat.reduceSub, Array.replicate_succ, Array.replicate_zero, List.push_toArray, List.append_toArray, List.nil_append, List.cons_append]
  gi_wp2
  gi_loopw [3] (fun b wr => ∃ (A R : List Hdl) (pre : List (AtH l)), l = A ++ R ∧ b = .int .i64 ((A.length : Int) - 1) ∧ pre.map (·.1) = toldB A.length R ∧ J pre wr ∧ Below n0 w wr) (fun b _ => (intOf b + 1).toNat)
  case atStart => exact ⟨l, [], [], by simp, by rw [HM.out], rfl, h0, hbW⟩
  case round =>
    obtain ⟨A, R, pre, hAR, rfl, hpre, hJs, hb⟩ := hrel
    have hlen : A.length + R.length = m := by have := HM.out; rw [hAR] at this; simpa using this
    have hpl : pre.length < 1001 := by
      have h1 := congrArg List.length hpre
      rw [List.length_map, toldB_len] at h1
      omega
    rcases List.eq_nil_or_concat A with rfl | ⟨A', h, rfl⟩
    · have g1 : ¬ (0 : Int) ≤ ((([] : List Hdl).length : Int) - 1) := by simp
      have HF : Hid (∃ ys : List (AtH l), ys.map (·.1) = toldB 0 l ∧ J ys wr) := ⟨pre, by rw [hpre]; simp at hAR; rw [hAR]; rfl, hJs⟩
      clear hAR hpre hJs hlen hpl HY HG cB hb
      gi_wp2
      go_end0
      exact ⟨⟨_, rfl⟩, .inl HF.out⟩
    · simp only [List.concat_eq_append] at hAR hpre hlen ⊢
      have hat : l[A'.length]? = some h := by rw [hAR]; simp
      obtain ⟨cb, cr⟩ := HG.out wr hb
      obtain ⟨g, hva, ch⟩ := cr _ _ hat
      subst hva
      obtain ⟨k, hk⟩ : ∃ k, A'.length = k := ⟨_, rfl⟩
      have hkm : k < m := by simp at hlen; omega
      have ek : (((A' ++ [h]).length : Int) - 1) = (k : Int) := by simp [hk]
      rw [ek]
      rw [hk] at hat ch
      obtain ⟨fn, tmps, assign, body, hy, hR⟩ := HY.out pre ⟨(k, h), hat⟩ wr hJs hpl
      dsimp only [encB] at hy
      have HQ : Hid (l = A' ++ h :: R ∧ (pre ++ [(⟨(k, h), hat⟩ : AtH l)]).map (fun x : AtH l => x.1) = toldB k (h :: R) ∧ A'.length = k) := ⟨by rw [hAR]; simp, by rw [List.map_append, hpre]; simp [toldB, hk], hk⟩
      have g0 : (0 : Int) ≤ k := by omega
      have g1 : (k : Int) < m := by omega
      have gw2 : IntKind.i64.wrap ((k : Int) - 1) = (k : Int) - 1 := by unfold IntKind.wrap; simp [IntKind.signed, IntKind.bits]; omega
      clear hAR hpre hlen hpl cB cr ek hk hJs HY gw hkm
      gi_wp2
      refine hR.mono ?_
      rintro e W3 (⟨rfl, hJ4, hk4⟩ | ⟨rfl, hJx4⟩)
      · have HF : Hid (J (pre ++ [⟨(k, h), hat⟩]) W3 ∧ Below n0 w W3) := ⟨hJ4, hb.trans hk4⟩
        clear hJ4 hk4 hy hR cb ch hb
        gi_wp2
        go_roundw
        case rel => exact ⟨A', h :: R, pre ++ [⟨(k, h), hat⟩], HQ.out.1, by rw [HQ.out.2.2], by rw [HQ.out.2.2]; exact HQ.out.2.1, HF.out.1, HF.out.2⟩
        case measure => simp [intOf]; try omega
      · have HF : Hid (Jx (pre ++ [⟨(k, h), hat⟩]) W3) := hJx4
        clear hJx4 hy hR cb ch hb
        gi_wp2
        refine bodyPost_ret (results_none rfl _ _ _) rfl ?_
        exact ⟨⟨_, rfl⟩, .inr ⟨_, ⟨A', h, R, HQ.out.1, by rw [HQ.out.2.2]; exact HQ.out.2.1⟩, HF.out⟩⟩
end Go.Proofs.YtdooopkpnanekaaGreatDoor
/-
  2 cells that may be written.
-/
namespace Go.Proofs.YtdooopkpnanekaaGreatDoor
open Go.ChangeShapes Go.WideShapes Go.ChangeAt Go.RowKit
structure S2 (w : World) (b : Nat) (v0 v1 : Value) : Prop where
  c0 : w.cell? ⟨b, 0, none⟩ = some v0
  c1 : w.cell? ⟨b, 1, none⟩ = some v1
  fr : ∀ o, w.frozen? ⟨b, o, none⟩ = false
  lt : b < w.heap.size
section
variable {w w' : World} {b : Nat} {v0 v1 : Value}
theorem S2.keep (k : S2 w b v0 v1) (hb : Below w.heap.size w w') : S2 w' b v0 v1 :=
  ⟨by rw [hb.cell (p := ⟨b, 0, none⟩) k.lt]; exact k.c0, by rw [hb.cell (p := ⟨b, 1, none⟩) k.lt]; exact k.c1, fun o => by rw [hb.frozen (p := ⟨b, o, none⟩) k.lt]; exact k.fr o, Nat.lt_of_lt_of_le k.lt hb.size⟩
theorem S2.low (k : S2 w b v0 v1) {B : Nat} (hb : Below B w w') (h : b < B) : S2 w' b v0 v1 :=
  ⟨by rw [hb.cell (p := ⟨b, 0, none⟩) h]; exact k.c0, by rw [hb.cell (p := ⟨b, 1, none⟩) h]; exact k.c1, fun o => by rw [hb.frozen (p := ⟨b, o, none⟩) h]; exact k.fr o, Nat.lt_of_lt_of_le k.lt hb.size⟩
theorem S2.new (w : World) (v0 v1 : Value) (t : TypeId) : S2 (w.alloc (.cells #[v0, v1] t)) w.heap.size v0 v1 := ⟨by simp, by simp, fun o => by simp, by simp⟩
theorem S2.off (k : S2 w b v0 v1) {B i : Nat} {x : Value} (h : B ≠ b) : S2 (w.setCell ⟨B, i, none⟩ x) b v0 v1 := by
  have ne : ∀ o : Nat, (⟨B, i, none⟩ : Addr) ≠ ⟨b, o, none⟩ := fun o q => h (congrArg Addr.block q)
  exact ⟨by rw [World.cell?_setCell_other _ _ _ _ (ne _)]; exact k.c0, by rw [World.cell?_setCell_other _ _ _ _ (ne _)]; exact k.c1, fun o => by rw [World.frozen?_setCell]; exact k.fr o, by simpa using k.lt⟩
theorem S2.above {hi : Nat} (k : S2 w b v0 v1) (h : Above hi w w') (hb : hi ≤ b) : S2 w' b v0 v1 :=
  ⟨by rw [h.cell b 0 hb k.lt]; exact k.c0, by rw [h.cell b 1 hb k.lt]; exact k.c1, fun o => by rw [h.frozen b o hb k.lt]; exact k.fr o, Nat.lt_of_lt_of_le k.lt h.size⟩
end
end Go.Proofs.YtdooopkpnanekaaGreatDoor
/-
  Answers that bear names: compared, marked, held.
-/
namespace Go.Proofs.YtdooopkpnanekaaGreatDoor
open Go.ChangeShapes Go.WideShapes Go.ChangeAt Go.RowKit Go.Sort
/-- Where the names lie that are handed back. -/
structure NR where
  a3 : Option Addr
  k3 : Nat
  n3 : Nat
def NR.v (r : NR) : Value := .slice r.a3 r.n3 r.k3
def NIn (W : World) (r : NR) (G : List ByteArray) : Prop := TLV W r.v G
def NSto (W : World) (base hi : Nat) (r : NR) (G : List ByteArray) : Prop := TLV W r.v G ∧ ∀ b, r.v.ownBlock = some b → base ≤ b ∧ b < hi
def NHeld (W : World) (r : NR) (G : List ByteArray) : Prop := TLV W r.v (mkTL 1 G.length)
theorem NIn.keep {W W' : World} {r : NR} {G : List ByteArray} (h : NIn W r G) (hb : Below W.heap.size W W') : NIn W' r G := TLV.below h hb
theorem NSto.below {W W' : World} {base hi : Nat} {r : NR} {G : List ByteArray} (h : NSto W base hi r G) (hb : Below W.heap.size W W') : NSto W' base hi r G := ⟨h.1.below hb, h.2⟩
theorem TLV.out {W W' : World} {F : List Nat} {v : Value} {l : List ByteArray} (h : TLV W v l) (o : Out F W W') (hn : ∀ b, v.ownBlock = some b → b ∉ F) : TLV W' v l := by
  rcases h with h | ⟨g, c, rfl, hg, hi, hf⟩
  · exact .inl h
  · have hg' := hn g rfl
    exact .inr ⟨g, c, rfl, Nat.lt_of_lt_of_le hg o.size, fun i q hq => by rw [o.cell g _ hg hg']; exact hi i q hq, fun q => by rw [o.frozen g q hg hg']; exact hf q⟩
theorem NSto.above {W W' : World} {h0 base hi : Nat} {r : NR} {G : List ByteArray} (h : NSto W base hi r G) (ha : Above h0 W W') (hb : h0 ≤ base) : NSto W' base hi r G :=
  ⟨h.1.out (.of_above ha) (fun b e => by have := (h.2 b e).1; simp; omega), h.2⟩
theorem NHeld.below {W W' : World} {r : NR} {G : List ByteArray} (h : NHeld W r G) (hb : Below W.heap.size W W') : NHeld W' r G := TLV.below h hb
theorem NSto.in {W : World} {base hi : Nat} {r : NR} {G : List ByteArray} (h : NSto W base hi r G) : NIn W r G := h.1
theorem TLV.len {W : World} {a : Option Addr} {n k : Nat} {l : List ByteArray} (h : TLV W (.slice a n k) l) : n = l.length := by
  rcases h with ⟨e, rfl⟩ | ⟨g, c, e, _⟩
  · simp only [Value.slice.injEq] at e; exact e.2.1
  · simp only [Value.slice.injEq] at e; exact e.2.1
structure FitG (G : List ByteArray) : Prop where
  n : G.length ≤ 1000
def nNamE (G : List ByteArray) : Nat := 1 + G.length
/-- Names that are handed back, with their code. -/
structure NAns where
  c : Int
  g : List ByteArray
def NamAns (A : NAns) (base : Nat) (e : Ending) (w' : World) : Prop := ∃ r : NR, e = .returned (.agg #[.int .i64 A.c, .slice r.a3 r.n3 r.k3]) ∧ NSto w' base w'.heap.size r A.g
end Go.Proofs.YtdooopkpnanekaaGreatDoor
/-
  KeysTagged, by the model and by the program.
-/
namespace Go.Proofs.YtdooopkpnanekaaGreatDoor
open Go.ChangeShapes Go.WideShapes Go.ChangeAt Go.RowKit Go.Sort
theorem NamAns.of {A B : NAns} {base : Nat} {e : Ending} {w' : World} (h : NamAns B base e w') (he : A = B) : NamAns A base e w' := he ▸ h
theorem NamAns.got {c : Int} {G : List ByteArray} {base b : Nat} {a : Option Addr} {n k : Nat} {w' : World} (h : RowT w' b (.slice a n k) G) (hb : base ≤ b) : NamAns ⟨c, G⟩ base (.returned (.agg #[.int .i64 c, .slice a n k])) w' :=
  ⟨⟨a, k, n⟩, rfl, h.lv.1, fun q e => ⟨Nat.le_trans hb (h.lv.2 q e), h.lv.1.block_lt q e⟩⟩
theorem NamAns.bad (c : Int) (base : Nat) (w' : World) : NamAns ⟨c, []⟩ base (.returned (.agg #[.int .i64 c, .slice none 0 0])) w' := NamAns.got (RowT.nil w' base) (Nat.le_refl _)
open Classical in
noncomputable def tagA (bu gu : Int) (tl kl : List Ent) (tag : ByteArray) : NAns :=
  if storeC bu gu tl kl ≠ 0 then ⟨storeC bu gu tl kl, []⟩ else ⟨0, keysP (tagP tag) (tl ++ kl)⟩
theorem row_off1T {w : World} {base : Nat} {v : Value} {l : List ByteArray} (h : RowT w base v l) {b i : Nat} (u : Value) (hb : b < base) : RowT (w.setCell ⟨b, i, none⟩ u) base v l := row_off h u hb
set_option maxRecDepth 100000 in
set_option maxHeartbeats 8000000 in
theorem specKeysT_any (w : World) (bu gu : Int) (ta ka : Option Addr) (tc kc : Nat) (tl kl : List (Ent × EntR)) (tag : ByteArray) (hl : tl.length ≤ 1048576) (hk : kl.length ≤ 1048576) (hto : ∀ q ∈ tl ++ kl, EntOk q.1) (hft : ∀ q ∈ tl ++ kl, EntFit q.1) (ht : EntsIn w ta tl) (hq : EntsIn w ka kl) :
    Calls Tryz.prog 49 #[.agg #[.int .i64 bu, .int .i64 gu, .slice ta tl.length tc, .slice ka kl.length kc], .string tag] w fun e w' => NamAns (tagA bu gu (tl.map Prod.fst) (kl.map Prod.fst) tag) w.heap.size e w' ∧ Below w.heap.size w w' := by
  have HF : Hid (∀ X, Below w.heap.size w X → Calls Tryz.prog 30 #[.agg #[.int .i64 bu, .int .i64 gu, .slice ta tl.length tc, .slice ka kl.length kc]] X fun r w' => r = .returned (.int .i64 (storeC bu gu (tl.map Prod.fst) (kl.map Prod.fst))) ∧ Below X.heap.size X w') := fun X hb => specSto_any X bu gu ta ka tc kc tl kl hl hk hto (ht.keep hb) (hq.keep hb)
  have HT : Hid (storeC bu gu (tl.map Prod.fst) (kl.map Prod.fst) = 0 → ∀ X, Below w.heap.size w X → X.cell? ⟨w.heap.size, 2, none⟩ = some (.slice ta tl.length tc) → X.cell? ⟨w.heap.size, 3, none⟩ = some (.slice ka kl.length kc) → Calls Tryz.prog 118 #[.pointer (some ⟨w.heap.size, 0, none⟩), .string tag] X fun e w' => (∃ a n k, e = .returned (.slice a n k) ∧ RowT w' X.heap.size (.slice a n k) (keysP (tagP tag) (tl.map Prod.fst ++ kl.map Prod.fst))) ∧ Below X.heap.size X w') := fun h0 X hX c2 c3 => by
    refine (l9Tagged_at X w.heap.size tag ta ka tc kc tl kl c2 c3 (by have := (storeC_zero h0).2.1; rw [List.length_map, List.length_map] at this; omega) hft (ht.keep hX) (hq.keep hX)).mono ?_
    rintro e w' ⟨⟨v, rfl, ho⟩, hb⟩
    obtain ⟨va, vc, rfl, _⟩ := row_form ho
    exact ⟨⟨va, _, vc, rfl, ho⟩, hb⟩
  obtain ⟨W, hW⟩ : ∃ W, W = (w.alloc (.cells #[.int .i64 bu, .int .i64 gu, .slice ta tl.length tc, .slice ka kl.length kc] 28)).alloc (.cells #[.int .i64 0, .slice none 0 0] 84) := ⟨_, rfl⟩
  have HW : Hid (W = (w.alloc (.cells #[.int .i64 bu, .int .i64 gu, .slice ta tl.length tc, .slice ka kl.length kc] 28)).alloc (.cells #[.int .i64 0, .slice none 0 0] 84)) := hW
  have K0 : Hid (Below w.heap.size w W ∧ S4 W w.heap.size (.int .i64 bu) (.int .i64 gu) (.slice ta tl.length tc) (.slice ka kl.length kc) ∧ S2 W (w.heap.size + 1) (.int .i64 0) (.slice none 0 0) ∧ w.heap.size + 2 ≤ W.heap.size) := by
    rw [hW]
    refine ⟨((Below.refl _ _).alloc (Nat.le_refl _) _).alloc (by simp) _, (S4.new w _ _ _ _ _).keep ((Below.refl _ _).alloc (Nat.le_refl _) _), ?_, by simp⟩
    have := S2.new (w.alloc (.cells #[.int .i64 bu, .int .i64 gu, .slice ta tl.length tc, .slice ka kl.length kc] 28)) (.int .i64 0) (.slice none 0 0) 84
    simpa using this
  obtain ⟨A, hA⟩ : ∃ A, tagA bu gu (tl.map Prod.fst) (kl.map Prod.fst) tag = A := ⟨_, rfl⟩
  rw [hA]
  unfold tagA at hA
  have HA : Hid (_ = A) := hA
  have e0 := K0.out.2.1.c0
  have e1 := K0.out.2.1.c1
  have e2 := K0.out.2.1.c2
  have e3 := K0.out.2.1.c3
  rw [HW.out] at e0 e1 e2 e3
  clear hW hl hk hto hft ht hq hA
  generalize storeC bu gu (tl.map Prod.fst) (kl.map Prod.fst) = sc at *
  generalize tl.length = tn at *
  generalize kl.length = kn at *
  go_enter Tryz.func49, Tryz.ntmps49
  go_wp2_with fail
  rw [← HW.out]
  refine (HF.out _ K0.out.1).mono ?_
  rintro r0 w1 ⟨rfl, hb1⟩
  have K1 : Hid (Below w.heap.size w w1 ∧ S4 w1 w.heap.size (.int .i64 bu) (.int .i64 gu) (.slice ta tn tc) (.slice ka kn kc) ∧ S2 w1 (w.heap.size + 1) (.int .i64 0) (.slice none 0 0) ∧ w.heap.size + 2 ≤ w1.heap.size) := ⟨K0.out.1.trans (hb1.mono K0.out.1.size), K0.out.2.1.keep hb1, K0.out.2.2.1.keep hb1, by have := K0.out.2.2.2; have := hb1.size; omega⟩
  clear K0 HW hb1 HF e0 e1 e2 e3
  by_cases cs : sc = 0
  · subst cs
    have HAe : Hid (A = ⟨0, keysP (tagP tag) (tl.map Prod.fst ++ kl.map Prod.fst)⟩) := by have := HA.out; simp only [ne_eq, not_true_eq_false, if_false] at this; exact this.symm
    clear HA
    go_wp2_with fail
    refine (HT.out (by trivial) _ K1.out.1 K1.out.2.1.c2 K1.out.2.1.c3).mono ?_
    rintro r0 w2 ⟨⟨a, n, k, rfl, ho⟩, hb2⟩
    have HO : Hid (RowT w2 w1.heap.size (.slice a n k) (keysP (tagP tag) (tl.map Prod.fst ++ kl.map Prod.fst))) := ho
    have s2 := K1.out.2.2.1.keep hb2
    have HB : Hid (Below w.heap.size w w2 ∧ w.heap.size + 2 ≤ w1.heap.size) := ⟨K1.out.1.trans (hb2.mono K1.out.1.size), K1.out.2.2.2⟩
    have z0 := s2.c0
    have z1 := s2.c1
    have zf0 := s2.fr 0
    have zf1 := s2.fr 1
    clear s2 hb2 ho K1 HT
    go_wp2_with fail
    refine bodyPost_ret (v := .agg #[.int .i64 0, .slice a n k]) (by simp [results, Tryz.results49, go_sem, z0, z1]) rfl ?_
    have hlt : w.heap.size + 1 < w1.heap.size := by have := HB.out.2; omega
    exact ⟨(NamAns.got (row_off1T (row_off1T HO.out _ hlt) _ hlt) (by omega)).of HAe.out, (HB.out.1.setCell (by simp) _).setCell (by simp) _⟩
  · have HAe : Hid (A = ⟨sc, []⟩) := by have := HA.out; rw [if_pos cs] at this; exact this.symm
    have z0 := K1.out.2.2.1.c0
    have z1 := K1.out.2.2.1.c1
    have zf0 := K1.out.2.2.1.fr 0
    have zf1 := K1.out.2.2.1.fr 1
    have HB : Hid (Below w.heap.size w w1) := K1.out.1
    clear HA K1 HT
    go_wp2_with fail
    refine bodyPost_ret (v := .agg #[.int .i64 sc, .slice none 0 0]) (by simp [results, Tryz.results49, go_sem, z0, z1]) rfl ?_
    exact ⟨(NamAns.bad _ _ _).of HAe.out, (HB.out.setCell (by simp) _).setCell (by simp) _⟩
set_option maxHeartbeats 2000000 in
theorem hasTag_any (w : World) (tag : ByteArray) : Calls Tryz.prog 114 #[.string tag] w fun e w' => e = .returned (.func (.func 160) #[] #[.pointer (some ⟨w.heap.size, 0, none⟩)]) ∧ w'.cell? ⟨w.heap.size, 0, none⟩ = some (.string tag) ∧ w.heap.size < w'.heap.size ∧ Below w.heap.size w w' := by
  go_enter Tryz.func114, Tryz.ntmps114
  go_wp2_with fail
  go_ret
  exact ⟨rfl, by simp, by simp, (Below.refl _ _).alloc (Nat.le_refl _) _⟩
set_option maxHeartbeats 2000000 in
theorem hasKey_any (w : World) (key : ByteArray) : Calls Tryz.prog 119 #[.string key] w fun e w' => e = .returned (.func (.func 164) #[] #[.pointer (some ⟨w.heap.size, 0, none⟩)]) ∧ w'.cell? ⟨w.heap.size, 0, none⟩ = some (.string key) ∧ w.heap.size < w'.heap.size ∧ Below w.heap.size w w' := by
  go_enter Tryz.func119, Tryz.ntmps119
  go_wp2_with fail
  go_ret
  exact ⟨rfl, by simp, by simp, (Below.refl _ _).alloc (Nat.le_refl _) _⟩
theorem entC_sizes {x : Ent} (h : entC x = 0) : x.key.size ≤ 1048576 ∧ x.ts.length ≤ 1048576 := by
  obtain ⟨z1, _, _, _, _, z6, _⟩ := entryC_zero h
  exact ⟨by omega, by omega⟩
set_option maxRecDepth 100000 in
set_option maxHeartbeats 8000000 in
theorem implKeysT_any (w : World) (bu gu : Int) (ta ka : Option Addr) (tc kc : Nat) (tl kl : List (Ent × EntR)) (tag : ByteArray) (hset : SetIs w) (hl : tl.length ≤ 1048576) (hk : kl.length ≤ 1048576) (hto : ∀ q ∈ tl ++ kl, EntOk q.1) (ht : EntsIn w ta tl) (hq : EntsIn w ka kl) :
    Calls Tryz.prog 46 #[.agg #[.int .i64 bu, .int .i64 gu, .slice ta tl.length tc, .slice ka kl.length kc], .string tag] w fun e w' => NamAns (tagA bu gu (tl.map Prod.fst) (kl.map Prod.fst) tag) w.heap.size e w' ∧ Below w.heap.size w w' := by
  have HF : Hid (∀ X, Below w.heap.size w X → Calls Tryz.prog 29 #[.agg #[.int .i64 bu, .int .i64 gu, .slice ta tl.length tc, .slice ka kl.length kc]] X fun r w' => r = .returned (.int .i64 (storeC bu gu (tl.map Prod.fst) (kl.map Prod.fst))) ∧ Below X.heap.size X w') := fun X hb => implSto_any X bu gu ta ka tc kc tl kl (hset.below hb) hl hk hto (ht.keep hb) (hq.keep hb)
  have HSO : Hid (∀ X, Below w.heap.size w X → Calls Tryz.prog 56 #[.agg #[.int .i64 bu, .int .i64 gu, .slice ta tl.length tc, .slice ka kl.length kc]] X fun e w' => (∃ a1 c1 d1 a2 c2 d2, e = .returned (.agg #[.slice a1 c1 d1, .slice a2 c2 d2]) ∧ TwoP w' X.heap.size (.slice a1 c1 d1) (.slice a2 c2 d2) (hdlsA ta tl) (hdlsA ka kl)) ∧ Below X.heap.size X w') := fun X hb => by
    refine (shelvesOf_any X bu gu ta ka tc kc tl kl hl hk (ht.keep hb) (hq.keep hb)).mono ?_
    rintro e w' ⟨⟨v1, v2, rfl, h2⟩, hb'⟩
    obtain ⟨a1, d1, rfl, _⟩ := h2.a.form
    obtain ⟨a2, d2, rfl, _⟩ := h2.b.form
    exact ⟨⟨a1, _, d1, a2, _, d2, rfl, h2⟩, hb'⟩
  have HKO : Hid (storeC bu gu (tl.map Prod.fst) (kl.map Prod.fst) = 0 → ∀ X K v1 v2 base, Below w.heap.size w X → TwoP X base v1 v2 (hdlsA ta tl) (hdlsA ka kl) → K < X.heap.size → X.cell? ⟨K, 0, none⟩ = some (.string tag) → Calls Tryz.prog 115 #[.agg #[v1, v2], .func (.func 160) #[] #[.pointer (some ⟨K, 0, none⟩)]] X fun e w' => (∃ a n k, e = .returned (.slice a n k) ∧ RowT w' X.heap.size (.slice a n k) (keysP (tagP tag) (tl.map Prod.fst ++ kl.map Prod.fst))) ∧ Below X.heap.size X w') := fun h0 X K v1 v2 base hb h hK hc => by
    have hln := (storeC_zero h0).2.1
    rw [List.length_map, List.length_map] at hln
    have hz : ∀ h ∈ hdl2 ta ka tl kl, entC h.x = 0 := fun h hh => storeC_ent h0 h.x (by rw [← hdl2_x ta ka]; exact List.mem_map_of_mem hh)
    refine (keysOf_any X v1 v2 base X.heap.size _ _ (tagP tag) _ (hdlsA ta tl) (hdlsA ka kl) h (predTag X.heap.size K tag hK) hc (Nat.le_refl _) (by rw [hdlsA_len, hdlsA_len]; omega) (hdl2_there (ht.keep hb) (hq.keep hb)) (fun h hh => (entC_sizes (hz h hh)).2) (fun h hh => (entC_sizes (hz h hh)).1)).mono ?_
    rintro e w' ⟨⟨v, rfl, ho⟩, hb'⟩
    have ex : (hdlsA ta tl ++ hdlsA ka kl).map Hdl.x = tl.map Prod.fst ++ kl.map Prod.fst := hdl2_x ta ka tl kl
    rw [ex] at ho
    obtain ⟨va, vc, rfl, _⟩ := row_form ho
    exact ⟨⟨va, _, vc, rfl, ho⟩, hb'⟩
  obtain ⟨W, hW⟩ : ∃ W, W = (w.alloc (.cells #[.int .i64 bu, .int .i64 gu, .slice ta tl.length tc, .slice ka kl.length kc] 28)).alloc (.cells #[.int .i64 0, .slice none 0 0] 84) := ⟨_, rfl⟩
  have HW : Hid (W = (w.alloc (.cells #[.int .i64 bu, .int .i64 gu, .slice ta tl.length tc, .slice ka kl.length kc] 28)).alloc (.cells #[.int .i64 0, .slice none 0 0] 84)) := hW
  have K0 : Hid (Below w.heap.size w W ∧ S4 W w.heap.size (.int .i64 bu) (.int .i64 gu) (.slice ta tl.length tc) (.slice ka kl.length kc) ∧ S2 W (w.heap.size + 1) (.int .i64 0) (.slice none 0 0) ∧ w.heap.size + 2 ≤ W.heap.size) := by
    rw [hW]
    refine ⟨((Below.refl _ _).alloc (Nat.le_refl _) _).alloc (by simp) _, (S4.new w _ _ _ _ _).keep ((Below.refl _ _).alloc (Nat.le_refl _) _), ?_, by simp⟩
    have := S2.new (w.alloc (.cells #[.int .i64 bu, .int .i64 gu, .slice ta tl.length tc, .slice ka kl.length kc] 28)) (.int .i64 0) (.slice none 0 0) 84
    simpa using this
  obtain ⟨A, hA⟩ : ∃ A, tagA bu gu (tl.map Prod.fst) (kl.map Prod.fst) tag = A := ⟨_, rfl⟩
  rw [hA]
  unfold tagA at hA
  have HA : Hid (_ = A) := hA
  have e0 := K0.out.2.1.c0
  have e1 := K0.out.2.1.c1
  have e2 := K0.out.2.1.c2
  have e3 := K0.out.2.1.c3
  rw [HW.out] at e0 e1 e2 e3
  clear hW hl hk hto ht hq hA hset
  generalize storeC bu gu (tl.map Prod.fst) (kl.map Prod.fst) = sc at *
  generalize tl.length = tn at *
  generalize kl.length = kn at *
  go_enter Tryz.func46, Tryz.ntmps46
  go_wp2_with fail
  rw [← HW.out]
  refine (HF.out _ K0.out.1).mono ?_
  rintro r0 w1 ⟨rfl, hb1⟩
  have K1 : Hid (Below w.heap.size w w1 ∧ S4 w1 w.heap.size (.int .i64 bu) (.int .i64 gu) (.slice ta tn tc) (.slice ka kn kc) ∧ S2 w1 (w.heap.size + 1) (.int .i64 0) (.slice none 0 0) ∧ w.heap.size + 2 ≤ w1.heap.size) := ⟨K0.out.1.trans (hb1.mono K0.out.1.size), K0.out.2.1.keep hb1, K0.out.2.2.1.keep hb1, by have := K0.out.2.2.2; have := hb1.size; omega⟩
  clear K0 HW hb1 HF e0 e1 e2 e3
  by_cases cs : sc = 0
  · subst cs
    have HAe : Hid (A = ⟨0, keysP (tagP tag) (tl.map Prod.fst ++ kl.map Prod.fst)⟩) := by have := HA.out; simp only [ne_eq, not_true_eq_false, if_false] at this; exact this.symm
    have HK := HKO.out rfl
    clear HA HKO
    have e0 := K1.out.2.1.c0
    have e1 := K1.out.2.1.c1
    have e2 := K1.out.2.1.c2
    have e3 := K1.out.2.1.c3
    go_wp2_with fail
    refine (HSO.out _ K1.out.1).mono ?_
    rintro r0 w2 ⟨⟨a1, c1, d1, a2, c2, d2, rfl, tp⟩, hb2⟩
    have K2 : Hid (Below w.heap.size w w2 ∧ S2 w2 (w.heap.size + 1) (.int .i64 0) (.slice none 0 0) ∧ w.heap.size + 2 ≤ w2.heap.size ∧ TwoP w2 w1.heap.size (.slice a1 c1 d1) (.slice a2 c2 d2) (hdlsA ta tl) (hdlsA ka kl)) := ⟨K1.out.1.trans (hb2.mono K1.out.1.size), K1.out.2.2.1.keep hb2, by have := K1.out.2.2.2; have := hb2.size; omega, tp⟩
    clear e0 e1 e2 e3 hb2 tp K1 HSO
    go_wp2_with fail
    refine (hasTag_any w2 tag).mono ?_
    rintro r0 w3 ⟨rfl, hc3, hl3, hb3⟩
    have K3 : Hid (Below w.heap.size w w3 ∧ S2 w3 (w.heap.size + 1) (.int .i64 0) (.slice none 0 0) ∧ w.heap.size + 2 ≤ w3.heap.size) := ⟨K2.out.1.trans (hb3.mono K2.out.1.size), K2.out.2.1.keep hb3, by have := K2.out.2.2.1; omega⟩
    have CK := HK w3 w2.heap.size _ _ _ K3.out.1 (K2.out.2.2.2.below hb3) hl3 hc3
    clear hb3 hc3 hl3 K2 HK
    go_wp2_with fail
    refine CK.mono ?_
    rintro r0 w4 ⟨⟨a, n, k, rfl, ho⟩, hb4⟩
    have HO : Hid (RowT w4 w3.heap.size (.slice a n k) (keysP (tagP tag) (tl.map Prod.fst ++ kl.map Prod.fst))) := ho
    have s2 := K3.out.2.1.keep hb4
    have HB : Hid (Below w.heap.size w w4 ∧ w.heap.size + 2 ≤ w3.heap.size) := ⟨K3.out.1.trans (hb4.mono K3.out.1.size), K3.out.2.2⟩
    have z0 := s2.c0
    have z1 := s2.c1
    have zf0 := s2.fr 0
    have zf1 := s2.fr 1
    clear s2 hb4 ho K3 CK
    go_wp2_with fail
    refine bodyPost_ret (v := .agg #[.int .i64 0, .slice a n k]) (by simp [results, Tryz.results46, go_sem, z0, z1]) rfl ?_
    have hlt : w.heap.size + 1 < w3.heap.size := by have := HB.out.2; omega
    exact ⟨(NamAns.got (row_off1T (row_off1T HO.out _ hlt) _ hlt) (by omega)).of HAe.out, (HB.out.1.setCell (by simp) _).setCell (by simp) _⟩
  · have HAe : Hid (A = ⟨sc, []⟩) := by have := HA.out; rw [if_pos cs] at this; exact this.symm
    have z0 := K1.out.2.2.1.c0
    have z1 := K1.out.2.2.1.c1
    have zf0 := K1.out.2.2.1.fr 0
    have zf1 := K1.out.2.2.1.fr 1
    have HB : Hid (Below w.heap.size w w1) := K1.out.1
    clear HA K1 HKO HSO
    go_wp2_with fail
    refine bodyPost_ret (v := .agg #[.int .i64 sc, .slice none 0 0]) (by simp [results, Tryz.results46, go_sem, z0, z1]) rfl ?_
    exact ⟨(NamAns.bad _ _ _).of HAe.out, (HB.out.setCell (by simp) _).setCell (by simp) _⟩
end Go.Proofs.YtdooopkpnanekaaGreatDoor
/-
  Entries that are pointed at, told anew by the program; a store of them.
-/
namespace Go.Proofs.YtdooopkpnanekaaGreatDoor
open Go.ChangeShapes Go.WideShapes Go.ChangeAt Go.RowKit Go.Sort
theorem entsO_nil (w : World) (base : Nat) : EntsO w base (.slice none 0 0) [] := ⟨OwnE.nil w base, fun q hq => by simp at hq, by simp [foot, Value.ownBlock]⟩
set_option maxRecDepth 100000 in
set_option maxHeartbeats 8000000 in
theorem told_any (w : World) (v : Value) (base : Nat) (l : List Hdl) (ho : OwnP w base v l) (hl : l.length ≤ 1000) (hth : ∀ h ∈ l, HThere w h) (hz : ∀ h ∈ l, entC h.x = 0) (hts : ∀ h ∈ l, ∀ t ∈ h.x.ts, t.size ≤ 1048576) :
    Calls Tryz.prog 125 #[.agg #[v], .func (.func 102) #[] #[]] w fun e w' => (∃ u m, e = .returned u ∧ m.map Prod.fst = l.map Hdl.x ∧ EntsO w' w.heap.size u m) ∧ Below w.heap.size w w' := by
  obtain ⟨i0, hi0, hz0, hz1, hz2⟩ := info_parts infoEntry
  obtain ⟨va, vc, rfl, _, hf⟩ := ho.form
  have HC : Hid (∀ (k : Nat) h, l[k]? = some h → ∃ g, va = some ⟨g, 0, none⟩ ∧ g < w.heap.size ∧ w.cell? ⟨g, k, none⟩ = some (.pointer (some ⟨h.b, h.o, none⟩))) := fun k h hk => by
    rcases hf with rfl | ⟨g, e, _, hg, hc⟩
    · simp at hk
    · exact ⟨g, e, hg, hc k h hk⟩
  have HT : Hid (∀ X, Below w.heap.size w X → ∀ h ∈ l, Calls Tryz.prog 102 #[.pointer (some ⟨h.b, h.o, none⟩)] X fun e w' => (∃ r, e = .returned (.agg #[.string h.x.key, .int .i64 h.x.st, .slice r.ha h.x.hs.length r.hc, .slice r.ba h.x.bl.length r.bc, .int .i64 h.x.t, .int .i64 h.x.g, .int .i64 h.x.l, .int .i64 h.x.s, .int .i64 h.x.e, .bool h.x.b1, .bool h.x.b2, .slice r.ta h.x.ts.length r.tc, .int .i64 h.x.pins]) ∧ EntLV w' X.heap.size h.x r) ∧ Below X.heap.size X w') := fun X hX h hh => (anew_at X h (hz h hh) (hts h hh) ((hth h hh).keep hX)).mono (fun e w' ⟨⟨r, h1, h2⟩, h3⟩ => ⟨⟨r, h1, h2.lv⟩, h3⟩)
  clear hf ho hth hz hts
  obtain ⟨n, hn0⟩ : ∃ n, l.length = n := ⟨_, rfl⟩
  rw [hn0] at hl ⊢
  have HN : Hid (l.length = n) := hn0
  clear hn0
  have HS : Hid (∃ m : List (Ent × EntR), m.map Prod.fst = (l.take 0).map Hdl.x ∧ EntsO (w.alloc (.cells #[.slice va n vc] 96)) w.heap.size (.slice none 0 0) m ∧ Below w.heap.size w (w.alloc (.cells #[.slice va n vc] 96))) := ⟨[], by simp, entsO_nil _ _, (Below.refl _ _).alloc (Nat.le_refl _) _⟩
  go_enter Tryz.func125, Tryz.ntmps125
  go_wp2_with fail
  go_loopw [5, 11] (fun v i wr => ∃ k : Nat, k ≤ n ∧ i = .int .i64 (k : Int) ∧ ∃ m : List (Ent × EntR), m.map Prod.fst = (l.take k).map Hdl.x ∧ EntsO wr w.heap.size v m ∧ Below w.heap.size w wr) (fun _ i _ => n - (intOf i).toNat)
  case atStart => exact ⟨0, Nat.zero_le _, rfl, HS.out⟩
  case round =>
    obtain ⟨k, hk, rfl, m, hm, ho, hb⟩ := hrel
    clear HS
    by_cases hlt : k < n
    · obtain ⟨q, hq⟩ : ∃ r, l[k]? = some r := ⟨l[k]'(by have := HN.out; omega), List.getElem?_eq_getElem _⟩
      have hml : m.length = k := by
        have := congrArg List.length hm
        rw [List.length_map, List.length_map, List.length_take] at this
        have := HN.out
        omega
      obtain ⟨g', rfl, hg, hc⟩ := HC.out k q hq
      have p1 : wr.cell? ⟨g', k, none⟩ = some (.pointer (some ⟨q.b, q.o, none⟩)) := by rw [hb.cell (p := ⟨g', k, none⟩) hg]; exact hc
      have CC := HT.out wr hb q (List.mem_of_getElem? hq)
      obtain ⟨ua, uc, rfl, huc⟩ := row_form ho.own
      rw [hml] at ho huc ⊢
      have HQ : Hid (l[k]? = some q ∧ m.map Prod.fst = (l.take k).map Hdl.x ∧ m.length = k ∧ EntsO wr w.heap.size (.slice ua k uc) m ∧ Below w.heap.size w wr) := ⟨hq, hm, hml, ho, hb⟩
      obtain ⟨x, hx⟩ : ∃ x, q.x = x := ⟨_, rfl⟩
      have HX : Hid (q.x = x) := hx
      rw [hx] at CC
      have gk : (k : Int) < n := by omega
      have gk0 : (0 : Int) ≤ k := by omega
      clear hc hq hm hml ho hb hx hg
      go_wp2_with fail
      refine CC.mono ?_
      rintro e w1 ⟨⟨r, rfl, hr⟩, hb1⟩
      have O1 := HQ.out.2.2.2.1.below hb1
      have s1 := hb1.size
      have K2 : Below w1.heap.size w1 (w1.alloc (.cells #[.string x.key, .int .i64 x.st, .slice r.ha x.hs.length r.hc, .slice r.ba x.bl.length r.bc, .int .i64 x.t, .int .i64 x.g, .int .i64 x.l, .int .i64 x.s, .int .i64 x.e, .bool x.b1, .bool x.b2, .slice r.ta x.ts.length r.tc, .int .i64 x.pins] 52)) := (Below.refl _ _).alloc (Nat.le_refl _) _
      have O2 : Hid ((w1.alloc (.cells #[.string x.key, .int .i64 x.st, .slice r.ha x.hs.length r.hc, .slice r.ba x.bl.length r.bc, .int .i64 x.t, .int .i64 x.g, .int .i64 x.l, .int .i64 x.s, .int .i64 x.e, .bool x.b1, .bool x.b2, .slice r.ta x.ts.length r.tc, .int .i64 x.pins] 52)).ownsRow w.heap.size 52 13 (.slice ua k uc) k (entsW m)) := by
        have := (O1.below K2).own
        unfold OwnE at this
        rw [HQ.out.2.2.1] at this
        exact this
      have s2 : Hid (w.heap.size ≤ (w1.alloc (.cells #[.string x.key, .int .i64 x.st, .slice r.ha x.hs.length r.hc, .slice r.ba x.bl.length r.bc, .int .i64 x.t, .int .i64 x.g, .int .i64 x.l, .int .i64 x.s, .int .i64 x.e, .bool x.b1, .bool x.b2, .slice r.ta x.ts.length r.tc, .int .i64 x.pins] 52)).heap.size) := by show _ ≤ _; have := K2.size; have := HQ.out.2.2.2.2.size; omega
      have HA : Hid (∀ g cap w3, w3.ownsRow w.heap.size 52 13 (.slice (some ⟨g, 0, none⟩) (k + 1) cap) (k + 1) (entsW m ++ entW x r) → (w1.alloc (.cells #[.string x.key, .int .i64 x.st, .slice r.ha x.hs.length r.hc, .slice r.ba x.bl.length r.bc, .int .i64 x.t, .int .i64 x.g, .int .i64 x.l, .int .i64 x.s, .int .i64 x.e, .bool x.b1, .bool x.b2, .slice r.ta x.ts.length r.tc, .int .i64 x.pins] 52)).grownBy w3 (Value.slice ua k uc).ownBlock → ((Value.slice ua k uc).ownBlock = some g ∨ g = (w1.alloc (.cells #[.string x.key, .int .i64 x.st, .slice r.ha x.hs.length r.hc, .slice r.ba x.bl.length r.bc, .int .i64 x.t, .int .i64 x.g, .int .i64 x.l, .int .i64 x.s, .int .i64 x.e, .bool x.b1, .bool x.b2, .slice r.ta x.ts.length r.tc, .int .i64 x.pins] 52)).heap.size) → ∃ m' : List (Ent × EntR), m'.map Prod.fst = (l.take (k + 1)).map Hdl.x ∧ EntsO w3 w.heap.size (.slice (some ⟨g, 0, none⟩) (k + 1) cap) m' ∧ Below w.heap.size w w3) := fun g cap w3 h1 h2 h3 => by
        obtain ⟨hq, hm, hml, ho, hb⟩ := HQ.out
        have hbase := hb.size
        have hB : Below w.heap.size (w1.alloc (.cells #[.string x.key, .int .i64 x.st, .slice r.ha x.hs.length r.hc, .slice r.ba x.bl.length r.bc, .int .i64 x.t, .int .i64 x.g, .int .i64 x.l, .int .i64 x.s, .int .i64 x.e, .bool x.b1, .bool x.b2, .slice r.ta x.ts.length r.tc, .int .i64 x.pins] 52)) w3 := (Below.refl _ _).grown h2 s2.out (fun q hq => row_ge O2.out q hq)
        refine ⟨m ++ [(x, r)], ?_, ?_, (hb.trans ((hb1.trans (K2.mono s1)).mono hbase)).trans hB⟩
        · rw [List.map_append, take_next hq, List.map_append, hm]
          simp [HX.out]
        · have := EntsO.app (g := g) (cap := cap) O1 hr hbase (fun b hb => ho.lt hb) K2 (by rw [hml]; exact h1) h2 hB.size h3
          rw [hml] at this
          exact this
      have HW : Hid (∀ j u, (entW x r)[j]? = some u → (w1.alloc (.cells #[.string x.key, .int .i64 x.st, .slice r.ha x.hs.length r.hc, .slice r.ba x.bl.length r.bc, .int .i64 x.t, .int .i64 x.g, .int .i64 x.l, .int .i64 x.s, .int .i64 x.e, .bool x.b1, .bool x.b2, .slice r.ta x.ts.length r.tc, .int .i64 x.pins] 52)).cell? ((⟨w1.heap.size, 0, none⟩ : Addr).add j) = some u) := entW_cells w1 x r _
      clear CC O1 K2 hr hb1 s1 p1
      go_wp2_with (at_builtin; refine wpList_append_lies _ rfl (.tmp 15) (.tmp 19) 26 rfl w.heap.size 52 i0 _ 13 152 Tryz.underlying26 hi0 hz0 hz1 hz2 rfl (by omega) _ k (entsW m) rfl O2.out _ 1 1 (entW x r) rfl rfl HW.out (entW_one x r) (by omega) (by unfold maxLen; omega) (by omega) s2.out _ rfl ?_; intro g cp w3 h1 h2 h3 h4)
      go_roundw
      case rel => exact ⟨k + 1, by omega, by go_num, HA.out _ _ _ h1 h2 h3⟩
      case measure => simp [intOf]; omega
    · have ek : k = n := by omega
      subst ek
      obtain ⟨ua, uc, rfl, _⟩ := row_form ho.own
      have HE : Hid ((∃ v' m', Ending.returned (.slice ua m.length uc) = .returned v' ∧ m'.map Prod.fst = l.map Hdl.x ∧ EntsO wr w.heap.size v' m') ∧ Below w.heap.size w wr) := ⟨⟨_, m, rfl, by rw [hm, List.take_of_length_le (by have := HN.out; omega)], ho⟩, hb⟩
      clear hm ho hb HC HT
      go_wp2_with fail
      go_ret
      exact HE.out
set_option maxRecDepth 100000 in
set_option maxHeartbeats 16000000 in
theorem storeLike_any (w : World) (v1 v2 : Value) (base : Nat) (l1 l2 : List Hdl) (bu gu : Int) (ta ka : Option Addr) (tc kc tn kn : Nat) (h : TwoP w base v1 v2 l1 l2) (hl : l1.length + l2.length ≤ 1000) (hth : ∀ h ∈ l1 ++ l2, HThere w h) (hz : ∀ h ∈ l1 ++ l2, entC h.x = 0) (hts : ∀ h ∈ l1 ++ l2, ∀ t ∈ h.x.ts, t.size ≤ 1048576) :
    Calls Tryz.prog 60 #[.agg #[v1, v2], .agg #[.int .i64 bu, .int .i64 gu, .slice ta tn tc, .slice ka kn kc]] w fun e w' => (∃ a1 k1 n1 a2 k2 n2 m1 m2, e = .returned (.agg #[.int .i64 bu, .int .i64 gu, .slice a1 n1 k1, .slice a2 n2 k2]) ∧ m1.map Prod.fst = l1.map Hdl.x ∧ m2.map Prod.fst = l2.map Hdl.x ∧ StoO w' w.heap.size (.slice a1 n1 k1) (.slice a2 n2 k2) m1 m2) ∧ Below w.heap.size w w' := by
  obtain ⟨b1, d1, e1, _⟩ := h.a.form
  obtain ⟨b2, d2, e2, _⟩ := h.b.form
  have HC1 : Hid (∀ X, Below w.heap.size w X → Calls Tryz.prog 125 #[.agg #[v1], .func (.func 102) #[] #[]] X fun e w' => (∃ u m, e = .returned u ∧ m.map Prod.fst = l1.map Hdl.x ∧ EntsO w' X.heap.size u m) ∧ Below X.heap.size X w') := fun X hX => told_any X v1 base l1 (h.a.below hX) (by omega) (fun x hx => (hth x (List.mem_append_left _ hx)).keep hX) (fun x hx => hz x (List.mem_append_left _ hx)) (fun x hx => hts x (List.mem_append_left _ hx))
  have HC2 : Hid (∀ X, Below w.heap.size w X → Calls Tryz.prog 125 #[.agg #[v2], .func (.func 102) #[] #[]] X fun e w' => (∃ u m, e = .returned u ∧ m.map Prod.fst = l2.map Hdl.x ∧ EntsO w' X.heap.size u m) ∧ Below X.heap.size X w') := fun X hX => told_any X v2 base l2 (h.b.below hX) (by omega) (fun x hx => (hth x (List.mem_append_right _ hx)).keep hX) (fun x hx => hz x (List.mem_append_right _ hx)) (fun x hx => hts x (List.mem_append_right _ hx))
  obtain ⟨W, hW⟩ : ∃ W, W = ((w.alloc (.cells #[v1, v2] 98)).alloc (.cells #[.int .i64 bu, .int .i64 gu, .slice ta tn tc, .slice ka kn kc] 28)).alloc (.cells #[.int .i64 0, .int .i64 0, .slice none 0 0, .slice none 0 0] 28) := ⟨_, rfl⟩
  have HW : Hid (W = ((w.alloc (.cells #[v1, v2] 98)).alloc (.cells #[.int .i64 bu, .int .i64 gu, .slice ta tn tc, .slice ka kn kc] 28)).alloc (.cells #[.int .i64 0, .int .i64 0, .slice none 0 0, .slice none 0 0] 28)) := hW
  have K0 : Hid (Below w.heap.size w W ∧ (W.cell? ⟨w.heap.size, 0, none⟩ = some v1 ∧ W.cell? ⟨w.heap.size, 1, none⟩ = some v2) ∧ S4 W (w.heap.size + 1) (.int .i64 bu) (.int .i64 gu) (.slice ta tn tc) (.slice ka kn kc) ∧ S4 W (w.heap.size + 2) (.int .i64 0) (.int .i64 0) (.slice none 0 0) (.slice none 0 0) ∧ W.heap.size = w.heap.size + 3) := by
    have A1 : Below (w.alloc (.cells #[v1, v2] 98)).heap.size (w.alloc (.cells #[v1, v2] 98)) W := by rw [hW]; exact ((Below.refl _ _).alloc (Nat.le_refl _) _).alloc (by simp) _
    have s1 := S4.new (w.alloc (.cells #[v1, v2] 98)) (.int .i64 bu) (.int .i64 gu) (.slice ta tn tc) (.slice ka kn kc) 28
    have s2 := S4.new ((w.alloc (.cells #[v1, v2] 98)).alloc (.cells #[.int .i64 bu, .int .i64 gu, .slice ta tn tc, .slice ka kn kc] 28)) (.int .i64 0) (.int .i64 0) (.slice none 0 0) (.slice none 0 0) 28
    rw [← hW] at s2
    have z1 : (w.alloc (.cells #[v1, v2] 98)).heap.size = w.heap.size + 1 := by simp
    have z2 : ((w.alloc (.cells #[v1, v2] 98)).alloc (.cells #[.int .i64 bu, .int .i64 gu, .slice ta tn tc, .slice ka kn kc] 28)).heap.size = w.heap.size + 2 := by simp
    rw [z1] at s1 A1
    rw [z2] at s2
    refine ⟨by rw [hW]; exact (((Below.refl _ _).alloc (Nat.le_refl _) _).alloc (by simp) _).alloc (by simp; omega) _, ⟨?_, ?_⟩, ?_, s2, by rw [hW]; simp⟩
    · rw [A1.cell (p := ⟨w.heap.size, 0, none⟩) (by simp)]; simp
    · rw [A1.cell (p := ⟨w.heap.size, 1, none⟩) (by simp)]; simp
    · refine s1.keep ?_
      rw [z2, hW]
      exact (Below.refl _ _).alloc (by simp) _
  clear hW h hth hz hts
  have HK : Hid (∀ X, Below W.heap.size W X → Below w.heap.size w X ∧ (X.cell? ⟨w.heap.size, 0, none⟩ = some v1 ∧ X.cell? ⟨w.heap.size, 1, none⟩ = some v2) ∧ S4 X (w.heap.size + 1) (.int .i64 bu) (.int .i64 gu) (.slice ta tn tc) (.slice ka kn kc) ∧ S4 X (w.heap.size + 2) (.int .i64 0) (.int .i64 0) (.slice none 0 0) (.slice none 0 0) ∧ w.heap.size + 3 ≤ X.heap.size) := fun X hX => by
    obtain ⟨k1, ⟨k2, k3⟩, k4, k5, k6⟩ := K0.out
    have hz := hX.size
    refine ⟨k1.trans (hX.mono k1.size), ⟨?_, ?_⟩, k4.keep hX, k5.keep hX, by omega⟩
    · rw [hX.cell (p := ⟨w.heap.size, 0, none⟩) (by simp only; omega)]; exact k2
    · rw [hX.cell (p := ⟨w.heap.size, 1, none⟩) (by simp only; omega)]; exact k3
  clear K0
  subst e1
  subst e2
  generalize l1.length = c1 at *
  generalize l2.length = c2 at *
  have HKS : Hid (∀ X, Below W.heap.size W X → (X.cell? ⟨w.heap.size, 0, none⟩ = some (.slice b1 c1 d1) ∧ X.cell? ⟨w.heap.size, 1, none⟩ = some (.slice b2 c2 d2) ∧ X.cell? ⟨w.heap.size + 1, 0, none⟩ = some (.int .i64 bu) ∧ X.cell? ⟨w.heap.size + 1, 1, none⟩ = some (.int .i64 gu))) := fun X hX => ⟨(HK.out X hX).2.1.1, (HK.out X hX).2.1.2, (HK.out X hX).2.2.1.c0, (HK.out X hX).2.2.1.c1⟩
  have HKT : Hid (∀ X u0 u1 u2 u3, Below W.heap.size W X → (((((X.setCell ⟨w.heap.size + 2, 0, none⟩ u0).setCell ⟨w.heap.size + 2, 1, none⟩ u1).setCell ⟨w.heap.size + 2, 2, none⟩ u2).setCell ⟨w.heap.size + 2, 3, none⟩ u3).cell? ⟨w.heap.size, 0, none⟩ = some (.slice b1 c1 d1) ∧ ((((X.setCell ⟨w.heap.size + 2, 0, none⟩ u0).setCell ⟨w.heap.size + 2, 1, none⟩ u1).setCell ⟨w.heap.size + 2, 2, none⟩ u2).setCell ⟨w.heap.size + 2, 3, none⟩ u3).cell? ⟨w.heap.size, 1, none⟩ = some (.slice b2 c2 d2) ∧ ((((X.setCell ⟨w.heap.size + 2, 0, none⟩ u0).setCell ⟨w.heap.size + 2, 1, none⟩ u1).setCell ⟨w.heap.size + 2, 2, none⟩ u2).setCell ⟨w.heap.size + 2, 3, none⟩ u3).cell? ⟨w.heap.size + 1, 0, none⟩ = some (.int .i64 bu) ∧ ((((X.setCell ⟨w.heap.size + 2, 0, none⟩ u0).setCell ⟨w.heap.size + 2, 1, none⟩ u1).setCell ⟨w.heap.size + 2, 2, none⟩ u2).setCell ⟨w.heap.size + 2, 3, none⟩ u3).cell? ⟨w.heap.size + 1, 1, none⟩ = some (.int .i64 gu))) := fun X u0 u1 u2 u3 hX => by
    obtain ⟨q0, q1, q2, q3⟩ := HKS.out X hX
    have off : ∀ (b i : Nat), b ≠ w.heap.size + 2 → ((((X.setCell ⟨w.heap.size + 2, 0, none⟩ u0).setCell ⟨w.heap.size + 2, 1, none⟩ u1).setCell ⟨w.heap.size + 2, 2, none⟩ u2).setCell ⟨w.heap.size + 2, 3, none⟩ u3).cell? ⟨b, i, none⟩ = X.cell? ⟨b, i, none⟩ := fun b i hb => by
      have ne : ∀ j, (⟨w.heap.size + 2, j, none⟩ : Addr) ≠ ⟨b, i, none⟩ := fun j e => hb (congrArg Addr.block e).symm
      rw [World.cell?_setCell_other _ _ _ _ (ne 3), World.cell?_setCell_other _ _ _ _ (ne 2), World.cell?_setCell_other _ _ _ _ (ne 1), World.cell?_setCell_other _ _ _ _ (ne 0)]
    rw [off _ _ (by omega), off _ _ (by omega), off _ _ (by omega), off _ _ (by omega)]
    exact ⟨q0, q1, q2, q3⟩
  have B0 : Hid (Below W.heap.size W W.drew) := (Below.refl _ _).drew
  go_enter Tryz.func60, Tryz.ntmps60
  go_wp2_with fail
  rw [← HW.out]
  clear HW
  go_region_held3 (fun X => X.cell? ⟨w.heap.size, 0, none⟩ = some (.slice b1 c1 d1) ∧ X.cell? ⟨w.heap.size, 1, none⟩ = some (.slice b2 c2 d2) ∧ X.cell? ⟨w.heap.size + 1, 0, none⟩ = some (.int .i64 bu) ∧ X.cell? ⟨w.heap.size + 1, 1, none⟩ = some (.int .i64 gu))
    (first | ((with_reducible refine HKS.out _ ?_); (with_reducible exact BB.out)) | ((with_reducible refine HKS.out _ ?_); (with_reducible exact BA.out)) | ((with_reducible refine HKS.out _ ?_); (with_reducible exact B0.out)) | ((with_reducible refine HKT.out _ _ _ _ _ ?_); (with_reducible exact BB.out)))
    (first
    | (go_at_call 125; have hBA := BA; refine (HC2.out _ (HK.out _ BA.out).1).mono ?_; rintro r0 wb ⟨⟨u2, m2, rfl, hm2, ho2⟩, hbb⟩; obtain ⟨a2, k2, rfl, _⟩ := row_form ho2.own; have BB : Hid (Below W.heap.size W wb) := BA.out.trans (hbb.mono BA.out.size); have TT : Hid (StoO wb (w.heap.size + 3) _ (.slice a2 m2.length k2) m1 m2 ∧ m2.map Prod.fst = l2.map Hdl.x) := ⟨StoO.two OA.out ho2 hbb (Nat.le_refl _) (HK.out _ BA.out).2.2.2.2, hm2⟩; have s4 := (HK.out _ BB.out).2.2.2.1; have c0 := s4.c0; have c1' := s4.c1; have c2' := s4.c2; have c3 := s4.c3; have cf0 := s4.fr 0; have cf1 := s4.fr 1; have cf2 := s4.fr 2; have cf3 := s4.fr 3; clear s4 hbb ho2 hBA hm2)
    | (go_at_call 125; refine (HC1.out _ (HK.out _ B0.out).1).mono ?_; rintro r0 wa ⟨⟨u1, m1, rfl, hm1, ho1⟩, hba⟩; obtain ⟨a1, k1, rfl, _⟩ := row_form ho1.own; have BA : Hid (Below W.heap.size W wa) := B0.out.trans (hba.mono B0.out.size); have OA : Hid (EntsO wa (w.heap.size + 3) (.slice a1 m1.length k1) m1) := ho1.lower (HK.out _ B0.out).2.2.2.2; have HM1 : Hid (m1.map Prod.fst = l1.map Hdl.x) := hm1; clear hba ho1 hm1))
  all_goals
    have KZ : Hid (∀ q0 q1 q2 q3, StoO ((((wb.setCell ⟨w.heap.size + 2, 0, none⟩ q0).setCell ⟨w.heap.size + 2, 1, none⟩ q1).setCell ⟨w.heap.size + 2, 2, none⟩ q2).setCell ⟨w.heap.size + 2, 3, none⟩ q3) w.heap.size (.slice a1 m1.length k1) (.slice a2 m2.length k2) m1 m2 ∧ Below w.heap.size w ((((wb.setCell ⟨w.heap.size + 2, 0, none⟩ q0).setCell ⟨w.heap.size + 2, 1, none⟩ q1).setCell ⟨w.heap.size + 2, 2, none⟩ q2).setCell ⟨w.heap.size + 2, 3, none⟩ q3)) := fun q0 q1 q2 q3 => ⟨((((TT.out.1.off1 q0 (by omega)).off1 q1 (by omega)).off1 q2 (by omega)).off1 q3 (by omega)).lower (by omega), ((((HK.out _ BB.out).1.setCell (by simp) _).setCell (by simp) _).setCell (by simp) _).setCell (by simp) _⟩
    go_wp2_with fail
    exact bodyPost_ret (v := .agg #[.int .i64 bu, .int .i64 gu, .slice a1 m1.length k1, .slice a2 m2.length k2]) (by simp [results, Tryz.results60, go_sem, c0, c1', c2', c3]) rfl ⟨⟨a1, k1, _, a2, k2, _, m1, m2, rfl, HM1.out, TT.out.2, (KZ.out _ _ _ _).1⟩, (KZ.out _ _ _ _).2⟩
end Go.Proofs.YtdooopkpnanekaaGreatDoor
/-
  Shelves from which those that are meant are taken; a store without them, by the program.
-/
namespace Go.Proofs.YtdooopkpnanekaaGreatDoor
open Go.ChangeShapes Go.WideShapes Go.ChangeAt Go.RowKit Go.Sort
/-- Two shelves in a variable. -/
structure H2 (w : World) (lo B : Nat) (v1 v2 : Value) (l1 l2 : List Hdl) : Prop where
  c0 : w.cell? ⟨B, 0, none⟩ = some v1
  c1 : w.cell? ⟨B, 1, none⟩ = some v2
  fr : ∀ o, w.frozen? ⟨B, o, none⟩ = false
  tp : TwoP w lo v1 v2 l1 l2
  lt : B < w.heap.size
  le : lo ≤ B
  n1 : v1.ownBlock ≠ some B
  n2 : v2.ownBlock ≠ some B
theorem H2.below {w w' : World} {lo B : Nat} {v1 v2 : Value} {l1 l2 : List Hdl} (h : H2 w lo B v1 v2 l1 l2) (hb : Below w.heap.size w w') : H2 w' lo B v1 v2 l1 l2 :=
  ⟨by rw [hb.cell (p := ⟨B, 0, none⟩) h.lt]; exact h.c0, by rw [hb.cell (p := ⟨B, 1, none⟩) h.lt]; exact h.c1, fun o => by rw [hb.frozen (p := ⟨B, o, none⟩) h.lt]; exact h.fr o, h.tp.below hb, Nat.lt_of_lt_of_le h.lt hb.size, h.le, h.n1, h.n2⟩
theorem H2.new {w : World} {lo : Nat} {v1 v2 : Value} {l1 l2 : List Hdl} (h : TwoP w lo v1 v2 l1 l2) (hlo : lo ≤ w.heap.size) (t : TypeId) : H2 (w.alloc (.cells #[v1, v2] t)) lo w.heap.size v1 v2 l1 l2 :=
  ⟨by simp, by simp, fun o => by simp, h.below ((Below.refl _ _).alloc (Nat.le_refl _) _), by simp, hlo, fun e => by have := h.a.lt _ e; omega, fun e => by have := h.b.lt _ e; omega⟩
/-- The first shelf is another one now. -/
theorem H2.setT {w w1 : World} {lo B : Nat} {v1 v2 u : Value} {l1 l2 m : List Hdl} (h : H2 w lo B v1 v2 l1 l2) (hg : w.grownBy w1 v1.ownBlock) (ho : OwnP w1 lo u m) (hu : u.ownBlock = v1.ownBlock ∨ ∀ q, u.ownBlock = some q → w.heap.size ≤ q) :
    w1.cell? ⟨B, 0, none⟩ = some v1 ∧ w1.frozen? ⟨B, 0, none⟩ = false ∧ H2 (w1.setCell ⟨B, 0, none⟩ u) lo B u v2 m l2 ∧ (lo ≤ w.heap.size → Below lo w (w1.setCell ⟨B, 0, none⟩ u)) := by
  have hBn : some B ≠ v1.ownBlock := fun e => h.n1 e.symm
  have k0 : w1.cell? ⟨B, 0, none⟩ = some v1 := hg.cell h.c0 hBn
  have k1 : w1.cell? ⟨B, 1, none⟩ = some v2 := hg.cell h.c1 hBn
  have kf : ∀ o, w1.frozen? ⟨B, o, none⟩ = false := fun o => (World.frozen?_of_block (hg.block B h.lt hBn)).trans (h.fr o)
  have nu : u.ownBlock ≠ some B := by
    rcases hu with e | e
    · rw [e]; exact h.n1
    · intro e2; have := e B e2; have := h.lt; omega
  have kb : OwnP w1 lo v2 l2 := World.ownsRow.kept h.tp.b hg (by
    rcases h.tp.ne with e | e
    · cases e2 : v2.ownBlock with
      | none => exact .inl rfl
      | some q => right; rw [e]; simp
    · exact .inr fun e2 => e e2.symm)
  refine ⟨k0, kf 0, ⟨World.cell?_setCell_same _ _ _ k0, by rw [World.cell?_setCell_other _ _ _ _ (by intro e; have := congrArg Addr.off e; simp at this)]; exact k1, fun o => by rw [World.frozen?_setCell]; exact kf o, ⟨row_far1 ho _ nu, row_far1 kb _ h.n2, ?_⟩, by simpa using Nat.lt_of_lt_of_le h.lt hg.size, h.le, nu, h.n2⟩, fun hlo => ?_⟩
  · rcases hu with e | e
    · rw [e]; exact h.tp.ne
    · cases e2 : u.ownBlock with
      | none => exact .inl rfl
      | some q => exact .inr fun e3 => by have := e q e2; have := h.tp.b.lt q e3.symm; omega
  · exact ((Below.refl lo w).grown hg hlo (fun q hq => own_geP h.tp.a q hq)).setCell h.le _
theorem H2.setK {w w1 : World} {lo B : Nat} {v1 v2 u : Value} {l1 l2 m : List Hdl} (h : H2 w lo B v1 v2 l1 l2) (hg : w.grownBy w1 v2.ownBlock) (ho : OwnP w1 lo u m) (hu : u.ownBlock = v2.ownBlock ∨ ∀ q, u.ownBlock = some q → w.heap.size ≤ q) :
    w1.cell? ⟨B, 1, none⟩ = some v2 ∧ w1.frozen? ⟨B, 1, none⟩ = false ∧ H2 (w1.setCell ⟨B, 1, none⟩ u) lo B v1 u l1 m ∧ (lo ≤ w.heap.size → Below lo w (w1.setCell ⟨B, 1, none⟩ u)) := by
  have hBn : some B ≠ v2.ownBlock := fun e => h.n2 e.symm
  have k0 : w1.cell? ⟨B, 0, none⟩ = some v1 := hg.cell h.c0 hBn
  have k1 : w1.cell? ⟨B, 1, none⟩ = some v2 := hg.cell h.c1 hBn
  have kf : ∀ o, w1.frozen? ⟨B, o, none⟩ = false := fun o => (World.frozen?_of_block (hg.block B h.lt hBn)).trans (h.fr o)
  have nu : u.ownBlock ≠ some B := by
    rcases hu with e | e
    · rw [e]; exact h.n2
    · intro e2; have := e B e2; have := h.lt; omega
  have ka : OwnP w1 lo v1 l1 := World.ownsRow.kept h.tp.a hg h.tp.ne
  refine ⟨k1, kf 1, ⟨by rw [World.cell?_setCell_other _ _ _ _ (by intro e; have := congrArg Addr.off e; simp at this)]; exact k0, World.cell?_setCell_same _ _ _ k1, fun o => by rw [World.frozen?_setCell]; exact kf o, ⟨row_far1 ka _ h.n1, row_far1 ho _ nu, ?_⟩, by simpa using Nat.lt_of_lt_of_le h.lt hg.size, h.le, h.n1, nu⟩, fun hlo => ?_⟩
  · rcases hu with e | e
    · rw [e]; exact h.tp.ne
    · cases e2 : v1.ownBlock with
      | none => exact .inl rfl
      | some q => exact .inr fun e3 => by have := e q e3.symm; have := h.tp.a.lt q e2; omega
  · exact ((Below.refl lo w).grown hg hlo (fun q hq => own_geP h.tp.b q hq)).setCell h.le _
theorem PredH.up {lo l2 : Nat} {w w' : World} {g : Nat} {lb : Array Value} {p : Hdl → Bool} {l : List Hdl} (h : PredH lo w g lb p l) (hl : lo ≤ l2) (hb : Below lo w w') : PredH l2 w' g lb p l := ⟨h.eg, fun X hX => h.call X (hb.trans (hX.mono hl))⟩
theorem keepH_len (p : Hdl → Bool) (l : List Hdl) : (keepH p l).length ≤ l.length := List.length_filter_le _ _
set_option maxHeartbeats 4000000 in
theorem takeAll_T (w : World) (lo B g : Nat) (lb : Array Value) (p : Hdl → Bool) (v1 v2 : Value) (l1 l2 : List Hdl) (h : H2 w lo B v1 v2 l1 l2) (hl : l1.length ≤ 1000) (hlo : lo ≤ w.heap.size) (PH : PredH lo w g lb p l1) :
    Calls Tryz.prog 194 #[.pointer (some ⟨B, 0, none⟩), .func (.func g) #[] lb] w fun e w' => e = .returned (.tuple #[]) ∧ (∃ u, H2 w' lo B u v2 (keepH p l1) l2) ∧ Below lo w w' := by
  have CD : Hid (Calls Tryz.prog 212 #[v1, .func (.func g) #[] lb] w fun e w' => (∃ a n c, e = .returned (.slice a n c) ∧ w'.cell? ⟨B, 0, none⟩ = some v1 ∧ w'.frozen? ⟨B, 0, none⟩ = false ∧ H2 (w'.setCell ⟨B, 0, none⟩ (.slice a n c)) lo B (.slice a n c) v2 (keepH p l1) l2 ∧ Below lo w (w'.setCell ⟨B, 0, none⟩ (.slice a n c)))) := by
    refine (deleteFunc_any w lo lo g lb p v1 l1 h.tp.a hl hlo (Nat.le_refl _) PH).mono ?_
    rintro e w' ⟨⟨v', rfl, ho, hv⟩, hg⟩
    obtain ⟨a, c, rfl, _⟩ := ho.form
    have := h.setT hg ho (.inl hv)
    exact ⟨a, _, c, rfl, this.1, this.2.1, this.2.2.1, this.2.2.2 hlo⟩
  have c0 := h.c0
  obtain ⟨a0, k0, e0, _⟩ := h.tp.a.form
  clear h PH hl hlo
  subst e0
  generalize l1.length = n1 at *
  go_enter Tryz.func194, Tryz.ntmps194
  go_wp2_with fail
  refine CD.out.mono ?_
  rintro e w1 ⟨a, n, c, rfl, y0, yf, hh, hb⟩
  have HX : Hid _ := And.intro hh hb
  clear hh hb CD c0
  go_wp2_with fail
  exact bodyPost_end (v := .tuple #[]) (by simp [results, Tryz.results194, go_sem]) rfl ⟨rfl, ⟨_, HX.out.1⟩, HX.out.2⟩
set_option maxHeartbeats 4000000 in
theorem takeAll_K (w : World) (lo B g : Nat) (lb : Array Value) (p : Hdl → Bool) (v1 v2 : Value) (l1 l2 : List Hdl) (h : H2 w lo B v1 v2 l1 l2) (hl : l2.length ≤ 1000) (hlo : lo ≤ w.heap.size) (PH : PredH lo w g lb p l2) :
    Calls Tryz.prog 194 #[.pointer (some ⟨B, 1, none⟩), .func (.func g) #[] lb] w fun e w' => e = .returned (.tuple #[]) ∧ (∃ u, H2 w' lo B v1 u l1 (keepH p l2)) ∧ Below lo w w' := by
  have CD : Hid (Calls Tryz.prog 212 #[v2, .func (.func g) #[] lb] w fun e w' => (∃ a n c, e = .returned (.slice a n c) ∧ w'.cell? ⟨B, 1, none⟩ = some v2 ∧ w'.frozen? ⟨B, 1, none⟩ = false ∧ H2 (w'.setCell ⟨B, 1, none⟩ (.slice a n c)) lo B v1 (.slice a n c) l1 (keepH p l2) ∧ Below lo w (w'.setCell ⟨B, 1, none⟩ (.slice a n c)))) := by
    refine (deleteFunc_any w lo lo g lb p v2 l2 h.tp.b hl hlo (Nat.le_refl _) PH).mono ?_
    rintro e w' ⟨⟨v', rfl, ho, hv⟩, hg⟩
    obtain ⟨a, c, rfl, _⟩ := ho.form
    have := h.setK hg ho (.inl hv)
    exact ⟨a, _, c, rfl, this.1, this.2.1, this.2.2.1, this.2.2.2 hlo⟩
  have c1 := h.c1
  obtain ⟨a0, k0, e0, _⟩ := h.tp.b.form
  clear h PH hl hlo
  subst e0
  generalize l2.length = n2 at *
  go_enter Tryz.func194, Tryz.ntmps194
  go_wp2_with fail
  refine CD.out.mono ?_
  rintro e w1 ⟨a, n, c, rfl, y0, yf, hh, hb⟩
  have HX : Hid _ := And.intro hh hb
  clear hh hb CD c1
  go_wp2_with fail
  exact bodyPost_end (v := .tuple #[]) (by simp [results, Tryz.results194, go_sem]) rfl ⟨rfl, ⟨_, HX.out.1⟩, HX.out.2⟩
theorem keepH_x (p : Ent → Bool) (l : List Hdl) : (keepH (fun h => p h.x) l).map Hdl.x = (l.map Hdl.x).filter fun x => !p x := by
  unfold keepH
  rw [List.filter_map]
  rfl
theorem keepH_mem {p : Hdl → Bool} {l : List Hdl} {h : Hdl} (hh : h ∈ keepH p l) : h ∈ l := (List.mem_filter.1 hh).1
/-- What a function value is told of while a store is purged: the entries of a right store. -/
structure StoOk (w : World) (ta ka : Option Addr) (tl kl : List (Ent × EntR)) : Prop where
  t : EntsIn w ta tl
  k : EntsIn w ka kl
  n : tl.length + kl.length ≤ 40
  z : ∀ h ∈ hdl2 ta ka tl kl, entC h.x = 0
  ts : ∀ h ∈ hdl2 ta ka tl kl, ∀ t ∈ h.x.ts, t.size ≤ 1048576
theorem StoOk.keep {w w' : World} {ta ka : Option Addr} {tl kl : List (Ent × EntR)} (h : StoOk w ta ka tl kl) (hb : Below w.heap.size w w') : StoOk w' ta ka tl kl := ⟨h.t.keep hb, h.k.keep hb, h.n, h.z, h.ts⟩
set_option maxRecDepth 100000 in
set_option maxHeartbeats 8000000 in
theorem takenOut_any (w : World) (B0 g : Nat) (lb : Array Value) (p : Ent → Bool) (C : World → Prop) (bu gu : Int) (ta ka : Option Addr) (tc kc : Nat) (tl kl : List (Ent × EntR)) (hS : StoOk w ta ka tl kl) (PF : PredF B0 g lb p C) (hC : C w) (hB0 : B0 ≤ w.heap.size) :
    Calls Tryz.prog 158 #[.agg #[.int .i64 bu, .int .i64 gu, .slice ta tl.length tc, .slice ka kl.length kc], .func (.func g) #[] lb] w fun e w' => (∃ a1 k1 n1 a2 k2 n2 m1 m2, e = .returned (.agg #[.int .i64 bu, .int .i64 gu, .slice a1 n1 k1, .slice a2 n2 k2]) ∧ m1.map Prod.fst = (tl.map Prod.fst).filter (fun x => !p x) ∧ m2.map Prod.fst = (kl.map Prod.fst).filter (fun x => !p x) ∧ StoLV w' w.heap.size (.slice a1 n1 k1) (.slice a2 n2 k2) m1 m2) ∧ Below w.heap.size w w' := by
  have hn := hS.n
  have hzs : ∀ h ∈ hdl2 ta ka tl kl, h.x.ts.length ≤ 1048576 := fun h hh => (entC_sizes (hS.z h hh)).2
  have PH0 := PF.h (l := hdl2 ta ka tl kl) hC hB0 (hdl2_there hS.t hS.k) hzs
  obtain ⟨W, hW⟩ : ∃ W, W = (w.alloc (.cells #[.int .i64 bu, .int .i64 gu, .slice ta tl.length tc, .slice ka kl.length kc] 28)).alloc (.cells #[.int .i64 0, .int .i64 0, .slice none 0 0, .slice none 0 0] 28) := ⟨_, rfl⟩
  have HW : Hid (W = (w.alloc (.cells #[.int .i64 bu, .int .i64 gu, .slice ta tl.length tc, .slice ka kl.length kc] 28)).alloc (.cells #[.int .i64 0, .int .i64 0, .slice none 0 0, .slice none 0 0] 28)) := hW
  have K0 : Hid (Below w.heap.size w W ∧ S4 W w.heap.size (.int .i64 bu) (.int .i64 gu) (.slice ta tl.length tc) (.slice ka kl.length kc) ∧ S4 W (w.heap.size + 1) (.int .i64 0) (.int .i64 0) (.slice none 0 0) (.slice none 0 0) ∧ W.heap.size = w.heap.size + 2) := by
    rw [hW]
    refine ⟨((Below.refl _ _).alloc (Nat.le_refl _) _).alloc (by simp) _, (S4.new w _ _ _ _ _).keep ((Below.refl _ _).alloc (Nat.le_refl _) _), ?_, by simp⟩
    have := S4.new (w.alloc (.cells #[.int .i64 bu, .int .i64 gu, .slice ta tl.length tc, .slice ka kl.length kc] 28)) (.int .i64 0) (.int .i64 0) (.slice none 0 0) (.slice none 0 0) 28
    simpa using this
  have CS : Hid (Calls Tryz.prog 56 #[.agg #[.int .i64 bu, .int .i64 gu, .slice ta tl.length tc, .slice ka kl.length kc]] W fun e w' => (∃ a1 c1 d1 a2 c2 d2, e = .returned (.agg #[.slice a1 c1 d1, .slice a2 c2 d2]) ∧ TwoP w' W.heap.size (.slice a1 c1 d1) (.slice a2 c2 d2) (hdlsA ta tl) (hdlsA ka kl)) ∧ Below W.heap.size W w') := by
    refine (shelvesOf_any W bu gu ta ka tc kc tl kl (by omega) (by omega) (hS.t.keep K0.out.1) (hS.k.keep K0.out.1)).mono ?_
    rintro e w' ⟨⟨v1, v2, rfl, h2⟩, hb'⟩
    obtain ⟨a1, d1, rfl, _⟩ := h2.a.form
    obtain ⟨a2, d2, rfl, _⟩ := h2.b.form
    exact ⟨⟨a1, _, d1, a2, _, d2, rfl, h2⟩, hb'⟩
  have HT : Hid (∀ X B v1 v2, Below w.heap.size w X → H2 X W.heap.size B v1 v2 (hdlsA ta tl) (hdlsA ka kl) → W.heap.size ≤ X.heap.size → Calls Tryz.prog 194 #[.pointer (some ⟨B, 0, none⟩), .func (.func g) #[] lb] X fun e w' => e = .returned (.tuple #[]) ∧ (∃ u, H2 w' W.heap.size B u v2 (keepH (fun h => p h.x) (hdlsA ta tl)) (hdlsA ka kl)) ∧ Below W.heap.size X w') := fun X B v1 v2 hX h hl => takeAll_T X W.heap.size B g lb _ v1 v2 _ _ h (by rw [hdlsA_len]; omega) hl ((PH0.sub (m := hdlsA ta tl) (fun x hx => List.mem_append_left _ hx)).up (by have := K0.out.2.2.2; omega) hX)
  have HK : Hid (∀ X B v1 v2 m, Below w.heap.size w X → H2 X W.heap.size B v1 v2 m (hdlsA ka kl) → W.heap.size ≤ X.heap.size → Calls Tryz.prog 194 #[.pointer (some ⟨B, 1, none⟩), .func (.func g) #[] lb] X fun e w' => e = .returned (.tuple #[]) ∧ (∃ u, H2 w' W.heap.size B v1 u m (keepH (fun h => p h.x) (hdlsA ka kl))) ∧ Below W.heap.size X w') := fun X B v1 v2 m hX h hl => takeAll_K X W.heap.size B g lb _ v1 v2 _ _ h (by rw [hdlsA_len]; omega) hl ((PH0.sub (m := hdlsA ka kl) (fun x hx => List.mem_append_right _ hx)).up (by have := K0.out.2.2.2; omega) hX)
  have HSL : Hid (∀ X v1 v2 base, Below w.heap.size w X → TwoP X base v1 v2 (keepH (fun h => p h.x) (hdlsA ta tl)) (keepH (fun h => p h.x) (hdlsA ka kl)) → Calls Tryz.prog 60 #[.agg #[v1, v2], .agg #[.int .i64 bu, .int .i64 gu, .slice ta tl.length tc, .slice ka kl.length kc]] X fun e w' => (∃ a1 k1 n1 a2 k2 n2 m1 m2, e = .returned (.agg #[.int .i64 bu, .int .i64 gu, .slice a1 n1 k1, .slice a2 n2 k2]) ∧ m1.map Prod.fst = (tl.map Prod.fst).filter (fun x => !p x) ∧ m2.map Prod.fst = (kl.map Prod.fst).filter (fun x => !p x) ∧ StoLV w' X.heap.size (.slice a1 n1 k1) (.slice a2 n2 k2) m1 m2) ∧ Below X.heap.size X w') := fun X v1 v2 base hb h => by
    have hm : ∀ h ∈ keepH (fun h => p h.x) (hdlsA ta tl) ++ keepH (fun h => p h.x) (hdlsA ka kl), h ∈ hdl2 ta ka tl kl := fun h hh => by
      rcases List.mem_append.1 hh with hh | hh
      · exact List.mem_append_left _ (keepH_mem hh)
      · exact List.mem_append_right _ (keepH_mem hh)
    have q1 := keepH_len (fun h => p h.x) (hdlsA ta tl)
    have q2 := keepH_len (fun h => p h.x) (hdlsA ka kl)
    rw [hdlsA_len] at q1 q2
    refine (storeLike_any X v1 v2 base _ _ bu gu ta ka tc kc tl.length kl.length h (by omega) (fun x hx => (hdl2_there hS.t hS.k x (hm x hx)).keep hb) (fun x hx => hS.z x (hm x hx)) (fun x hx => hS.ts x (hm x hx))).mono ?_
    rintro e w' ⟨⟨a1, k1, n1, a2, k2, n2, m1, m2, rfl, q1, q2, o⟩, hb'⟩
    exact ⟨⟨a1, k1, n1, a2, k2, n2, m1, m2, rfl, by rw [q1, keepH_x, hdlsA_x], by rw [q2, keepH_x, hdlsA_x], o.lv⟩, hb'⟩
  have e0 := K0.out.2.1.c0
  have e1 := K0.out.2.1.c1
  have e2 := K0.out.2.1.c2
  have e3 := K0.out.2.1.c3
  rw [HW.out] at e0 e1 e2 e3
  clear hW hS PF hC hB0 hn hzs PH0
  generalize tl.length = tn at *
  generalize kl.length = kn at *
  go_enter Tryz.func158, Tryz.ntmps158
  go_wp2_with fail
  rw [← HW.out]
  refine CS.out.mono ?_
  rintro r0 w2 ⟨⟨a1, c1, d1, a2, c2, d2, rfl, tp⟩, hb2⟩
  obtain ⟨V2, hV2⟩ : ∃ V, V = w2.alloc (.cells #[.slice a1 c1 d1, .slice a2 c2 d2] 98) := ⟨_, rfl⟩
  have HV2 : Hid (V2 = w2.alloc (.cells #[.slice a1 c1 d1, .slice a2 c2 d2] 98)) := hV2
  have aV : Below w2.heap.size w2 V2 := by rw [hV2]; exact (Below.refl _ _).alloc (Nat.le_refl _) _
  have bV : Below W.heap.size W V2 := hb2.trans (aV.mono hb2.size)
  have hh2 : H2 V2 W.heap.size w2.heap.size (.slice a1 c1 d1) (.slice a2 c2 d2) (hdlsA ta tl) (hdlsA ka kl) := by rw [hV2]; exact H2.new tp hb2.size _
  have K2 : Hid (Below W.heap.size W V2) := bV
  have bw : Below w.heap.size w V2 := K0.out.1.trans (bV.mono K0.out.1.size)
  have C1 := HT.out V2 w2.heap.size _ _ bw hh2 bV.size
  have HKW : Hid (∀ X, Below W.heap.size W X → Below w.heap.size w X ∧ S4 X w.heap.size (.int .i64 bu) (.int .i64 gu) (.slice ta tn tc) (.slice ka kn kc) ∧ S4 X (w.heap.size + 1) (.int .i64 0) (.int .i64 0) (.slice none 0 0) (.slice none 0 0) ∧ w.heap.size + 2 ≤ W.heap.size) := fun X hX => ⟨K0.out.1.trans (hX.mono K0.out.1.size), K0.out.2.1.keep hX, K0.out.2.2.1.keep hX, by have := K0.out.2.2.2; omega⟩
  clear hV2 aV bV hh2 bw hb2 tp CS K0 e0 e1 e2 e3 HW HT
  go_wp2_with fail
  rw [← HV2.out]
  refine C1.mono ?_
  rintro r0 w3 ⟨rfl, ⟨u1, hh3⟩, hb3⟩
  have b3 : Below W.heap.size W w3 := K2.out.trans hb3
  have C2 := HK.out w3 w2.heap.size _ _ _ (HKW.out _ b3).1 hh3 b3.size
  have K3 : Hid (Below W.heap.size W w3) := b3
  clear C1 HK hh3 hb3 b3 K2 HV2
  go_wp2_with fail
  refine C2.mono ?_
  rintro r0 w4 ⟨rfl, ⟨u2, hh4⟩, hb4⟩
  have b4 : Below W.heap.size W w4 := K3.out.trans hb4
  obtain ⟨f1, g1, rfl, _⟩ := hh4.tp.a.form
  obtain ⟨f2, g2, rfl, _⟩ := hh4.tp.b.form
  have C3 := HSL.out w4 _ _ _ (HKW.out _ b4).1 hh4.tp
  have y0 := hh4.c0
  have y1 := hh4.c1
  have sS := (HKW.out _ b4).2.1
  have e0 := sS.c0
  have e1 := sS.c1
  have e2 := sS.c2
  have e3 := sS.c3
  have K4 : Hid (Below W.heap.size W w4) := b4
  generalize (keepH (fun h => p h.x) (hdlsA ta tl)).length = q1 at *
  generalize (keepH (fun h => p h.x) (hdlsA ka kl)).length = q2 at *
  clear C2 HSL hh4 hb4 b4 K3 sS
  go_wp2_with fail
  refine C3.mono ?_
  rintro r0 w5 ⟨⟨b1, k1, n1, b2, k2, n2, m1, m2, rfl, x1, x2, o⟩, hb5⟩
  have b5 : Below W.heap.size W w5 := K4.out.trans (hb5.mono K4.out.size)
  obtain ⟨bw, _, s4, hsz⟩ := HKW.out _ b5
  have HO : Hid (StoLV w5 w4.heap.size (.slice b1 n1 k1) (.slice b2 n2 k2) m1 m2 ∧ m1.map Prod.fst = (tl.map Prod.fst).filter (fun x => !p x) ∧ m2.map Prod.fst = (kl.map Prod.fst).filter (fun x => !p x) ∧ w.heap.size + 1 < w4.heap.size ∧ Below w.heap.size w w5) := ⟨o, x1, x2, by have := K4.out.size; omega, bw⟩
  have z0 := s4.c0
  have z1 := s4.c1
  have z2 := s4.c2
  have z3 := s4.c3
  have zf0 := s4.fr 0
  have zf1 := s4.fr 1
  have zf2 := s4.fr 2
  have zf3 := s4.fr 3
  clear s4 o x1 x2 hb5 b5 K4 C3 y0 y1 e0 e1 e2 e3 HKW bw hsz
  go_wp2_with fail
  refine bodyPost_ret (v := .agg #[.int .i64 bu, .int .i64 gu, .slice b1 n1 k1, .slice b2 n2 k2]) (by simp [results, Tryz.results158, go_sem, z0, z1, z2, z3]) rfl ?_
  obtain ⟨o, x1, x2, hlt, hB⟩ := HO.out
  exact ⟨⟨b1, k1, n1, b2, k2, n2, m1, m2, rfl, x1, x2, ((((o.off1 _ hlt).off1 _ hlt).off1 _ hlt).off1 _ hlt).lower (by omega)⟩, (((hB.setCell (by simp) _).setCell (by simp) _).setCell (by simp) _).setCell (by simp) _⟩
end Go.Proofs.YtdooopkpnanekaaGreatDoor
/-
  The last one that fits is taken out of a shelf.
-/
namespace Go.Proofs.YtdooopkpnanekaaGreatDoor
open Go.ChangeShapes Go.WideShapes Go.ChangeAt Go.RowKit Go.Sort Go.Shelf
attribute [local go_sem] Oper.semAt_some
/-- One cell of block B is another one, and what the row 'own' holds; below the call's own blocks nothing else has turned. -/
structure Took (w w' : World) (B o : Nat) (own : Option Nat) (u : Value) : Prop where
  os : w'.os = w.os
  tape : w'.tape = w.tape
  output : w'.output = w.output
  size : w.heap.size ≤ w'.heap.size
  block : ∀ k, k < w.heap.size → k ≠ B → some k ≠ own → w'.heap[k]? = w.heap[k]?
  cB : w'.cell? ⟨B, o, none⟩ = some u
  cO : ∀ i, i ≠ o → w'.cell? ⟨B, i, none⟩ = w.cell? ⟨B, i, none⟩
  fr : ∀ i, w'.frozen? ⟨B, i, none⟩ = w.frozen? ⟨B, i, none⟩
theorem Took.grown {w W W' : World} {B o : Nat} {own row : Option Nat} {u : Value} (h : Took w W B o own u) (hB : B < w.heap.size) (hg : W.grownBy W' row) (hr : ∀ r, row = some r → w.heap.size ≤ r) : Took w W' B o own u := by
  have nB : some B ≠ row := fun e => by have := hr B e.symm; omega
  have eB := hg.block B (Nat.lt_of_lt_of_le hB h.size) nB
  have ec : ∀ i, W'.cell? ⟨B, i, none⟩ = W.cell? ⟨B, i, none⟩ := fun i => by simp only [World.cell?, eB]
  have ef : ∀ i, W'.frozen? ⟨B, i, none⟩ = W.frozen? ⟨B, i, none⟩ := fun i => by simp only [World.frozen?, eB]
  exact ⟨hg.os.trans h.os, hg.tape.trans h.tape, hg.output.trans h.output, Nat.le_trans h.size hg.size, fun k hk hn ho => (hg.block k (Nat.lt_of_lt_of_le hk h.size) (fun e => by have := hr k e.symm; omega)).trans (h.block k hk hn ho), (ec o).trans h.cB, fun i hi => (ec i).trans (h.cO i hi), fun i => (ef i).trans (h.fr i)⟩
theorem Took.of {w W W' : World} {B o : Nat} {own : Option Nat} {v u : Value} (hb : Below w.heap.size w W) (hg : W.grownBy W' own) (hB : B < w.heap.size) (hn : own ≠ some B) (hc : w.cell? ⟨B, o, none⟩ = some v) : Took w (W'.setCell ⟨B, o, none⟩ u) B o own u := by
  have e1 := hg.block B (Nat.lt_of_lt_of_le hB hb.size) (fun e => hn e.symm)
  have e2 := hb.block B hB
  have ec : ∀ i, W'.cell? ⟨B, i, none⟩ = w.cell? ⟨B, i, none⟩ := fun i => by simp only [World.cell?, e1, e2]
  have ef : ∀ i, W'.frozen? ⟨B, i, none⟩ = w.frozen? ⟨B, i, none⟩ := fun i => by simp only [World.frozen?, e1, e2]
  refine ⟨by rw [setCell_eq]; exact hg.os.trans hb.os, by rw [setCell_eq]; exact hg.tape.trans hb.tape, by rw [setCell_eq]; exact hg.output.trans hb.output, by simpa using Nat.le_trans hb.size hg.size, fun k hk hk2 ho => ?_, World.cell?_setCell_same _ _ _ ((ec o).trans hc), fun i hi => ?_, fun i => ?_⟩
  · have : (W'.setCell ⟨B, o, none⟩ u).heap[k]? = W'.heap[k]? := by
      rw [setCell_eq]
      have : B ≠ k := fun e => hk2 e.symm
      simp [mapBlock, Array.getElem?_modify, this]
    rw [this, hg.block k (Nat.lt_of_lt_of_le hk hb.size) ho]
    exact hb.block k hk
  · rw [World.cell?_setCell_other _ _ _ _ (by intro e; have := congrArg Addr.off e; simp at this; exact hi this.symm)]
    exact ec i
  · rw [World.frozen?_setCell]; exact ef i
/-- What takeLast tells. -/
def LastR (w : World) (B o base : Nat) (p : Hdl → Bool) (v : Value) (l : List Hdl) (e : Ending) (w' : World) : Prop :=
  ((∀ h ∈ l, p h = false) ∧ e = .returned (.pointer none) ∧ Below w.heap.size w w') ∨
  (∃ A h R u, l = A ++ h :: R ∧ p h = true ∧ (∀ x ∈ R, p x = false) ∧ e = .returned (.pointer (some ⟨h.b, h.o, none⟩)) ∧ Took w w' B o v.ownBlock u ∧ OwnP w' base u (A ++ R) ∧ u.ownBlock = v.ownBlock)
def PBI {l : List Hdl} (p : Hdl → Bool) (W0 : World) (pre : List (AtH l)) (W : World) : Prop := (∀ x ∈ pre, p x.1.2 = false) ∧ Below W0.heap.size W0 W
def PBX {l : List Hdl} (p : Hdl → Bool) (w : World) (B o base rc : Nat) (v : Value) (c : Code) (pre : List (AtH l)) (W : World) : Prop :=
  c = .ret ∧ ∃ pr x, pre = pr ++ [x] ∧ (∀ y ∈ pr, p y.1.2 = false) ∧ p x.1.2 = true ∧ W.cell? ⟨rc, 0, none⟩ = some (.pointer (some ⟨x.1.2.b, x.1.2.o, none⟩)) ∧ ∃ u, Took w W B o v.ownBlock u ∧ OwnP W base u (l.eraseIdx x.1.1) ∧ u.ownBlock = v.ownBlock
def actB {l : List Hdl} (w : World) (B o g : Nat) (lb : Array Value) (va : Option Addr) (n vc : Nat) (x : AtH l) : Act := { tmps := #[.pointer (some ⟨B, o, none⟩), .func (.func g) #[] lb, .pointer (some ⟨w.heap.size, 0, none⟩), .pointer (some ⟨w.heap.size + 1, 0, none⟩), .pointer (some ⟨w.heap.size + 2, 0, none⟩), .int .i64 (x.1.1 : Int), .pointer (some ⟨x.1.2.b, x.1.2.o, none⟩), .pointer (some ⟨B, o, none⟩), .pointer (some ⟨B, o, none⟩), .pointer (some ⟨B, o, none⟩), .slice va n vc, .func (.func 198) #[] #[.pointer (some ⟨w.heap.size + 3, 0, none⟩)], .int .i64 (x.1.1 : Int), .pointer (some ⟨x.1.2.b, x.1.2.o, none⟩), undef, undef, undef, undef, undef, undef, undef, undef, undef, undef, undef, undef, undef, undef, undef], defers := [] }
theorem own_kept {w W W' : World} {base : Nat} {v u : Value} {m : List Hdl} {row : Option Nat} (h : OwnP W base u m) (hu : u.ownBlock = v.ownBlock) (hv : ∀ q, v.ownBlock = some q → q < w.heap.size) (hg : W.grownBy W' row) (hr : ∀ r, row = some r → w.heap.size ≤ r) : OwnP W' base u m :=
  World.ownsRow.kept h hg (by
    cases e : u.ownBlock with
    | none => exact .inl rfl
    | some q => exact .inr fun e2 => by have := hr q e2.symm; have := hv q (by rw [← hu, e]); omega)
theorem pbx_grown {l : List Hdl} {p : Hdl → Bool} {w W W' : World} {B o base rc : Nat} {v : Value} {c : Code} {pre : List (AtH l)} {row : Option Nat} (h : PBX p w B o base rc v c pre W) (hB : B < w.heap.size) (hv : ∀ q, v.ownBlock = some q → q < w.heap.size) (hg : W.grownBy W' row) (hr : ∀ r, row = some r → w.heap.size ≤ r ∧ ∃ o : Obj, W.heap[r]? = some o ∧ o.isCells = false) : PBX p w B o base rc v c pre W' := by
  obtain ⟨h1, pr, x, h2, h3, h4, h5, u, h6, h7, h8⟩ := h
  exact ⟨h1, pr, x, h2, h3, h4, cell_kept h5 hg (fun r e => (hr r e).2), u, h6.grown hB hg (fun r e => (hr r e).1), own_kept h7 h8 hv hg (fun r e => (hr r e).1), h8⟩
theorem cell_oneB (X : World) (v : Value) (t : TypeId) : (X.alloc (.cells #[v] t)).cell? ⟨X.heap.size, 0, none⟩ = some v := by simp
theorem four_boxes (w : World) (a b c d : Value) (t1 t2 t3 t4 : TypeId) (W : World) (hW : W = (((w.alloc (.cells #[a] t1)).alloc (.cells #[b] t2)).alloc (.cells #[c] t3)).alloc (.cells #[d] t4)) :
    Below w.heap.size w W ∧ W.heap.size = w.heap.size + 4 ∧ W.cell? ⟨w.heap.size, 0, none⟩ = some a ∧ W.cell? ⟨w.heap.size + 1, 0, none⟩ = some b ∧ W.cell? ⟨w.heap.size + 2, 0, none⟩ = some c ∧ W.cell? ⟨w.heap.size + 3, 0, none⟩ = some d ∧ W.frozen? ⟨w.heap.size + 2, 0, none⟩ = false := by
  subst hW
  have a1 : Below w.heap.size w (w.alloc (.cells #[a] t1)) := (Below.refl _ _).alloc (Nat.le_refl _) _
  have s1 := World.size_alloc w (.cells #[a] t1)
  have n1 := cell_oneB w a t1
  generalize w.alloc (.cells #[a] t1) = w1 at *
  have a2 : Below w1.heap.size w1 (w1.alloc (.cells #[b] t2)) := (Below.refl _ _).alloc (Nat.le_refl _) _
  have s2 := World.size_alloc w1 (.cells #[b] t2)
  have n2 := cell_oneB w1 b t2
  generalize w1.alloc (.cells #[b] t2) = w2 at *
  have a3 : Below w2.heap.size w2 (w2.alloc (.cells #[c] t3)) := (Below.refl _ _).alloc (Nat.le_refl _) _
  have s3 := World.size_alloc w2 (.cells #[c] t3)
  have n3 := cell_oneB w2 c t3
  have f3 : (w2.alloc (.cells #[c] t3)).frozen? ⟨w2.heap.size, 0, none⟩ = false := by simp
  generalize w2.alloc (.cells #[c] t3) = w3 at *
  have a4 : Below w3.heap.size w3 (w3.alloc (.cells #[d] t4)) := (Below.refl _ _).alloc (Nat.le_refl _) _
  have s4 := World.size_alloc w3 (.cells #[d] t4)
  have n4 := cell_oneB w3 d t4
  generalize w3.alloc (.cells #[d] t4) = w4 at *
  rw [s1] at n2 s2 a2
  rw [s2] at n3 s3 a3 f3
  rw [s3] at n4 s4 a4
  have b4 : Below (w.heap.size + 1 + 1) w3 w4 := a4.mono (by omega)
  have b3 : Below (w.heap.size + 1 + 1) w2 w4 := a3.trans b4
  have b2 : Below (w.heap.size + 1) w1 w4 := a2.trans (b3.mono (by omega))
  have b1 : Below w.heap.size w w4 := a1.trans (b2.mono (by omega))
  exact ⟨b1, by omega, by rw [b2.cell (p := ⟨w.heap.size, 0, none⟩) (by simp)]; exact n1, by rw [b3.cell (p := ⟨w.heap.size + 1, 0, none⟩) (by simp)]; exact n2, by rw [a4.cell (p := ⟨w.heap.size + 2, 0, none⟩) (by simp)]; exact n3, n4, by rw [a4.frozen (p := ⟨w.heap.size + 2, 0, none⟩) (by simp)]; exact f3⟩
theorem split_at {l : List Hdl} {i : Nat} {h : Hdl} (e : l[i]? = some h) : ∃ A R, l = A ++ h :: R ∧ A.length = i ∧ l.eraseIdx i = A ++ R := by
  obtain ⟨hi, rfl⟩ := List.getElem?_eq_some_iff.1 e
  refine ⟨l.take i, l.drop (i + 1), ?_, by simp; omega, by rw [List.eraseIdx_eq_take_drop_succ]⟩
  rw [List.getElem_cons_drop, List.take_append_drop]
end Go.Proofs.YtdooopkpnanekaaGreatDoor
/-
  takeLast of one shelf.
-/
namespace Go.Proofs.YtdooopkpnanekaaGreatDoor
open Go.ChangeShapes Go.WideShapes Go.ChangeAt Go.RowKit Go.Sort Go.Shelf
attribute [local go_sem] Oper.semAt_some
def noDefer (ops : Array Oper) : Bool := ops.all fun o => match o.op with | .defer _ => false | _ => true
theorem noDefer_of {ops : Array Oper} (h : noDefer ops = true) : ∀ (i : Nat) (o : Oper), ops[i]? = some o → ∀ c, o.op ≠ .defer c := by
  intro i o ho c hc
  unfold noDefer at h
  rw [Array.all_eq_true] at h
  obtain ⟨hi, he⟩ := Array.getElem?_eq_some_iff.1 ho
  have := h i hi
  rw [he, hc] at this
  simp at this
theorem wpOpIn_out {F : Fence} {n : Nat} {P : Program} {ops : Array Oper} {Q : Exit → Act → World → Prop} (l : Nat) (hro : F.round = none) (hnd : ∀ (i : Nat) (o : Oper), ops[i]? = some o → ∀ c, o.op ≠ .defer c) {i : Nat} {K : Act → World → Prop} {a : Act} {w : World} (h : wpOpIn F n P ops Q i K a w) : wpOpIn (F.inRound l) n P ops Q i K a w := by
  unfold wpOpIn at *
  cases ho : ops[i]? with
  | none => simp only [ho] at h ⊢; exact h
  | some o =>
    simp only [ho] at h ⊢
    split
    · rename_i hw
      rw [if_pos hw] at h
      unfold Oper.wpIn at *
      refine ⟨h.1, ?_⟩
      have h2 := h.2
      rw [hro, Oper.semAt_none] at h2
      rw [Fence.inRound_round, Oper.semAt_some l _ _ (hnd i o ho)]
      generalize (execOp a.eval o).run P w = r at *
      cases r with
      | ok x w' => cases x <;> exact h2
      | halt x w' => cases x <;> exact h2
    · rename_i hw
      rw [if_neg hw] at h
      exact h
theorem wpAnyIn_out {F : Fence} {n : Nat} {P : Program} {md : Region.Mode} {ops : Array Oper} {Q : Exit → Act → World → Prop} (l : Nat) (hro : F.round = none) (hnd : ∀ (i : Nat) (o : Oper), ops[i]? = some o → ∀ c, o.op ≠ .defer c) : ∀ (fuel : Nat) (listed : Array Bool) (a : Act) (w : World), wpAnyIn F n P md ops Q fuel listed a w → wpAnyIn (F.inRound l) n P md ops Q fuel listed a w
  | 0, _, _, _, h => h
  | fuel + 1, _, _, _, h => ⟨h.1, fun i hi => wpOpIn_out l hro hnd (wpOpIn_mono (fun a w => wpAnyIn_out l hro hnd fuel _ a w) (h.2 i hi))⟩
theorem keepA3 {w : World} {q : Addr} {v : Value} (o1 o2 o3 : Obj) (h : w.cell? q = some v) : (((w.alloc o1).alloc o2).alloc o3).cell? q = some v := by
  have k : ∀ (X : World) (o : Obj), X.cell? q = some v → (X.alloc o).cell? q = some v := fun X o hX => by
    rw [((Below.refl _ X).alloc (Nat.le_refl _) o).cell (block_lt_of_cell hX)]; exact hX
  exact k _ _ (k _ _ (k _ _ h))
set_option maxRecDepth 100000 in
set_option maxHeartbeats 8000000 in
theorem takeLast_any (w : World) (B o base g : Nat) (lb : Array Value) (p : Hdl → Bool) (v : Value) (l : List Hdl) (hc : w.cell? ⟨B, o, none⟩ = some v) (hfz : w.frozen? ⟨B, o, none⟩ = false) (ho : OwnP w base v l) (hl : l.length ≤ 1000) (hn : v.ownBlock ≠ some B) (PH : PredH w.heap.size w g lb p l) :
    Calls Tryz.prog 124 #[.pointer (some ⟨B, o, none⟩), .func (.func g) #[] lb] w fun e w' => LastR w B o base p v l e w' := by
  obtain ⟨va, vc, rfl, hvc, hf⟩ := ho.form
  have hB : B < w.heap.size := block_lt_of_cell hc
  have hv : ∀ q, (Value.slice va l.length vc).ownBlock = some q → q < w.heap.size := fun q hq => ho.lt q hq
  have eg := PH.eg
  have HO : Hid (OwnP w base (.slice va l.length vc) l) := ho
  have HP : Hid (PredH w.heap.size w g lb p l) := PH
  clear ho PH
  obtain ⟨n, hnl⟩ : ∃ n, l.length = n := ⟨_, rfl⟩
  rw [hnl] at hc hl hn hvc hv HO ⊢
  have HN : Hid (l.length = n) := hnl
  clear hnl
  have hc3 : (((w.alloc (.cells #[.pointer (some ⟨B, o, none⟩)] 154)).alloc (.cells #[.func (.func g) #[] lb] 148)).alloc (.cells #[.pointer none] 101)).cell? ⟨B, o, none⟩ = some (.slice va n vc) := keepA3 _ _ _ hc
  refine (callsIn_wide (n := 3)).1 ?_
  refine callsIn_of_wp_marks Tryz.func124 rfl trivial ?_ rfl
  simp only [Tryz.ntmps124, List.size_toArray, List.length_cons, List.length_nil, Nat.reduceAdd, Nat.reduceSub, Array.replicate_succ, Array.replicate_zero, List.push_toArray, List.append_toArray, List.nil_append, List.cons_append]
  gi_wp2_with (refine ⟨trivial, ?_⟩; gi_at_call 168; refine (callsIn_wide.2 (back_any _ _ _ _)).mono ?_; rintro e w' ⟨rfl, rfl⟩)
  obtain ⟨W0, hW0⟩ : ∃ W0, W0 = (((w.alloc (.cells #[.pointer (some ⟨B, o, none⟩)] 154)).alloc (.cells #[.func (.func g) #[] lb] 148)).alloc (.cells #[.pointer none] 101)).alloc (.cells #[.slice va n vc] 94) := ⟨_, rfl⟩
  have F4 := four_boxes w _ _ _ _ _ _ _ _ W0 hW0
  rw [← hW0]
  clear hW0 hc3
  obtain ⟨hb0, hsz, k0, k1, k2, k3, f2⟩ := F4
  have hfl : l = [] ∨ ∃ g, va = some ⟨g, 0, none⟩ ∧ g < W0.heap.size ∧ ∀ (i : Nat) k, l[i]? = some k → W0.cell? ⟨g, i, none⟩ = some (hP k) := by
    rcases hf with e | ⟨g, e, _, hg, h1⟩
    · exact .inl e
    · exact .inr ⟨g, e, Nat.lt_of_lt_of_le hg hb0.size, fun i k hk => by rw [hb0.cell (p := ⟨g, i, none⟩) hg]; exact h1 i k hk⟩
  have SQ := backTell 2 (by omega) (w.heap.size + 3) W0.heap.size va vc l (by rw [HN.out]; exact hl) W0 (Nat.le_refl _) (by omega) hfl (by rw [HN.out]; exact k3)
  clear hf hfl
  refine wpIn_rangeFunc_ownH rfl (by omega) (gf := 198) (lb := #[.pointer (some ⟨w.heap.size + 3, 0, none⟩)]) rfl trivial (enters_of Tryz.func198 (by kernel_rfl) rfl)
    SQ belowK_t (belowK_b (Nat.le_refl _)) (Below.refl _ _) (fun _ => rfl)
    (fun pre W => PBI p W0 pre W) (fun c pre W => PBX p w B o base (w.heap.size + 2) (.slice va n vc) c pre W)
    (fun pre W W' row h hg hr => ⟨h.1, h.2.grown hg h.2.size (fun k e => (hr k e).1)⟩)
    (fun c pre W W' row h hg hr => pbx_grown h hB hv hg (fun r e => by have := hr r e; exact ⟨by omega, this.2⟩))
    ⟨fun x hx => by simp at hx, Below.refl _ _⟩
    (fun x a' W => a' = actB w B o g lb va n vc x)
    (fun x a' _ W W' row h hg hr => h)
    ?assign ?body ?done ?stop
  case assign =>
    rintro lp pre x W K hI hK
    have HK := hK (actB w B o g lb va n vc x) W (KeepsFrom.refl _ _) (Below.refl _ _) hI rfl
    clear hK SQ
    unfold actB at HK
    simp only [encB]
    gi_wp2
    exact HK
  case body =>
    rintro lp pre x a' W hlp hrec hI rfl hlt
    unfold actB
    obtain ⟨⟨i, h⟩, hx⟩ := x
    obtain ⟨A, R, hAR, hA, her⟩ := split_at hx
    have HI : Hid (PBI p W0 pre W) := hI
    have hbW : Below w.heap.size w W := hb0.trans (hI.2.mono (by omega))
    have cW : ∀ X, Below W.heap.size W X → X.cell? ⟨w.heap.size, 0, none⟩ = some (.pointer (some ⟨B, o, none⟩)) ∧ X.cell? ⟨w.heap.size + 1, 0, none⟩ = some (.func (.func g) #[] lb) ∧ X.cell? ⟨w.heap.size + 2, 0, none⟩ = some (.pointer none) ∧ X.frozen? ⟨w.heap.size + 2, 0, none⟩ = false ∧ X.cell? ⟨B, o, none⟩ = some (.slice va n vc) ∧ X.frozen? ⟨B, o, none⟩ = false := fun X hX => by
      have b0 := hI.2.trans (hX.mono hI.2.size)
      have b1 := hbW.trans (hX.mono hbW.size)
      refine ⟨?_, ?_, ?_, ?_, ?_, ?_⟩
      · rw [b0.cell (p := ⟨w.heap.size, 0, none⟩) (by simp only; omega)]; exact k0
      · rw [b0.cell (p := ⟨w.heap.size + 1, 0, none⟩) (by simp only; omega)]; exact k1
      · rw [b0.cell (p := ⟨w.heap.size + 2, 0, none⟩) (by simp only; omega)]; exact k2
      · rw [b0.frozen (p := ⟨w.heap.size + 2, 0, none⟩) (by simp only; omega)]; exact f2
      · rw [b1.cell (p := ⟨B, o, none⟩) hB]; exact hc
      · rw [b1.frozen (p := ⟨B, o, none⟩) hB]; exact hfz
    have CP := HP.out.call W hbW h (by rw [hAR]; simp)
    obtain ⟨d0, d1, _, _, _, _⟩ := cW W (Below.refl _ _)
    have HC : Hid (∀ X, Below W.heap.size W X → X.cell? ⟨w.heap.size, 0, none⟩ = some (.pointer (some ⟨B, o, none⟩)) ∧ X.cell? ⟨w.heap.size + 1, 0, none⟩ = some (.func (.func g) #[] lb) ∧ X.cell? ⟨w.heap.size + 2, 0, none⟩ = some (.pointer none) ∧ X.frozen? ⟨w.heap.size + 2, 0, none⟩ = false ∧ X.cell? ⟨B, o, none⟩ = some (.slice va n vc) ∧ X.frozen? ⟨B, o, none⟩ = false) := cW
    have hin : i < n := by rw [← HN.out]; exact (List.getElem?_eq_some_iff.1 hx).1
    have gi1 : IntKind.i64.wrap ((i : Int) + 1) = (i : Int) + 1 := by unfold IntKind.wrap; simp [IntKind.signed, IntKind.bits]; omega
    have HD : Hid (∀ X, Below W.heap.size W X → Calls Tryz.prog 169 #[.slice va n vc, .int .i64 (i : Int), .int .i64 ((i : Int) + 1)] X fun e X' => ∃ a m c, e = .returned (.slice a m c) ∧ X'.cell? ⟨w.heap.size, 0, none⟩ = some (.pointer (some ⟨B, o, none⟩)) ∧ X'.cell? ⟨B, o, none⟩ = some (.slice va n vc) ∧ X'.frozen? ⟨B, o, none⟩ = false ∧ (X'.setCell ⟨B, o, none⟩ (.slice a m c)).cell? ⟨w.heap.size + 2, 0, none⟩ = some (.pointer none) ∧ (X'.setCell ⟨B, o, none⟩ (.slice a m c)).frozen? ⟨w.heap.size + 2, 0, none⟩ = false ∧ KeepsFrom W0.heap.size W ((X'.setCell ⟨B, o, none⟩ (.slice a m c)).setCell ⟨w.heap.size + 2, 0, none⟩ (.pointer (some ⟨h.b, h.o, none⟩))) ∧ (p h = true → PBX p w B o base (w.heap.size + 2) (.slice va n vc) .ret (pre ++ [(⟨(i, h), hx⟩ : AtH l)]) ((X'.setCell ⟨B, o, none⟩ (.slice a m c)).setCell ⟨w.heap.size + 2, 0, none⟩ (.pointer (some ⟨h.b, h.o, none⟩))))) := fun X hX => by
      have b1 := hbW.trans (hX.mono hbW.size)
      have hoX : OwnP X base (.slice va n vc) (A ++ h :: R) := by rw [← hAR]; exact HO.out.below b1
      have := delOne_any X base _ A h R hoX
      rw [hA] at this
      refine Calls.mono this ?_
      rintro e X' ⟨⟨u, rfl, hu, hub⟩, hg⟩
      obtain ⟨a, c, rfl, _⟩ := hu.form
      have hgn : ∀ q, (Value.slice va n vc).ownBlock = some q → q < w.heap.size := hv
      have nk : ∀ k, w.heap.size ≤ k → some k ≠ (Value.slice va n vc).ownBlock := fun k hk e => by have := hgn k e.symm; omega
      obtain ⟨c0, c1, c2, c3, c4, c5⟩ := HC.out X hX
      have x0 := hg.cell c0 (nk w.heap.size (Nat.le_refl _))
      have x2 := hg.cell c2 (nk (w.heap.size + 2) (by omega))
      have x3 : X'.frozen? ⟨w.heap.size + 2, 0, none⟩ = false := (World.frozen?_of_block (hg.block (w.heap.size + 2) (by have := block_lt_of_cell c2; simpa using this) (nk _ (by omega)))).trans c3
      have x4 := hg.cell c4 (fun e => hn e.symm)
      have x5 : X'.frozen? ⟨B, o, none⟩ = false := (World.frozen?_of_block (hg.block B (Nat.lt_of_lt_of_le hB b1.size) (fun e => hn e.symm))).trans c5
      have nB : (⟨B, o, none⟩ : Addr) ≠ ⟨w.heap.size + 2, 0, none⟩ := fun e => by have := congrArg Addr.block e; simp at this; omega
      have y2 : (X'.setCell ⟨B, o, none⟩ (.slice a (A ++ R).length c)).cell? ⟨w.heap.size + 2, 0, none⟩ = some (.pointer none) := by rw [World.cell?_setCell_other _ _ _ _ nB]; exact x2
      refine ⟨a, _, c, rfl, x0, x4, x5, y2, by rw [World.frozen?_setCell]; exact x3, ?_, fun hp => ⟨rfl, pre, _, rfl, HI.out.1, hp, World.cell?_setCell_same _ _ _ y2, _, ?_, ?_, hub⟩⟩
      · exact (((KeepsFrom.of_grownBy (row := none) (grow_below _ hX) (fun j e => by cases e)).trans (KeepsFrom.of_grownBy hg (fun j e => by have := hgn j e; omega))).trans ((KeepsOthers.setCell _ _ _).from _)).trans ((KeepsOthers.setCell _ _ _).from _)
      · exact (Took.of b1 hg hB hn hc).grown hB (grownBy_setCell' _ _ _) (fun r e => by cases e; omega)
      · rw [her]
        exact own_kept (row_far1 hu _ (by rw [hub]; exact hn)) hub hgn (grownBy_setCell' _ _ _) (fun r e => by cases e; omega)
    clear cW hAR hA her SQ hbW k0 k1 k2 k3 f2 HO HP HN hc hfz
    cases hp : p h
    · rw [hp] at CP
      have HF : Hid (∀ X, Below W.heap.size W X → KeepsFrom W0.heap.size W X ∧ Below W0.heap.size W X) := fun X hX => ⟨KeepsFrom.of_grownBy (row := none) (grow_below _ hX) (fun j e => by cases e), hX.mono HI.out.2.size⟩
      have HF2 : Hid (∀ X, Below W.heap.size W X → ∀ y : AtH l, y.1.2 = h → PBI p W0 (pre ++ [y]) X) := fun X hX y hy => ⟨fun z hz => by
        rcases List.mem_append.1 hz with hz | hz
        · exact HI.out.1 z hz
        · simp at hz; rw [hz, hy]; exact hp, HI.out.2.trans (hX.mono HI.out.2.size)⟩
      clear HD HC hp hI HI
      gi_wp2_with (refine ⟨trivial, ?_⟩; gi_at_fn g; refine (CallsIn.inRound lp (callsIn_wide.2 CP)).mono ?_; rintro e w1 ⟨rfl, hb1⟩)
      exact ⟨(HF.out _ hb1).1, (HF.out _ hb1).2, HF2.out _ hb1 _ rfl⟩
    · rw [hp] at CP
      have HDp : Hid (p h = true) := hp
      clear hp hI
      gi_wp2_with (first
        | (refine ⟨trivial, ?_⟩; gi_at_fn g; refine (CallsIn.inRound lp (callsIn_wide.2 CP)).mono ?_; rintro e w1 ⟨rfl, hb1⟩; obtain ⟨q0, q1, q2, q3, q4, q5⟩ := HC.out _ hb1; have HD1 := HD.out w1.drew hb1.drew; clear CP)
        | (refine ⟨trivial, ?_⟩; gi_at_call 169; refine (CallsIn.inRound lp (callsIn_wide.2 HD1)).mono ?_; rintro e w2 ⟨ra, rm, rc, rfl, s0, s1, s2, s3, s4, s5, s6⟩))
      clear HC HD HI hrec hlt hin hb0 hsz hvc hl hv eg hlp d0 d1 q1 q2 q3 hB hn hb1
      refine wpIn_region_any (by kernel_rfl) ?_
      try (change wpAnyIn _ _ _ _ _ _ _ _ _ (World.drew _))
      refine wpAnyIn_out lp rfl (noDefer_of (by kernel_rfl)) _ _ _ _ ?_
      have r0 : w1.drew.cell? ⟨w.heap.size, 0, none⟩ = some (.pointer (some ⟨B, o, none⟩)) := q0
      have r4 : w1.drew.cell? ⟨B, o, none⟩ = some (.slice va n vc) := q4
      refine wpAnyIn_take (i := 5) (v := ?_) rfl rfl (by kernel_rfl) (by kernel_rfl) (by kernel_rfl) (fun _ _ _ h => h) ⟨Or.inl ⟨by rfl, ?_⟩, fun _ => rfl⟩ ?_
      rotate_left
      · intro w9; go_simp; first | done | (with_reducible rfl)
      refine wpAnyIn_take (i := 6) (v := ?_) rfl rfl (by kernel_rfl) (by kernel_rfl) (by kernel_rfl) (fun _ _ _ h => h) ⟨Or.inl ⟨by rfl, ?_⟩, fun _ => rfl⟩ ?_
      rotate_left
      · intro w9; go_simp; first | done | (with_reducible rfl)
      refine wpAnyIn_take (i := 7) (v := ?_) rfl rfl (by kernel_rfl) (by kernel_rfl) (by kernel_rfl) (fun _ _ _ h => h) ⟨Or.inl ⟨by rfl, ?_⟩, fun _ => rfl⟩ ?_
      rotate_left
      · intro w9; go_simp; first | done | (with_reducible rfl)
      refine wpAnyIn_ready (rs := [0, 1]) (by kernel_rfl) (by simp) ?_
      refine AllReadyIn.cons rfl (fun K hK => ?_) ?_
      · go_simp
        refine hK _ _ ?_
        clear hK K
        refine wpAnyIn_ready (rs := [1]) (by kernel_rfl) (by simp) ?_
        refine AllReadyIn.cons rfl (fun K hK => ?_) ?_
        · go_simp
          refine hK _ _ ?_
          clear hK K
          refine wpAnyIn_take (i := 2) (v := ?_) rfl rfl (by kernel_rfl) (by kernel_rfl) (by kernel_rfl) (fun _ _ _ h => h) ⟨Or.inl ⟨by rfl, ?_⟩, fun _ => rfl⟩ ?_
          rotate_left
          · intro w9; go_simp; first | done | (with_reducible rfl)
          refine wpAnyIn_take (i := 3) (v := ?_) rfl rfl (by kernel_rfl) (by kernel_rfl) (by kernel_rfl) (fun _ _ _ h => h) ⟨Or.inl ⟨by rfl, ?_⟩, fun _ => rfl⟩ ?_
          rotate_left
          · intro w9; go_simp; first | done | (with_reducible rfl)
          refine wpAnyIn_ready (rs := [4]) (by kernel_rfl) (by simp) ?_
          refine AllReadyIn.cons rfl (fun K hK => ?_) ?_
          · go_simp
            refine hK _ _ ?_
            clear hK K
            refine wpAnyIn_ready (rs := [8]) (by kernel_rfl) (by simp) ?_
            refine AllReadyIn.cons rfl (fun K hK => ?_) ?_
            · go_simp
              refine ⟨trivial, ?_⟩
              gi_at_call 169
              refine (callsIn_wide.2 HD1).mono ?_
              rintro e w2 ⟨ra, rm, rc, rfl, s0, s1, s2, s3, s4, s5, s6⟩
              refine hK _ _ ?_
              clear hK K
              refine wpAnyIn_take (i := 9) (v := ?_) rfl rfl (by kernel_rfl) (by kernel_rfl) (by kernel_rfl) (fun _ _ _ h => h) ⟨Or.inl ⟨by rfl, ?_⟩, fun _ => rfl⟩ ?_
              rotate_left
              · intro w9; go_simp; first | done | (with_reducible rfl)
              refine wpAnyIn_take (i := 10) (v := ?_) rfl rfl (by kernel_rfl) (by kernel_rfl) (by kernel_rfl) (fun _ _ _ h => h) ⟨Or.inl ⟨by rfl, ?_⟩, fun _ => rfl⟩ ?_
              rotate_left
              · intro w9; go_simp; first | done | (with_reducible rfl)
              refine wpAnyIn_ready (rs := [11]) (by kernel_rfl) (by simp) ?_
              refine AllReadyIn.cons rfl (fun K hK => ?_) ?_
              · go_simp
                refine hK _ _ ?_
                clear hK K
                refine wpAnyIn_done (by kernel_rfl) ?_ _
                gi_wp2
                exact ⟨s5, s6 HDp.out⟩
              exact AllReadyIn.nil
            exact AllReadyIn.nil
          exact AllReadyIn.nil
        exact AllReadyIn.nil
      refine AllReadyIn.cons rfl (fun K hK => ?_) ?_
      · go_simp
        refine hK _ _ ?_
        clear hK K
        refine wpAnyIn_take (i := 2) (v := ?_) rfl rfl (by kernel_rfl) (by kernel_rfl) (by kernel_rfl) (fun _ _ _ h => h) ⟨Or.inl ⟨by rfl, ?_⟩, fun _ => rfl⟩ ?_
        rotate_left
        · intro w9; go_simp; first | done | (with_reducible rfl)
        refine wpAnyIn_take (i := 3) (v := ?_) rfl rfl (by kernel_rfl) (by kernel_rfl) (by kernel_rfl) (fun _ _ _ h => h) ⟨Or.inl ⟨by rfl, ?_⟩, fun _ => rfl⟩ ?_
        rotate_left
        · intro w9; go_simp; first | done | (with_reducible rfl)
        refine wpAnyIn_ready (rs := [0, 4]) (by kernel_rfl) (by simp) ?_
        refine AllReadyIn.cons rfl (fun K hK => ?_) ?_
        · go_simp
          refine hK _ _ ?_
          clear hK K
          refine wpAnyIn_ready (rs := [4]) (by kernel_rfl) (by simp) ?_
          refine AllReadyIn.cons rfl (fun K hK => ?_) ?_
          · go_simp
            refine hK _ _ ?_
            clear hK K
            refine wpAnyIn_ready (rs := [8]) (by kernel_rfl) (by simp) ?_
            refine AllReadyIn.cons rfl (fun K hK => ?_) ?_
            · go_simp
              refine ⟨trivial, ?_⟩
              gi_at_call 169
              refine (callsIn_wide.2 HD1).mono ?_
              rintro e w2 ⟨ra, rm, rc, rfl, s0, s1, s2, s3, s4, s5, s6⟩
              refine hK _ _ ?_
              clear hK K
              refine wpAnyIn_take (i := 9) (v := ?_) rfl rfl (by kernel_rfl) (by kernel_rfl) (by kernel_rfl) (fun _ _ _ h => h) ⟨Or.inl ⟨by rfl, ?_⟩, fun _ => rfl⟩ ?_
              rotate_left
              · intro w9; go_simp; first | done | (with_reducible rfl)
              refine wpAnyIn_take (i := 10) (v := ?_) rfl rfl (by kernel_rfl) (by kernel_rfl) (by kernel_rfl) (fun _ _ _ h => h) ⟨Or.inl ⟨by rfl, ?_⟩, fun _ => rfl⟩ ?_
              rotate_left
              · intro w9; go_simp; first | done | (with_reducible rfl)
              refine wpAnyIn_ready (rs := [11]) (by kernel_rfl) (by simp) ?_
              refine AllReadyIn.cons rfl (fun K hK => ?_) ?_
              · go_simp
                refine hK _ _ ?_
                clear hK K
                refine wpAnyIn_done (by kernel_rfl) ?_ _
                gi_wp2
                exact ⟨s5, s6 HDp.out⟩
              exact AllReadyIn.nil
            exact AllReadyIn.nil
          exact AllReadyIn.nil
        refine AllReadyIn.cons rfl (fun K hK => ?_) ?_
        · go_simp
          refine hK _ _ ?_
          clear hK K
          refine wpAnyIn_ready (rs := [0, 8]) (by kernel_rfl) (by simp) ?_
          refine AllReadyIn.cons rfl (fun K hK => ?_) ?_
          · go_simp
            refine hK _ _ ?_
            clear hK K
            refine wpAnyIn_ready (rs := [8]) (by kernel_rfl) (by simp) ?_
            refine AllReadyIn.cons rfl (fun K hK => ?_) ?_
            · go_simp
              refine ⟨trivial, ?_⟩
              gi_at_call 169
              refine (callsIn_wide.2 HD1).mono ?_
              rintro e w2 ⟨ra, rm, rc, rfl, s0, s1, s2, s3, s4, s5, s6⟩
              refine hK _ _ ?_
              clear hK K
              refine wpAnyIn_take (i := 9) (v := ?_) rfl rfl (by kernel_rfl) (by kernel_rfl) (by kernel_rfl) (fun _ _ _ h => h) ⟨Or.inl ⟨by rfl, ?_⟩, fun _ => rfl⟩ ?_
              rotate_left
              · intro w9; go_simp; first | done | (with_reducible rfl)
              refine wpAnyIn_take (i := 10) (v := ?_) rfl rfl (by kernel_rfl) (by kernel_rfl) (by kernel_rfl) (fun _ _ _ h => h) ⟨Or.inl ⟨by rfl, ?_⟩, fun _ => rfl⟩ ?_
              rotate_left
              · intro w9; go_simp; first | done | (with_reducible rfl)
              refine wpAnyIn_ready (rs := [11]) (by kernel_rfl) (by simp) ?_
              refine AllReadyIn.cons rfl (fun K hK => ?_) ?_
              · go_simp
                refine hK _ _ ?_
                clear hK K
                refine wpAnyIn_done (by kernel_rfl) ?_ _
                gi_wp2
                exact ⟨s5, s6 HDp.out⟩
              exact AllReadyIn.nil
            exact AllReadyIn.nil
          refine AllReadyIn.cons rfl (fun K hK => ?_) ?_
          · go_simp
            refine ⟨trivial, ?_⟩
            gi_at_call 169
            refine (callsIn_wide.2 HD1).mono ?_
            rintro e w2 ⟨ra, rm, rc, rfl, s0, s1, s2, s3, s4, s5, s6⟩
            refine hK _ _ ?_
            clear hK K
            refine wpAnyIn_ready (rs := [0]) (by kernel_rfl) (by simp) ?_
            refine AllReadyIn.cons rfl (fun K hK => ?_) ?_
            · go_simp
              refine hK _ _ ?_
              clear hK K
              refine wpAnyIn_take (i := 9) (v := ?_) rfl rfl (by kernel_rfl) (by kernel_rfl) (by kernel_rfl) (fun _ _ _ h => h) ⟨Or.inl ⟨by rfl, ?_⟩, fun _ => rfl⟩ ?_
              rotate_left
              · intro w9; go_simp; first | done | (with_reducible rfl)
              refine wpAnyIn_take (i := 10) (v := ?_) rfl rfl (by kernel_rfl) (by kernel_rfl) (by kernel_rfl) (fun _ _ _ h => h) ⟨Or.inl ⟨by rfl, ?_⟩, fun _ => rfl⟩ ?_
              rotate_left
              · intro w9; go_simp; first | done | (with_reducible rfl)
              refine wpAnyIn_ready (rs := [11]) (by kernel_rfl) (by simp) ?_
              refine AllReadyIn.cons rfl (fun K hK => ?_) ?_
              · go_simp
                refine hK _ _ ?_
                clear hK K
                refine wpAnyIn_done (by kernel_rfl) ?_ _
                gi_wp2
                exact ⟨s5, s6 HDp.out⟩
              exact AllReadyIn.nil
            exact AllReadyIn.nil
          exact AllReadyIn.nil
        exact AllReadyIn.nil
      exact AllReadyIn.nil
  case done =>
    rintro D ys W hD hS hI hK
    have hall : ∀ h ∈ l, p h = false := fun h hh => by
      obtain ⟨i, hi⟩ := toldB_mem l 0 hh
      rw [← hS] at hi
      obtain ⟨y, hy, e⟩ := List.mem_map.1 hi
      have := hI.1 y hy
      rw [e] at this
      exact this
    have c2 : W.cell? ⟨w.heap.size + 2, 0, none⟩ = some (.pointer none) := by rw [hI.2.cell (p := ⟨w.heap.size + 2, 0, none⟩) (by simp only; omega)]; exact k2
    have g2 : W.frozen? ⟨w.heap.size + 2, 0, none⟩ = false := by rw [hI.2.frozen (p := ⟨w.heap.size + 2, 0, none⟩) (by simp only; omega)]; exact f2
    have hK2 := (KeepsOthers.setCell W ⟨w.heap.size + 2, 0, none⟩ (.pointer none)).same D _ hK rfl
    have r0 : ((W.setCell ⟨w.heap.size + 2, 0, none⟩ (.pointer none)).putObj D (.deferred none)).cell? ⟨w.heap.size + 2, 0, none⟩ = some (.pointer none) := cell_kept (World.cell?_setCell_same _ _ _ c2) (grownBy_putObj' _ D _) (fun r e => by cases e; exact ⟨_, hK2, rfl⟩)
    have hbW : Below w.heap.size w W := hb0.trans (hI.2.mono (by omega))
    have RR : Hid (LastR w B o base p (.slice va n vc) l (.returned (.pointer none)) ((W.setCell ⟨w.heap.size + 2, 0, none⟩ (.pointer none)).putObj D (.deferred none))) := .inl ⟨hall, rfl, (hbW.setCell (p := ⟨w.heap.size + 2, 0, none⟩) (by simp) _).trans (belowK_b (w := w) (Nat.le_refl _) _ D _ _ (by omega) hK2 rfl rfl)⟩
    clear hall hS hI SQ hbW HO HP hc hfz k0 k1 k2 k3 f2
    gi_wp2
    refine ⟨by simp, .inl ⟨_, _, rfl, run_takeDeferred hK2, ?_⟩⟩
    exact ⟨.pointer none, by simp [results, Tryz.results124, go_sem, r0], RR.out⟩
  case stop =>
    rintro D c pre W hD ⟨A, h, R, hAR, hpre⟩ ⟨rfl, pr, x, rfl, hpr, hpx, hcell, u, hT, hOw, hub⟩ hK
    have hpre2 : pr.map (fun x : AtH l => x.1) ++ [x.1] = toldB (A.length + 1) R ++ [(A.length, h)] := by have := hpre; rw [List.map_append] at this; exact this
    obtain ⟨q1, q2⟩ := List.append_inj' hpre2 rfl
    have ex : x.1 = (A.length, h) := List.head_eq_of_cons_eq q2
    have hR : ∀ y ∈ R, p y = false := fun y hy => by
      obtain ⟨i, hi⟩ := toldB_mem R (A.length + 1) hy
      rw [← q1] at hi
      obtain ⟨z, hz, e⟩ := List.mem_map.1 hi
      have := hpr z hz
      rw [e] at this
      exact this
    have her : l.eraseIdx A.length = A ++ R := by rw [hAR, List.eraseIdx_append_of_length_le (Nat.le_refl _)]; simp
    rw [ex] at hpx hcell hOw
    simp only at hpx hcell hOw
    rw [her] at hOw
    have r0 : (W.putObj D (.deferred none)).cell? ⟨w.heap.size + 2, 0, none⟩ = some (.pointer (some ⟨h.b, h.o, none⟩)) := cell_kept hcell (grownBy_putObj' _ D _) (fun r e => by cases e; exact ⟨_, hK, rfl⟩)
    have hr : ∀ r, some D = some r → w.heap.size ≤ r := fun r e => by cases e; omega
    have RR : Hid (LastR w B o base p (.slice va n vc) l (.returned (.pointer (some ⟨h.b, h.o, none⟩))) (W.putObj D (.deferred none))) := .inr ⟨A, h, R, u, hAR, hpx, hR, rfl, hT.grown hB (grownBy_putObj' _ D _) hr, own_kept hOw hub hv (grownBy_putObj' _ D _) hr, hub⟩
    clear hpre hpre2 q1 q2 hR her hT hOw hub SQ HO HP hc hfz k0 k1 k2 k3 f2 hAR hpx hpr
    gi_wp2
    refine ⟨by simp, .inl ⟨_, _, rfl, run_takeDeferred hK, ?_⟩⟩
    exact ⟨.pointer (some ⟨h.b, h.o, none⟩), by simp [results, Tryz.results124, go_sem, r0], RR.out⟩
end Go.Proofs.YtdooopkpnanekaaGreatDoor
