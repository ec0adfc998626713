/-
  Texts of one claim, one behind the other.
-/
import Derived.Deep.RegionHeld3
import Derived.JoinedCond
import Derived.MakeChecks
import Derived.ProofKit
import Derived.Test.YtmidfgjnaebfiaaGreatDoorRows
import Derived.Test.YtmidfgjnaebfiaaGreatDoorMgE
/-
  Facts of the program as a whole that every card of this seat leans on: each reckoned by the kernel, each by itself.
-/
namespace Go.Proofs.YtmidfgjnaebfiaaGreatDoor
theorem pf_laid : laidOutB Tryz.prog = true := by kernel_rfl
theorem pf_maps : mapsRowed Tryz.prog = true := by kernel_rfl
theorem pf_stops : (Tryz.prog.stops == []) = true := by kernel_rfl
theorem pf_knobs : (Tryz.prog.stopKnobs == []) = true := by kernel_rfl
theorem pf_heard : Tryz.prog.stopsHeard = true := by kernel_rfl
theorem pf_enter : Tryz.prog.mayEnter = true := by kernel_rfl
theorem pf_prog : Tryz.pinned.checked.prog = Tryz.prog := by kernel_rfl
end Go.Proofs.YtmidfgjnaebfiaaGreatDoor
/-
  Answers of PeekEntry: marked, held.
-/
namespace Go.Proofs.YtmidfgjnaebfiaaGreatDoor
open Go.ChangeShapes Go.WideShapes Go.ChangeAt Go.RowKit Go.Sort
def nEnt (x : Ent) : Nat := 1 + 2 * x.hs.length + x.bl.length + x.ts.length
set_option maxHeartbeats 4000000 in
theorem markEnt_any (w : World) (base hi : Nat) (x : Ent) (r : EntR) (f1 : x.hs.length ≤ 1048576) (f2 : x.bl.length ≤ 1048576) (f3 : x.ts.length ≤ 1048576) (hw : base ≤ w.heap.size) (hhi : hi ≤ w.heap.size) (h : EntLV w base x r) (h0 : EntLt hi x r) :
    Calls Tryz.prog 34 #[.agg #[.string x.key, .int .i64 x.st, .slice r.ha x.hs.length r.hc, .slice r.ba x.bl.length r.bc, .int .i64 x.t, .int .i64 x.g, .int .i64 x.l, .int .i64 x.s, .int .i64 x.e, .bool x.b1, .bool x.b2, .slice r.ta x.ts.length r.tc, .int .i64 x.pins], .int .i64 1] w fun e w' => e = .returned (.int .i64 (nEnt x : Int)) ∧ Below base w w' ∧ Above hi w w' ∧ EntHeld w' x r := by
  obtain ⟨W, hW⟩ : ∃ W, W = w.alloc (.cells #[.string x.key, .int .i64 x.st, .slice r.ha x.hs.length r.hc, .slice r.ba x.bl.length r.bc, .int .i64 x.t, .int .i64 x.g, .int .i64 x.l, .int .i64 x.s, .int .i64 x.e, .bool x.b1, .bool x.b2, .slice r.ta x.ts.length r.tc, .int .i64 x.pins] 32) := ⟨_, rfl⟩
  have HW : Hid (W = w.alloc (.cells #[.string x.key, .int .i64 x.st, .slice r.ha x.hs.length r.hc, .slice r.ba x.bl.length r.bc, .int .i64 x.t, .int .i64 x.g, .int .i64 x.l, .int .i64 x.s, .int .i64 x.e, .bool x.b1, .bool x.b2, .slice r.ta x.ts.length r.tc, .int .i64 x.pins] 32)) := hW
  have bW : Below w.heap.size w W := by rw [hW]; exact (Below.refl _ _).alloc (Nat.le_refl _) _
  have eW : E13 W w.heap.size (.string x.key) (.int .i64 x.st) (.slice r.ha x.hs.length r.hc) (.slice r.ba x.bl.length r.bc) (.int .i64 x.t) (.int .i64 x.g) (.int .i64 x.l) (.int .i64 x.s) (.int .i64 x.e) (.bool x.b1) (.bool x.b2) (.slice r.ta x.ts.length r.tc) (.int .i64 x.pins) := by rw [hW]; exact E13.new w _ _ _ _ _ _ _ _ _ _ _ _ _ _
  have C := markLists W base hi x r f1 f2 f3 (by have := bW.size; omega) (h.below bW) h0
  have K : Hid (∀ X, Above hi W X → X.cell? ⟨w.heap.size, 3, none⟩ = some (.slice r.ba x.bl.length r.bc) ∧ X.cell? ⟨w.heap.size, 11, none⟩ = some (.slice r.ta x.ts.length r.tc)) := fun X ha => by
    rw [ha.cell _ _ hhi eW.lt, ha.cell _ _ hhi eW.lt]; exact ⟨eW.c3, eW.c11⟩
  have HB : Hid (Below base w W ∧ Above hi w W) := ⟨bW.mono hw, .below bW⟩
  have HN : Hid (((1 + 2 * x.hs.length + x.bl.length + x.ts.length : Nat) : Int) = (nEnt x : Int)) := rfl
  clear hW bW eW h f1 f2 f3 hw h0 hhi
  generalize ((1 + 2 * x.hs.length + x.bl.length + x.ts.length : Nat) : Int) = q3 at *
  generalize ((1 + 2 * x.hs.length + x.bl.length : Nat) : Int) = q2 at *
  generalize ((1 + 2 * x.hs.length : Nat) : Int) = q1 at *
  go_enter Tryz.func34, Tryz.ntmps34
  go_wp2_with fail
  rw [← HW.out]
  refine C.mono ?_
  rintro e w1 ⟨rfl, hb1, hc⟩
  have y1 := (K.out w1 hb1.2).1
  have HC := hc
  have H1 : Hid (Below base w w1 ∧ Above hi W w1 ∧ Above hi w w1) := ⟨HB.out.1.trans hb1.1, hb1.2, HB.out.2.trans hb1.2⟩
  clear hc hb1 HB HW C
  go_wp2_with fail
  refine HC.mono ?_
  rintro e w2 ⟨rfl, hb2, hc⟩
  have y2 := (K.out w2 (H1.out.2.1.trans hb2.2)).2
  have HC2 := hc
  have H2 : Hid (Below base w w2 ∧ Above hi w w2) := ⟨H1.out.1.trans hb2.1, H1.out.2.2.trans hb2.2⟩
  clear hc hb2 H1 HC y1 K
  go_wp2_with fail
  refine HC2.mono ?_
  rintro e w3 ⟨rfl, hb3, hh⟩
  have H3 : Hid (Below base w w3 ∧ Above hi w w3 ∧ EntHeld w3 x r) := ⟨H2.out.1.trans hb3.1, H2.out.2.trans hb3.2, hh⟩
  clear hb3 hh H2 HC2 y2
  go_wp2_with fail
  go_ret
  exact ⟨ret_int HN.out, H3.out⟩
set_option maxHeartbeats 4000000 in
theorem heldEnt_any (w : World) (x : Ent) (r : EntR) (f1 : x.hs.length ≤ 1048576) (f2 : x.bl.length ≤ 1048576) (f3 : x.ts.length ≤ 1048576) (h : EntHeld w x r) :
    Calls Tryz.prog 76 #[.agg #[.string x.key, .int .i64 x.st, .slice r.ha x.hs.length r.hc, .slice r.ba x.bl.length r.bc, .int .i64 x.t, .int .i64 x.g, .int .i64 x.l, .int .i64 x.s, .int .i64 x.e, .bool x.b1, .bool x.b2, .slice r.ta x.ts.length r.tc, .int .i64 x.pins], .int .i64 1] w fun e w' => e = .returned (.int .i64 (nEnt x : Int)) ∧ Below w.heap.size w w' := by
  obtain ⟨W, hW⟩ : ∃ W, W = w.alloc (.cells #[.string x.key, .int .i64 x.st, .slice r.ha x.hs.length r.hc, .slice r.ba x.bl.length r.bc, .int .i64 x.t, .int .i64 x.g, .int .i64 x.l, .int .i64 x.s, .int .i64 x.e, .bool x.b1, .bool x.b2, .slice r.ta x.ts.length r.tc, .int .i64 x.pins] 32) := ⟨_, rfl⟩
  have HW : Hid (W = w.alloc (.cells #[.string x.key, .int .i64 x.st, .slice r.ha x.hs.length r.hc, .slice r.ba x.bl.length r.bc, .int .i64 x.t, .int .i64 x.g, .int .i64 x.l, .int .i64 x.s, .int .i64 x.e, .bool x.b1, .bool x.b2, .slice r.ta x.ts.length r.tc, .int .i64 x.pins] 32)) := hW
  have bW : Below w.heap.size w W := by rw [hW]; exact (Below.refl _ _).alloc (Nat.le_refl _) _
  have eW : E13 W w.heap.size (.string x.key) (.int .i64 x.st) (.slice r.ha x.hs.length r.hc) (.slice r.ba x.bl.length r.bc) (.int .i64 x.t) (.int .i64 x.g) (.int .i64 x.l) (.int .i64 x.s) (.int .i64 x.e) (.bool x.b1) (.bool x.b2) (.slice r.ta x.ts.length r.tc) (.int .i64 x.pins) := by rw [hW]; exact E13.new w _ _ _ _ _ _ _ _ _ _ _ _ _ _
  have C := heldLists W x r f1 f2 f3 (h.below bW)
  have K : Hid (∀ X, Below W.heap.size W X → X.cell? ⟨w.heap.size, 3, none⟩ = some (.slice r.ba x.bl.length r.bc) ∧ X.cell? ⟨w.heap.size, 11, none⟩ = some (.slice r.ta x.ts.length r.tc)) := fun X ha => by
    exact ⟨(eW.keep ha).c3, (eW.keep ha).c11⟩
  have HB : Hid (Below w.heap.size w W) := bW
  have HN : Hid (((1 + 2 * x.hs.length + x.bl.length + x.ts.length : Nat) : Int) = (nEnt x : Int)) := rfl
  clear hW bW eW h f1 f2 f3
  have g1 : ¬ ((1 + 2 * x.hs.length : Nat) : Int) < 0 := by omega
  have g2 : ¬ ((1 + 2 * x.hs.length + x.bl.length : Nat) : Int) < 0 := by omega
  have g3 : ¬ ((1 + 2 * x.hs.length + x.bl.length + x.ts.length : Nat) : Int) < 0 := by omega
  generalize ((1 + 2 * x.hs.length + x.bl.length + x.ts.length : Nat) : Int) = q3 at *
  generalize ((1 + 2 * x.hs.length + x.bl.length : Nat) : Int) = q2 at *
  generalize ((1 + 2 * x.hs.length : Nat) : Int) = q1 at *
  go_enter Tryz.func76, Tryz.ntmps76
  go_wp2_with fail
  rw [← HW.out]
  refine C.mono ?_
  rintro e w1 ⟨rfl, hb1, hc⟩
  have y1 := (K.out w1 hb1).1
  have HC := hc
  have H1 : Hid (Below W.heap.size W w1) := hb1
  clear hc hb1 HW C
  go_wp2_with fail
  refine HC.mono ?_
  rintro e w2 ⟨rfl, hb2, hc⟩
  have y2 := (K.out w2 (H1.out.trans (hb2.mono H1.out.size))).2
  have HC2 := hc
  have H2 : Hid (Below W.heap.size W w2) := H1.out.trans (hb2.mono H1.out.size)
  clear hc hb2 H1 HC y1 K
  go_wp2_with fail
  refine HC2.mono ?_
  rintro e w3 ⟨rfl, hb3⟩
  have H3 : Hid (Below w.heap.size w w3) := HB.out.trans ((H2.out.trans (hb3.mono H2.out.size)).mono HB.out.size)
  clear hb3 H2 HC2 y2 HB
  go_wp2_with fail
  go_ret
  exact ⟨ret_int HN.out, H3.out⟩
set_option maxHeartbeats 4000000 in
theorem markEntR_any (w : World) (base hi : Nat) (c : Int) (x : Ent) (r : EntR) (f1 : x.hs.length ≤ 1048576) (f2 : x.bl.length ≤ 1048576) (f3 : x.ts.length ≤ 1048576) (hw : base ≤ w.heap.size) (hhi : hi ≤ w.heap.size) (h : EntLV w base x r) (h0 : EntLt hi x r) :
    Calls Tryz.prog 21 #[.agg #[.int .i64 c, .string x.key, .int .i64 x.st, .slice r.ha x.hs.length r.hc, .slice r.ba x.bl.length r.bc, .int .i64 x.t, .int .i64 x.g, .int .i64 x.l, .int .i64 x.s, .int .i64 x.e, .bool x.b1, .bool x.b2, .slice r.ta x.ts.length r.tc, .int .i64 x.pins], .int .i64 1] w fun e w' => e = .returned (.int .i64 (nEnt x : Int)) ∧ Below base w w' ∧ Above hi w w' ∧ EntHeld w' x r := by
  have B0 : Below w.heap.size w (w.alloc (.cells #[.int .i64 c, .string x.key, .int .i64 x.st, .slice r.ha x.hs.length r.hc, .slice r.ba x.bl.length r.bc, .int .i64 x.t, .int .i64 x.g, .int .i64 x.l, .int .i64 x.s, .int .i64 x.e, .bool x.b1, .bool x.b2, .slice r.ta x.ts.length r.tc, .int .i64 x.pins] 34)) := (Below.refl _ _).alloc (Nat.le_refl _) _
  have HC := markEnt_any (w.alloc (.cells #[.int .i64 c, .string x.key, .int .i64 x.st, .slice r.ha x.hs.length r.hc, .slice r.ba x.bl.length r.bc, .int .i64 x.t, .int .i64 x.g, .int .i64 x.l, .int .i64 x.s, .int .i64 x.e, .bool x.b1, .bool x.b2, .slice r.ta x.ts.length r.tc, .int .i64 x.pins] 34)) base hi x r f1 f2 f3 (by have := B0.size; omega) (by have := B0.size; omega) (h.below B0) h0
  have HB : Hid (Below base w (w.alloc (.cells #[.int .i64 c, .string x.key, .int .i64 x.st, .slice r.ha x.hs.length r.hc, .slice r.ba x.bl.length r.bc, .int .i64 x.t, .int .i64 x.g, .int .i64 x.l, .int .i64 x.s, .int .i64 x.e, .bool x.b1, .bool x.b2, .slice r.ta x.ts.length r.tc, .int .i64 x.pins] 34)) ∧ Above hi w (w.alloc (.cells #[.int .i64 c, .string x.key, .int .i64 x.st, .slice r.ha x.hs.length r.hc, .slice r.ba x.bl.length r.bc, .int .i64 x.t, .int .i64 x.g, .int .i64 x.l, .int .i64 x.s, .int .i64 x.e, .bool x.b1, .bool x.b2, .slice r.ta x.ts.length r.tc, .int .i64 x.pins] 34))) := ⟨B0.mono hw, .below B0⟩
  clear B0 h f1 f2 f3 hw hhi h0
  generalize (nEnt x : Int) = q at *
  go_enter Tryz.func21, Tryz.ntmps21
  go_wp2_with fail
  refine HC.mono ?_
  rintro e w1 ⟨rfl, hb1, ha1, hh⟩
  have B1 : Hid (Below base w w1 ∧ Above hi w w1 ∧ EntHeld w1 x r) := ⟨HB.out.1.trans hb1, HB.out.2.trans ha1, hh⟩
  clear hb1 ha1 hh HB HC
  go_wp2_with fail
  go_ret
  exact ⟨rfl, B1.out⟩
set_option maxHeartbeats 4000000 in
theorem heldEntR_any (w : World) (c : Int) (x : Ent) (r : EntR) (f1 : x.hs.length ≤ 1048576) (f2 : x.bl.length ≤ 1048576) (f3 : x.ts.length ≤ 1048576) (h : EntHeld w x r) :
    Calls Tryz.prog 22 #[.agg #[.int .i64 c, .string x.key, .int .i64 x.st, .slice r.ha x.hs.length r.hc, .slice r.ba x.bl.length r.bc, .int .i64 x.t, .int .i64 x.g, .int .i64 x.l, .int .i64 x.s, .int .i64 x.e, .bool x.b1, .bool x.b2, .slice r.ta x.ts.length r.tc, .int .i64 x.pins], .int .i64 1] w fun e w' => e = .returned (.int .i64 (nEnt x : Int)) ∧ Below w.heap.size w w' := by
  have B0 : Below w.heap.size w (w.alloc (.cells #[.int .i64 c, .string x.key, .int .i64 x.st, .slice r.ha x.hs.length r.hc, .slice r.ba x.bl.length r.bc, .int .i64 x.t, .int .i64 x.g, .int .i64 x.l, .int .i64 x.s, .int .i64 x.e, .bool x.b1, .bool x.b2, .slice r.ta x.ts.length r.tc, .int .i64 x.pins] 34)) := (Below.refl _ _).alloc (Nat.le_refl _) _
  have HC := heldEnt_any (w.alloc (.cells #[.int .i64 c, .string x.key, .int .i64 x.st, .slice r.ha x.hs.length r.hc, .slice r.ba x.bl.length r.bc, .int .i64 x.t, .int .i64 x.g, .int .i64 x.l, .int .i64 x.s, .int .i64 x.e, .bool x.b1, .bool x.b2, .slice r.ta x.ts.length r.tc, .int .i64 x.pins] 34)) x r f1 f2 f3 (h.below B0)
  have HB : Hid (Below w.heap.size w (w.alloc (.cells #[.int .i64 c, .string x.key, .int .i64 x.st, .slice r.ha x.hs.length r.hc, .slice r.ba x.bl.length r.bc, .int .i64 x.t, .int .i64 x.g, .int .i64 x.l, .int .i64 x.s, .int .i64 x.e, .bool x.b1, .bool x.b2, .slice r.ta x.ts.length r.tc, .int .i64 x.pins] 34))) := B0
  clear B0 h f1 f2 f3
  have g : ¬ (nEnt x : Int) < 0 := by omega
  generalize (nEnt x : Int) = q at *
  go_enter Tryz.func22, Tryz.ntmps22
  go_wp2_with fail
  refine HC.mono ?_
  rintro e w1 ⟨rfl, hb1⟩
  have B1 : Hid (Below w.heap.size w w1) := HB.out.trans (hb1.mono HB.out.size)
  clear hb1 HB HC
  go_wp2_with fail
  go_ret
  exact ⟨rfl, B1.out⟩
end Go.Proofs.YtmidfgjnaebfiaaGreatDoor
/-
  The law of PeekEntry.
-/
namespace Go.Proofs.YtmidfgjnaebfiaaGreatDoor
open Go.ChangeShapes Go.WideShapes Go.ChangeAt Go.RowKit Go.Sort
theorem E14.above {w w' : World} {hi b : Nat} {v0 v1 v2 v3 v4 v5 v6 v7 v8 v9 v10 v11 v12 v13 : Value} (k : E14 w b v0 v1 v2 v3 v4 v5 v6 v7 v8 v9 v10 v11 v12 v13) (h : Above hi w w') (hb : hi ≤ b) : E14 w' b v0 v1 v2 v3 v4 v5 v6 v7 v8 v9 v10 v11 v12 v13 :=
  ⟨by rw [h.cell b 0 hb k.lt]; exact k.c0, by rw [h.cell b 1 hb k.lt]; exact k.c1, by rw [h.cell b 2 hb k.lt]; exact k.c2, by rw [h.cell b 3 hb k.lt]; exact k.c3, by rw [h.cell b 4 hb k.lt]; exact k.c4, by rw [h.cell b 5 hb k.lt]; exact k.c5, by rw [h.cell b 6 hb k.lt]; exact k.c6, by rw [h.cell b 7 hb k.lt]; exact k.c7, by rw [h.cell b 8 hb k.lt]; exact k.c8, by rw [h.cell b 9 hb k.lt]; exact k.c9, by rw [h.cell b 10 hb k.lt]; exact k.c10, by rw [h.cell b 11 hb k.lt]; exact k.c11, by rw [h.cell b 12 hb k.lt]; exact k.c12, by rw [h.cell b 13 hb k.lt]; exact k.c13, fun o => by rw [h.frozen b o hb k.lt]; exact k.fr o, Nat.lt_of_lt_of_le k.lt h.size⟩
set_option maxRecDepth 100000 in
set_option maxHeartbeats 16000000 in
theorem lawPeekEntry (w : World) (bu gu : Int) (ta ka : Option Addr) (tc kc : Nat) (tl kl : List (Ent × EntR)) (key : ByteArray) (hset : SetIs w) (h1 : StoArg w ta ka tl kl) :
    Calls Tryz.prog 3 #[.agg #[.int .i64 bu, .int .i64 gu, .slice ta tl.length tc, .slice ka kl.length kc], .string key] w fun r w' => r = .returned (.bool true) ∧ Below w.heap.size w w' := by
  obtain ⟨W, hW⟩ : ∃ W, W = w.alloc (.cells #[.int .i64 bu, .int .i64 gu, .slice ta tl.length tc, .slice ka kl.length kc] 24) := ⟨_, rfl⟩
  have HW : Hid (W = w.alloc (.cells #[.int .i64 bu, .int .i64 gu, .slice ta tl.length tc, .slice ka kl.length kc] 24)) := hW
  have K0 : Hid (Below w.heap.size w W ∧ S4 W w.heap.size (.int .i64 bu) (.int .i64 gu) (.slice ta tl.length tc) (.slice ka kl.length kc)) := by
    rw [hW]; exact ⟨(Below.refl _ _).alloc (Nat.le_refl _) _, S4.new w _ _ _ _ _⟩
  by_cases ck : (1048576 : Int) < key.size
  · have KB : Hid (Below w.heap.size w W) := K0.out.1
    clear hW hset h1 K0
    go_enter Tryz.func3, Tryz.ntmps3
    go_wp2_with fail
    rw [← HW.out]
    go_ret
    exact ⟨rfl, KB.out⟩
  have HZ : Hid (∀ X, Below w.heap.size w X → Calls Tryz.prog 14 #[.agg #[.int .i64 bu, .int .i64 gu, .slice ta tl.length tc, .slice ka kl.length kc], .int .i64 1048576] X fun r w' => r = .returned (.int .i64 (szSt 1048576 tl kl)) ∧ Below X.heap.size X w') := fun X hb => szStore_arg X bu gu ta ka tc kc tl kl 1048576 (by omega) (by omega) (h1.keep hb)
  obtain ⟨ok, hok⟩ : ∃ P : Prop, P = (StoFit tl kl ∧ ∀ x ∈ (tl ++ kl).map Prod.fst, ∀ t ∈ x.ts, t.size ≤ 1048576) := ⟨_, rfl⟩
  have HR : Hid (¬ szSt 1048576 tl kl < 0 → ok) := fun h => by rw [hok]; exact ⟨(szSt_room (by omega) h).1, szSt_tags (by omega) h⟩
  have HT : Hid (ok → ∀ X, Below w.heap.size w X → Calls Tryz.prog 16 #[.agg #[.int .i64 bu, .int .i64 gu, .slice ta tl.length tc, .slice ka kl.length kc]] X fun ee w' => (∃ G1 G2, ee = .returned (.agg #[.int .i64 bu, .int .i64 gu, .slice (some ⟨G1, 0, none⟩) tl.length tl.length, .slice (some ⟨G2, 0, none⟩) kl.length kl.length]) ∧ StoNew w' G1 G2 tl kl ∧ X.heap.size ≤ G1) ∧ Below X.heap.size X w') := fun hf X hb => toStore_arg X bu gu ta ka tc kc tl kl (h1.keep hb) (hok ▸ hf).1
  have HQ : Hid (ok → ∀ X G1 G2 H1 H2, StoNew X G1 G2 tl kl → StoNew X H1 H2 tl kl → Calls Tryz.prog 19 #[.agg #[.int .i64 bu, .int .i64 gu, .slice (some ⟨G1, 0, none⟩) tl.length tl.length, .slice (some ⟨G2, 0, none⟩) kl.length kl.length], .agg #[.int .i64 bu, .int .i64 gu, .slice (some ⟨H1, 0, none⟩) tl.length tl.length, .slice (some ⟨H2, 0, none⟩) kl.length kl.length]] X fun r w' => r = .returned (.bool true) ∧ Below X.heap.size X w') := fun hf X G1 G2 H1 H2 h k => eqStore_new X bu gu tl kl G1 G2 H1 H2 (hok ▸ hf).1 h k
  have HM : Hid (ok → ∀ w0 X G1 G2 lo, StoNew w0 G1 G2 tl kl → Below w0.heap.size w0 X → lo ≤ G1 → Calls Tryz.prog 20 #[.agg #[.int .i64 bu, .int .i64 gu, .slice (some ⟨G1, 0, none⟩) tl.length tl.length, .slice (some ⟨G2, 0, none⟩) kl.length kl.length], .int .i64 1] X fun e w' => (∃ c1 : Nat, e = .returned (.int .i64 (c1 : Int)) ∧ 1 ≤ c1 ∧ c1 ≤ 10000000000000) ∧ Below lo X w' ∧ Above w0.heap.size X w') := fun hf w0 X G1 G2 lo h hX hlo => markSto_weak w0 X bu gu tl kl G1 G2 lo _ _ _ (hok ▸ hf).1 h hX hlo rfl
  obtain ⟨c, hc⟩ : ∃ c, (peekR bu gu (tl.map Prod.fst) (kl.map Prod.fst) key).1 = c := ⟨_, rfl⟩
  obtain ⟨x, hx⟩ : ∃ x, (peekR bu gu (tl.map Prod.fst) (kl.map Prod.fst) key).2 = x := ⟨_, rfl⟩
  have HFX : Hid (ok → EntFit x) := fun hf => by rw [← hx]; exact peek_fit (hok ▸ hf).1
  have HS : Hid (ok → ∀ X G1 G2, StoNew X G1 G2 tl kl → Calls Tryz.prog 15 #[.agg #[.int .i64 bu, .int .i64 gu, .slice (some ⟨G1, 0, none⟩) tl.length tl.length, .slice (some ⟨G2, 0, none⟩) kl.length kl.length], .string key] X fun e w' => PeekOk c x X.heap.size e w' ∧ Below X.heap.size X w') := fun hf X G1 G2 h => by
    have := specPeek_new X bu gu tl kl G1 G2 key (ok_of h1 (hok ▸ hf).1) (hok ▸ hf).1 h
    rw [hc, hx] at this
    exact this
  have HG : Hid (ok → ∀ X G1 G2, Below w.heap.size w X → StoNew X G1 G2 tl kl → Calls Tryz.prog 17 #[.agg #[.int .i64 bu, .int .i64 gu, .slice (some ⟨G1, 0, none⟩) tl.length tl.length, .slice (some ⟨G2, 0, none⟩) kl.length kl.length], .string key] X fun e w' => PeekOk c x X.heap.size e w' ∧ Below X.heap.size X w') := fun hf X G1 G2 hb h => by
    have := implPeek_new X bu gu tl kl G1 G2 key (hset.below hb) (ok_of h1 (hok ▸ hf).1) (hok ▸ hf).1 (hok ▸ hf).2 h
    rw [hc, hx] at this
    exact this
  clear h1 hW hset hc hx hok
  generalize szSt 1048576 tl kl = z1 at *
  generalize tl.length = tn at *
  generalize kl.length = kn at *
  go_enter Tryz.func3, Tryz.ntmps3
  go_wp2_with fail
  rw [← HW.out]
  refine (HZ.out _ K0.out.1).mono ?_
  rintro e0 w1 ⟨rfl, hb1⟩
  have K1 : Hid (Below w.heap.size w w1 ∧ S4 w1 w.heap.size (.int .i64 bu) (.int .i64 gu) (.slice ta tn tc) (.slice ka kn kc)) := ⟨K0.out.1.trans (hb1.mono K0.out.1.size), K0.out.2.keep hb1⟩
  clear K0 HW HZ hb1
  by_cases cz : z1 < 0
  · clear HR HT HQ HS HG HM HFX
    go_wp2_with fail
    go_ret
    exact ⟨rfl, K1.out.1⟩
  have HF : Hid ok := HR.out (by omega)
  have HX : Hid (EntFit x) := HFX.out HF.out
  have HE : Hid (∀ X r s, EntIn X x r → EntIn X x s → Calls Tryz.prog 18 #[.agg #[.int .i64 c, .string x.key, .int .i64 x.st, .slice r.ha x.hs.length r.hc, .slice r.ba x.bl.length r.bc, .int .i64 x.t, .int .i64 x.g, .int .i64 x.l, .int .i64 x.s, .int .i64 x.e, .bool x.b1, .bool x.b2, .slice r.ta x.ts.length r.tc, .int .i64 x.pins], .agg #[.int .i64 c, .string x.key, .int .i64 x.st, .slice s.ha x.hs.length s.hc, .slice s.ba x.bl.length s.bc, .int .i64 x.t, .int .i64 x.g, .int .i64 x.l, .int .i64 x.s, .int .i64 x.e, .bool x.b1, .bool x.b2, .slice s.ta x.ts.length s.tc, .int .i64 x.pins]] X fun e w' => e = .returned (.bool true) ∧ Below X.heap.size X w') := fun X r s h k => eqEntR_same X c x r s HX.out h k
  clear HR HFX
  have e0 := K1.out.2.c0
  have e1 := K1.out.2.c1
  have e2 := K1.out.2.c2
  have e3 := K1.out.2.c3
  go_wp2_with fail
  refine (HT.out HF.out _ K1.out.1).mono ?_
  rintro r0 w2 ⟨⟨J1, J2, rfl, m2, _⟩, hb2⟩
  have K2 : Hid (Below w.heap.size w w2 ∧ S4 w2 w.heap.size (.int .i64 bu) (.int .i64 gu) (.slice ta tn tc) (.slice ka kn kc) ∧ StoNew w2 J1 J2 tl kl) := ⟨K1.out.1.trans (hb2.mono K1.out.1.size), K1.out.2.keep hb2, m2⟩
  clear K1 e0 e1 e2 e3 hb2 m2
  go_wp2_with fail
  refine (HS.out HF.out _ _ _ K2.out.2.2).mono ?_
  rintro r0 w3 ⟨⟨r, rfl, hr⟩, hb3⟩
  obtain ⟨V3, hV3⟩ : ∃ V, V = w3.alloc (.cells #[.int .i64 c, .string x.key, .int .i64 x.st, .slice r.ha x.hs.length r.hc, .slice r.ba x.bl.length r.bc, .int .i64 x.t, .int .i64 x.g, .int .i64 x.l, .int .i64 x.s, .int .i64 x.e, .bool x.b1, .bool x.b2, .slice r.ta x.ts.length r.tc, .int .i64 x.pins] 34) := ⟨_, rfl⟩
  have HV3 : Hid (V3 = w3.alloc (.cells #[.int .i64 c, .string x.key, .int .i64 x.st, .slice r.ha x.hs.length r.hc, .slice r.ba x.bl.length r.bc, .int .i64 x.t, .int .i64 x.g, .int .i64 x.l, .int .i64 x.s, .int .i64 x.e, .bool x.b1, .bool x.b2, .slice r.ta x.ts.length r.tc, .int .i64 x.pins] 34)) := hV3
  have K3 : Hid (Below w.heap.size w V3 ∧ S4 V3 w.heap.size (.int .i64 bu) (.int .i64 gu) (.slice ta tn tc) (.slice ka kn kc) ∧ E14 V3 w3.heap.size (.int .i64 c) (.string x.key) (.int .i64 x.st) (.slice r.ha x.hs.length r.hc) (.slice r.ba x.bl.length r.bc) (.int .i64 x.t) (.int .i64 x.g) (.int .i64 x.l) (.int .i64 x.s) (.int .i64 x.e) (.bool x.b1) (.bool x.b2) (.slice r.ta x.ts.length r.tc) (.int .i64 x.pins) ∧ EntIn V3 x r) := by
    have a3 : Below w3.heap.size w3 V3 := by rw [hV3]; exact (Below.refl _ _).alloc (Nat.le_refl _) _
    have b3 := K2.out.1.trans (hb3.mono K2.out.1.size)
    exact ⟨b3.trans (a3.mono b3.size), (K2.out.2.1.keep hb3).keep a3, by rw [hV3]; exact E14.new w3 _ _ _ _ _ _ _ _ _ _ _ _ _ _ _, hr.in.keep a3⟩
  clear K2 hb3 HS hV3 hr
  have e0 := K3.out.2.1.c0
  have e1 := K3.out.2.1.c1
  have e2 := K3.out.2.1.c2
  have e3 := K3.out.2.1.c3
  rw [HV3.out] at e0 e1 e2 e3
  go_wp2_with fail
  rw [← HV3.out]
  refine (HT.out HF.out _ K3.out.1).mono ?_
  rintro r0 w4 ⟨⟨G1, G2, rfl, m4, hG⟩, hb4⟩
  obtain ⟨V4, hV4⟩ : ∃ V, V = w4.alloc (.cells #[.int .i64 bu, .int .i64 gu, .slice (some ⟨G1, 0, none⟩) tn tn, .slice (some ⟨G2, 0, none⟩) kn kn] 38) := ⟨_, rfl⟩
  have HV4 : Hid (V4 = w4.alloc (.cells #[.int .i64 bu, .int .i64 gu, .slice (some ⟨G1, 0, none⟩) tn tn, .slice (some ⟨G2, 0, none⟩) kn kn] 38)) := hV4
  have K4 : Hid (Below w.heap.size w V4 ∧ S4 V4 w.heap.size (.int .i64 bu) (.int .i64 gu) (.slice ta tn tc) (.slice ka kn kc) ∧ S4 V4 w4.heap.size (.int .i64 bu) (.int .i64 gu) (.slice (some ⟨G1, 0, none⟩) tn tn) (.slice (some ⟨G2, 0, none⟩) kn kn) ∧ StoNew w4 G1 G2 tl kl ∧ Below w4.heap.size w4 V4 ∧ Below V3.heap.size V3 V4) := by
    have a4 : Below w4.heap.size w4 V4 := by rw [hV4]; exact (Below.refl _ _).alloc (Nat.le_refl _) _
    have b4 := K3.out.1.trans (hb4.mono K3.out.1.size)
    exact ⟨b4.trans (a4.mono b4.size), (K3.out.2.1.keep hb4).keep a4, by rw [hV4]; exact S4.new w4 _ _ _ _ _, m4, a4, hb4.trans (a4.mono hb4.size)⟩
  clear e0 e1 e2 e3 hb4 m4 hV4 HV3
  go_wp2_with fail
  rw [← HV4.out]
  refine (HG.out HF.out _ _ _ K4.out.1 (K4.out.2.2.2.1.keep K4.out.2.2.2.2.1)).mono ?_
  rintro r0 w5 ⟨⟨s, rfl, hs⟩, hb5⟩
  obtain ⟨V5, hV5⟩ : ∃ V, V = w5.alloc (.cells #[.int .i64 c, .string x.key, .int .i64 x.st, .slice s.ha x.hs.length s.hc, .slice s.ba x.bl.length s.bc, .int .i64 x.t, .int .i64 x.g, .int .i64 x.l, .int .i64 x.s, .int .i64 x.e, .bool x.b1, .bool x.b2, .slice s.ta x.ts.length s.tc, .int .i64 x.pins] 34) := ⟨_, rfl⟩
  have HV5 : Hid (V5 = w5.alloc (.cells #[.int .i64 c, .string x.key, .int .i64 x.st, .slice s.ha x.hs.length s.hc, .slice s.ba x.bl.length s.bc, .int .i64 x.t, .int .i64 x.g, .int .i64 x.l, .int .i64 x.s, .int .i64 x.e, .bool x.b1, .bool x.b2, .slice s.ta x.ts.length s.tc, .int .i64 x.pins] 34)) := hV5
  have K5 : Hid (Below V4.heap.size V4 V5 ∧ E14 V5 w5.heap.size (.int .i64 c) (.string x.key) (.int .i64 x.st) (.slice s.ha x.hs.length s.hc) (.slice s.ba x.bl.length s.bc) (.int .i64 x.t) (.int .i64 x.g) (.int .i64 x.l) (.int .i64 x.s) (.int .i64 x.e) (.bool x.b1) (.bool x.b2) (.slice s.ta x.ts.length s.tc) (.int .i64 x.pins) ∧ EntLV V5 V4.heap.size x s ∧ EntLt w5.heap.size x s ∧ w5.heap.size ≤ V5.heap.size ∧ V4.heap.size ≤ w5.heap.size) := by
    have a5 : Below w5.heap.size w5 V5 := by rw [hV5]; exact (Below.refl _ _).alloc (Nat.le_refl _) _
    exact ⟨hb5.trans (a5.mono hb5.size), by rw [hV5]; exact E14.new w5 _ _ _ _ _ _ _ _ _ _ _ _ _ _ _, hs.lv.below a5, hs.lv.lts, a5.size, hb5.size⟩
  have K35 : Hid (Below V3.heap.size V3 V5) := K4.out.2.2.2.2.2.trans (K5.out.1.mono K4.out.2.2.2.2.2.size)
  clear hb5 hV5 HV4 hs
  have i0 := (K3.out.2.2.1.keep K35.out).c0
  have i1 := (K3.out.2.2.1.keep K35.out).c1
  have i2 := (K3.out.2.2.1.keep K35.out).c2
  have i3 := (K3.out.2.2.1.keep K35.out).c3
  have i4 := (K3.out.2.2.1.keep K35.out).c4
  have i5 := (K3.out.2.2.1.keep K35.out).c5
  have i6 := (K3.out.2.2.1.keep K35.out).c6
  have i7 := (K3.out.2.2.1.keep K35.out).c7
  have i8 := (K3.out.2.2.1.keep K35.out).c8
  have i9 := (K3.out.2.2.1.keep K35.out).c9
  have i10 := (K3.out.2.2.1.keep K35.out).c10
  have i11 := (K3.out.2.2.1.keep K35.out).c11
  have i12 := (K3.out.2.2.1.keep K35.out).c12
  have i13 := (K3.out.2.2.1.keep K35.out).c13
  rw [HV5.out] at i0 i1 i2 i3 i4 i5 i6 i7 i8 i9 i10 i11 i12 i13
  go_wp2_with fail
  rw [← HV5.out]
  refine (HE.out _ s r K5.out.2.2.1.in (K3.out.2.2.2.keep K35.out)).mono ?_
  rintro e0 w6 ⟨rfl, hb6⟩
  obtain ⟨x0, hx0⟩ : ∃ q, q = w4.heap.size := ⟨_, rfl⟩
  have HX0 : Hid (x0 = w4.heap.size) := hx0
  have HK : Hid (∀ X, Below w6.heap.size w6 X → Below V5.heap.size V5 X) := fun X hX => hb6.trans (hX.mono hb6.size)
  have HKA : Hid (∀ X, Below V5.heap.size V5 X → Below w.heap.size w X ∧ S4 X w.heap.size (.int .i64 bu) (.int .i64 gu) (.slice ta tn tc) (.slice ka kn kc) ∧ S4 X x0 (.int .i64 bu) (.int .i64 gu) (.slice (some ⟨G1, 0, none⟩) tn tn) (.slice (some ⟨G2, 0, none⟩) kn kn) ∧ StoNew X G1 G2 tl kl) := fun X hX => by
    rw [hx0]
    have h4 : Below V4.heap.size V4 X := K5.out.1.trans (hX.mono K5.out.1.size)
    exact ⟨K4.out.1.trans (h4.mono K4.out.1.size), K4.out.2.1.keep h4, K4.out.2.2.1.keep h4, (K4.out.2.2.2.1.keep K4.out.2.2.2.2.1).keep h4⟩
  have HG1 : Hid (V3.heap.size ≤ G1) := hG
  clear i0 i1 i2 i3 i4 i5 i6 i7 i8 i9 i10 i11 i12 i13 hb6 HV5 hG
  rw [← hx0]
  clear hx0
  have HKS : Hid (∀ X, Below w6.heap.size w6 X → X.cell? ⟨w.heap.size, 0, none⟩ = some (.int .i64 bu) ∧ X.cell? ⟨w.heap.size, 1, none⟩ = some (.int .i64 gu) ∧ X.cell? ⟨w.heap.size, 2, none⟩ = some (.slice ta tn tc) ∧ X.cell? ⟨w.heap.size, 3, none⟩ = some (.slice ka kn kc) ∧ X.cell? ⟨x0, 0, none⟩ = some (.int .i64 bu) ∧ X.cell? ⟨x0, 1, none⟩ = some (.int .i64 gu) ∧ X.cell? ⟨x0, 2, none⟩ = some (.slice (some ⟨G1, 0, none⟩) tn tn) ∧ X.cell? ⟨x0, 3, none⟩ = some (.slice (some ⟨G2, 0, none⟩) kn kn)) := fun X hX => by
    have hb := HKA.out X (HK.out X hX)
    exact ⟨hb.2.1.c0, hb.2.1.c1, hb.2.1.c2, hb.2.1.c3, hb.2.2.1.c0, hb.2.2.1.c1, hb.2.2.1.c2, hb.2.2.1.c3⟩
  have B0 : Hid (Below w6.heap.size w6 w6.drew) := (Below.refl _ _).drew
  go_wp2_with fail
  go_region_held3 (fun X => X.cell? ⟨w.heap.size, 0, none⟩ = some (.int .i64 bu) ∧ X.cell? ⟨w.heap.size, 1, none⟩ = some (.int .i64 gu) ∧ X.cell? ⟨w.heap.size, 2, none⟩ = some (.slice ta tn tc) ∧ X.cell? ⟨w.heap.size, 3, none⟩ = some (.slice ka kn kc) ∧ X.cell? ⟨x0, 0, none⟩ = some (.int .i64 bu) ∧ X.cell? ⟨x0, 1, none⟩ = some (.int .i64 gu) ∧ X.cell? ⟨x0, 2, none⟩ = some (.slice (some ⟨G1, 0, none⟩) tn tn) ∧ X.cell? ⟨x0, 3, none⟩ = some (.slice (some ⟨G2, 0, none⟩) kn kn))
    (first | exact HKS.out _ BB.out | exact HKS.out _ BA.out | exact HKS.out _ B0.out)
    (first
    | (go_at_call 16; refine (HT.out HF.out _ (HKA.out _ (HK.out _ B0.out)).1).mono ?_; rintro r0 wa ⟨⟨I1, I2, rfl, ma, _⟩, hba⟩; have BA : Hid (Below w6.heap.size w6 wa) := B0.out.trans (hba.mono B0.out.size); have MA : Hid (StoNew wa I1 I2 tl kl) := ma; clear hba ma)
    | (go_at_call 19; refine (HQ.out HF.out _ _ _ _ _ (HKA.out _ (HK.out _ BA.out)).2.2.2 MA.out).mono ?_; rintro r0 wb ⟨rfl, hbb⟩; have BB : Hid (Below w6.heap.size w6 wb) := BA.out.trans (hbb.mono BA.out.size); clear hbb))
  all_goals
    have KB : Hid (Below V5.heap.size V5 wb) := HK.out _ BB.out
    obtain ⟨x1, x2, x3, x4, x5, x6, x7, x8⟩ := HKS.out _ BB.out
    clear HK HKS B0 BA BB MA HQ
    go_wp2_with fail
    have h4b : Below w4.heap.size w4 wb := K4.out.2.2.2.2.1.trans ((K5.out.1.trans (KB.out.mono K5.out.1.size)).mono K4.out.2.2.2.2.1.size)
    refine (HM.out HF.out w4 wb G1 G2 V3.heap.size K4.out.2.2.2.1 h4b HG1.out).mono ?_
    rintro r0 w7 ⟨⟨k1, rfl, hk1, hk2⟩, hb7, ha7⟩
    have g7 : ¬ (k1 : Int) < 0 := by omega
    have H7 : Hid (Below w.heap.size w w7 ∧ S4 w7 w.heap.size (.int .i64 bu) (.int .i64 gu) (.slice ta tn tc) (.slice ka kn kc) ∧ E14 w7 w3.heap.size (.int .i64 c) (.string x.key) (.int .i64 x.st) (.slice r.ha x.hs.length r.hc) (.slice r.ba x.bl.length r.bc) (.int .i64 x.t) (.int .i64 x.g) (.int .i64 x.l) (.int .i64 x.s) (.int .i64 x.e) (.bool x.b1) (.bool x.b2) (.slice r.ta x.ts.length r.tc) (.int .i64 x.pins) ∧ EntIn w7 x r ∧ E14 w7 w5.heap.size (.int .i64 c) (.string x.key) (.int .i64 x.st) (.slice s.ha x.hs.length s.hc) (.slice s.ba x.bl.length s.bc) (.int .i64 x.t) (.int .i64 x.g) (.int .i64 x.l) (.int .i64 x.s) (.int .i64 x.e) (.bool x.b1) (.bool x.b2) (.slice s.ta x.ts.length s.tc) (.int .i64 x.pins) ∧ EntLV w7 V4.heap.size x s ∧ Below V3.heap.size V3 w7 ∧ w5.heap.size ≤ w7.heap.size) := by
      have d3 : Below V3.heap.size V3 w7 := (K35.out.trans (KB.out.mono K35.out.size)).trans hb7
      have e4 := K4.out.2.2.2.2.1.size
      exact ⟨K3.out.1.trans (d3.mono K3.out.1.size), K3.out.2.1.keep d3, K3.out.2.2.1.keep d3, K3.out.2.2.2.keep d3, (K5.out.2.1.keep KB.out).above ha7 (by have := K5.out.2.2.2.2.2; omega), (K5.out.2.2.1.below KB.out).above ha7 (by omega), d3, by have := K5.out.2.2.2.2.1; have := KB.out.size; have := hb7.size; omega⟩
    clear hb7 ha7 h4b KB x1 x2 x3 x4 x5 x6 x7 x8 HM HKA K35 HG1 HX0
    have i0 := H7.out.2.2.1.c0
    have i1 := H7.out.2.2.1.c1
    have i2 := H7.out.2.2.1.c2
    have i3 := H7.out.2.2.1.c3
    have i4 := H7.out.2.2.1.c4
    have i5 := H7.out.2.2.1.c5
    have i6 := H7.out.2.2.1.c6
    have i7 := H7.out.2.2.1.c7
    have i8 := H7.out.2.2.1.c8
    have i9 := H7.out.2.2.1.c9
    have i10 := H7.out.2.2.1.c10
    have i11 := H7.out.2.2.1.c11
    have i12 := H7.out.2.2.1.c12
    have i13 := H7.out.2.2.1.c13
    have j0 := H7.out.2.2.2.2.1.c0
    have j1 := H7.out.2.2.2.2.1.c1
    have j2 := H7.out.2.2.2.2.1.c2
    have j3 := H7.out.2.2.2.2.1.c3
    have j4 := H7.out.2.2.2.2.1.c4
    have j5 := H7.out.2.2.2.2.1.c5
    have j6 := H7.out.2.2.2.2.1.c6
    have j7 := H7.out.2.2.2.2.1.c7
    have j8 := H7.out.2.2.2.2.1.c8
    have j9 := H7.out.2.2.2.2.1.c9
    have j10 := H7.out.2.2.2.2.1.c10
    have j11 := H7.out.2.2.2.2.1.c11
    have j12 := H7.out.2.2.2.2.1.c12
    have j13 := H7.out.2.2.2.2.1.c13
    go_wp2_with fail
    refine (HE.out _ s r H7.out.2.2.2.2.2.1.in H7.out.2.2.2.1).mono ?_
    rintro e0 w8 ⟨rfl, hb8⟩
    have H8 : Hid (Below w.heap.size w w8 ∧ S4 w8 w.heap.size (.int .i64 bu) (.int .i64 gu) (.slice ta tn tc) (.slice ka kn kc) ∧ E14 w8 w3.heap.size (.int .i64 c) (.string x.key) (.int .i64 x.st) (.slice r.ha x.hs.length r.hc) (.slice r.ba x.bl.length r.bc) (.int .i64 x.t) (.int .i64 x.g) (.int .i64 x.l) (.int .i64 x.s) (.int .i64 x.e) (.bool x.b1) (.bool x.b2) (.slice r.ta x.ts.length r.tc) (.int .i64 x.pins) ∧ EntIn w8 x r ∧ E14 w8 w5.heap.size (.int .i64 c) (.string x.key) (.int .i64 x.st) (.slice s.ha x.hs.length s.hc) (.slice s.ba x.bl.length s.bc) (.int .i64 x.t) (.int .i64 x.g) (.int .i64 x.l) (.int .i64 x.s) (.int .i64 x.e) (.bool x.b1) (.bool x.b2) (.slice s.ta x.ts.length s.tc) (.int .i64 x.pins) ∧ EntLV w8 V4.heap.size x s ∧ Below V3.heap.size V3 w8 ∧ w5.heap.size ≤ w8.heap.size) := by
      have d3 : Below V3.heap.size V3 w8 := H7.out.2.2.2.2.2.2.1.trans (hb8.mono H7.out.2.2.2.2.2.2.1.size)
      exact ⟨K3.out.1.trans (d3.mono K3.out.1.size), K3.out.2.1.keep d3, K3.out.2.2.1.keep d3, K3.out.2.2.2.keep d3, H7.out.2.2.2.2.1.keep hb8, H7.out.2.2.2.2.2.1.below hb8, d3, by have := H7.out.2.2.2.2.2.2.2; have := hb8.size; omega⟩
    clear hb8 H7 g7 i0 i1 i2 i3 i4 i5 i6 i7 i8 i9 i10 i11 i12 i13 j0 j1 j2 j3 j4 j5 j6 j7 j8 j9 j10 j11 j12 j13
    have i0 := H8.out.2.2.2.2.1.c0
    have i1 := H8.out.2.2.2.2.1.c1
    have i2 := H8.out.2.2.2.2.1.c2
    have i3 := H8.out.2.2.2.2.1.c3
    have i4 := H8.out.2.2.2.2.1.c4
    have i5 := H8.out.2.2.2.2.1.c5
    have i6 := H8.out.2.2.2.2.1.c6
    have i7 := H8.out.2.2.2.2.1.c7
    have i8 := H8.out.2.2.2.2.1.c8
    have i9 := H8.out.2.2.2.2.1.c9
    have i10 := H8.out.2.2.2.2.1.c10
    have i11 := H8.out.2.2.2.2.1.c11
    have i12 := H8.out.2.2.2.2.1.c12
    have i13 := H8.out.2.2.2.2.1.c13
    go_wp2_with fail
    refine (markEntR_any w8 V4.heap.size w5.heap.size c x s HX.out.h HX.out.b HX.out.t (by have := H8.out.2.2.2.2.2.2.2; have := K5.out.2.2.2.2.2; omega) H8.out.2.2.2.2.2.2.2 H8.out.2.2.2.2.2.1 K5.out.2.2.2.1).mono ?_
    rintro e0 w9 ⟨rfl, hb9, ha9, hh9⟩
    have H9 : Hid (Below w.heap.size w w9 ∧ S4 w9 w.heap.size (.int .i64 bu) (.int .i64 gu) (.slice ta tn tc) (.slice ka kn kc) ∧ E14 w9 w3.heap.size (.int .i64 c) (.string x.key) (.int .i64 x.st) (.slice r.ha x.hs.length r.hc) (.slice r.ba x.bl.length r.bc) (.int .i64 x.t) (.int .i64 x.g) (.int .i64 x.l) (.int .i64 x.s) (.int .i64 x.e) (.bool x.b1) (.bool x.b2) (.slice r.ta x.ts.length r.tc) (.int .i64 x.pins) ∧ EntIn w9 x r ∧ E14 w9 w5.heap.size (.int .i64 c) (.string x.key) (.int .i64 x.st) (.slice s.ha x.hs.length s.hc) (.slice s.ba x.bl.length s.bc) (.int .i64 x.t) (.int .i64 x.g) (.int .i64 x.l) (.int .i64 x.s) (.int .i64 x.e) (.bool x.b1) (.bool x.b2) (.slice s.ta x.ts.length s.tc) (.int .i64 x.pins) ∧ EntHeld w9 x s) := by
      have e4 := K4.out.2.2.2.2.2.size
      have d3 : Below V3.heap.size V3 w9 := H8.out.2.2.2.2.2.2.1.trans (hb9.mono e4)
      exact ⟨K3.out.1.trans (d3.mono K3.out.1.size), K3.out.2.1.keep d3, K3.out.2.2.1.keep d3, K3.out.2.2.2.keep d3, H8.out.2.2.2.2.1.above ha9 (Nat.le_refl _), hh9⟩
    clear hb9 ha9 hh9 H8 K3 K4 K5 i0 i1 i2 i3 i4 i5 i6 i7 i8 i9 i10 i11 i12 i13
    have gq : ¬ (nEnt x : Int) < 0 := by omega
    obtain ⟨N, hN⟩ : ∃ N : Int, (nEnt x : Int) = N := ⟨_, rfl⟩
    have HH : Hid (∀ X, EntHeld X x s → Calls Tryz.prog 22 #[.agg #[.int .i64 c, .string x.key, .int .i64 x.st, .slice s.ha x.hs.length s.hc, .slice s.ba x.bl.length s.bc, .int .i64 x.t, .int .i64 x.g, .int .i64 x.l, .int .i64 x.s, .int .i64 x.e, .bool x.b1, .bool x.b2, .slice s.ta x.ts.length s.tc, .int .i64 x.pins], .int .i64 1] X fun e w' => e = .returned (.int .i64 N) ∧ Below X.heap.size X w') := fun X h => by
      rw [← hN]; exact heldEntR_any X c x s HX.out.h HX.out.b HX.out.t h
    rw [hN] at gq ⊢
    clear hN
    have i0 := H9.out.2.2.2.2.1.c0
    have i1 := H9.out.2.2.2.2.1.c1
    have i2 := H9.out.2.2.2.2.1.c2
    have i3 := H9.out.2.2.2.2.1.c3
    have i4 := H9.out.2.2.2.2.1.c4
    have i5 := H9.out.2.2.2.2.1.c5
    have i6 := H9.out.2.2.2.2.1.c6
    have i7 := H9.out.2.2.2.2.1.c7
    have i8 := H9.out.2.2.2.2.1.c8
    have i9 := H9.out.2.2.2.2.1.c9
    have i10 := H9.out.2.2.2.2.1.c10
    have i11 := H9.out.2.2.2.2.1.c11
    have i12 := H9.out.2.2.2.2.1.c12
    have i13 := H9.out.2.2.2.2.1.c13
    go_wp2_with fail
    refine (HH.out _ H9.out.2.2.2.2.2).mono ?_
    rintro e0 wc ⟨rfl, hbc⟩
    have HC : Hid (Below w.heap.size w wc ∧ S4 wc w.heap.size (.int .i64 bu) (.int .i64 gu) (.slice ta tn tc) (.slice ka kn kc) ∧ E14 wc w3.heap.size (.int .i64 c) (.string x.key) (.int .i64 x.st) (.slice r.ha x.hs.length r.hc) (.slice r.ba x.bl.length r.bc) (.int .i64 x.t) (.int .i64 x.g) (.int .i64 x.l) (.int .i64 x.s) (.int .i64 x.e) (.bool x.b1) (.bool x.b2) (.slice r.ta x.ts.length r.tc) (.int .i64 x.pins) ∧ EntIn wc x r ∧ E14 wc w5.heap.size (.int .i64 c) (.string x.key) (.int .i64 x.st) (.slice s.ha x.hs.length s.hc) (.slice s.ba x.bl.length s.bc) (.int .i64 x.t) (.int .i64 x.g) (.int .i64 x.l) (.int .i64 x.s) (.int .i64 x.e) (.bool x.b1) (.bool x.b2) (.slice s.ta x.ts.length s.tc) (.int .i64 x.pins) ∧ EntHeld wc x s) := ⟨H9.out.1.trans (hbc.mono H9.out.1.size), H9.out.2.1.keep hbc, H9.out.2.2.1.keep hbc, H9.out.2.2.2.1.keep hbc, H9.out.2.2.2.2.1.keep hbc, H9.out.2.2.2.2.2.below hbc⟩
    clear hbc H9 i0 i1 i2 i3 i4 i5 i6 i7 i8 i9 i10 i11 i12 i13
    have y0 := HC.out.2.1.c0
    have y1 := HC.out.2.1.c1
    have y2 := HC.out.2.1.c2
    have y3 := HC.out.2.1.c3
    go_wp2_with fail
    refine (HT.out HF.out _ HC.out.1).mono ?_
    rintro r0 wd ⟨⟨J3, J4, rfl, md, _⟩, hbd⟩
    have HD : Hid (Below w.heap.size w wd ∧ E14 wd w3.heap.size (.int .i64 c) (.string x.key) (.int .i64 x.st) (.slice r.ha x.hs.length r.hc) (.slice r.ba x.bl.length r.bc) (.int .i64 x.t) (.int .i64 x.g) (.int .i64 x.l) (.int .i64 x.s) (.int .i64 x.e) (.bool x.b1) (.bool x.b2) (.slice r.ta x.ts.length r.tc) (.int .i64 x.pins) ∧ EntIn wd x r ∧ E14 wd w5.heap.size (.int .i64 c) (.string x.key) (.int .i64 x.st) (.slice s.ha x.hs.length s.hc) (.slice s.ba x.bl.length s.bc) (.int .i64 x.t) (.int .i64 x.g) (.int .i64 x.l) (.int .i64 x.s) (.int .i64 x.e) (.bool x.b1) (.bool x.b2) (.slice s.ta x.ts.length s.tc) (.int .i64 x.pins) ∧ EntHeld wd x s ∧ StoNew wd J3 J4 tl kl) := ⟨HC.out.1.trans (hbd.mono HC.out.1.size), HC.out.2.2.1.keep hbd, HC.out.2.2.2.1.keep hbd, HC.out.2.2.2.2.1.keep hbd, HC.out.2.2.2.2.2.below hbd, md⟩
    clear hbd HC y0 y1 y2 y3 HT md
    go_wp2_with fail
    refine (HG.out HF.out _ _ _ HD.out.1 HD.out.2.2.2.2.2).mono ?_
    rintro r0 we ⟨⟨t, rfl, ht⟩, hbe⟩
    obtain ⟨VE, hVE⟩ : ∃ V, V = we.alloc (.cells #[.int .i64 c, .string x.key, .int .i64 x.st, .slice t.ha x.hs.length t.hc, .slice t.ba x.bl.length t.bc, .int .i64 x.t, .int .i64 x.g, .int .i64 x.l, .int .i64 x.s, .int .i64 x.e, .bool x.b1, .bool x.b2, .slice t.ta x.ts.length t.tc, .int .i64 x.pins] 34) := ⟨_, rfl⟩
    have HVE : Hid (VE = we.alloc (.cells #[.int .i64 c, .string x.key, .int .i64 x.st, .slice t.ha x.hs.length t.hc, .slice t.ba x.bl.length t.bc, .int .i64 x.t, .int .i64 x.g, .int .i64 x.l, .int .i64 x.s, .int .i64 x.e, .bool x.b1, .bool x.b2, .slice t.ta x.ts.length t.tc, .int .i64 x.pins] 34)) := hVE
    have HEE : Hid (Below w.heap.size w VE ∧ E14 VE w3.heap.size (.int .i64 c) (.string x.key) (.int .i64 x.st) (.slice r.ha x.hs.length r.hc) (.slice r.ba x.bl.length r.bc) (.int .i64 x.t) (.int .i64 x.g) (.int .i64 x.l) (.int .i64 x.s) (.int .i64 x.e) (.bool x.b1) (.bool x.b2) (.slice r.ta x.ts.length r.tc) (.int .i64 x.pins) ∧ EntIn VE x r ∧ E14 VE w5.heap.size (.int .i64 c) (.string x.key) (.int .i64 x.st) (.slice s.ha x.hs.length s.hc) (.slice s.ba x.bl.length s.bc) (.int .i64 x.t) (.int .i64 x.g) (.int .i64 x.l) (.int .i64 x.s) (.int .i64 x.e) (.bool x.b1) (.bool x.b2) (.slice s.ta x.ts.length s.tc) (.int .i64 x.pins) ∧ EntHeld VE x s ∧ EntIn VE x t) := by
      have ae : Below we.heap.size we VE := by rw [hVE]; exact (Below.refl _ _).alloc (Nat.le_refl _) _
      have be := HD.out.1.trans (hbe.mono HD.out.1.size)
      exact ⟨be.trans (ae.mono be.size), (HD.out.2.1.keep hbe).keep ae, (HD.out.2.2.1.keep hbe).keep ae, (HD.out.2.2.2.1.keep hbe).keep ae, (HD.out.2.2.2.2.1.below hbe).below ae, ht.in.keep ae⟩
    clear hbe HD HG ht hVE
    have j0 := HEE.out.2.1.c0
    have j1 := HEE.out.2.1.c1
    have j2 := HEE.out.2.1.c2
    have j3 := HEE.out.2.1.c3
    have j4 := HEE.out.2.1.c4
    have j5 := HEE.out.2.1.c5
    have j6 := HEE.out.2.1.c6
    have j7 := HEE.out.2.1.c7
    have j8 := HEE.out.2.1.c8
    have j9 := HEE.out.2.1.c9
    have j10 := HEE.out.2.1.c10
    have j11 := HEE.out.2.1.c11
    have j12 := HEE.out.2.1.c12
    have j13 := HEE.out.2.1.c13
    rw [HVE.out] at j0 j1 j2 j3 j4 j5 j6 j7 j8 j9 j10 j11 j12 j13
    go_wp2_with fail
    rw [← HVE.out]
    refine (HE.out _ t r HEE.out.2.2.2.2.2 HEE.out.2.2.1).mono ?_
    rintro e0 wf ⟨rfl, hbf⟩
    have HFF : Hid (Below w.heap.size w wf ∧ E14 wf w5.heap.size (.int .i64 c) (.string x.key) (.int .i64 x.st) (.slice s.ha x.hs.length s.hc) (.slice s.ba x.bl.length s.bc) (.int .i64 x.t) (.int .i64 x.g) (.int .i64 x.l) (.int .i64 x.s) (.int .i64 x.e) (.bool x.b1) (.bool x.b2) (.slice s.ta x.ts.length s.tc) (.int .i64 x.pins) ∧ EntHeld wf x s) := ⟨HEE.out.1.trans (hbf.mono HEE.out.1.size), HEE.out.2.2.2.1.keep hbf, HEE.out.2.2.2.2.1.below hbf⟩
    clear hbf HEE HE HVE j0 j1 j2 j3 j4 j5 j6 j7 j8 j9 j10 j11 j12 j13
    have i0 := HFF.out.2.1.c0
    have i1 := HFF.out.2.1.c1
    have i2 := HFF.out.2.1.c2
    have i3 := HFF.out.2.1.c3
    have i4 := HFF.out.2.1.c4
    have i5 := HFF.out.2.1.c5
    have i6 := HFF.out.2.1.c6
    have i7 := HFF.out.2.1.c7
    have i8 := HFF.out.2.1.c8
    have i9 := HFF.out.2.1.c9
    have i10 := HFF.out.2.1.c10
    have i11 := HFF.out.2.1.c11
    have i12 := HFF.out.2.1.c12
    have i13 := HFF.out.2.1.c13
    go_wp2_with fail
    refine (HH.out _ HFF.out.2.2).mono ?_
    rintro e0 wg ⟨rfl, hbg⟩
    have HZZ : Hid (Below w.heap.size w wg) := HFF.out.1.trans (hbg.mono HFF.out.1.size)
    clear hbg HFF HH i0 i1 i2 i3 i4 i5 i6 i7 i8 i9 i10 i11 i12 i13
    go_wp2_with fail
    go_ret
    exact ⟨rfl, HZZ.out⟩
end Go.Proofs.YtmidfgjnaebfiaaGreatDoor
