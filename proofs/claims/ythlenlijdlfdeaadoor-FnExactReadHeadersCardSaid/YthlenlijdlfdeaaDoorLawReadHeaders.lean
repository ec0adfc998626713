/-
  The law of ReadHeaders.
-/
import Derived.Test.YthlenlijdlfdeaaDoorHResLaws
import Derived.Test.YthlenlijdlfdeaaDoorHReadFns
namespace Go.Proofs.YthlenlijdlfdeaaDoor
open Go.ChangeShapes Go.WideShapes Go.ChangeAt Go.RowKit Go.Sort
set_option maxRecDepth 100000 in
set_option maxHeartbeats 4000000 in
theorem lawReadHeaders (s : ByteArray) (w : World) (hset : SetIs w) (hmx : MaxIs w) :
    Calls Tryd.prog 6 #[.string s] w fun e w' => e = .returned (.bool true) ∧ Below w.heap.size w w' := by
  by_cases hbig : (1048576 : Int) < s.size
  · go_enter Tryd.func6, Tryd.ntmps6
    go_wp2
    go_ret
    exact ⟨rfl, Below.refl _ _⟩
  have HS : Hid (∀ W, Calls Tryd.prog 21 #[.string s] W fun e w' => (∃ a n cap, e = .returned (.agg #[.int .i64 (readHC s), .slice a n cap]) ∧ HGot (readHL s) W.heap.size a n cap w') ∧ Below W.heap.size W w') := fun W => (specRead_any s W).mono fun _ _ ⟨h1, h2⟩ => ⟨h1.got, h2⟩
  have HI : Hid (∀ W, Below w.heap.size w W → Calls Tryd.prog 16 #[.string s] W fun e w' => (∃ a n cap, e = .returned (.agg #[.int .i64 (readHC s), .slice a n cap]) ∧ HGot (readHL s) W.heap.size a n cap w') ∧ Below W.heap.size W w') := fun W hb => (implRead_any s W (hset.below hb) (hmx.below hb)).mono fun _ _ ⟨h1, h2⟩ => ⟨h1.got, h2⟩
  have hL := readHL_len s
  clear hset hmx
  generalize readHC s = c at *
  go_enter Tryd.func6, Tryd.ntmps6
  go_wp2_with fail
  refine (HS.out _).mono ?_
  rintro e w1 ⟨⟨a1, n1, k1, rfl, g1⟩, hb1⟩
  have B1 : Hid (Below w.heap.size w w1) := hb1
  have G1 : Hid (HGot (readHL s) w.heap.size a1 n1 k1 w1) := g1
  clear hb1 g1 HS
  go_wp2_with fail
  refine (HI.out _ (B1.out.alloc B1.out.size _)).mono ?_
  rintro e w2 ⟨⟨a2, n2, k2, rfl, g2⟩, hb2⟩
  have R1 : Hid (HHRoom w2 w1.heap.size c (.slice a1 n1 k1)) := (hroom_new w1 c a1 n1 k1 31).keep hb2
  have V1 : Hid (HLV w2 (.slice a1 n1 k1) (readHL s)) := (G1.out.lv.below ((Below.refl _ _).alloc (Nat.le_refl _) _)).below hb2
  have L1 : Hid (∀ b, (Value.slice a1 n1 k1).ownBlock = some b → b < w1.heap.size) := G1.out.lv.block_lt
  have B2 : Hid (Below w.heap.size w w2) := (B1.out.alloc B1.out.size _).trans (hb2.mono (by have := B1.out.size; simp; omega))
  have G2 : Hid (n2 = (readHL s).length ∧ HLV w2 (.slice a2 n2 k2) (readHL s) ∧ ∀ b, (Value.slice a2 n2 k2).ownBlock = some b → w1.heap.size + 1 ≤ b) := ⟨g2.len, g2.lv, fun b hb => by have := g2.ge b hb; simpa using this⟩
  have hs1 : Hid (w.heap.size ≤ w1.heap.size) := B1.out.size
  clear hb2 g2 G1 B1
  generalize w1.heap.size = X1 at *
  clear w1
  have p0 := R1.out.c0
  have p1 := R1.out.c1
  have hx : X1 < w2.heap.size := R1.out.lt
  have al2 : Below w2.heap.size w2 (w2.alloc (.cells #[.int .i64 c, .slice a2 n2 k2] 31)) := (Below.refl _ _).alloc (Nat.le_refl _) _
  have HQ := eqHeadersResult_lv _ c a2 a1 n2 n1 k2 k1 (readHL s) (by omega) (G2.out.2.1.below al2) (V1.out.below al2)
  have R2 : Hid (HHRoom (w2.alloc (.cells #[.int .i64 c, .slice a2 n2 k2] 31)) w2.heap.size c (.slice a2 n2 k2)) := hroom_new w2 c a2 n2 k2 _
  have A2 : Hid (Below w2.heap.size w2 (w2.alloc (.cells #[.int .i64 c, .slice a2 n2 k2] 31))) := al2
  clear al2
  go_wp2_with fail
  refine HQ.mono ?_
  rintro e w3 ⟨rfl, hb3⟩
  have A3 : Hid (Below w2.heap.size w2 w3) := A2.out.trans (hb3.mono A2.out.size)
  have R23 : Hid (HHRoom w3 w2.heap.size c (.slice a2 n2 k2)) := R2.out.keep hb3
  have R13 : Hid (HHRoom w3 X1 c (.slice a1 n1 k1)) := R1.out.keep A3.out
  have V13 : Hid (HLV w3 (.slice a1 n1 k1) (readHL s)) := V1.out.below A3.out
  have B3 : Hid (Below w.heap.size w w3) := B2.out.trans (A3.out.mono B2.out.size)
  have G3 : Hid (n2 = (readHL s).length ∧ HLV w3 (.slice a2 n2 k2) (readHL s) ∧ (∀ b, (Value.slice a2 n2 k2).ownBlock = some b → X1 + 1 ≤ b) ∧ ∀ b, (Value.slice a2 n2 k2).ownBlock = some b → b < w2.heap.size) := ⟨G2.out.1, G2.out.2.1.below A3.out, G2.out.2.2, G2.out.2.1.block_lt⟩
  clear hb3 A2 A3 R2 R1 V1 B2 G2 HQ p0 p1
  generalize w2.heap.size = X2 at *
  clear w2
  have p0 := R23.out.c0
  have p1 := R23.out.c1
  have HMK := markHeadersResult_lv w3 c a2 n2 k2 (readHL s) G3.out.1 (by omega) G3.out.2.1 w.heap.size (fun b hb => by have := G3.out.2.2.1 b hb; have := hs1.out; omega) B3.out.size
  go_wp2_with fail
  refine HMK.mono ?_
  rintro e w4 ⟨rfl, hk4⟩
  obtain ⟨hlv4, hav4, hb4⟩ := hk4
  have R24 : Hid (HHRoom w4 X2 c (.slice a2 n2 k2)) := R23.out.av hav4 (fun e => by have := G3.out.2.2.2 _ e; omega)
  have R14 : Hid (HHRoom w4 X1 c (.slice a1 n1 k1)) := R13.out.av hav4 (fun e => by have := G3.out.2.2.1 _ e; omega)
  have V14 : Hid (HLV w4 (.slice a1 n1 k1) (readHL s)) := V13.out.av hav4 (fun b hb e => by have := G3.out.2.2.1 _ e; have := L1.out _ hb; omega)
  have V24 : Hid (HLV w4 (.slice a2 n2 k2) (mkHL 1 n2)) := hlv4
  have B4 : Hid (Below w.heap.size w w4) := B3.out.trans hb4
  have hn2 : n2 ≤ 1000 := by rw [G3.out.1]; omega
  clear hlv4 hav4 hb4 HMK R23 R13 V13 B3 G3 L1 p0 p1
  clear w3
  have HHD : Hid (∀ W, HLV W (.slice a2 n2 k2) (mkHL 1 n2) → Calls Tryd.prog 32 #[.agg #[.int .i64 c, .slice a2 n2 k2], .int .i64 1] W fun e w' => e = .returned (.int .i64 ((1 + 2 * n2 : Nat) : Int)) ∧ Below W.heap.size W w') := fun W h => heldHeadersResult_lv W c a2 n2 k2 hn2 h
  have hq0 : ¬ ((1 + 2 * n2 : Nat) : Int) < 0 := by omega
  generalize ((1 + 2 * n2 : Nat) : Int) = q at *
  have p0 := R24.out.c0
  have p1 := R24.out.c1
  go_wp2_with fail
  refine (HHD.out _ V24.out).mono ?_
  rintro e w5 ⟨rfl, hb5⟩
  have R25 : Hid (HHRoom w5 X2 c (.slice a2 n2 k2)) := R24.out.keep hb5
  have R15 : Hid (HHRoom w5 X1 c (.slice a1 n1 k1)) := R14.out.keep hb5
  have V15 : Hid (HLV w5 (.slice a1 n1 k1) (readHL s)) := V14.out.below hb5
  have V25 : Hid (HLV w5 (.slice a2 n2 k2) (mkHL 1 n2)) := V24.out.below hb5
  have B5 : Hid (Below w.heap.size w w5) := B4.out.trans (hb5.mono B4.out.size)
  clear hb5 R24 R14 V14 V24 B4 p0 p1
  clear w4
  go_wp2_with fail
  refine (HI.out _ B5.out).mono ?_
  rintro e w6 ⟨⟨a3, n3, k3, rfl, g3⟩, hb6⟩
  have R26 : Hid (HHRoom w6 X2 c (.slice a2 n2 k2)) := R25.out.keep hb6
  have R16 : Hid (HHRoom w6 X1 c (.slice a1 n1 k1)) := R15.out.keep hb6
  have V16 : Hid (HLV w6 (.slice a1 n1 k1) (readHL s)) := V15.out.below hb6
  have V26 : Hid (HLV w6 (.slice a2 n2 k2) (mkHL 1 n2)) := V25.out.below hb6
  have B6 : Hid (Below w.heap.size w w6) := B5.out.trans (hb6.mono B5.out.size)
  have V36 : Hid (HLV w6 (.slice a3 n3 k3) (readHL s)) := g3.lv
  clear hb6 g3 R25 R15 V15 V25 B5 HI
  clear w5
  have hx1 : X1 < w6.heap.size := R16.out.lt
  have hx2 : X2 < w6.heap.size := R26.out.lt
  have al6 : Below w6.heap.size w6 (w6.alloc (.cells #[.int .i64 c, .slice a3 n3 k3] 31)) := (Below.refl _ _).alloc (Nat.le_refl _) _
  have HQ := eqHeadersResult_lv _ c a3 a1 n3 n1 k3 k1 (readHL s) (by omega) (V36.out.below al6) (V16.out.below al6)
  have A6 : Hid (Below w6.heap.size w6 (w6.alloc (.cells #[.int .i64 c, .slice a3 n3 k3] 31))) := al6
  clear al6
  have p0 := R16.out.c0
  have p1 := R16.out.c1
  go_wp2_with fail
  refine HQ.mono ?_
  rintro e w7 ⟨rfl, hb7⟩
  have A7 : Hid (Below w6.heap.size w6 w7) := A6.out.trans (hb7.mono A6.out.size)
  have R27 : Hid (HHRoom w7 X2 c (.slice a2 n2 k2)) := R26.out.keep A7.out
  have V27 : Hid (HLV w7 (.slice a2 n2 k2) (mkHL 1 n2)) := V26.out.below A7.out
  have B7 : Hid (Below w.heap.size w w7) := B6.out.trans (A7.out.mono B6.out.size)
  clear hb7 A6 A7 HQ R26 R16 V16 V26 V36 B6 p0 p1 hx1 hx2
  generalize w6.heap.size = X6 at *
  clear w6
  have p0 := R27.out.c0
  have p1 := R27.out.c1
  go_wp2_with fail
  refine (HHD.out _ V27.out).mono ?_
  rintro e w8 ⟨rfl, hb8⟩
  have B8 : Hid (Below w.heap.size w w8) := B7.out.trans (hb8.mono B7.out.size)
  clear hb8 B7 R27 V27 p0 p1
  go_wp2_with fail
  go_ret
  exact ⟨rfl, B8.out⟩
end Go.Proofs.YthlenlijdlfdeaaDoor
