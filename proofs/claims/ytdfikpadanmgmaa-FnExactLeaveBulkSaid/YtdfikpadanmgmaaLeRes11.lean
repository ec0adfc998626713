/-
  LeaveResult: compared, marked, held.
-/
import Derived.Test.YtdfikpadanmgmaaBlkRes
namespace Go.Proofs.Ytdfikpadanmgmaa
open Go.ChangeShapes Go.WideShapes Go.ChangeAt Go.RowKit Go.Sort
set_option maxHeartbeats 2000000 in
theorem eqLeaveResult_same (w : World) (c y : Int) (u : Int) (a1 a2 : Option Addr) (c1 c2 : Nat) (l : List Wt) (hl : l.length ≤ 1048576) (h1 : WtIn w a1 l) (h2 : WtIn w a2 l) :
    Calls Try.prog 33 #[.agg #[.int .i64 c, .int .i64 y, .slice a1 l.length c1, .int .i64 u], .agg #[.int .i64 c, .int .i64 y, .slice a2 l.length c2, .int .i64 u]] w fun e w' => e = .returned (.bool true) ∧ Below w.heap.size w w' := by
  have HQ : Hid (∀ X, Below w.heap.size w X → Calls Try.prog 22 #[.agg #[.int .i64 y, .slice a1 l.length c1], .agg #[.int .i64 y, .slice a2 l.length c2]] X fun e w' => e = .returned (.bool true) ∧ Below X.heap.size X w') := fun X hb => eqBulk_same X y a1 a2 c1 c2 l hl (h1.keep hb) (h2.keep hb)
  obtain ⟨W, hW⟩ : ∃ W, W = (w.alloc (.cells #[.int .i64 c, .int .i64 y, .slice a1 l.length c1, .int .i64 u] 48)).alloc (.cells #[.int .i64 c, .int .i64 y, .slice a2 l.length c2, .int .i64 u] 48) := ⟨_, rfl⟩
  have HW : Hid (W = (w.alloc (.cells #[.int .i64 c, .int .i64 y, .slice a1 l.length c1, .int .i64 u] 48)).alloc (.cells #[.int .i64 c, .int .i64 y, .slice a2 l.length c2, .int .i64 u] 48)) := hW
  have K0 : Hid (Below w.heap.size w W ∧ D4 W w.heap.size (.int .i64 c) (.int .i64 y) (.slice a1 l.length c1) (.int .i64 u) ∧ D4 W (w.heap.size + 1) (.int .i64 c) (.int .i64 y) (.slice a2 l.length c2) (.int .i64 u)) := by
    have h2 := D4.new (w.alloc (.cells #[.int .i64 c, .int .i64 y, .slice a1 l.length c1, .int .i64 u] 48)) (.int .i64 c) (.int .i64 y) (.slice a2 l.length c2) (.int .i64 u) 48
    rw [show (w.alloc (.cells #[.int .i64 c, .int .i64 y, .slice a1 l.length c1, .int .i64 u] 48)).heap.size = w.heap.size + 1 by simp] at h2
    rw [hW]
    exact ⟨((Below.refl _ _).alloc (Nat.le_refl _) _).alloc (by simp) _, (D4.new w _ _ _ _ _).keep ((Below.refl _ _).alloc (Nat.le_refl _) _), h2⟩
  clear h1 h2 hl hW
  generalize l.length = n at *
  go_enter Try.func33, Try.ntmps33
  go_wp2_with fail
  rw [← HW.out]
  refine (HQ.out _ K0.out.1).mono ?_
  rintro e w1 ⟨rfl, hb⟩
  have HB : Hid (Below w.heap.size w w1) := K0.out.1.trans (hb.mono K0.out.1.size)
  have p3 := (K0.out.2.1.keep hb).c3
  have q3 := (K0.out.2.2.keep hb).c3
  clear hb HQ HW
  go_wp2_with fail
  go_ret
  exact ⟨rfl, HB.out⟩
set_option maxHeartbeats 2000000 in
theorem markLeaveResult_any (w : World) (c y : Int) (u : Int) (a : Option Addr) (cap c0 : Nat) (hc0 : c0 ≤ 10000000000000) (l : List Wt) (hl : l.length ≤ 1048576) (g off : Nat) (h : SpotWt w a g off l) :
    Calls Try.prog 34 #[.agg #[.int .i64 c, .int .i64 y, .slice a l.length cap, .int .i64 u], .int .i64 (c0 : Int)] w fun e w' => e = .returned (.int .i64 ((c0 + l.length * 2 : Nat) : Int)) ∧ WtIn w' a (mkdWt c0 l) ∧ w.grownBy w' (some g) := by
  obtain ⟨W, hW⟩ : ∃ W, W = w.alloc (.cells #[.int .i64 c, .int .i64 y, .slice a l.length cap, .int .i64 u] 48) := ⟨_, rfl⟩
  have HW : Hid (W = w.alloc (.cells #[.int .i64 c, .int .i64 y, .slice a l.length cap, .int .i64 u] 48)) := hW
  have bW : Below w.heap.size w W := by rw [hW]; exact (Below.refl _ _).alloc (Nat.le_refl _) _
  have HB : Hid (Below w.heap.size w W) := bW
  have HC : Hid (Calls Try.prog 28 #[.agg #[.int .i64 y, .slice a l.length cap], .int .i64 (c0 : Int)] W fun e w' => e = .returned (.int .i64 ((c0 + l.length * 2 : Nat) : Int)) ∧ WtIn w' a (mkdWt c0 l) ∧ W.grownBy w' (some g)) := markBulk_any W y a cap c0 hc0 l hl g off (h.keep bW)
  clear hW bW h
  generalize l.length = n at *
  go_enter Try.func34, Try.ntmps34
  go_wp2_with fail
  rw [← HW.out]
  refine HC.out.mono ?_
  rintro e w1 ⟨rfl, hI, hg⟩
  have HR : Hid (WtIn w1 a (mkdWt c0 l) ∧ w.grownBy w1 (some g)) := ⟨hI, gwTrans (gwBelow _ HB.out) hg⟩
  clear hI hg HC HW HB
  go_wp2_with fail
  go_ret
  exact ⟨rfl, HR.out.1, HR.out.2⟩
set_option maxHeartbeats 2000000 in
theorem heldLeaveResult_any (w : World) (c y : Int) (u : Int) (a : Option Addr) (cap c0 : Nat) (hc0 : c0 ≤ 10000000000000) (l : List Wt) (hl : l.length ≤ 1048576) (h : WtIn w a (mkdWt c0 l)) :
    Calls Try.prog 35 #[.agg #[.int .i64 c, .int .i64 y, .slice a l.length cap, .int .i64 u], .int .i64 (c0 : Int)] w fun e w' => e = .returned (.int .i64 ((c0 + l.length * 2 : Nat) : Int)) ∧ Below w.heap.size w w' := by
  obtain ⟨W, hW⟩ : ∃ W, W = w.alloc (.cells #[.int .i64 c, .int .i64 y, .slice a l.length cap, .int .i64 u] 48) := ⟨_, rfl⟩
  have HW : Hid (W = w.alloc (.cells #[.int .i64 c, .int .i64 y, .slice a l.length cap, .int .i64 u] 48)) := hW
  have bW : Below w.heap.size w W := by rw [hW]; exact (Below.refl _ _).alloc (Nat.le_refl _) _
  have HB : Hid (Below w.heap.size w W) := bW
  have HC : Hid (Calls Try.prog 82 #[.agg #[.int .i64 y, .slice a l.length cap], .int .i64 (c0 : Int)] W fun e w' => e = .returned (.int .i64 ((c0 + l.length * 2 : Nat) : Int)) ∧ Below W.heap.size W w') := heldBulk_any W y a cap c0 hc0 l hl (h.keep bW)
  clear hW bW h
  have hn : ¬ ((c0 + l.length * 2 : Nat) : Int) < 0 := by omega
  generalize hm : c0 + l.length * 2 = m at *
  generalize l.length = n at *
  clear hm
  go_enter Try.func35, Try.ntmps35
  go_wp2_with fail
  rw [← HW.out]
  refine HC.out.mono ?_
  rintro e w1 ⟨rfl, hb⟩
  have HR : Hid (Below w.heap.size w w1) := HB.out.trans (hb.mono HB.out.size)
  clear hb HC HW HB
  go_wp2_with fail
  go_ret
  exact ⟨rfl, HR.out⟩
end Go.Proofs.Ytdfikpadanmgmaa
