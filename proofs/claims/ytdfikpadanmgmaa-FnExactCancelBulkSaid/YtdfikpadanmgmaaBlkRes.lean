/-
  Results with a bulkhead: compared, marked, held.
-/
import Derived.Test.YtdfikpadanmgmaaBlkLaw
namespace Go.Proofs.Ytdfikpadanmgmaa
open Go.ChangeShapes Go.WideShapes Go.ChangeAt Go.RowKit Go.Sort
def SpotWt (w : World) (a : Option Addr) (g off : Nat) (l : List Wt) : Prop := l = [] ∨ (a = some ⟨g, off, none⟩ ∧ g < w.heap.size ∧ WtAt w g off l ∧ ∀ o, o < off + l.length * 2 → w.frozen? ⟨g, o, none⟩ = false)
theorem SpotWt.keep {w w' : World} {a : Option Addr} {g off : Nat} {l : List Wt} (h : SpotWt w a g off l) (hb : Below w.heap.size w w') : SpotWt w' a g off l := by
  rcases h with h | ⟨e, h1, h2, h3⟩
  · exact .inl h
  · exact .inr ⟨e, Nat.lt_of_lt_of_le h1 hb.size, h2.keep hb, fun o ho => by rw [hb.frozen (p := ⟨g, o, none⟩) h1]; exact h3 o ho⟩
theorem WtNew.at0 {w : World} {base : Nat} {a : Option Addr} {n c : Nat} {l : List Wt} (h : WtNew w base (.slice a n c) l) : ∃ g off, base ≤ g ∧ SpotWt w a g off l := by
  rcases h with ⟨e, _⟩ | ⟨g, off, cap, e, h1, h2, h3, h4⟩
  · exact ⟨base, 0, Nat.le_refl _, .inl e⟩
  · simp only [Value.slice.injEq] at e
    obtain ⟨rfl, rfl, rfl⟩ := e
    exact ⟨g, off, h1, .inr ⟨rfl, h2, h3, fun o _ => h4 o⟩⟩
theorem BlkNew.spot {w : World} {G : Nat} {l : List Wt} (h : BlkNew w G l) : SpotWt w (some ⟨G, 0, none⟩) G 0 l := .inr ⟨rfl, h.lt, h.at0, fun o ho => (h.room o (by omega)).2⟩
theorem markWt_spot (w : World) (a : Option Addr) (cap c0 : Nat) (hc0 : c0 ≤ 10000000000000) (l : List Wt) (hl : l.length ≤ 1048576) (g off : Nat) (h : SpotWt w a g off l) :
    Calls Try.prog 81 #[.slice a l.length cap, .int .i64 (c0 : Int)] w fun e w' => e = .returned (.int .i64 ((c0 + l.length * 2 : Nat) : Int)) ∧ WtIn w' a (mkdWt c0 l) ∧ w.grownBy w' (some g) := by
  refine (markWt_any w a cap c0 hc0 l hl g off ?_).mono ?_
  · rcases h with h | ⟨e, _, h2, h3⟩
    · exact .inl h
    · exact .inr ⟨e, h2, h3⟩
  · rintro e w' ⟨rfl, hI, h1⟩
    refine ⟨rfl, ?_, gwOne h1⟩
    rcases h with h | ⟨e, _⟩
    · subst h; exact .inl rfl
    · rcases hI with h | h
      · subst h; exact .inl rfl
      · exact .inr ⟨g, off, e, h⟩
theorem heldWt_below (w : World) (a : Option Addr) (cap c0 : Nat) (hc0 : c0 ≤ 10000000000000) (l : List Wt) (hl : l.length ≤ 1048576) (h : WtIn w a (mkdWt c0 l)) :
    Calls Try.prog 120 #[.slice a l.length cap, .int .i64 (c0 : Int)] w fun e w' => e = .returned (.int .i64 ((c0 + l.length * 2 : Nat) : Int)) ∧ Below w.heap.size w w' := (heldWt_any w a cap c0 hc0 l hl h).mono fun e w' ⟨h1, h2⟩ => ⟨h1, by rw [h2]; exact Below.refl _ _⟩
set_option maxHeartbeats 2000000 in
theorem markBulk_any (w : World) (y : Int) (a : Option Addr) (cap c0 : Nat) (hc0 : c0 ≤ 10000000000000) (l : List Wt) (hl : l.length ≤ 1048576) (g off : Nat) (h : SpotWt w a g off l) :
    Calls Try.prog 28 #[.agg #[.int .i64 y, .slice a l.length cap], .int .i64 (c0 : Int)] w fun e w' => e = .returned (.int .i64 ((c0 + l.length * 2 : Nat) : Int)) ∧ WtIn w' a (mkdWt c0 l) ∧ w.grownBy w' (some g) := by
  obtain ⟨W, hW⟩ : ∃ W, W = w.alloc (.cells #[.int .i64 y, .slice a l.length cap] 35) := ⟨_, rfl⟩
  have HW : Hid (W = w.alloc (.cells #[.int .i64 y, .slice a l.length cap] 35)) := hW
  have bW : Below w.heap.size w W := by rw [hW]; exact (Below.refl _ _).alloc (Nat.le_refl _) _
  have HB : Hid (Below w.heap.size w W) := bW
  have HC : Hid (Calls Try.prog 81 #[.slice a l.length cap, .int .i64 (c0 : Int)] W fun e w' => e = .returned (.int .i64 ((c0 + l.length * 2 : Nat) : Int)) ∧ WtIn w' a (mkdWt c0 l) ∧ W.grownBy w' (some g)) := markWt_spot W a cap c0 hc0 l hl g off (h.keep bW)
  clear hW bW h
  generalize l.length = n at *
  go_enter Try.func28, Try.ntmps28
  go_wp2_with fail
  rw [← HW.out]
  refine HC.out.mono ?_
  rintro e w1 ⟨rfl, hI, hg⟩
  have HR : Hid (WtIn w1 a (mkdWt c0 l) ∧ w.grownBy w1 (some g)) := ⟨hI, gwTrans (gwBelow _ HB.out) hg⟩
  clear hI hg HC HW HB
  go_wp2_with fail
  go_ret
  exact ⟨rfl, HR.out.1, HR.out.2⟩
set_option maxHeartbeats 2000000 in
theorem heldBulk_any (w : World) (y : Int) (a : Option Addr) (cap c0 : Nat) (hc0 : c0 ≤ 10000000000000) (l : List Wt) (hl : l.length ≤ 1048576) (h : WtIn w a (mkdWt c0 l)) :
    Calls Try.prog 82 #[.agg #[.int .i64 y, .slice a l.length cap], .int .i64 (c0 : Int)] w fun e w' => e = .returned (.int .i64 ((c0 + l.length * 2 : Nat) : Int)) ∧ Below w.heap.size w w' := by
  obtain ⟨W, hW⟩ : ∃ W, W = w.alloc (.cells #[.int .i64 y, .slice a l.length cap] 35) := ⟨_, rfl⟩
  have HW : Hid (W = w.alloc (.cells #[.int .i64 y, .slice a l.length cap] 35)) := hW
  have bW : Below w.heap.size w W := by rw [hW]; exact (Below.refl _ _).alloc (Nat.le_refl _) _
  have HB : Hid (Below w.heap.size w W) := bW
  have HC : Hid (Calls Try.prog 120 #[.slice a l.length cap, .int .i64 (c0 : Int)] W fun e w' => e = .returned (.int .i64 ((c0 + l.length * 2 : Nat) : Int)) ∧ Below W.heap.size W w') := heldWt_below W a cap c0 hc0 l hl (h.keep bW)
  clear hW bW h
  have hn : ¬ ((c0 + l.length * 2 : Nat) : Int) < 0 := by omega
  generalize hm : c0 + l.length * 2 = m at *
  generalize l.length = n at *
  clear hm
  go_enter Try.func82, Try.ntmps82
  go_wp2_with fail
  rw [← HW.out]
  refine HC.out.mono ?_
  rintro e w1 ⟨rfl, hb⟩
  have HR : Hid (Below w.heap.size w w1) := HB.out.trans (hb.mono HB.out.size)
  clear hb HC HW HB
  go_wp2_with fail
  go_ret
  exact ⟨rfl, HR.out⟩
end Go.Proofs.Ytdfikpadanmgmaa
