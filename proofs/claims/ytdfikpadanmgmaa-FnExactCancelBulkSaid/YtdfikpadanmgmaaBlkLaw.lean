/-
  The laws' copy of a bulkhead, and their comparing of two.
-/
import Derived.Test.YtdfikpadanmgmaaBlkPlain
namespace Go.Proofs.Ytdfikpadanmgmaa
open Go.ChangeShapes Go.WideShapes Go.ChangeAt Go.RowKit Go.Sort
/-- A new bulkhead's queue. -/
structure BlkNew (w : World) (G : Nat) (l : List Wt) : Prop where
  at0 : WtAt w G 0 l
  room : RoomWt w G (l.length * 2)
  lt : G < w.heap.size
theorem BlkNew.keep {w w' : World} {G : Nat} {l : List Wt} (h : BlkNew w G l) (hb : Below w.heap.size w w') : BlkNew w' G l := ⟨h.at0.keep hb, h.room.keep hb, Nat.lt_of_lt_of_le h.lt hb.size⟩
theorem BlkNew.in {w : World} {G : Nat} {l : List Wt} (h : BlkNew w G l) : WtIn w (some ⟨G, 0, none⟩) l := .inr ⟨G, 0, rfl, h.at0⟩
theorem WtAt.off {w : World} {G off : Nat} {l : List Wt} (h : WtAt w G off l) {B i : Nat} {x : Value} (hB : B ≠ G) : WtAt (w.setCell ⟨B, i, none⟩ x) G off l := by
  have ne : ∀ o : Nat, (⟨B, i, none⟩ : Addr) ≠ ⟨G, o, none⟩ := fun o q => hB (congrArg Addr.block q)
  intro j r hr
  obtain ⟨p0, p1⟩ := h j r hr
  exact ⟨by rw [World.cell?_setCell_other _ _ _ _ (ne _)]; exact p0, by rw [World.cell?_setCell_other _ _ _ _ (ne _)]; exact p1⟩
theorem BlkNew.off {w : World} {G : Nat} {l : List Wt} (h : BlkNew w G l) {B i : Nat} {x : Value} (hB : B ≠ G) : BlkNew (w.setCell ⟨B, i, none⟩ x) G l := ⟨h.at0.off hB, h.room.set _ _, by simpa using h.lt⟩
set_option maxHeartbeats 400000 in
theorem szBulk_any (w : World) (y : Int) (a : Option Addr) (cap : Nat) (l : List Wt) (hl : l.length ≤ maxLen) (left : Int) (h0 : 0 ≤ left) (h1 : left ≤ 1048576) :
    Calls Try.prog 18 #[.agg #[.int .i64 y, .slice a l.length cap], .int .i64 left] w fun e w' => e = .returned (.int .i64 (szWt left l.length)) ∧ Below w.heap.size w w' := by
  have HZ : Hid (∀ w, Calls Try.prog 66 #[.slice a l.length cap, .int .i64 left] w fun e w' => e = .returned (.int .i64 (szWt left l.length)) ∧ w' = w) := fun w => szWt_any w a cap l.length hl left h0 h1
  have HM : Hid (szWt left l.length < 0 → szWt left l.length = -1) := fun h => by
    unfold szWt at h ⊢
    split
    · rfl
    · rename_i g; rw [if_neg g] at h; omega
  clear hl
  generalize szWt left l.length = z at *
  generalize l.length = n at *
  by_cases c : z < 0
  · have HE := HM.out c
    subst HE
    go_enter Try.func18, Try.ntmps18
    go_wp2_with fail
    refine (HZ.out _).mono ?_
    rintro e w1 ⟨rfl, rfl⟩
    go_wp2_with fail
    go_ret
    exact ⟨rfl, (Below.refl _ _).alloc (Nat.le_refl _) _⟩
  · go_enter Try.func18, Try.ntmps18
    go_wp2_with fail
    refine (HZ.out _).mono ?_
    rintro e w1 ⟨rfl, rfl⟩
    go_wp2_with fail
    go_ret
    exact ⟨rfl, (Below.refl _ _).alloc (Nat.le_refl _) _⟩
set_option maxHeartbeats 2000000 in
theorem toBulk_any (w : World) (y : Int) (a : Option Addr) (cap : Nat) (l : List Wt) (hl : l.length ≤ 1048576) (hi : WtIn w a l) :
    Calls Try.prog 20 #[.agg #[.int .i64 y, .slice a l.length cap]] w fun e w' => (∃ G, e = .returned (.agg #[.int .i64 y, .slice (some ⟨G, 0, none⟩) l.length l.length]) ∧ BlkNew w' G l ∧ w.heap.size ≤ G) ∧ Below w.heap.size w w' := by
  obtain ⟨W, hW⟩ : ∃ W, W = (((w.alloc (.cells #[.int .i64 y, .slice a l.length cap] 30)).alloc (.cells #[.int .i64 0, .slice none 0 0] 35)).alloc (.cells #[.int .i64 y, .slice none 0 0] 35)) := ⟨_, rfl⟩
  have HW : Hid (W = (((w.alloc (.cells #[.int .i64 y, .slice a l.length cap] 30)).alloc (.cells #[.int .i64 0, .slice none 0 0] 35)).alloc (.cells #[.int .i64 y, .slice none 0 0] 35))) := hW
  have bW : Below w.heap.size w W := by rw [hW]; exact (((Below.refl _ _).alloc (Nat.le_refl _) _).alloc (by simp) _).alloc (by simp; omega) _
  have hsz : W.heap.size = w.heap.size + 3 := by rw [hW]; simp
  have f2 : D2 W (w.heap.size + 2) (.int .i64 y) (.slice none 0 0) := by
    rw [hW]
    have := D2.new ((w.alloc (.cells #[.int .i64 y, .slice a l.length cap] 30)).alloc (.cells #[.int .i64 0, .slice none 0 0] 35)) (.int .i64 y) (.slice none 0 0) 35
    simpa using this
  have f1 : D2 W (w.heap.size + 1) (.int .i64 0) (.slice none 0 0) := by
    rw [hW]
    have := (D2.new (w.alloc (.cells #[.int .i64 y, .slice a l.length cap] 30)) (.int .i64 0) (.slice none 0 0) 35).keep ((Below.refl _ _).alloc (Nat.le_refl _) (.cells #[.int .i64 y, .slice none 0 0] 35))
    simpa using this
  have K0 : Hid (Below w.heap.size w W ∧ D2 W (w.heap.size + 1) (.int .i64 0) (.slice none 0 0) ∧ D2 W (w.heap.size + 2) (.int .i64 y) (.slice none 0 0) ∧ W.heap.size = w.heap.size + 3) := ⟨bW, f1, f2, hsz⟩
  have C1 : Hid (Calls Try.prog 68 #[.slice a l.length cap] W fun e w' => e = .returned (.slice (some ⟨w.heap.size + 3, 0, none⟩) l.length l.length) ∧ WtAt w' (w.heap.size + 3) 0 l ∧ RoomWt w' (w.heap.size + 3) (l.length * 2) ∧ w.heap.size + 3 < w'.heap.size ∧ Below W.heap.size W w') := by
    have := toWtS_any W a cap l hl (hi.keep bW)
    rw [hsz] at this ⊢
    exact this
  clear hW bW f1 f2 hsz hi hl
  generalize hn : l.length = n at *
  have HN : Hid (l.length = n) := hn
  clear hn
  go_enter Try.func20, Try.ntmps20
  go_wp2_with fail
  rw [← HW.out]
  refine C1.out.mono ?_
  rintro r w1 ⟨rfl, m0, m1, mlt, hb1⟩
  have HB : Hid (BlkNew w1 (w.heap.size + 3) l ∧ Below w.heap.size w w1) := ⟨⟨m0, by rw [HN.out]; exact m1, mlt⟩, K0.out.1.trans (hb1.mono K0.out.1.size)⟩
  obtain ⟨g0, g1, gf, _⟩ := K0.out.2.2.1.keep hb1
  obtain ⟨k0, k1, kf, _⟩ := K0.out.2.1.keep hb1
  have x0 : (w1.setCell ⟨w.heap.size + 2, 1, none⟩ (.slice (some ⟨w.heap.size + 3, 0, none⟩) n n)).cell? ⟨w.heap.size + 2, 1, none⟩ = some (.slice (some ⟨w.heap.size + 3, 0, none⟩) n n) := World.cell?_setCell_same _ _ _ g1
  clear hb1 K0 C1 HW m0 m1 mlt
  go_wp2_with fail
  exact bodyPost_ret (v := .agg #[.int .i64 y, .slice (some ⟨w.heap.size + 3, 0, none⟩) n n]) (by simp [results, Try.results20, go_sem, k0, k1]) rfl ⟨⟨w.heap.size + 3, rfl, ((HB.out.1.off (by omega)).off (by omega)).off (by omega), by omega⟩, ((HB.out.2.setCell (by simp <;> omega) _).setCell (by simp) _).setCell (by simp) _⟩
set_option maxHeartbeats 2000000 in
theorem eqBulk_same (w : World) (y : Int) (a1 a2 : Option Addr) (c1 c2 : Nat) (l : List Wt) (hl : l.length ≤ 1048576) (h1 : WtIn w a1 l) (h2 : WtIn w a2 l) :
    Calls Try.prog 22 #[.agg #[.int .i64 y, .slice a1 l.length c1], .agg #[.int .i64 y, .slice a2 l.length c2]] w fun e w' => e = .returned (.bool true) ∧ Below w.heap.size w w' := by
  have HQ : Hid (∀ X, Below w.heap.size w X → Calls Try.prog 71 #[.slice a1 l.length c1, .slice a2 l.length c2] X fun e w' => e = .returned (.bool true) ∧ Below X.heap.size X w') := fun X hb => eqWtS_same X a1 a2 c1 c2 l hl (h1.keep hb) (h2.keep hb)
  clear h1 h2 hl
  generalize l.length = n at *
  go_enter Try.func22, Try.ntmps22
  go_wp2_with fail
  refine (HQ.out _ (((Below.refl _ _).alloc (Nat.le_refl _) _).alloc (by simp) _)).mono ?_
  rintro e w1 ⟨rfl, hb⟩
  have HB : Hid (Below w.heap.size w w1) := (((Below.refl _ _).alloc (Nat.le_refl _) _).alloc (by simp) _).trans (hb.mono (by simp; omega))
  clear hb HQ
  go_wp2_with fail
  go_ret
  exact ⟨rfl, HB.out⟩
end Go.Proofs.Ytdfikpadanmgmaa
