/-
  Flights, handed over by the laws: copies.
-/
import Derived.Test.YtgejegmilkmiiaaFlSz
import Derived.Test.YtgejegmilkmiiaaHeadsFree
namespace Go.Proofs.Ytgejegmilkmiiaa
open Go.ChangeShapes Go.WideShapes Go.ChangeAt Go.RowKit Go.Sort
theorem QMine.off1 {W : World} {B b i : Nat} {l : List Hdr} (h : QMine W B l) (x : Value) (hne : b ≠ B) : QMine (W.setCell ⟨b, i, none⟩ x) B l := by
  have ne : ∀ o : Nat, (⟨b, i, none⟩ : Addr) ≠ ⟨B, o, none⟩ := fun o q => hne (congrArg Addr.block q)
  exact ⟨fun k r hr => by rw [World.cell?_setCell_other _ _ _ _ (ne _), World.cell?_setCell_other _ _ _ _ (ne _)]; exact h.at0 k r hr, fun o => by rw [World.frozen?_setCell]; exact h.free o, by simpa using h.lt⟩
/-- Waiters that lie in a block of their own. -/
structure WrMine (W : World) (B : Nat) (l : List Wr) : Prop where
  at0 : WrAt W B 0 l
  room : RoomWr W B (l.length * 4)
  lt : B < W.heap.size
theorem WrMine.keep {W W' : World} {B : Nat} {l : List Wr} (h : WrMine W B l) (hb : Below W.heap.size W W') : WrMine W' B l := ⟨h.at0.keep hb, h.room.keep hb, Nat.lt_of_lt_of_le h.lt hb.size⟩
theorem WrMine.in {W : World} {B : Nat} {l : List Wr} (h : WrMine W B l) : WrIn W (some ⟨B, 0, none⟩) l := .inr ⟨B, 0, rfl, h.at0⟩
theorem WrMine.off1 {W : World} {B b i : Nat} {l : List Wr} (h : WrMine W B l) (x : Value) (hne : b ≠ B) : WrMine (W.setCell ⟨b, i, none⟩ x) B l := by
  have ne : ∀ o : Nat, (⟨b, i, none⟩ : Addr) ≠ ⟨B, o, none⟩ := fun o q => hne (congrArg Addr.block q)
  exact ⟨fun k r hr => by rw [World.cell?_setCell_other _ _ _ _ (ne _), World.cell?_setCell_other _ _ _ _ (ne _), World.cell?_setCell_other _ _ _ _ (ne _), World.cell?_setCell_other _ _ _ _ (ne _)]; exact h.at0 k r hr, h.room.set _ _, by simpa using h.lt⟩
set_option maxHeartbeats 8000000 in
theorem toFlight_any (w : World) (id : Int) (key : ByteArray) (bk ot : Bool) (du : Int) (dm : Bool) (m h p : ByteArray) (ha : Option Addr) (hc : Nat) (wa : Option Addr) (wc : Nat) (hs : List Hdr) (ws : List Wr) (hhl : hs.length ≤ 1048576) (hwl : ws.length ≤ 1048576) (hH : HdsIn w ha hs) (hW2 : WrIn w wa ws) :
    Calls Try.prog 12 #[.agg #[.int .i64 id, .string key, .bool bk, .bool ot, .int .i64 du, .bool dm, .string m, .string h, .string p, .slice ha hs.length hc, .slice wa ws.length wc]] w fun e w' => (∃ B2, e = .returned (.agg #[.int .i64 id, .string key, .bool bk, .bool ot, .int .i64 du, .bool dm, .string m, .string h, .string p, .slice (some ⟨w.heap.size + 6, 0, none⟩) hs.length hs.length, .slice (some ⟨B2, 0, none⟩) ws.length ws.length]) ∧ QMine w' (w.heap.size + 6) hs ∧ WrMine w' B2 ws ∧ w.heap.size + 6 < B2) ∧ Below w.heap.size w w' := by
  obtain ⟨W, hW⟩ : ∃ W, W = ((w.alloc (.cells #[.int .i64 id, .string key, .bool bk, .bool ot, .int .i64 du, .bool dm, .string m, .string h, .string p, .slice ha hs.length hc, .slice wa ws.length wc] 34)).alloc (.cells #[.int .i64 0, .string ⟨#[]⟩, .bool false, .bool false, .int .i64 0, .bool false, .string ⟨#[]⟩, .string ⟨#[]⟩, .string ⟨#[]⟩, .slice none 0 0, .slice none 0 0] 40)).alloc (.cells #[.int .i64 id, .string key, .bool bk, .bool ot, .int .i64 du, .bool dm, .string ⟨#[]⟩, .string ⟨#[]⟩, .string ⟨#[]⟩, .slice none 0 0, .slice none 0 0] 40) := ⟨_, rfl⟩
  have bW : Below w.heap.size w W := by rw [hW]; exact (((Below.refl _ _).alloc (Nat.le_refl _) _).alloc (by simp) _).alloc (by simp; omega) _
  have hsz : W.heap.size = w.heap.size + 3 := by rw [hW]; simp
  have HW : Hid (W = ((w.alloc (.cells #[.int .i64 id, .string key, .bool bk, .bool ot, .int .i64 du, .bool dm, .string m, .string h, .string p, .slice ha hs.length hc, .slice wa ws.length wc] 34)).alloc (.cells #[.int .i64 0, .string ⟨#[]⟩, .bool false, .bool false, .int .i64 0, .bool false, .string ⟨#[]⟩, .string ⟨#[]⟩, .string ⟨#[]⟩, .slice none 0 0, .slice none 0 0] 40)).alloc (.cells #[.int .i64 id, .string key, .bool bk, .bool ot, .int .i64 du, .bool dm, .string ⟨#[]⟩, .string ⟨#[]⟩, .string ⟨#[]⟩, .slice none 0 0, .slice none 0 0] 40)) := hW
  have f2 : E11 W (w.heap.size + 2) (.int .i64 id) (.string key) (.bool bk) (.bool ot) (.int .i64 du) (.bool dm) (.string ⟨#[]⟩) (.string ⟨#[]⟩) (.string ⟨#[]⟩) (.slice none 0 0) (.slice none 0 0) := by
    rw [hW]
    have := E11.new ((w.alloc (.cells #[.int .i64 id, .string key, .bool bk, .bool ot, .int .i64 du, .bool dm, .string m, .string h, .string p, .slice ha hs.length hc, .slice wa ws.length wc] 34)).alloc (.cells #[.int .i64 0, .string ⟨#[]⟩, .bool false, .bool false, .int .i64 0, .bool false, .string ⟨#[]⟩, .string ⟨#[]⟩, .string ⟨#[]⟩, .slice none 0 0, .slice none 0 0] 40)) (.int .i64 id) (.string key) (.bool bk) (.bool ot) (.int .i64 du) (.bool dm) (.string ⟨#[]⟩) (.string ⟨#[]⟩) (.string ⟨#[]⟩) (.slice none 0 0) (.slice none 0 0) 40
    simpa using this
  have f1 : E11 W (w.heap.size + 1) (.int .i64 0) (.string ⟨#[]⟩) (.bool false) (.bool false) (.int .i64 0) (.bool false) (.string ⟨#[]⟩) (.string ⟨#[]⟩) (.string ⟨#[]⟩) (.slice none 0 0) (.slice none 0 0) := by
    rw [hW]
    have := (E11.new (w.alloc (.cells #[.int .i64 id, .string key, .bool bk, .bool ot, .int .i64 du, .bool dm, .string m, .string h, .string p, .slice ha hs.length hc, .slice wa ws.length wc] 34)) (.int .i64 0) (.string ⟨#[]⟩) (.bool false) (.bool false) (.int .i64 0) (.bool false) (.string ⟨#[]⟩) (.string ⟨#[]⟩) (.string ⟨#[]⟩) (.slice none 0 0) (.slice none 0 0) 40).keep ((Below.refl _ _).alloc (Nat.le_refl _) (.cells #[.int .i64 id, .string key, .bool bk, .bool ot, .int .i64 du, .bool dm, .string ⟨#[]⟩, .string ⟨#[]⟩, .string ⟨#[]⟩, .slice none 0 0, .slice none 0 0] 40))
    simpa using this
  have f0 : E11 W (w.heap.size) (.int .i64 id) (.string key) (.bool bk) (.bool ot) (.int .i64 du) (.bool dm) (.string m) (.string h) (.string p) (.slice ha hs.length hc) (.slice wa ws.length wc) := by
    rw [hW]
    exact ((E11.new w (.int .i64 id) (.string key) (.bool bk) (.bool ot) (.int .i64 du) (.bool dm) (.string m) (.string h) (.string p) (.slice ha hs.length hc) (.slice wa ws.length wc) 34).keep ((Below.refl _ _).alloc (Nat.le_refl _) _)).keep ((Below.refl _ _).alloc (Nat.le_refl _) _)
  have K0 : Hid (Below w.heap.size w W ∧ E11 W (w.heap.size) (.int .i64 id) (.string key) (.bool bk) (.bool ot) (.int .i64 du) (.bool dm) (.string m) (.string h) (.string p) (.slice ha hs.length hc) (.slice wa ws.length wc) ∧ E11 W (w.heap.size + 1) (.int .i64 0) (.string ⟨#[]⟩) (.bool false) (.bool false) (.int .i64 0) (.bool false) (.string ⟨#[]⟩) (.string ⟨#[]⟩) (.string ⟨#[]⟩) (.slice none 0 0) (.slice none 0 0) ∧ E11 W (w.heap.size + 2) (.int .i64 id) (.string key) (.bool bk) (.bool ot) (.int .i64 du) (.bool dm) (.string ⟨#[]⟩) (.string ⟨#[]⟩) (.string ⟨#[]⟩) (.slice none 0 0) (.slice none 0 0) ∧ W.heap.size = w.heap.size + 3) := ⟨bW, f0, f1, f2, hsz⟩
  have C := toRequest_any W m h p ha hc hs hhl (hH.keep bW)
  rw [hsz] at C
  have HCW : Hid (∀ X, Below w.heap.size w X → Calls Try.prog 20 #[.slice wa ws.length wc] X fun e w' => e = .returned (.slice (some ⟨X.heap.size, 0, none⟩) ws.length ws.length) ∧ WrMine w' X.heap.size ws ∧ Below X.heap.size X w') := fun X hX => (toWrS_any X wa wc ws hwl (hW2.keep hX)).mono fun e w' ⟨a, b, c, d, e⟩ => ⟨a, ⟨b, c, d⟩, e⟩
  clear hW bW hsz f0 f1 f2 hH hW2 hhl hwl
  generalize hn1 : hs.length = hl at *
  generalize hn2 : ws.length = wn at *
  clear hn1 hn2
  go_enter Try.func12, Try.ntmps12
  go_wp2_with fail
  rw [← HW.out]
  refine C.mono ?_
  rintro e0 w1 ⟨rfl, hq, hb1⟩
  have hb1' : Below W.heap.size W w1 := by rw [K0.out.2.2.2.2]; exact hb1
  have K1 : Hid (Below w.heap.size w w1 ∧ E11 w1 (w.heap.size) (.int .i64 id) (.string key) (.bool bk) (.bool ot) (.int .i64 du) (.bool dm) (.string m) (.string h) (.string p) (.slice ha hl hc) (.slice wa wn wc) ∧ E11 w1 (w.heap.size + 1) (.int .i64 0) (.string ⟨#[]⟩) (.bool false) (.bool false) (.int .i64 0) (.bool false) (.string ⟨#[]⟩) (.string ⟨#[]⟩) (.string ⟨#[]⟩) (.slice none 0 0) (.slice none 0 0) ∧ E11 w1 (w.heap.size + 2) (.int .i64 id) (.string key) (.bool bk) (.bool ot) (.int .i64 du) (.bool dm) (.string ⟨#[]⟩) (.string ⟨#[]⟩) (.string ⟨#[]⟩) (.slice none 0 0) (.slice none 0 0) ∧ QMine w1 (w.heap.size + 6) hs) := ⟨K0.out.1.trans (hb1'.mono K0.out.1.size), K0.out.2.1.keep hb1', K0.out.2.2.1.keep hb1', K0.out.2.2.2.1.keep hb1', hq⟩
  clear C hq hb1 hb1' K0 HW
  obtain ⟨V1, hV1⟩ : ∃ V, V = ((((w1.setCell ⟨w.heap.size + 2, 6, none⟩ (.string m)).setCell ⟨w.heap.size + 2, 7, none⟩ (.string h)).setCell ⟨w.heap.size + 2, 8, none⟩ (.string p)).setCell ⟨w.heap.size + 2, 9, none⟩ (.slice (some ⟨w.heap.size + 6, 0, none⟩) hl hl)) := ⟨_, rfl⟩
  have HV1 : Hid (V1 = ((((w1.setCell ⟨w.heap.size + 2, 6, none⟩ (.string m)).setCell ⟨w.heap.size + 2, 7, none⟩ (.string h)).setCell ⟨w.heap.size + 2, 8, none⟩ (.string p)).setCell ⟨w.heap.size + 2, 9, none⟩ (.slice (some ⟨w.heap.size + 6, 0, none⟩) hl hl))) := hV1
  clear hV1
  have K1b : Hid (Below w.heap.size w V1 ∧ E11 V1 (w.heap.size) (.int .i64 id) (.string key) (.bool bk) (.bool ot) (.int .i64 du) (.bool dm) (.string m) (.string h) (.string p) (.slice ha hl hc) (.slice wa wn wc) ∧ E11 V1 (w.heap.size + 1) (.int .i64 0) (.string ⟨#[]⟩) (.bool false) (.bool false) (.int .i64 0) (.bool false) (.string ⟨#[]⟩) (.string ⟨#[]⟩) (.string ⟨#[]⟩) (.slice none 0 0) (.slice none 0 0) ∧ E11 V1 (w.heap.size + 2) (.int .i64 id) (.string key) (.bool bk) (.bool ot) (.int .i64 du) (.bool dm) (.string m) (.string h) (.string p) (.slice (some ⟨w.heap.size + 6, 0, none⟩) hl hl) (.slice none 0 0) ∧ QMine V1 (w.heap.size + 6) hs) := by
    rw [HV1.out]
    obtain ⟨p1, p2, p3, p4, p5⟩ := K1.out
    exact ⟨(((p1.setCell (by simp) _).setCell (by simp) _).setCell (by simp) _).setCell (by simp) _, (((p2.off (by omega)).off (by omega)).off (by omega)).off (by omega), (((p3.off (by omega)).off (by omega)).off (by omega)).off (by omega), (((p4.set6 _).set7 _).set8 _).set9 _, (((p5.off1 _ (by omega)).off1 _ (by omega)).off1 _ (by omega)).off1 _ (by omega)⟩
  have a6 := K1.out.2.2.2.1.c6
  have af6 := K1.out.2.2.2.1.fr 6
  have a7 := K1.out.2.2.2.1.c7
  have af7 := K1.out.2.2.2.1.fr 7
  have a8 := K1.out.2.2.2.1.c8
  have af8 := K1.out.2.2.2.1.fr 8
  have a9 := K1.out.2.2.2.1.c9
  have af9 := K1.out.2.2.2.1.fr 9
  have g10 := K1.out.2.1.c10
  clear K1
  go_wp2_with fail
  rw [← HV1.out]
  clear a6 af6 a7 af7 a8 af8 a9 af9 g10 HV1
  refine (HCW.out V1 K1b.out.1).mono ?_
  rintro e0 w2 ⟨rfl, hbm, hb2⟩
  obtain ⟨B2, hB2⟩ : ∃ B, V1.heap.size = B := ⟨_, rfl⟩
  have K2 : Hid (Below w.heap.size w w2 ∧ E11 w2 (w.heap.size + 1) (.int .i64 0) (.string ⟨#[]⟩) (.bool false) (.bool false) (.int .i64 0) (.bool false) (.string ⟨#[]⟩) (.string ⟨#[]⟩) (.string ⟨#[]⟩) (.slice none 0 0) (.slice none 0 0) ∧ E11 w2 (w.heap.size + 2) (.int .i64 id) (.string key) (.bool bk) (.bool ot) (.int .i64 du) (.bool dm) (.string m) (.string h) (.string p) (.slice (some ⟨w.heap.size + 6, 0, none⟩) hl hl) (.slice none 0 0) ∧ QMine w2 (w.heap.size + 6) hs ∧ WrMine w2 B2 ws ∧ w.heap.size + 6 < B2) := by
    obtain ⟨p1, p2, p3, p4, p5⟩ := K1b.out
    exact ⟨p1.trans (hb2.mono p1.size), p3.keep hb2, p4.keep hb2, p5.keep hb2, hB2 ▸ hbm, hB2 ▸ p5.lt⟩
  rw [hB2]
  clear K1b hbm hb2 hB2 HCW
  have a0 := K2.out.2.2.1.c0
  have z0 := K2.out.2.1.c0
  have zf0 := K2.out.2.1.fr 0
  have a1 := K2.out.2.2.1.c1
  have z1 := K2.out.2.1.c1
  have zf1 := K2.out.2.1.fr 1
  have a2 := K2.out.2.2.1.c2
  have z2 := K2.out.2.1.c2
  have zf2 := K2.out.2.1.fr 2
  have a3 := K2.out.2.2.1.c3
  have z3 := K2.out.2.1.c3
  have zf3 := K2.out.2.1.fr 3
  have a4 := K2.out.2.2.1.c4
  have z4 := K2.out.2.1.c4
  have zf4 := K2.out.2.1.fr 4
  have a5 := K2.out.2.2.1.c5
  have z5 := K2.out.2.1.c5
  have zf5 := K2.out.2.1.fr 5
  have a6 := K2.out.2.2.1.c6
  have z6 := K2.out.2.1.c6
  have zf6 := K2.out.2.1.fr 6
  have a7 := K2.out.2.2.1.c7
  have z7 := K2.out.2.1.c7
  have zf7 := K2.out.2.1.fr 7
  have a8 := K2.out.2.2.1.c8
  have z8 := K2.out.2.1.c8
  have zf8 := K2.out.2.1.fr 8
  have a9 := K2.out.2.2.1.c9
  have z9 := K2.out.2.1.c9
  have zf9 := K2.out.2.1.fr 9
  have a10 := K2.out.2.2.1.c10
  have z10 := K2.out.2.1.c10
  have zf10 := K2.out.2.1.fr 10
  have af10 := K2.out.2.2.1.fr 10
  go_wp2_with fail
  obtain ⟨p1, p2, p3, p4, p5, p6⟩ := K2.out
  refine bodyPost_ret (v := .agg #[.int .i64 id, .string key, .bool bk, .bool ot, .int .i64 du, .bool dm, .string m, .string h, .string p, .slice (some ⟨w.heap.size + 6, 0, none⟩) hl hl, .slice (some ⟨B2, 0, none⟩) wn wn]) ?_ rfl ⟨⟨B2, rfl, (((((((((((p4.off1 _ (by omega)).off1 _ (by omega)).off1 _ (by omega)).off1 _ (by omega)).off1 _ (by omega)).off1 _ (by omega)).off1 _ (by omega)).off1 _ (by omega)).off1 _ (by omega)).off1 _ (by omega)).off1 _ (by omega)).off1 _ (by omega), (((((((((((p5.off1 _ (by omega)).off1 _ (by omega)).off1 _ (by omega)).off1 _ (by omega)).off1 _ (by omega)).off1 _ (by omega)).off1 _ (by omega)).off1 _ (by omega)).off1 _ (by omega)).off1 _ (by omega)).off1 _ (by omega)).off1 _ (by omega), p6⟩, (((((((((((p1.setCell (by simp only; omega) _).setCell (by simp only; omega) _).setCell (by simp only; omega) _).setCell (by simp only; omega) _).setCell (by simp only; omega) _).setCell (by simp only; omega) _).setCell (by simp only; omega) _).setCell (by simp only; omega) _).setCell (by simp only; omega) _).setCell (by simp only; omega) _).setCell (by simp only; omega) _).setCell (by simp only; omega) _⟩
  simp [results, Try.results12, go_sem, z0, z1, z2, z3, z4, z5, z6, z7, z8, z9, z10]
end Go.Proofs.Ytgejegmilkmiiaa
