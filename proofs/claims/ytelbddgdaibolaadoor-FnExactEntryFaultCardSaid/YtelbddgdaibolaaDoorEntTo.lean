/-
  Entries, handed over by the laws: copies.
-/
import Derived.Test.YtelbddgdaibolaaDoorEntLaws
import Derived.Test.YtelbddgdaibolaaDoorRespLaws
namespace Go.Proofs.YtelbddgdaibolaaDoor
open Go.ChangeShapes Go.WideShapes Go.ChangeAt Go.RowKit Go.Sort
theorem QMine.off1 {W : World} {B b i : Nat} {l : List Hdr} (h : QMine W B l) (x : Value) (hne : b ≠ B) : QMine (W.setCell ⟨b, i, none⟩ x) B l := by
  have ne : ∀ o : Nat, (⟨b, i, none⟩ : Addr) ≠ ⟨B, o, none⟩ := fun o q => hne (congrArg Addr.block q)
  exact ⟨fun k r hr => by rw [World.cell?_setCell_other _ _ _ _ (ne _), World.cell?_setCell_other _ _ _ _ (ne _)]; exact h.at0 k r hr, fun o => by rw [World.frozen?_setCell]; exact h.free o, by simpa using h.lt⟩
theorem BMine.off1 {W : World} {B b i : Nat} {l : List UInt8} (h : BMine W B l) (x : Value) (hne : b ≠ B) : BMine (W.setCell ⟨b, i, none⟩ x) B l := by
  have ne : ∀ o : Nat, (⟨b, i, none⟩ : Addr) ≠ ⟨B, o, none⟩ := fun o q => hne (congrArg Addr.block q)
  exact ⟨fun k r hr => by rw [World.cell?_setCell_other _ _ _ _ (ne _)]; exact h.at0 k r hr, fun o ho => by rw [World.frozen?_setCell]; exact h.free o ho, by simpa using h.lt⟩
theorem TMine.off1 {W : World} {B b i : Nat} {l : List ByteArray} (h : TMine W B l) (x : Value) (hne : b ≠ B) : TMine (W.setCell ⟨b, i, none⟩ x) B l := by
  have ne : ∀ o : Nat, (⟨b, i, none⟩ : Addr) ≠ ⟨B, o, none⟩ := fun o q => hne (congrArg Addr.block q)
  exact ⟨fun k r hr => by rw [World.cell?_setCell_other _ _ _ _ (ne _)]; exact h.at0 k r hr, fun o ho => by rw [World.frozen?_setCell]; exact h.free o ho, by simpa using h.lt⟩
set_option maxHeartbeats 8000000 in
theorem toEntry_any (w : World) (key : ByteArray) (st : Int) (ha : Option Addr) (hc : Nat) (ba : Option Addr) (bc : Nat) (t g l s e : Int) (b1 b2 : Bool) (ta : Option Addr) (tc : Nat) (pins : Int) (hs : List Hdr) (bs : List UInt8) (ts : List ByteArray) (hhl : hs.length ≤ 1048576) (hbl : bs.length ≤ 1048576) (htl : ts.length ≤ 1048576) (hH : HdsIn w ha hs) (hB : BIn w ba bs) (hT : TIn w ta ts) :
    Calls Tryd.prog 10 #[.agg #[.string key, .int .i64 st, .slice ha hs.length hc, .slice ba bs.length bc, .int .i64 t, .int .i64 g, .int .i64 l, .int .i64 s, .int .i64 e, .bool b1, .bool b2, .slice ta ts.length tc, .int .i64 pins]] w fun ee w' => (∃ B2 B3, ee = .returned (.agg #[.string key, .int .i64 st, .slice (some ⟨w.heap.size + 3, 0, none⟩) hs.length hs.length, .slice (some ⟨B2, 0, none⟩) bs.length bs.length, .int .i64 t, .int .i64 g, .int .i64 l, .int .i64 s, .int .i64 e, .bool b1, .bool b2, .slice (some ⟨B3, 0, none⟩) ts.length ts.length, .int .i64 pins]) ∧ QMine w' (w.heap.size + 3) hs ∧ BMine w' B2 bs ∧ TMine w' B3 ts ∧ w.heap.size + 3 < B2 ∧ B2 < B3) ∧ Below w.heap.size w w' := by
  obtain ⟨W, hW⟩ : ∃ W, W = ((w.alloc (.cells #[.string key, .int .i64 st, .slice ha hs.length hc, .slice ba bs.length bc, .int .i64 t, .int .i64 g, .int .i64 l, .int .i64 s, .int .i64 e, .bool b1, .bool b2, .slice ta ts.length tc, .int .i64 pins] 28)).alloc (.cells #[.string ⟨#[]⟩, .int .i64 0, .slice none 0 0, .slice none 0 0, .int .i64 0, .int .i64 0, .int .i64 0, .int .i64 0, .int .i64 0, .bool false, .bool false, .slice none 0 0, .int .i64 0] 34)).alloc (.cells #[.string key, .int .i64 st, .slice none 0 0, .slice none 0 0, .int .i64 0, .int .i64 0, .int .i64 0, .int .i64 0, .int .i64 0, .bool false, .bool false, .slice none 0 0, .int .i64 0] 34) := ⟨_, rfl⟩
  have bW : Below w.heap.size w W := by rw [hW]; exact (((Below.refl _ _).alloc (Nat.le_refl _) _).alloc (by simp) _).alloc (by simp; omega) _
  have hsz : W.heap.size = w.heap.size + 3 := by rw [hW]; simp
  have HW : Hid (W = ((w.alloc (.cells #[.string key, .int .i64 st, .slice ha hs.length hc, .slice ba bs.length bc, .int .i64 t, .int .i64 g, .int .i64 l, .int .i64 s, .int .i64 e, .bool b1, .bool b2, .slice ta ts.length tc, .int .i64 pins] 28)).alloc (.cells #[.string ⟨#[]⟩, .int .i64 0, .slice none 0 0, .slice none 0 0, .int .i64 0, .int .i64 0, .int .i64 0, .int .i64 0, .int .i64 0, .bool false, .bool false, .slice none 0 0, .int .i64 0] 34)).alloc (.cells #[.string key, .int .i64 st, .slice none 0 0, .slice none 0 0, .int .i64 0, .int .i64 0, .int .i64 0, .int .i64 0, .int .i64 0, .bool false, .bool false, .slice none 0 0, .int .i64 0] 34)) := hW
  have f2 : E13 W (w.heap.size + 2) (.string key) (.int .i64 st) (.slice none 0 0) (.slice none 0 0) (.int .i64 0) (.int .i64 0) (.int .i64 0) (.int .i64 0) (.int .i64 0) (.bool false) (.bool false) (.slice none 0 0) (.int .i64 0) := by
    rw [hW]
    have := E13.new ((w.alloc (.cells #[.string key, .int .i64 st, .slice ha hs.length hc, .slice ba bs.length bc, .int .i64 t, .int .i64 g, .int .i64 l, .int .i64 s, .int .i64 e, .bool b1, .bool b2, .slice ta ts.length tc, .int .i64 pins] 28)).alloc (.cells #[.string ⟨#[]⟩, .int .i64 0, .slice none 0 0, .slice none 0 0, .int .i64 0, .int .i64 0, .int .i64 0, .int .i64 0, .int .i64 0, .bool false, .bool false, .slice none 0 0, .int .i64 0] 34)) (.string key) (.int .i64 st) (.slice none 0 0) (.slice none 0 0) (.int .i64 0) (.int .i64 0) (.int .i64 0) (.int .i64 0) (.int .i64 0) (.bool false) (.bool false) (.slice none 0 0) (.int .i64 0) 34
    simpa using this
  have f1 : E13 W (w.heap.size + 1) (.string ⟨#[]⟩) (.int .i64 0) (.slice none 0 0) (.slice none 0 0) (.int .i64 0) (.int .i64 0) (.int .i64 0) (.int .i64 0) (.int .i64 0) (.bool false) (.bool false) (.slice none 0 0) (.int .i64 0) := by
    rw [hW]
    have := (E13.new (w.alloc (.cells #[.string key, .int .i64 st, .slice ha hs.length hc, .slice ba bs.length bc, .int .i64 t, .int .i64 g, .int .i64 l, .int .i64 s, .int .i64 e, .bool b1, .bool b2, .slice ta ts.length tc, .int .i64 pins] 28)) (.string ⟨#[]⟩) (.int .i64 0) (.slice none 0 0) (.slice none 0 0) (.int .i64 0) (.int .i64 0) (.int .i64 0) (.int .i64 0) (.int .i64 0) (.bool false) (.bool false) (.slice none 0 0) (.int .i64 0) 34).keep ((Below.refl _ _).alloc (Nat.le_refl _) (.cells #[.string key, .int .i64 st, .slice none 0 0, .slice none 0 0, .int .i64 0, .int .i64 0, .int .i64 0, .int .i64 0, .int .i64 0, .bool false, .bool false, .slice none 0 0, .int .i64 0] 34))
    simpa using this
  have f0 : E13 W w.heap.size (.string key) (.int .i64 st) (.slice ha hs.length hc) (.slice ba bs.length bc) (.int .i64 t) (.int .i64 g) (.int .i64 l) (.int .i64 s) (.int .i64 e) (.bool b1) (.bool b2) (.slice ta ts.length tc) (.int .i64 pins) := by
    rw [hW]
    exact ((E13.new w (.string key) (.int .i64 st) (.slice ha hs.length hc) (.slice ba bs.length bc) (.int .i64 t) (.int .i64 g) (.int .i64 l) (.int .i64 s) (.int .i64 e) (.bool b1) (.bool b2) (.slice ta ts.length tc) (.int .i64 pins) 28).keep ((Below.refl _ _).alloc (Nat.le_refl _) _)).keep ((Below.refl _ _).alloc (Nat.le_refl _) _)
  have K0 : Hid (Below w.heap.size w W ∧ E13 W w.heap.size (.string key) (.int .i64 st) (.slice ha hs.length hc) (.slice ba bs.length bc) (.int .i64 t) (.int .i64 g) (.int .i64 l) (.int .i64 s) (.int .i64 e) (.bool b1) (.bool b2) (.slice ta ts.length tc) (.int .i64 pins) ∧ E13 W (w.heap.size + 1) (.string ⟨#[]⟩) (.int .i64 0) (.slice none 0 0) (.slice none 0 0) (.int .i64 0) (.int .i64 0) (.int .i64 0) (.int .i64 0) (.int .i64 0) (.bool false) (.bool false) (.slice none 0 0) (.int .i64 0) ∧ E13 W (w.heap.size + 2) (.string key) (.int .i64 st) (.slice none 0 0) (.slice none 0 0) (.int .i64 0) (.int .i64 0) (.int .i64 0) (.int .i64 0) (.int .i64 0) (.bool false) (.bool false) (.slice none 0 0) (.int .i64 0) ∧ W.heap.size = w.heap.size + 3) := ⟨bW, f0, f1, f2, hsz⟩
  have C := toHeaderS_free W ha hc hs hhl (hH.keep bW)
  rw [hsz] at C
  have HCB : Hid (∀ X, Below w.heap.size w X → Calls Tryd.prog 35 #[.slice ba bs.length bc] X fun e w' => e = .returned (.slice (some ⟨X.heap.size, 0, none⟩) bs.length bs.length) ∧ BMine w' X.heap.size bs ∧ Below X.heap.size X w') := fun X hb => toByteS_any X ba bc bs hbl (hB.keep hb)
  have HCT : Hid (∀ X, Below w.heap.size w X → Calls Tryd.prog 37 #[.slice ta ts.length tc] X fun e w' => e = .returned (.slice (some ⟨X.heap.size, 0, none⟩) ts.length ts.length) ∧ TMine w' X.heap.size ts ∧ Below X.heap.size X w') := fun X hb => toStringS_any X ta tc ts htl (hT.keep hb)
  have HCM : Hid (∀ X, Calls Tryd.prog 36 #[.agg #[.int .i64 t, .int .i64 g, .int .i64 l, .int .i64 s, .int .i64 e, .bool b1, .bool b2]] X fun r w' => r = .returned (.agg #[.int .i64 t, .int .i64 g, .int .i64 l, .int .i64 s, .int .i64 e, .bool b1, .bool b2]) ∧ Below X.heap.size X w') := fun X => toMeta_any t g l s e b1 b2 X
  clear hW bW hsz f0 f1 f2 hH hB hT hhl hbl htl
  generalize hn1 : hs.length = hl at *
  generalize hn2 : bs.length = bn at *
  generalize hn3 : ts.length = tn at *
  clear hn1 hn2 hn3
  go_enter Tryd.func10, Tryd.ntmps10
  go_wp2_with fail
  rw [← HW.out]
  refine C.mono ?_
  rintro e0 w1 ⟨rfl, hat, hlt, hfr, hb1⟩
  have hb1' : Below W.heap.size W w1 := by rw [K0.out.2.2.2.2]; exact hb1
  have K1 : Hid (Below w.heap.size w w1 ∧ E13 w1 w.heap.size (.string key) (.int .i64 st) (.slice ha hl hc) (.slice ba bn bc) (.int .i64 t) (.int .i64 g) (.int .i64 l) (.int .i64 s) (.int .i64 e) (.bool b1) (.bool b2) (.slice ta tn tc) (.int .i64 pins) ∧ E13 w1 (w.heap.size + 1) (.string ⟨#[]⟩) (.int .i64 0) (.slice none 0 0) (.slice none 0 0) (.int .i64 0) (.int .i64 0) (.int .i64 0) (.int .i64 0) (.int .i64 0) (.bool false) (.bool false) (.slice none 0 0) (.int .i64 0) ∧ E13 w1 (w.heap.size + 2) (.string key) (.int .i64 st) (.slice none 0 0) (.slice none 0 0) (.int .i64 0) (.int .i64 0) (.int .i64 0) (.int .i64 0) (.int .i64 0) (.bool false) (.bool false) (.slice none 0 0) (.int .i64 0) ∧ QMine w1 (w.heap.size + 3) hs) := ⟨K0.out.1.trans (hb1'.mono K0.out.1.size), K0.out.2.1.keep hb1', K0.out.2.2.1.keep hb1', K0.out.2.2.2.1.keep hb1', ⟨hat, hfr, hlt⟩⟩
  clear C hat hlt hfr hb1 hb1' K0 HW
  obtain ⟨V1, hV1⟩ : ∃ V, V = w1.setCell ⟨w.heap.size + 2, 2, none⟩ (.slice (some ⟨w.heap.size + 3, 0, none⟩) hl hl) := ⟨_, rfl⟩
  have HV1 : Hid (V1 = w1.setCell ⟨w.heap.size + 2, 2, none⟩ (.slice (some ⟨w.heap.size + 3, 0, none⟩) hl hl)) := hV1
  clear hV1
  have K1b : Hid (Below w.heap.size w V1 ∧ E13 V1 w.heap.size (.string key) (.int .i64 st) (.slice ha hl hc) (.slice ba bn bc) (.int .i64 t) (.int .i64 g) (.int .i64 l) (.int .i64 s) (.int .i64 e) (.bool b1) (.bool b2) (.slice ta tn tc) (.int .i64 pins) ∧ E13 V1 (w.heap.size + 1) (.string ⟨#[]⟩) (.int .i64 0) (.slice none 0 0) (.slice none 0 0) (.int .i64 0) (.int .i64 0) (.int .i64 0) (.int .i64 0) (.int .i64 0) (.bool false) (.bool false) (.slice none 0 0) (.int .i64 0) ∧ E13 V1 (w.heap.size + 2) (.string key) (.int .i64 st) (.slice (some ⟨w.heap.size + 3, 0, none⟩) hl hl) (.slice none 0 0) (.int .i64 0) (.int .i64 0) (.int .i64 0) (.int .i64 0) (.int .i64 0) (.bool false) (.bool false) (.slice none 0 0) (.int .i64 0) ∧ QMine V1 (w.heap.size + 3) hs) := by
    rw [HV1.out]
    exact ⟨K1.out.1.setCell (by simp) _, K1.out.2.1.off (by omega), K1.out.2.2.1.off (by omega), K1.out.2.2.2.1.set2 _, K1.out.2.2.2.2.off1 _ (by omega)⟩
  have a2 := K1.out.2.2.2.1.c2
  have af := K1.out.2.2.2.1.fr 2
  have g3 := K1.out.2.1.c3
  clear K1
  go_wp2_with fail
  rw [← HV1.out]
  clear a2 af g3 HV1
  refine (HCB.out V1 K1b.out.1).mono ?_
  rintro e0 w2 ⟨rfl, hbm, hb2⟩
  obtain ⟨B2, hB2⟩ : ∃ B, V1.heap.size = B := ⟨_, rfl⟩
  have K2 : Hid (Below w.heap.size w w2 ∧ E13 w2 w.heap.size (.string key) (.int .i64 st) (.slice ha hl hc) (.slice ba bn bc) (.int .i64 t) (.int .i64 g) (.int .i64 l) (.int .i64 s) (.int .i64 e) (.bool b1) (.bool b2) (.slice ta tn tc) (.int .i64 pins) ∧ E13 w2 (w.heap.size + 1) (.string ⟨#[]⟩) (.int .i64 0) (.slice none 0 0) (.slice none 0 0) (.int .i64 0) (.int .i64 0) (.int .i64 0) (.int .i64 0) (.int .i64 0) (.bool false) (.bool false) (.slice none 0 0) (.int .i64 0) ∧ E13 w2 (w.heap.size + 2) (.string key) (.int .i64 st) (.slice (some ⟨w.heap.size + 3, 0, none⟩) hl hl) (.slice none 0 0) (.int .i64 0) (.int .i64 0) (.int .i64 0) (.int .i64 0) (.int .i64 0) (.bool false) (.bool false) (.slice none 0 0) (.int .i64 0) ∧ QMine w2 (w.heap.size + 3) hs ∧ BMine w2 B2 bs ∧ w.heap.size + 3 < B2) := ⟨K1b.out.1.trans (hb2.mono K1b.out.1.size), K1b.out.2.1.keep hb2, K1b.out.2.2.1.keep hb2, K1b.out.2.2.2.1.keep hb2, K1b.out.2.2.2.2.keep hb2, hB2 ▸ hbm, hB2 ▸ K1b.out.2.2.2.2.lt⟩
  rw [hB2]
  clear K1b hbm hb2 hB2 HCB
  obtain ⟨V2, hV2⟩ : ∃ V, V = w2.setCell ⟨w.heap.size + 2, 3, none⟩ (.slice (some ⟨B2, 0, none⟩) bn bn) := ⟨_, rfl⟩
  have HV2 : Hid (V2 = w2.setCell ⟨w.heap.size + 2, 3, none⟩ (.slice (some ⟨B2, 0, none⟩) bn bn)) := hV2
  clear hV2
  have K2b : Hid (Below w.heap.size w V2 ∧ E13 V2 w.heap.size (.string key) (.int .i64 st) (.slice ha hl hc) (.slice ba bn bc) (.int .i64 t) (.int .i64 g) (.int .i64 l) (.int .i64 s) (.int .i64 e) (.bool b1) (.bool b2) (.slice ta tn tc) (.int .i64 pins) ∧ E13 V2 (w.heap.size + 1) (.string ⟨#[]⟩) (.int .i64 0) (.slice none 0 0) (.slice none 0 0) (.int .i64 0) (.int .i64 0) (.int .i64 0) (.int .i64 0) (.int .i64 0) (.bool false) (.bool false) (.slice none 0 0) (.int .i64 0) ∧ E13 V2 (w.heap.size + 2) (.string key) (.int .i64 st) (.slice (some ⟨w.heap.size + 3, 0, none⟩) hl hl) (.slice (some ⟨B2, 0, none⟩) bn bn) (.int .i64 0) (.int .i64 0) (.int .i64 0) (.int .i64 0) (.int .i64 0) (.bool false) (.bool false) (.slice none 0 0) (.int .i64 0) ∧ QMine V2 (w.heap.size + 3) hs ∧ BMine V2 B2 bs ∧ w.heap.size + 3 < B2) := by
    rw [HV2.out]
    obtain ⟨p1, p2, p3, p4, p5, p6, p7⟩ := K2.out
    exact ⟨p1.setCell (by simp) _, p2.off (by omega), p3.off (by omega), p4.set3 _, p5.off1 _ (by omega), p6.off1 _ (by omega), p7⟩
  have a2 := K2.out.2.2.2.1.c3
  have af := K2.out.2.2.2.1.fr 3
  have g4 := K2.out.2.1.c4
  have g5 := K2.out.2.1.c5
  have g6 := K2.out.2.1.c6
  have g7 := K2.out.2.1.c7
  have g8 := K2.out.2.1.c8
  have g9 := K2.out.2.1.c9
  have g10 := K2.out.2.1.c10
  clear K2
  go_wp2_with fail
  rw [← HV2.out]
  clear a2 af HV2 g4 g5 g6 g7 g8 g9 g10
  refine (HCM.out V2).mono ?_
  rintro e0 w3 ⟨rfl, hb3⟩
  have K3 : Hid (Below w.heap.size w w3 ∧ E13 w3 w.heap.size (.string key) (.int .i64 st) (.slice ha hl hc) (.slice ba bn bc) (.int .i64 t) (.int .i64 g) (.int .i64 l) (.int .i64 s) (.int .i64 e) (.bool b1) (.bool b2) (.slice ta tn tc) (.int .i64 pins) ∧ E13 w3 (w.heap.size + 1) (.string ⟨#[]⟩) (.int .i64 0) (.slice none 0 0) (.slice none 0 0) (.int .i64 0) (.int .i64 0) (.int .i64 0) (.int .i64 0) (.int .i64 0) (.bool false) (.bool false) (.slice none 0 0) (.int .i64 0) ∧ E13 w3 (w.heap.size + 2) (.string key) (.int .i64 st) (.slice (some ⟨w.heap.size + 3, 0, none⟩) hl hl) (.slice (some ⟨B2, 0, none⟩) bn bn) (.int .i64 0) (.int .i64 0) (.int .i64 0) (.int .i64 0) (.int .i64 0) (.bool false) (.bool false) (.slice none 0 0) (.int .i64 0) ∧ QMine w3 (w.heap.size + 3) hs ∧ BMine w3 B2 bs ∧ w.heap.size + 3 < B2) := by
    obtain ⟨p1, p2, p3, p4, p5, p6, p7⟩ := K2b.out
    exact ⟨p1.trans (hb3.mono p1.size), p2.keep hb3, p3.keep hb3, p4.keep hb3, p5.keep hb3, p6.keep hb3, p7⟩
  clear K2b hb3 HCM
  obtain ⟨V3, hV3⟩ : ∃ V, V = (((((((w3.setCell ⟨w.heap.size + 2, 4, none⟩ (.int .i64 t)).setCell ⟨w.heap.size + 2, 5, none⟩ (.int .i64 g)).setCell ⟨w.heap.size + 2, 6, none⟩ (.int .i64 l)).setCell ⟨w.heap.size + 2, 7, none⟩ (.int .i64 s)).setCell ⟨w.heap.size + 2, 8, none⟩ (.int .i64 e)).setCell ⟨w.heap.size + 2, 9, none⟩ (.bool b1)).setCell ⟨w.heap.size + 2, 10, none⟩ (.bool b2)) := ⟨_, rfl⟩
  have HV3 : Hid (V3 = (((((((w3.setCell ⟨w.heap.size + 2, 4, none⟩ (.int .i64 t)).setCell ⟨w.heap.size + 2, 5, none⟩ (.int .i64 g)).setCell ⟨w.heap.size + 2, 6, none⟩ (.int .i64 l)).setCell ⟨w.heap.size + 2, 7, none⟩ (.int .i64 s)).setCell ⟨w.heap.size + 2, 8, none⟩ (.int .i64 e)).setCell ⟨w.heap.size + 2, 9, none⟩ (.bool b1)).setCell ⟨w.heap.size + 2, 10, none⟩ (.bool b2))) := hV3
  clear hV3
  have K3b : Hid (Below w.heap.size w V3 ∧ E13 V3 w.heap.size (.string key) (.int .i64 st) (.slice ha hl hc) (.slice ba bn bc) (.int .i64 t) (.int .i64 g) (.int .i64 l) (.int .i64 s) (.int .i64 e) (.bool b1) (.bool b2) (.slice ta tn tc) (.int .i64 pins) ∧ E13 V3 (w.heap.size + 1) (.string ⟨#[]⟩) (.int .i64 0) (.slice none 0 0) (.slice none 0 0) (.int .i64 0) (.int .i64 0) (.int .i64 0) (.int .i64 0) (.int .i64 0) (.bool false) (.bool false) (.slice none 0 0) (.int .i64 0) ∧ E13 V3 (w.heap.size + 2) (.string key) (.int .i64 st) (.slice (some ⟨w.heap.size + 3, 0, none⟩) hl hl) (.slice (some ⟨B2, 0, none⟩) bn bn) (.int .i64 t) (.int .i64 g) (.int .i64 l) (.int .i64 s) (.int .i64 e) (.bool b1) (.bool b2) (.slice none 0 0) (.int .i64 0) ∧ QMine V3 (w.heap.size + 3) hs ∧ BMine V3 B2 bs ∧ w.heap.size + 3 < B2) := by
    rw [HV3.out]
    obtain ⟨p1, p2, p3, p4, p5, p6, p7⟩ := K3.out
    exact ⟨(((((((p1.setCell (by simp) _).setCell (by simp) _).setCell (by simp) _).setCell (by simp) _).setCell (by simp) _).setCell (by simp) _).setCell (by simp) _), (((((((p2.off (by omega)).off (by omega)).off (by omega)).off (by omega)).off (by omega)).off (by omega)).off (by omega)), (((((((p3.off (by omega)).off (by omega)).off (by omega)).off (by omega)).off (by omega)).off (by omega)).off (by omega)), (((((((p4.set4 _).set5 _).set6 _).set7 _).set8 _).set9 _).set10 _), (((((((p5.off1 _ (by omega)).off1 _ (by omega)).off1 _ (by omega)).off1 _ (by omega)).off1 _ (by omega)).off1 _ (by omega)).off1 _ (by omega)), (((((((p6.off1 _ (by omega)).off1 _ (by omega)).off1 _ (by omega)).off1 _ (by omega)).off1 _ (by omega)).off1 _ (by omega)).off1 _ (by omega)), p7⟩
  have a4 := K3.out.2.2.2.1.c4
  have af4 := K3.out.2.2.2.1.fr 4
  have a5 := K3.out.2.2.2.1.c5
  have af5 := K3.out.2.2.2.1.fr 5
  have a6 := K3.out.2.2.2.1.c6
  have af6 := K3.out.2.2.2.1.fr 6
  have a7 := K3.out.2.2.2.1.c7
  have af7 := K3.out.2.2.2.1.fr 7
  have a8 := K3.out.2.2.2.1.c8
  have af8 := K3.out.2.2.2.1.fr 8
  have a9 := K3.out.2.2.2.1.c9
  have af9 := K3.out.2.2.2.1.fr 9
  have a10 := K3.out.2.2.2.1.c10
  have af10 := K3.out.2.2.2.1.fr 10
  have g11 := K3.out.2.1.c11
  clear K3
  go_wp2_with fail
  rw [← HV3.out]
  clear g11 HV3 a4 af4 a5 af5 a6 af6 a7 af7 a8 af8 a9 af9 a10 af10
  refine (HCT.out V3 K3b.out.1).mono ?_
  rintro e0 w4 ⟨rfl, hbm, hb4⟩
  obtain ⟨B3, hB3⟩ : ∃ B, V3.heap.size = B := ⟨_, rfl⟩
  have K4 : Hid (Below w.heap.size w w4 ∧ E13 w4 w.heap.size (.string key) (.int .i64 st) (.slice ha hl hc) (.slice ba bn bc) (.int .i64 t) (.int .i64 g) (.int .i64 l) (.int .i64 s) (.int .i64 e) (.bool b1) (.bool b2) (.slice ta tn tc) (.int .i64 pins) ∧ E13 w4 (w.heap.size + 1) (.string ⟨#[]⟩) (.int .i64 0) (.slice none 0 0) (.slice none 0 0) (.int .i64 0) (.int .i64 0) (.int .i64 0) (.int .i64 0) (.int .i64 0) (.bool false) (.bool false) (.slice none 0 0) (.int .i64 0) ∧ E13 w4 (w.heap.size + 2) (.string key) (.int .i64 st) (.slice (some ⟨w.heap.size + 3, 0, none⟩) hl hl) (.slice (some ⟨B2, 0, none⟩) bn bn) (.int .i64 t) (.int .i64 g) (.int .i64 l) (.int .i64 s) (.int .i64 e) (.bool b1) (.bool b2) (.slice none 0 0) (.int .i64 0) ∧ QMine w4 (w.heap.size + 3) hs ∧ BMine w4 B2 bs ∧ w.heap.size + 3 < B2 ∧ TMine w4 B3 ts ∧ B2 < B3) := by
    obtain ⟨p1, p2, p3, p4, p5, p6, p7⟩ := K3b.out
    exact ⟨p1.trans (hb4.mono p1.size), p2.keep hb4, p3.keep hb4, p4.keep hb4, p5.keep hb4, p6.keep hb4, p7, hB3 ▸ hbm, hB3 ▸ p6.lt⟩
  rw [hB3]
  clear K3b hbm hb4 hB3 HCT
  have g12 := K4.out.2.1.c12
  have a0 := K4.out.2.2.2.1.c0
  have z0 := K4.out.2.2.1.c0
  have zf0 := K4.out.2.2.1.fr 0
  have a1 := K4.out.2.2.2.1.c1
  have z1 := K4.out.2.2.1.c1
  have zf1 := K4.out.2.2.1.fr 1
  have a2 := K4.out.2.2.2.1.c2
  have z2 := K4.out.2.2.1.c2
  have zf2 := K4.out.2.2.1.fr 2
  have a3 := K4.out.2.2.2.1.c3
  have z3 := K4.out.2.2.1.c3
  have zf3 := K4.out.2.2.1.fr 3
  have a4 := K4.out.2.2.2.1.c4
  have z4 := K4.out.2.2.1.c4
  have zf4 := K4.out.2.2.1.fr 4
  have a5 := K4.out.2.2.2.1.c5
  have z5 := K4.out.2.2.1.c5
  have zf5 := K4.out.2.2.1.fr 5
  have a6 := K4.out.2.2.2.1.c6
  have z6 := K4.out.2.2.1.c6
  have zf6 := K4.out.2.2.1.fr 6
  have a7 := K4.out.2.2.2.1.c7
  have z7 := K4.out.2.2.1.c7
  have zf7 := K4.out.2.2.1.fr 7
  have a8 := K4.out.2.2.2.1.c8
  have z8 := K4.out.2.2.1.c8
  have zf8 := K4.out.2.2.1.fr 8
  have a9 := K4.out.2.2.2.1.c9
  have z9 := K4.out.2.2.1.c9
  have zf9 := K4.out.2.2.1.fr 9
  have a10 := K4.out.2.2.2.1.c10
  have z10 := K4.out.2.2.1.c10
  have zf10 := K4.out.2.2.1.fr 10
  have a11 := K4.out.2.2.2.1.c11
  have z11 := K4.out.2.2.1.c11
  have zf11 := K4.out.2.2.1.fr 11
  have a12 := K4.out.2.2.2.1.c12
  have z12 := K4.out.2.2.1.c12
  have zf12 := K4.out.2.2.1.fr 12
  have af11 := K4.out.2.2.2.1.fr 11
  have af12 := K4.out.2.2.2.1.fr 12
  go_wp2_with fail
  obtain ⟨p1, p2, p3, p4, p5, p6, p7, p8, p9⟩ := K4.out
  refine bodyPost_ret (v := .agg #[.string key, .int .i64 st, .slice (some ⟨w.heap.size + 3, 0, none⟩) hl hl, .slice (some ⟨B2, 0, none⟩) bn bn, .int .i64 t, .int .i64 g, .int .i64 l, .int .i64 s, .int .i64 e, .bool b1, .bool b2, .slice (some ⟨B3, 0, none⟩) tn tn, .int .i64 pins]) ?_ rfl ⟨⟨B2, B3, rfl, (((((((((((((((p5.off1 _ (by omega)).off1 _ (by omega)).off1 _ (by omega)).off1 _ (by omega)).off1 _ (by omega)).off1 _ (by omega)).off1 _ (by omega)).off1 _ (by omega)).off1 _ (by omega)).off1 _ (by omega)).off1 _ (by omega)).off1 _ (by omega)).off1 _ (by omega)).off1 _ (by omega)).off1 _ (by omega)), (((((((((((((((p6.off1 _ (by omega)).off1 _ (by omega)).off1 _ (by omega)).off1 _ (by omega)).off1 _ (by omega)).off1 _ (by omega)).off1 _ (by omega)).off1 _ (by omega)).off1 _ (by omega)).off1 _ (by omega)).off1 _ (by omega)).off1 _ (by omega)).off1 _ (by omega)).off1 _ (by omega)).off1 _ (by omega)), (((((((((((((((p8.off1 _ (by omega)).off1 _ (by omega)).off1 _ (by omega)).off1 _ (by omega)).off1 _ (by omega)).off1 _ (by omega)).off1 _ (by omega)).off1 _ (by omega)).off1 _ (by omega)).off1 _ (by omega)).off1 _ (by omega)).off1 _ (by omega)).off1 _ (by omega)).off1 _ (by omega)).off1 _ (by omega)), p7, p9⟩, (((((((((((((((p1.setCell (by first | (simp; done) | (simp; omega)) _).setCell (by first | (simp; done) | (simp; omega)) _).setCell (by first | (simp; done) | (simp; omega)) _).setCell (by first | (simp; done) | (simp; omega)) _).setCell (by first | (simp; done) | (simp; omega)) _).setCell (by first | (simp; done) | (simp; omega)) _).setCell (by first | (simp; done) | (simp; omega)) _).setCell (by first | (simp; done) | (simp; omega)) _).setCell (by first | (simp; done) | (simp; omega)) _).setCell (by first | (simp; done) | (simp; omega)) _).setCell (by first | (simp; done) | (simp; omega)) _).setCell (by first | (simp; done) | (simp; omega)) _).setCell (by first | (simp; done) | (simp; omega)) _).setCell (by first | (simp; done) | (simp; omega)) _).setCell (by first | (simp; done) | (simp; omega)) _)⟩
  simp [results, Tryd.results10, go_sem, z0, z1, z2, z3, z4, z5, z6, z7, z8, z9, z10, z11, z12]
end Go.Proofs.YtelbddgdaibolaaDoor
