/-
  Texts of one claim, one behind the other.
-/
import Derived.BigQuiet
import Derived.Deep.AppendLies
import Derived.Deep.RegionWith
import Derived.Laws.OwnMore
import Derived.Lib.Join
import Derived.Lib.LaidTab
import Derived.Lib.QuietBelow
import Derived.Lib.SlTrimSet
import Derived.MakeChecks
import Derived.Shelf.LaysM
import Derived.Shelf.Strconv.Clone
import Derived.Shelf.Strings.OnBuilder
import Derived.Shelf.Strings.SlTrimAscii
import Derived.Test.YtopkidfbkhjaeaaGreatDoorProg
import Derived.Test.YtopkidfbkhjaeaaGreatDoorRows
import Derived.Test.YtopkidfbkhjaeaaGreatDoorMgA
/-
  Entries, handed over by the laws: copies.
-/
namespace Go.Proofs.YtopkidfbkhjaeaaGreatDoor
open Go.ChangeShapes Go.WideShapes Go.ChangeAt Go.RowKit Go.Sort
theorem QMine.off1 {W : World} {B b i : Nat} {l : List Hdr} (h : QMine W B l) (x : Value) (hne : b ≠ B) : QMine (W.setCell ⟨b, i, none⟩ x) B l := by
  have ne : ∀ o : Nat, (⟨b, i, none⟩ : Addr) ≠ ⟨B, o, none⟩ := fun o q => hne (congrArg Addr.block q)
  exact ⟨fun k r hr => by rw [World.cell?_setCell_other _ _ _ _ (ne _), World.cell?_setCell_other _ _ _ _ (ne _)]; exact h.at0 k r hr, fun o => by rw [World.frozen?_setCell]; exact h.free o, by simpa using h.lt⟩
theorem BMine.off1 {W : World} {B b i : Nat} {l : List UInt8} (h : BMine W B l) (x : Value) (hne : b ≠ B) : BMine (W.setCell ⟨b, i, none⟩ x) B l := by
  have ne : ∀ o : Nat, (⟨b, i, none⟩ : Addr) ≠ ⟨B, o, none⟩ := fun o q => hne (congrArg Addr.block q)
  exact ⟨fun k r hr => by rw [World.cell?_setCell_other _ _ _ _ (ne _)]; exact h.at0 k r hr, fun o ho => by rw [World.frozen?_setCell]; exact h.free o ho, by simpa using h.lt⟩
theorem TMine.off1 {W : World} {B b i : Nat} {l : List ByteArray} (h : TMine W B l) (x : Value) (hne : b ≠ B) : TMine (W.setCell ⟨b, i, none⟩ x) B l := by
  have ne : ∀ o : Nat, (⟨b, i, none⟩ : Addr) ≠ ⟨B, o, none⟩ := fun o q => hne (congrArg Addr.block q)
  exact ⟨fun k r hr => by rw [World.cell?_setCell_other _ _ _ _ (ne _)]; exact h.at0 k r hr, fun o ho => by rw [World.frozen?_setCell]; exact h.free o ho, by simpa using h.lt⟩
set_option maxHeartbeats 8000000 in
theorem toEntry_any (w : World) (key : ByteArray) (st : Int) (ha : Option Addr) (hc : Nat) (ba : Option Addr) (bc : Nat) (t g l s e : Int) (b1 b2 : Bool) (ta : Option Addr) (tc : Nat) (pins : Int) (hs : List Hdr) (bs : List UInt8) (ts : List ByteArray) (hhl : hs.length ≤ 1048576) (hbl : bs.length ≤ 1048576) (htl : ts.length ≤ 1048576) (hH : HdsIn w ha hs) (hB : BIn w ba bs) (hT : TIn w ta ts) :
    Calls Tryz.prog 20 #[.agg #[.string key, .int .i64 st, .slice ha hs.length hc, .slice ba bs.length bc, .int .i64 t, .int .i64 g, .int .i64 l, .int .i64 s, .int .i64 e, .bool b1, .bool b2, .slice ta ts.length tc, .int .i64 pins]] w fun ee w' => (∃ B2 B3, ee = .returned (.agg #[.string key, .int .i64 st, .slice (some ⟨w.heap.size + 3, 0, none⟩) hs.length hs.length, .slice (some ⟨B2, 0, none⟩) bs.length bs.length, .int .i64 t, .int .i64 g, .int .i64 l, .int .i64 s, .int .i64 e, .bool b1, .bool b2, .slice (some ⟨B3, 0, none⟩) ts.length ts.length, .int .i64 pins]) ∧ QMine w' (w.heap.size + 3) hs ∧ BMine w' B2 bs ∧ TMine w' B3 ts ∧ w.heap.size + 3 < B2 ∧ B2 < B3) ∧ Below w.heap.size w w' := by
  obtain ⟨W, hW⟩ : ∃ W, W = ((w.alloc (.cells #[.string key, .int .i64 st, .slice ha hs.length hc, .slice ba bs.length bc, .int .i64 t, .int .i64 g, .int .i64 l, .int .i64 s, .int .i64 e, .bool b1, .bool b2, .slice ta ts.length tc, .int .i64 pins] 45)).alloc (.cells #[.string ⟨#[]⟩, .int .i64 0, .slice none 0 0, .slice none 0 0, .int .i64 0, .int .i64 0, .int .i64 0, .int .i64 0, .int .i64 0, .bool false, .bool false, .slice none 0 0, .int .i64 0] 56)).alloc (.cells #[.string key, .int .i64 st, .slice none 0 0, .slice none 0 0, .int .i64 0, .int .i64 0, .int .i64 0, .int .i64 0, .int .i64 0, .bool false, .bool false, .slice none 0 0, .int .i64 0] 56) := ⟨_, rfl⟩
  have bW : Below w.heap.size w W := by rw [hW]; exact (((Below.refl _ _).alloc (Nat.le_refl _) _).alloc (by simp) _).alloc (by simp; omega) _
  have hsz : W.heap.size = w.heap.size + 3 := by rw [hW]; simp
  have HW : Hid (W = ((w.alloc (.cells #[.string key, .int .i64 st, .slice ha hs.length hc, .slice ba bs.length bc, .int .i64 t, .int .i64 g, .int .i64 l, .int .i64 s, .int .i64 e, .bool b1, .bool b2, .slice ta ts.length tc, .int .i64 pins] 45)).alloc (.cells #[.string ⟨#[]⟩, .int .i64 0, .slice none 0 0, .slice none 0 0, .int .i64 0, .int .i64 0, .int .i64 0, .int .i64 0, .int .i64 0, .bool false, .bool false, .slice none 0 0, .int .i64 0] 56)).alloc (.cells #[.string key, .int .i64 st, .slice none 0 0, .slice none 0 0, .int .i64 0, .int .i64 0, .int .i64 0, .int .i64 0, .int .i64 0, .bool false, .bool false, .slice none 0 0, .int .i64 0] 56)) := hW
  have f2 : E13 W (w.heap.size + 2) (.string key) (.int .i64 st) (.slice none 0 0) (.slice none 0 0) (.int .i64 0) (.int .i64 0) (.int .i64 0) (.int .i64 0) (.int .i64 0) (.bool false) (.bool false) (.slice none 0 0) (.int .i64 0) := by
    rw [hW]
    have := E13.new ((w.alloc (.cells #[.string key, .int .i64 st, .slice ha hs.length hc, .slice ba bs.length bc, .int .i64 t, .int .i64 g, .int .i64 l, .int .i64 s, .int .i64 e, .bool b1, .bool b2, .slice ta ts.length tc, .int .i64 pins] 45)).alloc (.cells #[.string ⟨#[]⟩, .int .i64 0, .slice none 0 0, .slice none 0 0, .int .i64 0, .int .i64 0, .int .i64 0, .int .i64 0, .int .i64 0, .bool false, .bool false, .slice none 0 0, .int .i64 0] 56)) (.string key) (.int .i64 st) (.slice none 0 0) (.slice none 0 0) (.int .i64 0) (.int .i64 0) (.int .i64 0) (.int .i64 0) (.int .i64 0) (.bool false) (.bool false) (.slice none 0 0) (.int .i64 0) 56
    simpa using this
  have f1 : E13 W (w.heap.size + 1) (.string ⟨#[]⟩) (.int .i64 0) (.slice none 0 0) (.slice none 0 0) (.int .i64 0) (.int .i64 0) (.int .i64 0) (.int .i64 0) (.int .i64 0) (.bool false) (.bool false) (.slice none 0 0) (.int .i64 0) := by
    rw [hW]
    have := (E13.new (w.alloc (.cells #[.string key, .int .i64 st, .slice ha hs.length hc, .slice ba bs.length bc, .int .i64 t, .int .i64 g, .int .i64 l, .int .i64 s, .int .i64 e, .bool b1, .bool b2, .slice ta ts.length tc, .int .i64 pins] 45)) (.string ⟨#[]⟩) (.int .i64 0) (.slice none 0 0) (.slice none 0 0) (.int .i64 0) (.int .i64 0) (.int .i64 0) (.int .i64 0) (.int .i64 0) (.bool false) (.bool false) (.slice none 0 0) (.int .i64 0) 56).keep ((Below.refl _ _).alloc (Nat.le_refl _) (.cells #[.string key, .int .i64 st, .slice none 0 0, .slice none 0 0, .int .i64 0, .int .i64 0, .int .i64 0, .int .i64 0, .int .i64 0, .bool false, .bool false, .slice none 0 0, .int .i64 0] 56))
    simpa using this
  have f0 : E13 W w.heap.size (.string key) (.int .i64 st) (.slice ha hs.length hc) (.slice ba bs.length bc) (.int .i64 t) (.int .i64 g) (.int .i64 l) (.int .i64 s) (.int .i64 e) (.bool b1) (.bool b2) (.slice ta ts.length tc) (.int .i64 pins) := by
    rw [hW]
    exact ((E13.new w (.string key) (.int .i64 st) (.slice ha hs.length hc) (.slice ba bs.length bc) (.int .i64 t) (.int .i64 g) (.int .i64 l) (.int .i64 s) (.int .i64 e) (.bool b1) (.bool b2) (.slice ta ts.length tc) (.int .i64 pins) 45).keep ((Below.refl _ _).alloc (Nat.le_refl _) _)).keep ((Below.refl _ _).alloc (Nat.le_refl _) _)
  have K0 : Hid (Below w.heap.size w W ∧ E13 W w.heap.size (.string key) (.int .i64 st) (.slice ha hs.length hc) (.slice ba bs.length bc) (.int .i64 t) (.int .i64 g) (.int .i64 l) (.int .i64 s) (.int .i64 e) (.bool b1) (.bool b2) (.slice ta ts.length tc) (.int .i64 pins) ∧ E13 W (w.heap.size + 1) (.string ⟨#[]⟩) (.int .i64 0) (.slice none 0 0) (.slice none 0 0) (.int .i64 0) (.int .i64 0) (.int .i64 0) (.int .i64 0) (.int .i64 0) (.bool false) (.bool false) (.slice none 0 0) (.int .i64 0) ∧ E13 W (w.heap.size + 2) (.string key) (.int .i64 st) (.slice none 0 0) (.slice none 0 0) (.int .i64 0) (.int .i64 0) (.int .i64 0) (.int .i64 0) (.int .i64 0) (.bool false) (.bool false) (.slice none 0 0) (.int .i64 0) ∧ W.heap.size = w.heap.size + 3) := ⟨bW, f0, f1, f2, hsz⟩
  have C := toHeaderS_free W ha hc hs hhl (hH.keep bW)
  rw [hsz] at C
  have HCB : Hid (∀ X, Below w.heap.size w X → Calls Tryz.prog 45 #[.slice ba bs.length bc] X fun e w' => e = .returned (.slice (some ⟨X.heap.size, 0, none⟩) bs.length bs.length) ∧ BMine w' X.heap.size bs ∧ Below X.heap.size X w') := fun X hb => toByteS_any X ba bc bs hbl (hB.keep hb)
  have HCT : Hid (∀ X, Below w.heap.size w X → Calls Tryz.prog 60 #[.slice ta ts.length tc] X fun e w' => e = .returned (.slice (some ⟨X.heap.size, 0, none⟩) ts.length ts.length) ∧ TMine w' X.heap.size ts ∧ Below X.heap.size X w') := fun X hb => toStringS_any X ta tc ts htl (hT.keep hb)
  have HCM : Hid (∀ X, Calls Tryz.prog 59 #[.agg #[.int .i64 t, .int .i64 g, .int .i64 l, .int .i64 s, .int .i64 e, .bool b1, .bool b2]] X fun r w' => r = .returned (.agg #[.int .i64 t, .int .i64 g, .int .i64 l, .int .i64 s, .int .i64 e, .bool b1, .bool b2]) ∧ Below X.heap.size X w') := fun X => toMeta_any t g l s e b1 b2 X
  clear hW bW hsz f0 f1 f2 hH hB hT hhl hbl htl
  generalize hn1 : hs.length = hl at *
  generalize hn2 : bs.length = bn at *
  generalize hn3 : ts.length = tn at *
  clear hn1 hn2 hn3
  go_enter Tryz.func20, Tryz.ntmps20
  go_wp2_with fail
  rw [← HW.out]
  refine C.mono ?_
  rintro e0 w1 ⟨rfl, hat, hlt, hfr, hb1⟩
  have hb1' : Below W.heap.size W w1 := by rw [K0.out.2.2.2.2]; exact hb1
  have K1 : Hid (Below w.heap.size w w1 ∧ E13 w1 w.heap.size (.string key) (.int .i64 st) (.slice ha hl hc) (.slice ba bn bc) (.int .i64 t) (.int .i64 g) (.int .i64 l) (.int .i64 s) (.int .i64 e) (.bool b1) (.bool b2) (.slice ta tn tc) (.int .i64 pins) ∧ E13 w1 (w.heap.size + 1) (.string ⟨#[]⟩) (.int .i64 0) (.slice none 0 0) (.slice none 0 0) (.int .i64 0) (.int .i64 0) (.int .i64 0) (.int .i64 0) (.int .i64 0) (.bool false) (.bool false) (.slice none 0 0) (.int .i64 0) ∧ E13 w1 (w.heap.size + 2) (.string key) (.int .i64 st) (.slice none 0 0) (.slice none 0 0) (.int .i64 0) (.int .i64 0) (.int .i64 0) (.int .i64 0) (.int .i64 0) (.bool false) (.bool false) (.slice none 0 0) (.int .i64 0) ∧ QMine w1 (w.heap.size + 3) hs) := ⟨K0.out.1.trans (hb1'.mono K0.out.1.size), K0.out.2.1.keep hb1', K0.out.2.2.1.keep hb1', K0.out.2.2.2.1.keep hb1', ⟨hat, hfr, hlt⟩⟩
  clear C hat hlt hfr hb1 hb1' K0 HW
  obtain ⟨V1, hV1⟩ : ∃ V, V = w1.setCell ⟨w.heap.size + 2, 2, none⟩ (.slice (some ⟨w.heap.size + 3, 0, none⟩) hl hl) := ⟨_, rfl⟩
  have HV1 : Hid (V1 = w1.setCell ⟨w.heap.size + 2, 2, none⟩ (.slice (some ⟨w.heap.size + 3, 0, none⟩) hl hl)) := hV1
  clear hV1
  have K1b : Hid (Below w.heap.size w V1 ∧ E13 V1 w.heap.size (.string key) (.int .i64 st) (.slice ha hl hc) (.slice ba bn bc) (.int .i64 t) (.int .i64 g) (.int .i64 l) (.int .i64 s) (.int .i64 e) (.bool b1) (.bool b2) (.slice ta tn tc) (.int .i64 pins) ∧ E13 V1 (w.heap.size + 1) (.string ⟨#[]⟩) (.int .i64 0) (.slice none 0 0) (.slice none 0 0) (.int .i64 0) (.int .i64 0) (.int .i64 0) (.int .i64 0) (.int .i64 0) (.bool false) (.bool false) (.slice none 0 0) (.int .i64 0) ∧ E13 V1 (w.heap.size + 2) (.string key) (.int .i64 st) (.slice (some ⟨w.heap.size + 3, 0, none⟩) hl hl) (.slice none 0 0) (.int .i64 0) (.int .i64 0) (.int .i64 0) (.int .i64 0) (.int .i64 0) (.bool false) (.bool false) (.slice none 0 0) (.int .i64 0) ∧ QMine V1 (w.heap.size + 3) hs) := by
    rw [HV1.out]
    exact ⟨K1.out.1.setCell (by simp) _, K1.out.2.1.off (by omega), K1.out.2.2.1.off (by omega), K1.out.2.2.2.1.set2 _, K1.out.2.2.2.2.off1 _ (by omega)⟩
  have a2 := K1.out.2.2.2.1.c2
  have af := K1.out.2.2.2.1.fr 2
  have g3 := K1.out.2.1.c3
  clear K1
  go_wp2_with fail
  rw [← HV1.out]
  clear a2 af g3 HV1
  refine (HCB.out V1 K1b.out.1).mono ?_
  rintro e0 w2 ⟨rfl, hbm, hb2⟩
  obtain ⟨B2, hB2⟩ : ∃ B, V1.heap.size = B := ⟨_, rfl⟩
  have K2 : Hid (Below w.heap.size w w2 ∧ E13 w2 w.heap.size (.string key) (.int .i64 st) (.slice ha hl hc) (.slice ba bn bc) (.int .i64 t) (.int .i64 g) (.int .i64 l) (.int .i64 s) (.int .i64 e) (.bool b1) (.bool b2) (.slice ta tn tc) (.int .i64 pins) ∧ E13 w2 (w.heap.size + 1) (.string ⟨#[]⟩) (.int .i64 0) (.slice none 0 0) (.slice none 0 0) (.int .i64 0) (.int .i64 0) (.int .i64 0) (.int .i64 0) (.int .i64 0) (.bool false) (.bool false) (.slice none 0 0) (.int .i64 0) ∧ E13 w2 (w.heap.size + 2) (.string key) (.int .i64 st) (.slice (some ⟨w.heap.size + 3, 0, none⟩) hl hl) (.slice none 0 0) (.int .i64 0) (.int .i64 0) (.int .i64 0) (.int .i64 0) (.int .i64 0) (.bool false) (.bool false) (.slice none 0 0) (.int .i64 0) ∧ QMine w2 (w.heap.size + 3) hs ∧ BMine w2 B2 bs ∧ w.heap.size + 3 < B2) := ⟨K1b.out.1.trans (hb2.mono K1b.out.1.size), K1b.out.2.1.keep hb2, K1b.out.2.2.1.keep hb2, K1b.out.2.2.2.1.keep hb2, K1b.out.2.2.2.2.keep hb2, hB2 ▸ hbm, hB2 ▸ K1b.out.2.2.2.2.lt⟩
  rw [hB2]
  clear K1b hbm hb2 hB2 HCB
  obtain ⟨V2, hV2⟩ : ∃ V, V = w2.setCell ⟨w.heap.size + 2, 3, none⟩ (.slice (some ⟨B2, 0, none⟩) bn bn) := ⟨_, rfl⟩
  have HV2 : Hid (V2 = w2.setCell ⟨w.heap.size + 2, 3, none⟩ (.slice (some ⟨B2, 0, none⟩) bn bn)) := hV2
  clear hV2
  have K2b : Hid (Below w.heap.size w V2 ∧ E13 V2 w.heap.size (.string key) (.int .i64 st) (.slice ha hl hc) (.slice ba bn bc) (.int .i64 t) (.int .i64 g) (.int .i64 l) (.int .i64 s) (.int .i64 e) (.bool b1) (.bool b2) (.slice ta tn tc) (.int .i64 pins) ∧ E13 V2 (w.heap.size + 1) (.string ⟨#[]⟩) (.int .i64 0) (.slice none 0 0) (.slice none 0 0) (.int .i64 0) (.int .i64 0) (.int .i64 0) (.int .i64 0) (.int .i64 0) (.bool false) (.bool false) (.slice none 0 0) (.int .i64 0) ∧ E13 V2 (w.heap.size + 2) (.string key) (.int .i64 st) (.slice (some ⟨w.heap.size + 3, 0, none⟩) hl hl) (.slice (some ⟨B2, 0, none⟩) bn bn) (.int .i64 0) (.int .i64 0) (.int .i64 0) (.int .i64 0) (.int .i64 0) (.bool false) (.bool false) (.slice none 0 0) (.int .i64 0) ∧ QMine V2 (w.heap.size + 3) hs ∧ BMine V2 B2 bs ∧ w.heap.size + 3 < B2) := by
    rw [HV2.out]
    obtain ⟨p1, p2, p3, p4, p5, p6, p7⟩ := K2.out
    exact ⟨p1.setCell (by simp) _, p2.off (by omega), p3.off (by omega), p4.set3 _, p5.off1 _ (by omega), p6.off1 _ (by omega), p7⟩
  have a2 := K2.out.2.2.2.1.c3
  have af := K2.out.2.2.2.1.fr 3
  have g4 := K2.out.2.1.c4
  have g5 := K2.out.2.1.c5
  have g6 := K2.out.2.1.c6
  have g7 := K2.out.2.1.c7
  have g8 := K2.out.2.1.c8
  have g9 := K2.out.2.1.c9
  have g10 := K2.out.2.1.c10
  clear K2
  go_wp2_with fail
  rw [← HV2.out]
  clear a2 af HV2 g4 g5 g6 g7 g8 g9 g10
  refine (HCM.out V2).mono ?_
  rintro e0 w3 ⟨rfl, hb3⟩
  have K3 : Hid (Below w.heap.size w w3 ∧ E13 w3 w.heap.size (.string key) (.int .i64 st) (.slice ha hl hc) (.slice ba bn bc) (.int .i64 t) (.int .i64 g) (.int .i64 l) (.int .i64 s) (.int .i64 e) (.bool b1) (.bool b2) (.slice ta tn tc) (.int .i64 pins) ∧ E13 w3 (w.heap.size + 1) (.string ⟨#[]⟩) (.int .i64 0) (.slice none 0 0) (.slice none 0 0) (.int .i64 0) (.int .i64 0) (.int .i64 0) (.int .i64 0) (.int .i64 0) (.bool false) (.bool false) (.slice none 0 0) (.int .i64 0) ∧ E13 w3 (w.heap.size + 2) (.string key) (.int .i64 st) (.slice (some ⟨w.heap.size + 3, 0, none⟩) hl hl) (.slice (some ⟨B2, 0, none⟩) bn bn) (.int .i64 0) (.int .i64 0) (.int .i64 0) (.int .i64 0) (.int .i64 0) (.bool false) (.bool false) (.slice none 0 0) (.int .i64 0) ∧ QMine w3 (w.heap.size + 3) hs ∧ BMine w3 B2 bs ∧ w.heap.size + 3 < B2) := by
    obtain ⟨p1, p2, p3, p4, p5, p6, p7⟩ := K2b.out
    exact ⟨p1.trans (hb3.mono p1.size), p2.keep hb3, p3.keep hb3, p4.keep hb3, p5.keep hb3, p6.keep hb3, p7⟩
  clear K2b hb3 HCM
  obtain ⟨V3, hV3⟩ : ∃ V, V = (((((((w3.setCell ⟨w.heap.size + 2, 4, none⟩ (.int .i64 t)).setCell ⟨w.heap.size + 2, 5, none⟩ (.int .i64 g)).setCell ⟨w.heap.size + 2, 6, none⟩ (.int .i64 l)).setCell ⟨w.heap.size + 2, 7, none⟩ (.int .i64 s)).setCell ⟨w.heap.size + 2, 8, none⟩ (.int .i64 e)).setCell ⟨w.heap.size + 2, 9, none⟩ (.bool b1)).setCell ⟨w.heap.size + 2, 10, none⟩ (.bool b2)) := ⟨_, rfl⟩
  have HV3 : Hid (V3 = (((((((w3.setCell ⟨w.heap.size + 2, 4, none⟩ (.int .i64 t)).setCell ⟨w.heap.size + 2, 5, none⟩ (.int .i64 g)).setCell ⟨w.heap.size + 2, 6, none⟩ (.int .i64 l)).setCell ⟨w.heap.size + 2, 7, none⟩ (.int .i64 s)).setCell ⟨w.heap.size + 2, 8, none⟩ (.int .i64 e)).setCell ⟨w.heap.size + 2, 9, none⟩ (.bool b1)).setCell ⟨w.heap.size + 2, 10, none⟩ (.bool b2))) := hV3
  clear hV3
  have K3b : Hid (Below w.heap.size w V3 ∧ E13 V3 w.heap.size (.string key) (.int .i64 st) (.slice ha hl hc) (.slice ba bn bc) (.int .i64 t) (.int .i64 g) (.int .i64 l) (.int .i64 s) (.int .i64 e) (.bool b1) (.bool b2) (.slice ta tn tc) (.int .i64 pins) ∧ E13 V3 (w.heap.size + 1) (.string ⟨#[]⟩) (.int .i64 0) (.slice none 0 0) (.slice none 0 0) (.int .i64 0) (.int .i64 0) (.int .i64 0) (.int .i64 0) (.int .i64 0) (.bool false) (.bool false) (.slice none 0 0) (.int .i64 0) ∧ E13 V3 (w.heap.size + 2) (.string key) (.int .i64 st) (.slice (some ⟨w.heap.size + 3, 0, none⟩) hl hl) (.slice (some ⟨B2, 0, none⟩) bn bn) (.int .i64 t) (.int .i64 g) (.int .i64 l) (.int .i64 s) (.int .i64 e) (.bool b1) (.bool b2) (.slice none 0 0) (.int .i64 0) ∧ QMine V3 (w.heap.size + 3) hs ∧ BMine V3 B2 bs ∧ w.heap.size + 3 < B2) := by
    rw [HV3.out]
    obtain ⟨p1, p2, p3, p4, p5, p6, p7⟩ := K3.out
    exact ⟨(((((((p1.setCell (by simp) _).setCell (by simp) _).setCell (by simp) _).setCell (by simp) _).setCell (by simp) _).setCell (by simp) _).setCell (by simp) _), (((((((p2.off (by omega)).off (by omega)).off (by omega)).off (by omega)).off (by omega)).off (by omega)).off (by omega)), (((((((p3.off (by omega)).off (by omega)).off (by omega)).off (by omega)).off (by omega)).off (by omega)).off (by omega)), (((((((p4.set4 _).set5 _).set6 _).set7 _).set8 _).set9 _).set10 _), (((((((p5.off1 _ (by omega)).off1 _ (by omega)).off1 _ (by omega)).off1 _ (by omega)).off1 _ (by omega)).off1 _ (by omega)).off1 _ (by omega)), (((((((p6.off1 _ (by omega)).off1 _ (by omega)).off1 _ (by omega)).off1 _ (by omega)).off1 _ (by omega)).off1 _ (by omega)).off1 _ (by omega)), p7⟩
  have a4 := K3.out.2.2.2.1.c4
  have af4 := K3.out.2.2.2.1.fr 4
  have a5 := K3.out.2.2.2.1.c5
  have af5 := K3.out.2.2.2.1.fr 5
  have a6 := K3.out.2.2.2.1.c6
  have af6 := K3.out.2.2.2.1.fr 6
  have a7 := K3.out.2.2.2.1.c7
  have af7 := K3.out.2.2.2.1.fr 7
  have a8 := K3.out.2.2.2.1.c8
  have af8 := K3.out.2.2.2.1.fr 8
  have a9 := K3.out.2.2.2.1.c9
  have af9 := K3.out.2.2.2.1.fr 9
  have a10 := K3.out.2.2.2.1.c10
  have af10 := K3.out.2.2.2.1.fr 10
  have g11 := K3.out.2.1.c11
  clear K3
  go_wp2_with fail
  rw [← HV3.out]
  clear g11 HV3 a4 af4 a5 af5 a6 af6 a7 af7 a8 af8 a9 af9 a10 af10
  refine (HCT.out V3 K3b.out.1).mono ?_
  rintro e0 w4 ⟨rfl, hbm, hb4⟩
  obtain ⟨B3, hB3⟩ : ∃ B, V3.heap.size = B := ⟨_, rfl⟩
  have K4 : Hid (Below w.heap.size w w4 ∧ E13 w4 w.heap.size (.string key) (.int .i64 st) (.slice ha hl hc) (.slice ba bn bc) (.int .i64 t) (.int .i64 g) (.int .i64 l) (.int .i64 s) (.int .i64 e) (.bool b1) (.bool b2) (.slice ta tn tc) (.int .i64 pins) ∧ E13 w4 (w.heap.size + 1) (.string ⟨#[]⟩) (.int .i64 0) (.slice none 0 0) (.slice none 0 0) (.int .i64 0) (.int .i64 0) (.int .i64 0) (.int .i64 0) (.int .i64 0) (.bool false) (.bool false) (.slice none 0 0) (.int .i64 0) ∧ E13 w4 (w.heap.size + 2) (.string key) (.int .i64 st) (.slice (some ⟨w.heap.size + 3, 0, none⟩) hl hl) (.slice (some ⟨B2, 0, none⟩) bn bn) (.int .i64 t) (.int .i64 g) (.int .i64 l) (.int .i64 s) (.int .i64 e) (.bool b1) (.bool b2) (.slice none 0 0) (.int .i64 0) ∧ QMine w4 (w.heap.size + 3) hs ∧ BMine w4 B2 bs ∧ w.heap.size + 3 < B2 ∧ TMine w4 B3 ts ∧ B2 < B3) := by
    obtain ⟨p1, p2, p3, p4, p5, p6, p7⟩ := K3b.out
    exact ⟨p1.trans (hb4.mono p1.size), p2.keep hb4, p3.keep hb4, p4.keep hb4, p5.keep hb4, p6.keep hb4, p7, hB3 ▸ hbm, hB3 ▸ p6.lt⟩
  rw [hB3]
  clear K3b hbm hb4 hB3 HCT
  have g12 := K4.out.2.1.c12
  have a0 := K4.out.2.2.2.1.c0
  have z0 := K4.out.2.2.1.c0
  have zf0 := K4.out.2.2.1.fr 0
  have a1 := K4.out.2.2.2.1.c1
  have z1 := K4.out.2.2.1.c1
  have zf1 := K4.out.2.2.1.fr 1
  have a2 := K4.out.2.2.2.1.c2
  have z2 := K4.out.2.2.1.c2
  have zf2 := K4.out.2.2.1.fr 2
  have a3 := K4.out.2.2.2.1.c3
  have z3 := K4.out.2.2.1.c3
  have zf3 := K4.out.2.2.1.fr 3
  have a4 := K4.out.2.2.2.1.c4
  have z4 := K4.out.2.2.1.c4
  have zf4 := K4.out.2.2.1.fr 4
  have a5 := K4.out.2.2.2.1.c5
  have z5 := K4.out.2.2.1.c5
  have zf5 := K4.out.2.2.1.fr 5
  have a6 := K4.out.2.2.2.1.c6
  have z6 := K4.out.2.2.1.c6
  have zf6 := K4.out.2.2.1.fr 6
  have a7 := K4.out.2.2.2.1.c7
  have z7 := K4.out.2.2.1.c7
  have zf7 := K4.out.2.2.1.fr 7
  have a8 := K4.out.2.2.2.1.c8
  have z8 := K4.out.2.2.1.c8
  have zf8 := K4.out.2.2.1.fr 8
  have a9 := K4.out.2.2.2.1.c9
  have z9 := K4.out.2.2.1.c9
  have zf9 := K4.out.2.2.1.fr 9
  have a10 := K4.out.2.2.2.1.c10
  have z10 := K4.out.2.2.1.c10
  have zf10 := K4.out.2.2.1.fr 10
  have a11 := K4.out.2.2.2.1.c11
  have z11 := K4.out.2.2.1.c11
  have zf11 := K4.out.2.2.1.fr 11
  have a12 := K4.out.2.2.2.1.c12
  have z12 := K4.out.2.2.1.c12
  have zf12 := K4.out.2.2.1.fr 12
  have af11 := K4.out.2.2.2.1.fr 11
  have af12 := K4.out.2.2.2.1.fr 12
  go_wp2_with fail
  obtain ⟨p1, p2, p3, p4, p5, p6, p7, p8, p9⟩ := K4.out
  refine bodyPost_ret (v := .agg #[.string key, .int .i64 st, .slice (some ⟨w.heap.size + 3, 0, none⟩) hl hl, .slice (some ⟨B2, 0, none⟩) bn bn, .int .i64 t, .int .i64 g, .int .i64 l, .int .i64 s, .int .i64 e, .bool b1, .bool b2, .slice (some ⟨B3, 0, none⟩) tn tn, .int .i64 pins]) ?_ rfl ⟨⟨B2, B3, rfl, (((((((((((((((p5.off1 _ (by omega)).off1 _ (by omega)).off1 _ (by omega)).off1 _ (by omega)).off1 _ (by omega)).off1 _ (by omega)).off1 _ (by omega)).off1 _ (by omega)).off1 _ (by omega)).off1 _ (by omega)).off1 _ (by omega)).off1 _ (by omega)).off1 _ (by omega)).off1 _ (by omega)).off1 _ (by omega)), (((((((((((((((p6.off1 _ (by omega)).off1 _ (by omega)).off1 _ (by omega)).off1 _ (by omega)).off1 _ (by omega)).off1 _ (by omega)).off1 _ (by omega)).off1 _ (by omega)).off1 _ (by omega)).off1 _ (by omega)).off1 _ (by omega)).off1 _ (by omega)).off1 _ (by omega)).off1 _ (by omega)).off1 _ (by omega)), (((((((((((((((p8.off1 _ (by omega)).off1 _ (by omega)).off1 _ (by omega)).off1 _ (by omega)).off1 _ (by omega)).off1 _ (by omega)).off1 _ (by omega)).off1 _ (by omega)).off1 _ (by omega)).off1 _ (by omega)).off1 _ (by omega)).off1 _ (by omega)).off1 _ (by omega)).off1 _ (by omega)).off1 _ (by omega)), p7, p9⟩, (((((((((((((((p1.setCell (by first | (simp; done) | (simp; omega)) _).setCell (by first | (simp; done) | (simp; omega)) _).setCell (by first | (simp; done) | (simp; omega)) _).setCell (by first | (simp; done) | (simp; omega)) _).setCell (by first | (simp; done) | (simp; omega)) _).setCell (by first | (simp; done) | (simp; omega)) _).setCell (by first | (simp; done) | (simp; omega)) _).setCell (by first | (simp; done) | (simp; omega)) _).setCell (by first | (simp; done) | (simp; omega)) _).setCell (by first | (simp; done) | (simp; omega)) _).setCell (by first | (simp; done) | (simp; omega)) _).setCell (by first | (simp; done) | (simp; omega)) _).setCell (by first | (simp; done) | (simp; omega)) _).setCell (by first | (simp; done) | (simp; omega)) _).setCell (by first | (simp; done) | (simp; omega)) _)⟩
  simp [results, Tryz.results20, go_sem, z0, z1, z2, z3, z4, z5, z6, z7, z8, z9, z10, z11, z12]
end Go.Proofs.YtopkidfbkhjaeaaGreatDoor
/-
  Lists of entries, handed over by the laws: room, copies, comparisons.
-/
namespace Go.Proofs.YtopkidfbkhjaeaaGreatDoor
open Go.ChangeShapes Go.WideShapes Go.ChangeAt Go.RowKit Go.Sort
theorem EntsAt.cells {w : World} {b off : Nat} {l : List (Ent × EntR)} (h : EntsAt w b off l) {i : Nat} {q : Ent × EntR} (hq : l[i]? = some q) : w.cell? ⟨b, off + i * 13, none⟩ = some (.string q.1.key) ∧ w.cell? ⟨b, off + i * 13 + 1, none⟩ = some (.int .i64 q.1.st) ∧ w.cell? ⟨b, off + i * 13 + 2, none⟩ = some (.slice q.2.ha q.1.hs.length q.2.hc) ∧ w.cell? ⟨b, off + i * 13 + 3, none⟩ = some (.slice q.2.ba q.1.bl.length q.2.bc) ∧ w.cell? ⟨b, off + i * 13 + 4, none⟩ = some (.int .i64 q.1.t) ∧ w.cell? ⟨b, off + i * 13 + 5, none⟩ = some (.int .i64 q.1.g) ∧ w.cell? ⟨b, off + i * 13 + 6, none⟩ = some (.int .i64 q.1.l) ∧ w.cell? ⟨b, off + i * 13 + 7, none⟩ = some (.int .i64 q.1.s) ∧ w.cell? ⟨b, off + i * 13 + 8, none⟩ = some (.int .i64 q.1.e) ∧ w.cell? ⟨b, off + i * 13 + 9, none⟩ = some (.bool q.1.b1) ∧ w.cell? ⟨b, off + i * 13 + 10, none⟩ = some (.bool q.1.b2) ∧ w.cell? ⟨b, off + i * 13 + 11, none⟩ = some (.slice q.2.ta q.1.ts.length q.2.tc) ∧ w.cell? ⟨b, off + i * 13 + 12, none⟩ = some (.int .i64 q.1.pins) := by
  have c := (h i q hq).1
  exact ⟨c 0 (by omega), c 1 (by omega), c 2 (by omega), c 3 (by omega), c 4 (by omega), c 5 (by omega), c 6 (by omega), c 7 (by omega), c 8 (by omega), c 9 (by omega), c 10 (by omega), c 11 (by omega), c 12 (by omega)⟩
theorem EntsAt.in {w : World} {b off : Nat} {l : List (Ent × EntR)} (h : EntsAt w b off l) {i : Nat} {q : Ent × EntR} (hq : l[i]? = some q) : EntIn w q.1 q.2 := (h i q hq).2
theorem szEntry_q (w : World) (q : Ent × EntR) (left : Int) (h0 : 0 ≤ left) (h1 : left ≤ 1048576) (hs : EntSm q.1) (hi : EntIn w q.1 q.2) :
    Calls Tryz.prog 17 #[.agg #[.string q.1.key, .int .i64 q.1.st, .slice q.2.ha q.1.hs.length q.2.hc, .slice q.2.ba q.1.bl.length q.2.bc, .int .i64 q.1.t, .int .i64 q.1.g, .int .i64 q.1.l, .int .i64 q.1.s, .int .i64 q.1.e, .bool q.1.b1, .bool q.1.b2, .slice q.2.ta q.1.ts.length q.2.tc, .int .i64 q.1.pins], .int .i64 left] w fun r w' => r = .returned (.int .i64 (szE left q.1.key q.1.hs q.1.bl q.1.ts)) ∧ Below w.heap.size w w' :=
  szEntry_any w _ _ _ _ _ _ _ _ _ _ _ _ _ _ _ _ _ _ _ left h0 h1 hs.key hs.hl hs.hs hs.bl hs.tl hs.ts hi.h hi.k
def szEs (c : Int) : List (Ent × EntR) → Int
  | [] => c
  | q :: l => if szE c q.1.key q.1.hs q.1.bl q.1.ts < 0 then -1 else szEs (szE c q.1.key q.1.hs q.1.bl q.1.ts) l
def szEL (left : Int) (l : List (Ent × EntR)) : Int := if left - (l.length : Int) < 0 then -1 else szEs (left - (l.length : Int)) l
end Go.Proofs.YtopkidfbkhjaeaaGreatDoor
/-
  Lists of entries, copied by the laws.
-/
namespace Go.Proofs.YtopkidfbkhjaeaaGreatDoor
open Go.ChangeShapes Go.WideShapes Go.ChangeAt Go.RowKit Go.Sort
def blk : Option Addr → Nat
  | some a => a.block
  | none => 0
def mkR (x : Ent) (B1 B2 B3 : Nat) : EntR := ⟨some ⟨B1, 0, none⟩, x.hs.length, some ⟨B2, 0, none⟩, x.bl.length, some ⟨B3, 0, none⟩, x.ts.length⟩
/-- An entry whose lists are its own. -/
def EntOwn (W : World) (x : Ent) (r : EntR) : Prop := ∃ B1 B2 B3, r = mkR x B1 B2 B3 ∧ QMine W B1 x.hs ∧ BMine W B2 x.bl ∧ TMine W B3 x.ts ∧ B1 < B2 ∧ B2 < B3
theorem EntOwn.keep {W W' : World} {x : Ent} {r : EntR} (h : EntOwn W x r) (hb : Below W.heap.size W W') : EntOwn W' x r := by
  obtain ⟨B1, B2, B3, e, h1, h2, h3, h4⟩ := h
  exact ⟨B1, B2, B3, e, h1.keep hb, h2.keep hb, h3.keep hb, h4⟩
theorem EntOwn.in {W : World} {x : Ent} {r : EntR} (h : EntOwn W x r) : EntIn W x r := by
  obtain ⟨B1, B2, B3, rfl, h1, h2, h3, h4⟩ := h
  exact ⟨.inr ⟨_, _, rfl, h1.at0⟩, h2.in, h3.in, Nat.le_refl _, Nat.le_refl _, Nat.le_refl _⟩
theorem EntOwn.lt {W : World} {x : Ent} {r : EntR} (h : EntOwn W x r) : blk r.ta < W.heap.size := by
  obtain ⟨B1, B2, B3, rfl, h1, h2, h3, h4⟩ := h
  exact h3.lt
theorem EntOwn.off1 {W : World} {x : Ent} {r : EntR} (h : EntOwn W x r) {b i : Nat} (v : Value) (hne : b < blk r.ha) : EntOwn (W.setCell ⟨b, i, none⟩ v) x r := by
  obtain ⟨B1, B2, B3, rfl, h1, h2, h3, h4, h5⟩ := h
  have q : b < B1 := hne
  exact ⟨B1, B2, B3, rfl, h1.off1 v (by omega), h2.off1 v (by omega), h3.off1 v (by omega), h4, h5⟩
/-- A list of entries that is its holder's own. -/
structure EntsMine (W : World) (G : Nat) (l : List (Ent × EntR)) : Prop where
  cell : ∀ (i : Nat) q, l[i]? = some q → ∀ j, j < 13 → W.cell? ⟨G, i * 13 + j, none⟩ = (entW q.1 q.2)[j]?
  free : ∀ o, W.frozen? ⟨G, o, none⟩ = false
  lt : G < W.heap.size
  own : ∀ q ∈ l, EntOwn W q.1 q.2
  up : ∀ q ∈ l, G < blk q.2.ha
  pw : l.Pairwise (fun q q' => blk q.2.ta < blk q'.2.ha)
theorem EntsMine.keep {W W' : World} {G : Nat} {l : List (Ent × EntR)} (h : EntsMine W G l) (hb : Below W.heap.size W W') : EntsMine W' G l :=
  ⟨fun i q hq j hj => by rw [hb.cell (p := ⟨G, i * 13 + j, none⟩) h.lt]; exact h.cell i q hq j hj, fun o => by rw [hb.frozen (p := ⟨G, o, none⟩) h.lt]; exact h.free o, Nat.lt_of_lt_of_le h.lt hb.size, fun q hq => (h.own q hq).keep hb, h.up, h.pw⟩
theorem EntsMine.at0 {W : World} {G : Nat} {l : List (Ent × EntR)} (h : EntsMine W G l) : EntsAt W G 0 l := fun i q hq => ⟨fun j hj => by rw [Nat.zero_add]; exact h.cell i q hq j hj, (h.own q (List.mem_of_getElem? hq)).in⟩
theorem EntsMine.in {W : World} {G : Nat} {l : List (Ent × EntR)} (h : EntsMine W G l) : EntsIn W (some ⟨G, 0, none⟩) l := .inr ⟨G, 0, rfl, h.at0⟩
def put13 (X : World) (G k : Nat) (x0 x1 x2 x3 x4 x5 x6 x7 x8 x9 x10 x11 x12 : Value) : World := (((((((((((((X.setCell ⟨G, k * 13, none⟩ x0).setCell ⟨G, k * 13 + 1, none⟩ x1).setCell ⟨G, k * 13 + 2, none⟩ x2).setCell ⟨G, k * 13 + 3, none⟩ x3).setCell ⟨G, k * 13 + 4, none⟩ x4).setCell ⟨G, k * 13 + 5, none⟩ x5).setCell ⟨G, k * 13 + 6, none⟩ x6).setCell ⟨G, k * 13 + 7, none⟩ x7).setCell ⟨G, k * 13 + 8, none⟩ x8).setCell ⟨G, k * 13 + 9, none⟩ x9).setCell ⟨G, k * 13 + 10, none⟩ x10).setCell ⟨G, k * 13 + 11, none⟩ x11).setCell ⟨G, k * 13 + 12, none⟩ x12)
theorem put13_other (X : World) (G k : Nat) (x0 x1 x2 x3 x4 x5 x6 x7 x8 x9 x10 x11 x12 : Value) (i : Nat) (hi : i < k * 13 ∨ k * 13 + 13 ≤ i) : (put13 X G k x0 x1 x2 x3 x4 x5 x6 x7 x8 x9 x10 x11 x12).cell? ⟨G, i, none⟩ = X.cell? ⟨G, i, none⟩ := by
  unfold put13
  rw [World.cell?_setCell_other _ _ _ _ (hoff_ne (by omega)), World.cell?_setCell_other _ _ _ _ (hoff_ne (by omega)), World.cell?_setCell_other _ _ _ _ (hoff_ne (by omega)), World.cell?_setCell_other _ _ _ _ (hoff_ne (by omega)), World.cell?_setCell_other _ _ _ _ (hoff_ne (by omega)), World.cell?_setCell_other _ _ _ _ (hoff_ne (by omega)), World.cell?_setCell_other _ _ _ _ (hoff_ne (by omega)), World.cell?_setCell_other _ _ _ _ (hoff_ne (by omega)), World.cell?_setCell_other _ _ _ _ (hoff_ne (by omega)), World.cell?_setCell_other _ _ _ _ (hoff_ne (by omega)), World.cell?_setCell_other _ _ _ _ (hoff_ne (by omega)), World.cell?_setCell_other _ _ _ _ (hoff_ne (by omega)), World.cell?_setCell_other _ _ _ _ (hoff_ne (by omega))]
theorem put13_room {X : World} {G n : Nat} (k : Nat) (x0 x1 x2 x3 x4 x5 x6 x7 x8 x9 x10 x11 x12 : Value) (h : HRoom X G n) : HRoom (put13 X G k x0 x1 x2 x3 x4 x5 x6 x7 x8 x9 x10 x11 x12) G n := (((((((((((((h.set _ _).set _ _).set _ _).set _ _).set _ _).set _ _).set _ _).set _ _).set _ _).set _ _).set _ _).set _ _).set _ _)
theorem put13_free (X : World) (G k : Nat) (x0 x1 x2 x3 x4 x5 x6 x7 x8 x9 x10 x11 x12 : Value) (p : Addr) : (put13 X G k x0 x1 x2 x3 x4 x5 x6 x7 x8 x9 x10 x11 x12).frozen? p = X.frozen? p := by
  unfold put13
  rw [World.frozen?_setCell, World.frozen?_setCell, World.frozen?_setCell, World.frozen?_setCell, World.frozen?_setCell, World.frozen?_setCell, World.frozen?_setCell, World.frozen?_setCell, World.frozen?_setCell, World.frozen?_setCell, World.frozen?_setCell, World.frozen?_setCell, World.frozen?_setCell]
theorem put13_size (X : World) (G k : Nat) (x0 x1 x2 x3 x4 x5 x6 x7 x8 x9 x10 x11 x12 : Value) : (put13 X G k x0 x1 x2 x3 x4 x5 x6 x7 x8 x9 x10 x11 x12).heap.size = X.heap.size := by
  unfold put13
  simp
theorem put13_below {w X : World} {n G : Nat} (k : Nat) (x0 x1 x2 x3 x4 x5 x6 x7 x8 x9 x10 x11 x12 : Value) (h : Below n w X) (hn : n ≤ G) : Below n w (put13 X G k x0 x1 x2 x3 x4 x5 x6 x7 x8 x9 x10 x11 x12) := (((((((((((((h.setCell hn _).setCell hn _).setCell hn _).setCell hn _).setCell hn _).setCell hn _).setCell hn _).setCell hn _).setCell hn _).setCell hn _).setCell hn _).setCell hn _).setCell hn _)
theorem put13_cells {X : World} {G n : Nat} (k : Nat) (x0 x1 x2 x3 x4 x5 x6 x7 x8 x9 x10 x11 x12 : Value) (h : HRoom X G n) (hk : k * 13 + 13 ≤ n) : (put13 X G k x0 x1 x2 x3 x4 x5 x6 x7 x8 x9 x10 x11 x12).cell? ⟨G, k * 13, none⟩ = some x0 ∧ (put13 X G k x0 x1 x2 x3 x4 x5 x6 x7 x8 x9 x10 x11 x12).cell? ⟨G, k * 13 + 1, none⟩ = some x1 ∧ (put13 X G k x0 x1 x2 x3 x4 x5 x6 x7 x8 x9 x10 x11 x12).cell? ⟨G, k * 13 + 2, none⟩ = some x2 ∧ (put13 X G k x0 x1 x2 x3 x4 x5 x6 x7 x8 x9 x10 x11 x12).cell? ⟨G, k * 13 + 3, none⟩ = some x3 ∧ (put13 X G k x0 x1 x2 x3 x4 x5 x6 x7 x8 x9 x10 x11 x12).cell? ⟨G, k * 13 + 4, none⟩ = some x4 ∧ (put13 X G k x0 x1 x2 x3 x4 x5 x6 x7 x8 x9 x10 x11 x12).cell? ⟨G, k * 13 + 5, none⟩ = some x5 ∧ (put13 X G k x0 x1 x2 x3 x4 x5 x6 x7 x8 x9 x10 x11 x12).cell? ⟨G, k * 13 + 6, none⟩ = some x6 ∧ (put13 X G k x0 x1 x2 x3 x4 x5 x6 x7 x8 x9 x10 x11 x12).cell? ⟨G, k * 13 + 7, none⟩ = some x7 ∧ (put13 X G k x0 x1 x2 x3 x4 x5 x6 x7 x8 x9 x10 x11 x12).cell? ⟨G, k * 13 + 8, none⟩ = some x8 ∧ (put13 X G k x0 x1 x2 x3 x4 x5 x6 x7 x8 x9 x10 x11 x12).cell? ⟨G, k * 13 + 9, none⟩ = some x9 ∧ (put13 X G k x0 x1 x2 x3 x4 x5 x6 x7 x8 x9 x10 x11 x12).cell? ⟨G, k * 13 + 10, none⟩ = some x10 ∧ (put13 X G k x0 x1 x2 x3 x4 x5 x6 x7 x8 x9 x10 x11 x12).cell? ⟨G, k * 13 + 11, none⟩ = some x11 ∧ (put13 X G k x0 x1 x2 x3 x4 x5 x6 x7 x8 x9 x10 x11 x12).cell? ⟨G, k * 13 + 12, none⟩ = some x12 := by
  refine ⟨?_, ?_, ?_, ?_, ?_, ?_, ?_, ?_, ?_, ?_, ?_, ?_, ?_⟩
  · obtain ⟨⟨u, g⟩, _⟩ := h (k * 13) (by omega)
    unfold put13
    rw [World.cell?_setCell_other _ _ _ _ (hoff_ne (by omega)), World.cell?_setCell_other _ _ _ _ (hoff_ne (by omega)), World.cell?_setCell_other _ _ _ _ (hoff_ne (by omega)), World.cell?_setCell_other _ _ _ _ (hoff_ne (by omega)), World.cell?_setCell_other _ _ _ _ (hoff_ne (by omega)), World.cell?_setCell_other _ _ _ _ (hoff_ne (by omega)), World.cell?_setCell_other _ _ _ _ (hoff_ne (by omega)), World.cell?_setCell_other _ _ _ _ (hoff_ne (by omega)), World.cell?_setCell_other _ _ _ _ (hoff_ne (by omega)), World.cell?_setCell_other _ _ _ _ (hoff_ne (by omega)), World.cell?_setCell_other _ _ _ _ (hoff_ne (by omega)), World.cell?_setCell_other _ _ _ _ (hoff_ne (by omega))]
    exact World.cell?_setCell_same _ _ _ g
  · obtain ⟨⟨u, g⟩, _⟩ := (h.set ⟨G, k * 13, none⟩ x0) (k * 13 + 1) (by omega)
    unfold put13
    rw [World.cell?_setCell_other _ _ _ _ (hoff_ne (by omega)), World.cell?_setCell_other _ _ _ _ (hoff_ne (by omega)), World.cell?_setCell_other _ _ _ _ (hoff_ne (by omega)), World.cell?_setCell_other _ _ _ _ (hoff_ne (by omega)), World.cell?_setCell_other _ _ _ _ (hoff_ne (by omega)), World.cell?_setCell_other _ _ _ _ (hoff_ne (by omega)), World.cell?_setCell_other _ _ _ _ (hoff_ne (by omega)), World.cell?_setCell_other _ _ _ _ (hoff_ne (by omega)), World.cell?_setCell_other _ _ _ _ (hoff_ne (by omega)), World.cell?_setCell_other _ _ _ _ (hoff_ne (by omega)), World.cell?_setCell_other _ _ _ _ (hoff_ne (by omega))]
    exact World.cell?_setCell_same _ _ _ g
  · obtain ⟨⟨u, g⟩, _⟩ := ((h.set ⟨G, k * 13, none⟩ x0).set ⟨G, k * 13 + 1, none⟩ x1) (k * 13 + 2) (by omega)
    unfold put13
    rw [World.cell?_setCell_other _ _ _ _ (hoff_ne (by omega)), World.cell?_setCell_other _ _ _ _ (hoff_ne (by omega)), World.cell?_setCell_other _ _ _ _ (hoff_ne (by omega)), World.cell?_setCell_other _ _ _ _ (hoff_ne (by omega)), World.cell?_setCell_other _ _ _ _ (hoff_ne (by omega)), World.cell?_setCell_other _ _ _ _ (hoff_ne (by omega)), World.cell?_setCell_other _ _ _ _ (hoff_ne (by omega)), World.cell?_setCell_other _ _ _ _ (hoff_ne (by omega)), World.cell?_setCell_other _ _ _ _ (hoff_ne (by omega)), World.cell?_setCell_other _ _ _ _ (hoff_ne (by omega))]
    exact World.cell?_setCell_same _ _ _ g
  · obtain ⟨⟨u, g⟩, _⟩ := (((h.set ⟨G, k * 13, none⟩ x0).set ⟨G, k * 13 + 1, none⟩ x1).set ⟨G, k * 13 + 2, none⟩ x2) (k * 13 + 3) (by omega)
    unfold put13
    rw [World.cell?_setCell_other _ _ _ _ (hoff_ne (by omega)), World.cell?_setCell_other _ _ _ _ (hoff_ne (by omega)), World.cell?_setCell_other _ _ _ _ (hoff_ne (by omega)), World.cell?_setCell_other _ _ _ _ (hoff_ne (by omega)), World.cell?_setCell_other _ _ _ _ (hoff_ne (by omega)), World.cell?_setCell_other _ _ _ _ (hoff_ne (by omega)), World.cell?_setCell_other _ _ _ _ (hoff_ne (by omega)), World.cell?_setCell_other _ _ _ _ (hoff_ne (by omega)), World.cell?_setCell_other _ _ _ _ (hoff_ne (by omega))]
    exact World.cell?_setCell_same _ _ _ g
  · obtain ⟨⟨u, g⟩, _⟩ := ((((h.set ⟨G, k * 13, none⟩ x0).set ⟨G, k * 13 + 1, none⟩ x1).set ⟨G, k * 13 + 2, none⟩ x2).set ⟨G, k * 13 + 3, none⟩ x3) (k * 13 + 4) (by omega)
    unfold put13
    rw [World.cell?_setCell_other _ _ _ _ (hoff_ne (by omega)), World.cell?_setCell_other _ _ _ _ (hoff_ne (by omega)), World.cell?_setCell_other _ _ _ _ (hoff_ne (by omega)), World.cell?_setCell_other _ _ _ _ (hoff_ne (by omega)), World.cell?_setCell_other _ _ _ _ (hoff_ne (by omega)), World.cell?_setCell_other _ _ _ _ (hoff_ne (by omega)), World.cell?_setCell_other _ _ _ _ (hoff_ne (by omega)), World.cell?_setCell_other _ _ _ _ (hoff_ne (by omega))]
    exact World.cell?_setCell_same _ _ _ g
  · obtain ⟨⟨u, g⟩, _⟩ := (((((h.set ⟨G, k * 13, none⟩ x0).set ⟨G, k * 13 + 1, none⟩ x1).set ⟨G, k * 13 + 2, none⟩ x2).set ⟨G, k * 13 + 3, none⟩ x3).set ⟨G, k * 13 + 4, none⟩ x4) (k * 13 + 5) (by omega)
    unfold put13
    rw [World.cell?_setCell_other _ _ _ _ (hoff_ne (by omega)), World.cell?_setCell_other _ _ _ _ (hoff_ne (by omega)), World.cell?_setCell_other _ _ _ _ (hoff_ne (by omega)), World.cell?_setCell_other _ _ _ _ (hoff_ne (by omega)), World.cell?_setCell_other _ _ _ _ (hoff_ne (by omega)), World.cell?_setCell_other _ _ _ _ (hoff_ne (by omega)), World.cell?_setCell_other _ _ _ _ (hoff_ne (by omega))]
    exact World.cell?_setCell_same _ _ _ g
  · obtain ⟨⟨u, g⟩, _⟩ := ((((((h.set ⟨G, k * 13, none⟩ x0).set ⟨G, k * 13 + 1, none⟩ x1).set ⟨G, k * 13 + 2, none⟩ x2).set ⟨G, k * 13 + 3, none⟩ x3).set ⟨G, k * 13 + 4, none⟩ x4).set ⟨G, k * 13 + 5, none⟩ x5) (k * 13 + 6) (by omega)
    unfold put13
    rw [World.cell?_setCell_other _ _ _ _ (hoff_ne (by omega)), World.cell?_setCell_other _ _ _ _ (hoff_ne (by omega)), World.cell?_setCell_other _ _ _ _ (hoff_ne (by omega)), World.cell?_setCell_other _ _ _ _ (hoff_ne (by omega)), World.cell?_setCell_other _ _ _ _ (hoff_ne (by omega)), World.cell?_setCell_other _ _ _ _ (hoff_ne (by omega))]
    exact World.cell?_setCell_same _ _ _ g
  · obtain ⟨⟨u, g⟩, _⟩ := (((((((h.set ⟨G, k * 13, none⟩ x0).set ⟨G, k * 13 + 1, none⟩ x1).set ⟨G, k * 13 + 2, none⟩ x2).set ⟨G, k * 13 + 3, none⟩ x3).set ⟨G, k * 13 + 4, none⟩ x4).set ⟨G, k * 13 + 5, none⟩ x5).set ⟨G, k * 13 + 6, none⟩ x6) (k * 13 + 7) (by omega)
    unfold put13
    rw [World.cell?_setCell_other _ _ _ _ (hoff_ne (by omega)), World.cell?_setCell_other _ _ _ _ (hoff_ne (by omega)), World.cell?_setCell_other _ _ _ _ (hoff_ne (by omega)), World.cell?_setCell_other _ _ _ _ (hoff_ne (by omega)), World.cell?_setCell_other _ _ _ _ (hoff_ne (by omega))]
    exact World.cell?_setCell_same _ _ _ g
  · obtain ⟨⟨u, g⟩, _⟩ := ((((((((h.set ⟨G, k * 13, none⟩ x0).set ⟨G, k * 13 + 1, none⟩ x1).set ⟨G, k * 13 + 2, none⟩ x2).set ⟨G, k * 13 + 3, none⟩ x3).set ⟨G, k * 13 + 4, none⟩ x4).set ⟨G, k * 13 + 5, none⟩ x5).set ⟨G, k * 13 + 6, none⟩ x6).set ⟨G, k * 13 + 7, none⟩ x7) (k * 13 + 8) (by omega)
    unfold put13
    rw [World.cell?_setCell_other _ _ _ _ (hoff_ne (by omega)), World.cell?_setCell_other _ _ _ _ (hoff_ne (by omega)), World.cell?_setCell_other _ _ _ _ (hoff_ne (by omega)), World.cell?_setCell_other _ _ _ _ (hoff_ne (by omega))]
    exact World.cell?_setCell_same _ _ _ g
  · obtain ⟨⟨u, g⟩, _⟩ := (((((((((h.set ⟨G, k * 13, none⟩ x0).set ⟨G, k * 13 + 1, none⟩ x1).set ⟨G, k * 13 + 2, none⟩ x2).set ⟨G, k * 13 + 3, none⟩ x3).set ⟨G, k * 13 + 4, none⟩ x4).set ⟨G, k * 13 + 5, none⟩ x5).set ⟨G, k * 13 + 6, none⟩ x6).set ⟨G, k * 13 + 7, none⟩ x7).set ⟨G, k * 13 + 8, none⟩ x8) (k * 13 + 9) (by omega)
    unfold put13
    rw [World.cell?_setCell_other _ _ _ _ (hoff_ne (by omega)), World.cell?_setCell_other _ _ _ _ (hoff_ne (by omega)), World.cell?_setCell_other _ _ _ _ (hoff_ne (by omega))]
    exact World.cell?_setCell_same _ _ _ g
  · obtain ⟨⟨u, g⟩, _⟩ := ((((((((((h.set ⟨G, k * 13, none⟩ x0).set ⟨G, k * 13 + 1, none⟩ x1).set ⟨G, k * 13 + 2, none⟩ x2).set ⟨G, k * 13 + 3, none⟩ x3).set ⟨G, k * 13 + 4, none⟩ x4).set ⟨G, k * 13 + 5, none⟩ x5).set ⟨G, k * 13 + 6, none⟩ x6).set ⟨G, k * 13 + 7, none⟩ x7).set ⟨G, k * 13 + 8, none⟩ x8).set ⟨G, k * 13 + 9, none⟩ x9) (k * 13 + 10) (by omega)
    unfold put13
    rw [World.cell?_setCell_other _ _ _ _ (hoff_ne (by omega)), World.cell?_setCell_other _ _ _ _ (hoff_ne (by omega))]
    exact World.cell?_setCell_same _ _ _ g
  · obtain ⟨⟨u, g⟩, _⟩ := (((((((((((h.set ⟨G, k * 13, none⟩ x0).set ⟨G, k * 13 + 1, none⟩ x1).set ⟨G, k * 13 + 2, none⟩ x2).set ⟨G, k * 13 + 3, none⟩ x3).set ⟨G, k * 13 + 4, none⟩ x4).set ⟨G, k * 13 + 5, none⟩ x5).set ⟨G, k * 13 + 6, none⟩ x6).set ⟨G, k * 13 + 7, none⟩ x7).set ⟨G, k * 13 + 8, none⟩ x8).set ⟨G, k * 13 + 9, none⟩ x9).set ⟨G, k * 13 + 10, none⟩ x10) (k * 13 + 11) (by omega)
    unfold put13
    rw [World.cell?_setCell_other _ _ _ _ (hoff_ne (by omega))]
    exact World.cell?_setCell_same _ _ _ g
  · obtain ⟨⟨u, g⟩, _⟩ := ((((((((((((h.set ⟨G, k * 13, none⟩ x0).set ⟨G, k * 13 + 1, none⟩ x1).set ⟨G, k * 13 + 2, none⟩ x2).set ⟨G, k * 13 + 3, none⟩ x3).set ⟨G, k * 13 + 4, none⟩ x4).set ⟨G, k * 13 + 5, none⟩ x5).set ⟨G, k * 13 + 6, none⟩ x6).set ⟨G, k * 13 + 7, none⟩ x7).set ⟨G, k * 13 + 8, none⟩ x8).set ⟨G, k * 13 + 9, none⟩ x9).set ⟨G, k * 13 + 10, none⟩ x10).set ⟨G, k * 13 + 11, none⟩ x11) (k * 13 + 12) (by omega)
    unfold put13
    exact World.cell?_setCell_same _ _ _ g
def putE (X : World) (G k : Nat) (x : Ent) (r : EntR) : World := put13 X G k (.string x.key) (.int .i64 x.st) (.slice r.ha x.hs.length r.hc) (.slice r.ba x.bl.length r.bc) (.int .i64 x.t) (.int .i64 x.g) (.int .i64 x.l) (.int .i64 x.s) (.int .i64 x.e) (.bool x.b1) (.bool x.b2) (.slice r.ta x.ts.length r.tc) (.int .i64 x.pins)
theorem putE_own {X : World} {G k : Nat} {y : Ent} {s : EntR} (x : Ent) (r : EntR) (hk : EntOwn X y s) (h : G < blk s.ha) : EntOwn (putE X G k x r) y s := (((((((((((((hk.off1 _ h).off1 _ h).off1 _ h).off1 _ h).off1 _ h).off1 _ h).off1 _ h).off1 _ h).off1 _ h).off1 _ h).off1 _ h).off1 _ h).off1 _ h)
theorem EntsMine.put {W : World} {G n : Nat} {l : List (Ent × EntR)} (h : EntsMine W G l) (x : Ent) (r : EntR) (hm : HRoom W G n) (hn : l.length * 13 + 13 ≤ n) (ho : EntOwn W x r) (hu : G < blk r.ha) (hp : ∀ q ∈ l, blk q.2.ta < blk r.ha) : EntsMine (putE W G l.length x r) G (l ++ [(x, r)]) := by
  refine ⟨?_, fun o => ?_, ?_, ?_, ?_, ?_⟩
  · intro i q hq j hj
    have hi : i < l.length + 1 := by have := (List.getElem?_eq_some_iff.1 hq).1; simpa using this
    by_cases e : i = l.length
    · subst e
      rw [List.getElem?_append_right (Nat.le_refl _), Nat.sub_self] at hq
      obtain rfl := Option.some.inj hq
      have c := put13_cells l.length (.string x.key) (.int .i64 x.st) (.slice r.ha x.hs.length r.hc) (.slice r.ba x.bl.length r.bc) (.int .i64 x.t) (.int .i64 x.g) (.int .i64 x.l) (.int .i64 x.s) (.int .i64 x.e) (.bool x.b1) (.bool x.b2) (.slice r.ta x.ts.length r.tc) (.int .i64 x.pins) hm hn
      match j, hj with
      | 0, _ => exact c.1
      | 1, _ => exact c.2.1
      | 2, _ => exact c.2.2.1
      | 3, _ => exact c.2.2.2.1
      | 4, _ => exact c.2.2.2.2.1
      | 5, _ => exact c.2.2.2.2.2.1
      | 6, _ => exact c.2.2.2.2.2.2.1
      | 7, _ => exact c.2.2.2.2.2.2.2.1
      | 8, _ => exact c.2.2.2.2.2.2.2.2.1
      | 9, _ => exact c.2.2.2.2.2.2.2.2.2.1
      | 10, _ => exact c.2.2.2.2.2.2.2.2.2.2.1
      | 11, _ => exact c.2.2.2.2.2.2.2.2.2.2.2.1
      | 12, _ => exact c.2.2.2.2.2.2.2.2.2.2.2.2
    · rw [List.getElem?_append_left (by omega)] at hq
      have c := h.cell i q hq j hj
      unfold putE
      rw [put13_other _ _ _ _ _ _ _ _ _ _ _ _ _ _ _ _ _ (by omega)]
      exact c
  · unfold putE; rw [put13_free]; exact h.free o
  · unfold putE; rw [put13_size]; exact h.lt
  · intro q hq
    rcases List.mem_append.1 hq with hq | hq
    · exact putE_own _ _ (h.own q hq) (h.up q hq)
    · obtain rfl := List.mem_singleton.1 hq
      exact putE_own _ _ ho hu
  · intro q hq
    rcases List.mem_append.1 hq with hq | hq
    · exact h.up q hq
    · obtain rfl := List.mem_singleton.1 hq
      exact hu
  · refine List.pairwise_append.2 ⟨h.pw, List.pairwise_singleton _ _, fun q hq q' hq' => ?_⟩
    obtain rfl := List.mem_singleton.1 hq'
    exact hp q hq
theorem toEntry_q (w : World) (q : Ent × EntR) (h1 : q.1.hs.length ≤ 1048576) (h2 : q.1.bl.length ≤ 1048576) (h3 : q.1.ts.length ≤ 1048576) (hi : EntIn w q.1 q.2) :
    Calls Tryz.prog 20 #[.agg #[.string q.1.key, .int .i64 q.1.st, .slice q.2.ha q.1.hs.length q.2.hc, .slice q.2.ba q.1.bl.length q.2.bc, .int .i64 q.1.t, .int .i64 q.1.g, .int .i64 q.1.l, .int .i64 q.1.s, .int .i64 q.1.e, .bool q.1.b1, .bool q.1.b2, .slice q.2.ta q.1.ts.length q.2.tc, .int .i64 q.1.pins]] w fun ee w' => (∃ r, ee = .returned (entV q.1 r) ∧ EntOwn w' q.1 r ∧ w.heap.size < blk r.ha) ∧ Below w.heap.size w w' := by
  refine (toEntry_any w _ _ _ _ _ _ _ _ _ _ _ _ _ _ _ _ _ _ _ h1 h2 h3 hi.h hi.b hi.k).mono ?_
  rintro ee w' ⟨⟨B2, B3, rfl, a, b, c, d, e⟩, hb⟩
  exact ⟨⟨mkR q.1 (w.heap.size + 3) B2 B3, rfl, ⟨_, B2, B3, rfl, a, b, c, d, e⟩, by show w.heap.size < w.heap.size + 3; omega⟩, hb⟩
theorem infoEntry : (Tryz.prog.info? 56).map (fun i => (i.zero, i.size, i.bytes)) = some (some (.agg #[.string ⟨#[]⟩, .int .i64 0, .slice none 0 0, .slice none 0 0, .int .i64 0, .int .i64 0, .int .i64 0, .int .i64 0, .int .i64 0, .bool false, .bool false, .slice none 0 0, .int .i64 0]), 13, 152) := by kernel_rfl
/-- What fits. -/
structure EntFit (x : Ent) : Prop where
  h : x.hs.length ≤ 1048576
  b : x.bl.length ≤ 1048576
  t : x.ts.length ≤ 1048576
end Go.Proofs.YtopkidfbkhjaeaaGreatDoor
/-
  Two lists of entries that are alike, compared by the laws.
-/
namespace Go.Proofs.YtopkidfbkhjaeaaGreatDoor
open Go.ChangeShapes Go.WideShapes Go.ChangeAt Go.RowKit Go.Sort
theorem eqEntry_q (w : World) (x : Ent) (r1 r2 : EntR) (hf : EntFit x) (h1 : EntIn w x r1) (h2 : EntIn w x r2) :
    Calls Tryz.prog 24 #[.agg #[.string x.key, .int .i64 x.st, .slice r1.ha x.hs.length r1.hc, .slice r1.ba x.bl.length r1.bc, .int .i64 x.t, .int .i64 x.g, .int .i64 x.l, .int .i64 x.s, .int .i64 x.e, .bool x.b1, .bool x.b2, .slice r1.ta x.ts.length r1.tc, .int .i64 x.pins], .agg #[.string x.key, .int .i64 x.st, .slice r2.ha x.hs.length r2.hc, .slice r2.ba x.bl.length r2.bc, .int .i64 x.t, .int .i64 x.g, .int .i64 x.l, .int .i64 x.s, .int .i64 x.e, .bool x.b1, .bool x.b2, .slice r2.ta x.ts.length r2.tc, .int .i64 x.pins]] w fun r w' => r = .returned (.bool true) ∧ Below w.heap.size w w' :=
  eqEntry_same w _ _ _ _ _ _ _ _ _ _ _ _ _ _ _ _ _ _ _ _ _ _ _ _ _ hf.h hf.b hf.t h1.h h2.h h1.b h2.b h1.k h2.k
end Go.Proofs.YtopkidfbkhjaeaaGreatDoor
/-
  Appending, for whatever element: what is appended may be nil.
-/
namespace Go.Proofs.YtopkidfbkhjaeaaGreatDoor
open Go.ChangeShapes Go.WideShapes Go.ChangeAt Go.RowKit Go.Sort
theorem row_ge {w : World} {base : Nat} {e : TypeId} {size : Nat} {v : Value} {n : Nat} {xs : List Value} (h : w.ownsRow base e size v n xs) (q : Nat) (hq : v.ownBlock = some q) : base ≤ q := (World.ownsRow.lt h q hq).1
theorem row_form {w : World} {base : Nat} {e : TypeId} {size : Nat} {v : Value} {n : Nat} {xs : List Value} (h : w.ownsRow base e size v n xs) : ∃ va vc, v = .slice va n vc ∧ n ≤ vc := by
  obtain ⟨_, h1 | ⟨g, c2, cur, e2, _, _, hc2, _⟩⟩ := h
  · obtain ⟨rfl, rfl⟩ := h1
    exact ⟨none, 0, rfl, Nat.le_refl _⟩
  · exact ⟨_, c2, e2, hc2⟩
theorem row_below {w w' : World} {base : Nat} {e : TypeId} {size : Nat} {v : Value} {n : Nat} {xs : List Value} (h : w.ownsRow base e size v n xs) (hb : Below w.heap.size w w') : w'.ownsRow base e size v n xs := by
  obtain ⟨h1, h2⟩ := h
  refine ⟨h1, ?_⟩
  rcases h2 with h2 | ⟨g, c, cur, e, hg, hh, hrest⟩
  · exact .inl h2
  · exact .inr ⟨g, c, cur, e, hg, by rw [hb.block g (Array.getElem?_eq_some_iff.1 hh).1]; exact hh, hrest⟩
theorem row_lower {w : World} {b0 base : Nat} {e : TypeId} {size : Nat} {v : Value} {n : Nat} {xs : List Value} (h : w.ownsRow base e size v n xs) (hb : b0 ≤ base) : w.ownsRow b0 e size v n xs := by
  obtain ⟨h1, h2⟩ := h
  refine ⟨h1, ?_⟩
  rcases h2 with h2 | ⟨g, c, cur, e, hg, hrest⟩
  · exact .inl h2
  · exact .inr ⟨g, c, cur, e, by omega, hrest⟩
theorem row_zero {P : Program} (w : World) (t ty e : TypeId) (i : TypeInfo) (ht : P.underlying t = some (.slice e)) (hi : P.info? e = some i) (base : Option Addr) (n k : Nat) (hle : n ≤ k) (pb : Option Addr) (c : Nat) :
    (Builtin.append_ #[t, t] ty #[.slice base n k, .slice pb 0 c]).run P w = .ok (.slice base n k) w := by
  cases base <;> cases pb <;> simp [Builtin.append_, run_underlying ht, sizeOf, typeInfo, hi, Builtin.lenOf, Builtin.firstCells, hle, storeCells, loadCells, loadCellsFrom]
section
variable {P : Program}
theorem wp_append_in {o : Oper} {a : Act} {K : Act → World → Prop} {Q : Exit → Act → World → Prop} (w : World) (s x : Operand) (t e : TypeId)
    (ho : o.op = .call { callee := .builtin .append, args := #[s, x], argTypes := #[t, t] })
    (i : TypeInfo) (z : Value) (size bytes : Nat) (ht : P.underlying t = some (.slice e)) (hi : P.info? e = some i) (hz : i.zero = some z) (hsize : i.size = size) (hby : i.bytes = bytes) (hzs : z.cells.size = size) (hsz : 0 < size)
    (base : Nat) (v : Value) (n : Nat) (xs : List Value) (hs : a.eval s = v) (hown : w.ownsRow base e size v n xs)
    (pa : Option Addr) (cap m : Nat) (news : List Value) (hx : a.eval x = .slice pa m cap) (hl : news.length = m * size) (hnews : m = 0 ∨ ∃ ad, pa = some ad ∧ ∀ j u, news[j]? = some u → w.cell? (ad.add j) = some u) (h1 : ∀ u ∈ news, u.oneCell' = true)
    (h63 : n + m ≤ maxLen) (hbytes : (n + m) * bytes ≤ 140737488355328) (hbase : base ≤ w.heap.size)
    (h : ∀ v' w', w'.ownsRow base e size v' (n + m) (xs ++ news) → Below base w w' → (∀ b o, b < w.heap.size → v.ownBlock ≠ some b → w'.cell? ⟨b, o, none⟩ = w.cell? ⟨b, o, none⟩ ∧ w'.frozen? ⟨b, o, none⟩ = w.frozen? ⟨b, o, none⟩) → K (a.put o.dst v') w') :
    Oper.wp P o a w K Q := by
  by_cases h0 : m = 0
  · subst h0
    obtain ⟨va, vc, rfl, hle⟩ := row_form hown
    have en : news = [] := List.eq_nil_of_length_eq_zero (by rw [hl, Nat.zero_mul])
    subst en
    unfold Oper.wp execOp
    simp only [ho, resolve, invoke, builtin, Sem.run_bind, Sem.run_pure, Result.andThen_ok, List.map_toArray, List.map_cons, List.map_nil, hs, hx]
    rw [row_zero w t _ e i ht hi va n vc hle pa cap]
    exact h _ w (by simpa using hown) (Below.refl _ _) (fun _ _ _ _ => ⟨rfl, rfl⟩)
  · rcases hnews with hnews | ⟨ad, rfl, hnews⟩
    · exact absurd hnews h0
    · refine wp_append_lies w s x t ho base e i z size bytes ht hi hz hsize hby hzs hsz v n xs hs hown ad m cap news hx hl hnews h1 (by omega) h63 hbytes hbase _ rfl ?_
      intro g c w' h1 h2 h3 h4
      exact h _ w' h1 ((Below.refl base w).grown h2 hbase (fun q hq => row_ge hown q hq)) (fun b o hb hne => ⟨h2.cell_far ⟨b, o, none⟩ hb hne.symm, h2.frozen_far ⟨b, o, none⟩ hb hne.symm⟩)
theorem step_append_in {ops : Array Oper} {o : Oper} {a : Act} {K : Act → World → Prop} {Q : Exit → Act → World → Prop} {E : Prop} (w : World) (hgd : o.guard = none) (s x : Operand) (t e : TypeId)
    (ho : o.op = .call { callee := .builtin .append, args := #[s, x], argTypes := #[t, t] })
    (i : TypeInfo) (z : Value) (size bytes : Nat) (ht : P.underlying t = some (.slice e)) (hi : P.info? e = some i) (hz : i.zero = some z) (hsize : i.size = size) (hby : i.bytes = bytes) (hzs : z.cells.size = size) (hsz : 0 < size)
    (base : Nat) (v : Value) (n : Nat) (xs : List Value) (hs : a.eval s = v) (hown : w.ownsRow base e size v n xs)
    (pa : Option Addr) (cap m : Nat) (news : List Value) (hx : a.eval x = .slice pa m cap) (hl : news.length = m * size) (hnews : m = 0 ∨ ∃ ad, pa = some ad ∧ ∀ j u, news[j]? = some u → w.cell? (ad.add j) = some u) (h1 : ∀ u ∈ news, u.oneCell' = true)
    (h63 : n + m ≤ maxLen) (hbytes : (n + m) * bytes ≤ 140737488355328) (hbase : base ≤ w.heap.size)
    (h : ∀ v' w', w'.ownsRow base e size v' (n + m) (xs ++ news) → Below base w w' → (∀ b o, b < w.heap.size → v.ownBlock ≠ some b → w'.cell? ⟨b, o, none⟩ = w.cell? ⟨b, o, none⟩ ∧ w'.frozen? ⟨b, o, none⟩ = w.frozen? ⟨b, o, none⟩) → K (a.put o.dst v') w') :
    if Region.wanted o (yielded ops a.tmps) = true then Oper.wp P o a w K Q else E := by
  have hw : Region.wanted o (yielded ops a.tmps) = true := by simp [Region.wanted, hgd]
  rw [if_pos hw]
  exact wp_append_in w s x t e ho i z size bytes ht hi hz hsize hby hzs hsz base v n xs hs hown pa cap m news hx hl hnews h1 h63 hbytes hbase h
end
end Go.Proofs.YtopkidfbkhjaeaaGreatDoor
/-
  Contracts of Go library functions at this program: the tables by which the library of proofs knows its functions here (made by the kit tool lay-plain).
-/
namespace Go.Proofs
open Go.Shelf
def Tryz.lays156_ren : Go.Shelf.Ren := ⟨fun | 156 => 197 | 165 => 230 | 166 => 231 | 169 => 232 | 240 => 251 | 241 => 252 | 276 => 276 | 277 => 277 | n => n, fun | 31 => 43 | 9 => 9 | 3 => 3 | 4 => 4 | 0 => 0 | 20 => 20 | 72 => 271 | 76 => 273 | 70 => 269 | 37 => 23 | 75 => 119 | 127 => 241 | 164 => 202 | 5 => 5 | 80 => 275 | n => n, fun | n => n⟩
theorem Tryz.lays156 : Go.Proofs.Lays.n156 Tryz.prog Tryz.lays156_ren := {
  mixed := by kernel_rfl
  f156 := Tryz.func197.trans (congrArg some (by kernel_rfl))
  f165 := Tryz.func230.trans (congrArg some (by kernel_rfl))
  f166 := Tryz.func231.trans (congrArg some (by kernel_rfl))
  f169 := Tryz.func232.trans (congrArg some (by kernel_rfl))
  f240 := Tryz.func251.trans (congrArg some (by kernel_rfl))
  f241 := Tryz.func252.trans (congrArg some (by kernel_rfl))
  f276 := Tryz.func276.trans (congrArg some (by kernel_rfl))
  f277 := Tryz.func277.trans (congrArg some (by kernel_rfl))
  t0 := Tryz.underlying0
  a0 := Tryz.isAgg0
  z0 := Tryz.sizeOf0
  v0 := Tryz.zeroValue0
  t3 := Tryz.underlying3
  a3 := Tryz.isAgg3
  z3 := Tryz.sizeOf3
  v3 := Tryz.zeroValue3
  t4 := Tryz.underlying4
  a4 := Tryz.isAgg4
  z4 := Tryz.sizeOf4
  v4 := Tryz.zeroValue4
  t9 := Tryz.underlying9
  a9 := Tryz.isAgg9
  z9 := Tryz.sizeOf9
  v9 := Tryz.zeroValue9
  t20 := Tryz.underlying20
  a20 := Tryz.isAgg20
  z20 := Tryz.sizeOf20
  v20 := Tryz.zeroValue20
  t31 := Tryz.underlying43
  a31 := Tryz.isAgg43
  z31 := Tryz.sizeOf43
  v31 := Tryz.zeroValue43
  t37 := Tryz.underlying23
  a37 := Tryz.isAgg23
  z37 := Tryz.sizeOf23
  v37 := Tryz.zeroValue23
  t70 := Tryz.underlying269
  a70 := Tryz.isAgg269
  z70 := Tryz.sizeOf269
  v70 := Tryz.zeroValue269
  t72 := Tryz.underlying271
  a72 := Tryz.isAgg271
  z72 := Tryz.sizeOf271
  v72 := Tryz.zeroValue271
  t75 := Tryz.underlying119
  a75 := Tryz.isAgg119
  z75 := Tryz.sizeOf119
  v75 := Tryz.zeroValue119
  t76 := Tryz.underlying273
  a76 := Tryz.isAgg273
  z76 := Tryz.sizeOf273
  v76 := Tryz.zeroValue273
  t127 := Tryz.underlying241
  a127 := Tryz.isAgg241
  z127 := Tryz.sizeOf241
  v127 := Tryz.zeroValue241
  t164 := Tryz.underlying202
  a164 := Tryz.isAgg202
  z164 := Tryz.sizeOf202
  v164 := Tryz.zeroValue202 }
def Tryz.lays160_ren : Go.Shelf.Ren := ⟨fun | 160 => 140 | 232 => 185 | 231 => 184 | 227 => 186 | 234 => 188 | 233 => 187 | 236 => 190 | 235 => 189 | 228 => 224 | 271 => 227 | 151 => 226 | 197 => 225 | 120 => 249 | 152 => 248 | 260 => 247 | 137 => 272 | 119 => 273 | 224 => 274 | 225 => 275 | 217 => 294 | 266 => 301 | n => n, fun | 9 => 9 | 4 => 4 | 3 => 3 | 5 => 5 | 117 => 232 | 116 => 231 | 0 => 0 | 124 => 235 | 21 => 21 | 105 => 266 | 46 => 311 | 119 => 313 | 139 => 316 | 138 => 315 | n => n, fun | 3 => 7 | 4 => 8 | n => n⟩
theorem Tryz.lays160 : Go.Proofs.Lays.n160 Tryz.prog Tryz.lays160_ren := {
  mixed := by kernel_rfl
  f119 := Tryz.func273.trans (congrArg some (by kernel_rfl))
  f120 := Tryz.func249.trans (congrArg some (by kernel_rfl))
  f137 := Tryz.func272.trans (congrArg some (by kernel_rfl))
  f151 := Tryz.func226.trans (congrArg some (by kernel_rfl))
  f152 := Tryz.func248.trans (congrArg some (by kernel_rfl))
  f160 := Tryz.func140.trans (congrArg some (by kernel_rfl))
  f197 := Tryz.func225.trans (congrArg some (by kernel_rfl))
  f217 := Tryz.func294.trans (congrArg some (by kernel_rfl))
  f224 := Tryz.func274.trans (congrArg some (by kernel_rfl))
  f225 := Tryz.func275.trans (congrArg some (by kernel_rfl))
  f227 := Tryz.func186.trans (congrArg some (by kernel_rfl))
  f228 := Tryz.func224.trans (congrArg some (by kernel_rfl))
  f231 := Tryz.func184.trans (congrArg some (by kernel_rfl))
  f232 := Tryz.func185.trans (congrArg some (by kernel_rfl))
  f233 := Tryz.func187.trans (congrArg some (by kernel_rfl))
  f234 := Tryz.func188.trans (congrArg some (by kernel_rfl))
  f235 := Tryz.func189.trans (congrArg some (by kernel_rfl))
  f236 := Tryz.func190.trans (congrArg some (by kernel_rfl))
  f260 := Tryz.func247.trans (congrArg some (by kernel_rfl))
  f266 := Tryz.func301.trans (congrArg some (by kernel_rfl))
  f271 := Tryz.func227.trans (congrArg some (by kernel_rfl))
  t0 := Tryz.underlying0
  a0 := Tryz.isAgg0
  z0 := Tryz.sizeOf0
  v0 := Tryz.zeroValue0
  t3 := Tryz.underlying3
  a3 := Tryz.isAgg3
  z3 := Tryz.sizeOf3
  v3 := Tryz.zeroValue3
  t4 := Tryz.underlying4
  a4 := Tryz.isAgg4
  z4 := Tryz.sizeOf4
  v4 := Tryz.zeroValue4
  t5 := Tryz.underlying5
  a5 := Tryz.isAgg5
  z5 := Tryz.sizeOf5
  v5 := Tryz.zeroValue5
  t9 := Tryz.underlying9
  a9 := Tryz.isAgg9
  z9 := Tryz.sizeOf9
  v9 := Tryz.zeroValue9
  t21 := Tryz.underlying21
  a21 := Tryz.isAgg21
  z21 := Tryz.sizeOf21
  v21 := Tryz.zeroValue21
  t46 := Tryz.underlying311
  a46 := Tryz.isAgg311
  z46 := Tryz.sizeOf311
  v46 := Tryz.zeroValue311
  t105 := Tryz.underlying266
  a105 := Tryz.isAgg266
  z105 := Tryz.sizeOf266
  v105 := Tryz.zeroValue266
  t116 := Tryz.underlying231
  a116 := Tryz.isAgg231
  z116 := Tryz.sizeOf231
  t117 := Tryz.underlying232
  a117 := Tryz.isAgg232
  z117 := Tryz.sizeOf232
  v117 := Tryz.zeroValue232
  t119 := Tryz.underlying313
  a119 := Tryz.isAgg313
  z119 := Tryz.sizeOf313
  t124 := Tryz.underlying235
  a124 := Tryz.isAgg235
  z124 := Tryz.sizeOf235
  v124 := Tryz.zeroValue235
  t138 := Tryz.underlying315
  a138 := Tryz.isAgg315
  z138 := Tryz.sizeOf315
  v138 := Tryz.zeroValue315
  t139 := Tryz.underlying316
  a139 := Tryz.isAgg316
  z139 := Tryz.sizeOf316
  v139 := Tryz.zeroValue316
  g3 := by kernel_rfl
  g4 := by kernel_rfl }
def Tryz.laysM316_ren : Go.Shelf.Ren := ⟨fun | 316 => 152 | n => n, fun | 9 => 9 | 3 => 3 | 4 => 4 | 37 => 23 | 0 => 0 | 127 => 241 | 5 => 5 | n => n, fun | n => n⟩
theorem Tryz.laysM316 : Go.Proofs.LaysM.n316 Tryz.prog Tryz.laysM316_ren := {
  mixed := by kernel_rfl
  f316 := Tryz.func152.trans (congrArg some (by kernel_rfl))
  t0 := Tryz.underlying0
  a0 := Tryz.isAgg0
  z0 := Tryz.sizeOf0
  v0 := Tryz.zeroValue0
  t3 := Tryz.underlying3
  a3 := Tryz.isAgg3
  z3 := Tryz.sizeOf3
  v3 := Tryz.zeroValue3
  t4 := Tryz.underlying4
  a4 := Tryz.isAgg4
  z4 := Tryz.sizeOf4
  v4 := Tryz.zeroValue4
  t9 := Tryz.underlying9
  a9 := Tryz.isAgg9
  z9 := Tryz.sizeOf9
  v9 := Tryz.zeroValue9
  t37 := Tryz.underlying23
  a37 := Tryz.isAgg23
  z37 := Tryz.sizeOf23
  v37 := Tryz.zeroValue23
  t127 := Tryz.underlying241
  a127 := Tryz.isAgg241
  z127 := Tryz.sizeOf241
  v127 := Tryz.zeroValue241
  t5 := Tryz.underlying5
  a5 := Tryz.isAgg5
  z5 := Tryz.sizeOf5
  v5 := Tryz.zeroValue5
  i0 := by kernel_rfl
  i3 := by kernel_rfl
  i4 := by kernel_rfl
  i5 := by kernel_rfl
  i9 := by kernel_rfl
  i37 := by kernel_rfl
  i127 := by kernel_rfl }
def Tryz.laysM145_ren : Go.Shelf.Ren := ⟨fun | 145 => 282 | 220 => 296 | 219 => 302 | 217 => 294 | 225 => 275 | 224 => 274 | 267 => 305 | 266 => 301 | 314 => 306 | n => n, fun | 9 => 9 | 4 => 4 | 59 => 322 | 3 => 3 | 5 => 5 | 46 => 311 | 146 => 334 | 51 => 308 | n => n, fun | 1 => 9 | n => n⟩
theorem Tryz.laysM145 : Go.Proofs.LaysM.n145 Tryz.prog Tryz.laysM145_ren := {
  mixed := by kernel_rfl
  f145 := Tryz.func282.trans (congrArg some (by kernel_rfl))
  f217 := Tryz.func294.trans (congrArg some (by kernel_rfl))
  f219 := Tryz.func302.trans (congrArg some (by kernel_rfl))
  f220 := Tryz.func296.trans (congrArg some (by kernel_rfl))
  f224 := Tryz.func274.trans (congrArg some (by kernel_rfl))
  f225 := Tryz.func275.trans (congrArg some (by kernel_rfl))
  f266 := Tryz.func301.trans (congrArg some (by kernel_rfl))
  f267 := Tryz.func305.trans (congrArg some (by kernel_rfl))
  f314 := Tryz.func306.trans (congrArg some (by kernel_rfl))
  t3 := Tryz.underlying3
  a3 := Tryz.isAgg3
  z3 := Tryz.sizeOf3
  v3 := Tryz.zeroValue3
  t4 := Tryz.underlying4
  a4 := Tryz.isAgg4
  z4 := Tryz.sizeOf4
  v4 := Tryz.zeroValue4
  t5 := Tryz.underlying5
  a5 := Tryz.isAgg5
  z5 := Tryz.sizeOf5
  v5 := Tryz.zeroValue5
  t9 := Tryz.underlying9
  a9 := Tryz.isAgg9
  z9 := Tryz.sizeOf9
  v9 := Tryz.zeroValue9
  t46 := Tryz.underlying311
  a46 := Tryz.isAgg311
  z46 := Tryz.sizeOf311
  v46 := Tryz.zeroValue311
  t51 := Tryz.underlying308
  a51 := Tryz.isAgg308
  z51 := Tryz.sizeOf308
  v51 := Tryz.zeroValue308
  t59 := Tryz.underlying322
  a59 := Tryz.isAgg322
  z59 := Tryz.sizeOf322
  v59 := Tryz.zeroValue322
  t146 := Tryz.underlying334
  a146 := Tryz.isAgg334
  z146 := Tryz.sizeOf334
  v146 := Tryz.zeroValue334
  g1 := by kernel_rfl
  i3 := by kernel_rfl
  i4 := by kernel_rfl
  i5 := by kernel_rfl
  i9 := by kernel_rfl
  i46 := by kernel_rfl
  i51 := by kernel_rfl
  i59 := by kernel_rfl
  i146 := by kernel_rfl
  m1 := by kernel_rfl
  s1_3 := fun w h => Go.Proofs.cell_of_shapedOpen_int (zero := #[.int .i64 0]) (t := 3) h (of_decide_eq_true (by kernel_rfl)) (by kernel_rfl) rfl (by kernel_rfl) (by kernel_rfl) Tryz.underlying3 }
def Tryz.lays229_ren : Go.Shelf.Ren := ⟨fun | 229 => 219 | n => n, fun | 9 => 9 | 40 => 238 | 31 => 43 | 152 => 285 | 3 => 3 | 0 => 0 | 4 => 4 | 21 => 21 | 154 => 287 | n => n, fun | n => n⟩
theorem Tryz.lays229 : Go.Proofs.Lays.n229 Tryz.prog Tryz.lays229_ren := {
  mixed := by kernel_rfl
  f229 := Tryz.func219.trans (congrArg some (by kernel_rfl))
  t0 := Tryz.underlying0
  a0 := Tryz.isAgg0
  z0 := Tryz.sizeOf0
  v0 := Tryz.zeroValue0
  t3 := Tryz.underlying3
  a3 := Tryz.isAgg3
  z3 := Tryz.sizeOf3
  v3 := Tryz.zeroValue3
  t4 := Tryz.underlying4
  a4 := Tryz.isAgg4
  z4 := Tryz.sizeOf4
  v4 := Tryz.zeroValue4
  t9 := Tryz.underlying9
  a9 := Tryz.isAgg9
  z9 := Tryz.sizeOf9
  v9 := Tryz.zeroValue9
  t21 := Tryz.underlying21
  a21 := Tryz.isAgg21
  z21 := Tryz.sizeOf21
  v21 := Tryz.zeroValue21
  t31 := Tryz.underlying43
  a31 := Tryz.isAgg43
  z31 := Tryz.sizeOf43
  v31 := Tryz.zeroValue43
  t40 := Tryz.underlying238
  a40 := Tryz.isAgg238
  z40 := Tryz.sizeOf238
  v40 := Tryz.zeroValue238
  t152 := Tryz.underlying285
  a152 := Tryz.isAgg285
  z152 := Tryz.sizeOf285
  v152 := Tryz.zeroValue285
  t154 := Tryz.underlying287
  a154 := Tryz.isAgg287
  z154 := Tryz.sizeOf287
  v154 := Tryz.zeroValue287 }
def Tryz.lays99_ren : Go.Shelf.Ren := ⟨fun | 99 => 195 | 206 => 229 | n => n, fun | 9 => 9 | 4 => 4 | 3 => 3 | n => n, fun | n => n⟩
theorem Tryz.lays99 : Go.Proofs.Lays.n99 Tryz.prog Tryz.lays99_ren := {
  mixed := by kernel_rfl
  f99 := Tryz.func195.trans (congrArg some (by kernel_rfl))
  f206 := Tryz.func229.trans (congrArg some (by kernel_rfl))
  t3 := Tryz.underlying3
  a3 := Tryz.isAgg3
  z3 := Tryz.sizeOf3
  v3 := Tryz.zeroValue3
  t4 := Tryz.underlying4
  a4 := Tryz.isAgg4
  z4 := Tryz.sizeOf4
  v4 := Tryz.zeroValue4
  t9 := Tryz.underlying9
  a9 := Tryz.isAgg9
  z9 := Tryz.sizeOf9
  v9 := Tryz.zeroValue9 }
def Tryz.laysM173_ren : Go.Shelf.Ren := ⟨fun | 173 => 177 | 246 => 221 | 283 => 243 | 284 => 244 | 285 => 245 | 286 => 246 | 129 => 268 | 317 => 267 | 318 => 269 | 319 => 270 | 320 => 271 | 337 => 292 | 338 => 293 | n => n, fun | 2 => 2 | 3 => 3 | 9 => 9 | 4 => 4 | 171 => 288 | 0 => 0 | 53 => 289 | 37 => 23 | 5 => 5 | 173 => 292 | 212 => 307 | 51 => 308 | 20 => 20 | 213 => 309 | 46 => 311 | 232 => 332 | 233 => 333 | n => n, fun | 17 => 6 | 18 => 10 | 19 => 11 | n => n⟩
theorem Tryz.laysM173 : Go.Proofs.LaysM.n173 Tryz.prog Tryz.laysM173_ren := {
  mixed := by kernel_rfl
  f129 := Tryz.func268.trans (congrArg some (by kernel_rfl))
  f173 := Tryz.func177.trans (congrArg some (by kernel_rfl))
  f246 := Tryz.func221.trans (congrArg some (by kernel_rfl))
  f283 := Tryz.func243.trans (congrArg some (by kernel_rfl))
  f284 := Tryz.func244.trans (congrArg some (by kernel_rfl))
  f285 := Tryz.func245.trans (congrArg some (by kernel_rfl))
  f286 := Tryz.func246.trans (congrArg some (by kernel_rfl))
  f317 := Tryz.func267.trans (congrArg some (by kernel_rfl))
  f318 := Tryz.func269.trans (congrArg some (by kernel_rfl))
  f319 := Tryz.func270.trans (congrArg some (by kernel_rfl))
  f320 := Tryz.func271.trans (congrArg some (by kernel_rfl))
  f337 := Tryz.func292.trans (congrArg some (by kernel_rfl))
  f338 := Tryz.func293.trans (congrArg some (by kernel_rfl))
  t0 := Tryz.underlying0
  a0 := Tryz.isAgg0
  z0 := Tryz.sizeOf0
  v0 := Tryz.zeroValue0
  t2 := Tryz.underlying2
  a2 := Tryz.isAgg2
  z2 := Tryz.sizeOf2
  v2 := Tryz.zeroValue2
  t3 := Tryz.underlying3
  a3 := Tryz.isAgg3
  z3 := Tryz.sizeOf3
  v3 := Tryz.zeroValue3
  t4 := Tryz.underlying4
  a4 := Tryz.isAgg4
  z4 := Tryz.sizeOf4
  v4 := Tryz.zeroValue4
  t5 := Tryz.underlying5
  a5 := Tryz.isAgg5
  z5 := Tryz.sizeOf5
  v5 := Tryz.zeroValue5
  t9 := Tryz.underlying9
  a9 := Tryz.isAgg9
  z9 := Tryz.sizeOf9
  v9 := Tryz.zeroValue9
  t20 := Tryz.underlying20
  a20 := Tryz.isAgg20
  z20 := Tryz.sizeOf20
  v20 := Tryz.zeroValue20
  t37 := Tryz.underlying23
  a37 := Tryz.isAgg23
  z37 := Tryz.sizeOf23
  v37 := Tryz.zeroValue23
  t46 := Tryz.underlying311
  a46 := Tryz.isAgg311
  z46 := Tryz.sizeOf311
  v46 := Tryz.zeroValue311
  t51 := Tryz.underlying308
  a51 := Tryz.isAgg308
  z51 := Tryz.sizeOf308
  v51 := Tryz.zeroValue308
  t53 := Tryz.underlying289
  a53 := Tryz.isAgg289
  z53 := Tryz.sizeOf289
  v53 := Tryz.zeroValue289
  t171 := Tryz.underlying288
  a171 := Tryz.isAgg288
  z171 := Tryz.sizeOf288
  v171 := Tryz.zeroValue288
  t173 := Tryz.underlying292
  a173 := Tryz.isAgg292
  z173 := Tryz.sizeOf292
  v173 := Tryz.zeroValue292
  t212 := Tryz.underlying307
  a212 := Tryz.isAgg307
  z212 := Tryz.sizeOf307
  v212 := Tryz.zeroValue307
  t213 := Tryz.underlying309
  a213 := Tryz.isAgg309
  z213 := Tryz.sizeOf309
  t232 := Tryz.underlying332
  a232 := Tryz.isAgg332
  z232 := Tryz.sizeOf332
  v232 := Tryz.zeroValue332
  t233 := Tryz.underlying333
  a233 := Tryz.isAgg333
  z233 := Tryz.sizeOf333
  v233 := Tryz.zeroValue333
  g17 := by kernel_rfl
  g18 := by kernel_rfl
  g19 := by kernel_rfl
  i0 := by kernel_rfl
  i2 := by kernel_rfl
  i3 := by kernel_rfl
  i4 := by kernel_rfl
  i5 := by kernel_rfl
  i9 := by kernel_rfl
  i20 := by kernel_rfl
  i37 := by kernel_rfl
  i46 := by kernel_rfl
  i51 := by kernel_rfl
  i53 := by kernel_rfl
  i171 := by kernel_rfl
  i173 := by kernel_rfl
  i212 := by kernel_rfl
  i232 := by kernel_rfl
  i233 := by kernel_rfl
  m17 := by kernel_rfl
  m18 := by kernel_rfl
  m19 := by kernel_rfl }
def Tryz.lays219_ren : Go.Shelf.Ren := ⟨fun | 219 => 302 | 217 => 294 | 225 => 275 | 224 => 274 | 267 => 305 | 266 => 301 | 314 => 306 | n => n, fun | 9 => 9 | 3 => 3 | 4 => 4 | 5 => 5 | 46 => 311 | 146 => 334 | 51 => 308 | n => n, fun | 1 => 9 | n => n⟩
theorem Tryz.lays219 : Go.Proofs.Lays.n219 Tryz.prog Tryz.lays219_ren := {
  mixed := by kernel_rfl
  f217 := Tryz.func294.trans (congrArg some (by kernel_rfl))
  f219 := Tryz.func302.trans (congrArg some (by kernel_rfl))
  f224 := Tryz.func274.trans (congrArg some (by kernel_rfl))
  f225 := Tryz.func275.trans (congrArg some (by kernel_rfl))
  f266 := Tryz.func301.trans (congrArg some (by kernel_rfl))
  f267 := Tryz.func305.trans (congrArg some (by kernel_rfl))
  f314 := Tryz.func306.trans (congrArg some (by kernel_rfl))
  t3 := Tryz.underlying3
  a3 := Tryz.isAgg3
  z3 := Tryz.sizeOf3
  v3 := Tryz.zeroValue3
  t4 := Tryz.underlying4
  a4 := Tryz.isAgg4
  z4 := Tryz.sizeOf4
  v4 := Tryz.zeroValue4
  t5 := Tryz.underlying5
  a5 := Tryz.isAgg5
  z5 := Tryz.sizeOf5
  v5 := Tryz.zeroValue5
  t9 := Tryz.underlying9
  a9 := Tryz.isAgg9
  z9 := Tryz.sizeOf9
  v9 := Tryz.zeroValue9
  t46 := Tryz.underlying311
  a46 := Tryz.isAgg311
  z46 := Tryz.sizeOf311
  v46 := Tryz.zeroValue311
  t51 := Tryz.underlying308
  a51 := Tryz.isAgg308
  z51 := Tryz.sizeOf308
  v51 := Tryz.zeroValue308
  t146 := Tryz.underlying334
  a146 := Tryz.isAgg334
  z146 := Tryz.sizeOf334
  v146 := Tryz.zeroValue334
  g1 := by kernel_rfl }
end Go.Proofs
/-
  A slice of texts that the call itself grows; joined and copied.
-/
namespace Go.Proofs.YtopkidfbkhjaeaaGreatDoor
open Go.ChangeShapes Go.WideShapes Go.ChangeAt Go.RowKit
theorem infoStr : (Tryz.prog.info? 9).map (fun i => (i.zero, i.size, i.bytes)) = some (some (.string ⟨#[]⟩), 1, 16) := by kernel_rfl
def textsW (l : List ByteArray) : List Value := l.map Value.string
/-- v, nil or not, holds the texts l in a row of the call's own. -/
def OwnS (w : World) (base : Nat) (v : Value) (l : List ByteArray) : Prop := w.ownsRow base 9 1 v l.length (textsW l)
theorem OwnS.nil (w : World) (base : Nat) : OwnS w base (.slice none 0 0) [] := World.ownsRow_nil _ _ _ _
theorem OwnS.below {w w' : World} {base : Nat} {v : Value} {l : List ByteArray} (h : OwnS w base v l) (hb : Below w.heap.size w w') : OwnS w' base v l := by
  obtain ⟨h1, h2⟩ := h
  refine ⟨h1, ?_⟩
  rcases h2 with h2 | ⟨g, c, cur, e, hg, hh, hrest⟩
  · exact .inl h2
  · exact .inr ⟨g, c, cur, e, hg, by rw [hb.block g (Array.getElem?_eq_some_iff.1 hh).1]; exact hh, hrest⟩
theorem OwnS.lower {w : World} {b0 base : Nat} {v : Value} {l : List ByteArray} (h : OwnS w base v l) (hb : b0 ≤ base) : OwnS w b0 v l := by
  obtain ⟨h1, h2⟩ := h
  refine ⟨h1, ?_⟩
  rcases h2 with h2 | ⟨g, c, cur, e, hg, hrest⟩
  · exact .inl h2
  · exact .inr ⟨g, c, cur, e, by omega, hrest⟩
theorem own_geS {w : World} {base : Nat} {e : TypeId} {size : Nat} {v : Value} {n : Nat} {xs : List Value} (h : w.ownsRow base e size v n xs) (q : Nat) (hq : v.ownBlock = some q) : base ≤ q := by
  obtain ⟨_, h | ⟨g, c, cur, rfl, hg, _⟩⟩ := h
  · rw [h.1] at hq; cases hq
  · simp only [Value.ownBlock, Option.some.injEq] at hq; omega
theorem wpList_append_str {ops : Array Oper} {rest : List Oper} {o : Oper} {a : Act} {Q : Exit → Act → World → Prop} (w : World) (hgd : o.guard = none) (s x : Operand)
    (ho : o.op = .call { callee := .builtin .append, args := #[s, x], argTypes := #[43, 43] }) (base : Nat) (v : Value) (l : List ByteArray) (z : ByteArray)
    (hs : a.eval s = v) (hx : a.eval x = .slice (some ⟨w.heap.size, 0, none⟩) 1 1) (hown : OwnS w base v l) (hl : l.length ≤ 1000000) (hbase : base ≤ w.heap.size)
    (h : ∀ v' w', OwnS w' base v' (l ++ [z]) → Below base w w' → w.heap.size ≤ w'.heap.size → wpList Tryz.prog ops Q rest (a.put o.dst v') w') :
    wpList Tryz.prog ops Q (o :: rest) a (w.alloc (.cells #[.string z] 9)) := by
  obtain ⟨i0, hi, hz0, hz1, hz2⟩ := info_parts infoStr
  refine wpList_append_own _ hgd s x 43 ho base 9 i0 (.string ⟨#[]⟩) 1 16 Tryz.underlying43 hi hz0 hz1 hz2 rfl (by decide) v l.length (textsW l) hs (World.ownsRow.alloc hown _) ⟨w.heap.size, 0, none⟩ 1 1 [.string z] hx rfl ?_ ?_ ?_ ?_ ?_ ?_
  · intro j u hj
    match j, hj with
    | 0, hj => simp at hj; subst hj; simp [Addr.add]
  · intro u hu; simp at hu; subst hu; rfl
  · unfold maxLen; omega
  · omega
  · simp; omega
  · intro v' w' h1 h2 h3
    have e : textsW (l ++ [z]) = textsW l ++ [Value.string z] := by simp [textsW]
    refine h v' w' (by unfold OwnS; rw [e, List.length_append]; exact h1) ?_ ?_
    · exact ((Below.refl base w).alloc hbase _).grown h2 (by simp; omega) (fun q hq => own_geS hown q hq)
    · have hb := ((Below.refl 0 w).alloc (Nat.zero_le _) (.cells #[.string z] 9)).grown h2 (Nat.zero_le _) (fun q _ => Nat.zero_le _)
      exact hb.size
theorem joinExtra : Builder.Extra Tryz.prog Tryz.lays156_ren where -- of 197
  sizeBuilder := by kernel_rfl
  liesBuilder := by kernel_rfl
  t5 := Tryz.underlying5
  a5 := Tryz.isAgg5
  z5 := Tryz.sizeOf5
  v5 := Tryz.zeroValue5
  infoByte := by kernel_rfl
  cellsByte := by kernel_rfl
  sizeByte := by kernel_rfl
  neB5 := by decide
/-- strings.Join over the call's own texts. -/
theorem join_own (w : World) (base : Nat) (v : Value) (xs : List ByteArray) (h : OwnS w base v xs) (hN : xs.length ≤ 1000000) (hlen : (Lib.join (xs.map (·.data.toList)) [44, 32]).length ≤ 1000000) :
    Calls Tryz.prog 197 #[v, .string ⟨#[44, 32]⟩] w fun e w' => e = .returned (.string ⟨(Lib.join (xs.map (·.data.toList)) [44, 32]).toArray⟩) ∧ Below w.heap.size w w' := by
  have h0 := h
  obtain ⟨_, h1 | ⟨g, c, cur, rfl, _, hh, hcap, _⟩⟩ := h
  · have : xs = [] := List.eq_nil_of_length_eq_zero h1.2
    subst this
    rw [h1.1]
    exact (Any.strings_Join_none Tryz.lays156 joinExtra none 0 ⟨#[44, 32]⟩ w).mono fun e w' ⟨he, hw⟩ => ⟨he, hw ▸ Below.refl _ _⟩
  · refine Any.strings_Join Tryz.lays156 joinExtra g 0 c xs ⟨#[44, 32]⟩ w ?_ (Array.getElem?_eq_some_iff.1 hh).1 (by omega) hcap (by simpa using (by omega : (Lib.join (xs.map (·.data.toList)) [44, 32]).length ≤ 140737488355328))
    intro j x hj
    have hj2 := (List.getElem?_eq_some_iff.1 hj).1
    have := World.ownsRow.cellAt h0 j (by omega)
    rw [show 0 + j = j from by omega]
    rw [this]
    simp [textsW, hj]
theorem clone_lib2 (s : ByteArray) (w : World) (hs : s.size ≤ 1048576) :
    Calls Tryz.prog 152 #[.string s] w fun e w' => e = .returned (.string s) ∧ Below w.heap.size w w' :=
  Any.stringslite_Clone Tryz.laysM316 s w (by omega)
set_option maxHeartbeats 400000 in
theorem clone_text (s : ByteArray) (w : World) (hs : s.size ≤ 1048576) :
    Calls Tryz.prog 109 #[.string s] w fun e w' => e = .returned (.string s) ∧ Below w.heap.size w w' := by
  go_enter Tryz.func109, Tryz.ntmps109
  go_wp2_with fail
  refine (clone_lib2 s _ hs).mono ?_
  rintro e w1 ⟨rfl, hb⟩
  go_wp2
  go_ret
  exact ⟨rfl, hb⟩
end Go.Proofs.YtopkidfbkhjaeaaGreatDoor
/-
  Head lines that the call itself grows.
-/
namespace Go.Proofs.YtopkidfbkhjaeaaGreatDoor
open Go.ChangeShapes Go.WideShapes Go.ChangeAt Go.RowKit
def hdrW (r : Hdr) : List Value := [.string r.name, .string r.value]
def hdrsW (l : List Hdr) : List Value := l.flatMap hdrW
theorem hdrsW_len (l : List Hdr) : (hdrsW l).length = l.length * 2 := by
  induction l with
  | nil => rfl
  | cons r l ih => simp only [hdrsW, List.flatMap_cons, List.length_append, List.length_cons] at ih ⊢; rw [ih]; simp [hdrW]; omega
theorem hdrsW_at (l : List Hdr) : ∀ (i : Nat) r, l[i]? = some r → (hdrsW l)[i * 2]? = some (.string r.name) ∧ (hdrsW l)[i * 2 + 1]? = some (.string r.value) := by
  induction l with
  | nil => intro i r hr; simp at hr
  | cons x l ih =>
    intro i r hr
    have e : hdrsW (x :: l) = .string x.name :: .string x.value :: hdrsW l := by simp [hdrsW, hdrW]
    rw [e]
    cases i with
    | zero => simp at hr; subst hr; simp
    | succ i =>
      have := ih i r (by simpa using hr)
      rw [show (i + 1) * 2 = i * 2 + 1 + 1 from by omega]
      simpa using this
/-- v, nil or not, holds the items l in a row of the call's own, from block base on. -/
def OwnH (w : World) (base : Nat) (v : Value) (l : List Hdr) : Prop := w.ownsRow base 108 2 v l.length (hdrsW l)
theorem OwnH.nil (w : World) (base : Nat) : OwnH w base (.slice none 0 0) [] := World.ownsRow_nil _ _ _ _
theorem OwnH.made0 (w : World) (base : Nat) (hb : base ≤ w.heap.size) : OwnH (w.alloc (.cells #[] 108)) base (.slice (some ⟨w.heap.size, 0, none⟩) 0 0) [] := World.ownsRow_made w #[] 0 hb (by unfold maxLen; omega) rfl
theorem OwnH.below {w w' : World} {base : Nat} {v : Value} {l : List Hdr} (h : OwnH w base v l) (hb : Below w.heap.size w w') : OwnH w' base v l := by
  obtain ⟨h1, h2⟩ := h
  refine ⟨h1, ?_⟩
  rcases h2 with h2 | ⟨g, c, cur, e, hg, hh, hrest⟩
  · exact .inl h2
  · exact .inr ⟨g, c, cur, e, hg, by rw [hb.block g (Array.getElem?_eq_some_iff.1 hh).1]; exact hh, hrest⟩
theorem OwnH.lower {w : World} {b0 base : Nat} {v : Value} {l : List Hdr} (h : OwnH w base v l) (hb : b0 ≤ base) : OwnH w b0 v l := by
  obtain ⟨h1, h2⟩ := h
  refine ⟨h1, ?_⟩
  rcases h2 with h2 | ⟨g, c, cur, e, hg, hrest⟩
  · exact .inl h2
  · exact .inr ⟨g, c, cur, e, by omega, hrest⟩
theorem OwnH.at {w : World} {base : Nat} {v : Value} {l : List Hdr} (h : OwnH w base v l) : ∃ a c, v = .slice a l.length c ∧ HdsIn w a l := by
  have h0 := h
  obtain ⟨_, h1 | ⟨g, c, cur, rfl, _⟩⟩ := h
  · have e : l = [] := List.eq_nil_of_length_eq_zero h1.2
    exact ⟨none, 0, by rw [h1.1, e]; rfl, .inl e⟩
  · refine ⟨_, c, rfl, .inr ⟨g, 0, rfl, fun i r hr => ?_⟩⟩
    have hi := (List.getElem?_eq_some_iff.1 hr).1
    obtain ⟨a1, a3⟩ := hdrsW_at l i r hr
    have c1 := World.ownsRow.cellAt h0 (i * 2) (by omega)
    have c3 := World.ownsRow.cellAt h0 (i * 2 + 1) (by omega)
    exact ⟨by rw [Nat.zero_add, c1, a1], by rw [Nat.zero_add, c3, a3]⟩
theorem own_geH {w : World} {base : Nat} {e : TypeId} {size : Nat} {v : Value} {n : Nat} {xs : List Value} (h : w.ownsRow base e size v n xs) (q : Nat) (hq : v.ownBlock = some q) : base ≤ q := by
  obtain ⟨_, h | ⟨g, c, cur, rfl, hg, _⟩⟩ := h
  · rw [h.1] at hq; cases hq
  · simp only [Value.ownBlock, Option.some.injEq] at hq; omega
theorem own_apartH {w : World} {base base' : Nat} {v pv : Value} {l : List Hdr} {L : List ByteArray} (hp : OwnS w base' pv L) (hv : OwnH w base v l) : pv.ownBlock = none ∨ pv.ownBlock ≠ v.ownBlock := by
  obtain ⟨_, hp | ⟨g, c, cur, rfl, _, hh, _⟩⟩ := hp
  · left; rw [hp.1]; rfl
  · right
    obtain ⟨_, hv | ⟨g2, c2, cur2, rfl, _, hh2, _⟩⟩ := hv
    · rw [hv.1]; simp [Value.ownBlock]
    · simp only [Value.ownBlock, ne_eq, Option.some.injEq]
      rintro rfl
      rw [hh] at hh2
      simp at hh2
theorem wpList_append_hdr {ops : Array Oper} {rest : List Oper} {o : Oper} {a : Act} {Q : Exit → Act → World → Prop} (w : World) (hgd : o.guard = none) (s x : Operand)
    (ho : o.op = .call { callee := .builtin .append, args := #[s, x], argTypes := #[27, 27] }) (base : Nat) (v : Value) (l : List Hdr) (n : ByteArray) (z : ByteArray)
    (hs : a.eval s = v) (hx : a.eval x = .slice (some ⟨w.heap.size, 0, none⟩) 1 1) (hown : OwnH w base v l) (hl : l.length ≤ 1000000) (hbase : base ≤ w.heap.size)
    (h : ∀ v' w', OwnH w' base v' (l ++ [⟨n, z⟩]) → Below base w w' → w.heap.size ≤ w'.heap.size → (∀ base' pv L, OwnS w base' pv L → OwnS w' base' pv L) → wpList Tryz.prog ops Q rest (a.put o.dst v') w') :
    wpList Tryz.prog ops Q (o :: rest) a (w.alloc (.cells #[.string n, .string z] 108)) := by
  obtain ⟨i0, hi, hz0, hz1, hz2⟩ := info_parts infoHeader
  refine wpList_append_own _ hgd s x 27 ho base 108 i0 (.agg #[.string ⟨#[]⟩, .string ⟨#[]⟩]) 2 32 Tryz.underlying27 hi hz0 hz1 hz2 rfl (by decide) v l.length (hdrsW l) hs (World.ownsRow.alloc hown _) ⟨w.heap.size, 0, none⟩ 1 1 [.string n, .string z] hx rfl ?_ ?_ ?_ ?_ ?_ ?_
  · intro j u hj
    match j, hj with
    | 0, hj => simp at hj; subst hj; simp [Addr.add]
    | 1, hj => simp at hj; subst hj; simp [Addr.add]
  · intro u hu; simp at hu; rcases hu with rfl | rfl <;> rfl
  · unfold maxLen; omega
  · omega
  · simp; omega
  · intro v' w' h1 h2 h3
    have e : hdrsW (l ++ [⟨n, z⟩]) = hdrsW l ++ [.string n, .string z] := by simp [hdrsW, hdrW]
    refine h v' w' (by unfold OwnH; rw [e, List.length_append]; exact h1) ?_ ?_ ?_
    · exact ((Below.refl base w).alloc hbase _).grown h2 (by simp; omega) (fun q hq => own_geH hown q hq)
    · have hb := ((Below.refl 0 w).alloc (Nat.zero_le _) (.cells #[.string n, .string z] 108)).grown h2 (Nat.zero_le _) (fun q _ => Nat.zero_le _)
      exact hb.size
    · intro base' pv L hp
      exact World.ownsRow.kept (World.ownsRow.alloc hp _) h2 (own_apartH hp hown)
end Go.Proofs.YtopkidfbkhjaeaaGreatDoor
/-
  Copies of head lines, bytes and texts, by the model.
-/
namespace Go.Proofs.YtopkidfbkhjaeaaGreatDoor
open Go.ChangeShapes Go.WideShapes Go.ChangeAt Go.RowKit Go.Sort
theorem cHeadI : (Tryz.prog.info? 108).map (fun i => (i.zero, i.size, i.bytes)) = some (some (.agg #[.string ⟨#[]⟩, .string ⟨#[]⟩]), 2, 32) := by kernel_rfl
theorem cByteI : (Tryz.prog.info? 5).map (fun i => (i.zero, i.size, i.bytes)) = some (some (.int .u8 0), 1, 1) := by kernel_rfl
theorem cTextI : (Tryz.prog.info? 9).map (fun i => (i.zero, i.size, i.bytes)) = some (some (.string ⟨#[]⟩), 1, 16) := by kernel_rfl
def cBytes (l : List UInt8) : List Value := l.map fun c => Value.int .u8 (c.toNat : Int)
def cTexts (l : List ByteArray) : List Value := l.map Value.string
def RowB (w : World) (base : Nat) (v : Value) (l : List UInt8) : Prop := w.ownsRow base 5 1 v l.length (cBytes l)
def RowT (w : World) (base : Nat) (v : Value) (l : List ByteArray) : Prop := w.ownsRow base 9 1 v l.length (cTexts l)
def RowH (w : World) (base : Nat) (v : Value) (l : List Hdr) : Prop := w.ownsRow base 108 2 v l.length (hdrsW l)
theorem cadd (b off j : Nat) : (⟨b, off, none⟩ : Addr).add j = ⟨b, off + j, none⟩ := by unfold Addr.add; split <;> simp_all
theorem cBytes_in {w : World} {a : Option Addr} {l : List UInt8} (h : BIn w a l) : l.length = 0 ∨ ∃ ad, a = some ad ∧ ∀ j u, (cBytes l)[j]? = some u → w.cell? (ad.add j) = some u := by
  rcases h with rfl | ⟨b, off, rfl, h⟩
  · exact .inl rfl
  · refine .inr ⟨_, rfl, fun j u hj => ?_⟩
    unfold cBytes at hj
    rw [List.getElem?_map] at hj
    obtain ⟨c, hc, rfl⟩ := Option.map_eq_some_iff.1 hj
    rw [cadd]
    exact h j c hc
theorem cTexts_in {w : World} {a : Option Addr} {l : List ByteArray} (h : TIn w a l) : l.length = 0 ∨ ∃ ad, a = some ad ∧ ∀ j u, (cTexts l)[j]? = some u → w.cell? (ad.add j) = some u := by
  rcases h with rfl | ⟨b, off, rfl, h⟩
  · exact .inl rfl
  · refine .inr ⟨_, rfl, fun j u hj => ?_⟩
    unfold cTexts at hj
    rw [List.getElem?_map] at hj
    obtain ⟨c, hc, rfl⟩ := Option.map_eq_some_iff.1 hj
    rw [cadd]
    exact h j c hc
theorem cHeads_in {w : World} {a : Option Addr} {l : List Hdr} (h : HdsIn w a l) : l.length = 0 ∨ ∃ ad, a = some ad ∧ ∀ j u, (hdrsW l)[j]? = some u → w.cell? (ad.add j) = some u := by
  rcases h with rfl | ⟨b, off, rfl, h⟩
  · exact .inl rfl
  · refine .inr ⟨_, rfl, fun j u hj => ?_⟩
    rw [cadd]
    have hlt : j < (hdrsW l).length := (List.getElem?_eq_some_iff.1 hj).1
    rw [hdrsW_len] at hlt
    obtain ⟨r, hr⟩ : ∃ r, l[j / 2]? = some r := ⟨l[j / 2]'(by omega), List.getElem?_eq_getElem _⟩
    obtain ⟨e0, e1⟩ := hdrsW_at l (j / 2) r hr
    obtain ⟨c0, c1⟩ := h (j / 2) r hr
    rcases Nat.mod_two_eq_zero_or_one j with hm | hm
    · have ej : j / 2 * 2 = j := by omega
      rw [ej] at e0 c0
      rw [e0] at hj
      rw [← hj]; exact c0
    · have ej : j / 2 * 2 + 1 = j := by omega
      rw [ej] at e1
      rw [Nat.add_assoc, ej] at c1
      rw [e1] at hj
      rw [← hj]; exact c1
theorem cOneB (l : List UInt8) : ∀ u ∈ cBytes l, u.oneCell' = true := fun u hu => by obtain ⟨c, _, rfl⟩ := List.mem_map.1 hu; rfl
theorem cOneT (l : List ByteArray) : ∀ u ∈ cTexts l, u.oneCell' = true := fun u hu => by obtain ⟨c, _, rfl⟩ := List.mem_map.1 hu; rfl
theorem cOneH (l : List Hdr) : ∀ u ∈ hdrsW l, u.oneCell' = true := by
  intro u hu
  simp only [hdrsW, List.mem_flatMap] at hu
  obtain ⟨r, _, hr⟩ := hu
  simp only [hdrW, List.mem_cons, List.not_mem_nil, or_false] at hr
  rcases hr with rfl | rfl <;> rfl
theorem RowB.in {w : World} {base : Nat} {v : Value} {l : List UInt8} (h : RowB w base v l) : ∃ a c, v = .slice a l.length c ∧ l.length ≤ c ∧ BIn w a l := by
  have h0 := h
  obtain ⟨_, h1 | ⟨g, c, cur, rfl, _, _, hc, _⟩⟩ := h
  · have e : l = [] := List.eq_nil_of_length_eq_zero h1.2
    subst e
    exact ⟨none, 0, h1.1, Nat.le_refl _, .inl rfl⟩
  · refine ⟨_, c, rfl, hc, .inr ⟨g, 0, rfl, fun i q hq => ?_⟩⟩
    have hi := (List.getElem?_eq_some_iff.1 hq).1
    have c1 := World.ownsRow.cellAt h0 i (by omega)
    rw [Nat.zero_add, c1]
    unfold cBytes
    rw [List.getElem?_map, hq]
    rfl
theorem RowT.in {w : World} {base : Nat} {v : Value} {l : List ByteArray} (h : RowT w base v l) : ∃ a c, v = .slice a l.length c ∧ l.length ≤ c ∧ TIn w a l := by
  have h0 := h
  obtain ⟨_, h1 | ⟨g, c, cur, rfl, _, _, hc, _⟩⟩ := h
  · have e : l = [] := List.eq_nil_of_length_eq_zero h1.2
    subst e
    exact ⟨none, 0, h1.1, Nat.le_refl _, .inl rfl⟩
  · refine ⟨_, c, rfl, hc, .inr ⟨g, 0, rfl, fun i q hq => ?_⟩⟩
    have hi := (List.getElem?_eq_some_iff.1 hq).1
    have c1 := World.ownsRow.cellAt h0 i (by omega)
    rw [Nat.zero_add, c1]
    unfold cTexts
    rw [List.getElem?_map, hq]
    rfl
theorem RowH.in {w : World} {base : Nat} {v : Value} {l : List Hdr} (h : RowH w base v l) : ∃ a c, v = .slice a l.length c ∧ l.length ≤ c ∧ HdsIn w a l := by
  have hf := row_form h
  obtain ⟨va, vc, e, hle⟩ := hf
  obtain ⟨a, c, e2, hi⟩ := OwnH.at (w := w) (base := base) (v := v) (l := l) h
  rw [e] at e2
  simp only [Value.slice.injEq, true_and] at e2
  obtain ⟨rfl, rfl⟩ := e2
  exact ⟨va, vc, e, hle, hi⟩
set_option maxHeartbeats 2000000 in
theorem l4Copy_in (w : World) (a : Option Addr) (cap : Nat) (l : List Hdr) (hl : l.length ≤ 1048576) (hi : HdsIn w a l) :
    Calls Tryz.prog 88 #[.slice a l.length cap] w fun e w' => (∃ v, e = .returned v ∧ RowH w' w.heap.size v l) ∧ Below w.heap.size w w' := by
  obtain ⟨i0, hi0, hz0, hz1, hz2⟩ := info_parts cHeadI
  have B1 : Hid (Below w.heap.size w (w.alloc (.cells #[] 108))) := (Below.refl _ _).alloc (Nat.le_refl _) _
  have O1 : Hid ((w.alloc (.cells #[] 108)).ownsRow w.heap.size 108 2 (.slice (some ⟨w.heap.size, 0, none⟩) 0 0) 0 []) := World.ownsRow_made w #[] 0 (Nat.le_refl _) (by unfold maxLen; omega) rfl
  have HIN : Hid (l.length = 0 ∨ ∃ ad, a = some ad ∧ ∀ j u, (hdrsW l)[j]? = some u → (w.alloc (.cells #[] 108)).cell? (ad.add j) = some u) := cHeads_in (hi.keep B1.out)
  have HLN : Hid ((hdrsW l).length = l.length * 2) := by show _ = _; rw [hdrsW_len]
  have HRW : Hid (∀ X v, X.ownsRow w.heap.size 108 2 v (0 + l.length) ([] ++ hdrsW l) → RowH X w.heap.size v l) := fun X v h => by rw [Nat.zero_add, List.nil_append] at h; exact h
  clear hi
  generalize hn : l.length = n at *
  clear hn
  go_enter Tryz.func88, Tryz.ntmps88
  go_wp2_with (at_builtin; refine wpList_plain rfl fun _ hK => wp_append_in _ (.tmp 3) (.tmp 4) 27 108 rfl i0 _ 2 32 Tryz.underlying27 hi0 hz0 hz1 hz2 rfl (by omega) w.heap.size _ 0 [] rfl O1.out a cap n (hdrsW l) rfl HLN.out HIN.out (cOneH l) (by unfold maxLen; omega) (by omega) B1.out.size (fun v' w' h1 h2 _ => hK _ _ ?_))
  go_ret
  exact ⟨⟨_, rfl, HRW.out _ _ h1⟩, B1.out.trans h2⟩
set_option maxHeartbeats 2000000 in
theorem l1Copy_in (w : World) (a : Option Addr) (cap : Nat) (l : List UInt8) (hl : l.length ≤ 1048576) (hi : BIn w a l) :
    Calls Tryz.prog 119 #[.slice a l.length cap] w fun e w' => (∃ v, e = .returned v ∧ RowB w' w.heap.size v l) ∧ Below w.heap.size w w' := by
  obtain ⟨i0, hi0, hz0, hz1, hz2⟩ := info_parts cByteI
  have B1 : Hid (Below w.heap.size w (w.alloc (.cells #[] 5))) := (Below.refl _ _).alloc (Nat.le_refl _) _
  have O1 : Hid ((w.alloc (.cells #[] 5)).ownsRow w.heap.size 5 1 (.slice (some ⟨w.heap.size, 0, none⟩) 0 0) 0 []) := World.ownsRow_made w #[] 0 (Nat.le_refl _) (by unfold maxLen; omega) rfl
  have HIN : Hid (l.length = 0 ∨ ∃ ad, a = some ad ∧ ∀ j u, (cBytes l)[j]? = some u → (w.alloc (.cells #[] 5)).cell? (ad.add j) = some u) := cBytes_in (hi.keep B1.out)
  have HLN : Hid ((cBytes l).length = l.length * 1) := by show _ = _; unfold cBytes; simp
  have HRW : Hid (∀ X v, X.ownsRow w.heap.size 5 1 v (0 + l.length) ([] ++ cBytes l) → RowB X w.heap.size v l) := fun X v h => by rw [Nat.zero_add, List.nil_append] at h; exact h
  clear hi
  generalize hn : l.length = n at *
  clear hn
  go_enter Tryz.func119, Tryz.ntmps119
  go_wp2_with (at_builtin; refine wpList_plain rfl fun _ hK => wp_append_in _ (.tmp 3) (.tmp 4) 23 5 rfl i0 _ 1 1 Tryz.underlying23 hi0 hz0 hz1 hz2 rfl (by omega) w.heap.size _ 0 [] rfl O1.out a cap n (cBytes l) rfl HLN.out HIN.out (cOneB l) (by unfold maxLen; omega) (by omega) B1.out.size (fun v' w' h1 h2 _ => hK _ _ ?_))
  go_ret
  exact ⟨⟨_, rfl, HRW.out _ _ h1⟩, B1.out.trans h2⟩
end Go.Proofs.YtopkidfbkhjaeaaGreatDoor
/-
  Entries that are pointed at: rows of pointers that are one's own.
-/
namespace Go.Proofs.YtopkidfbkhjaeaaGreatDoor
open Go.ChangeShapes Go.WideShapes Go.ChangeAt Go.RowKit Go.Sort
/-- An entry and where it lies. -/
structure Hdl where
  b : Nat
  o : Nat
  x : Ent
  r : EntR
def hP (h : Hdl) : Value := .pointer (some ⟨h.b, h.o, none⟩)
/-- It lies there. -/
def HThere (w : World) (h : Hdl) : Prop := (∀ j, j < 13 → w.cell? ⟨h.b, h.o + j, none⟩ = (entW h.x h.r)[j]?) ∧ EntIn w h.x h.r
theorem HThere.lt {w : World} {h : Hdl} (k : HThere w h) : h.b < w.heap.size := block_lt_of_cell (k.1 0 (by omega))
theorem HThere.keep {w w' : World} {h : Hdl} (k : HThere w h) (hb : Below w.heap.size w w') : HThere w' h :=
  ⟨fun j hj => by rw [hb.cell (p := ⟨h.b, h.o + j, none⟩) k.lt]; exact k.1 j hj, k.2.keep hb⟩
theorem HThere.cells {w : World} {h : Hdl} (k : HThere w h) : w.cell? ⟨h.b, h.o, none⟩ = some (.string h.x.key) ∧ w.cell? ⟨h.b, h.o + 1, none⟩ = some (.int .i64 h.x.st) ∧ w.cell? ⟨h.b, h.o + 2, none⟩ = some (.slice h.r.ha h.x.hs.length h.r.hc) ∧ w.cell? ⟨h.b, h.o + 3, none⟩ = some (.slice h.r.ba h.x.bl.length h.r.bc) ∧ w.cell? ⟨h.b, h.o + 4, none⟩ = some (.int .i64 h.x.t) ∧ w.cell? ⟨h.b, h.o + 5, none⟩ = some (.int .i64 h.x.g) ∧ w.cell? ⟨h.b, h.o + 6, none⟩ = some (.int .i64 h.x.l) ∧ w.cell? ⟨h.b, h.o + 7, none⟩ = some (.int .i64 h.x.s) ∧ w.cell? ⟨h.b, h.o + 8, none⟩ = some (.int .i64 h.x.e) ∧ w.cell? ⟨h.b, h.o + 9, none⟩ = some (.bool h.x.b1) ∧ w.cell? ⟨h.b, h.o + 10, none⟩ = some (.bool h.x.b2) ∧ w.cell? ⟨h.b, h.o + 11, none⟩ = some (.slice h.r.ta h.x.ts.length h.r.tc) ∧ w.cell? ⟨h.b, h.o + 12, none⟩ = some (.int .i64 h.x.pins) :=
  ⟨k.1 0 (by omega), k.1 1 (by omega), k.1 2 (by omega), k.1 3 (by omega), k.1 4 (by omega), k.1 5 (by omega), k.1 6 (by omega), k.1 7 (by omega), k.1 8 (by omega), k.1 9 (by omega), k.1 10 (by omega), k.1 11 (by omega), k.1 12 (by omega)⟩
/-- The entries of a list, each where it lies. -/
def hdls (b off : Nat) (l : List (Ent × EntR)) : List Hdl := l.mapIdx (fun i q => ⟨b, off + i * 13, q.1, q.2⟩)
theorem hdls_at {b off : Nat} {l : List (Ent × EntR)} {i : Nat} {q : Ent × EntR} (h : l[i]? = some q) : (hdls b off l)[i]? = some ⟨b, off + i * 13, q.1, q.2⟩ := by
  unfold hdls
  rw [List.getElem?_mapIdx, h]
  rfl
theorem hdls_len (b off : Nat) (l : List (Ent × EntR)) : (hdls b off l).length = l.length := by simp [hdls]
theorem hdls_x (b off : Nat) (l : List (Ent × EntR)) : (hdls b off l).map Hdl.x = l.map Prod.fst := by
  refine List.ext_getElem? fun i => ?_
  rw [List.getElem?_map, List.getElem?_map]
  unfold hdls
  rw [List.getElem?_mapIdx]
  cases l[i]? <;> rfl
theorem hdls_there {w : World} {b off : Nat} {l : List (Ent × EntR)} (h : EntsAt w b off l) : ∀ k ∈ hdls b off l, HThere w k := by
  intro k hk
  obtain ⟨i, hi⟩ := List.mem_iff_getElem?.1 hk
  unfold hdls at hi
  rw [List.getElem?_mapIdx] at hi
  obtain ⟨q, hq, rfl⟩ := Option.map_eq_some_iff.1 hi
  exact h i q hq
/-- v holds pointers to the entries hs, in a row of the call's own. -/
def OwnP (w : World) (base : Nat) (v : Value) (hs : List Hdl) : Prop := w.ownsRow base 100 1 v hs.length (hs.map hP)
theorem OwnP.nil (w : World) (base : Nat) : OwnP w base (.slice none 0 0) [] := World.ownsRow_nil _ _ _ _
theorem OwnP.below {w w' : World} {base : Nat} {v : Value} {l : List Hdl} (h : OwnP w base v l) (hb : Below w.heap.size w w') : OwnP w' base v l := by
  obtain ⟨h1, h2⟩ := h
  refine ⟨h1, ?_⟩
  rcases h2 with h2 | ⟨g, c, cur, e, hg, hh, hrest⟩
  · exact .inl h2
  · exact .inr ⟨g, c, cur, e, hg, by rw [hb.block g (Array.getElem?_eq_some_iff.1 hh).1]; exact hh, hrest⟩
theorem OwnP.lower {w : World} {b0 base : Nat} {v : Value} {l : List Hdl} (h : OwnP w base v l) (hb : b0 ≤ base) : OwnP w b0 v l := by
  obtain ⟨h1, h2⟩ := h
  refine ⟨h1, ?_⟩
  rcases h2 with h2 | ⟨g, c, cur, e, hg, hrest⟩
  · exact .inl h2
  · exact .inr ⟨g, c, cur, e, by omega, hrest⟩
theorem OwnP.form {w : World} {base : Nat} {v : Value} {l : List Hdl} (h : OwnP w base v l) : ∃ va vc, v = .slice va l.length vc ∧ l.length ≤ vc ∧ (l = [] ∨ ∃ g, va = some ⟨g, 0, none⟩ ∧ base ≤ g ∧ g < w.heap.size ∧ ∀ (i : Nat) k, l[i]? = some k → w.cell? ⟨g, i, none⟩ = some (hP k)) := by
  have h0 := h
  obtain ⟨_, h1 | ⟨g, c2, cur, rfl, hb, hh, hc2, _⟩⟩ := h
  · have e : l = [] := List.eq_nil_of_length_eq_zero h1.2
    subst e
    exact ⟨none, 0, h1.1, Nat.le_refl _, .inl rfl⟩
  · refine ⟨_, c2, rfl, hc2, .inr ⟨g, rfl, hb, (Array.getElem?_eq_some_iff.1 hh).1, fun i k hk => ?_⟩⟩
    have hi := (List.getElem?_eq_some_iff.1 hk).1
    have c1 := World.ownsRow.cellAt h0 i (by omega)
    rw [c1, List.getElem?_map, hk]
    rfl
theorem own_geP {w : World} {base : Nat} {v : Value} {l : List Hdl} (h : OwnP w base v l) (q : Nat) (hq : v.ownBlock = some q) : base ≤ q := by
  obtain ⟨_, h | ⟨g, c, cur, rfl, hg, _⟩⟩ := h
  · rw [h.1] at hq; cases hq
  · simp only [Value.ownBlock, Option.some.injEq] at hq; omega
theorem row_off {w : World} {base : Nat} {e : TypeId} {size : Nat} {v : Value} {n : Nat} {xs : List Value} (h : w.ownsRow base e size v n xs) {b i : Nat} (u : Value) (hb : b < base) : (w.setCell ⟨b, i, none⟩ u).ownsRow base e size v n xs := by
  obtain ⟨h1, h2⟩ := h
  refine ⟨h1, ?_⟩
  rcases h2 with h2 | ⟨g, c, cur, e', hg, hh, hrest⟩
  · exact .inl h2
  · exact .inr ⟨g, c, cur, e', hg, by rw [heap_setCell_other w ⟨b, i, none⟩ g u (by simp only; omega)]; exact hh, hrest⟩
theorem made_one (z : Value) (hz : z.cells = #[z]) (n : Nat) : (madeCells z.cells (n * 1)).toList = List.replicate n z := by
  rw [hz, Nat.mul_one]
  refine List.ext_getElem? fun i => ?_
  by_cases hi : i < n
  · rw [List.getElem?_replicate_of_lt hi]
    simp [madeCells, hi, Nat.mod_one]
  · rw [List.getElem?_eq_none (by simp [madeCells]; omega), List.getElem?_eq_none (by simp; omega)]
theorem infoPtr : (Tryz.prog.info? 100).map (fun i => (i.zero, i.size, i.bytes)) = some (some (.pointer none), 1, 8) := by kernel_rfl
theorem ptr_one (hs : List Hdl) : ∀ u ∈ hs.map hP, u.oneCell' = true := by
  intro u hu
  obtain ⟨h, _, rfl⟩ := List.mem_map.1 hu
  rfl
theorem set_fill {z : Value} : ∀ (ps : List Value) (k : Nat) (p : Value), ps[k]? = some p → (ps.take k ++ List.replicate (ps.length - k) z).set k p = ps.take (k + 1) ++ List.replicate (ps.length - (k + 1)) z := by
  intro ps k p h
  obtain ⟨hk, rfl⟩ := List.getElem?_eq_some_iff.1 h
  have hlen : (ps.take k).length = k := by simp; omega
  rw [List.set_append_right _ _ (by rw [hlen]; exact Nat.le_refl _), hlen, Nat.sub_self, List.take_succ_eq_append_getElem hk]
  obtain ⟨m, hm⟩ : ∃ m, ps.length - k = m + 1 := ⟨ps.length - k - 1, by omega⟩
  rw [hm, List.replicate_succ, List.set_cons_zero, show ps.length - (k + 1) = m from by omega, List.append_assoc]
  rfl
end Go.Proofs.YtopkidfbkhjaeaaGreatDoor
/-
  An entry that is copied, by the model.
-/
namespace Go.Proofs.YtopkidfbkhjaeaaGreatDoor
open Go.ChangeShapes Go.WideShapes Go.ChangeAt Go.RowKit Go.Sort
/-- An entry whose lists are rows of its own. -/
structure EntRow (w : World) (base : Nat) (x : Ent) (r : EntR) : Prop where
  h : RowH w base (.slice r.ha x.hs.length r.hc) x.hs
  b : RowB w base (.slice r.ba x.bl.length r.bc) x.bl
  t : RowT w base (.slice r.ta x.ts.length r.tc) x.ts
  n1 : r.ha = none ∨ r.ha ≠ r.ba
  n2 : r.ha = none ∨ r.ha ≠ r.ta
  n3 : r.ba = none ∨ r.ba ≠ r.ta
theorem row_off2 {w : World} {base : Nat} {e : TypeId} {size : Nat} {v : Value} {n : Nat} {xs : List Value} (h : w.ownsRow base e size v n xs) {b i : Nat} (u : Value) (hb : b < base) : (w.setCell ⟨b, i, none⟩ u).ownsRow base e size v n xs := row_off h u hb
theorem EntRow.in {w : World} {base : Nat} {x : Ent} {r : EntR} (h : EntRow w base x r) : EntIn w x r := by
  obtain ⟨a1, c1, e1, l1, i1⟩ := h.h.in
  obtain ⟨a2, c2, e2, l2, i2⟩ := h.b.in
  obtain ⟨a3, c3, e3, l3, i3⟩ := h.t.in
  simp only [Value.slice.injEq, true_and] at e1 e2 e3
  obtain ⟨r1, r2⟩ := e1
  obtain ⟨r3, r4⟩ := e2
  obtain ⟨r5, r6⟩ := e3
  exact ⟨r1 ▸ i1, r3 ▸ i2, r5 ▸ i3, by omega, by omega, by omega⟩
theorem EntRow.below {w w' : World} {base : Nat} {x : Ent} {r : EntR} (h : EntRow w base x r) (hb : Below w.heap.size w w') : EntRow w' base x r := ⟨row_below h.h hb, row_below h.b hb, row_below h.t hb, h.n1, h.n2, h.n3⟩
theorem EntRow.lower {w : World} {b0 base : Nat} {x : Ent} {r : EntR} (h : EntRow w base x r) (hb : b0 ≤ base) : EntRow w b0 x r := ⟨row_lower h.h hb, row_lower h.b hb, row_lower h.t hb, h.n1, h.n2, h.n3⟩
theorem EntRow.off1 {w : World} {base : Nat} {x : Ent} {r : EntR} (h : EntRow w base x r) {b i : Nat} (u : Value) (hb : b < base) : EntRow (w.setCell ⟨b, i, none⟩ u) base x r := ⟨row_off h.h u hb, row_off h.b u hb, row_off h.t u hb, h.n1, h.n2, h.n3⟩
theorem row_apart {w w' : World} {b1 b2 : Nat} {e1 e2 : TypeId} {s1 s2 : Nat} {a1 a2 : Option Addr} {n1 n2 c1 c2 : Nat} {x1 x2 : List Value} (h1 : w.ownsRow b1 e1 s1 (.slice a1 n1 c1) n1 x1) (h2 : w'.ownsRow b2 e2 s2 (.slice a2 n2 c2) n2 x2) (hb : w.heap.size ≤ b2) : a1 = none ∨ a1 ≠ a2 := by
  cases a1 with
  | none => exact .inl rfl
  | some p =>
    refine .inr fun e => ?_
    subst e
    have l1 := (World.ownsRow.lt h1 p.block rfl).2
    have l2 := (World.ownsRow.lt h2 p.block rfl).1
    omega
end Go.Proofs.YtopkidfbkhjaeaaGreatDoor
/-
  Fourteen cells that may be written.
-/
namespace Go.Proofs.YtopkidfbkhjaeaaGreatDoor
open Go.ChangeShapes Go.WideShapes Go.ChangeAt Go.RowKit
structure E14 (w : World) (b : Nat) (v0 v1 v2 v3 v4 v5 v6 v7 v8 v9 v10 v11 v12 v13 : Value) : Prop where
  c0 : w.cell? ⟨b, 0, none⟩ = some v0
  c1 : w.cell? ⟨b, 1, none⟩ = some v1
  c2 : w.cell? ⟨b, 2, none⟩ = some v2
  c3 : w.cell? ⟨b, 3, none⟩ = some v3
  c4 : w.cell? ⟨b, 4, none⟩ = some v4
  c5 : w.cell? ⟨b, 5, none⟩ = some v5
  c6 : w.cell? ⟨b, 6, none⟩ = some v6
  c7 : w.cell? ⟨b, 7, none⟩ = some v7
  c8 : w.cell? ⟨b, 8, none⟩ = some v8
  c9 : w.cell? ⟨b, 9, none⟩ = some v9
  c10 : w.cell? ⟨b, 10, none⟩ = some v10
  c11 : w.cell? ⟨b, 11, none⟩ = some v11
  c12 : w.cell? ⟨b, 12, none⟩ = some v12
  c13 : w.cell? ⟨b, 13, none⟩ = some v13
  fr : ∀ o, w.frozen? ⟨b, o, none⟩ = false
  lt : b < w.heap.size
section
variable {w w' : World} {b : Nat} {v0 v1 v2 v3 v4 v5 v6 v7 v8 v9 v10 v11 v12 v13 : Value}
theorem E14.keep (k : E14 w b v0 v1 v2 v3 v4 v5 v6 v7 v8 v9 v10 v11 v12 v13) (hb : Below w.heap.size w w') : E14 w' b v0 v1 v2 v3 v4 v5 v6 v7 v8 v9 v10 v11 v12 v13 :=
  ⟨by rw [hb.cell (p := ⟨b, 0, none⟩) k.lt]; exact k.c0, by rw [hb.cell (p := ⟨b, 1, none⟩) k.lt]; exact k.c1, by rw [hb.cell (p := ⟨b, 2, none⟩) k.lt]; exact k.c2, by rw [hb.cell (p := ⟨b, 3, none⟩) k.lt]; exact k.c3, by rw [hb.cell (p := ⟨b, 4, none⟩) k.lt]; exact k.c4, by rw [hb.cell (p := ⟨b, 5, none⟩) k.lt]; exact k.c5, by rw [hb.cell (p := ⟨b, 6, none⟩) k.lt]; exact k.c6, by rw [hb.cell (p := ⟨b, 7, none⟩) k.lt]; exact k.c7, by rw [hb.cell (p := ⟨b, 8, none⟩) k.lt]; exact k.c8, by rw [hb.cell (p := ⟨b, 9, none⟩) k.lt]; exact k.c9, by rw [hb.cell (p := ⟨b, 10, none⟩) k.lt]; exact k.c10, by rw [hb.cell (p := ⟨b, 11, none⟩) k.lt]; exact k.c11, by rw [hb.cell (p := ⟨b, 12, none⟩) k.lt]; exact k.c12, by rw [hb.cell (p := ⟨b, 13, none⟩) k.lt]; exact k.c13, fun o => by rw [hb.frozen (p := ⟨b, o, none⟩) k.lt]; exact k.fr o, Nat.lt_of_lt_of_le k.lt hb.size⟩
theorem E14.new (w : World) (v0 v1 v2 v3 v4 v5 v6 v7 v8 v9 v10 v11 v12 v13 : Value) (t : TypeId) : E14 (w.alloc (.cells #[v0, v1, v2, v3, v4, v5, v6, v7, v8, v9, v10, v11, v12, v13] t)) w.heap.size v0 v1 v2 v3 v4 v5 v6 v7 v8 v9 v10 v11 v12 v13 := ⟨by simp, by simp, by simp, by simp, by simp, by simp, by simp, by simp, by simp, by simp, by simp, by simp, by simp, by simp, fun o => by simp, by simp⟩
theorem E14.off (k : E14 w b v0 v1 v2 v3 v4 v5 v6 v7 v8 v9 v10 v11 v12 v13) {B i : Nat} {x : Value} (h : B ≠ b) : E14 (w.setCell ⟨B, i, none⟩ x) b v0 v1 v2 v3 v4 v5 v6 v7 v8 v9 v10 v11 v12 v13 := by
  have ne : ∀ o : Nat, (⟨B, i, none⟩ : Addr) ≠ ⟨b, o, none⟩ := fun o q => h (congrArg Addr.block q)
  exact ⟨by rw [World.cell?_setCell_other _ _ _ _ (ne _)]; exact k.c0, by rw [World.cell?_setCell_other _ _ _ _ (ne _)]; exact k.c1, by rw [World.cell?_setCell_other _ _ _ _ (ne _)]; exact k.c2, by rw [World.cell?_setCell_other _ _ _ _ (ne _)]; exact k.c3, by rw [World.cell?_setCell_other _ _ _ _ (ne _)]; exact k.c4, by rw [World.cell?_setCell_other _ _ _ _ (ne _)]; exact k.c5, by rw [World.cell?_setCell_other _ _ _ _ (ne _)]; exact k.c6, by rw [World.cell?_setCell_other _ _ _ _ (ne _)]; exact k.c7, by rw [World.cell?_setCell_other _ _ _ _ (ne _)]; exact k.c8, by rw [World.cell?_setCell_other _ _ _ _ (ne _)]; exact k.c9, by rw [World.cell?_setCell_other _ _ _ _ (ne _)]; exact k.c10, by rw [World.cell?_setCell_other _ _ _ _ (ne _)]; exact k.c11, by rw [World.cell?_setCell_other _ _ _ _ (ne _)]; exact k.c12, by rw [World.cell?_setCell_other _ _ _ _ (ne _)]; exact k.c13, fun o => by rw [World.frozen?_setCell]; exact k.fr o, by simpa using k.lt⟩
theorem E14.set0 (k : E14 w b v0 v1 v2 v3 v4 v5 v6 v7 v8 v9 v10 v11 v12 v13) (x : Value) : E14 (w.setCell ⟨b, 0, none⟩ x) b x v1 v2 v3 v4 v5 v6 v7 v8 v9 v10 v11 v12 v13 :=
  ⟨World.cell?_setCell_same _ _ _ k.c0, by rw [World.cell?_setCell_other _ _ _ _ (by intro q; have := congrArg Addr.off q; simp at this)]; exact k.c1, by rw [World.cell?_setCell_other _ _ _ _ (by intro q; have := congrArg Addr.off q; simp at this)]; exact k.c2, by rw [World.cell?_setCell_other _ _ _ _ (by intro q; have := congrArg Addr.off q; simp at this)]; exact k.c3, by rw [World.cell?_setCell_other _ _ _ _ (by intro q; have := congrArg Addr.off q; simp at this)]; exact k.c4, by rw [World.cell?_setCell_other _ _ _ _ (by intro q; have := congrArg Addr.off q; simp at this)]; exact k.c5, by rw [World.cell?_setCell_other _ _ _ _ (by intro q; have := congrArg Addr.off q; simp at this)]; exact k.c6, by rw [World.cell?_setCell_other _ _ _ _ (by intro q; have := congrArg Addr.off q; simp at this)]; exact k.c7, by rw [World.cell?_setCell_other _ _ _ _ (by intro q; have := congrArg Addr.off q; simp at this)]; exact k.c8, by rw [World.cell?_setCell_other _ _ _ _ (by intro q; have := congrArg Addr.off q; simp at this)]; exact k.c9, by rw [World.cell?_setCell_other _ _ _ _ (by intro q; have := congrArg Addr.off q; simp at this)]; exact k.c10, by rw [World.cell?_setCell_other _ _ _ _ (by intro q; have := congrArg Addr.off q; simp at this)]; exact k.c11, by rw [World.cell?_setCell_other _ _ _ _ (by intro q; have := congrArg Addr.off q; simp at this)]; exact k.c12, by rw [World.cell?_setCell_other _ _ _ _ (by intro q; have := congrArg Addr.off q; simp at this)]; exact k.c13, fun o => by rw [World.frozen?_setCell]; exact k.fr o, by simpa using k.lt⟩
theorem E14.set1 (k : E14 w b v0 v1 v2 v3 v4 v5 v6 v7 v8 v9 v10 v11 v12 v13) (x : Value) : E14 (w.setCell ⟨b, 1, none⟩ x) b v0 x v2 v3 v4 v5 v6 v7 v8 v9 v10 v11 v12 v13 :=
  ⟨by rw [World.cell?_setCell_other _ _ _ _ (by intro q; have := congrArg Addr.off q; simp at this)]; exact k.c0, World.cell?_setCell_same _ _ _ k.c1, by rw [World.cell?_setCell_other _ _ _ _ (by intro q; have := congrArg Addr.off q; simp at this)]; exact k.c2, by rw [World.cell?_setCell_other _ _ _ _ (by intro q; have := congrArg Addr.off q; simp at this)]; exact k.c3, by rw [World.cell?_setCell_other _ _ _ _ (by intro q; have := congrArg Addr.off q; simp at this)]; exact k.c4, by rw [World.cell?_setCell_other _ _ _ _ (by intro q; have := congrArg Addr.off q; simp at this)]; exact k.c5, by rw [World.cell?_setCell_other _ _ _ _ (by intro q; have := congrArg Addr.off q; simp at this)]; exact k.c6, by rw [World.cell?_setCell_other _ _ _ _ (by intro q; have := congrArg Addr.off q; simp at this)]; exact k.c7, by rw [World.cell?_setCell_other _ _ _ _ (by intro q; have := congrArg Addr.off q; simp at this)]; exact k.c8, by rw [World.cell?_setCell_other _ _ _ _ (by intro q; have := congrArg Addr.off q; simp at this)]; exact k.c9, by rw [World.cell?_setCell_other _ _ _ _ (by intro q; have := congrArg Addr.off q; simp at this)]; exact k.c10, by rw [World.cell?_setCell_other _ _ _ _ (by intro q; have := congrArg Addr.off q; simp at this)]; exact k.c11, by rw [World.cell?_setCell_other _ _ _ _ (by intro q; have := congrArg Addr.off q; simp at this)]; exact k.c12, by rw [World.cell?_setCell_other _ _ _ _ (by intro q; have := congrArg Addr.off q; simp at this)]; exact k.c13, fun o => by rw [World.frozen?_setCell]; exact k.fr o, by simpa using k.lt⟩
theorem E14.set2 (k : E14 w b v0 v1 v2 v3 v4 v5 v6 v7 v8 v9 v10 v11 v12 v13) (x : Value) : E14 (w.setCell ⟨b, 2, none⟩ x) b v0 v1 x v3 v4 v5 v6 v7 v8 v9 v10 v11 v12 v13 :=
  ⟨by rw [World.cell?_setCell_other _ _ _ _ (by intro q; have := congrArg Addr.off q; simp at this)]; exact k.c0, by rw [World.cell?_setCell_other _ _ _ _ (by intro q; have := congrArg Addr.off q; simp at this)]; exact k.c1, World.cell?_setCell_same _ _ _ k.c2, by rw [World.cell?_setCell_other _ _ _ _ (by intro q; have := congrArg Addr.off q; simp at this)]; exact k.c3, by rw [World.cell?_setCell_other _ _ _ _ (by intro q; have := congrArg Addr.off q; simp at this)]; exact k.c4, by rw [World.cell?_setCell_other _ _ _ _ (by intro q; have := congrArg Addr.off q; simp at this)]; exact k.c5, by rw [World.cell?_setCell_other _ _ _ _ (by intro q; have := congrArg Addr.off q; simp at this)]; exact k.c6, by rw [World.cell?_setCell_other _ _ _ _ (by intro q; have := congrArg Addr.off q; simp at this)]; exact k.c7, by rw [World.cell?_setCell_other _ _ _ _ (by intro q; have := congrArg Addr.off q; simp at this)]; exact k.c8, by rw [World.cell?_setCell_other _ _ _ _ (by intro q; have := congrArg Addr.off q; simp at this)]; exact k.c9, by rw [World.cell?_setCell_other _ _ _ _ (by intro q; have := congrArg Addr.off q; simp at this)]; exact k.c10, by rw [World.cell?_setCell_other _ _ _ _ (by intro q; have := congrArg Addr.off q; simp at this)]; exact k.c11, by rw [World.cell?_setCell_other _ _ _ _ (by intro q; have := congrArg Addr.off q; simp at this)]; exact k.c12, by rw [World.cell?_setCell_other _ _ _ _ (by intro q; have := congrArg Addr.off q; simp at this)]; exact k.c13, fun o => by rw [World.frozen?_setCell]; exact k.fr o, by simpa using k.lt⟩
theorem E14.set3 (k : E14 w b v0 v1 v2 v3 v4 v5 v6 v7 v8 v9 v10 v11 v12 v13) (x : Value) : E14 (w.setCell ⟨b, 3, none⟩ x) b v0 v1 v2 x v4 v5 v6 v7 v8 v9 v10 v11 v12 v13 :=
  ⟨by rw [World.cell?_setCell_other _ _ _ _ (by intro q; have := congrArg Addr.off q; simp at this)]; exact k.c0, by rw [World.cell?_setCell_other _ _ _ _ (by intro q; have := congrArg Addr.off q; simp at this)]; exact k.c1, by rw [World.cell?_setCell_other _ _ _ _ (by intro q; have := congrArg Addr.off q; simp at this)]; exact k.c2, World.cell?_setCell_same _ _ _ k.c3, by rw [World.cell?_setCell_other _ _ _ _ (by intro q; have := congrArg Addr.off q; simp at this)]; exact k.c4, by rw [World.cell?_setCell_other _ _ _ _ (by intro q; have := congrArg Addr.off q; simp at this)]; exact k.c5, by rw [World.cell?_setCell_other _ _ _ _ (by intro q; have := congrArg Addr.off q; simp at this)]; exact k.c6, by rw [World.cell?_setCell_other _ _ _ _ (by intro q; have := congrArg Addr.off q; simp at this)]; exact k.c7, by rw [World.cell?_setCell_other _ _ _ _ (by intro q; have := congrArg Addr.off q; simp at this)]; exact k.c8, by rw [World.cell?_setCell_other _ _ _ _ (by intro q; have := congrArg Addr.off q; simp at this)]; exact k.c9, by rw [World.cell?_setCell_other _ _ _ _ (by intro q; have := congrArg Addr.off q; simp at this)]; exact k.c10, by rw [World.cell?_setCell_other _ _ _ _ (by intro q; have := congrArg Addr.off q; simp at this)]; exact k.c11, by rw [World.cell?_setCell_other _ _ _ _ (by intro q; have := congrArg Addr.off q; simp at this)]; exact k.c12, by rw [World.cell?_setCell_other _ _ _ _ (by intro q; have := congrArg Addr.off q; simp at this)]; exact k.c13, fun o => by rw [World.frozen?_setCell]; exact k.fr o, by simpa using k.lt⟩
theorem E14.set4 (k : E14 w b v0 v1 v2 v3 v4 v5 v6 v7 v8 v9 v10 v11 v12 v13) (x : Value) : E14 (w.setCell ⟨b, 4, none⟩ x) b v0 v1 v2 v3 x v5 v6 v7 v8 v9 v10 v11 v12 v13 :=
  ⟨by rw [World.cell?_setCell_other _ _ _ _ (by intro q; have := congrArg Addr.off q; simp at this)]; exact k.c0, by rw [World.cell?_setCell_other _ _ _ _ (by intro q; have := congrArg Addr.off q; simp at this)]; exact k.c1, by rw [World.cell?_setCell_other _ _ _ _ (by intro q; have := congrArg Addr.off q; simp at this)]; exact k.c2, by rw [World.cell?_setCell_other _ _ _ _ (by intro q; have := congrArg Addr.off q; simp at this)]; exact k.c3, World.cell?_setCell_same _ _ _ k.c4, by rw [World.cell?_setCell_other _ _ _ _ (by intro q; have := congrArg Addr.off q; simp at this)]; exact k.c5, by rw [World.cell?_setCell_other _ _ _ _ (by intro q; have := congrArg Addr.off q; simp at this)]; exact k.c6, by rw [World.cell?_setCell_other _ _ _ _ (by intro q; have := congrArg Addr.off q; simp at this)]; exact k.c7, by rw [World.cell?_setCell_other _ _ _ _ (by intro q; have := congrArg Addr.off q; simp at this)]; exact k.c8, by rw [World.cell?_setCell_other _ _ _ _ (by intro q; have := congrArg Addr.off q; simp at this)]; exact k.c9, by rw [World.cell?_setCell_other _ _ _ _ (by intro q; have := congrArg Addr.off q; simp at this)]; exact k.c10, by rw [World.cell?_setCell_other _ _ _ _ (by intro q; have := congrArg Addr.off q; simp at this)]; exact k.c11, by rw [World.cell?_setCell_other _ _ _ _ (by intro q; have := congrArg Addr.off q; simp at this)]; exact k.c12, by rw [World.cell?_setCell_other _ _ _ _ (by intro q; have := congrArg Addr.off q; simp at this)]; exact k.c13, fun o => by rw [World.frozen?_setCell]; exact k.fr o, by simpa using k.lt⟩
theorem E14.set5 (k : E14 w b v0 v1 v2 v3 v4 v5 v6 v7 v8 v9 v10 v11 v12 v13) (x : Value) : E14 (w.setCell ⟨b, 5, none⟩ x) b v0 v1 v2 v3 v4 x v6 v7 v8 v9 v10 v11 v12 v13 :=
  ⟨by rw [World.cell?_setCell_other _ _ _ _ (by intro q; have := congrArg Addr.off q; simp at this)]; exact k.c0, by rw [World.cell?_setCell_other _ _ _ _ (by intro q; have := congrArg Addr.off q; simp at this)]; exact k.c1, by rw [World.cell?_setCell_other _ _ _ _ (by intro q; have := congrArg Addr.off q; simp at this)]; exact k.c2, by rw [World.cell?_setCell_other _ _ _ _ (by intro q; have := congrArg Addr.off q; simp at this)]; exact k.c3, by rw [World.cell?_setCell_other _ _ _ _ (by intro q; have := congrArg Addr.off q; simp at this)]; exact k.c4, World.cell?_setCell_same _ _ _ k.c5, by rw [World.cell?_setCell_other _ _ _ _ (by intro q; have := congrArg Addr.off q; simp at this)]; exact k.c6, by rw [World.cell?_setCell_other _ _ _ _ (by intro q; have := congrArg Addr.off q; simp at this)]; exact k.c7, by rw [World.cell?_setCell_other _ _ _ _ (by intro q; have := congrArg Addr.off q; simp at this)]; exact k.c8, by rw [World.cell?_setCell_other _ _ _ _ (by intro q; have := congrArg Addr.off q; simp at this)]; exact k.c9, by rw [World.cell?_setCell_other _ _ _ _ (by intro q; have := congrArg Addr.off q; simp at this)]; exact k.c10, by rw [World.cell?_setCell_other _ _ _ _ (by intro q; have := congrArg Addr.off q; simp at this)]; exact k.c11, by rw [World.cell?_setCell_other _ _ _ _ (by intro q; have := congrArg Addr.off q; simp at this)]; exact k.c12, by rw [World.cell?_setCell_other _ _ _ _ (by intro q; have := congrArg Addr.off q; simp at this)]; exact k.c13, fun o => by rw [World.frozen?_setCell]; exact k.fr o, by simpa using k.lt⟩
theorem E14.set6 (k : E14 w b v0 v1 v2 v3 v4 v5 v6 v7 v8 v9 v10 v11 v12 v13) (x : Value) : E14 (w.setCell ⟨b, 6, none⟩ x) b v0 v1 v2 v3 v4 v5 x v7 v8 v9 v10 v11 v12 v13 :=
  ⟨by rw [World.cell?_setCell_other _ _ _ _ (by intro q; have := congrArg Addr.off q; simp at this)]; exact k.c0, by rw [World.cell?_setCell_other _ _ _ _ (by intro q; have := congrArg Addr.off q; simp at this)]; exact k.c1, by rw [World.cell?_setCell_other _ _ _ _ (by intro q; have := congrArg Addr.off q; simp at this)]; exact k.c2, by rw [World.cell?_setCell_other _ _ _ _ (by intro q; have := congrArg Addr.off q; simp at this)]; exact k.c3, by rw [World.cell?_setCell_other _ _ _ _ (by intro q; have := congrArg Addr.off q; simp at this)]; exact k.c4, by rw [World.cell?_setCell_other _ _ _ _ (by intro q; have := congrArg Addr.off q; simp at this)]; exact k.c5, World.cell?_setCell_same _ _ _ k.c6, by rw [World.cell?_setCell_other _ _ _ _ (by intro q; have := congrArg Addr.off q; simp at this)]; exact k.c7, by rw [World.cell?_setCell_other _ _ _ _ (by intro q; have := congrArg Addr.off q; simp at this)]; exact k.c8, by rw [World.cell?_setCell_other _ _ _ _ (by intro q; have := congrArg Addr.off q; simp at this)]; exact k.c9, by rw [World.cell?_setCell_other _ _ _ _ (by intro q; have := congrArg Addr.off q; simp at this)]; exact k.c10, by rw [World.cell?_setCell_other _ _ _ _ (by intro q; have := congrArg Addr.off q; simp at this)]; exact k.c11, by rw [World.cell?_setCell_other _ _ _ _ (by intro q; have := congrArg Addr.off q; simp at this)]; exact k.c12, by rw [World.cell?_setCell_other _ _ _ _ (by intro q; have := congrArg Addr.off q; simp at this)]; exact k.c13, fun o => by rw [World.frozen?_setCell]; exact k.fr o, by simpa using k.lt⟩
theorem E14.set7 (k : E14 w b v0 v1 v2 v3 v4 v5 v6 v7 v8 v9 v10 v11 v12 v13) (x : Value) : E14 (w.setCell ⟨b, 7, none⟩ x) b v0 v1 v2 v3 v4 v5 v6 x v8 v9 v10 v11 v12 v13 :=
  ⟨by rw [World.cell?_setCell_other _ _ _ _ (by intro q; have := congrArg Addr.off q; simp at this)]; exact k.c0, by rw [World.cell?_setCell_other _ _ _ _ (by intro q; have := congrArg Addr.off q; simp at this)]; exact k.c1, by rw [World.cell?_setCell_other _ _ _ _ (by intro q; have := congrArg Addr.off q; simp at this)]; exact k.c2, by rw [World.cell?_setCell_other _ _ _ _ (by intro q; have := congrArg Addr.off q; simp at this)]; exact k.c3, by rw [World.cell?_setCell_other _ _ _ _ (by intro q; have := congrArg Addr.off q; simp at this)]; exact k.c4, by rw [World.cell?_setCell_other _ _ _ _ (by intro q; have := congrArg Addr.off q; simp at this)]; exact k.c5, by rw [World.cell?_setCell_other _ _ _ _ (by intro q; have := congrArg Addr.off q; simp at this)]; exact k.c6, World.cell?_setCell_same _ _ _ k.c7, by rw [World.cell?_setCell_other _ _ _ _ (by intro q; have := congrArg Addr.off q; simp at this)]; exact k.c8, by rw [World.cell?_setCell_other _ _ _ _ (by intro q; have := congrArg Addr.off q; simp at this)]; exact k.c9, by rw [World.cell?_setCell_other _ _ _ _ (by intro q; have := congrArg Addr.off q; simp at this)]; exact k.c10, by rw [World.cell?_setCell_other _ _ _ _ (by intro q; have := congrArg Addr.off q; simp at this)]; exact k.c11, by rw [World.cell?_setCell_other _ _ _ _ (by intro q; have := congrArg Addr.off q; simp at this)]; exact k.c12, by rw [World.cell?_setCell_other _ _ _ _ (by intro q; have := congrArg Addr.off q; simp at this)]; exact k.c13, fun o => by rw [World.frozen?_setCell]; exact k.fr o, by simpa using k.lt⟩
theorem E14.set8 (k : E14 w b v0 v1 v2 v3 v4 v5 v6 v7 v8 v9 v10 v11 v12 v13) (x : Value) : E14 (w.setCell ⟨b, 8, none⟩ x) b v0 v1 v2 v3 v4 v5 v6 v7 x v9 v10 v11 v12 v13 :=
  ⟨by rw [World.cell?_setCell_other _ _ _ _ (by intro q; have := congrArg Addr.off q; simp at this)]; exact k.c0, by rw [World.cell?_setCell_other _ _ _ _ (by intro q; have := congrArg Addr.off q; simp at this)]; exact k.c1, by rw [World.cell?_setCell_other _ _ _ _ (by intro q; have := congrArg Addr.off q; simp at this)]; exact k.c2, by rw [World.cell?_setCell_other _ _ _ _ (by intro q; have := congrArg Addr.off q; simp at this)]; exact k.c3, by rw [World.cell?_setCell_other _ _ _ _ (by intro q; have := congrArg Addr.off q; simp at this)]; exact k.c4, by rw [World.cell?_setCell_other _ _ _ _ (by intro q; have := congrArg Addr.off q; simp at this)]; exact k.c5, by rw [World.cell?_setCell_other _ _ _ _ (by intro q; have := congrArg Addr.off q; simp at this)]; exact k.c6, by rw [World.cell?_setCell_other _ _ _ _ (by intro q; have := congrArg Addr.off q; simp at this)]; exact k.c7, World.cell?_setCell_same _ _ _ k.c8, by rw [World.cell?_setCell_other _ _ _ _ (by intro q; have := congrArg Addr.off q; simp at this)]; exact k.c9, by rw [World.cell?_setCell_other _ _ _ _ (by intro q; have := congrArg Addr.off q; simp at this)]; exact k.c10, by rw [World.cell?_setCell_other _ _ _ _ (by intro q; have := congrArg Addr.off q; simp at this)]; exact k.c11, by rw [World.cell?_setCell_other _ _ _ _ (by intro q; have := congrArg Addr.off q; simp at this)]; exact k.c12, by rw [World.cell?_setCell_other _ _ _ _ (by intro q; have := congrArg Addr.off q; simp at this)]; exact k.c13, fun o => by rw [World.frozen?_setCell]; exact k.fr o, by simpa using k.lt⟩
theorem E14.set9 (k : E14 w b v0 v1 v2 v3 v4 v5 v6 v7 v8 v9 v10 v11 v12 v13) (x : Value) : E14 (w.setCell ⟨b, 9, none⟩ x) b v0 v1 v2 v3 v4 v5 v6 v7 v8 x v10 v11 v12 v13 :=
  ⟨by rw [World.cell?_setCell_other _ _ _ _ (by intro q; have := congrArg Addr.off q; simp at this)]; exact k.c0, by rw [World.cell?_setCell_other _ _ _ _ (by intro q; have := congrArg Addr.off q; simp at this)]; exact k.c1, by rw [World.cell?_setCell_other _ _ _ _ (by intro q; have := congrArg Addr.off q; simp at this)]; exact k.c2, by rw [World.cell?_setCell_other _ _ _ _ (by intro q; have := congrArg Addr.off q; simp at this)]; exact k.c3, by rw [World.cell?_setCell_other _ _ _ _ (by intro q; have := congrArg Addr.off q; simp at this)]; exact k.c4, by rw [World.cell?_setCell_other _ _ _ _ (by intro q; have := congrArg Addr.off q; simp at this)]; exact k.c5, by rw [World.cell?_setCell_other _ _ _ _ (by intro q; have := congrArg Addr.off q; simp at this)]; exact k.c6, by rw [World.cell?_setCell_other _ _ _ _ (by intro q; have := congrArg Addr.off q; simp at this)]; exact k.c7, by rw [World.cell?_setCell_other _ _ _ _ (by intro q; have := congrArg Addr.off q; simp at this)]; exact k.c8, World.cell?_setCell_same _ _ _ k.c9, by rw [World.cell?_setCell_other _ _ _ _ (by intro q; have := congrArg Addr.off q; simp at this)]; exact k.c10, by rw [World.cell?_setCell_other _ _ _ _ (by intro q; have := congrArg Addr.off q; simp at this)]; exact k.c11, by rw [World.cell?_setCell_other _ _ _ _ (by intro q; have := congrArg Addr.off q; simp at this)]; exact k.c12, by rw [World.cell?_setCell_other _ _ _ _ (by intro q; have := congrArg Addr.off q; simp at this)]; exact k.c13, fun o => by rw [World.frozen?_setCell]; exact k.fr o, by simpa using k.lt⟩
theorem E14.set10 (k : E14 w b v0 v1 v2 v3 v4 v5 v6 v7 v8 v9 v10 v11 v12 v13) (x : Value) : E14 (w.setCell ⟨b, 10, none⟩ x) b v0 v1 v2 v3 v4 v5 v6 v7 v8 v9 x v11 v12 v13 :=
  ⟨by rw [World.cell?_setCell_other _ _ _ _ (by intro q; have := congrArg Addr.off q; simp at this)]; exact k.c0, by rw [World.cell?_setCell_other _ _ _ _ (by intro q; have := congrArg Addr.off q; simp at this)]; exact k.c1, by rw [World.cell?_setCell_other _ _ _ _ (by intro q; have := congrArg Addr.off q; simp at this)]; exact k.c2, by rw [World.cell?_setCell_other _ _ _ _ (by intro q; have := congrArg Addr.off q; simp at this)]; exact k.c3, by rw [World.cell?_setCell_other _ _ _ _ (by intro q; have := congrArg Addr.off q; simp at this)]; exact k.c4, by rw [World.cell?_setCell_other _ _ _ _ (by intro q; have := congrArg Addr.off q; simp at this)]; exact k.c5, by rw [World.cell?_setCell_other _ _ _ _ (by intro q; have := congrArg Addr.off q; simp at this)]; exact k.c6, by rw [World.cell?_setCell_other _ _ _ _ (by intro q; have := congrArg Addr.off q; simp at this)]; exact k.c7, by rw [World.cell?_setCell_other _ _ _ _ (by intro q; have := congrArg Addr.off q; simp at this)]; exact k.c8, by rw [World.cell?_setCell_other _ _ _ _ (by intro q; have := congrArg Addr.off q; simp at this)]; exact k.c9, World.cell?_setCell_same _ _ _ k.c10, by rw [World.cell?_setCell_other _ _ _ _ (by intro q; have := congrArg Addr.off q; simp at this)]; exact k.c11, by rw [World.cell?_setCell_other _ _ _ _ (by intro q; have := congrArg Addr.off q; simp at this)]; exact k.c12, by rw [World.cell?_setCell_other _ _ _ _ (by intro q; have := congrArg Addr.off q; simp at this)]; exact k.c13, fun o => by rw [World.frozen?_setCell]; exact k.fr o, by simpa using k.lt⟩
theorem E14.set11 (k : E14 w b v0 v1 v2 v3 v4 v5 v6 v7 v8 v9 v10 v11 v12 v13) (x : Value) : E14 (w.setCell ⟨b, 11, none⟩ x) b v0 v1 v2 v3 v4 v5 v6 v7 v8 v9 v10 x v12 v13 :=
  ⟨by rw [World.cell?_setCell_other _ _ _ _ (by intro q; have := congrArg Addr.off q; simp at this)]; exact k.c0, by rw [World.cell?_setCell_other _ _ _ _ (by intro q; have := congrArg Addr.off q; simp at this)]; exact k.c1, by rw [World.cell?_setCell_other _ _ _ _ (by intro q; have := congrArg Addr.off q; simp at this)]; exact k.c2, by rw [World.cell?_setCell_other _ _ _ _ (by intro q; have := congrArg Addr.off q; simp at this)]; exact k.c3, by rw [World.cell?_setCell_other _ _ _ _ (by intro q; have := congrArg Addr.off q; simp at this)]; exact k.c4, by rw [World.cell?_setCell_other _ _ _ _ (by intro q; have := congrArg Addr.off q; simp at this)]; exact k.c5, by rw [World.cell?_setCell_other _ _ _ _ (by intro q; have := congrArg Addr.off q; simp at this)]; exact k.c6, by rw [World.cell?_setCell_other _ _ _ _ (by intro q; have := congrArg Addr.off q; simp at this)]; exact k.c7, by rw [World.cell?_setCell_other _ _ _ _ (by intro q; have := congrArg Addr.off q; simp at this)]; exact k.c8, by rw [World.cell?_setCell_other _ _ _ _ (by intro q; have := congrArg Addr.off q; simp at this)]; exact k.c9, by rw [World.cell?_setCell_other _ _ _ _ (by intro q; have := congrArg Addr.off q; simp at this)]; exact k.c10, World.cell?_setCell_same _ _ _ k.c11, by rw [World.cell?_setCell_other _ _ _ _ (by intro q; have := congrArg Addr.off q; simp at this)]; exact k.c12, by rw [World.cell?_setCell_other _ _ _ _ (by intro q; have := congrArg Addr.off q; simp at this)]; exact k.c13, fun o => by rw [World.frozen?_setCell]; exact k.fr o, by simpa using k.lt⟩
theorem E14.set12 (k : E14 w b v0 v1 v2 v3 v4 v5 v6 v7 v8 v9 v10 v11 v12 v13) (x : Value) : E14 (w.setCell ⟨b, 12, none⟩ x) b v0 v1 v2 v3 v4 v5 v6 v7 v8 v9 v10 v11 x v13 :=
  ⟨by rw [World.cell?_setCell_other _ _ _ _ (by intro q; have := congrArg Addr.off q; simp at this)]; exact k.c0, by rw [World.cell?_setCell_other _ _ _ _ (by intro q; have := congrArg Addr.off q; simp at this)]; exact k.c1, by rw [World.cell?_setCell_other _ _ _ _ (by intro q; have := congrArg Addr.off q; simp at this)]; exact k.c2, by rw [World.cell?_setCell_other _ _ _ _ (by intro q; have := congrArg Addr.off q; simp at this)]; exact k.c3, by rw [World.cell?_setCell_other _ _ _ _ (by intro q; have := congrArg Addr.off q; simp at this)]; exact k.c4, by rw [World.cell?_setCell_other _ _ _ _ (by intro q; have := congrArg Addr.off q; simp at this)]; exact k.c5, by rw [World.cell?_setCell_other _ _ _ _ (by intro q; have := congrArg Addr.off q; simp at this)]; exact k.c6, by rw [World.cell?_setCell_other _ _ _ _ (by intro q; have := congrArg Addr.off q; simp at this)]; exact k.c7, by rw [World.cell?_setCell_other _ _ _ _ (by intro q; have := congrArg Addr.off q; simp at this)]; exact k.c8, by rw [World.cell?_setCell_other _ _ _ _ (by intro q; have := congrArg Addr.off q; simp at this)]; exact k.c9, by rw [World.cell?_setCell_other _ _ _ _ (by intro q; have := congrArg Addr.off q; simp at this)]; exact k.c10, by rw [World.cell?_setCell_other _ _ _ _ (by intro q; have := congrArg Addr.off q; simp at this)]; exact k.c11, World.cell?_setCell_same _ _ _ k.c12, by rw [World.cell?_setCell_other _ _ _ _ (by intro q; have := congrArg Addr.off q; simp at this)]; exact k.c13, fun o => by rw [World.frozen?_setCell]; exact k.fr o, by simpa using k.lt⟩
theorem E14.set13 (k : E14 w b v0 v1 v2 v3 v4 v5 v6 v7 v8 v9 v10 v11 v12 v13) (x : Value) : E14 (w.setCell ⟨b, 13, none⟩ x) b v0 v1 v2 v3 v4 v5 v6 v7 v8 v9 v10 v11 v12 x :=
  ⟨by rw [World.cell?_setCell_other _ _ _ _ (by intro q; have := congrArg Addr.off q; simp at this)]; exact k.c0, by rw [World.cell?_setCell_other _ _ _ _ (by intro q; have := congrArg Addr.off q; simp at this)]; exact k.c1, by rw [World.cell?_setCell_other _ _ _ _ (by intro q; have := congrArg Addr.off q; simp at this)]; exact k.c2, by rw [World.cell?_setCell_other _ _ _ _ (by intro q; have := congrArg Addr.off q; simp at this)]; exact k.c3, by rw [World.cell?_setCell_other _ _ _ _ (by intro q; have := congrArg Addr.off q; simp at this)]; exact k.c4, by rw [World.cell?_setCell_other _ _ _ _ (by intro q; have := congrArg Addr.off q; simp at this)]; exact k.c5, by rw [World.cell?_setCell_other _ _ _ _ (by intro q; have := congrArg Addr.off q; simp at this)]; exact k.c6, by rw [World.cell?_setCell_other _ _ _ _ (by intro q; have := congrArg Addr.off q; simp at this)]; exact k.c7, by rw [World.cell?_setCell_other _ _ _ _ (by intro q; have := congrArg Addr.off q; simp at this)]; exact k.c8, by rw [World.cell?_setCell_other _ _ _ _ (by intro q; have := congrArg Addr.off q; simp at this)]; exact k.c9, by rw [World.cell?_setCell_other _ _ _ _ (by intro q; have := congrArg Addr.off q; simp at this)]; exact k.c10, by rw [World.cell?_setCell_other _ _ _ _ (by intro q; have := congrArg Addr.off q; simp at this)]; exact k.c11, by rw [World.cell?_setCell_other _ _ _ _ (by intro q; have := congrArg Addr.off q; simp at this)]; exact k.c12, World.cell?_setCell_same _ _ _ k.c13, fun o => by rw [World.frozen?_setCell]; exact k.fr o, by simpa using k.lt⟩
end
end Go.Proofs.YtopkidfbkhjaeaaGreatDoor
/-
  All that was there, but for one block, is as it was.
-/
namespace Go.Proofs.YtopkidfbkhjaeaaGreatDoor
open Go.ChangeShapes Go.WideShapes Go.ChangeAt Go.RowKit
/-- All that was there, but for block B, is as it was. -/
structure Apart (B : Nat) (w w' : World) : Prop where
  size : w.heap.size ≤ w'.heap.size
  cell : ∀ b o, b < w.heap.size → b ≠ B → w'.cell? ⟨b, o, none⟩ = w.cell? ⟨b, o, none⟩
  frozen : ∀ b o, b < w.heap.size → b ≠ B → w'.frozen? ⟨b, o, none⟩ = w.frozen? ⟨b, o, none⟩
theorem Apart.refl (B : Nat) (w : World) : Apart B w w := ⟨Nat.le_refl _, fun _ _ _ _ => rfl, fun _ _ _ _ => rfl⟩
theorem Apart.trans {B : Nat} {w w1 w2 : World} (h : Apart B w w1) (k : Apart B w1 w2) : Apart B w w2 :=
  ⟨Nat.le_trans h.size k.size, fun b o hb hn => by rw [k.cell b o (Nat.lt_of_lt_of_le hb h.size) hn, h.cell b o hb hn], fun b o hb hn => by rw [k.frozen b o (Nat.lt_of_lt_of_le hb h.size) hn, h.frozen b o hb hn]⟩
theorem Apart.below {B : Nat} {w w' : World} (h : Below w.heap.size w w') : Apart B w w' :=
  ⟨h.size, fun b o hb _ => h.cell (p := ⟨b, o, none⟩) hb, fun b o hb _ => h.frozen (p := ⟨b, o, none⟩) hb⟩
theorem Apart.alloc (B : Nat) (w : World) (o : Obj) : Apart B w (w.alloc o) := .below ((Below.refl _ _).alloc (Nat.le_refl _) _)
theorem Apart.set (B o : Nat) (w : World) (v : Value) : Apart B w (w.setCell ⟨B, o, none⟩ v) := by
  refine ⟨by simp, fun b o' _ hn => ?_, fun b o' _ hn => ?_⟩
  · rw [World.cell?_setCell_other _ _ _ _ (by intro h; have := congrArg Addr.block h; simp at this; omega)]
  · rw [World.frozen?_setCell]
end Go.Proofs.YtopkidfbkhjaeaaGreatDoor
/-
  markText: a text of its own for each number.
-/
namespace Go.Proofs.YtopkidfbkhjaeaaGreatDoor
open Go.ChangeShapes Go.WideShapes Go.ChangeAt Go.RowKit
def mkD (k : Nat) (o : ByteArray) : ByteArray := if _h : k = 0 then o else mkD (k / 10) ((⟨#[UInt8.ofNat (48 + k % 10)]⟩ : ByteArray) ++ o)
termination_by k
decreasing_by omega
theorem mkD_zero (o : ByteArray) : mkD 0 o = o := by rw [mkD]; simp
theorem mkD_more {k : Nat} (h : k ≠ 0) (o : ByteArray) : mkD k o = mkD (k / 10) ((⟨#[UInt8.ofNat (48 + k % 10)]⟩ : ByteArray) ++ o) := by rw [mkD, dif_neg h]
def mkT (k : Nat) : ByteArray := (⟨#[109]⟩ : ByteArray) ++ mkD k ⟨#[]⟩
theorem one_byteM (c : Int) (x : UInt8) (hx : (x.toNat : Int) = c) (W : World) (B cap : Nat) (hc : W.cell? ⟨B, 0, none⟩ = some (.int .u8 c)) :
    (convert 23 9 (.slice (some ⟨B, 0, none⟩) 1 cap)).run Tryz.prog W = .ok (.string ⟨#[x]⟩) W := by
  have := run_convert_bytes_back (P := Tryz.prog) W 23 9 5 ⟨B, 0, none⟩ cap [x] Tryz.underlying23 Tryz.underlying5 Tryz.underlying9 (fun j hj => by
    obtain rfl : j = 0 := by simp at hj; omega
    simp [Addr.add, hc, hx])
  simpa using this
set_option maxHeartbeats 2000000 in
theorem markText_any (k : Nat) (h0 : 1 ≤ k) (h1 : k ≤ 1000000000000000) (w : World) :
    Calls Tryz.prog 98 #[.int .i64 (k : Int)] w fun e w' => e = .returned (.string (mkT k)) ∧ Below w.heap.size w w' := by
  have HT : Hid (mkT k = (⟨#[109]⟩ : ByteArray) ++ mkD k ⟨#[]⟩) := rfl
  have g : ¬ (k : Int) ≤ 0 := by omega
  go_enter Tryz.func98, Tryz.ntmps98
  go_wp2
  go_loopw [0, 3] (fun x v wr => ∃ (j : Nat) (o : ByteArray), j ≤ k ∧ x = .int .i64 (j : Int) ∧ v = .string o ∧ mkD k ⟨#[]⟩ = mkD j o ∧ o.size + j ≤ k ∧ Below w.heap.size w wr) (fun x _ _ => (intOf x).toNat)
  case atStart => exact ⟨k, ⟨#[]⟩, Nat.le_refl _, rfl, rfl, rfl, by simp [ByteArray.size], Below.refl _ _⟩
  case round =>
    obtain ⟨j, o, hj, rfl, rfl, he, hs, hb⟩ := hrel
    have HE : Hid (mkD k ⟨#[]⟩ = mkD j o) := he
    have KB : Hid (Below w.heap.size w wr) := hb
    clear he hb
    by_cases hj0 : j = 0
    · subst hj0
      have HX : Hid (mkD k ⟨#[]⟩ = o) := by show _ = _; rw [HE.out, mkD_zero]
      have zk : (⟨#[109]⟩ : ByteArray).size = 1 := rfl
      have hadd := fun w => run_string_add_sum (P := Tryz.prog) (w := w) (⟨#[109]⟩ : ByteArray) o (by omega)
      clear zk
      go_wp2_with fail
      go_ret
      exact ⟨ret_str (by rw [HT.out, HX.out]), KB.out⟩
    · have HX : Hid (mkD k ⟨#[]⟩ = mkD (j / 10) ((⟨#[UInt8.ofNat (48 + j % 10)]⟩ : ByteArray) ++ o)) := by show _ = _; rw [HE.out, mkD_more hj0]
      have hcv := one_byteM (48 + (j : Int) % 10) (UInt8.ofNat (48 + j % 10)) (by rw [UInt8.toNat_ofNat_of_lt' (by show 48 + j % 10 < 256; omega)]; omega)
      have zr : (⟨#[UInt8.ofNat (48 + j % 10)]⟩ : ByteArray).size = 1 := rfl
      generalize (⟨#[UInt8.ofNat (48 + j % 10)]⟩ : ByteArray) = r at *
      have zq : (r ++ o).size = 1 + o.size := by rw [ByteArray.size_append, zr]
      have hadd := fun w => run_string_add_sum (P := Tryz.prog) (w := w) r o (by omega)
      generalize r ++ o = q at *
      have g1 : (0 : Int) < (j : Int) := by omega
      have e2 : IntKind.u8.wrap (48 + (j : Int) % 10) = 48 + (j : Int) % 10 := by rw [IntKind.wrap_u8]; omega
      have hj9 : (j : Int) ≤ 1000000000000000 := by omega
      go_wp2_with fail
      go_roundw
      case rel => exact ⟨j / 10, q, by omega, by go_num, rfl, HX.out, by omega, KB.out.alloc KB.out.size _⟩
      case measure => simp [intOf]; omega
end Go.Proofs.YtopkidfbkhjaeaaGreatDoor
/-
  markHeaderS and heldHeaderS: marks laid into head lines, and found again.
-/
namespace Go.Proofs.YtopkidfbkhjaeaaGreatDoor
open Go.ChangeShapes Go.WideShapes Go.ChangeAt Go.RowKit Go.Sort
def mkHR (k : Nat) (j : Nat) : Hdr := ⟨mkT (k + 2 * j), mkT (k + 2 * j + 1)⟩
def mkHL (k n : Nat) : List Hdr := (List.range n).map (mkHR k)
theorem mkHL_len (k n : Nat) : (mkHL k n).length = n := by simp [mkHL]
theorem mkHL_get {k n i : Nat} (h : i < n) : (mkHL k n)[i]? = some (mkHR k i) := by simp [mkHL, h]
theorem hcell_set_same {w : World} {g o : Nat} {u v : Value} (h : w.cell? ⟨g, o, none⟩ = some u) : (w.setCell ⟨g, o, none⟩ v).cell? ⟨g, o, none⟩ = some v := World.cell?_setCell_same _ _ _ h
theorem hcell_set_off {w : World} {g o o' : Nat} {v : Value} (h : o ≠ o') : (w.setCell ⟨g, o', none⟩ v).cell? ⟨g, o, none⟩ = w.cell? ⟨g, o, none⟩ :=
  World.cell?_setCell_other _ _ _ _ (by intro e; have := congrArg Addr.off e; simp at this; omega)
/-- One field of one line written. -/
theorem hput_name {w : World} {g off i : Nat} {L : List Hdr} {r : Hdr} (h : HeadsAt w g off L) (hr : L[i]? = some r) (n : ByteArray) :
    HeadsAt (w.setCell ⟨g, off + i * 2, none⟩ (.string n)) g off (L.set i { r with name := n }) := by
  intro j q hq
  by_cases e : j = i
  · subst e
    have hl := (List.getElem?_eq_some_iff.1 hr).1
    rw [List.getElem?_set_self hl] at hq
    obtain rfl := Option.some.inj hq
    obtain ⟨a, c⟩ := h j r hr
    exact ⟨hcell_set_same a, by rw [hcell_set_off (by omega)]; exact c⟩
  · rw [List.getElem?_set_ne (fun k => e k.symm)] at hq
    obtain ⟨a, c⟩ := h j q hq
    exact ⟨by rw [hcell_set_off (by omega)]; exact a, by rw [hcell_set_off (by omega)]; exact c⟩
theorem hput_value {w : World} {g off i : Nat} {L : List Hdr} {r : Hdr} (h : HeadsAt w g off L) (hr : L[i]? = some r) (n : ByteArray) :
    HeadsAt (w.setCell ⟨g, off + i * 2 + 1, none⟩ (.string n)) g off (L.set i { r with value := n }) := by
  intro j q hq
  by_cases e : j = i
  · subst e
    have hl := (List.getElem?_eq_some_iff.1 hr).1
    rw [List.getElem?_set_self hl] at hq
    obtain rfl := Option.some.inj hq
    obtain ⟨a, c⟩ := h j r hr
    exact ⟨by rw [hcell_set_off (by omega)]; exact a, hcell_set_same c⟩
  · rw [List.getElem?_set_ne (fun k => e k.symm)] at hq
    obtain ⟨a, c⟩ := h j q hq
    exact ⟨by rw [hcell_set_off (by omega)]; exact a, by rw [hcell_set_off (by omega)]; exact c⟩
/-- The state of the marking loop: j lines are marked. -/
structure HMarked (w : World) (g off : Nat) (k n j : Nat) (L : List Hdr) (W : World) : Prop where
  len : L.length = n
  done : ∀ i, i < j → L[i]? = some (mkHR k i)
  items : HeadsAt W g off L
  thaw : ∀ o, W.frozen? ⟨g, o, none⟩ = false
  apart : Apart g w W
  low : Below g w W
  lt : g < W.heap.size
theorem HMarked.below {w : World} {g off k n j : Nat} {L : List Hdr} {W W' : World} (h : HMarked w g off k n j L W) (hb : Below W.heap.size W W') : HMarked w g off k n j L W' :=
  ⟨h.len, h.done, h.items.keep hb, fun o => by rw [hb.frozen (p := ⟨g, o, none⟩) h.lt, h.thaw], h.apart.trans (.below hb), h.low.trans (hb.mono (Nat.le_of_lt h.lt)), Nat.lt_of_lt_of_le h.lt hb.size⟩
theorem HMarked.set {w : World} {g off k n j o : Nat} {L L' : List Hdr} {W : World} {v : Value} (h : HMarked w g off k n j L W) (hl : L'.length = L.length) (hd : ∀ i, i < j → L'[i]? = L[i]?) (hi : HeadsAt (W.setCell ⟨g, o, none⟩ v) g off L') : HMarked w g off k n j L' (W.setCell ⟨g, o, none⟩ v) :=
  ⟨hl.trans h.len, fun i hi => (hd i hi).trans (h.done i hi), hi, fun o => by rw [World.frozen?_setCell, h.thaw], h.apart.trans (.set _ _ _ _), h.low.setCell (Nat.le_refl _) _, by simpa using h.lt⟩
end Go.Proofs.YtopkidfbkhjaeaaGreatDoor
/-
  markHeaderS and heldHeaderS.
-/
namespace Go.Proofs.YtopkidfbkhjaeaaGreatDoor
open Go.ChangeShapes Go.WideShapes Go.ChangeAt Go.RowKit Go.Sort
set_option maxRecDepth 100000 in
set_option maxHeartbeats 4000000 in
theorem markHeaderS_any (w : World) (g off cap n k : Nat) (l : List Hdr) (hn : l.length = n) (hn2 : n ≤ 1048576) (hk0 : 1 ≤ k) (hk1 : k ≤ 100000000000000) (hi : HeadsAt w g off l) (hf : ∀ o, w.frozen? ⟨g, o, none⟩ = false) (hg : g < w.heap.size) :
    Calls Tryz.prog 52 #[.slice (some ⟨g, off, none⟩) n cap, .int .i64 (k : Int)] w fun e w' => e = .returned (.int .i64 ((k + 2 * n : Nat) : Int)) ∧ HeadsAt w' g off (mkHL k n) ∧ Apart g w w' ∧ Below g w w' ∧ ∀ o, w'.frozen? ⟨g, o, none⟩ = false := by
  have HST : Hid (HMarked w g off k n 0 l w) := ⟨hn, fun i h => by omega, hi, hf, .refl _ _, Below.refl _ _, hg⟩
  clear hi hf hg hn
  go_enter Tryz.func52, Tryz.ntmps52
  go_wp2_with fail
  go_loopw [1, 5] (fun x i wr => ∃ (j : Nat) (L : List Hdr), j ≤ n ∧ i = .int .i64 (j : Int) ∧ x = .int .i64 ((k + 2 * j : Nat) : Int) ∧ HMarked w g off k n j L wr) (fun _ i _ => n - (intOf i).toNat)
  case atStart => exact ⟨0, l, Nat.zero_le _, rfl, rfl, HST.out⟩
  case round =>
    obtain ⟨j, L, hj, rfl, rfl, hm⟩ := hrel
    have HM : Hid (HMarked w g off k n j L wr) := hm
    clear hm HST
    by_cases hlt : j < n
    · obtain ⟨r, hr⟩ : ∃ r, L[j]? = some r := ⟨L[j]'(by have := HM.out.len; omega), List.getElem?_eq_getElem _⟩
      have HR : Hid (L[j]? = some r) := hr
      clear hr
      have g0 : (0 : Int) ≤ j := by omega
      have g1 : (j : Int) < n := by omega
      have HT1 : Hid (∀ w, Calls Tryz.prog 98 #[.int .i64 ((k + 2 * j : Nat) : Int)] w fun e w' => e = .returned (.string (mkT (k + 2 * j))) ∧ Below w.heap.size w w') := markText_any (k + 2 * j) (by omega) (by omega)
      go_wp2_with fail
      refine (HT1.out _).mono ?_
      rintro e w1 ⟨rfl, hb1⟩
      have HM1 : Hid (HMarked w g off k n j L w1) := HM.out.below hb1
      clear hb1 HM
      obtain ⟨p1, p3⟩ := HM1.out.items j r HR.out
      have f1 := HM1.out.thaw (off + j * 2)
      have HT2 : Hid (∀ w, Calls Tryz.prog 98 #[.int .i64 ((k : Int) + 2 * j + 1)] w fun e w' => e = .returned (.string (mkT (k + 2 * j + 1))) ∧ Below w.heap.size w w') := by
        have := markText_any (k + 2 * j + 1) (by omega) (by omega)
        rw [show ((k + 2 * j + 1 : Nat) : Int) = (k : Int) + 2 * j + 1 by omega] at this
        exact this
      have hl : Hid (j < L.length) := (List.getElem?_eq_some_iff.1 HR.out).1
      have HM2 := HM1.out.set (L' := L.set j { r with name := mkT (k + 2 * j) }) (by simp) (fun i hi => by rw [List.getElem?_set_ne (by omega)]) (hput_name HM1.out.items HR.out (mkT (k + 2 * j)))
      have HM4 : Hid _ := HM2
      clear HM2 HM1
      go_wp2_with fail
      refine (HT2.out _).mono ?_
      rintro e w2 ⟨rfl, hb2⟩
      have HM5 : Hid (HMarked w g off k n j (L.set j { r with name := mkT (k + 2 * j) }) w2) := HM4.out.below hb2
      clear hb2 HM4 p1 p3 f1
      have hr5 : (L.set j { r with name := mkT (k + 2 * j) })[j]? = some { r with name := mkT (k + 2 * j) } := List.getElem?_set_self hl.out
      obtain ⟨p1, p3⟩ := HM5.out.items j _ hr5
      have f3 := HM5.out.thaw (off + j * 2 + 1)
      have HM6 := HM5.out.set (L' := (L.set j { r with name := mkT (k + 2 * j) }).set j (mkHR k j)) (by simp) (fun i hi => by rw [List.getElem?_set_ne (by omega)]) (by
        have := hput_value HM5.out.items hr5 (mkT (k + 2 * j + 1))
        exact this)
      have HM7 : Hid _ := HM6
      clear HM6 hr5 HM5
      go_wp2_with fail
      go_roundw
      case rel => exact ⟨j + 1, _, by omega, by go_num, by congr 1, HM7.out.len, fun i hi => by
        by_cases e : i = j
        · subst e; exact List.getElem?_set_self (by simpa using hl.out)
        · exact HM7.out.done i (by omega), HM7.out.items, HM7.out.thaw, HM7.out.apart, HM7.out.low, HM7.out.lt⟩
      case measure => simp [intOf]; omega
    · obtain rfl : j = n := by omega
      have HX : Hid (HeadsAt wr g off (mkHL k j)) := by
        have e : L = mkHL k j := by
          apply List.ext_getElem?
          intro i
          by_cases hi : i < j
          · rw [HM.out.done i hi, mkHL_get hi]
          · rw [List.getElem?_eq_none (by have := HM.out.len; omega), List.getElem?_eq_none (by rw [mkHL_len]; omega)]
        show HeadsAt _ _ _ _
        rw [← e]
        exact HM.out.items
      go_wp2_with fail
      go_ret
      exact ⟨rfl, HX.out, HM.out.apart, HM.out.low, HM.out.thaw⟩
set_option maxRecDepth 100000 in
set_option maxHeartbeats 4000000 in
theorem heldHeaderS_any (w : World) (g off cap n k : Nat) (hn2 : n ≤ 1048576) (hk0 : 1 ≤ k) (hk1 : k ≤ 100000000000000) (hi : HeadsAt w g off (mkHL k n)) :
    Calls Tryz.prog 99 #[.slice (some ⟨g, off, none⟩) n cap, .int .i64 (k : Int)] w fun e w' => e = .returned (.int .i64 ((k + 2 * n : Nat) : Int)) ∧ Below w.heap.size w w' := by
  have HI : Hid (HeadsAt w g off (mkHL k n)) := hi
  clear hi
  go_enter Tryz.func99, Tryz.ntmps99
  go_wp2_with fail
  go_loopw [1, 5] (fun x i wr => ∃ (j : Nat), j ≤ n ∧ i = .int .i64 (j : Int) ∧ x = .int .i64 ((k + 2 * j : Nat) : Int) ∧ Below w.heap.size w wr) (fun _ i _ => n - (intOf i).toNat)
  case atStart => exact ⟨0, Nat.zero_le _, rfl, rfl, Below.refl _ _⟩
  case round =>
    obtain ⟨j, hj, rfl, rfl, hb⟩ := hrel
    have KB : Hid (Below w.heap.size w wr) := hb
    clear hb
    by_cases hlt : j < n
    · obtain ⟨p1, p3⟩ := (HI.out.keep KB.out) j _ (mkHL_get hlt)
      have q1 : wr.cell? ⟨g, off + j * 2, none⟩ = some (.string (mkT (k + 2 * j))) := p1
      have q3 : wr.cell? ⟨g, off + j * 2 + 1, none⟩ = some (.string (mkT (k + 2 * j + 1))) := p3
      clear p1 p3
      have g0 : (0 : Int) ≤ j := by omega
      have g1 : (j : Int) < n := by omega
      have HT1 : Hid (∀ w, Calls Tryz.prog 98 #[.int .i64 ((k : Int) + 2 * j)] w fun e w' => e = .returned (.string (mkT (k + 2 * j))) ∧ Below w.heap.size w w') := by
        have := markText_any (k + 2 * j) (by omega) (by omega)
        rw [show ((k + 2 * j : Nat) : Int) = (k : Int) + 2 * j by omega] at this
        exact this
      have HT2 : Hid (∀ w, Calls Tryz.prog 98 #[.int .i64 ((k : Int) + 2 * j + 1)] w fun e w' => e = .returned (.string (mkT (k + 2 * j + 1))) ∧ Below w.heap.size w w') := by
        have := markText_any (k + 2 * j + 1) (by omega) (by omega)
        rw [show ((k + 2 * j + 1 : Nat) : Int) = (k : Int) + 2 * j + 1 by omega] at this
        exact this
      have KC : Hid (wr.cell? ⟨g, off + j * 2 + 1, none⟩ = some (.string (mkT (k + 2 * j + 1)))) := q3
      clear q3
      generalize mkT (k + 2 * j) = t1 at *
      generalize mkT (k + 2 * j + 1) = t2 at *
      have x1 := cell_regrown q1
      clear q1
      have cE : ∀ d os, Calls Tryz.prog 98 #[.int .i64 ((k : Int) + 2 * j)] (grow (redrawn wr d) os) fun e w'' => e = .returned (.string t1) ∧ ∃ p : Regrown, w'' = grow (redrawn wr p.d) p.os := fun d os => Calls.regrown_of (HT1.out _)
      go_wp2_with fail
      refine wp_region_quiet_below (by kernel_rfl) (by kernel_rfl) ?_
      repeat (go_big_quiet_step ((go_at_call 98; exact cE _ _)))
      refine wpQuiet_nil ?_
      intro w2 hw2
      have hb2 : Below wr.heap.size wr w2 := by
        obtain ⟨⟨d, os⟩, rfl⟩ := hw2
        exact below_regrown wr d os
      have KB2 : Hid (Below w.heap.size w w2) := KB.out.trans (hb2.mono KB.out.size)
      have y3 : w2.cell? ⟨g, off + j * 2 + 1, none⟩ = some (.string t2) := by rw [hb2.cell (block_lt_of_cell KC.out), KC.out]
      have x3 := cell_regrown y3
      clear x1 cE hw2 hb2 KB KC y3
      have cF : ∀ d os, Calls Tryz.prog 98 #[.int .i64 ((k : Int) + 2 * j + 1)] (grow (redrawn w2 d) os) fun e w'' => e = .returned (.string t2) ∧ ∃ p : Regrown, w'' = grow (redrawn w2 p.d) p.os := fun d os => Calls.regrown_of (HT2.out _)
      go_wp2_with fail
      refine wp_region_quiet_below (by kernel_rfl) (by kernel_rfl) ?_
      repeat (go_big_quiet_step ((go_at_call 98; exact cF _ _)))
      refine wpQuiet_nil ?_
      intro w3 hw3
      have KB3 : Hid (Below w.heap.size w w3) := by
        obtain ⟨⟨d, os⟩, rfl⟩ := hw3
        exact KB2.out.trans ((below_regrown w2 d os).mono KB2.out.size)
      clear x3 cF hw3 KB2
      go_wp2_with fail
      go_roundw
      case rel => exact ⟨j + 1, by omega, by go_num, by congr 1, KB3.out⟩
      case measure => simp [intOf]; omega
    · obtain rfl : j = n := by omega
      go_wp2_with fail
      go_ret
      exact ⟨rfl, KB.out⟩
end Go.Proofs.YtopkidfbkhjaeaaGreatDoor
/-
  Head lines as a value: compared, marked, held.
-/
namespace Go.Proofs.YtopkidfbkhjaeaaGreatDoor
open Go.ChangeShapes Go.WideShapes Go.ChangeAt Go.RowKit Go.Sort
def HLV (w : World) (v : Value) (l : List Hdr) : Prop :=
  (v = .slice none 0 0 ∧ l = []) ∨ ∃ g cap, v = .slice (some ⟨g, 0, none⟩) l.length cap ∧ g < w.heap.size ∧ HeadsAt w g 0 l ∧ ∀ o, w.frozen? ⟨g, o, none⟩ = false
theorem OwnH.lv {w : World} {base : Nat} {v : Value} {l : List Hdr} (h : OwnH w base v l) : HLV w v l ∧ ∀ b, v.ownBlock = some b → base ≤ b := by
  have h0 := h
  obtain ⟨_, h1 | ⟨g, c, cur, rfl, hg, hh, _⟩⟩ := h
  · have e : l = [] := List.eq_nil_of_length_eq_zero h1.2
    exact ⟨.inl ⟨h1.1, e⟩, fun b hb => by rw [h1.1] at hb; cases hb⟩
  · refine ⟨.inr ⟨g, c, rfl, (Array.getElem?_eq_some_iff.1 hh).1, ?_, fun o => ?_⟩, fun b hb => ?_⟩
    · obtain ⟨a, c', e, hi⟩ := h0.at
      rcases hi with rfl | ⟨b, off, rfl, hat⟩
      · intro i r hr; simp at hr
      · simp only [Value.slice.injEq, Option.some.injEq] at e
        obtain ⟨e, _⟩ := e
        have e1 := congrArg Addr.block e
        have e2 := congrArg Addr.off e
        simp only at e1 e2
        rw [e1, e2]
        exact hat
    · simp [World.frozen?, hh]
    · simp only [Value.ownBlock, Option.some.injEq] at hb; omega
theorem HLV.below {w w' : World} {v : Value} {l : List Hdr} (h : HLV w v l) (hb : Below w.heap.size w w') : HLV w' v l := by
  rcases h with h | ⟨g, c, e, hg, hi, hf⟩
  · exact .inl h
  · exact .inr ⟨g, c, e, Nat.lt_of_lt_of_le hg hb.size, hi.keep hb, fun o => by rw [hb.frozen (p := ⟨g, o, none⟩) hg, hf]⟩
/-- All that was there, but for the memory of v, is as it was. -/
structure HAV (v : Value) (w w' : World) : Prop where
  size : w.heap.size ≤ w'.heap.size
  cell : ∀ b o, b < w.heap.size → v.ownBlock ≠ some b → w'.cell? ⟨b, o, none⟩ = w.cell? ⟨b, o, none⟩
  frozen : ∀ b o, b < w.heap.size → v.ownBlock ≠ some b → w'.frozen? ⟨b, o, none⟩ = w.frozen? ⟨b, o, none⟩
theorem HAV.below {v : Value} {w w' : World} (h : Below w.heap.size w w') : HAV v w w' :=
  ⟨h.size, fun b o hb _ => h.cell (p := ⟨b, o, none⟩) hb, fun b o hb _ => h.frozen (p := ⟨b, o, none⟩) hb⟩
theorem HLV.av {w w' : World} {v v1 : Value} {l : List Hdr} (h : HLV w v1 l) (k : HAV v w w') (hne : ∀ b, v1.ownBlock = some b → v.ownBlock ≠ some b) : HLV w' v1 l := by
  rcases h with h | ⟨g, c, rfl, hg, hi, hf⟩
  · exact .inl h
  · have hn := hne g rfl
    exact .inr ⟨g, c, rfl, Nat.lt_of_lt_of_le hg k.size, fun i r hr => by rw [k.cell g _ hg hn, k.cell g _ hg hn]; exact hi i r hr, fun o => by rw [k.frozen g o hg hn, hf]⟩
set_option maxHeartbeats 1000000 in
theorem eqHeaderS_nil (w : World) (a b : Option Addr) (c d : Nat) :
    Calls Tryz.prog 50 #[.slice a 0 c, .slice b 0 d] w fun e w' => e = .returned (.bool true) ∧ Below w.heap.size w w' := by
  go_enter Tryz.func50, Tryz.ntmps50
  go_wp2_with fail
  go_loop [5] (fun i => i = .int .i64 0) (fun _ => 0)
  case atStart => rfl
  case round =>
    obtain rfl := hrel
    go_wp2_with fail
    go_ret
    exact ⟨rfl, Below.refl _ _⟩
theorem eqHeaderS_lv (w : World) (v1 v2 : Value) (l : List Hdr) (hl : l.length ≤ 1048576) (h1 : HLV w v1 l) (h2 : HLV w v2 l) :
    Calls Tryz.prog 50 #[v1, v2] w fun e w' => e = .returned (.bool true) ∧ Below w.heap.size w w' := by
  rcases h1 with ⟨rfl, rfl⟩ | ⟨g, c, rfl, _, hi, _⟩
  · rcases h2 with ⟨rfl, _⟩ | ⟨g, c, rfl, _, _, _⟩
    · exact eqHeaderS_nil w _ _ _ _
    · exact eqHeaderS_nil w _ _ _ _
  · rcases h2 with ⟨rfl, rfl⟩ | ⟨g', c', rfl, _, hi', _⟩
    · exact eqHeaderS_nil w _ _ _ _
    · exact eqHeaderS_same w g 0 g' 0 c c' l hl hi hi'
set_option maxHeartbeats 1000000 in
theorem markHeaderS_nil (w : World) (a : Option Addr) (c k : Nat) :
    Calls Tryz.prog 52 #[.slice a 0 c, .int .i64 (k : Int)] w fun e w' => e = .returned (.int .i64 (k : Int)) ∧ Below w.heap.size w w' := by
  go_enter Tryz.func52, Tryz.ntmps52
  go_wp2_with fail
  go_loop [1, 5] (fun x i => x = .int .i64 (k : Int) ∧ i = .int .i64 0) (fun _ _ => 0)
  case atStart => exact ⟨rfl, rfl⟩
  case round =>
    obtain ⟨rfl, rfl⟩ := hrel
    go_wp2_with fail
    go_ret
    exact ⟨rfl, Below.refl _ _⟩
set_option maxHeartbeats 1000000 in
theorem heldHeaderS_nil (w : World) (a : Option Addr) (c k : Nat) :
    Calls Tryz.prog 99 #[.slice a 0 c, .int .i64 (k : Int)] w fun e w' => e = .returned (.int .i64 (k : Int)) ∧ Below w.heap.size w w' := by
  go_enter Tryz.func99, Tryz.ntmps99
  go_wp2_with fail
  go_loop [1, 5] (fun x i => x = .int .i64 (k : Int) ∧ i = .int .i64 0) (fun _ _ => 0)
  case atStart => exact ⟨rfl, rfl⟩
  case round =>
    obtain ⟨rfl, rfl⟩ := hrel
    go_wp2_with fail
    go_ret
    exact ⟨rfl, Below.refl _ _⟩
theorem markHeaderS_lv (w : World) (v : Value) (l : List Hdr) (hl : l.length ≤ 1048576) (h : HLV w v l) (base : Nat) (hb : ∀ b, v.ownBlock = some b → base ≤ b) (hbs : base ≤ w.heap.size) :
    Calls Tryz.prog 52 #[v, .int .i64 1] w fun e w' => e = .returned (.int .i64 ((1 + 2 * l.length : Nat) : Int)) ∧ HLV w' v (mkHL 1 l.length) ∧ HAV v w w' ∧ Below base w w' := by
  rcases h with ⟨rfl, rfl⟩ | ⟨g, c, rfl, hg, hi, hf⟩
  · exact (markHeaderS_nil w none 0 1).mono fun _ _ ⟨h1, h2⟩ => ⟨h1, .inl ⟨rfl, rfl⟩, .below h2, h2.mono hbs⟩
  · refine (markHeaderS_any w g 0 c l.length 1 l rfl hl (by omega) (by omega) hi hf hg).mono ?_
    rintro e w' ⟨h1, h2, h3, h4, h5⟩
    have hne : ∀ b, (Value.slice (some ⟨g, 0, none⟩) l.length c).ownBlock ≠ some b → b ≠ g := fun b hb e => hb (by subst e; rfl)
    refine ⟨h1, ?_, ⟨h3.size, fun b o hb hn => h3.cell b o hb (hne b hn), fun b o hb hn => h3.frozen b o hb (hne b hn)⟩, h4.mono (hb g rfl)⟩
    exact .inr ⟨g, c, by rw [mkHL_len], Nat.lt_of_lt_of_le hg h3.size, h2, h5⟩
theorem heldHeaderS_lv (w : World) (v : Value) (n : Nat) (hl : n ≤ 1048576) (h : HLV w v (mkHL 1 n)) :
    Calls Tryz.prog 99 #[v, .int .i64 1] w fun e w' => e = .returned (.int .i64 ((1 + 2 * n : Nat) : Int)) ∧ Below w.heap.size w w' := by
  rcases h with ⟨rfl, h0⟩ | ⟨g, c, rfl, _, hi, _⟩
  · have e := congrArg List.length h0
    rw [mkHL_len] at e
    simp at e
    subst e
    exact heldHeaderS_nil w none 0 1
  · rw [mkHL_len]
    exact heldHeaderS_any w g 0 c n 1 hl (by omega) (by omega) hi
end Go.Proofs.YtopkidfbkhjaeaaGreatDoor
/-
  Word bytes: the table, plainly. No Go in sight.
-/
namespace Go.Proofs.YtopkidfbkhjaeaaGreatDoor
def wordTab : List Bool := [false, false, false, false, false, false, false, false, false, false, false, false, false, false, false, false, false, false, false, false, false, false, false, false, false, false, false, false, false, false, false, false, false, true, false, true, true, true, true, true, false, false, true, true, false, true, true, false, true, true, true, true, true, true, true, true, true, true, false, false, false, false, false, false, false, true, true, true, true, true, true, true, true, true, true, true, true, true, true, true, true, true, true, true, true, true, true, true, true, true, true, false, false, false, true, true, false, true, true, true, true, true, true, true, true, true, true, true, true, true, true, true, true, true, true, true, true, true, true, true, true, true, true, false, true, false, true, false]
def wordI (c : Int) : Bool := wordTab.getD c.toNat false
theorem wordTab_len : wordTab.length = 128 := by decide +kernel
/-- One of the signs that are no letter and no digit. -/
def signI (c : Nat) : Bool := [33, 35, 36, 37, 38, 39, 42, 43, 45, 46, 94, 95, 124, 126].contains c
theorem table_all : ∀ c : Fin 256, wordTab.getD c.val false = (signI c.val || (decide (97 ≤ c.val) && decide (c.val ≤ 122)) || (decide (65 ≤ c.val) && decide (c.val ≤ 90)) || (decide (48 ≤ c.val) && decide (c.val ≤ 57))) := by decide +kernel
theorem wordI_eq (c : Int) (h0 : 0 ≤ c) (h1 : c < 256) : wordI c = (signI c.toNat || (decide (97 ≤ c) && decide (c ≤ 122)) || (decide (65 ≤ c) && decide (c ≤ 90)) || (decide (48 ≤ c) && decide (c ≤ 57))) := by
  obtain ⟨n, rfl⟩ := Int.eq_ofNat_of_zero_le h0
  have h2 : n < 256 := by omega
  have := table_all ⟨n, h2⟩
  simp only at this
  rw [wordI, Int.toNat_natCast, this]
  have e : ∀ a : Nat, decide (a ≤ n) = decide ((a : Int) ≤ (n : Int)) := fun a => by simp
  have e' : ∀ a : Nat, decide (n ≤ a) = decide ((n : Int) ≤ (a : Int)) := fun a => by simp
  simp only [e, e']
  rfl
theorem wordI_big (c : Int) (h : 128 ≤ c) : wordI c = false := by
  have hl := wordTab_len
  unfold wordI
  rw [List.getD_eq_getElem?_getD, List.getElem?_eq_none (by omega)]
  rfl
def allW (l : List UInt8) : Bool := l.all fun c => wordI (c.toNat : Int)
theorem allW_snoc (l : List UInt8) (c : UInt8) : allW (l ++ [c]) = (allW l && wordI (c.toNat : Int)) := by simp [allW]
theorem allW_of_take (l : List UInt8) (k : Nat) (h : allW (l.take k) = false) : allW l = false := by
  have e := List.take_append_drop k l
  rw [← e]
  simp only [allW] at h ⊢
  rw [List.all_append, h, Bool.false_and]
theorem allW_not (s : ByteArray) (k : Nat) (h : k < s.size) (hd : wordI (s[k].toNat : Int) = false) : allW s.data.toList = false := by
  refine allW_of_take _ (k + 1) ?_
  rw [take_snoc s k h, allW_snoc, hd, Bool.and_false]
def wordS (s : ByteArray) : Bool := decide (1 ≤ s.size) && decide (s.size ≤ 64) && allW s.data.toList
theorem wordS_short (s : ByteArray) (h : s.size < 1) : wordS s = false := by simp [wordS]; omega
theorem wordS_long (s : ByteArray) (h : 64 < s.size) : wordS s = false := by simp [wordS]; omega
theorem wordS_mid (s : ByteArray) (h1 : 1 ≤ s.size) (h2 : s.size ≤ 64) : wordS s = allW s.data.toList := by simp [wordS, h1, h2]
end Go.Proofs.YtopkidfbkhjaeaaGreatDoor
/-
  Quotes, plainly. No Go in sight.
-/
namespace Go.Proofs.YtopkidfbkhjaeaaGreatDoor
def plainI (c : Int) : Bool := c == 9 || (decide (32 ≤ c) && decide (c ≤ 126))
def plainL (l : List UInt8) : Bool := l.all fun c => plainI (c.toNat : Int)
theorem plainL_snoc (l : List UInt8) (c : UInt8) : plainL (l ++ [c]) = (plainL l && plainI (c.toNat : Int)) := by simp [plainL]
theorem plainL_of_take (l : List UInt8) (k : Nat) (h : plainL (l.take k) = false) : plainL l = false := by
  have e := List.take_append_drop k l
  rw [← e]
  simp only [plainL] at h ⊢
  rw [List.all_append, h, Bool.false_and]
theorem plainL_not (s : ByteArray) (k : Nat) (h : k < s.size) (hd : plainI (s[k].toNat : Int) = false) : plainL s.data.toList = false := by
  refine plainL_of_take _ (k + 1) ?_
  rw [take_snoc s k h, plainL_snoc, hd, Bool.and_false]
/-- One byte between quotes. -/
def quoteC (c : UInt8) : List UInt8 := if (c.toNat : Int) = 34 ∨ (c.toNat : Int) = 92 then [92, c] else [c]
def quoteB (l : List UInt8) : List UInt8 := l.flatMap quoteC
def quoteL (l : List UInt8) : List UInt8 := [34] ++ quoteB l ++ [34]
theorem quoteB_snoc (l : List UInt8) (c : UInt8) : quoteB (l ++ [c]) = quoteB l ++ quoteC c := by simp [quoteB]
theorem quoteC_yes {c : UInt8} (h : (c.toNat : Int) = 34 ∨ (c.toNat : Int) = 92) : quoteC c = [92, c] := by simp only [quoteC, if_pos h]
theorem quoteC_no {c : UInt8} (h : ¬ ((c.toNat : Int) = 34 ∨ (c.toNat : Int) = 92)) : quoteC c = [c] := by simp only [quoteC, if_neg h]
theorem quoteC_len (c : UInt8) : (quoteC c).length ≤ 2 := by unfold quoteC; split <;> simp
theorem quoteB_len (l : List UInt8) : (quoteB l).length ≤ 2 * l.length := by
  induction l with
  | nil => simp [quoteB]
  | cons c r ih =>
    have := quoteC_len c
    simp only [quoteB, List.flatMap_cons, List.length_append, List.length_cons] at ih ⊢
    omega
theorem quoteB_ge (l : List UInt8) : l.length ≤ (quoteB l).length := by
  induction l with
  | nil => simp
  | cons c r ih =>
    have : 1 ≤ (quoteC c).length := by unfold quoteC; split <;> simp
    simp only [quoteB, List.flatMap_cons, List.length_append, List.length_cons] at ih ⊢
    omega
/-- What stands between quotes, read from behind the first one; acc: what was taken. -/
def unq (acc : List UInt8) : List UInt8 → List UInt8 × Bool
  | [] => ([], false)
  | [c] => if (c.toNat : Int) = 34 then (acc, true) else ([], false)
  | c :: d :: r => if (c.toNat : Int) = 34 then (acc, false) else if (c.toNat : Int) = 92 then unq (acc ++ [d]) r else unq (acc ++ [c]) (d :: r)
/-- A text between quotes: what it tells, and whether it does. -/
def unqT (l : List UInt8) : List UInt8 × Bool := if 2 ≤ l.length ∧ l.head? = some 34 ∧ plainL l = true then unq [] l.tail else ([], false)
theorem unq_end (acc r : List UInt8) (c : UInt8) (h : (c.toNat : Int) = 34) : unq acc (c :: r) = (acc, decide (r = [])) := by
  cases r with
  | nil => rw [unq, if_pos h]; rfl
  | cons d r => rw [unq, if_pos h]; simp
theorem unq_cut (acc : List UInt8) (c : UInt8) (h : (c.toNat : Int) = 92) : unq acc [c] = ([], false) := by
  rw [unq, if_neg (by omega)]
theorem unq_esc (acc r : List UInt8) (c d : UInt8) (h : (c.toNat : Int) = 92) : unq acc (c :: d :: r) = unq (acc ++ [d]) r := by
  rw [unq, if_neg (by omega), if_pos h]
theorem unq_take (acc r : List UInt8) (c : UInt8) (h1 : ¬ (c.toNat : Int) = 34) (h2 : ¬ (c.toNat : Int) = 92) : unq acc (c :: r) = unq (acc ++ [c]) r := by
  cases r with
  | nil => simp only [unq, if_neg h1]
  | cons d r => rw [unq, if_neg h1, if_neg h2]
/-- What was quoted is read as it was. -/
theorem unq_quote (l : List UInt8) : ∀ acc, unq acc (quoteB l ++ [34]) = (acc ++ l, true) := by
  induction l with
  | nil => intro acc; rw [show quoteB [] ++ [34] = [34] from rfl, unq_end _ _ _ (by decide)]; simp
  | cons c r ih =>
    intro acc
    have e : quoteB (c :: r) ++ [34] = quoteC c ++ (quoteB r ++ [34]) := by simp [quoteB]
    rw [e]
    by_cases h : (c.toNat : Int) = 34 ∨ (c.toNat : Int) = 92
    · rw [quoteC_yes h]
      show unq acc (92 :: c :: (quoteB r ++ [34])) = _
      rw [unq_esc _ _ _ _ (by decide), ih]; simp
    · rw [quoteC_no h]
      show unq acc (c :: (quoteB r ++ [34])) = _
      rw [unq_take _ _ _ (by omega) (by omega), ih]; simp
theorem plain_quoteB (l : List UInt8) (h : plainL l = true) : plainL (quoteB l) = true := by
  induction l with
  | nil => rfl
  | cons c r ih =>
    simp only [plainL, List.all_cons, Bool.and_eq_true] at h
    have e : quoteB (c :: r) = quoteC c ++ quoteB r := by simp [quoteB]
    rw [e]
    simp only [plainL, List.all_append, Bool.and_eq_true]
    refine ⟨?_, ih h.2⟩
    unfold quoteC
    split
    · simp [h.1]; decide
    · simp [h.1]
theorem unqT_quote (l : List UInt8) (h : plainL l = true) : unqT (quoteL l) = (l, true) := by
  have hp : plainL (quoteL l) = true := by
    simp only [quoteL, plainL, List.all_append, Bool.and_eq_true]
    exact ⟨⟨by decide, plain_quoteB l h⟩, by decide⟩
  unfold unqT
  rw [if_pos ⟨by simp [quoteL], rfl, hp⟩]
  show unq [] (quoteB l ++ [34]) = _
  rw [unq_quote]; simp
end Go.Proofs.YtopkidfbkhjaeaaGreatDoor
/-
  Blanks at both ends: plainly. No Go in sight.
-/
namespace Go.Proofs.YtopkidfbkhjaeaaGreatDoor
def blankI (c : Int) : Bool := c == 32 || c == 9
def trimT (s : ByteArray) : ByteArray := ⟨(Lib.trimS s.data.toList [32, 9]).toArray⟩
theorem contains_blank (b : UInt8) : [(32 : UInt8), 9].contains b = blankI (b.toNat : Int) := by
  rw [Bool.eq_iff_iff]
  simp [blankI, List.contains_eq_mem]
  constructor
  · rintro (rfl | rfl) <;> simp
  · rintro (h | h)
    · exact .inl (UInt8.toNat_inj.1 (by simpa using (by omega : b.toNat = 32)))
    · exact .inr (UInt8.toNat_inj.1 (by simpa using (by omega : b.toNat = 9)))
theorem trim_between (l : List UInt8) (k m : Nat) (hkm : k ≤ m) (hm : m ≤ l.length)
    (h1 : ∀ (j : Nat) b, j < k → l[j]? = some b → blankI (b.toNat : Int) = true) (h2 : ∀ b, k < l.length → l[k]? = some b → blankI (b.toNat : Int) = false)
    (h3 : ∀ (j : Nat) b, m ≤ j → l[j]? = some b → blankI (b.toNat : Int) = true) (h4 : ∀ b, k < m → l[m - 1]? = some b → blankI (b.toNat : Int) = false) :
    Lib.trimS l [32, 9] = (l.take m).drop k := by
  by_cases e : k < m
  · have er : Lib.trimRightS l [32, 9] = l.take m := by
      refine Lib.trimRightS_take l _ m hm (fun j b hj hb => ?_) (fun b _ hb => ?_)
      · rw [contains_blank]; exact h3 j b hj hb
      · rw [contains_blank]; exact h4 b e hb
    unfold Lib.trimS
    rw [er]
    refine Lib.trimLeftS_drop _ _ k (by simp; omega) (fun j b hj hb => ?_) (fun b hb => ?_)
    · rw [List.getElem?_take_of_lt (by omega)] at hb
      rw [contains_blank]; exact h1 j b hj hb
    · rw [List.getElem?_take_of_lt (by omega)] at hb
      rw [contains_blank]; exact h2 b (by omega) hb
  · obtain rfl : k = m := by omega
    have ek : k = l.length := by
      by_cases c : k < l.length
      · have a := h2 _ c (List.getElem?_eq_getElem c)
        have b := h3 k _ (Nat.le_refl _) (List.getElem?_eq_getElem c)
        rw [a] at b; cases b
      · omega
    have er : Lib.trimRightS l [32, 9] = l.take 0 := by
      refine Lib.trimRightS_take l _ 0 (Nat.zero_le _) (fun j b _ hb => ?_) (fun b h0 _ => absurd h0 (by omega))
      have hj : j < l.length := (List.getElem?_eq_some_iff.1 hb).1
      rw [contains_blank]; exact h1 j b (by omega) hb
    unfold Lib.trimS
    rw [er]
    simp [Lib.trimLeftS, ek]
theorem trim_extract (s : ByteArray) (k m : Nat) (h : Lib.trimS s.data.toList [32, 9] = (s.data.toList.take m).drop k) : s.extract k m = trimT s := by
  apply ByteArray.ext
  unfold trimT
  rw [h]
  apply Array.ext'
  simp [List.drop_take]
end Go.Proofs.YtopkidfbkhjaeaaGreatDoor
/-
  What the model's l1Lower answers.
-/
namespace Go.Proofs.YtopkidfbkhjaeaaGreatDoor
open Go.ChangeShapes Go.WideShapes Go.ChangeAt Go.RowKit
def lowS (s : ByteArray) : ByteArray := ⟨(s.data.toList.map lowU).toArray⟩
set_option maxHeartbeats 1000000 in
theorem l1Lower_any (s : ByteArray) (w : World) (hs : s.size ≤ 1048576) :
    Calls Tryz.prog 180 #[.string s] w fun e w' => e = .returned (.string (lowS s)) ∧ Below w.heap.size w w' := by
  obtain ⟨C, cap, hcv, hrow⟩ : ∃ C cap, (convert 9 23 (.string s)).run Tryz.prog w = .ok (.slice (some ⟨w.heap.size, 0, none⟩) s.size cap) (w.drew.alloc (.cells C 5 (C.size, C.size + 1))) ∧ BRow (w.alloc (.cells C 5 (C.size, C.size + 1))) w.heap.size s.data.toList :=
    ⟨_, _, run_bytes_of_string w 9 23 5 s Tryz.underlying9 Tryz.underlying23 Tryz.underlying5, BRow.made w s _ _ rfl⟩
  go_enter Tryz.func180, Tryz.ntmps180
  go_wp2
  go_loopw [4] (fun i wr => ∃ k : Nat, k ≤ s.size ∧ i = .int .i64 k ∧ BRow wr w.heap.size (lowK s.data.toList k) ∧ Below w.heap.size w wr) (fun i _ => s.size - (intOf i).toNat)
  case atStart => exact ⟨0, Nat.zero_le _, rfl, by rw [lowK_zero]; exact ⟨hrow.cell, hrow.free⟩, ((Below.refl _ _).alloc (Nat.le_refl _) _).drew⟩
  case round =>
    obtain ⟨k, hk, rfl, hr, hb⟩ := hrel
    clear hcv hrow
    have hlen := lowK_length s.data.toList k
    by_cases hlt : k < s.size
    · have hl : k < s.data.toList.length := by simpa using hlt
      have hl2 : k < (lowK s.data.toList k).length := by omega
      have hc := hr.cell k hl2
      have hf := hr.free k hl2
      rw [lowK_at _ _ hl hl2] at hc
      have Y : Hid (65 ≤ (s.data.toList[k].toNat : Int) ∧ (s.data.toList[k].toNat : Int) ≤ 90 → BRow (wr.setCell ⟨w.heap.size, k, none⟩ (.int .u8 ((s.data.toList[k].toNat : Int) + 32))) w.heap.size (lowK s.data.toList (k + 1))) := by
        intro ⟨u1, u2⟩
        have := hr.set k (lowU s.data.toList[k])
        rw [lowU_yes _ u1 u2] at this
        rw [lowK_succ _ _ hl]
        exact this
      have N : Hid (¬ (65 ≤ (s.data.toList[k].toNat : Int) ∧ (s.data.toList[k].toNat : Int) ≤ 90) → BRow wr w.heap.size (lowK s.data.toList (k + 1))) := by
        intro u
        rw [lowK_keep _ _ hl u]
        exact hr
      generalize s.data.toList[k] = x at *
      clear hr hlen hl2 hl
      by_cases hU : 65 ≤ (x.toNat : Int) ∧ (x.toNat : Int) ≤ 90
      · have R : Hid (BRow (wr.setCell ⟨w.heap.size, k, none⟩ (.int .u8 ((x.toNat : Int) + 32))) w.heap.size (lowK s.data.toList (k + 1))) := Y.out hU
        obtain ⟨u1, u2⟩ := hU
        have d2 : decide ((x.toNat : Int) ≤ 90) = true := by simpa using u2
        clear Y N
        go_wp2
        go_roundw
        case rel => exact ⟨k + 1, by omega, by go_num, R.out, hb.setCell (Nat.le_refl _) _⟩
        case measure => simp [intOf]; omega
      · have R : Hid (BRow wr w.heap.size (lowK s.data.toList (k + 1))) := N.out hU
        clear Y N
        by_cases u1 : 65 ≤ (x.toNat : Int)
        · have u2 : 90 < (x.toNat : Int) := by omega
          have d2 : decide ((x.toNat : Int) ≤ 90) = false := by simp; omega
          clear hU
          go_wp2
          go_roundw
          case rel => exact ⟨k + 1, by omega, by go_num, R.out, hb⟩
          case measure => simp [intOf]; omega
        · clear hU
          go_wp2
          go_roundw
          case rel => exact ⟨k + 1, by omega, by go_num, R.out, hb⟩
          case measure => simp [intOf]; omega
    · have e : lowK s.data.toList k = s.data.toList.map lowU := lowK_all _ _ (by simp; omega)
      rw [e] at hr
      have hback := hr.back (P := Tryz.prog) 23 9 5 s.size cap (by simp) Tryz.underlying23 Tryz.underlying5 Tryz.underlying9
      have HL : Hid ((⟨(s.data.toList.map lowU).toArray⟩ : ByteArray) = lowS s) := rfl
      generalize (⟨(s.data.toList.map lowU).toArray⟩ : ByteArray) = r at *
      clear hr e hlen
      go_wp2
      go_ret
      exact ⟨ret_str HL.out, hb⟩
end Go.Proofs.YtopkidfbkhjaeaaGreatDoor
/-
  Head lines, plainly: their faults, their text, how they are found, set and dropped. No Go in sight.
-/
namespace Go.Proofs.YtopkidfbkhjaeaaGreatDoor
def faultH (r : Hdr) : Int := if wordS r.name = false then 5 else if 200 < r.value.size then 2 else if plainL r.value.data.toList = false then 5 else if trimT r.value = r.value then 0 else 5
def faultHL : List Hdr → Int
  | [] => 0
  | r :: l => if faultH r = 0 then faultHL l else faultH r
theorem faultHL_ok {r : Hdr} {l : List Hdr} (h : faultH r = 0) : faultHL (r :: l) = faultHL l := by rw [faultHL, if_pos h]
theorem faultHL_bad {r : Hdr} {l : List Hdr} (h : faultH r ≠ 0) : faultHL (r :: l) = faultH r := by rw [faultHL, if_neg h]
def headsC (l : List Hdr) : Int := if 20 < l.length then 2 else faultHL l
theorem headsC_many {l : List Hdr} (h : 20 < l.length) : headsC l = 2 := by unfold headsC; rw [if_pos h]
theorem headsC_few {l : List Hdr} (h : ¬ 20 < l.length) : headsC l = faultHL l := by unfold headsC; rw [if_neg h]
theorem faultH_zero {r : Hdr} (h : faultH r = 0) : wordS r.name = true ∧ r.value.size ≤ 200 ∧ plainL r.value.data.toList = true ∧ trimT r.value = r.value := by
  unfold faultH at h
  by_cases c1 : wordS r.name = false
  · rw [if_pos c1] at h; omega
  rw [if_neg c1] at h
  by_cases c2 : 200 < r.value.size
  · rw [if_pos c2] at h; omega
  rw [if_neg c2] at h
  by_cases c3 : plainL r.value.data.toList = false
  · rw [if_pos c3] at h; omega
  rw [if_neg c3] at h
  by_cases c4 : trimT r.value = r.value
  · exact ⟨by simpa using c1, by omega, by simpa using c3, c4⟩
  · rw [if_neg c4] at h; omega
theorem faultHL_zero (l : List Hdr) (h : faultHL l = 0) : ∀ (i : Nat) r, l[i]? = some r → faultH r = 0 := by
  induction l with
  | nil => intro i r hr; simp at hr
  | cons x l ih =>
    intro i r hr
    by_cases c : faultH x = 0
    · rw [faultHL_ok c] at h
      cases i with
      | zero => simp at hr; subst hr; exact c
      | succ i => exact ih h i r (by simpa using hr)
    · rw [faultHL_bad c] at h; exact absurd h c
theorem faultHL_of (l : List Hdr) (h : ∀ r ∈ l, faultH r = 0) : faultHL l = 0 := by
  induction l with
  | nil => rfl
  | cons x l ih => rw [faultHL_ok (h x (by simp))]; exact ih fun r hr => h r (by simp [hr])
theorem headsC_zero {l : List Hdr} (h : headsC l = 0) : l.length ≤ 20 ∧ ∀ (i : Nat) r, l[i]? = some r → faultH r = 0 := by
  by_cases c : 20 < l.length
  · rw [headsC_many c] at h; omega
  · rw [headsC_few c] at h; exact ⟨by omega, faultHL_zero l h⟩
theorem hword_max {s : ByteArray} (h : wordS s = true) : s.size ≤ 64 := by
  by_cases c : 64 < s.size
  · rw [wordS_long s c] at h; cases h
  · omega
theorem take_hdr {l : List Hdr} {k : Nat} {r : Hdr} (h : l[k]? = some r) : l.take (k + 1) = l.take k ++ [r] := by rw [List.take_add_one, h]; rfl
theorem happ_list (a b : ByteArray) : (a ++ b).data.toList = a.data.toList ++ b.data.toList := by simp
theorem hof_list {a : ByteArray} {l : List UInt8} (h : a.data.toList = l) : a = ⟨l.toArray⟩ := by subst h; cases a; simp
theorem hret_ct {a b : Int} {s t : ByteArray} (h : a = b ∧ s = t) : Ending.returned (.agg #[.int .i64 b, .string t]) = .returned (.agg #[.int .i64 a, .string s]) := by rw [h.1, h.2]
/-! ### their text -/
def lineL (r : Hdr) : List UInt8 := r.name.data.toList ++ [58, 32] ++ r.value.data.toList ++ [13, 10]
def packL (l : List Hdr) : List UInt8 := l.flatMap lineL
theorem packL_take {l : List Hdr} {k : Nat} {r : Hdr} (h : l[k]? = some r) : packL (l.take (k + 1)) = packL (l.take k) ++ lineL r := by rw [take_hdr h]; simp [packL]
theorem lineL_len {r : Hdr} (h : faultH r = 0) : (lineL r).length ≤ 268 := by
  obtain ⟨h1, h2, _⟩ := faultH_zero h
  have := hword_max h1
  have e1 : r.name.data.toList.length = r.name.size := by simp
  have e2 : r.value.data.toList.length = r.value.size := by simp
  simp only [lineL, List.length_append, List.length_cons, List.length_nil]
  omega
def packT (l : List Hdr) : ByteArray := if headsC l = 0 then ⟨(packL l).toArray⟩ else ⟨#[]⟩
theorem packT_ok {l : List Hdr} (h : headsC l = 0) : packT l = ⟨(packL l).toArray⟩ := by unfold packT; rw [if_pos h]
theorem packT_bad {l : List Hdr} (h : headsC l ≠ 0) : packT l = ⟨#[]⟩ := by unfold packT; rw [if_neg h]
/-! ### names that are alike -/
def askC (l : List Hdr) (name : ByteArray) : Int := if headsC l = 0 then (if wordS name = true then 0 else 5) else headsC l
theorem askC_bad {l : List Hdr} {name : ByteArray} (h : headsC l ≠ 0) : askC l name = headsC l := by unfold askC; rw [if_neg h]
theorem askC_word {l : List Hdr} {name : ByteArray} (h : headsC l = 0) (hw : wordS name = true) : askC l name = 0 := by unfold askC; rw [if_pos h, if_pos hw]
theorem askC_text {l : List Hdr} {name : ByteArray} (h : headsC l = 0) (hw : wordS name = false) : askC l name = 5 := by unfold askC; rw [if_pos h, if_neg (by rw [hw]; decide)]
theorem askC_zero {l : List Hdr} {name : ByteArray} (h : askC l name = 0) : headsC l = 0 ∧ wordS name = true := by
  by_cases c : headsC l = 0
  · cases hw : wordS name
    · rw [askC_text c hw] at h; omega
    · exact ⟨c, rfl⟩
  · rw [askC_bad c] at h; exact absurd h c
/-- The values of all lines whose name, in small letters, is x. -/
def valsOf (x : ByteArray) (l : List Hdr) : List ByteArray := (l.filter fun r => decide (lowS r.name = x)).map (·.value)
theorem valsOf_yes {x : ByteArray} {r : Hdr} (l : List Hdr) (h : lowS r.name = x) : valsOf x (l ++ [r]) = valsOf x l ++ [r.value] := by simp [valsOf, h]
theorem valsOf_no {x : ByteArray} {r : Hdr} (l : List Hdr) (h : ¬ lowS r.name = x) : valsOf x (l ++ [r]) = valsOf x l := by simp [valsOf, h]
def hjoinL (vs : List ByteArray) : List UInt8 := Lib.join (vs.map (·.data.toList)) [44, 32]
theorem hjoinL_snoc (vs : List ByteArray) (v : ByteArray) : hjoinL (vs ++ [v]) = hjoinL vs ++ (if vs = [] then [] else [44, 32]) ++ v.data.toList := by
  unfold hjoinL
  cases vs with
  | nil => simp [Lib.join, List.intercalate]
  | cons a r =>
    rw [List.map_append, List.map_cons, List.cons_append, Lib.join_cons, Lib.join_cons]
    simp [Lib.joinTail]
def joinC (l : List Hdr) (name : ByteArray) : Int := if askC l name = 0 then (if valsOf (lowS name) l = [] then 4 else 0) else askC l name
def joinT (l : List Hdr) (name : ByteArray) : ByteArray := if joinC l name = 0 then ⟨(hjoinL (valsOf (lowS name) l)).toArray⟩ else ⟨#[]⟩
theorem join_bad {l : List Hdr} {name : ByteArray} (h : askC l name ≠ 0) : joinC l name = askC l name ∧ joinT l name = ⟨#[]⟩ := by
  have e : joinC l name = askC l name := by unfold joinC; rw [if_neg h]
  exact ⟨e, by unfold joinT; rw [if_neg (by rw [e]; exact h)]⟩
theorem join_none {l : List Hdr} {name : ByteArray} (h : askC l name = 0) (hv : valsOf (lowS name) l = []) : joinC l name = 4 ∧ joinT l name = ⟨#[]⟩ := by
  have e : joinC l name = 4 := by unfold joinC; rw [if_pos h, if_pos hv]
  exact ⟨e, by unfold joinT; rw [if_neg (by rw [e]; decide)]⟩
theorem join_some {l : List Hdr} {name : ByteArray} (h : askC l name = 0) (hv : valsOf (lowS name) l ≠ []) : joinC l name = 0 ∧ joinT l name = ⟨(hjoinL (valsOf (lowS name) l)).toArray⟩ := by
  have e : joinC l name = 0 := by unfold joinC; rw [if_pos h, if_neg hv]
  exact ⟨e, by unfold joinT; rw [if_pos e]⟩
/-- What is left without the lines whose name, in small letters, is x. -/
def dropH (x : ByteArray) (l : List Hdr) : List Hdr := l.filter fun r => decide (¬ lowS r.name = x)
theorem dropH_yes {x : ByteArray} {r : Hdr} (l : List Hdr) (h : lowS r.name = x) : dropH x (l ++ [r]) = dropH x l := by simp [dropH, h]
theorem dropH_no {x : ByteArray} {r : Hdr} (l : List Hdr) (h : ¬ lowS r.name = x) : dropH x (l ++ [r]) = dropH x l ++ [r] := by simp [dropH, h]
theorem dropH_len (x : ByteArray) (l : List Hdr) : (dropH x l).length ≤ l.length := List.length_filter_le _ _
def dropL (l : List Hdr) (name : ByteArray) : List Hdr := if askC l name = 0 then dropH (lowS name) l else []
/-- Where the first line of that name stands. -/
def firstAt (x : ByteArray) : List Hdr → Option Nat
  | [] => none
  | r :: l => if lowS r.name = x then some 0 else (firstAt x l).map (· + 1)
theorem firstAt_none {x : ByteArray} : ∀ {l : List Hdr}, firstAt x l = none → ∀ r ∈ l, ¬ lowS r.name = x
  | [], _, r, hr => by simp at hr
  | y :: l, h, r, hr => by
    by_cases c : lowS y.name = x
    · rw [firstAt, if_pos c] at h; cases h
    · rw [firstAt, if_neg c] at h
      rcases List.mem_cons.1 hr with rfl | hr
      · exact c
      · exact firstAt_none (Option.map_eq_none_iff.1 h) r hr
theorem firstAt_lt {x : ByteArray} : ∀ {l : List Hdr} {i : Nat}, firstAt x l = some i → i < l.length
  | [], i, h => by simp [firstAt] at h
  | y :: l, i, h => by
    by_cases c : lowS y.name = x
    · rw [firstAt, if_pos c] at h; obtain rfl := Option.some.inj h; simp
    · rw [firstAt, if_neg c] at h
      obtain ⟨j, hj, rfl⟩ := Option.map_eq_some_iff.1 h
      have := firstAt_lt hj
      simp only [List.length_cons]; omega
theorem firstAt_snoc {x : ByteArray} (r : Hdr) : ∀ (l : List Hdr), firstAt x (l ++ [r]) = match firstAt x l with | some i => some i | none => if lowS r.name = x then some l.length else none
  | [] => by simp [firstAt]
  | y :: l => by
    by_cases c : lowS y.name = x
    · simp [firstAt, c]
    · simp only [List.cons_append, firstAt, if_neg c]
      rw [firstAt_snoc r l]
      cases firstAt x l with
      | some i => rfl
      | none => simp only [Option.map_none]; split <;> simp
theorem valsOf_first {x : ByteArray} : ∀ {l : List Hdr}, valsOf x l = [] ↔ firstAt x l = none
  | [] => by simp [valsOf, firstAt]
  | y :: l => by
    by_cases c : lowS y.name = x
    · simp [valsOf, firstAt, c]
    · have := @valsOf_first x l
      simp only [valsOf] at this
      simp only [valsOf, firstAt, List.filter_cons, c, decide_false, Bool.false_eq_true, if_false, this, Option.map_eq_none_iff]
theorem valsOf_drop {x : ByteArray} : ∀ {l : List Hdr} {i : Nat}, firstAt x l = some i → valsOf x (l.drop i) = valsOf x l ∧ valsOf x (l.take i) = []
  | [], i, h => by simp [firstAt] at h
  | y :: l, i, h => by
    by_cases c : lowS y.name = x
    · rw [firstAt, if_pos c] at h; obtain rfl := Option.some.inj h; simp [valsOf]
    · rw [firstAt, if_neg c] at h
      obtain ⟨j, hj, rfl⟩ := Option.map_eq_some_iff.1 h
      have := valsOf_drop hj
      simp only [valsOf] at this
      simp only [valsOf, List.drop_succ_cons, List.take_succ_cons, List.filter_cons, c, decide_false, Bool.false_eq_true, if_false]
      exact this
/-- A line set. -/
def setGo (h : Hdr) : Bool → List Hdr → List Hdr
  | done, [] => if done = true then [] else [h]
  | done, r :: l => if lowS r.name = lowS h.name then (if done = true then setGo h true l else h :: setGo h true l) else r :: setGo h done l
theorem setGo_done (h : Hdr) : ∀ l : List Hdr, setGo h true l = dropH (lowS h.name) l
  | [] => by simp [setGo, dropH]
  | r :: l => by
    have ih := setGo_done h l
    by_cases c : lowS r.name = lowS h.name
    · simp only [setGo, if_true, ih, dropH, List.filter_cons, c, not_true_eq_false, decide_false, Bool.false_eq_true, if_false]
    · simp [setGo, ih, dropH, c]
theorem setGo_first (h : Hdr) : ∀ (l : List Hdr), setGo h false l = match firstAt (lowS h.name) l with
    | some i => (dropH (lowS h.name) l).take i ++ [h] ++ (dropH (lowS h.name) l).drop i
    | none => dropH (lowS h.name) l ++ [h]
  | [] => by simp [setGo, firstAt, dropH]
  | r :: l => by
    have ih := setGo_first h l
    by_cases c : lowS r.name = lowS h.name
    · simp only [setGo, firstAt, setGo_done, dropH, List.filter_cons, c, not_true_eq_false, decide_false, Bool.false_eq_true, if_false]
      simp
    · simp only [setGo, if_neg c, firstAt]
      rw [ih]
      have e : dropH (lowS h.name) (r :: l) = r :: dropH (lowS h.name) l := by simp [dropH, c]
      rw [e]
      cases firstAt (lowS h.name) l with
      | none => simp
      | some i => simp
theorem dropH_all {x : ByteArray} {l : List Hdr} (h : firstAt x l = none) : dropH x l = l := by
  unfold dropH
  rw [List.filter_eq_self]
  intro r hr
  simpa using firstAt_none h r hr
theorem setGo_len (h : Hdr) (l : List Hdr) : (setGo h false l).length = match firstAt (lowS h.name) l with | some _ => (dropH (lowS h.name) l).length + 1 | none => l.length + 1 := by
  rw [setGo_first]
  cases c : firstAt (lowS h.name) l with
  | none => simp [dropH_all c]
  | some i =>
    simp only [List.length_append, List.length_cons, List.length_nil, List.length_take, List.length_drop]
    omega
theorem dropH_lt {x : ByteArray} {i : Nat} : ∀ {l : List Hdr}, firstAt x l = some i → (dropH x l).length < l.length
  | [], h => by simp [firstAt] at h
  | r :: l, h => by
    by_cases c : lowS r.name = x
    · have := dropH_len x l
      simp only [dropH] at this
      simp only [dropH, List.filter_cons, c, not_true_eq_false, decide_false, Bool.false_eq_true, if_false, List.length_cons]
      omega
    · rw [firstAt, if_neg c] at h
      obtain ⟨j, hj, rfl⟩ := Option.map_eq_some_iff.1 h
      have := dropH_lt hj
      simp only [dropH] at this
      simp only [dropH, List.filter_cons, c, not_false_eq_true, decide_true, if_true, List.length_cons]
      omega
def setC (l : List Hdr) (h : Hdr) : Int := if askC l h.name = 0 then (if faultH h = 0 then (if 20 < (setGo h false l).length then 2 else 0) else faultH h) else askC l h.name
def setL (l : List Hdr) (h : Hdr) : List Hdr := if setC l h = 0 then setGo h false l else []
end Go.Proofs.YtopkidfbkhjaeaaGreatDoor
/-
  What the model's l1WordByte answers at any byte.
-/
namespace Go.Proofs.YtopkidfbkhjaeaaGreatDoor
open Go.ChangeShapes Go.WideShapes Go.ChangeAt Go.RowKit
set_option maxHeartbeats 400000 in
theorem wordByte_33 (w : World) :
    Calls Tryz.prog 128 #[.int .u8 33] w fun e w' => e = .returned (.bool (wordI 33)) ∧ w' = w := by
  have W : wordI 33 = true := by decide +kernel
  rw [W]
  clear W
  go_enter Tryz.func128, Tryz.ntmps128
  go_wp2
  go_ret
  exact ⟨rfl, rfl⟩
set_option maxHeartbeats 400000 in
theorem wordByte_35 (w : World) :
    Calls Tryz.prog 128 #[.int .u8 35] w fun e w' => e = .returned (.bool (wordI 35)) ∧ w' = w := by
  have W : wordI 35 = true := by decide +kernel
  rw [W]
  clear W
  go_enter Tryz.func128, Tryz.ntmps128
  go_wp2
  go_ret
  exact ⟨rfl, rfl⟩
set_option maxHeartbeats 400000 in
theorem wordByte_36 (w : World) :
    Calls Tryz.prog 128 #[.int .u8 36] w fun e w' => e = .returned (.bool (wordI 36)) ∧ w' = w := by
  have W : wordI 36 = true := by decide +kernel
  rw [W]
  clear W
  go_enter Tryz.func128, Tryz.ntmps128
  go_wp2
  go_ret
  exact ⟨rfl, rfl⟩
set_option maxHeartbeats 400000 in
theorem wordByte_37 (w : World) :
    Calls Tryz.prog 128 #[.int .u8 37] w fun e w' => e = .returned (.bool (wordI 37)) ∧ w' = w := by
  have W : wordI 37 = true := by decide +kernel
  rw [W]
  clear W
  go_enter Tryz.func128, Tryz.ntmps128
  go_wp2
  go_ret
  exact ⟨rfl, rfl⟩
set_option maxHeartbeats 400000 in
theorem wordByte_38 (w : World) :
    Calls Tryz.prog 128 #[.int .u8 38] w fun e w' => e = .returned (.bool (wordI 38)) ∧ w' = w := by
  have W : wordI 38 = true := by decide +kernel
  rw [W]
  clear W
  go_enter Tryz.func128, Tryz.ntmps128
  go_wp2
  go_ret
  exact ⟨rfl, rfl⟩
set_option maxHeartbeats 400000 in
theorem wordByte_39 (w : World) :
    Calls Tryz.prog 128 #[.int .u8 39] w fun e w' => e = .returned (.bool (wordI 39)) ∧ w' = w := by
  have W : wordI 39 = true := by decide +kernel
  rw [W]
  clear W
  go_enter Tryz.func128, Tryz.ntmps128
  go_wp2
  go_ret
  exact ⟨rfl, rfl⟩
set_option maxHeartbeats 400000 in
theorem wordByte_42 (w : World) :
    Calls Tryz.prog 128 #[.int .u8 42] w fun e w' => e = .returned (.bool (wordI 42)) ∧ w' = w := by
  have W : wordI 42 = true := by decide +kernel
  rw [W]
  clear W
  go_enter Tryz.func128, Tryz.ntmps128
  go_wp2
  go_ret
  exact ⟨rfl, rfl⟩
set_option maxHeartbeats 400000 in
theorem wordByte_43 (w : World) :
    Calls Tryz.prog 128 #[.int .u8 43] w fun e w' => e = .returned (.bool (wordI 43)) ∧ w' = w := by
  have W : wordI 43 = true := by decide +kernel
  rw [W]
  clear W
  go_enter Tryz.func128, Tryz.ntmps128
  go_wp2
  go_ret
  exact ⟨rfl, rfl⟩
set_option maxHeartbeats 400000 in
theorem wordByte_45 (w : World) :
    Calls Tryz.prog 128 #[.int .u8 45] w fun e w' => e = .returned (.bool (wordI 45)) ∧ w' = w := by
  have W : wordI 45 = true := by decide +kernel
  rw [W]
  clear W
  go_enter Tryz.func128, Tryz.ntmps128
  go_wp2
  go_ret
  exact ⟨rfl, rfl⟩
set_option maxHeartbeats 400000 in
theorem wordByte_46 (w : World) :
    Calls Tryz.prog 128 #[.int .u8 46] w fun e w' => e = .returned (.bool (wordI 46)) ∧ w' = w := by
  have W : wordI 46 = true := by decide +kernel
  rw [W]
  clear W
  go_enter Tryz.func128, Tryz.ntmps128
  go_wp2
  go_ret
  exact ⟨rfl, rfl⟩
set_option maxHeartbeats 400000 in
theorem wordByte_94 (w : World) :
    Calls Tryz.prog 128 #[.int .u8 94] w fun e w' => e = .returned (.bool (wordI 94)) ∧ w' = w := by
  have W : wordI 94 = true := by decide +kernel
  rw [W]
  clear W
  go_enter Tryz.func128, Tryz.ntmps128
  go_wp2
  go_ret
  exact ⟨rfl, rfl⟩
set_option maxHeartbeats 400000 in
theorem wordByte_95 (w : World) :
    Calls Tryz.prog 128 #[.int .u8 95] w fun e w' => e = .returned (.bool (wordI 95)) ∧ w' = w := by
  have W : wordI 95 = true := by decide +kernel
  rw [W]
  clear W
  go_enter Tryz.func128, Tryz.ntmps128
  go_wp2
  go_ret
  exact ⟨rfl, rfl⟩
set_option maxHeartbeats 400000 in
theorem wordByte_124 (w : World) :
    Calls Tryz.prog 128 #[.int .u8 124] w fun e w' => e = .returned (.bool (wordI 124)) ∧ w' = w := by
  have W : wordI 124 = true := by decide +kernel
  rw [W]
  clear W
  go_enter Tryz.func128, Tryz.ntmps128
  go_wp2
  go_ret
  exact ⟨rfl, rfl⟩
set_option maxHeartbeats 400000 in
theorem wordByte_126 (w : World) :
    Calls Tryz.prog 128 #[.int .u8 126] w fun e w' => e = .returned (.bool (wordI 126)) ∧ w' = w := by
  have W : wordI 126 = true := by decide +kernel
  rw [W]
  clear W
  go_enter Tryz.func128, Tryz.ntmps128
  go_wp2
  go_ret
  exact ⟨rfl, rfl⟩
set_option maxHeartbeats 1000000 in
theorem wordByte_else (c : Int) (w : World) (h0 : 0 ≤ c) (h1 : c < 256) (hs : signI c.toNat = false) :
    Calls Tryz.prog 128 #[.int .u8 c] w fun e w' => e = .returned (.bool (wordI c)) ∧ w' = w := by
  have HE : Hid (wordI c = ((decide (97 ≤ c) && decide (c ≤ 122)) || (decide (65 ≤ c) && decide (c ≤ 90)) || (decide (48 ≤ c) && decide (c ≤ 57)))) := by
    show _ = _
    rw [wordI_eq c h0 h1, hs, Bool.false_or]
  obtain ⟨n, rfl⟩ := Int.eq_ofNat_of_zero_le h0
  simp only [Int.toNat_natCast, signI, List.contains_eq_mem, List.mem_cons, List.not_mem_nil, or_false, decide_eq_false_iff_not, not_or] at hs
  obtain ⟨s0, s1, s2, s3, s4, s5, s6, s7, s8, s9, s10, s11, s12, s13⟩ := hs
  have t0 : ((n : Int) == 33) = false := by simp; omega
  have t1 : ((n : Int) == 35) = false := by simp; omega
  have t2 : ((n : Int) == 36) = false := by simp; omega
  have t3 : ((n : Int) == 37) = false := by simp; omega
  have t4 : ((n : Int) == 38) = false := by simp; omega
  have t5 : ((n : Int) == 39) = false := by simp; omega
  have t6 : ((n : Int) == 42) = false := by simp; omega
  have t7 : ((n : Int) == 43) = false := by simp; omega
  have t8 : ((n : Int) == 45) = false := by simp; omega
  have t9 : ((n : Int) == 46) = false := by simp; omega
  have t10 : ((n : Int) == 94) = false := by simp; omega
  have t11 : ((n : Int) == 95) = false := by simp; omega
  have t12 : ((n : Int) == 124) = false := by simp; omega
  have t13 : ((n : Int) == 126) = false := by simp; omega
  clear s0 s1 s2 s3 s4 s5 s6 s7 s8 s9 s10 s11 s12 s13
  generalize (n : Int) = c at *
  clear n
  have key : ∀ b : Bool, wordI c = b → Ending.returned (.bool b) = .returned (.bool (wordI c)) := fun b h => by rw [h]
  have KEY : Hid (∀ b : Bool, wordI c = b → Ending.returned (.bool b) = .returned (.bool (wordI c))) := key
  clear key
  by_cases c1 : c < 48
  · have W : Hid (wordI c = false) := by
      show _ = _
      rw [HE.out]; simp; omega
    go_enter Tryz.func128, Tryz.ntmps128
    go_wp2
    go_ret
    exact ⟨KEY.out _ W.out, rfl⟩
  by_cases c2 : c ≤ 57
  · have W : Hid (wordI c = true) := by
      show _ = _
      rw [HE.out]; simp; omega
    have d1 : decide (c ≤ 57) = true := by simpa using c2
    go_enter Tryz.func128, Tryz.ntmps128
    go_wp2
    go_ret
    exact ⟨KEY.out _ W.out, rfl⟩
  have d2 : decide (c ≤ 57) = false := by simpa using c2
  by_cases c3 : c < 65
  · have W : Hid (wordI c = false) := by
      show _ = _
      rw [HE.out]; simp; omega
    go_enter Tryz.func128, Tryz.ntmps128
    go_wp2
    go_ret
    exact ⟨KEY.out _ W.out, rfl⟩
  by_cases c4 : c ≤ 90
  · have W : Hid (wordI c = true) := by
      show _ = _
      rw [HE.out]; simp; omega
    have d1 : decide (c ≤ 90) = true := by simpa using c4
    go_enter Tryz.func128, Tryz.ntmps128
    go_wp2
    go_ret
    exact ⟨KEY.out _ W.out, rfl⟩
  have d4 : decide (c ≤ 90) = false := by simpa using c4
  by_cases c5 : c < 97
  · have W : Hid (wordI c = false) := by
      show _ = _
      rw [HE.out]; simp; omega
    go_enter Tryz.func128, Tryz.ntmps128
    go_wp2
    go_ret
    exact ⟨KEY.out _ W.out, rfl⟩
  by_cases c6 : c ≤ 122
  · have W : Hid (wordI c = true) := by
      show _ = _
      rw [HE.out]; simp; omega
    have d1 : decide (c ≤ 122) = true := by simpa using c6
    go_enter Tryz.func128, Tryz.ntmps128
    go_wp2
    go_ret
    exact ⟨KEY.out _ W.out, rfl⟩
  have d6 : decide (c ≤ 122) = false := by simpa using c6
  have W : Hid (wordI c = false) := by
    show _ = _
    rw [HE.out]; simp; omega
  go_enter Tryz.func128, Tryz.ntmps128
  go_wp2
  go_ret
  exact ⟨KEY.out _ W.out, rfl⟩
theorem wordByte_any (c : Int) (w : World) (h0 : 0 ≤ c) (h1 : c < 256) :
    Calls Tryz.prog 128 #[.int .u8 c] w fun e w' => e = .returned (.bool (wordI c)) ∧ w' = w := by
  cases h : signI c.toNat
  · exact wordByte_else c w h0 h1 h
  · obtain ⟨n, rfl⟩ := Int.eq_ofNat_of_zero_le h0
    simp only [Int.toNat_natCast, signI, List.contains_eq_mem, List.mem_cons, List.not_mem_nil, or_false, decide_eq_true_eq] at h
    rcases h with rfl | rfl | rfl | rfl | rfl | rfl | rfl | rfl | rfl | rfl | rfl | rfl | rfl | rfl
    · exact wordByte_33 w
    · exact wordByte_35 w
    · exact wordByte_36 w
    · exact wordByte_37 w
    · exact wordByte_38 w
    · exact wordByte_39 w
    · exact wordByte_42 w
    · exact wordByte_43 w
    · exact wordByte_45 w
    · exact wordByte_46 w
    · exact wordByte_94 w
    · exact wordByte_95 w
    · exact wordByte_124 w
    · exact wordByte_126 w
end Go.Proofs.YtopkidfbkhjaeaaGreatDoor
/-
  What the model's IsWord answers, and hasOnly over the table.
-/
namespace Go.Proofs.YtopkidfbkhjaeaaGreatDoor
open Go.ChangeShapes Go.WideShapes Go.ChangeAt Go.RowKit
set_option maxHeartbeats 400000 in
theorem specIsWord_size (s : ByteArray) (w : World) (h : s.size < 1 ∨ 64 < s.size) :
    Calls Tryz.prog 79 #[.string s] w fun e w' => e = .returned (.bool false) ∧ w' = w := by
  rcases h with h | h
  · have hh : (s.size : Int) < 1 := by omega
    go_enter Tryz.func79, Tryz.ntmps79
    go_wp2
    go_ret
    exact ⟨rfl, rfl⟩
  · have hh : (64 : Int) < s.size := by omega
    have h1 : ¬ (s.size : Int) < 1 := by omega
    go_enter Tryz.func79, Tryz.ntmps79
    go_wp2
    go_ret
    exact ⟨rfl, rfl⟩
set_option maxHeartbeats 1000000 in
theorem specIsWord_mid (s : ByteArray) (w : World) (h1 : 1 ≤ s.size) (h2 : s.size ≤ 64) :
    Calls Tryz.prog 79 #[.string s] w fun e w' => e = .returned (.bool (allW s.data.toList)) ∧ w' = w := by
  have g1 : ¬ (s.size : Int) < 1 := by omega
  have g2 : ¬ (64 : Int) < s.size := by omega
  go_enter Tryz.func79, Tryz.ntmps79
  go_wp2
  go_loop [3] (fun i => ∃ k : Nat, k ≤ s.size ∧ i = .int .i64 k ∧ allW (s.data.toList.take k) = true) (fun i => s.size - (intOf i).toNat)
  case atStart => exact ⟨0, Nat.zero_le _, rfl, rfl⟩
  case round =>
    obtain ⟨k, hk, rfl, hall⟩ := hrel
    by_cases hlt : k < s.size
    · have hb : ((s[k].toNat : Nat) : Int) < 256 := by have := s[k].toNat_lt; omega
      cases hw : wordI (s[k].toNat : Int)
      · have HN : Hid (allW s.data.toList = false) := allW_not s k hlt hw
        have HW : Hid (wordI (s[k].toNat : Int) = false) := hw
        clear hall hw
        go_wp2_with fail
        refine (wordByte_any _ _ (by omega) hb).mono ?_
        rintro e w' ⟨rfl, rfl⟩
        rw [HW.out]
        go_wp2
        go_ret
        exact ⟨ret_bool HN.out.symm, rfl⟩
      · have HA : Hid (allW (s.data.toList.take (k + 1)) = true) := by
          show _ = _
          rw [take_snoc s k hlt, allW_snoc, hall, hw]; rfl
        have HW : Hid (wordI (s[k].toNat : Int) = true) := hw
        clear hall hw
        go_wp2_with fail
        refine (wordByte_any _ _ (by omega) hb).mono ?_
        rintro e w' ⟨rfl, rfl⟩
        rw [HW.out]
        go_wp2
        go_round
        case rel => exact ⟨k + 1, by omega, by go_num, HA.out⟩
        case measure => simp [intOf]; omega
    · have ek : s.data.toList.take k = s.data.toList := List.take_of_length_le (by simp; omega)
      rw [ek] at hall
      have HN : Hid (allW s.data.toList = true) := hall
      clear ek hall
      go_wp2
      go_ret
      exact ⟨ret_bool HN.out.symm, rfl⟩
theorem specIsWord_any (s : ByteArray) (w : World) :
    Calls Tryz.prog 79 #[.string s] w fun e w' => e = .returned (.bool (wordS s)) ∧ w' = w := by
  by_cases c : s.size < 1 ∨ 64 < s.size
  · have h : wordS s = false := by
      rcases c with c | c
      · exact wordS_short s c
      · exact wordS_long s c
    rw [h]; exact specIsWord_size s w c
  · rw [wordS_mid s (by omega) (by omega)]
    exact specIsWord_mid s w (by omega) (by omega)
set_option maxHeartbeats 1000000 in
theorem hasOnly_any (s : ByteArray) (cs : Array Value) (w : World) (hs : s.size ≤ 64) (hcs : ∀ i, i < 128 → cs[i]? = some (.bool (wordI (i : Int)))) :
    Calls Tryz.prog 133 #[.string s, .agg cs] w fun e w' => e = .returned (.bool (allW s.data.toList)) ∧ Below w.heap.size w w' := by
  have hcell : ∀ i, i < 128 → (w.alloc (.cells cs 176)).cell? ⟨w.heap.size, i, none⟩ = some (.bool (wordI (i : Int))) := fun i hi => by
    rw [World.cell?_alloc_mark]; exact hcs i hi
  have HC : Hid (∀ i, i < 128 → (w.alloc (.cells cs 176)).cell? ⟨w.heap.size, i, none⟩ = some (.bool (wordI (i : Int)))) := hcell
  clear hcell hcs
  go_enter Tryz.func133, Tryz.ntmps133
  go_wp2
  go_loop [9] (fun i => ∃ k : Nat, k ≤ s.size ∧ i = .int .i64 k ∧ allW (s.data.toList.take k) = true) (fun i => s.size - (intOf i).toNat)
  case atStart => exact ⟨0, Nat.zero_le _, rfl, rfl⟩
  case round =>
    obtain ⟨k, hk, rfl, hall⟩ := hrel
    by_cases hlt : k < s.size
    · have hb : ((s[k].toNat : Nat) : Int) < 256 := by have := s[k].toNat_lt; omega
      by_cases hbig : 128 ≤ (s[k].toNat : Int)
      · have HN : Hid (allW s.data.toList = false) := allW_not s k hlt (wordI_big _ hbig)
        clear hall
        go_wp2
        go_ret
        exact ⟨ret_bool HN.out.symm, (Below.refl _ _).alloc (Nat.le_refl _) _⟩
      · have hc := HC.out s[k].toNat (by omega)
        cases hw : wordI (s[k].toNat : Int)
        · have HN : Hid (allW s.data.toList = false) := allW_not s k hlt hw
          rw [hw] at hc
          clear hall hw
          go_wp2
          go_ret
          exact ⟨ret_bool HN.out.symm, (Below.refl _ _).alloc (Nat.le_refl _) _⟩
        · have HA : Hid (allW (s.data.toList.take (k + 1)) = true) := by
            show _ = _
            rw [take_snoc s k hlt, allW_snoc, hall, hw]; rfl
          rw [hw] at hc
          clear hall hw
          go_wp2
          go_round
          case rel => exact ⟨k + 1, by omega, by go_num, HA.out⟩
          case measure => simp [intOf]; omega
    · have ek : s.data.toList.take k = s.data.toList := List.take_of_length_le (by simp; omega)
      rw [ek] at hall
      have HN : Hid (allW s.data.toList = true) := hall
      clear ek hall
      go_wp2
      go_ret
      exact ⟨ret_bool HN.out.symm, (Below.refl _ _).alloc (Nat.le_refl _) _⟩
end Go.Proofs.YtopkidfbkhjaeaaGreatDoor
/-
  A slice of bytes that the call itself grows: one byte more.
-/
namespace Go.Proofs.YtopkidfbkhjaeaaGreatDoor
open Go.ChangeShapes Go.WideShapes Go.ChangeAt Go.RowKit
theorem infoByteB : (Tryz.prog.info? 5).map (fun i => (i.zero, i.size, i.bytes)) = some (some (.int .u8 0), 1, 1) := by kernel_rfl
def bytesW (l : List UInt8) : List Value := l.map fun c => Value.int .u8 (c.toNat : Int)
/-- v, a slice that is not nil, holds the bytes l in a row of the call's own, from block base on. -/
structure OwnB (w : World) (base : Nat) (v : Value) (l : List UInt8) : Prop where
  own : w.ownsRow base 5 1 v l.length (bytesW l)
  nn : v ≠ .slice none 0 0
theorem own_geB {w : World} {base : Nat} {e : TypeId} {size : Nat} {v : Value} {n : Nat} {xs : List Value} (h : w.ownsRow base e size v n xs) (q : Nat) (hq : v.ownBlock = some q) : base ≤ q := by
  obtain ⟨_, h | ⟨g, c, cur, rfl, hg, _⟩⟩ := h
  · rw [h.1] at hq; cases hq
  · simp only [Value.ownBlock, Option.some.injEq] at hq; omega
theorem OwnB.text {w : World} {base : Nat} {v : Value} {l : List UInt8} (h : OwnB w base v l) :
    (convert 23 9 v).run Tryz.prog w = .ok (.string ⟨l.toArray⟩) w := by
  have h0 := h.own
  obtain ⟨_, hn | ⟨g, c, cur, rfl, hg, _⟩⟩ := h.own
  · exact absurd hn.1 h.nn
  · refine run_convert_bytes_back w 23 9 5 ⟨g, 0, none⟩ c l Tryz.underlying23 Tryz.underlying5 Tryz.underlying9 ?_
    intro j hj
    have := h0.cellAt j (by omega)
    have e : (⟨g, 0, none⟩ : Addr).add j = ⟨g, j, none⟩ := by unfold Addr.add; split <;> simp_all
    rw [e, this]
    simp [bytesW, hj]
/-- A slice literal of bytes, just laid. -/
theorem OwnB.made (w : World) (base : Nat) (hb : base ≤ w.heap.size) (l : List UInt8) (hl : l.length ≤ 1000000) : OwnB (w.alloc (.cells (bytesW l).toArray 5)) base (.slice (some ⟨w.heap.size, 0, none⟩) l.length l.length) l where
  own := ⟨by simp [bytesW], .inr ⟨w.heap.size, l.length, (bytesW l).toArray, rfl, hb, heap_alloc_new _ _, Nat.le_refl _, by unfold maxLen; omega, by simp [bytesW], by simp [bytesW, List.take_of_length_le]⟩⟩
  nn := by simp
theorem OwnB.below {w w' : World} {base : Nat} {v : Value} {l : List UInt8} (h : OwnB w base v l) (hb : Below w.heap.size w w') : OwnB w' base v l := by
  refine ⟨?_, h.nn⟩
  obtain ⟨h1, h2⟩ := h.own
  refine ⟨h1, ?_⟩
  rcases h2 with h2 | ⟨g, c, cur, e, hg, hh, hrest⟩
  · exact .inl h2
  · exact .inr ⟨g, c, cur, e, hg, by rw [hb.block g (Array.getElem?_eq_some_iff.1 hh).1]; exact hh, hrest⟩
/-- 'out = append(out, c)', the byte laid in a block of its own right ahead. -/
theorem wpList_append_byte {ops : Array Oper} {rest : List Oper} {o : Oper} {a : Act} {Q : Exit → Act → World → Prop} (w : World) (hgd : o.guard = none) (s x : Operand)
    (ho : o.op = .call { callee := .builtin .append, args := #[s, x], argTypes := #[23, 23] }) (base : Nat) (v : Value) (l : List UInt8) (z : Int) (c : UInt8)
    (hs : a.eval s = v) (hx : a.eval x = .slice (some ⟨w.heap.size, 0, none⟩) 1 1) (hown : OwnB w base v l) (hc : (c.toNat : Int) = z) (hl : l.length ≤ 1000000) (hbase : base ≤ w.heap.size)
    (h : ∀ v' w', OwnB w' base v' (l ++ [c]) → Below base w w' → w.heap.size ≤ w'.heap.size → wpList Tryz.prog ops Q rest (a.put o.dst v') w') :
    wpList Tryz.prog ops Q (o :: rest) a (w.alloc (.cells #[.int .u8 z] 5)) := by
  obtain ⟨i0, hi, hz0, hz1, hz2⟩ := info_parts infoByteB
  refine wpList_append_own _ hgd s x 23 ho base 5 i0 (.int .u8 0) 1 1 Tryz.underlying23 hi hz0 hz1 hz2 rfl (by decide) v l.length (bytesW l) hs (hown.own.alloc _) ⟨w.heap.size, 0, none⟩ 1 1 [.int .u8 z] hx rfl ?_ ?_ ?_ ?_ ?_ ?_
  · intro j u hj
    match j, hj with
    | 0, hj => simp at hj; subst hj; simp [Addr.add]
  · intro u hu; simp at hu; subst hu; rfl
  · unfold maxLen; omega
  · omega
  · simp; omega
  · intro v' w' h1 h2 h3
    have e : bytesW (l ++ [c]) = bytesW l ++ [Value.int .u8 z] := by simp [bytesW, hc]
    refine h v' w' ⟨by rw [e, List.length_append]; exact h1, fun hv => hown.nn (h3.1 hv).1⟩ ?_ ?_
    · exact ((Below.refl base w).alloc hbase _).grown h2 (by simp; omega) (fun q hq => own_geB hown.own q hq)
    · have hb := ((Below.refl 0 w).alloc (Nat.zero_le _) (.cells #[.int .u8 z] 5)).grown h2 (Nat.zero_le _) (fun q _ => Nat.zero_le _)
      exact hb.size
end Go.Proofs.YtopkidfbkhjaeaaGreatDoor
/-
  What the model's l2Plain and l2PlainText answer.
-/
namespace Go.Proofs.YtopkidfbkhjaeaaGreatDoor
open Go.ChangeShapes Go.WideShapes Go.ChangeAt Go.RowKit
set_option maxHeartbeats 400000 in
theorem plain_any (c : Int) (w : World) (h0 : 0 ≤ c) (h1 : c < 256) :
    Calls Tryz.prog 222 #[.int .u8 c] w fun e w' => e = .returned (.bool (plainI c)) ∧ w' = w := by
  by_cases e9 : c = 9
  · subst e9
    go_enter Tryz.func222, Tryz.ntmps222
    go_wp2
    go_ret
    exact ⟨rfl, rfl⟩
  · have d9 : (c == 9) = false := by simpa using e9
    by_cases a1 : 32 ≤ c
    · by_cases a2 : c ≤ 126
      · have d2 : decide (c ≤ 126) = true := by simpa using a2
        have HP : Hid (plainI c = true) := by show _ = _; simp [plainI, a1, a2]
        go_enter Tryz.func222, Tryz.ntmps222
        go_wp2
        go_ret
        exact ⟨ret_bool HP.out.symm, rfl⟩
      · have d2 : decide (c ≤ 126) = false := by simpa using a2
        have HP : Hid (plainI c = false) := by show _ = _; simp [plainI, e9]; omega
        go_enter Tryz.func222, Tryz.ntmps222
        go_wp2
        go_ret
        exact ⟨ret_bool HP.out.symm, rfl⟩
    · have HP : Hid (plainI c = false) := by show _ = _; simp [plainI, e9]; omega
      go_enter Tryz.func222, Tryz.ntmps222
      go_wp2
      go_ret
      exact ⟨ret_bool HP.out.symm, rfl⟩
set_option maxHeartbeats 1000000 in
theorem plainText_any (s : ByteArray) (w : World) (hs : s.size ≤ 1048576) :
    Calls Tryz.prog 178 #[.string s] w fun e w' => e = .returned (.bool (plainL s.data.toList)) ∧ w' = w := by
  go_enter Tryz.func178, Tryz.ntmps178
  go_wp2
  go_loop [3] (fun i => ∃ k : Nat, k ≤ s.size ∧ i = .int .i64 k ∧ plainL (s.data.toList.take k) = true) (fun i => s.size - (intOf i).toNat)
  case atStart => exact ⟨0, Nat.zero_le _, rfl, rfl⟩
  case round =>
    obtain ⟨k, hk, rfl, hall⟩ := hrel
    by_cases hlt : k < s.size
    · have hb : ((s[k].toNat : Nat) : Int) < 256 := by have := s[k].toNat_lt; omega
      cases hw : plainI (s[k].toNat : Int)
      · have HN : Hid (plainL s.data.toList = false) := plainL_not s k hlt hw
        have HW : Hid (plainI (s[k].toNat : Int) = false) := hw
        clear hall hw
        go_wp2_with fail
        refine (plain_any _ _ (by omega) hb).mono ?_
        rintro e w' ⟨rfl, rfl⟩
        rw [HW.out]
        go_wp2
        go_ret
        exact ⟨ret_bool HN.out.symm, rfl⟩
      · have HA : Hid (plainL (s.data.toList.take (k + 1)) = true) := by
          show _ = _
          rw [take_snoc s k hlt, plainL_snoc, hall, hw]; rfl
        have HW : Hid (plainI (s[k].toNat : Int) = true) := hw
        clear hall hw
        go_wp2_with fail
        refine (plain_any _ _ (by omega) hb).mono ?_
        rintro e w' ⟨rfl, rfl⟩
        rw [HW.out]
        go_wp2
        go_round
        case rel => exact ⟨k + 1, by omega, by go_num, HA.out⟩
        case measure => simp [intOf]; omega
    · have ek : s.data.toList.take k = s.data.toList := List.take_of_length_le (by simp; omega)
      rw [ek] at hall
      have HN : Hid (plainL s.data.toList = true) := hall
      clear ek hall
      go_wp2
      go_ret
      exact ⟨ret_bool HN.out.symm, rfl⟩
end Go.Proofs.YtopkidfbkhjaeaaGreatDoor
/-
  What the model's l1Trim answers.
-/
namespace Go.Proofs.YtopkidfbkhjaeaaGreatDoor
open Go.ChangeShapes Go.WideShapes Go.ChangeAt Go.RowKit
set_option maxHeartbeats 400000 in
theorem blank_any (c : Int) (w : World) :
    Calls Tryz.prog 223 #[.int .u8 c] w fun e w' => e = .returned (.bool (blankI c)) ∧ w' = w := by
  by_cases h1 : c = 32
  · subst h1
    go_enter Tryz.func223, Tryz.ntmps223
    go_wp2
    go_ret
    exact ⟨rfl, rfl⟩
  · by_cases h2 : c = 9
    · subst h2
      go_enter Tryz.func223, Tryz.ntmps223
      go_wp2
      go_ret
      exact ⟨rfl, rfl⟩
    · have d1 : (c == 32) = false := by simpa using h1
      have d2 : (c == 9) = false := by simpa using h2
      have HB : Hid (blankI c = false) := by
        show _ = _
        unfold blankI
        rw [d1, d2]; rfl
      clear h1 h2
      go_enter Tryz.func223, Tryz.ntmps223
      go_wp2
      go_ret
      exact ⟨ret_bool HB.out.symm, rfl⟩
set_option maxHeartbeats 1000000 in
theorem l1Trim_big (s : ByteArray) (w : World) (hs : s.size ≤ 1048576) :
    Calls Tryz.prog 179 #[.string s] w fun e w' => e = .returned (.string (trimT s)) ∧ w' = w := by
  go_enter Tryz.func179, Tryz.ntmps179
  go_wp2
  go_loop [3] (fun i => ∃ k : Nat, k ≤ s.size ∧ i = .int .i64 k ∧ ∀ (j : Nat) b, j < k → s.data.toList[j]? = some b → blankI (b.toNat : Int) = true) (fun i => s.size - (intOf i).toNat)
  case atStart => exact ⟨0, Nat.zero_le _, rfl, fun j b h => absurd h (Nat.not_lt_zero _)⟩
  case round =>
    obtain ⟨k, hk, rfl, hall⟩ := hrel
    have H1 : Hid (∀ (j : Nat) b, j < k → s.data.toList[j]? = some b → blankI (b.toNat : Int) = true) := hall
    clear hall
    by_cases hgo : ∃ h : k < s.size, blankI (s[k].toNat : Int) = true
    · obtain ⟨hlt, hb⟩ := hgo
      have HB : Hid (blankI (s[k].toNat : Int) = true) := hb
      clear hb
      go_wp2_with fail
      refine (blank_any _ _).mono ?_
      rintro e w' ⟨rfl, rfl⟩
      rw [HB.out]
      go_wp2
      go_round
      case rel =>
        refine ⟨k + 1, by omega, by go_num, fun j b hj hbj => ?_⟩
        by_cases e : j = k
        · subst e
          have : s.data.toList[j]? = some s[j] := by rw [List.getElem?_eq_getElem (by simpa using hlt)]; rfl
          rw [this] at hbj
          obtain rfl := Option.some.inj hbj
          exact HB.out
        · exact H1.out j b (by omega) hbj
      case measure => simp [intOf]; omega
    · have H2 : Hid (∀ b, k < s.data.toList.length → s.data.toList[k]? = some b → blankI (b.toNat : Int) = false) := by
        intro b hlt hb
        have hlt' : k < s.size := by simpa using hlt
        have : s.data.toList[k]? = some s[k] := by rw [List.getElem?_eq_getElem hlt]; rfl
        rw [this] at hb
        obtain rfl := Option.some.inj hb
        cases hx : blankI (s[k].toNat : Int)
        · rfl
        · exact absurd ⟨hlt', hx⟩ hgo
      by_cases hlt : k < s.size
      · have HB : Hid (blankI (s[k].toNat : Int) = false) := by
          show _ = _
          cases hx : blankI (s[k].toNat : Int)
          · rfl
          · exact absurd ⟨hlt, hx⟩ hgo
        clear hgo
        go_wp2_with fail
        refine (blank_any _ _).mono ?_
        rintro e w' ⟨rfl, rfl⟩
        rw [HB.out]
        clear HB
        go_wp2
        go_loop [4] (fun i => ∃ m : Nat, k ≤ m ∧ m ≤ s.size ∧ i = .int .i64 m ∧ ∀ (j : Nat) b, m ≤ j → s.data.toList[j]? = some b → blankI (b.toNat : Int) = true) (fun i => (intOf i).toNat)
        case atStart => exact ⟨s.size, hk, Nat.le_refl _, rfl, fun j b hj hb => absurd (List.getElem?_eq_some_iff.1 hb).1 (by simp; omega)⟩
        case round =>
          obtain ⟨m, hkm, hm, rfl, hall⟩ := hrel
          have H3 : Hid (∀ (j : Nat) b, m ≤ j → s.data.toList[j]? = some b → blankI (b.toNat : Int) = true) := hall
          clear hall
          by_cases hkm2 : k < m
          · obtain ⟨n, rfl⟩ : ∃ n, m = n + 1 := ⟨m - 1, by omega⟩
            have hn : n < s.size := by omega
            cases hb : blankI (s[n].toNat : Int)
            · have HB : Hid (blankI (s[n].toNat : Int) = false) := hb
              have HT : Hid (s.extract k (n + 1) = trimT s) := by
                refine trim_extract s k (n + 1) (trim_between _ k (n + 1) hkm (by simpa using hm) H1.out H2.out H3.out ?_)
                intro b _ hbn
                have : s.data.toList[n]? = some s[n] := by rw [List.getElem?_eq_getElem (by simpa using hn)]; rfl
                rw [Nat.add_sub_cancel, this] at hbn
                obtain rfl := Option.some.inj hbn
                exact HB.out
              clear hb
              go_wp2_with fail
              refine (blank_any _ _).mono ?_
              rintro e w' ⟨rfl, rfl⟩
              rw [HB.out]
              go_wp2
              go_ret
              exact ⟨ret_str HT.out, rfl⟩
            · have HB : Hid (blankI (s[n].toNat : Int) = true) := hb
              clear hb
              go_wp2_with fail
              refine (blank_any _ _).mono ?_
              rintro e w' ⟨rfl, rfl⟩
              rw [HB.out]
              go_wp2
              go_round
              case rel =>
                refine ⟨n, by omega, by omega, by go_num, fun j b hj hbj => ?_⟩
                by_cases e : j = n
                · subst e
                  have : s.data.toList[j]? = some s[j] := by rw [List.getElem?_eq_getElem (by simpa using hn)]; rfl
                  rw [this] at hbj
                  obtain rfl := Option.some.inj hbj
                  exact HB.out
                · exact H3.out j b (by omega) hbj
              case measure => simp [intOf]
          · obtain rfl : k = m := by omega
            have HT : Hid (ByteArray.empty = trimT s) := by
              have e := trim_extract s k k (trim_between _ k k (Nat.le_refl _) (by simpa using hm) H1.out H2.out H3.out (fun b h => absurd h (Nat.lt_irrefl _)))
              have e0 : s.extract k k = ByteArray.empty := by simp
              exact e0.symm.trans e
            go_wp2
            go_ret
            exact ⟨ret_str HT.out, rfl⟩
      · clear hgo
        go_wp2
        go_loop [4] (fun i => ∃ m : Nat, k ≤ m ∧ m ≤ s.size ∧ i = .int .i64 m ∧ ∀ (j : Nat) b, m ≤ j → s.data.toList[j]? = some b → blankI (b.toNat : Int) = true) (fun i => (intOf i).toNat)
        case atStart => exact ⟨s.size, hk, Nat.le_refl _, rfl, fun j b hj hb => absurd (List.getElem?_eq_some_iff.1 hb).1 (by simp; omega)⟩
        case round =>
          obtain ⟨m, hkm, hm, rfl, hall⟩ := hrel
          have H3 : Hid (∀ (j : Nat) b, m ≤ j → s.data.toList[j]? = some b → blankI (b.toNat : Int) = true) := hall
          clear hall
          obtain rfl : k = m := by omega
          have HT : Hid (ByteArray.empty = trimT s) := by
            have e := trim_extract s k k (trim_between _ k k (Nat.le_refl _) (by simpa using hm) H1.out H2.out H3.out (fun b h => absurd h (Nat.lt_irrefl _)))
            have e0 : s.extract k k = ByteArray.empty := by simp
            exact e0.symm.trans e
          go_wp2
          go_ret
          exact ⟨ret_str HT.out, rfl⟩
theorem l1Trim_any (s : ByteArray) (w : World) (hs : s.size ≤ 1000) :
    Calls Tryz.prog 179 #[.string s] w fun e w' => e = .returned (.string (trimT s)) ∧ w' = w := l1Trim_big s w (by omega)
end Go.Proofs.YtopkidfbkhjaeaaGreatDoor
/-
  What the model's l4Line and HeadersFault answer.
-/
namespace Go.Proofs.YtopkidfbkhjaeaaGreatDoor
open Go.ChangeShapes Go.WideShapes Go.ChangeAt Go.RowKit
theorem hstr_ne {a b : ByteArray} (h : a ≠ b) : (a.toList == b.toList) = false := by
  rw [beq_eq_false_iff_ne]
  intro e
  rw [ByteArray.toList_eq, ByteArray.toList_eq] at e
  exact h (ByteArray.ext (Array.ext' e))
set_option maxHeartbeats 2000000 in
theorem l4Line_any (r : Hdr) (w : World) :
    Calls Tryz.prog 135 #[.agg #[.string r.name, .string r.value]] w fun e w' => e = .returned (.int .i64 (faultH r)) ∧ Below w.heap.size w w' := by
  obtain ⟨n, v⟩ := r
  simp only
  have kb : Below w.heap.size w (w.alloc (.cells #[.string n, .string v] 108)) := (Below.refl _ _).alloc (Nat.le_refl _) _
  have KB : Hid (Below w.heap.size w (w.alloc (.cells #[.string n, .string v] 108))) := kb
  clear kb
  have HW : Hid (∀ w, Calls Tryz.prog 79 #[.string n] w fun e w' => e = .returned (.bool (wordS n)) ∧ w' = w) := specIsWord_any n
  cases hw : wordS n
  · have HE : Hid (faultH ⟨n, v⟩ = 5) := by show _ = _; simp [faultH, hw]
    rw [hw] at HW
    clear hw
    go_enter Tryz.func135, Tryz.ntmps135
    go_wp2_with fail
    refine (HW.out _).mono ?_
    rintro e w1 ⟨rfl, rfl⟩
    go_wp2_with fail
    go_ret
    exact ⟨ret_int HE.out.symm, KB.out⟩
  rw [hw] at HW
  by_cases hbig : 200 < v.size
  · have HE : Hid (faultH ⟨n, v⟩ = 2) := by show _ = _; simp only [faultH, hw]; rw [if_neg (by simp), if_pos hbig]
    have g : (200 : Int) < v.size := by omega
    clear hw
    go_enter Tryz.func135, Tryz.ntmps135
    go_wp2_with fail
    refine (HW.out _).mono ?_
    rintro e w1 ⟨rfl, rfl⟩
    go_wp2_with fail
    go_ret
    exact ⟨ret_int HE.out.symm, KB.out⟩
  have g : ¬ (200 : Int) < v.size := by omega
  have HP : Hid (∀ w, Calls Tryz.prog 178 #[.string v] w fun e w' => e = .returned (.bool (plainL v.data.toList)) ∧ w' = w) := fun w => plainText_any v w (by omega)
  have HT : Hid (∀ w, Calls Tryz.prog 179 #[.string v] w fun e w' => e = .returned (.string (trimT v)) ∧ w' = w) := fun w => l1Trim_any v w (by omega)
  cases hp : plainL v.data.toList
  · have HE : Hid (faultH ⟨n, v⟩ = 5) := by show _ = _; simp only [faultH, hw]; rw [if_neg (by simp), if_neg hbig, if_pos hp]
    rw [hp] at HP
    clear hw hp hbig
    go_enter Tryz.func135, Tryz.ntmps135
    go_wp2_with fail
    refine (HW.out _).mono ?_
    rintro e w1 ⟨rfl, rfl⟩
    go_wp2_with fail
    refine (HP.out _).mono ?_
    rintro e w1 ⟨rfl, rfl⟩
    go_wp2_with fail
    go_ret
    exact ⟨ret_int HE.out.symm, KB.out⟩
  rw [hp] at HP
  by_cases ht : trimT v = v
  · have HE : Hid (faultH ⟨n, v⟩ = 0) := by show _ = _; simp only [faultH, hw]; rw [if_neg (by simp), if_neg hbig, if_neg (by simp [hp]), if_pos ht]
    rw [ht] at HT
    clear hw hp hbig ht
    go_enter Tryz.func135, Tryz.ntmps135
    go_wp2_with fail
    refine (HW.out _).mono ?_
    rintro e w1 ⟨rfl, rfl⟩
    go_wp2_with fail
    refine (HP.out _).mono ?_
    rintro e w1 ⟨rfl, rfl⟩
    go_wp2_with fail
    refine (HT.out _).mono ?_
    rintro e w1 ⟨rfl, rfl⟩
    go_wp2_with fail
    go_ret
    exact ⟨ret_int HE.out.symm, KB.out⟩
  · have HE : Hid (faultH ⟨n, v⟩ = 5) := by show _ = _; simp only [faultH, hw]; rw [if_neg (by simp), if_neg hbig, if_neg (by simp [hp]), if_neg ht]
    have hq := hstr_ne ht
    generalize trimT v = t at *
    clear hw hp hbig ht
    go_enter Tryz.func135, Tryz.ntmps135
    go_wp2_with fail
    refine (HW.out _).mono ?_
    rintro e w1 ⟨rfl, rfl⟩
    go_wp2_with fail
    refine (HP.out _).mono ?_
    rintro e w1 ⟨rfl, rfl⟩
    go_wp2_with fail
    refine (HT.out _).mono ?_
    rintro e w1 ⟨rfl, rfl⟩
    go_wp2_with fail
    go_ret
    exact ⟨ret_int HE.out.symm, KB.out⟩
set_option maxRecDepth 100000 in
set_option maxHeartbeats 4000000 in
theorem specHFault_any (w : World) (a : Option Addr) (cap : Nat) (l : List Hdr) (hl : l.length ≤ 1048576) (hi : HdsIn w a l) :
    Calls Tryz.prog 86 #[.slice a l.length cap] w fun e w' => e = .returned (.int .i64 (headsC l)) ∧ Below w.heap.size w w' := by
  by_cases h20 : 20 < l.length
  · have HE : Hid (headsC l = 2) := headsC_many h20
    have g : (20 : Int) < (l.length : Int) := by omega
    clear hi
    generalize l.length = n at *
    go_enter Tryz.func86, Tryz.ntmps86
    go_wp2_with fail
    go_ret
    exact ⟨ret_int HE.out.symm, Below.refl _ _⟩
  have HC : Hid (headsC l = faultHL l) := headsC_few h20
  have HI : Hid (HdsIn w a l) := hi
  clear hi
  generalize hn : l.length = n at *
  have HN : Hid (l.length = n) := hn
  clear hn
  have g : ¬ (20 : Int) < (n : Int) := by omega
  go_enter Tryz.func86, Tryz.ntmps86
  go_wp2_with fail
  go_loopw [3] (fun i wr => ∃ k : Nat, k ≤ n ∧ i = .int .i64 k ∧ faultHL l = faultHL (l.drop k) ∧ Below w.heap.size w wr) (fun i _ => n - (intOf i).toNat)
  case atStart => exact ⟨0, Nat.zero_le _, rfl, rfl, Below.refl _ _⟩
  case round =>
    obtain ⟨k, hk, rfl, hf, hb⟩ := hrel
    have HF : Hid (faultHL l = faultHL (l.drop k)) := hf
    clear hf
    by_cases hlt : k < n
    · obtain ⟨r, hr⟩ : ∃ r, l[k]? = some r := ⟨l[k]'(by have := HN.out; omega), List.getElem?_eq_getElem _⟩
      rcases HI.out with h | ⟨b, off, rfl, hat⟩
      · subst h; simp at hr
      obtain ⟨p1, p3⟩ := (hat.keep hb) k r hr
      have HD : Hid (l.drop k = r :: l.drop (k + 1)) := drop_hdr l k r hr
      have gk : (k : Int) < n := by omega
      have SF : Hid (∀ w, Calls Tryz.prog 135 #[.agg #[.string r.name, .string r.value]] w fun e w' => e = .returned (.int .i64 (faultH r)) ∧ Below w.heap.size w w') := l4Line_any r
      clear hr hat HI
      by_cases hfr : faultH r = 0
      · have HX : Hid (faultHL l = faultHL (l.drop (k + 1))) := by show _ = _; rw [HF.out, HD.out, faultHL_ok hfr]
        rw [hfr] at SF
        clear hfr HD HF
        obtain ⟨rn, rv⟩ := r
        simp only at p1 p3 SF
        go_wp2_with fail
        refine (SF.out _).mono ?_
        rintro e w2 ⟨rfl, hb2⟩
        have hbb := hb.trans (hb2.mono hb.size)
        clear hb2 hb
        go_wp2_with fail
        go_roundw
        case rel => exact ⟨k + 1, by omega, by go_num, HX.out, hbb⟩
        case measure => simp [intOf]; omega
      · have HX : Hid (headsC l = faultH r) := by show _ = _; rw [HC.out, HF.out, HD.out, faultHL_bad hfr]
        clear HD HF HC
        obtain ⟨rn, rv⟩ := r
        simp only at p1 p3 SF
        generalize faultH ⟨rn, rv⟩ = fr at *
        go_wp2_with fail
        refine (SF.out _).mono ?_
        rintro e w2 ⟨rfl, hb2⟩
        have hbb := hb.trans (hb2.mono hb.size)
        clear hb2 hb
        go_wp2_with fail
        go_ret
        exact ⟨ret_int HX.out.symm, hbb⟩
    · have HX : Hid (headsC l = 0) := by
        show _ = _
        rw [HC.out, HF.out, List.drop_of_length_le (by have := HN.out; omega)]
        rfl
      clear HF HC
      go_wp2_with fail
      go_ret
      exact ⟨ret_int HX.out.symm, hb⟩
end Go.Proofs.YtopkidfbkhjaeaaGreatDoor
/-
  What isPlain and allPlain answer.
-/
namespace Go.Proofs.YtopkidfbkhjaeaaGreatDoor
open Go.ChangeShapes Go.WideShapes Go.ChangeAt Go.RowKit
set_option maxHeartbeats 400000 in
theorem iplain_any (c : Int) (w : World) (h0 : 0 ≤ c) (h1 : c < 256) :
    Calls Tryz.prog 183 #[.int .u8 c] w fun e w' => e = .returned (.bool (plainI c)) ∧ w' = w := by
  by_cases e9 : c = 9
  · subst e9
    go_enter Tryz.func183, Tryz.ntmps183
    go_wp2
    go_ret
    exact ⟨rfl, rfl⟩
  · have d9 : (c == 9) = false := by simpa using e9
    by_cases a1 : 32 ≤ c
    · by_cases a2 : c ≤ 126
      · have d2 : decide (c ≤ 126) = true := by simpa using a2
        have HP : Hid (plainI c = true) := by show _ = _; simp [plainI, a1, a2]
        go_enter Tryz.func183, Tryz.ntmps183
        go_wp2
        go_ret
        exact ⟨ret_bool HP.out.symm, rfl⟩
      · have d2 : decide (c ≤ 126) = false := by simpa using a2
        have HP : Hid (plainI c = false) := by show _ = _; simp [plainI, e9]; omega
        go_enter Tryz.func183, Tryz.ntmps183
        go_wp2
        go_ret
        exact ⟨ret_bool HP.out.symm, rfl⟩
    · have HP : Hid (plainI c = false) := by show _ = _; simp [plainI, e9]; omega
      go_enter Tryz.func183, Tryz.ntmps183
      go_wp2
      go_ret
      exact ⟨ret_bool HP.out.symm, rfl⟩
set_option maxHeartbeats 1000000 in
theorem allPlain_any (s : ByteArray) (w : World) (hs : s.size ≤ 1048576) :
    Calls Tryz.prog 139 #[.string s] w fun e w' => e = .returned (.bool (plainL s.data.toList)) ∧ w' = w := by
  go_enter Tryz.func139, Tryz.ntmps139
  go_wp2
  go_loop [6] (fun i => ∃ k : Nat, k ≤ s.size ∧ i = .int .i64 k ∧ plainL (s.data.toList.take k) = true) (fun i => s.size - (intOf i).toNat)
  case atStart => exact ⟨0, Nat.zero_le _, rfl, rfl⟩
  case round =>
    obtain ⟨k, hk, rfl, hall⟩ := hrel
    by_cases hlt : k < s.size
    · have hb : ((s[k].toNat : Nat) : Int) < 256 := by have := s[k].toNat_lt; omega
      cases hw : plainI (s[k].toNat : Int)
      · have HN : Hid (plainL s.data.toList = false) := plainL_not s k hlt hw
        have HW : Hid (plainI (s[k].toNat : Int) = false) := hw
        clear hall hw
        go_wp2_with fail
        refine (iplain_any _ _ (by omega) hb).mono ?_
        rintro e w' ⟨rfl, rfl⟩
        rw [HW.out]
        go_wp2
        go_ret
        exact ⟨ret_bool HN.out.symm, rfl⟩
      · have HA : Hid (plainL (s.data.toList.take (k + 1)) = true) := by
          show _ = _
          rw [take_snoc s k hlt, plainL_snoc, hall, hw]; rfl
        have HW : Hid (plainI (s[k].toNat : Int) = true) := hw
        clear hall hw
        go_wp2_with fail
        refine (iplain_any _ _ (by omega) hb).mono ?_
        rintro e w' ⟨rfl, rfl⟩
        rw [HW.out]
        go_wp2
        go_round
        case rel => exact ⟨k + 1, by omega, by go_num, HA.out⟩
        case measure => simp [intOf]; omega
    · have ek : s.data.toList.take k = s.data.toList := List.take_of_length_le (by simp; omega)
      rw [ek] at hall
      have HN : Hid (plainL s.data.toList = true) := hall
      clear ek hall
      go_wp2
      go_ret
      exact ⟨ret_bool HN.out.symm, rfl⟩
end Go.Proofs.YtopkidfbkhjaeaaGreatDoor
/-
  What IsWord answers where the table lies in memory as the program lays it.
-/
namespace Go.Proofs.YtopkidfbkhjaeaaGreatDoor
open Go.ChangeShapes Go.WideShapes Go.ChangeAt Go.RowKit
set_option maxHeartbeats 400000 in
theorem implIsWord_size (s : ByteArray) (w : World) (h : s.size < 1 ∨ 64 < s.size) :
    Calls Tryz.prog 82 #[.string s] w fun e w' => e = .returned (.bool false) ∧ Below w.heap.size w w' := by
  rcases h with h | h
  · have hh : (s.size : Int) < 1 := by omega
    go_enter Tryz.func82, Tryz.ntmps82
    go_wp2
    go_ret
    exact ⟨rfl, Below.refl _ _⟩
  · have hh : (64 : Int) < s.size := by omega
    have h1 : (1 : Int) ≤ s.size := by omega
    have d : decide ((s.size : Int) ≤ 64) = false := by simp; omega
    go_enter Tryz.func82, Tryz.ntmps82
    go_wp2
    go_ret
    exact ⟨rfl, Below.refl _ _⟩
/-- A whole array loaded behind a guard that lets it. -/
theorem wpList_load_row_g {P : Program} {ops : Array Oper} {rest : List Oper} {o : Oper} {a : Act} {w : World} {Q : Exit → Act → World → Prop} (hw : Region.wanted o (yielded ops a.tmps) = true) (ty : TypeId) (x : Operand) (ho : o.op = .load ty x)
    (g : Nat) (hx : a.eval x = .pointer (some ⟨g, 0, none⟩)) (t : TypeId) (cs : Array Value) (fr : Nat × Nat) (d : TypeDesc) (hg : w.heap[g]? = some (.cells cs t fr))
    (hu : P.underlying ty = some d) (hd : (match d with | .struct _ | .array _ _ => true | _ => false) = true) (hi : (P.info? ty).map (·.size) = some cs.size)
    (h : wpList P ops Q rest (a.put o.dst (.agg cs)) w) : wpList P ops Q (o :: rest) a w :=
  wpList_step fun _ hK => by rw [if_pos hw]; exact wp_load_row ty x ho g hx t cs fr d hg hu hd hi (hK _ _ h)
theorem infoSet : (Tryz.prog.info? 176).map (·.size) = some 128 := by kernel_rfl
set_option maxHeartbeats 400000 in
theorem implIsWord_mid (s : ByteArray) (w : World) (cs : Array Value) (tt : TypeId) (fr : Nat × Nat) (h1 : 1 ≤ s.size) (h2 : s.size ≤ 64) (hg : w.heap[0]? = some (.cells cs tt fr)) (hsz : cs.size = 128) (hcs : ∀ i, i < 128 → cs[i]? = some (.bool (wordI (i : Int)))) :
    Calls Tryz.prog 82 #[.string s] w fun e w' => e = .returned (.bool (allW s.data.toList)) ∧ Below w.heap.size w w' := by
  have g1 : (1 : Int) ≤ s.size := by omega
  have d : decide ((s.size : Int) ≤ 64) = true := by simp; omega
  have HG : Hid (w.heap[0]? = some (.cells cs tt fr)) := hg
  have HI : Hid ((Tryz.prog.info? 176).map (·.size) = some cs.size) := by
    show _ = _
    rw [infoSet, hsz]
  have HC : Hid (∀ i, i < 128 → cs[i]? = some (.bool (wordI (i : Int)))) := hcs
  clear hcs hg hsz
  go_enter Tryz.func82, Tryz.ntmps82
  go_wp2_with (refine wpList_load_row_g (by rfl) 176 (.global 0) rfl 0 rfl tt cs fr _ HG.out Tryz.underlying176 rfl HI.out ?_)
  refine (hasOnly_any s cs _ h2 HC.out).mono ?_
  rintro e w1 ⟨rfl, hb⟩
  go_wp2
  go_ret
  exact ⟨rfl, hb⟩
theorem implIsWord_any (s : ByteArray) (w : World) (cs : Array Value) (tt : TypeId) (fr : Nat × Nat) (hg : w.heap[0]? = some (.cells cs tt fr)) (hsz : cs.size = 128) (hcs : ∀ i, i < 128 → cs[i]? = some (.bool (wordI (i : Int)))) :
    Calls Tryz.prog 82 #[.string s] w fun e w' => e = .returned (.bool (wordS s)) ∧ Below w.heap.size w w' := by
  by_cases c : s.size < 1 ∨ 64 < s.size
  · have h : wordS s = false := by
      rcases c with c | c
      · exact wordS_short s c
      · exact wordS_long s c
    rw [h]; exact implIsWord_size s w c
  · rw [wordS_mid s (by omega) (by omega)]
    exact implIsWord_mid s w cs tt fr (by omega) (by omega) hg hsz hcs
end Go.Proofs.YtopkidfbkhjaeaaGreatDoor
/-
  The law of IsWord out of contracts; what the row's list gives.
-/
namespace Go.Proofs.YtopkidfbkhjaeaaGreatDoor
open Go.ChangeShapes Go.WideShapes Go.ChangeAt Go.RowKit
/-- An array of bools that reads as a table holds the table, cell for cell. -/
theorem cells_of_bools {H : Type} {enc : TypeId × Value → H} {P : Program} {w : World} {base : Nat} {sp : Nat → Bool} {held : Bool} {fuel : Nat} {t e : TypeId} {n : Nat} {cs : List Value} {zs : List Bool} {p : List MemPlace}
    (ht : P.underlying t = some (.array n e)) (he : P.underlying e = some .bool) (hce : P.cellsOf e = 1) (hct : P.cellsOf t = n)
    (h : DataW.trod enc P w base sp held fuel t cs = some (.agg (zs.map fun z => .lit (.bool z)), p)) : cs = zs.map fun z => Value.bool z := by
  cases fuel with
  | zero => simp [DataW.trod] at h
  | succ fuel =>
    simp only [DataW.trod, ht, hce, hct, Nat.mul_one] at h
    split at h
    · rename_i hl
      obtain ⟨xs, hm, hx⟩ := Option.map_eq_some_iff.1 h
      have hxs : xs.map (·.1) = zs.map fun z => (DataW.lit (.bool z) : DataW H) := by
        have := congrArg Prod.fst hx
        simpa using this
      have hxl : xs.length = n := by simpa using Lib.mapM_length hm
      have hzl : zs.length = n := by
        have := congrArg List.length hxs
        simp at this
        omega
      apply List.ext_getElem?
      intro i
      by_cases hi : i < n
      · obtain ⟨b, hb, hf⟩ := Lib.mapM_at hm i i (by simp [hi])
        obtain ⟨z, hc, rfl⟩ := DataW.trod_bool he hf
        have h1 : cs[i]? = some (.bool z) := by
          have := congrArg (·[0]?) hc
          simpa [List.getElem?_take, List.getElem?_drop] using this
        have h2 : (xs.map (·.1))[i]? = some (DataW.lit (.bool z) : DataW H) := by simp [hb]
        rw [hxs] at h2
        simp only [List.getElem?_map, Option.map_eq_some_iff, DataW.lit.injEq, Lit.bool.injEq] at h2
        obtain ⟨z', hz', rfl⟩ := h2
        simp [h1, hz']
      · rw [List.getElem?_eq_none (by omega), List.getElem?_eq_none (by simp; omega)]
    · cases h
theorem setCells : Tryz.prog.cellsOf 176 = 128 := by kernel_rfl
theorem boolCells : Tryz.prog.cellsOf 4 = 1 := by kernel_rfl
theorem setNamed : Tryz.prog.globalNamed "loop.example/g00665/impl.wordBytes" = some 0 := by kernel_rfl
theorem setType : (Tryz.prog.globals[0]?).map (·.type) = some 176 := by kernel_rfl
theorem laidTab {H : Type} : (Rows.laid_loop_example_g00665_impl_wordBytes : DataW H) = .agg (wordTab.map fun z => .lit (.bool z)) := by kernel_rfl
/-- The table lies in memory. -/
def SetIs (w : World) : Prop := ∃ cs tt fr, w.heap[0]? = some (.cells cs tt fr) ∧ cs.size = 128 ∧ ∀ i, i < 128 → cs[i]? = some (.bool (wordI (i : Int)))
theorem setIs_of {w : World} {rest : List (String × DataW Unit)} (h : laidMet Tryz.prog (("loop.example/g00665/impl.wordBytes", Rows.laid_loop_example_g00665_impl_wordBytes) :: rest) w) : SetIs w := by
  obtain ⟨ps, ⟨g', t', cs, fuel, p, q, hg', ht', hvar, hd, _, _⟩, _⟩ := h
  obtain rfl := Option.some.inj (setNamed.symm.trans hg')
  obtain rfl := Option.some.inj (setType.symm.trans ht')
  rw [laidTab] at hd
  have hcs := cells_of_bools Tryz.underlying176 Tryz.underlying4 boolCells setCells hd
  unfold World.var? at hvar
  rw [setNamed] at hvar
  simp only [Option.bind_some] at hvar
  cases hb : w.heap[0]? with
  | none => rw [hb] at hvar; cases hvar
  | some o =>
    rw [hb] at hvar
    cases o with
    | cells c tt fr =>
      simp only [Option.some.injEq] at hvar
      subst hvar
      have hl : c.toList.length = 128 := by rw [hcs, List.length_map]; exact wordTab_len
      refine ⟨c, tt, fr, hb, by simpa using hl, fun i hi => ?_⟩
      rw [← Array.getElem?_toList, hcs, List.getElem?_map]
      have hi2 : i < wordTab.length := by rw [wordTab_len]; exact hi
      rw [List.getElem?_eq_getElem hi2]
      simp [wordI, hi2]
    | map _ _ => cases hvar
    | _ => cases hvar
theorem SetIs.below {w w' : World} (h : SetIs w) (hb : Below w.heap.size w w') : SetIs w' := by
  obtain ⟨cs, tt, fr, hg, h1, h2⟩ := h
  refine ⟨cs, tt, fr, ?_, h1, h2⟩
  rw [hb.block 0 (Array.getElem?_eq_some_iff.1 hg).1, hg]
theorem implIsWord_set (s : ByteArray) (w : World) (h : SetIs w) :
    Calls Tryz.prog 82 #[.string s] w fun e w' => e = .returned (.bool (wordS s)) ∧ Below w.heap.size w w' := by
  obtain ⟨cs, tt, fr, hg, h1, h2⟩ := h
  exact implIsWord_any s w cs tt fr hg h1 h2
end Go.Proofs.YtopkidfbkhjaeaaGreatDoor
/-
  What TrimText and its model answer; the law of TrimText out of them.
-/
namespace Go.Proofs.YtopkidfbkhjaeaaGreatDoor
open Go.ChangeShapes Go.WideShapes Go.ChangeAt Go.RowKit
theorem trimT_size (s : ByteArray) : (trimT s).size ≤ s.size := by
  have h : (Lib.trimS s.data.toList [32, 9]).length ≤ s.data.toList.length := by
    unfold Lib.trimS Lib.trimLeftS Lib.trimRightS
    refine Nat.le_trans (List.dropWhile_sublist _).length_le ?_
    rw [List.length_reverse]
    refine Nat.le_trans (List.dropWhile_sublist _).length_le ?_
    rw [List.length_reverse]
    exact Nat.le_refl _
  have e : (trimT s).size = (Lib.trimS s.data.toList [32, 9]).length := by simp [trimT, ByteArray.size]
  rw [e]
  simpa using h
theorem trim_lib (s : ByteArray) (w : World) (hs : s.size ≤ 1000) :
    Calls Tryz.prog 140 #[.string s, .string ⟨#[32, 9]⟩] w fun e w' => e = .returned (.string (trimT s)) ∧ Below w.heap.size w w' :=
  Any.strings_Trim_laid Tryz.lays160 (by kernel_rfl) s ⟨#[32, 9]⟩ w (by omega) (by decide) (ascii_of_all (by decide))
theorem trim_big (s : ByteArray) (w : World) (hs : s.size ≤ 1048576) :
    Calls Tryz.prog 140 #[.string s, .string ⟨#[32, 9]⟩] w fun e w' => e = .returned (.string (trimT s)) ∧ Below w.heap.size w w' :=
  Any.strings_Trim_laid Tryz.lays160 (by kernel_rfl) s ⟨#[32, 9]⟩ w (by omega) (by decide) (ascii_of_all (by decide))
theorem clone_lib (s : ByteArray) (w : World) (hs : s.size ≤ 1000) :
    Calls Tryz.prog 152 #[.string s] w fun e w' => e = .returned (.string s) ∧ Below w.heap.size w w' :=
  Any.stringslite_Clone Tryz.laysM316 s w (by omega)
set_option maxHeartbeats 400000 in
theorem clone_any (s : ByteArray) (w : World) (hs : s.size ≤ 1000) :
    Calls Tryz.prog 109 #[.string s] w fun e w' => e = .returned (.string s) ∧ Below w.heap.size w w' := by
  go_enter Tryz.func109, Tryz.ntmps109
  go_wp2_with fail
  refine (clone_lib s _ hs).mono ?_
  rintro e w1 ⟨rfl, hb⟩
  go_wp2
  go_ret
  exact ⟨rfl, hb⟩
end Go.Proofs.YtopkidfbkhjaeaaGreatDoor
/-
  What lineFault and HeadersFault answer.
-/
namespace Go.Proofs.YtopkidfbkhjaeaaGreatDoor
open Go.ChangeShapes Go.WideShapes Go.ChangeAt Go.RowKit Go.Sort
theorem hdr_room {w w1 : World} {n v : ByteArray} {t : TypeId} (hb : Below (w.alloc (.cells #[.string n, .string v] t)).heap.size (w.alloc (.cells #[.string n, .string v] t)) w1) :
    w.heap.size < w1.heap.size ∧ w1.cell? ⟨w.heap.size, 0, none⟩ = some (.string n) ∧ w1.cell? ⟨w.heap.size, 1, none⟩ = some (.string v) ∧ Below w.heap.size w w1 := by
  rw [World.size_alloc] at hb
  have hz := hb.size
  simp only [World.size_alloc] at hz
  exact ⟨hz, by rw [hb.cell (p := ⟨w.heap.size, 0, none⟩) (Nat.lt_succ_self _)]; simp, by rw [hb.cell (p := ⟨w.heap.size, 1, none⟩) (Nat.lt_succ_self _)]; simp, ((Below.refl _ _).alloc (Nat.le_refl _) _).trans (hb.mono (Nat.le_succ _))⟩
theorem hkeep {W W' : World} (hb : Below W.heap.size W W') {p : Addr} {v : Value} (h : W.cell? p = some v) : W'.cell? p = some v := by
  rw [hb.cell (block_lt_of_cell h)]; exact h
set_option maxHeartbeats 2000000 in
theorem implLine_any (r : Hdr) (w : World) (hset : SetIs w) :
    Calls Tryz.prog 95 #[.agg #[.string r.name, .string r.value]] w fun e w' => e = .returned (.int .i64 (faultH r)) ∧ Below w.heap.size w w' := by
  obtain ⟨n, v⟩ := r
  simp only
  have HW : Hid (Calls Tryz.prog 82 #[.string n] (w.alloc (.cells #[.string n, .string v] 108)) fun e w' => e = .returned (.bool (wordS n)) ∧ Below (w.alloc (.cells #[.string n, .string v] 108)).heap.size (w.alloc (.cells #[.string n, .string v] 108)) w') := implIsWord_set n _ (hset.below ((Below.refl _ _).alloc (Nat.le_refl _) _))
  clear hset
  cases hw : wordS n
  · have HE : Hid (faultH ⟨n, v⟩ = 5) := by show _ = _; simp [faultH, hw]
    rw [hw] at HW
    clear hw
    go_enter Tryz.func95, Tryz.ntmps95
    go_wp2_with fail
    refine HW.out.mono ?_
    rintro e w1 ⟨rfl, hb1⟩
    obtain ⟨hz1, p0, p1, kb⟩ := hdr_room hb1
    have KB : Hid (Below w.heap.size w w1) := kb
    clear hb1 kb
    go_wp2_with fail
    go_ret
    exact ⟨ret_int HE.out.symm, KB.out⟩
  rw [hw] at HW
  by_cases hbig : 200 < v.size
  · have HE : Hid (faultH ⟨n, v⟩ = 2) := by show _ = _; simp only [faultH, hw]; rw [if_neg (by simp), if_pos hbig]
    have g : (200 : Int) < v.size := by omega
    clear hw
    go_enter Tryz.func95, Tryz.ntmps95
    go_wp2_with fail
    refine HW.out.mono ?_
    rintro e w1 ⟨rfl, hb1⟩
    obtain ⟨hz1, p0, p1, kb⟩ := hdr_room hb1
    have KB : Hid (Below w.heap.size w w1) := kb
    clear hb1 kb
    go_wp2_with fail
    go_ret
    exact ⟨ret_int HE.out.symm, KB.out⟩
  have g : ¬ (200 : Int) < v.size := by omega
  have HP : Hid (∀ w, Calls Tryz.prog 139 #[.string v] w fun e w' => e = .returned (.bool (plainL v.data.toList)) ∧ Below w.heap.size w w') := fun w => (allPlain_any v w (by omega)).mono fun _ _ ⟨h1, h2⟩ => ⟨h1, h2 ▸ Below.refl _ _⟩
  have HT : Hid (∀ w, Calls Tryz.prog 140 #[.string v, .string ⟨#[32, 9]⟩] w fun e w' => e = .returned (.string (trimT v)) ∧ Below w.heap.size w w') := fun w => trim_big v w (by omega)
  cases hp : plainL v.data.toList
  · have HE : Hid (faultH ⟨n, v⟩ = 5) := by show _ = _; simp only [faultH, hw]; rw [if_neg (by simp), if_neg hbig, if_pos hp]
    rw [hp] at HP
    clear hw hp hbig
    go_enter Tryz.func95, Tryz.ntmps95
    go_wp2_with fail
    refine HW.out.mono ?_
    rintro e w1 ⟨rfl, hb1⟩
    obtain ⟨hz1, p0, p1, kb⟩ := hdr_room hb1
    have KB : Hid (Below w.heap.size w w1) := kb
    clear hb1 kb
    go_wp2_with fail
    have q1 := cell_regrown p1
    have cP : ∀ d' os, Calls Tryz.prog 139 #[.string v] (grow (redrawn w1 d') os) fun e w'' => e = .returned (.bool false) ∧ ∃ p : Regrown, w'' = grow (redrawn w1 p.d) p.os := fun d' os => Calls.regrown_of (HP.out _)
    refine wp_region_quiet_below (by kernel_rfl) (by kernel_rfl) ?_
    repeat (go_big_quiet_step (first | (go_at_call 139; exact cP _ _)))
    refine wpQuiet_nil ?_
    intro W2 hW2
    have hbW2 : Below w1.heap.size w1 W2 := by
      obtain ⟨⟨d, os⟩, rfl⟩ := hW2
      exact below_regrown w1 d os
    have KB2 : Hid (Below w.heap.size w W2) := KB.out.trans (hbW2.mono KB.out.size)
    clear hW2 hbW2 cP q1 p0 p1 KB
    go_wp2_with fail
    go_ret
    exact ⟨ret_int HE.out.symm, KB2.out⟩
  rw [hp] at HP
  by_cases ht : trimT v = v
  · have HE : Hid (faultH ⟨n, v⟩ = 0) := by show _ = _; simp only [faultH, hw]; rw [if_neg (by simp), if_neg hbig, if_neg (by simp [hp]), if_pos ht]
    rw [ht] at HT
    clear hw hp hbig ht
    go_enter Tryz.func95, Tryz.ntmps95
    go_wp2_with fail
    refine HW.out.mono ?_
    rintro e w1 ⟨rfl, hb1⟩
    obtain ⟨hz1, p0, p1, kb⟩ := hdr_room hb1
    have KB : Hid (Below w.heap.size w w1) := kb
    clear hb1 kb
    go_wp2_with fail
    have q1 := cell_regrown p1
    have cP : ∀ d' os, Calls Tryz.prog 139 #[.string v] (grow (redrawn w1 d') os) fun e w'' => e = .returned (.bool true) ∧ ∃ p : Regrown, w'' = grow (redrawn w1 p.d) p.os := fun d' os => Calls.regrown_of (HP.out _)
    have cT : ∀ d' os, Calls Tryz.prog 140 #[.string v, .string ⟨#[32, 9]⟩] (grow (redrawn w1 d') os) fun e w'' => e = .returned (.string v) ∧ ∃ p : Regrown, w'' = grow (redrawn w1 p.d) p.os := fun d' os => Calls.regrown_of (HT.out _)
    refine wp_region_quiet_below (by kernel_rfl) (by kernel_rfl) ?_
    repeat (go_big_quiet_step (first | (go_at_call 139; exact cP _ _) | (go_at_call 140; exact cT _ _)))
    refine wpQuiet_nil ?_
    intro W2 hW2
    have hbW2 : Below w1.heap.size w1 W2 := by
      obtain ⟨⟨d, os⟩, rfl⟩ := hW2
      exact below_regrown w1 d os
    have KB2 : Hid (Below w.heap.size w W2) := KB.out.trans (hbW2.mono KB.out.size)
    clear hW2 hbW2 cP cT q1 p0 p1 KB
    go_wp2_with fail
    go_ret
    exact ⟨ret_int HE.out.symm, KB2.out⟩
  · have HE : Hid (faultH ⟨n, v⟩ = 5) := by show _ = _; simp only [faultH, hw]; rw [if_neg (by simp), if_neg hbig, if_neg (by simp [hp]), if_neg ht]
    have hq := hstr_ne ht
    generalize trimT v = t at *
    clear hw hp hbig ht
    go_enter Tryz.func95, Tryz.ntmps95
    go_wp2_with fail
    refine HW.out.mono ?_
    rintro e w1 ⟨rfl, hb1⟩
    obtain ⟨hz1, p0, p1, kb⟩ := hdr_room hb1
    have KB : Hid (Below w.heap.size w w1) := kb
    clear hb1 kb
    go_wp2_with fail
    have q1 := cell_regrown p1
    have cP : ∀ d' os, Calls Tryz.prog 139 #[.string v] (grow (redrawn w1 d') os) fun e w'' => e = .returned (.bool true) ∧ ∃ p : Regrown, w'' = grow (redrawn w1 p.d) p.os := fun d' os => Calls.regrown_of (HP.out _)
    have cT : ∀ d' os, Calls Tryz.prog 140 #[.string v, .string ⟨#[32, 9]⟩] (grow (redrawn w1 d') os) fun e w'' => e = .returned (.string t) ∧ ∃ p : Regrown, w'' = grow (redrawn w1 p.d) p.os := fun d' os => Calls.regrown_of (HT.out _)
    refine wp_region_quiet_below (by kernel_rfl) (by kernel_rfl) ?_
    repeat (go_big_quiet_step (first | (go_at_call 139; exact cP _ _) | (go_at_call 140; exact cT _ _)))
    refine wpQuiet_nil ?_
    intro W2 hW2
    have hbW2 : Below w1.heap.size w1 W2 := by
      obtain ⟨⟨d, os⟩, rfl⟩ := hW2
      exact below_regrown w1 d os
    have KB2 : Hid (Below w.heap.size w W2) := KB.out.trans (hbW2.mono KB.out.size)
    clear hW2 hbW2 cP cT q1 p0 p1 KB
    go_wp2_with fail
    go_ret
    exact ⟨ret_int HE.out.symm, KB2.out⟩
set_option maxRecDepth 100000 in
set_option maxHeartbeats 4000000 in
theorem implHFault_any (w : World) (a : Option Addr) (cap : Nat) (l : List Hdr) (hl : l.length ≤ 1048576) (hset : SetIs w) (hi : HdsIn w a l) :
    Calls Tryz.prog 112 #[.slice a l.length cap] w fun e w' => e = .returned (.int .i64 (headsC l)) ∧ Below w.heap.size w w' := by
  by_cases h20 : 20 < l.length
  · have HE : Hid (headsC l = 2) := headsC_many h20
    have g : (20 : Int) < (l.length : Int) := by omega
    clear hi hset
    generalize l.length = n at *
    go_enter Tryz.func112, Tryz.ntmps112
    go_wp2_with fail
    go_ret
    exact ⟨ret_int HE.out.symm, Below.refl _ _⟩
  have HC : Hid (headsC l = faultHL l) := headsC_few h20
  have HI : Hid (HdsIn w a l) := hi
  have HS : Hid (SetIs w) := hset
  clear hi hset
  generalize hn : l.length = n at *
  have HN : Hid (l.length = n) := hn
  clear hn
  have g : ¬ (20 : Int) < (n : Int) := by omega
  go_enter Tryz.func112, Tryz.ntmps112
  go_wp2_with fail
  go_loopw [11] (fun i wr => ∃ k : Nat, k ≤ n ∧ i = .int .i64 k ∧ faultHL l = faultHL (l.drop k) ∧ Below w.heap.size w wr) (fun i _ => n - (intOf i).toNat)
  case atStart => exact ⟨0, Nat.zero_le _, rfl, rfl, Below.refl _ _⟩
  case round =>
    obtain ⟨k, hk, rfl, hf, hb⟩ := hrel
    have HF : Hid (faultHL l = faultHL (l.drop k)) := hf
    clear hf
    by_cases hlt : k < n
    · obtain ⟨r, hr⟩ : ∃ r, l[k]? = some r := ⟨l[k]'(by have := HN.out; omega), List.getElem?_eq_getElem _⟩
      rcases HI.out with h | ⟨b, off, rfl, hat⟩
      · subst h; simp at hr
      obtain ⟨p1, p3⟩ := (hat.keep hb) k r hr
      have HD : Hid (l.drop k = r :: l.drop (k + 1)) := drop_hdr l k r hr
      have gk : (k : Int) < n := by omega
      have SF : Hid (∀ W, Below wr.heap.size wr W → Calls Tryz.prog 95 #[.agg #[.string r.name, .string r.value]] W fun e w' => e = .returned (.int .i64 (faultH r)) ∧ Below W.heap.size W w') := fun W h => implLine_any r W ((HS.out.below hb).below h)
      clear hr hat HI
      by_cases hfr : faultH r = 0
      · have HX : Hid (faultHL l = faultHL (l.drop (k + 1))) := by show _ = _; rw [HF.out, HD.out, faultHL_ok hfr]
        rw [hfr] at SF
        clear hfr HD HF
        obtain ⟨rn, rv⟩ := r
        simp only at p1 p3 SF
        go_wp2_with fail
        refine (SF.out _ ((Below.refl _ _).alloc (Nat.le_refl _) _)).mono ?_
        rintro e w2 ⟨rfl, hb2⟩
        obtain ⟨_, _, _, kb⟩ := hdr_room hb2
        have hbb := hb.trans (kb.mono hb.size)
        clear hb2 hb kb
        go_wp2_with fail
        go_roundw
        case rel => exact ⟨k + 1, by omega, by go_num, HX.out, hbb⟩
        case measure => simp [intOf]; omega
      · have HX : Hid (headsC l = faultH r) := by show _ = _; rw [HC.out, HF.out, HD.out, faultHL_bad hfr]
        clear HD HF HC
        obtain ⟨rn, rv⟩ := r
        simp only at p1 p3 SF
        generalize faultH ⟨rn, rv⟩ = fr at *
        go_wp2_with fail
        refine (SF.out _ ((Below.refl _ _).alloc (Nat.le_refl _) _)).mono ?_
        rintro e w2 ⟨rfl, hb2⟩
        obtain ⟨_, _, _, kb⟩ := hdr_room hb2
        have hbb := hb.trans (kb.mono hb.size)
        clear hb2 hb kb
        go_wp2_with fail
        go_ret
        exact ⟨ret_int HX.out.symm, hbb⟩
    · have HX : Hid (headsC l = 0) := by
        show _ = _
        rw [HC.out, HF.out, List.drop_of_length_le (by have := HN.out; omega)]
        rfl
      clear HF HC
      go_wp2_with fail
      go_ret
      exact ⟨ret_int HX.out.symm, hb⟩
end Go.Proofs.YtopkidfbkhjaeaaGreatDoor
