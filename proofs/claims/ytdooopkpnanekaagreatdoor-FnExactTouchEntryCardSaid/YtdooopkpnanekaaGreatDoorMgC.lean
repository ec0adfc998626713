/-
  Texts of one claim, one behind the other.
-/
import Derived.BigQuiet
import Derived.Deep.AppendLies
import Derived.Deep.RegionHeld3
import Derived.Deep.RegionWith
import Derived.Lib.AppendZeros
import Derived.Lib.CutLaws
import Derived.Lib.IndexMore
import Derived.Lib.QuietBelow
import Derived.Lib.Strings
import Derived.Test.YtdooopkpnanekaaGreatDoorMgB
/-
  A store that is marked all over: what lies outside of it is as it was.
-/
namespace Go.Proofs.YtdooopkpnanekaaGreatDoor
open Go.ChangeShapes Go.WideShapes Go.ChangeAt Go.RowKit Go.Sort
/-- What was there from block hi on is as it was. -/
structure Above (hi : Nat) (w w' : World) : Prop where
  size : w.heap.size ≤ w'.heap.size
  cell : ∀ b o, hi ≤ b → b < w.heap.size → w'.cell? ⟨b, o, none⟩ = w.cell? ⟨b, o, none⟩
  frozen : ∀ b o, hi ≤ b → b < w.heap.size → w'.frozen? ⟨b, o, none⟩ = w.frozen? ⟨b, o, none⟩
theorem Above.refl (hi : Nat) (w : World) : Above hi w w := ⟨Nat.le_refl _, fun _ _ _ _ => rfl, fun _ _ _ _ => rfl⟩
theorem Above.trans {hi : Nat} {w w1 w2 : World} (h : Above hi w w1) (k : Above hi w1 w2) : Above hi w w2 :=
  ⟨Nat.le_trans h.size k.size, fun b o hb hn => by rw [k.cell b o hb (Nat.lt_of_lt_of_le hn h.size), h.cell b o hb hn], fun b o hb hn => by rw [k.frozen b o hb (Nat.lt_of_lt_of_le hn h.size), h.frozen b o hb hn]⟩
theorem Above.apart {hi B : Nat} {w w' : World} (h : Apart B w w') (hB : B < hi) : Above hi w w' :=
  ⟨h.size, fun b o hb hn => h.cell b o hn (by omega), fun b o hb hn => h.frozen b o hn (by omega)⟩
theorem Above.below {hi : Nat} {w w' : World} (h : Below w.heap.size w w') : Above hi w w' :=
  ⟨h.size, fun b o _ hn => h.cell (p := ⟨b, o, none⟩) hn, fun b o _ hn => h.frozen (p := ⟨b, o, none⟩) hn⟩
theorem QMine.apart {W W' : World} {B b : Nat} {l : List Hdr} (h : QMine W b l) (k : Apart B W W') (hne : b ≠ B) : QMine W' b l :=
  ⟨fun i r hr => by rw [k.cell b _ h.lt hne, k.cell b _ h.lt hne]; exact h.at0 i r hr, fun o => by rw [k.frozen b o h.lt hne]; exact h.free o, Nat.lt_of_lt_of_le h.lt k.size⟩
theorem BMine.apart {W W' : World} {B b : Nat} {l : List UInt8} (h : BMine W b l) (k : Apart B W W') (hne : b ≠ B) : BMine W' b l :=
  ⟨fun i r hr => by rw [k.cell b _ h.lt hne]; exact h.at0 i r hr, fun o ho => by rw [k.frozen b o h.lt hne]; exact h.free o ho, Nat.lt_of_lt_of_le h.lt k.size⟩
theorem TMine.apart {W W' : World} {B b : Nat} {l : List ByteArray} (h : TMine W b l) (k : Apart B W W') (hne : b ≠ B) : TMine W' b l :=
  ⟨fun i r hr => by rw [k.cell b _ h.lt hne]; exact h.at0 i r hr, fun o ho => by rw [k.frozen b o h.lt hne]; exact h.free o ho, Nat.lt_of_lt_of_le h.lt k.size⟩
theorem EntOwn.apart {W W' : World} {B : Nat} {x : Ent} {r : EntR} (h : EntOwn W x r) (k : Apart B W W') (hne : B < blk r.ha) : EntOwn W' x r := by
  obtain ⟨B1, B2, B3, rfl, h1, h2, h3, h4, h5⟩ := h
  have q : B < B1 := hne
  exact ⟨B1, B2, B3, rfl, h1.apart k (by omega), h2.apart k (by omega), h3.apart k (by omega), h4, h5⟩
theorem HRoom.apart {W W' : World} {B G m : Nat} (h : HRoom W G m) (hG : G < W.heap.size) (k : Apart B W W') (hne : G ≠ B) : HRoom W' G m := fun j hj => by
  obtain ⟨⟨u, hu⟩, hf⟩ := h j hj
  exact ⟨⟨u, by rw [k.cell G j hG hne]; exact hu⟩, by rw [k.frozen G j hG hne]; exact hf⟩
/-- The entries from k on are as they were. -/
structure EFrom (W : World) (G k n : Nat) (l : List (Ent × EntR)) : Prop where
  cell : ∀ (i : Nat) q, k ≤ i → l[i]? = some q → ∀ j, j < 13 → W.cell? ⟨G, i * 13 + j, none⟩ = (entW q.1 q.2)[j]?
  own : ∀ (i : Nat) q, k ≤ i → l[i]? = some q → EntOwn W q.1 q.2
  room : HRoom W G (n * 13)
  lt : G < W.heap.size
theorem EFrom.next {W : World} {G k n : Nat} {l : List (Ent × EntR)} (h : EFrom W G k n l) : EFrom W G (k + 1) n l := ⟨fun i q hi => h.cell i q (by omega), fun i q hi => h.own i q (by omega), h.room, h.lt⟩
theorem EFrom.apart {W W' : World} {B G k n : Nat} {l : List (Ent × EntR)} (h : EFrom W G k n l) (a : Apart B W W') (hG : G ≠ B) (hB : ∀ (i : Nat) q, k ≤ i → l[i]? = some q → B < blk q.2.ha) : EFrom W' G k n l :=
  ⟨fun i q hi hq j hj => by rw [a.cell G _ h.lt hG]; exact h.cell i q hi hq j hj, fun i q hi hq => (h.own i q hi hq).apart a (hB i q hi hq), h.room.apart h.lt a hG, Nat.lt_of_lt_of_le h.lt a.size⟩
theorem EFrom.below {W W' : World} {G k n : Nat} {l : List (Ent × EntR)} (h : EFrom W G k n l) (b : Below W.heap.size W W') : EFrom W' G k n l :=
  ⟨fun i q hi hq j hj => by rw [b.cell (p := ⟨G, i * 13 + j, none⟩) h.lt]; exact h.cell i q hi hq j hj, fun i q hi hq => (h.own i q hi hq).keep b, h.room.keep b, Nat.lt_of_lt_of_le h.lt b.size⟩
theorem EFrom.set {W : World} {G k n : Nat} {l : List (Ent × EntR)} (h : EFrom W G (k + 1) n l) (hup : ∀ q ∈ l, G < blk q.2.ha) (o : Nat) (ho : o < (k + 1) * 13) (u : Value) : EFrom (W.setCell ⟨G, o, none⟩ u) G (k + 1) n l := by
  refine ⟨fun i q hi hq j hj => ?_, fun i q hi hq => (h.own i q hi hq).off1 u (hup q (List.mem_of_getElem? hq)), h.room.set _ _, by simpa using h.lt⟩
  rw [World.cell?_setCell_other _ _ _ _ (hoff_ne (by omega))]
  exact h.cell i q hi hq j hj
/-- While entry k is being marked. -/
structure MS (w : World) (lo hi G n k : Nat) (l : List (Ent × EntR)) (v2 v3 v11 : Value) (W : World) : Prop where
  fr : EFrom W G (k + 1) n l
  c2 : W.cell? ⟨G, k * 13 + 2, none⟩ = some v2
  c3 : W.cell? ⟨G, k * 13 + 3, none⟩ = some v3
  c11 : W.cell? ⟨G, k * 13 + 11, none⟩ = some v11
  bl : Below lo w W
  ab : Above hi w W
  le : lo ≤ w.heap.size
section
variable {w W W' : World} {lo hi G n k : Nat} {l : List (Ent × EntR)} {v2 v3 v11 : Value}
theorem MS.below (h : MS w lo hi G n k l v2 v3 v11 W) (b : Below W.heap.size W W') : MS w lo hi G n k l v2 v3 v11 W' :=
  ⟨h.fr.below b, by rw [b.cell (p := ⟨G, k * 13 + 2, none⟩) h.fr.lt]; exact h.c2, by rw [b.cell (p := ⟨G, k * 13 + 3, none⟩) h.fr.lt]; exact h.c3, by rw [b.cell (p := ⟨G, k * 13 + 11, none⟩) h.fr.lt]; exact h.c11, h.bl.trans (b.mono (Nat.le_trans h.le h.bl.size)), h.ab.trans (.below b), h.le⟩
theorem MS.set (h : MS w lo hi G n k l v2 v3 v11 W) (hup : ∀ q ∈ l, G < blk q.2.ha) (hlo : lo ≤ G) (hhi : G < hi) (j : Nat) (hj : j < 13) (h2 : j ≠ 2) (h3 : j ≠ 3) (h4 : j ≠ 11) (u : Value) : MS w lo hi G n k l v2 v3 v11 (W.setCell ⟨G, k * 13 + j, none⟩ u) :=
  ⟨h.fr.set hup _ (by omega) u, by rw [World.cell?_setCell_other _ _ _ _ (hoff_ne (by omega))]; exact h.c2, by rw [World.cell?_setCell_other _ _ _ _ (hoff_ne (by omega))]; exact h.c3, by rw [World.cell?_setCell_other _ _ _ _ (hoff_ne (by omega))]; exact h.c11, h.bl.setCell hlo u, h.ab.trans (.apart (Apart.set G _ W u) hhi), h.le⟩
theorem MS.apart (h : MS w lo hi G n k l v2 v3 v11 W) {B : Nat} (a : Apart B W W') (b : Below B W W') (hlo : lo ≤ B) (hhi : B < hi) (hG : G < B) (hB : ∀ (i : Nat) q, k + 1 ≤ i → l[i]? = some q → B < blk q.2.ha) : MS w lo hi G n k l v2 v3 v11 W' :=
  ⟨h.fr.apart a (by omega) hB, by rw [a.cell G _ h.fr.lt (by omega)]; exact h.c2, by rw [a.cell G _ h.fr.lt (by omega)]; exact h.c3, by rw [a.cell G _ h.fr.lt (by omega)]; exact h.c11, h.bl.trans (b.mono hlo), h.ab.trans (.apart a hhi), h.le⟩
end
set_option maxHeartbeats 4000000 in
theorem markTS_row (W : World) (g n cap k : Nat) (hn : n ≤ 1048576) (hk0 : 1 ≤ k) (hk : k ≤ 100000000000000) (hg : g < W.heap.size) (hm : HRoom W g n) :
    Calls Tryz.prog 80 #[.slice (some ⟨g, 0, none⟩) n cap, .int .i64 (k : Int)] W fun e w' => e = .returned (.int .i64 ((k + n : Nat) : Int)) ∧ Apart g W w' ∧ Below g W w' := by
  have HM : Hid (HRoom W g n) := hm
  clear hm
  go_enter Tryz.func80, Tryz.ntmps80
  go_wp2_with fail
  go_loopw [1, 5] (fun x i wr => ∃ j : Nat, j ≤ n ∧ i = .int .i64 (j : Int) ∧ x = .int .i64 ((k + j : Nat) : Int) ∧ HRoom wr g n ∧ g < wr.heap.size ∧ Apart g W wr ∧ Below g W wr) (fun _ i _ => n - (intOf i).toNat)
  case atStart => exact ⟨0, Nat.zero_le _, rfl, rfl, HM.out, hg, .refl _ _, Below.refl _ _⟩
  case round =>
    obtain ⟨j, hj, rfl, rfl, hm, hgw, ha, hb⟩ := hrel
    by_cases hlt : j < n
    · have C : Hid (Calls Tryz.prog 126 #[.int .i64 ((k + j : Nat) : Int)] wr fun e w' => e = .returned (.string (mkT (k + j))) ∧ Below wr.heap.size wr w') := markText_any (k + j) (by omega) (by omega) wr
      have HK : Hid (HRoom wr g n ∧ Apart g W wr ∧ Below g W wr) := ⟨hm, ha, hb⟩
      have gj : (j : Int) < n := by omega
      have gj0 : (0 : Int) ≤ j := by omega
      clear hm ha hb HM
      go_wp2_with fail
      refine C.out.mono ?_
      rintro e w2 ⟨rfl, hb2⟩
      have hm2 := HK.out.1.keep hb2
      obtain ⟨⟨u, hu⟩, hf⟩ := hm2 j hlt
      have HN : Hid (∀ v, HRoom (w2.setCell ⟨g, j, none⟩ v) g n ∧ g < (w2.setCell ⟨g, j, none⟩ v).heap.size ∧ Apart g W (w2.setCell ⟨g, j, none⟩ v) ∧ Below g W (w2.setCell ⟨g, j, none⟩ v)) := fun v => ⟨hm2.set _ _, by simpa using Nat.lt_of_lt_of_le hgw hb2.size, (HK.out.2.1.trans (.below hb2)).trans (Apart.set g _ _ _), (HK.out.2.2.trans (hb2.mono (Nat.le_of_lt hgw))).setCell (Nat.le_refl _) _⟩
      clear hb2 hm2 HK C
      go_wp2_with fail
      go_roundw
      case rel => exact ⟨j + 1, by omega, by go_num, by go_num, (HN.out _).1, (HN.out _).2.1, (HN.out _).2.2.1, (HN.out _).2.2.2⟩
      case measure => simp [intOf]; omega
    · have e : j = n := by omega
      subst e
      go_wp2_with fail
      go_ret
      exact ⟨rfl, ha, hb⟩
theorem BMine.room {W : World} {B : Nat} {l : List UInt8} (h : BMine W B l) : HRoom W B l.length := fun j hj => ⟨⟨_, by have := h.at0 j l[j] (List.getElem?_eq_getElem hj); rw [Nat.zero_add] at this; exact this⟩, h.free j hj⟩
theorem TMine.room {W : World} {B : Nat} {l : List ByteArray} (h : TMine W B l) : HRoom W B l.length := fun j hj => ⟨⟨_, by have := h.at0 j l[j] (List.getElem?_eq_getElem hj); rw [Nat.zero_add] at this; exact this⟩, h.free j hj⟩
theorem BAV.ap {g n c : Nat} {w w' : World} (h : BAV (.slice (some ⟨g, 0, none⟩) n c) w w') : Apart g w w' :=
  ⟨by rw [h.size]; exact Nat.le_refl _, fun b o hb hn => h.cell b o hb (by simp only [Value.ownBlock, ne_eq, Option.some.injEq]; omega), fun b o _ _ => h.frozen b o⟩
set_option maxRecDepth 100000 in
set_option maxHeartbeats 16000000 in
theorem markES_weak (w : World) (lo hi G cap c0 : Nat) (l : List (Ent × EntR)) (hl : l.length ≤ 1048576) (hf : ∀ q ∈ l, EntFit q.1) (hm : EntsMine w G l) (hr : HRoom w G (l.length * 13)) (hlo : lo ≤ G) (hhi : G < hi) (hhs : hi ≤ w.heap.size) (hub : ∀ q ∈ l, blk q.2.ta < hi) (hc0 : 1 ≤ c0) (hc1 : c0 ≤ 10000000000000) :
    Calls Tryz.prog 62 #[.slice (some ⟨G, 0, none⟩) l.length cap, .int .i64 (c0 : Int)] w fun e w' => (∃ c1 : Nat, e = .returned (.int .i64 (c1 : Int)) ∧ 1 ≤ c1 ∧ c1 ≤ c0 + l.length * 4194314) ∧ Below lo w w' ∧ Above hi w w' := by
  have HUP : Hid (∀ q ∈ l, G < blk q.2.ha) := hm.up
  have HPW : Hid (∀ (i j : Nat) q q', i < j → l[i]? = some q → l[j]? = some q' → blk q.2.ta < blk q'.2.ha) := fun i j q q' hij hi hj => by
    obtain ⟨h1, e1⟩ := List.getElem?_eq_some_iff.1 hi
    obtain ⟨h2, e2⟩ := List.getElem?_eq_some_iff.1 hj
    have := List.pairwise_iff_getElem.1 hm.pw i j h1 h2 hij
    rw [e1, e2] at this
    exact this
  have HUB : Hid (∀ q ∈ l, blk q.2.ta < hi) := hub
  have HFT : Hid (∀ q ∈ l, EntFit q.1) := hf
  have HST : Hid (EFrom w G 0 l.length l) := ⟨fun i q _ hq j hj => hm.cell i q hq j hj, fun i q _ hq => hm.own q (List.mem_of_getElem? hq), hr, hm.lt⟩
  clear hm hr hub hf
  obtain ⟨n, hn0⟩ : ∃ n, l.length = n := ⟨_, rfl⟩
  rw [hn0] at HST hl ⊢
  have HN : Hid (l.length = n) := hn0
  clear hn0
  go_enter Tryz.func62, Tryz.ntmps62
  go_wp2_with fail
  go_loopw [1, 5] (fun x i wr => ∃ k c : Nat, k ≤ n ∧ i = .int .i64 (k : Int) ∧ x = .int .i64 (c : Int) ∧ 1 ≤ c ∧ c ≤ c0 + k * 4194314 ∧ EFrom wr G k n l ∧ Below lo w wr ∧ Above hi w wr) (fun _ i _ => n - (intOf i).toNat)
  case atStart => exact ⟨0, c0, Nat.zero_le _, rfl, rfl, hc0, by omega, HST.out, Below.refl _ _, .refl _ _⟩
  case round =>
    obtain ⟨k, c, hk, rfl, rfl, h1, h2, hfr, hb, hab⟩ := hrel
    clear HST
    by_cases hlt : k < n
    · obtain ⟨⟨x, r⟩, hq⟩ : ∃ r, l[k]? = some r := ⟨l[k]'(by have := HN.out; omega), List.getElem?_eq_getElem _⟩
      have hmem := List.mem_of_getElem? hq
      have ft := HFT.out _ hmem
      have hcell := hfr.cell k _ (Nat.le_refl _) hq
      have ho := hfr.own k _ (Nat.le_refl _) hq
      simp only at ho
      obtain ⟨B1, B2, B3, er, m1, m2, m3, hb12, hb23⟩ := ho
      subst er
      have hG1 : G < B1 := HUP.out _ hmem
      have hB3 : B3 < hi := HUB.out _ hmem
      have HNX : Hid (∀ (i : Nat) q, k + 1 ≤ i → l[i]? = some q → B3 < blk q.2.ha) := fun i q hi' hq' => HPW.out k i _ q (by omega) hq hq'
      have z2 : wr.cell? ⟨G, k * 13 + 2, none⟩ = some (.slice (some ⟨B1, 0, none⟩) x.hs.length x.hs.length) := hcell 2 (by omega)
      have z3 : wr.cell? ⟨G, k * 13 + 3, none⟩ = some (.slice (some ⟨B2, 0, none⟩) x.bl.length x.bl.length) := hcell 3 (by omega)
      have z11 : wr.cell? ⟨G, k * 13 + 11, none⟩ = some (.slice (some ⟨B3, 0, none⟩) x.ts.length x.ts.length) := hcell 11 (by omega)
      have Q0 : Hid (MS w lo hi G n k l (.slice (some ⟨B1, 0, none⟩) x.hs.length x.hs.length) (.slice (some ⟨B2, 0, none⟩) x.bl.length x.bl.length) (.slice (some ⟨B3, 0, none⟩) x.ts.length x.ts.length) wr) := ⟨hfr.next, z2, z3, z11, hb, hab, by omega⟩
      have M1 : Hid (QMine wr B1 x.hs) := m1
      have M2 : Hid (BMine wr B2 x.bl) := m2
      have M3 : Hid (TMine wr B3 x.ts) := m3
      obtain ⟨f1, f2, f3⟩ := ft
      simp only at f1 f2 f3
      clear z2 z3 z11 hcell hfr hb hab m1 m2 m3 hq hmem HPW HUB HFT
      obtain ⟨hn, ehn⟩ : ∃ n, Hid (x.hs.length = n) := ⟨_, rfl⟩
      obtain ⟨bn, ebn⟩ : ∃ n, Hid (x.bl.length = n) := ⟨_, rfl⟩
      obtain ⟨tn, etn⟩ : ∃ n, Hid (x.ts.length = n) := ⟨_, rfl⟩
      rw [ehn.out, ebn.out, etn.out] at Q0
      rw [ehn.out] at f1
      rw [ebn.out] at f2
      rw [etn.out] at f3
      have CT : Hid (Calls Tryz.prog 126 #[.int .i64 (c : Int)] wr fun e w' => e = .returned (.string (mkT c)) ∧ Below wr.heap.size wr w') := markText_any c (by omega) (by omega) wr
      have gk : (k : Int) < n := by omega
      have gk0 : (0 : Int) ≤ k := by omega
      go_wp2_with fail
      refine CT.out.mono ?_
      rintro e w1 ⟨rfl, hb1⟩
      have Q1 := Q0.out.below hb1
      have N1 : Hid (QMine w1 B1 x.hs ∧ BMine w1 B2 x.bl ∧ TMine w1 B3 x.ts) := ⟨M1.out.keep hb1, M2.out.keep hb1, M3.out.keep hb1⟩
      obtain ⟨⟨u0, g0⟩, f0⟩ := Q1.fr.room (k * 13) (by omega)
      obtain ⟨⟨u1, g1⟩, fz1⟩ := Q1.fr.room (k * 13 + 1) (by omega)
      obtain ⟨V1, hV1⟩ : ∃ V, V = (w1.setCell ⟨G, k * 13, none⟩ (.string (mkT c))).setCell ⟨G, k * 13 + 1, none⟩ (.int .i64 ((c : Int) + 1)) := ⟨_, rfl⟩
      have HV1 : Hid (V1 = (w1.setCell ⟨G, k * 13, none⟩ (.string (mkT c))).setCell ⟨G, k * 13 + 1, none⟩ (.int .i64 ((c : Int) + 1))) := hV1
      have Q2 : Hid (MS w lo hi G n k l (.slice (some ⟨B1, 0, none⟩) hn hn) (.slice (some ⟨B2, 0, none⟩) bn bn) (.slice (some ⟨B3, 0, none⟩) tn tn) V1 ∧ QMine V1 B1 x.hs ∧ BMine V1 B2 x.bl ∧ TMine V1 B3 x.ts) := by
        rw [hV1]
        exact ⟨(Q1.set HUP.out hlo hhi 0 (by omega) (by omega) (by omega) (by omega) _).set HUP.out hlo hhi 1 (by omega) (by omega) (by omega) (by omega) _, (N1.out.1.off1 _ (by omega)).off1 _ (by omega), (N1.out.2.1.off1 _ (by omega)).off1 _ (by omega), (N1.out.2.2.off1 _ (by omega)).off1 _ (by omega)⟩
      have y2 := Q1.c2
      clear hV1 N1 hb1 CT Q0 M1 M2 M3 Q1
      have e1 : IntKind.i64.wrap ((c : Int) + 1) = (c : Int) + 1 := by unfold IntKind.wrap; simp [IntKind.signed, IntKind.bits]; omega
      have e2 : IntKind.i64.wrap ((c : Int) + 1 + 1) = (c : Int) + 1 + 1 := by unfold IntKind.wrap; simp [IntKind.signed, IntKind.bits]; omega
      have CH : Hid (Calls Tryz.prog 78 #[.slice (some ⟨B1, 0, none⟩) hn hn, .int .i64 ((c : Int) + 1 + 1)] V1 fun e w' => e = .returned (.int .i64 ((c : Int) + 1 + 1 + 2 * (hn : Int))) ∧ Apart B1 V1 w' ∧ Below B1 V1 w') := by
        have := markHeaderS_any V1 B1 0 hn hn (c + 1 + 1) x.hs ehn.out f1 (by omega) (by omega) Q2.out.2.1.at0 Q2.out.2.1.free Q2.out.2.1.lt
        rw [show (((c + 1 + 1 : Nat)) : Int) = (c : Int) + 1 + 1 from by omega, show (((c + 1 + 1 + 2 * hn : Nat)) : Int) = (c : Int) + 1 + 1 + 2 * (hn : Int) from by omega] at this
        exact this.mono (fun e w' h => ⟨h.1, h.2.2.1, h.2.2.2.1⟩)
      go_wp2_with fail
      rw [← HV1.out]
      refine CH.out.mono ?_
      rintro e w3 ⟨rfl, ha3, hb3⟩
      have Q3 : Hid (MS w lo hi G n k l (.slice (some ⟨B1, 0, none⟩) hn hn) (.slice (some ⟨B2, 0, none⟩) bn bn) (.slice (some ⟨B3, 0, none⟩) tn tn) w3 ∧ BMine w3 B2 x.bl ∧ TMine w3 B3 x.ts) := ⟨Q2.out.1.apart ha3 hb3 (by omega) (by omega) hG1 (fun i q h h' => by have := HNX.out i q h h'; omega), Q2.out.2.2.1.apart ha3 (by omega), Q2.out.2.2.2.apart ha3 (by omega)⟩
      clear Q2 CH ha3 hb3 HV1 y2 g0 f0 g1
      have y3 := Q3.out.1.c3
      obtain ⟨d, hd⟩ : ∃ d : Nat, Hid (c + 1 + 1 + 2 * hn = d) := ⟨_, rfl⟩
      have ed : (c : Int) + 1 + 1 + 2 * (hn : Int) = (d : Int) := by have := hd.out; omega
      have hdle : d ≤ c + 2 + 2 * hn := by have := hd.out; omega
      have hdge : 1 ≤ d := by have := hd.out; omega
      rw [ed]
      have CB : Hid (Calls Tryz.prog 79 #[.slice (some ⟨B2, 0, none⟩) bn bn, .int .i64 (d : Int)] w3 fun e w' => e = .returned (.int .i64 ((d + bn : Nat) : Int)) ∧ Apart B2 w3 w' ∧ Below B2 w3 w') := by
        have hrm := Q3.out.2.1.room
        rw [ebn.out] at hrm
        exact (markByteS_row w3 B2 bn bn d B2 f2 (by omega) (Nat.le_refl _) Q3.out.2.1.lt hrm).mono (fun e w' h => ⟨h.1, h.2.2.1.ap, h.2.2.2⟩)
      go_wp2_with fail
      refine CB.out.mono ?_
      rintro e w4 ⟨rfl, ha4, hb4⟩
      have Q4 : Hid (MS w lo hi G n k l (.slice (some ⟨B1, 0, none⟩) hn hn) (.slice (some ⟨B2, 0, none⟩) bn bn) (.slice (some ⟨B3, 0, none⟩) tn tn) w4 ∧ TMine w4 B3 x.ts) := ⟨Q3.out.1.apart ha4 hb4 (by omega) (by omega) (by omega) (fun i q h h' => by have := HNX.out i q h h'; omega), Q3.out.2.2.apart ha4 (by omega)⟩
      clear Q3 CB ha4 hb4 y3 ed
      obtain ⟨m, hm⟩ : ∃ m : Nat, Hid (d + bn = m) := ⟨_, rfl⟩
      rw [hm.out]
      have hmle : m ≤ c + 2 + 2 * hn + bn := by have := hm.out; omega
      have hmge : 1 ≤ m := by have := hm.out; omega
      clear hd hm hdle hdge
      obtain ⟨⟨u4, g4⟩, fz4⟩ := Q4.out.1.fr.room (k * 13 + 4) (by omega)
      obtain ⟨⟨u5, g5⟩, fz5⟩ := Q4.out.1.fr.room (k * 13 + 5) (by omega)
      obtain ⟨⟨u6, g6⟩, fz6⟩ := Q4.out.1.fr.room (k * 13 + 6) (by omega)
      obtain ⟨⟨u7, g7⟩, fz7⟩ := Q4.out.1.fr.room (k * 13 + 7) (by omega)
      obtain ⟨⟨u8, g8⟩, fz8⟩ := Q4.out.1.fr.room (k * 13 + 8) (by omega)
      obtain ⟨⟨u9, g9⟩, fz9⟩ := Q4.out.1.fr.room (k * 13 + 9) (by omega)
      obtain ⟨⟨u10, g10⟩, fz10⟩ := Q4.out.1.fr.room (k * 13 + 10) (by omega)
      have s1 : IntKind.i64.wrap ((m : Int) + 1) = (m : Int) + 1 := by unfold IntKind.wrap; simp [IntKind.signed, IntKind.bits]; omega
      have s2 : IntKind.i64.wrap ((m : Int) + 1 + 1) = (m : Int) + 1 + 1 := by unfold IntKind.wrap; simp [IntKind.signed, IntKind.bits]; omega
      have s3 : IntKind.i64.wrap ((m : Int) + 1 + 1 + 1) = (m : Int) + 1 + 1 + 1 := by unfold IntKind.wrap; simp [IntKind.signed, IntKind.bits]; omega
      have s4 : IntKind.i64.wrap ((m : Int) + 1 + 1 + 1 + 1) = (m : Int) + 1 + 1 + 1 + 1 := by unfold IntKind.wrap; simp [IntKind.signed, IntKind.bits]; omega
      have s5 : IntKind.i64.wrap ((m : Int) + 1 + 1 + 1 + 1 + 1) = (m : Int) + 1 + 1 + 1 + 1 + 1 := by unfold IntKind.wrap; simp [IntKind.signed, IntKind.bits]; omega
      have s6 : IntKind.i64.wrap ((m : Int) + 1 + 1 + 1 + 1 + 1 + 1) = (m : Int) + 1 + 1 + 1 + 1 + 1 + 1 := by unfold IntKind.wrap; simp [IntKind.signed, IntKind.bits]; omega
      have s7 : IntKind.i64.wrap ((m : Int) + 1 + 1 + 1 + 1 + 1 + 1 + 1) = (m : Int) + 1 + 1 + 1 + 1 + 1 + 1 + 1 := by unfold IntKind.wrap; simp [IntKind.signed, IntKind.bits]; omega
      have SETS : Hid (∀ a0 a1 a2 a3 a4 a5 a6, MS w lo hi G n k l (.slice (some ⟨B1, 0, none⟩) hn hn) (.slice (some ⟨B2, 0, none⟩) bn bn) (.slice (some ⟨B3, 0, none⟩) tn tn) (((((((w4.setCell ⟨G, k * 13 + 4, none⟩ a0).setCell ⟨G, k * 13 + 5, none⟩ a1).setCell ⟨G, k * 13 + 6, none⟩ a2).setCell ⟨G, k * 13 + 7, none⟩ a3).setCell ⟨G, k * 13 + 8, none⟩ a4).setCell ⟨G, k * 13 + 9, none⟩ a5).setCell ⟨G, k * 13 + 10, none⟩ a6) ∧ TMine (((((((w4.setCell ⟨G, k * 13 + 4, none⟩ a0).setCell ⟨G, k * 13 + 5, none⟩ a1).setCell ⟨G, k * 13 + 6, none⟩ a2).setCell ⟨G, k * 13 + 7, none⟩ a3).setCell ⟨G, k * 13 + 8, none⟩ a4).setCell ⟨G, k * 13 + 9, none⟩ a5).setCell ⟨G, k * 13 + 10, none⟩ a6) B3 x.ts) := by
        intro a0 a1 a2 a3 a4 a5 a6
        refine ⟨?_, ((((((Q4.out.2.off1 _ (by omega)).off1 _ (by omega)).off1 _ (by omega)).off1 _ (by omega)).off1 _ (by omega)).off1 _ (by omega)).off1 _ (by omega)⟩
        exact ((((((Q4.out.1.set HUP.out hlo hhi 4 (by omega) (by omega) (by omega) (by omega) _).set HUP.out hlo hhi 5 (by omega) (by omega) (by omega) (by omega) _).set HUP.out hlo hhi 6 (by omega) (by omega) (by omega) (by omega) _).set HUP.out hlo hhi 7 (by omega) (by omega) (by omega) (by omega) _).set HUP.out hlo hhi 8 (by omega) (by omega) (by omega) (by omega) _).set HUP.out hlo hhi 9 (by omega) (by omega) (by omega) (by omega) _).set HUP.out hlo hhi 10 (by omega) (by omega) (by omega) (by omega) _
      have y11 := Q4.out.1.c11
      clear Q4
      have CS : Hid (∀ X, MS w lo hi G n k l (.slice (some ⟨B1, 0, none⟩) hn hn) (.slice (some ⟨B2, 0, none⟩) bn bn) (.slice (some ⟨B3, 0, none⟩) tn tn) X → TMine X B3 x.ts → Calls Tryz.prog 80 #[.slice (some ⟨B3, 0, none⟩) tn tn, .int .i64 ((m : Int) + 1 + 1 + 1 + 1 + 1 + 1 + 1)] X fun e w' => e = .returned (.int .i64 ((m : Int) + 7 + (tn : Int))) ∧ MS w lo hi G n k l (.slice (some ⟨B1, 0, none⟩) hn hn) (.slice (some ⟨B2, 0, none⟩) bn bn) (.slice (some ⟨B3, 0, none⟩) tn tn) w') := fun X hM hT => by
        have hrm := hT.room
        rw [etn.out] at hrm
        have := markTS_row X B3 tn tn (m + 7) f3 (by omega) (by omega) hT.lt hrm
        rw [show (((m + 7 : Nat)) : Int) = (m : Int) + 1 + 1 + 1 + 1 + 1 + 1 + 1 from by omega, show (((m + 7 + tn : Nat)) : Int) = (m : Int) + 7 + (tn : Int) from by omega] at this
        exact this.mono (fun e w' h => ⟨h.1, hM.apart h.2.1 h.2.2 (by omega) hB3 (by omega) HNX.out⟩)
      go_wp2_with fail
      refine (CS.out _ (SETS.out _ _ _ _ _ _ _).1 (SETS.out _ _ _ _ _ _ _).2).mono ?_
      rintro e w6 ⟨rfl, Q6⟩
      clear SETS CS y11
      obtain ⟨p, hp⟩ : ∃ p : Nat, Hid (m + 7 + tn = p) := ⟨_, rfl⟩
      have ep : (m : Int) + 7 + (tn : Int) = (p : Int) := by have := hp.out; omega
      have hple : p ≤ c + 9 + 2 * hn + bn + tn := by have := hp.out; omega
      have hpge : 1 ≤ p := by have := hp.out; omega
      rw [ep]
      clear ep hp
      obtain ⟨⟨u12, g12⟩, fz12⟩ := Q6.fr.room (k * 13 + 12) (by omega)
      have FIN : Hid (∀ u, MS w lo hi G n k l (.slice (some ⟨B1, 0, none⟩) hn hn) (.slice (some ⟨B2, 0, none⟩) bn bn) (.slice (some ⟨B3, 0, none⟩) tn tn) (w6.setCell ⟨G, k * 13 + 12, none⟩ u)) := fun u => Q6.set HUP.out hlo hhi 12 (by omega) (by omega) (by omega) (by omega) u
      have t1 : IntKind.i64.wrap ((p : Int) + 1) = (p : Int) + 1 := by unfold IntKind.wrap; simp [IntKind.signed, IntKind.bits]; omega
      clear Q6
      go_wp2_with fail
      go_roundw
      case rel => exact ⟨k + 1, p + 1, by omega, by go_num, by go_num, by omega, by omega, (FIN.out _).fr, (FIN.out _).bl, (FIN.out _).ab⟩
      case measure => simp [intOf]; omega
    · have e : k = n := by omega
      subst e
      go_wp2_with fail
      go_ret
      exact ⟨⟨c, rfl, h1, h2⟩, hb, hab⟩
end Go.Proofs.YtdooopkpnanekaaGreatDoor
/-
  A store that a law is about: what its own helpers make of it.
-/
namespace Go.Proofs.YtdooopkpnanekaaGreatDoor
open Go.ChangeShapes Go.WideShapes Go.ChangeAt Go.RowKit Go.Sort
/-- A store that came in. -/
structure StoArg (w : World) (ta ka : Option Addr) (tl kl : List (Ent × EntR)) : Prop where
  t : EntsIn w ta tl
  k : EntsIn w ka kl
  tn : tl.length ≤ maxLen
  kn : kl.length ≤ maxLen
  ts : ∀ q ∈ tl, EntSm q.1
  ks : ∀ q ∈ kl, EntSm q.1
theorem StoArg.keep {w w' : World} {ta ka : Option Addr} {tl kl : List (Ent × EntR)} (h : StoArg w ta ka tl kl) (hb : Below w.heap.size w w') : StoArg w' ta ka tl kl := ⟨h.t.keep hb, h.k.keep hb, h.tn, h.kn, h.ts, h.ks⟩
structure StoFit (tl kl : List (Ent × EntR)) : Prop where
  tn : tl.length ≤ 1048576
  kn : kl.length ≤ 1048576
  tf : ∀ q ∈ tl, EntFit q.1
  kf : ∀ q ∈ kl, EntFit q.1
theorem szSt_room {left : Int} {tl kl : List (Ent × EntR)} (hl : left ≤ 1048576) (h : ¬ szSt left tl kl < 0) : StoFit tl kl ∧ szSt left tl kl ≤ left := by
  unfold szSt at h ⊢
  by_cases c1 : szEL left tl < 0
  · rw [if_pos c1] at h; omega
  rw [if_neg c1] at h ⊢
  by_cases c2 : szEL (szEL left tl) kl < 0
  · rw [if_pos c2] at h; omega
  rw [if_neg c2]
  have r1 := szEL_room hl c1
  have r2 := szEL_room (Int.le_trans r1.1 hl) c2
  exact ⟨⟨r1.2.1, r2.2.1, r1.2.2, r2.2.2⟩, by omega⟩
/-- A copy of it, its holder's own. -/
def StoNew (W : World) (G1 G2 : Nat) (tl kl : List (Ent × EntR)) : Prop := ∃ tl' kl', tl'.map Prod.fst = tl.map Prod.fst ∧ kl'.map Prod.fst = kl.map Prod.fst ∧ StoMine W G1 G2 tl' kl'
theorem StoNew.keep {W W' : World} {G1 G2 : Nat} {tl kl : List (Ent × EntR)} (h : StoNew W G1 G2 tl kl) (hb : Below W.heap.size W W') : StoNew W' G1 G2 tl kl := by
  obtain ⟨a, b, e1, e2, m⟩ := h
  exact ⟨a, b, e1, e2, m.keep hb⟩
theorem fit_map {l m : List (Ent × EntR)} (e : l.map Prod.fst = m.map Prod.fst) (h : ∀ q ∈ m, EntFit q.1) : ∀ q ∈ l, EntFit q.1 := by
  intro q hq
  have : q.1 ∈ m.map Prod.fst := by rw [← e]; exact List.mem_map_of_mem hq
  obtain ⟨p, hp, e2⟩ := List.mem_map.1 this
  rw [← e2]
  exact h p hp
theorem len_map {l m : List (Ent × EntR)} (e : l.map Prod.fst = m.map Prod.fst) : l.length = m.length := by
  have := congrArg List.length e
  simpa using this
theorem szStore_arg (w : World) (bu gu : Int) (ta ka : Option Addr) (tc kc : Nat) (tl kl : List (Ent × EntR)) (left : Int) (h0 : 0 ≤ left) (h1 : left ≤ 1048576) (h : StoArg w ta ka tl kl) :
    Calls Tryz.prog 8 #[.agg #[.int .i64 bu, .int .i64 gu, .slice ta tl.length tc, .slice ka kl.length kc], .int .i64 left] w fun r w' => r = .returned (.int .i64 (szSt left tl kl)) ∧ Below w.heap.size w w' :=
  szStore_any w bu gu ta ka tc kc tl kl left h0 h1 h.tn h.kn h.ts h.ks h.t h.k
theorem toStore_arg (w : World) (bu gu : Int) (ta ka : Option Addr) (tc kc : Nat) (tl kl : List (Ent × EntR)) (h : StoArg w ta ka tl kl) (hf : StoFit tl kl) :
    Calls Tryz.prog 10 #[.agg #[.int .i64 bu, .int .i64 gu, .slice ta tl.length tc, .slice ka kl.length kc]] w fun ee w' => (∃ G1 G2, ee = .returned (.agg #[.int .i64 bu, .int .i64 gu, .slice (some ⟨G1, 0, none⟩) tl.length tl.length, .slice (some ⟨G2, 0, none⟩) kl.length kl.length]) ∧ StoNew w' G1 G2 tl kl ∧ w.heap.size ≤ G1) ∧ Below w.heap.size w w' := by
  refine (toStore_any w bu gu ta ka tc kc tl kl hf.tn hf.kn hf.tf hf.kf h.t h.k).mono ?_
  rintro e w' ⟨⟨G1, G2, a, b, rfl, e1, e2, m, hg⟩, hb⟩
  exact ⟨⟨G1, G2, rfl, ⟨a, b, e1, e2, m⟩, hg⟩, hb⟩
theorem eqStore_new (w : World) (bu gu : Int) (tl kl : List (Ent × EntR)) (G1 G2 H1 H2 : Nat) (hf : StoFit tl kl) (h : StoNew w G1 G2 tl kl) (k : StoNew w H1 H2 tl kl) :
    Calls Tryz.prog 13 #[.agg #[.int .i64 bu, .int .i64 gu, .slice (some ⟨G1, 0, none⟩) tl.length tl.length, .slice (some ⟨G2, 0, none⟩) kl.length kl.length], .agg #[.int .i64 bu, .int .i64 gu, .slice (some ⟨H1, 0, none⟩) tl.length tl.length, .slice (some ⟨H2, 0, none⟩) kl.length kl.length]] w fun r w' => r = .returned (.bool true) ∧ Below w.heap.size w w' := by
  obtain ⟨a, b, e1, e2, m⟩ := h
  obtain ⟨c, d, e3, e4, n⟩ := k
  have l1 := len_map e1
  have l2 := len_map e2
  rw [← l1, ← l2]
  exact eqStore_same w bu gu _ _ _ _ _ _ _ _ a c b d (by rw [l1]; exact hf.tn) (by rw [l2]; exact hf.kn) (fit_map e1 hf.tf) (fit_map e2 hf.kf) (e1.trans e3.symm) (e2.trans e4.symm) m.t.in n.t.in m.k.in n.k.in
end Go.Proofs.YtdooopkpnanekaaGreatDoor
/-
  A whole store that is marked: what lies outside of it is as it was.
-/
namespace Go.Proofs.YtdooopkpnanekaaGreatDoor
open Go.ChangeShapes Go.WideShapes Go.ChangeAt Go.RowKit Go.Sort
theorem Above.mono {h1 h2 : Nat} {w w' : World} (h : Above h1 w w') (hh : h1 ≤ h2) : Above h2 w w' := ⟨h.size, fun b o hb hn => h.cell b o (by omega) hn, fun b o hb hn => h.frozen b o (by omega) hn⟩
theorem EntOwn.above {W W' : World} {hi : Nat} {x : Ent} {r : EntR} (h : EntOwn W x r) (k : Above hi W W') (hh : hi ≤ blk r.ha) : EntOwn W' x r := by
  obtain ⟨B1, B2, B3, rfl, h1, h2, h3, h4, h5⟩ := h
  have q : hi ≤ B1 := hh
  refine ⟨B1, B2, B3, rfl, ⟨fun i r hr => ?_, fun o => ?_, ?_⟩, ⟨fun i r hr => ?_, fun o ho => ?_, ?_⟩, ⟨fun i r hr => ?_, fun o ho => ?_, ?_⟩, h4, h5⟩
  · rw [k.cell B1 _ q h1.lt, k.cell B1 _ q h1.lt]; exact h1.at0 i r hr
  · rw [k.frozen B1 o q h1.lt]; exact h1.free o
  · exact Nat.lt_of_lt_of_le h1.lt k.size
  · rw [k.cell B2 _ (by omega) h2.lt]; exact h2.at0 i r hr
  · rw [k.frozen B2 o (by omega) h2.lt]; exact h2.free o ho
  · exact Nat.lt_of_lt_of_le h2.lt k.size
  · rw [k.cell B3 _ (by omega) h3.lt]; exact h3.at0 i r hr
  · rw [k.frozen B3 o (by omega) h3.lt]; exact h3.free o ho
  · exact Nat.lt_of_lt_of_le h3.lt k.size
theorem EntsMine.above {W W' : World} {hi G : Nat} {l : List (Ent × EntR)} (h : EntsMine W G l) (k : Above hi W W') (hh : hi ≤ G) : EntsMine W' G l :=
  ⟨fun i q hq j hj => by rw [k.cell G _ hh h.lt]; exact h.cell i q hq j hj, fun o => by rw [k.frozen G o hh h.lt]; exact h.free o, Nat.lt_of_lt_of_le h.lt k.size, fun q hq => (h.own q hq).above k (Nat.le_trans hh (Nat.le_of_lt (h.up q hq))), h.up, h.pw⟩
theorem EntsMine.room {W : World} {G : Nat} {l : List (Ent × EntR)} (h : EntsMine W G l) : HRoom W G (l.length * 13) := fun j hj => by
  have hm : j / 13 * 13 + j % 13 = j := by omega
  obtain ⟨q, hq⟩ : ∃ r, l[j / 13]? = some r := ⟨l[j / 13]'(by omega), List.getElem?_eq_getElem _⟩
  have c := h.cell (j / 13) q hq (j % 13) (by omega)
  rw [hm] at c
  exact ⟨⟨_, c.trans (List.getElem?_eq_getElem (by rw [show (entW q.1 q.2).length = 13 from rfl]; omega))⟩, h.free j⟩
set_option maxHeartbeats 4000000 in
theorem markSto_weak (w0 w : World) (bu gu : Int) (tl kl : List (Ent × EntR)) (G1 G2 lo hi tk kk : Nat) (hf : StoFit tl kl) (h : StoNew w0 G1 G2 tl kl) (hw : Below w0.heap.size w0 w) (hlo : lo ≤ G1) (hhi : hi = w0.heap.size) :
    Calls Tryz.prog 14 #[.agg #[.int .i64 bu, .int .i64 gu, .slice (some ⟨G1, 0, none⟩) tl.length tk, .slice (some ⟨G2, 0, none⟩) kl.length kk], .int .i64 1] w fun e w' => (∃ c1 : Nat, e = .returned (.int .i64 (c1 : Int)) ∧ 1 ≤ c1 ∧ c1 ≤ 10000000000000) ∧ Below lo w w' ∧ Above hi w w' := by
  obtain ⟨a, b, e1, e2, m0⟩ := h
  have m := m0.keep hw
  have hw0 := hw.size
  have hG0 := m0.k.lt
  have l1 := len_map e1
  have l2 := len_map e2
  rw [← l1, ← l2]
  have n1 : a.length ≤ 1048576 := by rw [l1]; exact hf.tn
  have n2 : b.length ≤ 1048576 := by rw [l2]; exact hf.kn
  have F1 := fit_map e1 hf.tf
  have F2 := fit_map e2 hf.kf
  have hG1 := m.t.lt
  have hG2 := m.k.lt
  have hGG := m.lt
  obtain ⟨W, hW⟩ : ∃ W, W = w.alloc (.cells #[.int .i64 bu, .int .i64 gu, .slice (some ⟨G1, 0, none⟩) a.length tk, .slice (some ⟨G2, 0, none⟩) b.length kk] 28) := ⟨_, rfl⟩
  have HW : Hid (W = w.alloc (.cells #[.int .i64 bu, .int .i64 gu, .slice (some ⟨G1, 0, none⟩) a.length tk, .slice (some ⟨G2, 0, none⟩) b.length kk] 28)) := hW
  have bW : Below w.heap.size w W := by rw [hW]; exact (Below.refl _ _).alloc (Nat.le_refl _) _
  have sW : S4 W w.heap.size (.int .i64 bu) (.int .i64 gu) (.slice (some ⟨G1, 0, none⟩) a.length tk) (.slice (some ⟨G2, 0, none⟩) b.length kk) := by rw [hW]; exact S4.new w _ _ _ _ _
  have mW := m.keep bW
  have C1 : Hid (Calls Tryz.prog 62 #[.slice (some ⟨G1, 0, none⟩) a.length tk, .int .i64 ((1 : Nat) : Int)] W fun e w' => (∃ c1 : Nat, e = .returned (.int .i64 (c1 : Int)) ∧ 1 ≤ c1 ∧ c1 ≤ 1 + a.length * 4194314) ∧ Below lo W w' ∧ Above G2 W w') := markES_weak W lo G2 G1 tk 1 a n1 F1 mW.t mW.t.room hlo hGG (by have := bW.size; omega) m.up (by omega) (by omega)
  have HX : Hid (∀ X c, Below lo W X → Above G2 W X → 1 ≤ c → c ≤ 1 + a.length * 4194314 → Calls Tryz.prog 62 #[.slice (some ⟨G2, 0, none⟩) b.length kk, .int .i64 ((c : Nat) : Int)] X fun e w' => (∃ c1 : Nat, e = .returned (.int .i64 (c1 : Int)) ∧ 1 ≤ c1 ∧ c1 ≤ c + b.length * 4194314) ∧ Below lo X w' ∧ Above hi X w') := fun X c hb ha hc1 hc2 => by
    have mk := mW.k.above ha (Nat.le_refl _)
    have hs := ha.size
    have hws := bW.size
    exact markES_weak X lo hi G2 kk c b n2 F2 mk mk.room (by omega) (by omega) (by omega) (fun q hq => by have := (mW.k.own q hq).lt; have := (m0.k.own q hq).lt; omega) hc1 (by omega)
  have K3 : Hid (∀ X, Above G2 W X → X.cell? ⟨w.heap.size, 3, none⟩ = some (.slice (some ⟨G2, 0, none⟩) b.length kk)) := fun X ha => by
    rw [ha.cell w.heap.size 3 (by omega) sW.lt]; exact sW.c3
  have HB : Hid (Below lo w W ∧ Above hi w W) := ⟨bW.mono (by omega), .below bW⟩
  have HLE : Hid (lo ≤ w.heap.size ∧ G2 ≤ hi) := ⟨by omega, by omega⟩
  clear hW bW sW mW F1 F2 m m0 hw e1 e2 l1 l2 hf
  generalize a.length = an at *
  generalize b.length = bn at *
  have C1' : Hid (Calls Tryz.prog 62 #[.slice (some ⟨G1, 0, none⟩) an tk, .int .i64 1] W fun e w' => (∃ c1 : Nat, e = .returned (.int .i64 (c1 : Int)) ∧ 1 ≤ c1 ∧ c1 ≤ 1 + an * 4194314) ∧ Below lo W w' ∧ Above G2 W w') := C1.out
  clear C1
  go_enter Tryz.func14, Tryz.ntmps14
  go_wp2_with fail
  rw [← HW.out]
  refine C1'.out.mono ?_
  rintro e w1 ⟨⟨c1, rfl, hc1, hc2⟩, hb1, ha1⟩
  have q3 := K3.out w1 ha1
  have HC2 := HX.out w1 c1 hb1 ha1 hc1 hc2
  have HB1 : Hid (Below lo w w1 ∧ Above hi w w1) := ⟨HB.out.1.trans hb1, HB.out.2.trans (ha1.mono HLE.out.2)⟩
  clear K3 HX C1' HW HB hb1 ha1
  go_wp2_with fail
  refine HC2.mono ?_
  rintro e w2 ⟨⟨c2, rfl, hc3, hc4⟩, hb2, ha2⟩
  have HB2 : Hid (Below lo w w2 ∧ Above hi w w2) := ⟨HB1.out.1.trans hb2, HB1.out.2.trans ha2⟩
  clear HC2 hb2 ha2 HB1 q3
  go_wp2_with fail
  go_ret
  exact ⟨⟨c2, rfl, hc3, by omega⟩, HB2.out.1, HB2.out.2⟩
end Go.Proofs.YtdooopkpnanekaaGreatDoor
/-
  An entry whose lists are its own: marked, held.
-/
namespace Go.Proofs.YtdooopkpnanekaaGreatDoor
open Go.ChangeShapes Go.WideShapes Go.ChangeAt Go.RowKit Go.Sort
def BLV (w : World) (v : Value) (l : List UInt8) : Prop :=
  (v = .slice none 0 0 ∧ l = []) ∨ ∃ g cap, v = .slice (some ⟨g, 0, none⟩) l.length cap ∧ g < w.heap.size ∧ BAt w g 0 l ∧ ∀ o, w.frozen? ⟨g, o, none⟩ = false
theorem RowB.lv {w : World} {base : Nat} {v : Value} {l : List UInt8} (h : RowB w base v l) : BLV w v l ∧ ∀ b, v.ownBlock = some b → base ≤ b := by
  have h0 := h
  obtain ⟨_, h1 | ⟨g, c, cur, rfl, hg, hh, _⟩⟩ := h
  · have e : l = [] := List.eq_nil_of_length_eq_zero h1.2
    exact ⟨.inl ⟨h1.1, e⟩, fun b hb => by rw [h1.1] at hb; cases hb⟩
  · refine ⟨.inr ⟨g, c, rfl, (Array.getElem?_eq_some_iff.1 hh).1, fun i q hq => ?_, fun o => ?_⟩, fun b hb => ?_⟩
    · have hi := (List.getElem?_eq_some_iff.1 hq).1
      have c1 := World.ownsRow.cellAt h0 i (by omega)
      rw [Nat.zero_add, c1]
      unfold cBytes
      rw [List.getElem?_map, hq]
      rfl
    · simp [World.frozen?, hh]
    · simp only [Value.ownBlock, Option.some.injEq] at hb; omega
theorem RowT.lv {w : World} {base : Nat} {v : Value} {l : List ByteArray} (h : RowT w base v l) : TLV w v l ∧ ∀ b, v.ownBlock = some b → base ≤ b := by
  have h0 := h
  obtain ⟨_, h1 | ⟨g, c, cur, rfl, hg, hh, _⟩⟩ := h
  · have e : l = [] := List.eq_nil_of_length_eq_zero h1.2
    exact ⟨.inl ⟨h1.1, e⟩, fun b hb => by rw [h1.1] at hb; cases hb⟩
  · refine ⟨.inr ⟨g, c, rfl, (Array.getElem?_eq_some_iff.1 hh).1, fun i q hq => ?_, fun o => ?_⟩, fun b hb => ?_⟩
    · have hi := (List.getElem?_eq_some_iff.1 hq).1
      have c1 := World.ownsRow.cellAt h0 i (by omega)
      rw [Nat.zero_add, c1]
      unfold cTexts
      rw [List.getElem?_map, hq]
      rfl
    · simp [World.frozen?, hh]
    · simp only [Value.ownBlock, Option.some.injEq] at hb; omega
theorem RowH.lv {w : World} {base : Nat} {v : Value} {l : List Hdr} (h : RowH w base v l) : HLV w v l ∧ ∀ b, v.ownBlock = some b → base ≤ b := OwnH.lv h
theorem BLV.below {w w' : World} {v : Value} {l : List UInt8} (h : BLV w v l) (hb : Below w.heap.size w w') : BLV w' v l := by
  rcases h with h | ⟨g, c, e, hg, hi, hf⟩
  · exact .inl h
  · exact .inr ⟨g, c, e, Nat.lt_of_lt_of_le hg hb.size, hi.keep hb, fun o => by rw [hb.frozen (p := ⟨g, o, none⟩) hg, hf]⟩
theorem BLV.av {w w' : World} {v v1 : Value} {l : List UInt8} (h : BLV w v1 l) (k : HAV v w w') (hne : ∀ b, v1.ownBlock = some b → v.ownBlock ≠ some b) : BLV w' v1 l := by
  rcases h with h | ⟨g, c, rfl, hg, hi, hf⟩
  · exact .inl h
  · have hn := hne g rfl
    exact .inr ⟨g, c, rfl, Nat.lt_of_lt_of_le hg k.size, fun i r hr => by rw [k.cell g _ hg hn]; exact hi i r hr, fun o => by rw [k.frozen g o hg hn, hf]⟩
theorem MarkB.hav {w w' : World} {v u : Value} {k n : Nat} (h : MarkB w v k n) (ha : HAV u w w') (hne : ∀ b, v.ownBlock = some b → u.ownBlock ≠ some b) : MarkB w' v k n := by
  rcases h with h | ⟨g, c, rfl, hg, hc⟩
  · exact .inl h
  · exact .inr ⟨g, c, rfl, Nat.lt_of_lt_of_le hg ha.size, fun i hi => by rw [ha.cell g i hg (hne g rfl)]; exact hc i hi⟩
/-! ### from any number on -/
theorem markHeaderS_lvk (w : World) (v : Value) (l : List Hdr) (k : Nat) (hk0 : 1 ≤ k) (hk : k ≤ 100000000000000) (hl : l.length ≤ 1048576) (h : HLV w v l) (base : Nat) (hb : ∀ b, v.ownBlock = some b → base ≤ b) (hbs : base ≤ w.heap.size) :
    Calls Tryz.prog 78 #[v, .int .i64 (k : Int)] w fun e w' => e = .returned (.int .i64 ((k + 2 * l.length : Nat) : Int)) ∧ HLV w' v (mkHL k l.length) ∧ HAV v w w' ∧ Below base w w' := by
  rcases h with ⟨rfl, rfl⟩ | ⟨g, c, rfl, hg, hi, hf⟩
  · exact (markHeaderS_nil w none 0 k).mono fun _ _ ⟨h1, h2⟩ => ⟨h1, .inl ⟨rfl, rfl⟩, .below h2, h2.mono hbs⟩
  · refine (markHeaderS_any w g 0 c l.length k l rfl hl hk0 hk hi hf hg).mono ?_
    rintro e w' ⟨h1, h2, h3, h4, h5⟩
    have hne : ∀ b, (Value.slice (some ⟨g, 0, none⟩) l.length c).ownBlock ≠ some b → b ≠ g := fun b hb e => hb (by subst e; rfl)
    refine ⟨h1, ?_, ⟨h3.size, fun b o hb hn => h3.cell b o hb (hne b hn), fun b o hb hn => h3.frozen b o hb (hne b hn)⟩, h4.mono (hb g rfl)⟩
    exact .inr ⟨g, c, by rw [mkHL_len], Nat.lt_of_lt_of_le hg h3.size, h2, h5⟩
theorem markStringS_lvk (w : World) (v : Value) (l : List ByteArray) (k : Nat) (hk0 : 1 ≤ k) (hk : k ≤ 100000000000000) (hl : l.length ≤ 1048576) (h : TLV w v l) (base : Nat) (hb : ∀ b, v.ownBlock = some b → base ≤ b) (hbs : base ≤ w.heap.size) :
    Calls Tryz.prog 80 #[v, .int .i64 (k : Int)] w fun e w' => e = .returned (.int .i64 ((k + l.length : Nat) : Int)) ∧ TLV w' v (mkTL k l.length) ∧ HAV v w w' ∧ Below base w w' := by
  rcases h with ⟨rfl, rfl⟩ | ⟨g, c, rfl, hg, hi, hf⟩
  · exact (markStringS_nil w none 0 k).mono fun _ _ ⟨h1, h2⟩ => ⟨h1, .inl ⟨rfl, rfl⟩, .below h2, h2.mono hbs⟩
  · refine (markStringS_any w g 0 c l.length k l rfl hl hk0 hk hi hf hg).mono ?_
    rintro e w' ⟨h1, h2, h3, h4, h5⟩
    have hne : ∀ b, (Value.slice (some ⟨g, 0, none⟩) l.length c).ownBlock ≠ some b → b ≠ g := fun b hb e => hb (by subst e; rfl)
    refine ⟨h1, ?_, ⟨h3.size, fun b o hb hn => h3.cell b o hb (hne b hn), fun b o hb hn => h3.frozen b o hb (hne b hn)⟩, h4.mono (hb g rfl)⟩
    exact .inr ⟨g, c, by rw [mkTL_len], Nat.lt_of_lt_of_le hg h3.size, h2, h5⟩
set_option maxHeartbeats 1000000 in
theorem markByteS_nil (w : World) (a : Option Addr) (c k : Nat) :
    Calls Tryz.prog 79 #[.slice a 0 c, .int .i64 (k : Int)] w fun e w' => e = .returned (.int .i64 (k : Int)) ∧ Below w.heap.size w w' := by
  go_enter Tryz.func79, Tryz.ntmps79
  go_wp2_with fail
  go_loop [1, 5] (fun x i => x = .int .i64 (k : Int) ∧ i = .int .i64 0) (fun _ _ => 0)
  case atStart => exact ⟨rfl, rfl⟩
  case round =>
    obtain ⟨rfl, rfl⟩ := hrel
    go_wp2_with fail
    go_ret
    exact ⟨rfl, Below.refl _ _⟩
set_option maxHeartbeats 1000000 in
theorem heldByteS_nil (w : World) (a : Option Addr) (c k : Nat) :
    Calls Tryz.prog 171 #[.slice a 0 c, .int .i64 (k : Int)] w fun e w' => e = .returned (.int .i64 (k : Int)) ∧ Below w.heap.size w w' := by
  go_enter Tryz.func171, Tryz.ntmps171
  go_wp2_with fail
  go_loop [1, 5] (fun x i => x = .int .i64 (k : Int) ∧ i = .int .i64 0) (fun _ _ => 0)
  case atStart => exact ⟨rfl, rfl⟩
  case round =>
    obtain ⟨rfl, rfl⟩ := hrel
    go_wp2_with fail
    go_ret
    exact ⟨rfl, Below.refl _ _⟩
theorem markByteS_lvk (w : World) (v : Value) (l : List UInt8) (k : Nat) (hk : k ≤ 100000000000000) (hl : l.length ≤ 1048576) (h : BLV w v l) (base : Nat) (hb : ∀ b, v.ownBlock = some b → base ≤ b) (hbs : base ≤ w.heap.size) :
    Calls Tryz.prog 79 #[v, .int .i64 (k : Int)] w fun e w' => e = .returned (.int .i64 ((k + l.length : Nat) : Int)) ∧ MarkB w' v k l.length ∧ HAV v w w' ∧ Below base w w' := by
  rcases h with ⟨rfl, rfl⟩ | ⟨g, c, rfl, hg, hi, hf⟩
  · exact (markByteS_nil w none 0 k).mono fun _ _ ⟨h1, h2⟩ => ⟨h1, .inl rfl, .below h2, h2.mono hbs⟩
  · refine (markByteS_row w g l.length c k base hl hk (hb g rfl) hg ?_).mono ?_
    · intro j hj
      have := hi j l[j] (List.getElem?_eq_getElem hj)
      rw [Nat.zero_add] at this
      exact ⟨⟨_, this⟩, hf j⟩
    · rintro e w' ⟨h1, h2, h3, h4⟩
      exact ⟨h1, h2, ⟨Nat.le_of_eq h3.size.symm, h3.cell, fun b o _ _ => h3.frozen b o⟩, h4⟩
theorem heldHeaderS_lvk (w : World) (v : Value) (n k : Nat) (hk0 : 1 ≤ k) (hk : k ≤ 100000000000000) (hl : n ≤ 1048576) (h : HLV w v (mkHL k n)) :
    Calls Tryz.prog 170 #[v, .int .i64 (k : Int)] w fun e w' => e = .returned (.int .i64 ((k + 2 * n : Nat) : Int)) ∧ Below w.heap.size w w' := by
  rcases h with ⟨rfl, h0⟩ | ⟨g, c, rfl, _, hi, _⟩
  · have e := congrArg List.length h0
    rw [mkHL_len] at e
    simp at e
    subst e
    exact heldHeaderS_nil w none 0 k
  · rw [mkHL_len]
    exact heldHeaderS_any w g 0 c n k hl hk0 hk hi
theorem heldStringS_lvk (w : World) (v : Value) (n k : Nat) (hk0 : 1 ≤ k) (hk : k ≤ 100000000000000) (hl : n ≤ 1048576) (h : TLV w v (mkTL k n)) :
    Calls Tryz.prog 81 #[v, .int .i64 (k : Int)] w fun e w' => e = .returned (.int .i64 ((k + n : Nat) : Int)) ∧ Below w.heap.size w w' := by
  rcases h with ⟨rfl, h0⟩ | ⟨g, c, rfl, _, hi, _⟩
  · have e := congrArg List.length h0
    rw [mkTL_len] at e
    simp at e
    subst e
    exact heldStringS_nil w none 0 k
  · rw [mkTL_len]
    exact heldStringS_any w g 0 c n k hl hk0 hk hi
theorem heldByteS_lvk (w : World) (a : Option Addr) (n c k : Nat) (hk : k ≤ 100000000000000) (hl : n ≤ 1048576) (h : MarkB w (.slice a n c) k n) :
    Calls Tryz.prog 171 #[.slice a n c, .int .i64 (k : Int)] w fun e w' => e = .returned (.int .i64 ((k + n : Nat) : Int)) ∧ Below w.heap.size w w' := by
  rcases h with rfl | ⟨g, c', e, _, hc⟩
  · exact heldByteS_nil w a c k
  · simp only [Value.slice.injEq] at e
    obtain ⟨rfl, _, rfl⟩ := e
    exact (heldByteS_row w g n c k hl hk hc).mono fun _ _ ⟨h1, h2⟩ => ⟨h1, h2 ▸ Below.refl _ _⟩
/-! ### an entry -/
structure EntLV (w : World) (base : Nat) (x : Ent) (r : EntR) : Prop where
  h : HLV w (.slice r.ha x.hs.length r.hc) x.hs
  b : BLV w (.slice r.ba x.bl.length r.bc) x.bl
  t : TLV w (.slice r.ta x.ts.length r.tc) x.ts
  gh : ∀ g, (Value.slice r.ha x.hs.length r.hc).ownBlock = some g → base ≤ g
  gb : ∀ g, (Value.slice r.ba x.bl.length r.bc).ownBlock = some g → base ≤ g
  gt : ∀ g, (Value.slice r.ta x.ts.length r.tc).ownBlock = some g → base ≤ g
  n1 : ∀ g, (Value.slice r.ha x.hs.length r.hc).ownBlock = some g → (Value.slice r.ba x.bl.length r.bc).ownBlock ≠ some g
  n2 : ∀ g, (Value.slice r.ha x.hs.length r.hc).ownBlock = some g → (Value.slice r.ta x.ts.length r.tc).ownBlock ≠ some g
  n3 : ∀ g, (Value.slice r.ba x.bl.length r.bc).ownBlock = some g → (Value.slice r.ta x.ts.length r.tc).ownBlock ≠ some g
  hc : x.hs.length ≤ r.hc
  bc : x.bl.length ≤ r.bc
  tc : x.ts.length ≤ r.tc
def Flat (v : Value) : Prop := ∃ n c, v = .slice none n c ∨ ∃ g, v = .slice (some ⟨g, 0, none⟩) n c
theorem flat_ne {a b : Option Addr} {n c m d : Nat} (ha : Flat (.slice a n c)) (hb : Flat (.slice b m d)) (h : a = none ∨ a ≠ b) : ∀ g, (Value.slice a n c).ownBlock = some g → (Value.slice b m d).ownBlock ≠ some g := by
  intro g h1 h2
  obtain ⟨_, _, e | ⟨g1, e⟩⟩ := ha
  · simp only [Value.slice.injEq] at e
    obtain ⟨rfl, _⟩ := e
    cases h1
  · obtain ⟨_, _, f | ⟨g2, f⟩⟩ := hb
    · simp only [Value.slice.injEq] at f
      obtain ⟨rfl, _⟩ := f
      cases h2
    · simp only [Value.slice.injEq] at e f
      obtain ⟨rfl, _⟩ := e
      obtain ⟨rfl, _⟩ := f
      simp only [Value.ownBlock, Option.some.injEq] at h1 h2
      subst h1 h2
      rcases h with h | h
      · cases h
      · exact h rfl
theorem HLV.flat {w : World} {v : Value} {l : List Hdr} (h : HLV w v l) : Flat v := by
  rcases h with ⟨rfl, _⟩ | ⟨g, c, rfl, _⟩
  · exact ⟨_, _, .inl rfl⟩
  · exact ⟨_, _, .inr ⟨g, rfl⟩⟩
theorem BLV.flat {w : World} {v : Value} {l : List UInt8} (h : BLV w v l) : Flat v := by
  rcases h with ⟨rfl, _⟩ | ⟨g, c, rfl, _⟩
  · exact ⟨_, _, .inl rfl⟩
  · exact ⟨_, _, .inr ⟨g, rfl⟩⟩
theorem TLV.flat {w : World} {v : Value} {l : List ByteArray} (h : TLV w v l) : Flat v := by
  rcases h with ⟨rfl, _⟩ | ⟨g, c, rfl, _⟩
  · exact ⟨_, _, .inl rfl⟩
  · exact ⟨_, _, .inr ⟨g, rfl⟩⟩
theorem EntRow.lv {w : World} {base : Nat} {x : Ent} {r : EntR} (h : EntRow w base x r) : EntLV w base x r := by
  obtain ⟨h1, g1⟩ := RowH.lv h.h
  obtain ⟨h2, g2⟩ := RowB.lv h.b
  obtain ⟨h3, g3⟩ := RowT.lv h.t
  have i := h.in
  exact ⟨h1, h2, h3, g1, g2, g3, flat_ne h1.flat h2.flat h.n1, flat_ne h1.flat h3.flat h.n2, flat_ne h2.flat h3.flat h.n3, i.hc, i.bc, i.tc⟩
theorem EntLV.below {w w' : World} {base : Nat} {x : Ent} {r : EntR} (h : EntLV w base x r) (hb : Below w.heap.size w w') : EntLV w' base x r :=
  ⟨h.h.below hb, h.b.below hb, h.t.below hb, h.gh, h.gb, h.gt, h.n1, h.n2, h.n3, h.hc, h.bc, h.tc⟩
theorem EntLV.above {w w' : World} {base hi : Nat} {x : Ent} {r : EntR} (h : EntLV w base x r) (k : Above hi w w') (hh : hi ≤ base) : EntLV w' base x r := by
  refine ⟨?_, ?_, ?_, h.gh, h.gb, h.gt, h.n1, h.n2, h.n3, h.hc, h.bc, h.tc⟩
  · have g0 := h.gh
    rcases h.h with h | ⟨g, c, e, hg, hi, hf⟩
    · exact .inl h
    · have hge : base ≤ g := g0 g (by rw [e]; rfl)
      exact .inr ⟨g, c, e, Nat.lt_of_lt_of_le hg k.size, fun i r hr => by rw [k.cell g _ (by omega) hg, k.cell g _ (by omega) hg]; exact hi i r hr, fun o => by rw [k.frozen g o (by omega) hg, hf]⟩
  · have g0 := h.gb
    rcases h.b with h | ⟨g, c, e, hg, hi, hf⟩
    · exact .inl h
    · have hge : base ≤ g := g0 g (by rw [e]; rfl)
      exact .inr ⟨g, c, e, Nat.lt_of_lt_of_le hg k.size, fun i r hr => by rw [k.cell g _ (by omega) hg]; exact hi i r hr, fun o => by rw [k.frozen g o (by omega) hg, hf]⟩
  · have g0 := h.gt
    rcases h.t with h | ⟨g, c, e, hg, hi, hf⟩
    · exact .inl h
    · have hge : base ≤ g := g0 g (by rw [e]; rfl)
      exact .inr ⟨g, c, e, Nat.lt_of_lt_of_le hg k.size, fun i r hr => by rw [k.cell g _ (by omega) hg]; exact hi i r hr, fun o => by rw [k.frozen g o (by omega) hg, hf]⟩
theorem EntLV.in {w : World} {base : Nat} {x : Ent} {r : EntR} (h : EntLV w base x r) : EntIn w x r := by
  refine ⟨?_, ?_, ?_, h.hc, h.bc, h.tc⟩
  · rcases h.h with ⟨_, e⟩ | ⟨g, c, e, hg, hi, hf⟩
    · exact .inl e
    · simp only [Value.slice.injEq] at e
      exact .inr ⟨g, 0, e.1, hi⟩
  · rcases h.b with ⟨_, e⟩ | ⟨g, c, e, hg, hi, hf⟩
    · exact .inl e
    · simp only [Value.slice.injEq] at e
      exact .inr ⟨g, 0, e.1, hi⟩
  · rcases h.t with ⟨_, e⟩ | ⟨g, c, e, hg, hi, hf⟩
    · exact .inl e
    · simp only [Value.slice.injEq] at e
      exact .inr ⟨g, 0, e.1, hi⟩
/-- What an entry's lists hold once they were marked. -/
structure EntHeld (w : World) (x : Ent) (r : EntR) : Prop where
  h : HLV w (.slice r.ha x.hs.length r.hc) (mkHL 1 x.hs.length)
  b : MarkB w (.slice r.ba x.bl.length r.bc) (1 + 2 * x.hs.length) x.bl.length
  t : TLV w (.slice r.ta x.ts.length r.tc) (mkTL (1 + 2 * x.hs.length + x.bl.length) x.ts.length)
theorem EntHeld.below {w w' : World} {x : Ent} {r : EntR} (h : EntHeld w x r) (hb : Below w.heap.size w w') : EntHeld w' x r := ⟨h.h.below hb, h.b.keep hb, h.t.below hb⟩
theorem HAV.above {v : Value} {hi : Nat} {w w' : World} (h : HAV v w w') (hv : ∀ g, v.ownBlock = some g → g < hi) : Above hi w w' :=
  ⟨h.size, fun b o h1 h2 => h.cell b o h2 (fun e => by have := hv b e; omega), fun b o h1 h2 => h.frozen b o h2 (fun e => by have := hv b e; omega)⟩
theorem BLV.block_lt {w : World} {v : Value} {l : List UInt8} (h : BLV w v l) : ∀ b, v.ownBlock = some b → b < w.heap.size := by
  rcases h with ⟨rfl, _⟩ | ⟨g, c, rfl, hg, _⟩
  · intro b hb; cases hb
  · intro b hb; simp only [Value.ownBlock, Option.some.injEq] at hb; omega
structure EntLt (hi : Nat) (x : Ent) (r : EntR) : Prop where
  h : ∀ g, (Value.slice r.ha x.hs.length r.hc).ownBlock = some g → g < hi
  b : ∀ g, (Value.slice r.ba x.bl.length r.bc).ownBlock = some g → g < hi
  t : ∀ g, (Value.slice r.ta x.ts.length r.tc).ownBlock = some g → g < hi
theorem EntLV.lts {w : World} {base : Nat} {x : Ent} {r : EntR} (h : EntLV w base x r) : EntLt w.heap.size x r := ⟨HLV.block_lt h.h, h.b.block_lt, h.t.block_lt⟩
theorem markLists (W : World) (base hi : Nat) (x : Ent) (r : EntR) (f1 : x.hs.length ≤ 1048576) (f2 : x.bl.length ≤ 1048576) (f3 : x.ts.length ≤ 1048576) (hw : base ≤ W.heap.size) (h : EntLV W base x r) (h0 : EntLt hi x r) :
    Calls Tryz.prog 78 #[.slice r.ha x.hs.length r.hc, .int .i64 1] W fun e w1 => e = .returned (.int .i64 ((1 + 2 * x.hs.length : Nat) : Int)) ∧ (Below base W w1 ∧ Above hi W w1) ∧ 
    Calls Tryz.prog 79 #[.slice r.ba x.bl.length r.bc, .int .i64 ((1 + 2 * x.hs.length : Nat) : Int)] w1 fun e w2 => e = .returned (.int .i64 ((1 + 2 * x.hs.length + x.bl.length : Nat) : Int)) ∧ (Below base w1 w2 ∧ Above hi w1 w2) ∧ 
    Calls Tryz.prog 80 #[.slice r.ta x.ts.length r.tc, .int .i64 ((1 + 2 * x.hs.length + x.bl.length : Nat) : Int)] w2 fun e w3 => e = .returned (.int .i64 ((1 + 2 * x.hs.length + x.bl.length + x.ts.length : Nat) : Int)) ∧ (Below base w2 w3 ∧ Above hi w2 w3) ∧ EntHeld w3 x r := by
  have ne : ∀ {u v : Value}, (∀ g, u.ownBlock = some g → v.ownBlock ≠ some g) → ∀ g, v.ownBlock = some g → u.ownBlock ≠ some g := fun hh g h1 h2 => hh g h2 h1
  refine (markHeaderS_lvk W _ x.hs 1 (by omega) (by omega) f1 h.h base h.gh (by omega)).mono ?_
  rintro e w1 ⟨rfl, a1, v1, b1⟩
  refine ⟨rfl, ⟨b1, v1.above h0.h⟩, ?_⟩
  have s1 := b1.size
  refine (markByteS_lvk w1 _ x.bl _ (by omega) f2 (h.b.av v1 (ne h.n1)) base h.gb (by omega)).mono ?_
  rintro e w2 ⟨rfl, a2, v2, b2⟩
  refine ⟨rfl, ⟨b2, v2.above h0.b⟩, ?_⟩
  have s2 := b2.size
  refine (markStringS_lvk w2 _ x.ts _ (by omega) (by omega) f3 ((h.t.av v1 (ne h.n2)).av v2 (ne h.n3)) base h.gt (by omega)).mono ?_
  rintro e w3 ⟨rfl, a3, v3, b3⟩
  exact ⟨rfl, ⟨b3, v3.above h0.t⟩, ⟨(a1.av v2 h.n1).av v3 h.n2, a2.hav v3 h.n3, a3⟩⟩
theorem heldLists (w : World) (x : Ent) (r : EntR) (f1 : x.hs.length ≤ 1048576) (f2 : x.bl.length ≤ 1048576) (f3 : x.ts.length ≤ 1048576) (h : EntHeld w x r) :
    Calls Tryz.prog 170 #[.slice r.ha x.hs.length r.hc, .int .i64 1] w fun e w1 => e = .returned (.int .i64 ((1 + 2 * x.hs.length : Nat) : Int)) ∧ Below w.heap.size w w1 ∧
    Calls Tryz.prog 171 #[.slice r.ba x.bl.length r.bc, .int .i64 ((1 + 2 * x.hs.length : Nat) : Int)] w1 fun e w2 => e = .returned (.int .i64 ((1 + 2 * x.hs.length + x.bl.length : Nat) : Int)) ∧ Below w1.heap.size w1 w2 ∧
    Calls Tryz.prog 81 #[.slice r.ta x.ts.length r.tc, .int .i64 ((1 + 2 * x.hs.length + x.bl.length : Nat) : Int)] w2 fun e w3 => e = .returned (.int .i64 ((1 + 2 * x.hs.length + x.bl.length + x.ts.length : Nat) : Int)) ∧ Below w2.heap.size w2 w3 := by
  refine (heldHeaderS_lvk w _ x.hs.length 1 (by omega) (by omega) f1 h.h).mono ?_
  rintro e w1 ⟨rfl, b1⟩
  refine ⟨rfl, b1, ?_⟩
  have h1 := h.below b1
  refine (heldByteS_lvk w1 _ _ _ _ (by omega) f2 h1.b).mono ?_
  rintro e w2 ⟨rfl, b2⟩
  refine ⟨rfl, b2, ?_⟩
  have h2 := h1.below b2
  exact heldStringS_lvk w2 _ _ _ (by omega) (by omega) f3 h2.t
end Go.Proofs.YtdooopkpnanekaaGreatDoor
/-
  Entries that a call itself grows: cells, appending.
-/
namespace Go.Proofs.YtdooopkpnanekaaGreatDoor
open Go.ChangeShapes Go.WideShapes Go.ChangeAt Go.RowKit Go.Sort
def entsW (l : List (Ent × EntR)) : List Value := l.flatMap (fun q => entW q.1 q.2)
theorem entsW_cons (q : Ent × EntR) (l : List (Ent × EntR)) : entsW (q :: l) = entW q.1 q.2 ++ entsW l := by simp [entsW]
theorem entsW_app (l m : List (Ent × EntR)) : entsW (l ++ m) = entsW l ++ entsW m := by simp [entsW]
theorem entW_len (x : Ent) (r : EntR) : (entW x r).length = 13 := rfl
theorem entsW_len (l : List (Ent × EntR)) : (entsW l).length = l.length * 13 := by
  induction l with
  | nil => rfl
  | cons r l ih => rw [entsW_cons, List.length_append, entW_len, ih, List.length_cons]; omega
theorem entsW_at (l : List (Ent × EntR)) : ∀ (i : Nat) q, l[i]? = some q → ∀ j, j < 13 → (entsW l)[i * 13 + j]? = (entW q.1 q.2)[j]? := by
  induction l with
  | nil => intro i r hr; simp at hr
  | cons x l ih =>
    intro i q hr j hj
    rw [entsW_cons]
    cases i with
    | zero =>
      simp at hr; subst hr
      rw [Nat.zero_mul, Nat.zero_add, List.getElem?_append_left (by rw [entW_len]; exact hj)]
    | succ i =>
      have := ih i q (by simpa using hr) j hj
      rw [List.getElem?_append_right (by rw [entW_len]; omega), entW_len, show (i + 1) * 13 + j - 13 = i * 13 + j from by omega]
      exact this
theorem entsW_cells {w : World} {b off : Nat} {l : List (Ent × EntR)} (h : EntsAt w b off l) : ∀ j u, (entsW l)[j]? = some u → w.cell? ((⟨b, off, none⟩ : Addr).add j) = some u := by
  intro j u hj
  have hadd : (⟨b, off, none⟩ : Addr).add j = ⟨b, off + j, none⟩ := by unfold Addr.add; split <;> simp_all
  rw [hadd]
  have hlt : j < (entsW l).length := (List.getElem?_eq_some_iff.1 hj).1
  rw [entsW_len] at hlt
  have hm : j / 13 * 13 + j % 13 = j := by omega
  obtain ⟨q, hr⟩ : ∃ r, l[j / 13]? = some r := ⟨l[j / 13]'(by omega), List.getElem?_eq_getElem _⟩
  have e := entsW_at l (j / 13) q hr (j % 13) (by omega)
  have c := (h (j / 13) q hr).1 (j % 13) (by omega)
  rw [hm] at e
  rw [Nat.add_assoc, hm] at c
  rw [c, ← e, hj]
theorem entsW_one (l : List (Ent × EntR)) : ∀ u ∈ entsW l, u.oneCell' = true := by
  intro u hu
  simp only [entsW, List.mem_flatMap] at hu
  obtain ⟨r, _, hr⟩ := hu
  simp only [entW, List.mem_cons, List.not_mem_nil, or_false] at hr
  rcases hr with rfl | rfl | rfl | rfl | rfl | rfl | rfl | rfl | rfl | rfl | rfl | rfl | rfl <;> rfl
/-- v, nil or not, holds the entries l in a row of the call's own, from block base on. -/
def OwnE (w : World) (base : Nat) (v : Value) (l : List (Ent × EntR)) : Prop := w.ownsRow base 52 13 v l.length (entsW l)
theorem OwnE.nil (w : World) (base : Nat) : OwnE w base (.slice none 0 0) [] := World.ownsRow_nil _ _ _ _
theorem OwnE.made0 (w : World) (base : Nat) (hb : base ≤ w.heap.size) : OwnE (w.alloc (.cells #[] 52)) base (.slice (some ⟨w.heap.size, 0, none⟩) 0 0) [] := World.ownsRow_made w #[] 0 hb (by unfold maxLen; omega) rfl
theorem OwnE.below {w w' : World} {base : Nat} {v : Value} {l : List (Ent × EntR)} (h : OwnE w base v l) (hb : Below w.heap.size w w') : OwnE w' base v l := by
  obtain ⟨h1, h2⟩ := h
  refine ⟨h1, ?_⟩
  rcases h2 with h2 | ⟨g, c, cur, e, hg, hh, hrest⟩
  · exact .inl h2
  · exact .inr ⟨g, c, cur, e, hg, by rw [hb.block g (Array.getElem?_eq_some_iff.1 hh).1]; exact hh, hrest⟩
theorem OwnE.lower {w : World} {b0 base : Nat} {v : Value} {l : List (Ent × EntR)} (h : OwnE w base v l) (hb : b0 ≤ base) : OwnE w b0 v l := by
  obtain ⟨h1, h2⟩ := h
  refine ⟨h1, ?_⟩
  rcases h2 with h2 | ⟨g, c, cur, e, hg, hrest⟩
  · exact .inl h2
  · exact .inr ⟨g, c, cur, e, by omega, hrest⟩
theorem OwnE.at {w : World} {base : Nat} {v : Value} {l : List (Ent × EntR)} (h : OwnE w base v l) (hin : ∀ q ∈ l, EntIn w q.1 q.2) : ∃ a c, v = .slice a l.length c ∧ l.length ≤ c ∧ EntsIn w a l := by
  have h0 := h
  obtain ⟨_, h1 | ⟨g, c, cur, rfl, _, _, hc, _⟩⟩ := h
  · have e : l = [] := List.eq_nil_of_length_eq_zero h1.2
    exact ⟨none, 0, by rw [h1.1, e]; rfl, by rw [e]; exact Nat.le_refl _, .inl e⟩
  · refine ⟨_, c, rfl, hc, .inr ⟨g, 0, rfl, fun i q hr => ⟨fun j hj => ?_, hin q (List.mem_of_getElem? hr)⟩⟩⟩
    have hi := (List.getElem?_eq_some_iff.1 hr).1
    have c1 := World.ownsRow.cellAt h0 (i * 13 + j) (by omega)
    rw [Nat.zero_add, c1, entsW_at l i q hr j hj]
theorem own_geE {w : World} {base : Nat} {v : Value} {l : List (Ent × EntR)} (h : OwnE w base v l) (q : Nat) (hq : v.ownBlock = some q) : base ≤ q := by
  obtain ⟨_, h | ⟨g, c, cur, rfl, hg, _⟩⟩ := h
  · rw [h.1] at hq; cases hq
  · simp only [Value.ownBlock, Option.some.injEq] at hq; omega
theorem append_zeroE {P : Program} (w : World) (t ty e : TypeId) (i : TypeInfo) (ht : P.underlying t = some (.slice e)) (hi : P.info? e = some i) (base : Option Addr) (n k : Nat) (hle : n ≤ k) (pb : Option Addr) (c : Nat) :
    (Builtin.append_ #[t, t] ty #[.slice base n k, .slice pb 0 c]).run P w = .ok (.slice base n k) w := by
  cases base <;> cases pb <;> simp [Builtin.append_, run_underlying ht, sizeOf, typeInfo, hi, Builtin.lenOf, Builtin.firstCells, hle, storeCells, loadCells, loadCellsFrom]
theorem OwnE.form {w : World} {base : Nat} {v : Value} {l : List (Ent × EntR)} (h : OwnE w base v l) : ∃ va vc, v = .slice va l.length vc ∧ l.length ≤ vc := by
  obtain ⟨_, h1 | ⟨g, c2, cur, e2, _, _, hc2, _⟩⟩ := h
  · have e : l = [] := List.eq_nil_of_length_eq_zero h1.2
    subst e
    exact ⟨none, 0, h1.1, Nat.le_refl _⟩
  · exact ⟨_, c2, e2, hc2⟩
theorem wp_append_entsIn {o : Oper} {a : Act} {K : Act → World → Prop} {Q : Exit → Act → World → Prop} (w : World) (s x : Operand)
    (ho : o.op = .call { callee := .builtin .append, args := #[s, x], argTypes := #[26, 26] })
    (base : Nat) (v : Value) (l0 : List (Ent × EntR)) (pa : Option Addr) (cap m : Nat) (l : List (Ent × EntR)) (hm : l.length = m)
    (hs : a.eval s = v) (hown : OwnE w base v l0) (hx : a.eval x = .slice pa m cap) (hat : EntsIn w pa l) (hl : l0.length + m ≤ 1000000) (hbase : base ≤ w.heap.size)
    (h : ∀ v' w', OwnE w' base v' (l0 ++ l) → Below base w w' → K (a.put o.dst v') w') :
    Oper.wp Tryz.prog o a w K Q := by
  obtain ⟨i0, hi, hz0, hz1, hz2⟩ := info_parts infoEntry
  rcases hat with rfl | ⟨b, off, rfl, hat⟩
  · obtain ⟨va, vc, rfl, hle⟩ := hown.form
    simp only [List.length_nil] at hm
    subst hm
    unfold Oper.wp execOp
    simp only [ho, resolve, invoke, builtin, Sem.run_bind, Sem.run_pure, Result.andThen_ok, List.map_toArray, List.map_cons, List.map_nil, hs, hx]
    rw [append_zeroE w 26 _ 52 i0 Tryz.underlying26 hi va l0.length vc hle pa cap]
    exact h _ w (by simpa using hown) (Below.refl _ _)
  · by_cases h0 : 0 < m
    · refine wp_append_lies w s x 26 ho base 52 i0 _ 13 152 Tryz.underlying26 hi hz0 hz1 hz2 rfl (by omega) v l0.length (entsW l0) hs hown ⟨b, off, none⟩ m cap (entsW l) hx (by rw [entsW_len, hm]) (entsW_cells hat) (entsW_one l) h0 (by unfold maxLen; omega) (by omega) hbase _ rfl ?_
      intro g c w' h1 h2 h3 h4
      refine h _ w' ?_ ((Below.refl base w).grown h2 hbase (fun q hq => own_geE hown q hq))
      unfold OwnE
      rw [entsW_app, List.length_append, hm]
      exact h1
    · have : m = 0 := by omega
      subst this
      have : l = [] := List.eq_nil_of_length_eq_zero hm
      subst this
      obtain ⟨va, vc, rfl, hle⟩ := hown.form
      unfold Oper.wp execOp
      simp only [ho, resolve, invoke, builtin, Sem.run_bind, Sem.run_pure, Result.andThen_ok, List.map_toArray, List.map_cons, List.map_nil, hs, hx]
      rw [append_zeroE w 26 _ 52 i0 Tryz.underlying26 hi va l0.length vc hle _ cap]
      exact h _ w (by simpa using hown) (Below.refl _ _)
theorem step_append_entsIn {ops : Array Oper} {o : Oper} {a : Act} {K : Act → World → Prop} {Q : Exit → Act → World → Prop} {E : Prop} (w : World) (hgd : o.guard = none) (s x : Operand)
    (ho : o.op = .call { callee := .builtin .append, args := #[s, x], argTypes := #[26, 26] })
    (base : Nat) (v : Value) (l0 : List (Ent × EntR)) (pa : Option Addr) (cap m : Nat) (l : List (Ent × EntR)) (hm : l.length = m)
    (hs : a.eval s = v) (hown : OwnE w base v l0) (hx : a.eval x = .slice pa m cap) (hat : EntsIn w pa l) (hl : l0.length + m ≤ 1000000) (hbase : base ≤ w.heap.size)
    (h : ∀ v' w', OwnE w' base v' (l0 ++ l) → Below base w w' → K (a.put o.dst v') w') :
    if Region.wanted o (yielded ops a.tmps) = true then Oper.wp Tryz.prog o a w K Q else E := by
  have hw : Region.wanted o (yielded ops a.tmps) = true := by simp [Region.wanted, hgd]
  rw [if_pos hw]
  exact wp_append_entsIn w s x ho base v l0 pa cap m l hm hs hown hx hat hl hbase h
theorem wpList_append_entsIn {ops : Array Oper} {rest : List Oper} {o : Oper} {a : Act} {Q : Exit → Act → World → Prop} (w : World) (hgd : o.guard = none) (s x : Operand)
    (ho : o.op = .call { callee := .builtin .append, args := #[s, x], argTypes := #[26, 26] })
    (base : Nat) (v : Value) (l0 : List (Ent × EntR)) (pa : Option Addr) (cap m : Nat) (l : List (Ent × EntR)) (hm : l.length = m)
    (hs : a.eval s = v) (hown : OwnE w base v l0) (hx : a.eval x = .slice pa m cap) (hat : EntsIn w pa l) (hl : l0.length + m ≤ 1000000) (hbase : base ≤ w.heap.size)
    (h : ∀ v' w', OwnE w' base v' (l0 ++ l) → Below base w w' → wpList Tryz.prog ops Q rest (a.put o.dst v') w') :
    wpList Tryz.prog ops Q (o :: rest) a w :=
  wpList_plain hgd fun _ hK => wp_append_entsIn w s x ho base v l0 pa cap m l hm hs hown hx hat hl hbase fun v' w' h1 h2 => hK _ _ (h v' w' h1 h2)
end Go.Proofs.YtdooopkpnanekaaGreatDoor
/-
  Entries of one's own, their lists with them: no two share memory.
-/
namespace Go.Proofs.YtdooopkpnanekaaGreatDoor
open Go.ChangeShapes Go.WideShapes Go.ChangeAt Go.RowKit Go.Sort
/-- The blocks of an entry's lists. -/
def rblk (r : EntR) : List Nat := r.ha.toList.map Addr.block ++ (r.ba.toList.map Addr.block ++ r.ta.toList.map Addr.block)
theorem EntLV.nd {w : World} {base : Nat} {x : Ent} {r : EntR} (h : EntLV w base x r) : (rblk r).Nodup := by
  have n1 := h.n1
  have n2 := h.n2
  have n3 := h.n3
  obtain ⟨ha, hc, ba, bc, ta, tc⟩ := r
  clear h
  cases ha <;> cases ba <;> cases ta <;> simp [rblk, Value.ownBlock] at n1 n2 n3 ⊢ <;> omega
theorem mem_rblk {r : EntR} {b : Nat} (h : b ∈ rblk r) : (∃ p, r.ha = some p ∧ p.block = b) ∨ (∃ p, r.ba = some p ∧ p.block = b) ∨ (∃ p, r.ta = some p ∧ p.block = b) := by
  simpa [rblk] using h
theorem EntLt.mem {hi : Nat} {x : Ent} {r : EntR} (h : EntLt hi x r) {b : Nat} (hb : b ∈ rblk r) : b < hi := by
  rcases mem_rblk hb with ⟨p, e, rfl⟩ | ⟨p, e, rfl⟩ | ⟨p, e, rfl⟩
  · exact h.h _ (by rw [e]; rfl)
  · exact h.b _ (by rw [e]; rfl)
  · exact h.t _ (by rw [e]; rfl)
theorem EntLV.ge {w : World} {base : Nat} {x : Ent} {r : EntR} (h : EntLV w base x r) {b : Nat} (hb : b ∈ rblk r) : base ≤ b := by
  rcases mem_rblk hb with ⟨p, e, rfl⟩ | ⟨p, e, rfl⟩ | ⟨p, e, rfl⟩
  · exact h.gh _ (by rw [e]; rfl)
  · exact h.gb _ (by rw [e]; rfl)
  · exact h.gt _ (by rw [e]; rfl)
theorem EntLV.lower {w : World} {base b0 : Nat} {x : Ent} {r : EntR} (h : EntLV w base x r) (hb : b0 ≤ base) : EntLV w b0 x r :=
  ⟨h.h, h.b, h.t, fun g e => Nat.le_trans hb (h.gh g e), fun g e => Nat.le_trans hb (h.gb g e), fun g e => Nat.le_trans hb (h.gt g e), h.n1, h.n2, h.n3, h.hc, h.bc, h.tc⟩
theorem EntLV.far {w w' : World} {base : Nat} {x : Ent} {r : EntR} (h : EntLV w base x r) (hs : w.heap.size ≤ w'.heap.size) (hc : ∀ b ∈ rblk r, b < w.heap.size → ∀ o, w'.cell? ⟨b, o, none⟩ = w.cell? ⟨b, o, none⟩ ∧ w'.frozen? ⟨b, o, none⟩ = w.frozen? ⟨b, o, none⟩) : EntLV w' base x r := by
  refine ⟨?_, ?_, ?_, h.gh, h.gb, h.gt, h.n1, h.n2, h.n3, h.hc, h.bc, h.tc⟩
  · rcases h.h with h | ⟨g, c, e, hg, hi, hf⟩
    · exact .inl h
    · have hm : g ∈ rblk r := by simp only [Value.slice.injEq] at e; simp [rblk, e.1]
      exact .inr ⟨g, c, e, Nat.lt_of_lt_of_le hg hs, fun i r hr => by rw [(hc g hm hg _).1, (hc g hm hg _).1]; exact hi i r hr, fun o => by rw [(hc g hm hg o).2, hf]⟩
  · rcases h.b with h | ⟨g, c, e, hg, hi, hf⟩
    · exact .inl h
    · have hm : g ∈ rblk r := by simp only [Value.slice.injEq] at e; simp [rblk, e.1]
      exact .inr ⟨g, c, e, Nat.lt_of_lt_of_le hg hs, fun i r hr => by rw [(hc g hm hg _).1]; exact hi i r hr, fun o => by rw [(hc g hm hg o).2, hf]⟩
  · rcases h.t with h | ⟨g, c, e, hg, hi, hf⟩
    · exact .inl h
    · have hm : g ∈ rblk r := by simp only [Value.slice.injEq] at e; simp [rblk, e.1]
      exact .inr ⟨g, c, e, Nat.lt_of_lt_of_le hg hs, fun i r hr => by rw [(hc g hm hg _).1]; exact hi i r hr, fun o => by rw [(hc g hm hg o).2, hf]⟩
def foot (l : List (Ent × EntR)) : List Nat := l.flatMap fun q => rblk q.2
theorem foot_app (l m : List (Ent × EntR)) : foot (l ++ m) = foot l ++ foot m := by simp [foot]
theorem foot_one (q : Ent × EntR) : foot [q] = rblk q.2 := by simp [foot]
/-- v holds the entries l; all of it is its holder's own, from block base on. -/
structure EntsO (w : World) (base : Nat) (v : Value) (l : List (Ent × EntR)) : Prop where
  own : OwnE w base v l
  rows : ∀ q ∈ l, EntLV w base q.1 q.2
  nd : (v.ownBlock.toList ++ foot l).Nodup
theorem EntsO.below {w w' : World} {base : Nat} {v : Value} {l : List (Ent × EntR)} (h : EntsO w base v l) (hb : Below w.heap.size w w') : EntsO w' base v l :=
  ⟨h.own.below hb, fun q hq => (h.rows q hq).below hb, h.nd⟩
theorem EntsO.lt {w : World} {base : Nat} {v : Value} {l : List (Ent × EntR)} (h : EntsO w base v l) {b : Nat} (hb : b ∈ v.ownBlock.toList ++ foot l) : b < w.heap.size := by
  rcases List.mem_append.1 hb with hb | hb
  · simp only [Option.mem_toList] at hb
    exact (World.ownsRow.lt h.own b hb).2
  · obtain ⟨q, hq, hb⟩ := List.mem_flatMap.1 hb
    exact (h.rows q hq).lts.mem hb
theorem EntsO.nil (w : World) (base : Nat) (hb : base ≤ w.heap.size) : EntsO (w.alloc (.cells #[] 52)) base (.slice (some ⟨w.heap.size, 0, none⟩) 0 0) [] :=
  ⟨OwnE.made0 w base hb, fun q hq => by simp at hq, by simp [foot, Value.ownBlock]⟩
theorem EntsO.app {w1 w2 w3 : World} {base H0 g cap : Nat} {v : Value} {m : List (Ent × EntR)} {x : Ent} {r : EntR} (h : EntsO w1 base v m) (hx : EntLV w1 H0 x r) (hH : base ≤ H0) (hlt : ∀ b ∈ v.ownBlock.toList ++ foot m, b < H0) (h12 : Below w1.heap.size w1 w2)
    (hrow : w3.ownsRow base 52 13 (.slice (some ⟨g, 0, none⟩) (m.length + 1) cap) (m.length + 1) (entsW m ++ entW x r)) (hg : w2.grownBy w3 v.ownBlock) (hs : w2.heap.size ≤ w3.heap.size) (hv : v.ownBlock = some g ∨ g = w2.heap.size) : EntsO w3 base (.slice (some ⟨g, 0, none⟩) (m.length + 1) cap) (m ++ [(x, r)]) := by
  have nd := List.nodup_append.1 h.nd
  have far : ∀ b, b < w2.heap.size → v.ownBlock ≠ some b → ∀ o, w3.cell? ⟨b, o, none⟩ = w2.cell? ⟨b, o, none⟩ ∧ w3.frozen? ⟨b, o, none⟩ = w2.frozen? ⟨b, o, none⟩ := fun b hb hne o => ⟨hg.cell_far ⟨b, o, none⟩ hb hne.symm, hg.frozen_far ⟨b, o, none⟩ hb hne.symm⟩
  have s12 := h12.size
  refine ⟨?_, ?_, ?_⟩
  · unfold OwnE
    rw [entsW_app]
    simpa [entsW] using hrow
  · intro q hq
    rcases List.mem_append.1 hq with hq | hq
    · refine ((h.rows q hq).below h12).far hs fun b hb hb2 => far b hb2 fun e => ?_
      exact nd.2.2 b (by simp [e]) b (List.mem_flatMap.2 ⟨q, hq, hb⟩) rfl
    · simp only [List.mem_singleton] at hq
      subst hq
      refine ((hx.lower hH).below h12).far hs fun b hb hb2 => far b hb2 fun e => ?_
      have := hx.ge hb
      have := hlt b (List.mem_append.2 (.inl (by simp [e])))
      omega
  · rw [foot_app, foot_one]
    have hgb : g ∉ foot m ++ rblk r := by
      intro hm
      rcases List.mem_append.1 hm with hm | hm
      · rcases hv with hv | rfl
        · exact nd.2.2 g (by simp [hv]) g hm rfl
        · have := h.lt (List.mem_append.2 (.inr hm))
          omega
      · rcases hv with hv | rfl
        · have := hx.ge hm
          have := hlt g (List.mem_append.2 (.inl (by simp [hv])))
          omega
        · have := hx.lts.mem hm
          omega
    have hnd : (foot m ++ rblk r).Nodup := List.nodup_append.2 ⟨nd.2.1, hx.nd, fun a ha b hb e => by
      subst e
      have := hx.ge hb
      have := hlt a (List.mem_append.2 (.inr ha))
      omega⟩
    show ([g] ++ (foot m ++ rblk r)).Nodup
    exact List.nodup_cons.2 ⟨hgb, hnd⟩
end Go.Proofs.YtdooopkpnanekaaGreatDoor
/-
  Entries copied, by the model.
-/
namespace Go.Proofs.YtdooopkpnanekaaGreatDoor
open Go.ChangeShapes Go.WideShapes Go.ChangeAt Go.RowKit Go.Sort
theorem entW_cells (w : World) (x : Ent) (r : EntR) (t : TypeId) : ∀ j u, (entW x r)[j]? = some u → (w.alloc (.cells #[.string x.key, .int .i64 x.st, .slice r.ha x.hs.length r.hc, .slice r.ba x.bl.length r.bc, .int .i64 x.t, .int .i64 x.g, .int .i64 x.l, .int .i64 x.s, .int .i64 x.e, .bool x.b1, .bool x.b2, .slice r.ta x.ts.length r.tc, .int .i64 x.pins] t)).cell? ((⟨w.heap.size, 0, none⟩ : Addr).add j) = some u := by
  intro j u hj
  have e := E13.new w (.string x.key) (.int .i64 x.st) (.slice r.ha x.hs.length r.hc) (.slice r.ba x.bl.length r.bc) (.int .i64 x.t) (.int .i64 x.g) (.int .i64 x.l) (.int .i64 x.s) (.int .i64 x.e) (.bool x.b1) (.bool x.b2) (.slice r.ta x.ts.length r.tc) (.int .i64 x.pins) t
  have hlt : j < 13 := by have := (List.getElem?_eq_some_iff.1 hj).1; rw [entW_len] at this; exact this
  rw [cadd, Nat.zero_add]
  have : j = 0 ∨ j = 1 ∨ j = 2 ∨ j = 3 ∨ j = 4 ∨ j = 5 ∨ j = 6 ∨ j = 7 ∨ j = 8 ∨ j = 9 ∨ j = 10 ∨ j = 11 ∨ j = 12 := by omega
  rcases this with rfl | rfl | rfl | rfl | rfl | rfl | rfl | rfl | rfl | rfl | rfl | rfl | rfl
  · exact e.c0.trans hj
  · exact e.c1.trans hj
  · exact e.c2.trans hj
  · exact e.c3.trans hj
  · exact e.c4.trans hj
  · exact e.c5.trans hj
  · exact e.c6.trans hj
  · exact e.c7.trans hj
  · exact e.c8.trans hj
  · exact e.c9.trans hj
  · exact e.c10.trans hj
  · exact e.c11.trans hj
  · exact e.c12.trans hj
theorem entW_one (x : Ent) (r : EntR) : ∀ u ∈ entW x r, u.oneCell' = true := fun u hu => entsW_one [(x, r)] u (by simpa [entsW] using hu)
theorem take_next {α : Type} {l : List α} {k : Nat} {q : α} (h : l[k]? = some q) : l.take (k + 1) = l.take k ++ [q] := by
  rw [List.take_add_one, h]; rfl
set_option maxRecDepth 100000 in
set_option maxHeartbeats 8000000 in
theorem l8Copies_any (w : World) (a : Option Addr) (cap : Nat) (l : List (Ent × EntR)) (hl : l.length ≤ 1048576) (hf : ∀ q ∈ l, EntFit q.1) (hi : EntsIn w a l) :
    Calls Tryz.prog 129 #[.slice a l.length cap] w fun e w' => (∃ v m, e = .returned v ∧ m.map Prod.fst = l.map Prod.fst ∧ EntsO w' w.heap.size v m) ∧ Below w.heap.size w w' := by
  obtain ⟨i0, hi0, hz0, hz1, hz2⟩ := info_parts infoEntry
  have HI : Hid (EntsIn w a l) := hi
  have HC : Hid (∀ k q, l[k]? = some q → ∃ b off, a = some ⟨b, off, none⟩ ∧ ∀ X, Below w.heap.size w X → Calls Tryz.prog 130 #[.pointer (some ⟨b, off + k * 13, none⟩)] X fun e w' => (∃ r, e = .returned (.agg #[.string q.1.key, .int .i64 q.1.st, .slice r.ha q.1.hs.length r.hc, .slice r.ba q.1.bl.length r.bc, .int .i64 q.1.t, .int .i64 q.1.g, .int .i64 q.1.l, .int .i64 q.1.s, .int .i64 q.1.e, .bool q.1.b1, .bool q.1.b2, .slice r.ta q.1.ts.length r.tc, .int .i64 q.1.pins]) ∧ EntLV w' X.heap.size q.1 r) ∧ Below X.heap.size X w') := fun k q hq => by
    rcases hi with rfl | ⟨b, off, rfl, ha⟩
    · simp at hq
    · refine ⟨b, off, rfl, fun X hX => ?_⟩
      have hfq := hf q (List.mem_of_getElem? hq)
      have hk := (ha.keep hX) k q hq
      refine (l8ECopy_at X ⟨b, off + k * 13, q.1, q.2⟩ hfq.h hfq.b hfq.t ⟨hk.1, hk.2⟩).mono ?_
      rintro e w' ⟨⟨r, rfl, hr⟩, hb⟩
      exact ⟨⟨r, rfl, hr.lv⟩, hb⟩
  have HS : Hid (∃ m : List (Ent × EntR), m.map Prod.fst = (l.take 0).map Prod.fst ∧ EntsO (w.alloc (.cells #[] 52)) w.heap.size (.slice (some ⟨w.heap.size, 0, none⟩) 0 0) m ∧ Below w.heap.size w (w.alloc (.cells #[] 52))) := ⟨[], by simp, EntsO.nil w _ (Nat.le_refl _), (Below.refl _ _).alloc (Nat.le_refl _) _⟩
  clear hi hf
  obtain ⟨n, hn0⟩ : ∃ n, l.length = n := ⟨_, rfl⟩
  rw [hn0] at hl ⊢
  have HN : Hid (l.length = n) := hn0
  clear hn0
  go_enter Tryz.func129, Tryz.ntmps129
  go_wp2_with fail
  go_loopw [3, 4] (fun v i wr => ∃ k : Nat, k ≤ n ∧ i = .int .i64 (k : Int) ∧ ∃ m : List (Ent × EntR), m.map Prod.fst = (l.take k).map Prod.fst ∧ EntsO wr w.heap.size v m ∧ Below w.heap.size w wr) (fun _ i _ => n - (intOf i).toNat)
  case atStart => exact ⟨0, Nat.zero_le _, rfl, HS.out⟩
  case round =>
    obtain ⟨k, hk, rfl, m, hm, ho, hb⟩ := hrel
    clear HS
    by_cases hlt : k < n
    · obtain ⟨q, hq⟩ : ∃ r, l[k]? = some r := ⟨l[k]'(by have := HN.out; omega), List.getElem?_eq_getElem _⟩
      have hml : m.length = k := by
        have := congrArg List.length hm
        rw [List.length_map, List.length_map, List.length_take] at this
        have := HN.out
        omega
      obtain ⟨b, off, rfl, hc⟩ := HC.out k q hq
      obtain ⟨va, vc, rfl, hvc⟩ := row_form ho.own
      rw [hml] at ho hvc ⊢
      have HQ : Hid (l[k]? = some q ∧ m.map Prod.fst = (l.take k).map Prod.fst ∧ m.length = k ∧ EntsO wr w.heap.size (.slice va k vc) m ∧ Below w.heap.size w wr) := ⟨hq, hm, hml, ho, hb⟩
      have CC := hc wr hb
      obtain ⟨x, hx⟩ : ∃ x, q.1 = x := ⟨_, rfl⟩
      have HX : Hid (q.1 = x) := hx
      rw [hx] at CC
      have gk : (k : Int) < n := by omega
      have gk0 : (0 : Int) ≤ k := by omega
      have cal : (⟨b, off, none⟩ : Addr).add (k * 13) = ⟨b, off + k * 13, none⟩ := cadd _ _ _
      clear hc hq hm hml ho hb hx
      go_wp2_with fail
      refine CC.mono ?_
      rintro e w1 ⟨⟨r, rfl, hr⟩, hb1⟩
      have O1 := HQ.out.2.2.2.1.below hb1
      have s1 := hb1.size
      have K2 : Below w1.heap.size w1 (w1.alloc (.cells #[.string x.key, .int .i64 x.st, .slice r.ha x.hs.length r.hc, .slice r.ba x.bl.length r.bc, .int .i64 x.t, .int .i64 x.g, .int .i64 x.l, .int .i64 x.s, .int .i64 x.e, .bool x.b1, .bool x.b2, .slice r.ta x.ts.length r.tc, .int .i64 x.pins] 52)) := (Below.refl _ _).alloc (Nat.le_refl _) _
      have O2 : Hid ((w1.alloc (.cells #[.string x.key, .int .i64 x.st, .slice r.ha x.hs.length r.hc, .slice r.ba x.bl.length r.bc, .int .i64 x.t, .int .i64 x.g, .int .i64 x.l, .int .i64 x.s, .int .i64 x.e, .bool x.b1, .bool x.b2, .slice r.ta x.ts.length r.tc, .int .i64 x.pins] 52)).ownsRow w.heap.size 52 13 (.slice va k vc) k (entsW m)) := by
        have := (O1.below K2).own
        unfold OwnE at this
        rw [HQ.out.2.2.1] at this
        exact this
      have s2 : Hid (w.heap.size ≤ (w1.alloc (.cells #[.string x.key, .int .i64 x.st, .slice r.ha x.hs.length r.hc, .slice r.ba x.bl.length r.bc, .int .i64 x.t, .int .i64 x.g, .int .i64 x.l, .int .i64 x.s, .int .i64 x.e, .bool x.b1, .bool x.b2, .slice r.ta x.ts.length r.tc, .int .i64 x.pins] 52)).heap.size) := by show _ ≤ _; have := K2.size; have := HQ.out.2.2.2.2.size; omega
      have HA : Hid (∀ g cap w3, w3.ownsRow w.heap.size 52 13 (.slice (some ⟨g, 0, none⟩) (k + 1) cap) (k + 1) (entsW m ++ entW x r) → (w1.alloc (.cells #[.string x.key, .int .i64 x.st, .slice r.ha x.hs.length r.hc, .slice r.ba x.bl.length r.bc, .int .i64 x.t, .int .i64 x.g, .int .i64 x.l, .int .i64 x.s, .int .i64 x.e, .bool x.b1, .bool x.b2, .slice r.ta x.ts.length r.tc, .int .i64 x.pins] 52)).grownBy w3 (Value.slice va k vc).ownBlock → ((Value.slice va k vc).ownBlock = some g ∨ g = (w1.alloc (.cells #[.string x.key, .int .i64 x.st, .slice r.ha x.hs.length r.hc, .slice r.ba x.bl.length r.bc, .int .i64 x.t, .int .i64 x.g, .int .i64 x.l, .int .i64 x.s, .int .i64 x.e, .bool x.b1, .bool x.b2, .slice r.ta x.ts.length r.tc, .int .i64 x.pins] 52)).heap.size) → ∃ m' : List (Ent × EntR), m'.map Prod.fst = (l.take (k + 1)).map Prod.fst ∧ EntsO w3 w.heap.size (.slice (some ⟨g, 0, none⟩) (k + 1) cap) m' ∧ Below w.heap.size w w3) := fun g cap w3 h1 h2 h3 => by
        obtain ⟨hq, hm, hml, ho, hb⟩ := HQ.out
        have hbase := hb.size
        have hB : Below w.heap.size (w1.alloc (.cells #[.string x.key, .int .i64 x.st, .slice r.ha x.hs.length r.hc, .slice r.ba x.bl.length r.bc, .int .i64 x.t, .int .i64 x.g, .int .i64 x.l, .int .i64 x.s, .int .i64 x.e, .bool x.b1, .bool x.b2, .slice r.ta x.ts.length r.tc, .int .i64 x.pins] 52)) w3 := (Below.refl _ _).grown h2 s2.out (fun q hq => row_ge O2.out q hq)
        refine ⟨m ++ [(x, r)], ?_, ?_, (hb.trans ((hb1.trans (K2.mono s1)).mono hbase)).trans hB⟩
        · rw [List.map_append, take_next hq, List.map_append, hm]
          simp [HX.out]
        · have := EntsO.app (g := g) (cap := cap) O1 hr hbase (fun b hb => ho.lt hb) K2 (by rw [hml]; exact h1) h2 hB.size h3
          rw [hml] at this
          exact this
      have HW : Hid (∀ j u, (entW x r)[j]? = some u → (w1.alloc (.cells #[.string x.key, .int .i64 x.st, .slice r.ha x.hs.length r.hc, .slice r.ba x.bl.length r.bc, .int .i64 x.t, .int .i64 x.g, .int .i64 x.l, .int .i64 x.s, .int .i64 x.e, .bool x.b1, .bool x.b2, .slice r.ta x.ts.length r.tc, .int .i64 x.pins] 52)).cell? ((⟨w1.heap.size, 0, none⟩ : Addr).add j) = some u) := entW_cells w1 x r _
      clear CC O1 K2 hr hb1 s1
      go_wp2_with (at_builtin; refine wpList_append_lies _ rfl (.tmp 12) (.tmp 17) 26 rfl w.heap.size 52 i0 _ 13 152 Tryz.underlying26 hi0 hz0 hz1 hz2 rfl (by omega) _ k (entsW m) rfl O2.out _ 1 1 (entW x r) rfl rfl HW.out (entW_one x r) (by omega) (by unfold maxLen; omega) (by omega) s2.out _ rfl ?_; intro g cp w3 h1 h2 h3 h4)
      go_roundw
      case rel => exact ⟨k + 1, by omega, by go_num, HA.out _ _ _ h1 h2 h3⟩
      case measure => simp [intOf]; omega
    · have ek : k = n := by omega
      subst ek
      obtain ⟨va, vc, rfl, _⟩ := row_form ho.own
      have HE : Hid ((∃ v' m', Ending.returned (.slice va m.length vc) = .returned v' ∧ m'.map Prod.fst = l.map Prod.fst ∧ EntsO wr w.heap.size v' m') ∧ Below w.heap.size w wr) := ⟨⟨_, m, rfl, by rw [hm, List.take_of_length_le (by have := HN.out; omega)], ho⟩, hb⟩
      clear hm ho hb HC
      go_wp2_with fail
      go_ret
      exact HE.out
end Go.Proofs.YtdooopkpnanekaaGreatDoor
/-
  A store copied, by the model.
-/
namespace Go.Proofs.YtdooopkpnanekaaGreatDoor
open Go.ChangeShapes Go.WideShapes Go.ChangeAt Go.RowKit Go.Sort
/-- Two lists of one's own that share no memory. -/
structure StoO (w : World) (base : Nat) (v1 v2 : Value) (l1 l2 : List (Ent × EntR)) : Prop where
  t : EntsO w base v1 l1
  k : EntsO w base v2 l2
  nd : ∀ b ∈ v1.ownBlock.toList ++ foot l1, b ∉ v2.ownBlock.toList ++ foot l2
theorem StoO.below {w w' : World} {base : Nat} {v1 v2 : Value} {l1 l2 : List (Ent × EntR)} (h : StoO w base v1 v2 l1 l2) (hb : Below w.heap.size w w') : StoO w' base v1 v2 l1 l2 := ⟨h.t.below hb, h.k.below hb, h.nd⟩
theorem EntsO.ge {w : World} {base : Nat} {v : Value} {l : List (Ent × EntR)} (h : EntsO w base v l) {b : Nat} (hb : b ∈ v.ownBlock.toList ++ foot l) : base ≤ b := by
  rcases List.mem_append.1 hb with hb | hb
  · simp only [Option.mem_toList] at hb
    exact (World.ownsRow.lt h.own b hb).1
  · obtain ⟨q, hq, hb⟩ := List.mem_flatMap.1 hb
    exact (h.rows q hq).ge hb
theorem EntsO.lower {w : World} {base b0 : Nat} {v : Value} {l : List (Ent × EntR)} (h : EntsO w base v l) (hb : b0 ≤ base) : EntsO w b0 v l := ⟨h.own.lower hb, fun q hq => (h.rows q hq).lower hb, h.nd⟩
theorem OwnE.off1 {w : World} {base : Nat} {v : Value} {l : List (Ent × EntR)} (h : OwnE w base v l) {b i : Nat} (u : Value) (hb : b < base) : OwnE (w.setCell ⟨b, i, none⟩ u) base v l := row_off h u hb
theorem EntsO.off1 {w : World} {base : Nat} {v : Value} {l : List (Ent × EntR)} (h : EntsO w base v l) {b i : Nat} (u : Value) (hb : b < base) : EntsO (w.setCell ⟨b, i, none⟩ u) base v l :=
  ⟨h.own.off1 u hb, fun q hq => (h.rows q hq).far (by simp) fun b' hb' _ o => by
    have := (h.rows q hq).ge hb'
    exact ⟨World.cell?_setCell_other _ _ _ _ (by intro e; have := congrArg Addr.block e; simp at this; omega), World.frozen?_setCell _ _ _ _⟩, h.nd⟩
theorem StoO.off1 {w : World} {base : Nat} {v1 v2 : Value} {l1 l2 : List (Ent × EntR)} (h : StoO w base v1 v2 l1 l2) {b i : Nat} (u : Value) (hb : b < base) : StoO (w.setCell ⟨b, i, none⟩ u) base v1 v2 l1 l2 := ⟨h.t.off1 u hb, h.k.off1 u hb, h.nd⟩
theorem StoO.lower {w : World} {base b0 : Nat} {v1 v2 : Value} {l1 l2 : List (Ent × EntR)} (h : StoO w base v1 v2 l1 l2) (hb : b0 ≤ base) : StoO w b0 v1 v2 l1 l2 := ⟨h.t.lower hb, h.k.lower hb, h.nd⟩
theorem StoO.two {w w' : World} {base b2 : Nat} {v1 v2 : Value} {l1 l2 : List (Ent × EntR)} (h : EntsO w base v1 l1) (k : EntsO w' b2 v2 l2) (hb : Below w.heap.size w w') (h2 : w.heap.size ≤ b2) (hbase : base ≤ w.heap.size) : StoO w' base v1 v2 l1 l2 :=
  ⟨h.below hb, k.lower (by omega), fun b h1 h3 => by have := h.lt h1; have := k.ge h3; omega⟩
theorem StoO.two' {w w' : World} {base b2 : Nat} {v1 v2 : Value} {l1 l2 : List (Ent × EntR)} (h : EntsO w base v2 l2) (k : EntsO w' b2 v1 l1) (hb : Below w.heap.size w w') (h2 : w.heap.size ≤ b2) (hbase : base ≤ w.heap.size) : StoO w' base v1 v2 l1 l2 :=
  ⟨k.lower (by omega), h.below hb, fun b h1 h3 => by have := h.lt h3; have := k.ge h1; omega⟩
set_option maxRecDepth 100000 in
set_option maxHeartbeats 16000000 in
theorem l8Copy_at (w : World) (B : Nat) (bu gu : Int) (ta ka : Option Addr) (tc kc : Nat) (tl kl : List (Ent × EntR)) (hc : w.cell? ⟨B, 0, none⟩ = some (.int .i64 bu) ∧ w.cell? ⟨B, 1, none⟩ = some (.int .i64 gu) ∧ w.cell? ⟨B, 2, none⟩ = some (.slice ta tl.length tc) ∧ w.cell? ⟨B, 3, none⟩ = some (.slice ka kl.length kc)) (hB : B < w.heap.size) (hl : tl.length ≤ 1048576) (hk : kl.length ≤ 1048576) (f1 : ∀ q ∈ tl, EntFit q.1) (f2 : ∀ q ∈ kl, EntFit q.1) (ht : EntsIn w ta tl) (hq : EntsIn w ka kl) :
    Calls Tryz.prog 67 #[.pointer (some ⟨B, 0, none⟩)] w fun e w' => (∃ v1 v2 m1 m2, e = .returned (.agg #[.int .i64 bu, .int .i64 gu, v1, v2]) ∧ m1.map Prod.fst = tl.map Prod.fst ∧ m2.map Prod.fst = kl.map Prod.fst ∧ StoO w' w.heap.size v1 v2 m1 m2) ∧ Below w.heap.size w w' := by
  have C1 : Hid (∀ X, Below w.heap.size w X → Calls Tryz.prog 129 #[.slice ta tl.length tc] X fun e w' => (∃ v m, e = .returned v ∧ m.map Prod.fst = tl.map Prod.fst ∧ EntsO w' X.heap.size v m) ∧ Below X.heap.size X w') := fun X hX => l8Copies_any X ta tc tl hl f1 (ht.keep hX)
  have C2 : Hid (∀ X, Below w.heap.size w X → Calls Tryz.prog 129 #[.slice ka kl.length kc] X fun e w' => (∃ v m, e = .returned v ∧ m.map Prod.fst = kl.map Prod.fst ∧ EntsO w' X.heap.size v m) ∧ Below X.heap.size X w') := fun X hX => l8Copies_any X ka kc kl hk f2 (hq.keep hX)
  generalize tl.length = tn at *
  generalize kl.length = kn at *
  obtain ⟨W, hW⟩ : ∃ W, W = w.alloc (.cells #[.int .i64 0, .int .i64 0, .slice none 0 0, .slice none 0 0] 28) := ⟨_, rfl⟩
  have HW : Hid (W = w.alloc (.cells #[.int .i64 0, .int .i64 0, .slice none 0 0, .slice none 0 0] 28)) := hW
  have HKS : Hid (∀ X, Below w.heap.size w X → X.cell? ⟨B, 0, none⟩ = some (.int .i64 bu) ∧ X.cell? ⟨B, 1, none⟩ = some (.int .i64 gu) ∧ X.cell? ⟨B, 2, none⟩ = some (.slice ta tn tc) ∧ X.cell? ⟨B, 3, none⟩ = some (.slice ka kn kc)) := fun X hX => ⟨by rw [hX.cell (p := ⟨B, 0, none⟩) hB]; exact hc.1, by rw [hX.cell (p := ⟨B, 1, none⟩) hB]; exact hc.2.1, by rw [hX.cell (p := ⟨B, 2, none⟩) hB]; exact hc.2.2.1, by rw [hX.cell (p := ⟨B, 3, none⟩) hB]; exact hc.2.2.2⟩
  have X0 : Hid (Below w.heap.size w W.drew ∧ S4 W.drew w.heap.size (.int .i64 0) (.int .i64 0) (.slice none 0 0) (.slice none 0 0) ∧ w.heap.size + 1 ≤ W.drew.heap.size) := by
    have b : Below w.heap.size w W := by rw [hW]; exact (Below.refl _ _).alloc (Nat.le_refl _) _
    have s : S4 W w.heap.size (.int .i64 0) (.int .i64 0) (.slice none 0 0) (.slice none 0 0) := by rw [hW]; exact S4.new w _ _ _ _ _
    have b' : Below W.heap.size W W.drew := (Below.refl _ _).drew
    exact ⟨b.trans (b'.mono b.size), s.keep b', by have := s.lt; have := b'.size; omega⟩
  clear hW hc hB hl hk f1 f2 ht hq
  go_enter Tryz.func67, Tryz.ntmps67
  go_wp2_with fail
  rw [← HW.out]
  clear HW
  go_region_held3 (fun X => X.cell? ⟨B, 0, none⟩ = some (.int .i64 bu) ∧ X.cell? ⟨B, 1, none⟩ = some (.int .i64 gu) ∧ X.cell? ⟨B, 2, none⟩ = some (.slice ta tn tc) ∧ X.cell? ⟨B, 3, none⟩ = some (.slice ka kn kc))
    (first | ((with_reducible refine HKS.out _ ?_); (with_reducible exact ZB.out.2)) | ((with_reducible refine HKS.out _ ?_); (with_reducible exact XB.out)) | ((with_reducible refine HKS.out _ ?_); (with_reducible exact XA.out.1)) | ((with_reducible refine HKS.out _ ?_); (with_reducible exact X0.out.1)))
    (first
    | (go_at_call 129; have hO1 := O1; refine (C2.out wa XA.out.1).mono ?_; rintro e0 wb ⟨⟨v2, m2, rfl, q2, o2⟩, hbb⟩; obtain ⟨a2, k2, rfl, _⟩ := row_form o2.own; generalize m2.length = n2 at *; have HSO : Hid (∃ m1 m2, m1.map Prod.fst = tl.map Prod.fst ∧ m2.map Prod.fst = kl.map Prod.fst ∧ StoO wb (w.heap.size + 1) (.slice a1 n1 k1) (.slice a2 n2 k2) m1 m2) := (by obtain ⟨m1, q1, o1⟩ := O1.out; exact ⟨m1, m2, q1, q2, StoO.two o1 o2 hbb (Nat.le_refl _) XA.out.2.2⟩); have SB : S4 wb w.heap.size (.int .i64 0) (.int .i64 0) (.slice none 0 0) (.slice none 0 0) := XA.out.2.1.keep hbb; have zf0 := SB.fr 0; have zf1 := SB.fr 1; have zf2 := SB.fr 2; have zf3 := SB.fr 3; have z0 := SB.c0; have z1 := SB.c1; have z2 := SB.c2; have z3 := SB.c3; have ZB : Hid ((∃ m1 m2, m1.map Prod.fst = tl.map Prod.fst ∧ m2.map Prod.fst = kl.map Prod.fst ∧ StoO (((((wb).setCell ⟨w.heap.size, 0, none⟩ (.int .i64 bu)).setCell ⟨w.heap.size, 1, none⟩ (.int .i64 gu)).setCell ⟨w.heap.size, 2, none⟩ (.slice a1 n1 k1)).setCell ⟨w.heap.size, 3, none⟩ (.slice a2 n2 k2)) w.heap.size (.slice a1 n1 k1) (.slice a2 n2 k2) m1 m2) ∧ Below w.heap.size w (((((wb).setCell ⟨w.heap.size, 0, none⟩ (.int .i64 bu)).setCell ⟨w.heap.size, 1, none⟩ (.int .i64 gu)).setCell ⟨w.heap.size, 2, none⟩ (.slice a1 n1 k1)).setCell ⟨w.heap.size, 3, none⟩ (.slice a2 n2 k2))) := (by obtain ⟨m1, m2, q1, q2, o⟩ := HSO.out; exact ⟨⟨m1, m2, q1, q2, ((((o.off1 _ (by omega)).off1 _ (by omega)).off1 _ (by omega)).off1 _ (by omega)).lower (by omega)⟩, ((((XA.out.1.trans (hbb.mono XA.out.1.size)).setCell (Nat.le_refl _) _).setCell (Nat.le_refl _) _).setCell (Nat.le_refl _) _).setCell (Nat.le_refl _) _⟩); have XB : Hid (Below w.heap.size w wb) := XA.out.1.trans (hbb.mono XA.out.1.size); clear hbb o2 q2 SB HSO hO1)
    | (go_at_call 129; refine (C1.out W.drew X0.out.1).mono ?_; rintro e0 wa ⟨⟨v1, m1, rfl, q1, o1⟩, hba⟩; obtain ⟨a1, k1, rfl, _⟩ := row_form o1.own; generalize m1.length = n1 at *; have O1 : Hid (∃ m1, m1.map Prod.fst = tl.map Prod.fst ∧ EntsO wa (w.heap.size + 1) (.slice a1 n1 k1) m1) := ⟨m1, q1, o1.lower X0.out.2.2⟩; have XA : Hid (Below w.heap.size w wa ∧ S4 wa w.heap.size (.int .i64 0) (.int .i64 0) (.slice none 0 0) (.slice none 0 0) ∧ w.heap.size + 1 ≤ wa.heap.size) := ⟨X0.out.1.trans (hba.mono X0.out.1.size), X0.out.2.1.keep hba, Nat.le_trans X0.out.2.2 hba.size⟩; clear hba o1 q1))
  all_goals
    clear HKS X0 C1 C2 O1 XA
    go_wp2_with fail
    have HFIN : Hid ((∃ v1 v2 m1 m2, Ending.returned (.agg #[.int .i64 bu, .int .i64 gu, .slice a1 n1 k1, .slice a2 n2 k2]) = .returned (.agg #[.int .i64 bu, .int .i64 gu, v1, v2]) ∧ m1.map Prod.fst = tl.map Prod.fst ∧ m2.map Prod.fst = kl.map Prod.fst ∧ StoO (((((wb).setCell ⟨w.heap.size, 0, none⟩ (.int .i64 bu)).setCell ⟨w.heap.size, 1, none⟩ (.int .i64 gu)).setCell ⟨w.heap.size, 2, none⟩ (.slice a1 n1 k1)).setCell ⟨w.heap.size, 3, none⟩ (.slice a2 n2 k2)) w.heap.size v1 v2 m1 m2) ∧ Below w.heap.size w (((((wb).setCell ⟨w.heap.size, 0, none⟩ (.int .i64 bu)).setCell ⟨w.heap.size, 1, none⟩ (.int .i64 gu)).setCell ⟨w.heap.size, 2, none⟩ (.slice a1 n1 k1)).setCell ⟨w.heap.size, 3, none⟩ (.slice a2 n2 k2))) := by
      obtain ⟨⟨m1, m2, q1, q2, o⟩, b⟩ := ZB.out
      exact ⟨⟨_, _, m1, m2, rfl, q1, q2, o⟩, b⟩
    exact bodyPost_ret (v := .agg #[.int .i64 bu, .int .i64 gu, .slice a1 n1 k1, .slice a2 n2 k2]) (by simp [results, Tryz.results67, go_sem, z0, z1, z2, z3]) rfl HFIN.out
end Go.Proofs.YtdooopkpnanekaaGreatDoor
/-
  The program's shelves: pointers to what a store's lists hold.
-/
namespace Go.Proofs.YtdooopkpnanekaaGreatDoor
open Go.ChangeShapes Go.WideShapes Go.ChangeAt Go.RowKit Go.Sort
/-- Handles of a list that came in at an address. -/
def hdlsA (a : Option Addr) (l : List (Ent × EntR)) : List Hdl :=
  match a with
  | some a => hdls a.block a.off l
  | none => hdls 0 0 l
theorem hdlsA_len (a : Option Addr) (l : List (Ent × EntR)) : (hdlsA a l).length = l.length := by
  unfold hdlsA; split <;> exact hdls_len _ _ _
theorem hdlsA_x (a : Option Addr) (l : List (Ent × EntR)) : (hdlsA a l).map Hdl.x = l.map Prod.fst := by
  unfold hdlsA; split <;> exact hdls_x _ _ _
theorem hdlsA_there {w : World} {a : Option Addr} {l : List (Ent × EntR)} (h : EntsIn w a l) : ∀ k ∈ hdlsA a l, HThere w k := by
  rcases h with rfl | ⟨b, off, rfl, h⟩
  · intro k hk
    have := List.length_pos_of_mem hk
    rw [hdlsA_len] at this
    simp at this
  · exact hdls_there h
set_option maxRecDepth 100000 in
set_option maxHeartbeats 8000000 in
theorem shelfOf_any (w : World) (a : Option Addr) (cap : Nat) (l : List (Ent × EntR)) (hl : l.length ≤ 1048576) (hi : EntsIn w a l) :
    Calls Tryz.prog 121 #[.slice a l.length cap] w fun e w' => (∃ v, e = .returned (.agg #[v]) ∧ OwnP w' w.heap.size v (hdlsA a l)) ∧ Below w.heap.size w w' := by
  obtain ⟨i0, hi0, hz0, hz1, hz2⟩ := info_parts infoPtr
  have hlen := hdlsA_len a l
  have HPS : Hid (∀ (k : Nat), k < l.length → ∃ b off, a = some ⟨b, off, none⟩ ∧ ((hdlsA a l).map hP)[k]? = some (.pointer (some ⟨b, off + k * 13, none⟩))) := by
    intro k hk
    rcases hi with rfl | ⟨b, off, rfl, h⟩
    · simp at hk
    · refine ⟨b, off, rfl, ?_⟩
      rw [List.getElem?_map]
      show Option.map hP ((hdls b off l)[k]?) = _
      rw [hdls_at (List.getElem?_eq_getElem hk)]
      rfl
  clear hi
  obtain ⟨ps, hps⟩ : ∃ ps, Hid ((hdlsA a l).map hP = ps) := ⟨_, rfl⟩
  have hpl : ps.length = l.length := by rw [← hps.out, List.length_map, hlen]
  rw [hps.out] at HPS
  have HO : Hid (∀ w' v, w'.ownsRow w.heap.size 101 1 v l.length ps → OwnP w' w.heap.size v (hdlsA a l)) := fun w' v h => by
    unfold OwnP
    rw [hlen, hps.out]
    exact h
  clear hps hlen
  generalize hn : l.length = n at *
  clear hn
  have HPL : Hid (ps.length = n) := hpl
  clear hpl
  have BA : Hid (Below w.heap.size w (w.alloc (.cells #[.slice none 0 0] 96))) := (Below.refl _ _).alloc (Nat.le_refl _) _
  obtain ⟨V, hV⟩ : ∃ V, V = w.alloc (.cells #[.slice none 0 0] 96) := ⟨_, rfl⟩
  have HV : Hid (V = w.alloc (.cells #[.slice none 0 0] 96)) := hV
  have hVs : V.heap.size = w.heap.size + 1 := by rw [hV]; simp
  have hVc : V.cell? ⟨w.heap.size, 0, none⟩ = some (.slice none 0 0) := by rw [hV]; simp
  have hVf : V.frozen? ⟨w.heap.size, 0, none⟩ = false := by rw [hV]; simp
  rw [← HV.out] at BA
  clear hV
  go_enter Tryz.func121, Tryz.ntmps121
  go_wp2_with (at_make; rw [← HV.out]; refine wpList_make_full V rfl _ _ 94 rfl (w.heap.size + 1) 101 i0 _ 1 Tryz.underlying94 hi0 hz0 hz1 _ _ _ _ n rfl rfl rfl rfl (by rw [hz2]; omega) (by unfold maxLen; omega) (by rw [hVs]; exact Nat.le_refl _) ?_; intro w1 hown hgrow)
  try rw [hVs] at hown
  rw [made_one (.pointer none) rfl] at hown
  have HR1 : Hid (w1.ownsRow (w.heap.size + 1) 101 1 (.slice (some ⟨w.heap.size + 1, 0, none⟩) n n) n (List.replicate n (.pointer none)) ∧ w1.cell? ⟨w.heap.size, 0, none⟩ = some (.slice none 0 0) ∧ w1.frozen? ⟨w.heap.size, 0, none⟩ = false ∧ Below w.heap.size w w1) := by
    have bV : Below V.heap.size V w1 := (Below.refl _ _).grown hgrow (Nat.le_refl _) (fun q hq => by cases hq)
    exact ⟨hown, by rw [bV.cell (p := ⟨w.heap.size, 0, none⟩) (by rw [hVs]; exact Nat.lt_succ_self _)]; exact hVc, by rw [bV.frozen (p := ⟨w.heap.size, 0, none⟩) (by rw [hVs]; exact Nat.lt_succ_self _)]; exact hVf, BA.out.trans (bV.mono BA.out.size)⟩
  clear hown hgrow hVs hVc hVf HV BA
  go_loopw [10] (fun i wr => ∃ k : Nat, k ≤ n ∧ i = .int .i64 k ∧ wr.ownsRow (w.heap.size + 1) 101 1 (.slice (some ⟨w.heap.size + 1, 0, none⟩) n n) n (ps.take k ++ List.replicate (n - k) (.pointer none)) ∧ wr.cell? ⟨w.heap.size, 0, none⟩ = some (.slice none 0 0) ∧ wr.frozen? ⟨w.heap.size, 0, none⟩ = false ∧ Below w.heap.size w wr) (fun i _ => n - (intOf i).toNat)
  case atStart => exact ⟨0, Nat.zero_le _, rfl, by simpa using HR1.out.1, HR1.out.2.1, HR1.out.2.2.1, HR1.out.2.2.2⟩
  case round =>
    obtain ⟨k, hk, rfl, hrow, hc, hf, hb⟩ := hrel
    clear HR1
    by_cases hlt : k < n
    · obtain ⟨b, off, rfl, hp⟩ := HPS.out k hlt
      have cg := hrow.cellAt k (by omega)
      have hfg := hrow.frozenAt k
      obtain ⟨u, hu⟩ : ∃ u, (ps.take k ++ List.replicate (n - k) (Value.pointer none))[k]? = some u := ⟨_, List.getElem?_eq_getElem (by have := HPL.out; simp; omega)⟩
      rw [hu] at cg
      have HN : Hid ((wr.setCell ⟨w.heap.size + 1, k, none⟩ (.pointer (some ⟨b, off + k * 13, none⟩))).ownsRow (w.heap.size + 1) 101 1 (.slice (some ⟨w.heap.size + 1, 0, none⟩) n n) n (ps.take (k + 1) ++ List.replicate (n - (k + 1)) (.pointer none))) := by
        have := (hrow.stored k (.pointer (some ⟨b, off + k * 13, none⟩))).1
        have e := set_fill (z := .pointer none) ps k _ hp
        rw [HPL.out] at e
        rw [e] at this
        exact this
      have HC : Hid ((wr.setCell ⟨w.heap.size + 1, k, none⟩ (.pointer (some ⟨b, off + k * 13, none⟩))).cell? ⟨w.heap.size, 0, none⟩ = some (.slice none 0 0) ∧ (wr.setCell ⟨w.heap.size + 1, k, none⟩ (.pointer (some ⟨b, off + k * 13, none⟩))).frozen? ⟨w.heap.size, 0, none⟩ = false ∧ Below w.heap.size w (wr.setCell ⟨w.heap.size + 1, k, none⟩ (.pointer (some ⟨b, off + k * 13, none⟩)))) := by
        refine ⟨?_, by rw [World.frozen?_setCell]; exact hf, hb.setCell (by simp) _⟩
        rw [World.cell?_setCell_other _ _ _ _ (by intro q; have := congrArg Addr.block q; simp only at this; omega)]
        exact hc
      have g : (k : Int) < n := by omega
      have g0 : (0 : Int) ≤ k := by omega
      clear hrow hu hp hc hf hb HPS
      go_wp2_with fail
      go_roundw
      case rel => exact ⟨k + 1, by omega, by go_num, HN.out, HC.out.1, HC.out.2.1, HC.out.2.2⟩
      case measure => simp [intOf]; omega
    · have hkn : k = n := by omega
      subst hkn
      have HF : Hid (∀ u, (wr.setCell ⟨w.heap.size, 0, none⟩ u).ownsRow w.heap.size 101 1 (.slice (some ⟨w.heap.size + 1, 0, none⟩) k k) k ps ∧ Below w.heap.size w (wr.setCell ⟨w.heap.size, 0, none⟩ u)) := by
        intro u
        rw [Nat.sub_self, List.replicate_zero, List.append_nil, List.take_of_length_le (by rw [HPL.out]; exact Nat.le_refl _)] at hrow
        have z := row_off hrow (b := w.heap.size) (i := 0) u (by omega)
        obtain ⟨z1, z2⟩ := z
        refine ⟨⟨z1, ?_⟩, hb.setCell (Nat.le_refl _) _⟩
        rcases z2 with z2 | ⟨g, c, cur, e', hg, hrest⟩
        · exact .inl z2
        · exact .inr ⟨g, c, cur, e', by omega, hrest⟩
      clear hrow hb
      go_wp2_with fail
      exact bodyPost_ret (v := .agg #[.slice (some ⟨w.heap.size + 1, 0, none⟩) k k]) (by simp [results, Tryz.results121, go_sem, hc]) rfl ⟨⟨_, rfl, HO.out _ _ (HF.out _).1⟩, (HF.out _).2⟩
end Go.Proofs.YtdooopkpnanekaaGreatDoor
/-
  The program's two shelves of a store.
-/
namespace Go.Proofs.YtdooopkpnanekaaGreatDoor
open Go.ChangeShapes Go.WideShapes Go.ChangeAt Go.RowKit Go.Sort
theorem OwnP.off1 {w : World} {base : Nat} {v : Value} {l : List Hdl} (h : OwnP w base v l) {b i : Nat} (u : Value) (hb : b < base) : OwnP (w.setCell ⟨b, i, none⟩ u) base v l := row_off h u hb
theorem OwnP.lt {w : World} {base : Nat} {v : Value} {l : List Hdl} (h : OwnP w base v l) (q : Nat) (hq : v.ownBlock = some q) : q < w.heap.size := (World.ownsRow.lt h q hq).2
/-- TwoP rows of pointers, one's own and apart. -/
structure TwoP (w : World) (base : Nat) (v1 v2 : Value) (l1 l2 : List Hdl) : Prop where
  a : OwnP w base v1 l1
  b : OwnP w base v2 l2
  ne : v1.ownBlock = none ∨ v1.ownBlock ≠ v2.ownBlock
theorem TwoP.below {w w' : World} {base : Nat} {v1 v2 : Value} {l1 l2 : List Hdl} (h : TwoP w base v1 v2 l1 l2) (hb : Below w.heap.size w w') : TwoP w' base v1 v2 l1 l2 := ⟨h.a.below hb, h.b.below hb, h.ne⟩
theorem TwoP.off1 {w : World} {base : Nat} {v1 v2 : Value} {l1 l2 : List Hdl} (h : TwoP w base v1 v2 l1 l2) {b i : Nat} (u : Value) (hb : b < base) : TwoP (w.setCell ⟨b, i, none⟩ u) base v1 v2 l1 l2 := ⟨h.a.off1 u hb, h.b.off1 u hb, h.ne⟩
theorem TwoP.lower {w : World} {b0 base : Nat} {v1 v2 : Value} {l1 l2 : List Hdl} (h : TwoP w base v1 v2 l1 l2) (hb : b0 ≤ base) : TwoP w b0 v1 v2 l1 l2 := ⟨h.a.lower hb, h.b.lower hb, h.ne⟩
set_option maxRecDepth 100000 in
set_option maxHeartbeats 8000000 in
theorem shelvesOf_any (w : World) (bu gu : Int) (ta ka : Option Addr) (tc kc : Nat) (tl kl : List (Ent × EntR)) (hl : tl.length ≤ 1048576) (hk : kl.length ≤ 1048576) (ht : EntsIn w ta tl) (hq : EntsIn w ka kl) :
    Calls Tryz.prog 56 #[.agg #[.int .i64 bu, .int .i64 gu, .slice ta tl.length tc, .slice ka kl.length kc]] w fun e w' => (∃ v1 v2, e = .returned (.agg #[v1, v2]) ∧ TwoP w' w.heap.size v1 v2 (hdlsA ta tl) (hdlsA ka kl)) ∧ Below w.heap.size w w' := by
  have HC1 : Hid (∀ X, Below w.heap.size w X → Calls Tryz.prog 121 #[.slice ta tl.length tc] X fun e w' => (∃ v, e = .returned (.agg #[v]) ∧ OwnP w' X.heap.size v (hdlsA ta tl)) ∧ Below X.heap.size X w') := fun X hX => shelfOf_any X ta tc tl hl (ht.keep hX)
  have HC2 : Hid (∀ X, Below w.heap.size w X → Calls Tryz.prog 121 #[.slice ka kl.length kc] X fun e w' => (∃ v, e = .returned (.agg #[v]) ∧ OwnP w' X.heap.size v (hdlsA ka kl)) ∧ Below X.heap.size X w') := fun X hX => shelfOf_any X ka kc kl hk (hq.keep hX)
  obtain ⟨W, hW⟩ : ∃ W, W = (w.alloc (.cells #[.int .i64 bu, .int .i64 gu, .slice ta tl.length tc, .slice ka kl.length kc] 28)).alloc (.cells #[.slice none 0 0, .slice none 0 0] 98) := ⟨_, rfl⟩
  have HW : Hid (W = (w.alloc (.cells #[.int .i64 bu, .int .i64 gu, .slice ta tl.length tc, .slice ka kl.length kc] 28)).alloc (.cells #[.slice none 0 0, .slice none 0 0] 98)) := hW
  have K0 : Hid (Below w.heap.size w W ∧ S4 W w.heap.size (.int .i64 bu) (.int .i64 gu) (.slice ta tl.length tc) (.slice ka kl.length kc) ∧ (W.cell? ⟨w.heap.size + 1, 0, none⟩ = some (.slice none 0 0) ∧ W.cell? ⟨w.heap.size + 1, 1, none⟩ = some (.slice none 0 0) ∧ (∀ o, W.frozen? ⟨w.heap.size + 1, o, none⟩ = false)) ∧ W.heap.size = w.heap.size + 2) := by
    rw [hW]
    refine ⟨((Below.refl _ _).alloc (Nat.le_refl _) _).alloc (by simp) _, (S4.new w _ _ _ _ _).keep ((Below.refl _ _).alloc (Nat.le_refl _) _), ⟨by simp, by simp, fun o => by simp⟩, by simp⟩
  clear hW ht hq hl hk
  generalize tl.length = tn at *
  generalize kl.length = kn at *
  have HK : Hid (∀ X, Below W.heap.size W X → Below w.heap.size w X ∧ S4 X w.heap.size (.int .i64 bu) (.int .i64 gu) (.slice ta tn tc) (.slice ka kn kc) ∧ (X.cell? ⟨w.heap.size + 1, 0, none⟩ = some (.slice none 0 0) ∧ X.cell? ⟨w.heap.size + 1, 1, none⟩ = some (.slice none 0 0) ∧ (∀ o, X.frozen? ⟨w.heap.size + 1, o, none⟩ = false)) ∧ w.heap.size + 2 ≤ X.heap.size) := fun X hX => by
    have hs := K0.out.2.2.2
    have hz := hX.size
    refine ⟨K0.out.1.trans (hX.mono K0.out.1.size), K0.out.2.1.keep hX, ⟨?_, ?_, fun o => ?_⟩, by omega⟩
    · rw [hX.cell (p := ⟨w.heap.size + 1, 0, none⟩) (by simp only; omega)]; exact K0.out.2.2.1.1
    · rw [hX.cell (p := ⟨w.heap.size + 1, 1, none⟩) (by simp only; omega)]; exact K0.out.2.2.1.2.1
    · rw [hX.frozen (p := ⟨w.heap.size + 1, o, none⟩) (by simp only; omega)]; exact K0.out.2.2.1.2.2 o
  clear K0
  have HKS : Hid (∀ X, Below W.heap.size W X → (X.cell? ⟨w.heap.size, 2, none⟩ = some (.slice ta tn tc) ∧ X.cell? ⟨w.heap.size, 3, none⟩ = some (.slice ka kn kc))) := fun X hX => ⟨(HK.out X hX).2.1.c2, (HK.out X hX).2.1.c3⟩
  have HKT : Hid (∀ X u v, Below W.heap.size W X → (((X.setCell ⟨w.heap.size + 1, 0, none⟩ u).setCell ⟨w.heap.size + 1, 1, none⟩ v).cell? ⟨w.heap.size, 2, none⟩ = some (.slice ta tn tc) ∧ ((X.setCell ⟨w.heap.size + 1, 0, none⟩ u).setCell ⟨w.heap.size + 1, 1, none⟩ v).cell? ⟨w.heap.size, 3, none⟩ = some (.slice ka kn kc))) := fun X u v hX => ⟨(((HK.out X hX).2.1.off (by omega)).off (by omega)).c2, (((HK.out X hX).2.1.off (by omega)).off (by omega)).c3⟩
  have B0 : Hid (Below W.heap.size W W.drew) := (Below.refl _ _).drew
  go_enter Tryz.func56, Tryz.ntmps56
  go_wp2_with fail
  rw [← HW.out]
  clear HW
  go_region_held3 (fun X => X.cell? ⟨w.heap.size, 2, none⟩ = some (.slice ta tn tc) ∧ X.cell? ⟨w.heap.size, 3, none⟩ = some (.slice ka kn kc))
    (first | ((with_reducible refine HKS.out _ ?_); (with_reducible exact BB.out)) | ((with_reducible refine HKS.out _ ?_); (with_reducible exact BA.out)) | ((with_reducible refine HKS.out _ ?_); (with_reducible exact B0.out)) | ((with_reducible refine HKT.out _ _ _ ?_); (with_reducible exact BB.out)))
    (first
    | (go_at_call 121; have hBA := BA; refine (HC2.out _ (HK.out _ BA.out).1).mono ?_; rintro r0 wb ⟨⟨v2, rfl, ho2⟩, hbb⟩; obtain ⟨a2, k2, rfl, _⟩ := ho2.form; have BB : Hid (Below W.heap.size W wb) := BA.out.trans (hbb.mono BA.out.size); have TT : Hid (TwoP wb (w.heap.size + 2) _ (.slice a2 (hdlsA ka kl).length k2) (hdlsA ta tl) (hdlsA ka kl)) := ⟨OA.out.below hbb, ho2.lower (HK.out _ BA.out).2.2.2, (by
          cases e : Value.ownBlock _ with
          | none => exact .inl rfl
          | some q =>
            refine .inr fun e2 => ?_
            have h1 := OA.out.lt q e
            have h2 := own_geP ho2 q e2.symm
            omega)⟩; obtain ⟨c0, c1, cf⟩ := (HK.out _ BB.out).2.2.1; have cf0 := cf 0; have cf1 := cf 1; clear cf; clear hbb ho2 hBA)
    | (go_at_call 121; refine (HC1.out _ (HK.out _ B0.out).1).mono ?_; rintro r0 wa ⟨⟨v1, rfl, ho1⟩, hba⟩; obtain ⟨a1, k1, rfl, _⟩ := ho1.form; have BA : Hid (Below W.heap.size W wa) := B0.out.trans (hba.mono B0.out.size); have OA : Hid (OwnP wa (w.heap.size + 2) (.slice a1 (hdlsA ta tl).length k1) (hdlsA ta tl)) := ho1.lower (HK.out _ B0.out).2.2.2; clear hba ho1))
  all_goals
    have KZ : Hid (∀ u v, TwoP ((wb.setCell ⟨w.heap.size + 1, 0, none⟩ u).setCell ⟨w.heap.size + 1, 1, none⟩ v) w.heap.size (.slice a1 (hdlsA ta tl).length k1) (.slice a2 (hdlsA ka kl).length k2) (hdlsA ta tl) (hdlsA ka kl) ∧ Below w.heap.size w ((wb.setCell ⟨w.heap.size + 1, 0, none⟩ u).setCell ⟨w.heap.size + 1, 1, none⟩ v)) := fun u v => ⟨((TT.out.off1 u (by omega)).off1 v (by omega)).lower (by omega), ((HK.out _ BB.out).1.setCell (by simp) _).setCell (by simp) _⟩
    go_wp2_with fail
    exact bodyPost_ret (v := .agg #[.slice a1 (hdlsA ta tl).length k1, .slice a2 (hdlsA ka kl).length k2]) (by simp [results, Tryz.results56, go_sem, c0, c1]) rfl ⟨⟨_, _, rfl, (KZ.out _ _).1⟩, (KZ.out _ _).2⟩
end Go.Proofs.YtdooopkpnanekaaGreatDoor
/-
  Rows of pointers: slices.Grow of nothing, slices.Concat of two, and all of a store's shelves.
-/
namespace Go.Proofs.YtdooopkpnanekaaGreatDoor
open Go.ChangeShapes Go.WideShapes Go.ChangeAt Go.RowKit Go.Sort
theorem appendP_zero {P : Program} (w : World) (t ty e : TypeId) (i : TypeInfo) (ht : P.underlying t = some (.slice e)) (hi : P.info? e = some i) (base : Option Addr) (n k : Nat) (hle : n ≤ k) (pb : Option Addr) (c : Nat) :
    (Builtin.append_ #[t, t] ty #[.slice base n k, .slice pb 0 c]).run P w = .ok (.slice base n k) w := by
  cases base <;> cases pb <;> simp [Builtin.append_, run_underlying ht, sizeOf, typeInfo, hi, Builtin.lenOf, Builtin.firstCells, hle, storeCells, loadCells, loadCellsFrom]
theorem wpList_append_ptrs {ops : Array Oper} {rest : List Oper} {o : Oper} {a : Act} {Q : Exit → Act → World → Prop} (w : World) (hgd : o.guard = none) (s x : Operand)
    (ho : o.op = .call { callee := .builtin .append, args := #[s, x], argTypes := #[94, 94] })
    (base : Nat) (v : Value) (l0 : List Hdl) (b0 : Nat) (u : Value) (l : List Hdl)
    (hs : a.eval s = v) (hown : OwnP w base v l0) (hx : a.eval x = u) (hat : OwnP w b0 u l) (hl : l0.length + l.length ≤ 1000000) (hbase : base ≤ w.heap.size)
    (h : ∀ v' w', OwnP w' base v' (l0 ++ l) → Below base w w' → wpList Tryz.prog ops Q rest (a.put o.dst v') w') :
    wpList Tryz.prog ops Q (o :: rest) a w := by
  obtain ⟨i0, hi, hz0, hz1, hz2⟩ := info_parts infoPtr
  obtain ⟨va, vc, rfl, hle, _⟩ := hown.form
  obtain ⟨ua, uc, rfl, hle2, hf⟩ := hat.form
  rcases hf with e | ⟨g, rfl, _, _, hc⟩
  · subst e
    refine wpList_plain hgd fun K hK => ?_
    unfold Oper.wp execOp
    simp only [ho, resolve, invoke, builtin, Sem.run_bind, Sem.run_pure, Result.andThen_ok, List.map_toArray, List.map_cons, List.map_nil, hs, hx, List.length_nil]
    rw [appendP_zero w 94 _ 101 i0 Tryz.underlying94 hi va l0.length vc hle ua uc]
    exact hK _ _ (h _ w (by simpa using hown) (Below.refl _ _))
  · by_cases h0 : 0 < l.length
    · refine wpList_append_lies w hgd s x 94 ho base 101 i0 _ 1 8 Tryz.underlying94 hi hz0 hz1 hz2 rfl (by omega) _ l0.length (l0.map hP) hs hown ⟨g, 0, none⟩ l.length uc (l.map hP) hx (by simp) ?_ (ptr_one l) h0 (by unfold maxLen; omega) (by omega) hbase _ rfl ?_
      · intro j y hj
        rw [List.getElem?_map] at hj
        obtain ⟨k, hk, rfl⟩ := Option.map_eq_some_iff.1 hj
        have hadd : (⟨g, 0, none⟩ : Addr).add j = ⟨g, j, none⟩ := by unfold Addr.add; split <;> simp_all
        rw [hadd]
        exact hc j k hk
      · intro g' c w' h1 h2 h3 h4
        refine h _ w' ?_ ((Below.refl base w).grown h2 hbase (fun q hq => own_geP hown q hq))
        unfold OwnP
        rw [List.length_append, List.map_append]
        exact h1
    · have e : l = [] := List.eq_nil_of_length_eq_zero (by omega)
      subst e
      refine wpList_plain hgd fun K hK => ?_
      unfold Oper.wp execOp
      simp only [ho, resolve, invoke, builtin, Sem.run_bind, Sem.run_pure, Result.andThen_ok, List.map_toArray, List.map_cons, List.map_nil, hs, hx, List.length_nil]
      rw [appendP_zero w 94 _ 101 i0 Tryz.underlying94 hi va l0.length vc hle _ uc]
      exact hK _ _ (h _ w (by simpa using hown) (Below.refl _ _))
set_option maxHeartbeats 4000000 in
theorem growP_nil (w : World) (n : Nat) (hn : n ≤ 1048576) :
    Calls Tryz.prog 182 #[.slice none 0 0, .int .i64 (n : Int)] w fun e w' => (∃ v, e = .returned v ∧ OwnP w' w.heap.size v []) ∧ Below w.heap.size w w' := by
  by_cases h0 : n = 0
  · subst h0
    go_enter Tryz.func182, Tryz.ntmps182
    go_wp2_with fail
    go_ret
    exact ⟨⟨_, rfl, OwnP.nil _ _⟩, Below.refl _ _⟩
  · obtain ⟨i0, hi, hz0, hz1, hz2⟩ := info_parts infoPtr
    have g : (0 : Int) < (n : Int) := by omega
    have g2 : ¬ (n : Int) < 0 := by omega
    obtain ⟨c, hc⟩ : ∃ c, grownCap w n 0 101 = c := ⟨_, rfl⟩
    obtain ⟨ROW, hROW⟩ : ∃ R : Array Value, Builtin.zeroCells (Value.pointer none).cells n ++ Builtin.zeroCells (Value.pointer none).cells (c - n) = R := ⟨_, rfl⟩
    have hrz : ∀ ty, (Builtin.append_ #[94, 3] ty #[.slice none 0 0, .int .i64 (n : Int)]).run Tryz.prog w = .ok (.slice (some ⟨w.heap.size, 0, none⟩) n c) (w.drew.alloc (.cells ROW 101)) := fun ty => by
      have h := Lib.run_append_nil_zeros w 94 3 ty 101 i0 _ .i64 .i64 Tryz.underlying94 Tryz.underlying3 hi hz0 n (by omega) (by rw [hz1]; omega) (by omega) (by rw [hz2]; omega)
      rw [hc, hROW] at h
      exact h
    have hcn : n ≤ c := by rw [← hc]; exact grownCap_ge w _ _ _
    have hcm : c ≤ maxLen := by rw [← hc]; exact grownCap_le_maxLen w _ _ _ (by unfold maxLen; omega)
    have hsz : ROW.size = c * 1 := by
      rw [← hROW, Array.size_append, size_zeroCells, size_zeroCells]
      have : (Value.pointer none).cells.size = 1 := rfl
      rw [this]
      omega
    have HO : Hid (OwnP (w.drew.alloc (.cells ROW 101)) w.heap.size (.slice (some ⟨w.heap.size, 0, none⟩) 0 c) []) := World.ownsRow_made w.drew ROW c (Nat.le_refl _) hcm hsz
    have HB : Hid (Below w.heap.size w (w.drew.alloc (.cells ROW 101))) := ((Below.refl _ _).drew).alloc (Nat.le_refl _) _
    have gc : (0 : Int) ≤ (c : Int) := by omega
    clear hROW hc hsz hcn hcm hz0 hz1 hz2 hi
    go_enter Tryz.func182, Tryz.ntmps182
    go_wp2_with (at_builtin; refine Lib.wpList_append_run _ rfl (.tmp 20) (.tmp 21) _ _ rfl _ _ rfl rfl _ _ (hrz _) ?_)
    go_ret
    exact ⟨⟨_, rfl, HO.out⟩, HB.out⟩
end Go.Proofs.YtdooopkpnanekaaGreatDoor
/-
  slices.Concat of two rows of pointers, and all of a store's shelves.
-/
namespace Go.Proofs.YtdooopkpnanekaaGreatDoor
open Go.ChangeShapes Go.WideShapes Go.ChangeAt Go.RowKit Go.Sort
set_option maxRecDepth 100000 in
set_option maxHeartbeats 8000000 in
theorem concatP_any (w : World) (L : Nat) (v1 v2 : Value) (b1 b2 : Nat) (l1 l2 : List Hdl) (c0 : w.cell? ⟨L, 0, none⟩ = some v1) (c1 : w.cell? ⟨L, 1, none⟩ = some v2) (h1 : OwnP w b1 v1 l1) (h2 : OwnP w b2 v2 l2) (hl : l1.length + l2.length ≤ 1000000) :
    Calls Tryz.prog 141 #[.slice (some ⟨L, 0, none⟩) 2 2] w fun e w' => (∃ v, e = .returned v ∧ OwnP w' w.heap.size v (l1 ++ l2)) ∧ Below w.heap.size w w' := by
  have H1 : Hid (∀ X, Below w.heap.size w X → OwnP X b1 v1 l1 ∧ OwnP X b2 v2 l2 ∧ X.cell? ⟨L, 0, none⟩ = some v1 ∧ X.cell? ⟨L, 1, none⟩ = some v2) := fun X hX => by
    have hlt : L < w.heap.size := block_lt_of_cell c0
    exact ⟨h1.below hX, h2.below hX, by rw [hX.cell (p := ⟨L, 0, none⟩) hlt]; exact c0, by rw [hX.cell (p := ⟨L, 1, none⟩) hlt]; exact c1⟩
  have HG : Hid (∀ X (n : Nat), n ≤ 1048576 → Calls Tryz.prog 182 #[.slice none 0 0, .int .i64 (n : Int)] X fun e w' => (∃ v, e = .returned v ∧ OwnP w' X.heap.size v []) ∧ Below X.heap.size X w') := fun X n hn => growP_nil X n hn
  obtain ⟨a1, k1, e1, _⟩ := h1.form
  obtain ⟨a2, k2, e2, _⟩ := h2.form
  obtain ⟨n1, hn1⟩ : ∃ n, Hid (l1.length = n) := ⟨_, rfl⟩
  obtain ⟨n2, hn2⟩ : ∃ n, Hid (l2.length = n) := ⟨_, rfl⟩
  rw [hn1.out] at e1
  rw [hn2.out] at e2
  rw [hn1.out, hn2.out] at hl
  subst e1
  subst e2
  clear c0 c1 h1 h2
  go_enter Tryz.func141, Tryz.ntmps141
  go_wp2_with fail
  go_loopw [3, 11] (fun x i wr => wr = w ∧ ((i = .int .i64 0 ∧ x = .int .i64 0) ∨ (i = .int .i64 1 ∧ x = .int .i64 (n1 : Int)) ∨ (i = .int .i64 2 ∧ x = .int .i64 ((n1 : Int) + (n2 : Int))))) (fun _ i _ => 2 - (intOf i).toNat)
  case atStart => exact ⟨rfl, .inl ⟨rfl, rfl⟩⟩
  case round =>
    obtain ⟨rfl, hrel⟩ := hrel
    obtain ⟨_, _, p0, p1⟩ := H1.out _ (Below.refl _ _)
    rcases hrel with ⟨rfl, rfl⟩ | ⟨rfl, rfl⟩ | ⟨rfl, rfl⟩
    · have e1 : IntKind.i64.wrap (0 + (n1 : Int)) = (n1 : Int) := by unfold IntKind.wrap; simp [IntKind.signed, IntKind.bits]; omega
      have g : ¬ (n1 : Int) < 0 := by omega
      go_wp2_with fail
      go_roundw
      case rel => exact ⟨by trivial, .inr (.inl ⟨rfl, rfl⟩)⟩
      case measure => simp [intOf]
    · have e1 : IntKind.i64.wrap ((n1 : Int) + (n2 : Int)) = (n1 : Int) + (n2 : Int) := by unfold IntKind.wrap; simp [IntKind.signed, IntKind.bits]; omega
      have g : ¬ (n1 : Int) + (n2 : Int) < 0 := by omega
      go_wp2_with fail
      go_roundw
      case rel => exact ⟨by trivial, .inr (.inr ⟨rfl, rfl⟩)⟩
      case measure => simp [intOf]
    · have C := HG.out wr (n1 + n2) (by omega)
      rw [Int.natCast_add] at C
      go_wp2_with fail
      refine C.mono ?_
      rintro r w1 ⟨⟨v, rfl, ho⟩, hb1⟩
      obtain ⟨va, vc, rfl, _⟩ := ho.form
      simp only [List.length_nil] at ho ⊢
      have HB1 : Hid (Below wr.heap.size wr w1) := hb1
      have HO1 : Hid (OwnP w1 wr.heap.size (.slice va 0 vc) []) := ho
      clear C hb1 ho p0 p1
      go_wp2_with fail
      obtain ⟨wo, rfl⟩ : ∃ wo : World, wo = wr := ⟨_, rfl⟩
      go_loopw [6, 27] (fun x i wr => Below wo.heap.size wo wr ∧ ((i = .int .i64 0 ∧ OwnP wr wo.heap.size x []) ∨ (i = .int .i64 1 ∧ OwnP wr wo.heap.size x l1) ∨ (i = .int .i64 2 ∧ OwnP wr wo.heap.size x (l1 ++ l2)))) (fun _ i _ => 2 - (intOf i).toNat)
      case atStart => exact ⟨HB1.out, .inl ⟨rfl, HO1.out⟩⟩
      case round =>
        obtain ⟨hb, hrel⟩ := hrel
        obtain ⟨o1, o2, p0, p1⟩ := H1.out _ hb
        have HB : Hid (Below wo.heap.size wo wr) := hb
        clear HB1 HO1
        rcases hrel with ⟨rfl, ho⟩ | ⟨rfl, ho⟩ | ⟨rfl, ho⟩
        · go_wp2_with (at_builtin; refine wpList_append_ptrs _ rfl (.tmp 31) (.tmp 32) rfl wo.heap.size _ [] b1 _ l1 rfl ho rfl o1 (by rw [hn1.out]; simp; omega) HB.out.size ?_; intro v' w' ho' hb')
          go_roundw
          case rel => exact ⟨HB.out.trans hb', .inr (.inl ⟨rfl, ho'⟩)⟩
          case measure => simp [intOf]
        · go_wp2_with (at_builtin; refine wpList_append_ptrs _ rfl (.tmp 31) (.tmp 32) rfl wo.heap.size _ l1 b2 _ l2 rfl ho rfl o2 (by rw [hn1.out, hn2.out]; omega) HB.out.size ?_; intro v' w' ho' hb')
          go_roundw
          case rel => exact ⟨HB.out.trans hb', .inr (.inr ⟨rfl, ho'⟩)⟩
          case measure => simp [intOf]
        · go_wp2_with fail
          go_ret
          exact ⟨⟨_, rfl, ho⟩, HB.out⟩
set_option maxRecDepth 100000 in
set_option maxHeartbeats 8000000 in
theorem shAll_any (w : World) (v1 v2 : Value) (b : Nat) (l1 l2 : List Hdl) (h : TwoP w b v1 v2 l1 l2) (hl : l1.length + l2.length ≤ 1000000) :
    Calls Tryz.prog 87 #[.agg #[v1, v2]] w fun e w' => (∃ v, e = .returned v ∧ OwnP w' w.heap.size v (l1 ++ l2)) ∧ Below w.heap.size w w' := by
  obtain ⟨a1, k1, rfl, _⟩ := h.a.form
  obtain ⟨a2, k2, rfl, _⟩ := h.b.form
  have h1 := h.a
  have h2 := h.b
  clear h
  obtain ⟨n1, hn1⟩ : ∃ n, l1.length = n := ⟨_, rfl⟩
  obtain ⟨n2, hn2⟩ : ∃ n, l2.length = n := ⟨_, rfl⟩
  rw [hn1] at h1
  rw [hn2] at h2
  rw [hn1, hn2]
  obtain ⟨W, hW⟩ : ∃ W, W = (w.alloc (.cells #[.slice a1 n1 k1, .slice a2 n2 k2] 98)).alloc (.cells #[.slice a1 n1 k1, .slice a2 n2 k2] 94) := ⟨_, rfl⟩
  have HW : Hid (W = (w.alloc (.cells #[.slice a1 n1 k1, .slice a2 n2 k2] 98)).alloc (.cells #[.slice a1 n1 k1, .slice a2 n2 k2] 94)) := hW
  have bW : Below w.heap.size w W := by rw [hW]; exact ((Below.refl _ _).alloc (Nat.le_refl _) _).alloc (by simp) _
  have hs : W.heap.size = w.heap.size + 2 := by rw [hW]; simp
  have C : Hid (Calls Tryz.prog 141 #[.slice (some ⟨w.heap.size + 1, 0, none⟩) 2 2] W fun e w' => (∃ v, e = .returned v ∧ OwnP w' W.heap.size v (l1 ++ l2)) ∧ Below W.heap.size W w') := concatP_any W (w.heap.size + 1) (.slice a1 n1 k1) (.slice a2 n2 k2) b b l1 l2 (by rw [hW]; simp) (by rw [hW]; simp) (h1.below bW) (h2.below bW) hl
  have B0 : Hid (Below w.heap.size w W) := bW
  clear hW h1 h2 bW
  go_enter Tryz.func87, Tryz.ntmps87
  go_wp2_with fail
  rw [← HW.out]
  refine C.out.mono ?_
  rintro r w1 ⟨⟨v, rfl, ho⟩, hb1⟩
  have HB : Hid (Below w.heap.size w w1) := B0.out.trans (hb1.mono B0.out.size)
  have HO : Hid (OwnP w1 w.heap.size v (l1 ++ l2)) := ho.lower (by omega)
  clear hb1 ho C B0 HW
  go_wp2_with fail
  go_ret
  exact ⟨⟨_, rfl, HO.out⟩, HB.out⟩
end Go.Proofs.YtdooopkpnanekaaGreatDoor
/-
  Is it an entry? The specification's answer.
-/
namespace Go.Proofs.YtdooopkpnanekaaGreatDoor
open Go.ChangeShapes Go.WideShapes Go.ChangeAt Go.RowKit Go.Sort
def stB (st : Int) : Bool := decide (st = 200) || decide (st = 404) || decide (st = 410)
def pinB (p : Int) : Bool := decide (0 ≤ p) && decide (p ≤ 20)
def entryC (key : ByteArray) (st pins : Int) (hs : List Hdr) (bn tn : Nat) (t g l s e : Int) : Int :=
  if key.size < 1 ∨ 500 < key.size then 2 else
  if (stB st && pinB pins) = false then 3 else
  if headsC hs ≠ 0 then headsC hs else
  if 2000 < bn ∨ 10 < tn then 2 else metaC t g l s e
set_option maxHeartbeats 8000000 in
theorem specEntry_any (w : World) (key : ByteArray) (st : Int) (ha : Option Addr) (hc : Nat) (ba : Option Addr) (bc : Nat) (t g l s e : Int) (b1 b2 : Bool) (ta : Option Addr) (tc : Nat) (pins : Int) (hs : List Hdr) (bn tn : Nat) (hk : key.size ≤ maxLen) (hhl : hs.length ≤ 1048576) (hbn : bn ≤ maxLen) (htn : tn ≤ maxLen) (hH : HdsIn w ha hs) :
    Calls Tryz.prog 32 #[.agg #[.string key, .int .i64 st, .slice ha hs.length hc, .slice ba bn bc, .int .i64 t, .int .i64 g, .int .i64 l, .int .i64 s, .int .i64 e, .bool b1, .bool b2, .slice ta tn tc, .int .i64 pins]] w fun r w' => r = .returned (.int .i64 (entryC key st pins hs bn tn t g l s e)) ∧ Below w.heap.size w w' := by
  have HK : Hid (Below w.heap.size w (w.alloc (.cells #[.string key, .int .i64 st, .slice ha hs.length hc, .slice ba bn bc, .int .i64 t, .int .i64 g, .int .i64 l, .int .i64 s, .int .i64 e, .bool b1, .bool b2, .slice ta tn tc, .int .i64 pins] 52)) ∧ E13 (w.alloc (.cells #[.string key, .int .i64 st, .slice ha hs.length hc, .slice ba bn bc, .int .i64 t, .int .i64 g, .int .i64 l, .int .i64 s, .int .i64 e, .bool b1, .bool b2, .slice ta tn tc, .int .i64 pins] 52)) w.heap.size (.string key) (.int .i64 st) (.slice ha hs.length hc) (.slice ba bn bc) (.int .i64 t) (.int .i64 g) (.int .i64 l) (.int .i64 s) (.int .i64 e) (.bool b1) (.bool b2) (.slice ta tn tc) (.int .i64 pins)) := ⟨(Below.refl _ _).alloc (Nat.le_refl _) _, E13.new w _ _ _ _ _ _ _ _ _ _ _ _ _ _⟩
  have HI : Hid (∀ w, Calls Tryz.prog 93 #[.int .i64 pins, .int .i64 0, .int .i64 20] w fun r w' => r = .returned (.bool (pinB pins)) ∧ w' = w) := l1In_all pins 0 20
  have HH : Hid (∀ X, Below w.heap.size w X → Calls Tryz.prog 100 #[.slice ha hs.length hc] X fun e w' => e = .returned (.int .i64 (headsC hs)) ∧ Below X.heap.size X w') := fun X hb => specHFault_any X ha hc hs hhl (hH.keep hb)
  have HM : Hid (∀ X, Calls Tryz.prog 101 #[.agg #[.int .i64 t, .int .i64 g, .int .i64 l, .int .i64 s, .int .i64 e, .bool b1, .bool b2]] X fun r w' => r = .returned (.int .i64 (metaC t g l s e)) ∧ Below X.heap.size X w') := fun X => specMeta_any t g l s e b1 b2 X
  obtain ⟨Z, hZ⟩ : ∃ Z, entryC key st pins hs bn tn t g l s e = Z := ⟨_, rfl⟩
  rw [hZ]
  unfold entryC at hZ
  obtain ⟨hcd, hhc⟩ : ∃ x, headsC hs = x := ⟨_, rfl⟩
  obtain ⟨mcd, hmc⟩ : ∃ x, metaC t g l s e = x := ⟨_, rfl⟩
  obtain ⟨pb, hpb⟩ : ∃ x, pinB pins = x := ⟨_, rfl⟩
  rw [hhc] at HH hZ
  rw [hmc] at HM hZ
  rw [hpb] at HI hZ
  clear hhc hmc hpb hH hhl
  generalize hs.length = hl at *
  unfold maxLen at hk hbn htn
  have HZ : Hid (_ = Z) := hZ
  clear hZ
  by_cases c1 : key.size < 1
  · have HR := HZ.out
    rw [if_pos (.inl c1)] at HR
    rw [← HR]
    clear HR HZ
    go_enter Tryz.func32, Tryz.ntmps32
    go_wp2_with fail
    go_ret
    exact ⟨rfl, HK.out.1⟩
  by_cases c2 : 500 < key.size
  · have HR := HZ.out
    rw [if_pos (.inr c2)] at HR
    rw [← HR]
    clear HR HZ
    go_enter Tryz.func32, Tryz.ntmps32
    go_wp2_with fail
    go_ret
    exact ⟨rfl, HK.out.1⟩
  rw [if_neg (by omega)] at HZ
  by_cases hst : stB st = false
  · have HR := HZ.out
    rw [if_pos (by rw [hst]; rfl)] at HR
    rw [← HR]
    clear HR HZ
    unfold stB at hst
    have n1 : st ≠ 200 := fun q => by subst q; simp at hst
    have n2 : st ≠ 404 := fun q => by subst q; simp at hst
    have n3 : st ≠ 410 := fun q => by subst q; simp at hst
    clear hst
    go_enter Tryz.func32, Tryz.ntmps32
    go_wp2_with fail
    go_ret
    exact ⟨rfl, HK.out.1⟩
  have hst1 : stB st = true := by cases q : stB st <;> simp_all
  clear hst
  rw [hst1, Bool.true_and] at HZ
  have three : st = 200 ∨ st = 404 ∨ st = 410 := by unfold stB at hst1; simp at hst1; omega
  clear hst1
  rcases three with h | h | h
  · subst h
    cases pb
    · have HR := HZ.out
      rw [if_pos rfl] at HR
      rw [← HR]
      clear HR HZ
      go_enter Tryz.func32, Tryz.ntmps32
      go_wp2_with fail
      refine (HI.out _).mono ?_
      rintro r w1 ⟨rfl, rfl⟩
      go_wp2_with fail
      go_ret
      exact ⟨rfl, HK.out.1⟩
    rw [if_neg (by decide)] at HZ
    have HE : Hid (∀ X, Below w.heap.size w X → Calls Tryz.prog 100 #[.slice ha hl hc] X fun e w' => e = .returned (.int .i64 hcd) ∧ Below X.heap.size X w') := HH
    by_cases c3 : hcd ≠ 0
    · have HR := HZ.out
      rw [if_pos c3] at HR
      rw [← HR]
      clear HR HZ
      go_enter Tryz.func32, Tryz.ntmps32
      go_wp2_with fail
      refine (HI.out _).mono ?_
      rintro r w1 ⟨rfl, rfl⟩
      have q2 := HK.out.2.c2
      go_wp2_with fail
      refine (HH.out _ HK.out.1).mono ?_
      rintro r w2 ⟨rfl, hb2⟩
      have HB2 : Hid (Below w.heap.size w w2) := HK.out.1.trans (hb2.mono HK.out.1.size)
      clear hb2
      go_wp2_with fail
      go_ret
      exact ⟨rfl, HB2.out⟩
    rw [if_neg c3] at HZ
    have c3' : hcd = 0 := by omega
    subst c3'
    clear c3 HE
    by_cases c4 : 2000 < bn
    · have HR := HZ.out
      rw [if_pos (.inl c4)] at HR
      rw [← HR]
      clear HR HZ
      go_enter Tryz.func32, Tryz.ntmps32
      go_wp2_with fail
      refine (HI.out _).mono ?_
      rintro r w1 ⟨rfl, rfl⟩
      have q2 := HK.out.2.c2
      go_wp2_with fail
      refine (HH.out _ HK.out.1).mono ?_
      rintro r w2 ⟨rfl, hb2⟩
      have HK2 : Hid (Below w.heap.size w w2 ∧ E13 w2 w.heap.size (.string key) (.int .i64 200) (.slice ha hl hc) (.slice ba bn bc) (.int .i64 t) (.int .i64 g) (.int .i64 l) (.int .i64 s) (.int .i64 e) (.bool b1) (.bool b2) (.slice ta tn tc) (.int .i64 pins)) := ⟨HK.out.1.trans (hb2.mono HK.out.1.size), HK.out.2.keep hb2⟩
      clear hb2
      have k3 := HK2.out.2.c3
      have k4 := HK2.out.2.c4
      have k5 := HK2.out.2.c5
      have k6 := HK2.out.2.c6
      have k7 := HK2.out.2.c7
      have k8 := HK2.out.2.c8
      have k9 := HK2.out.2.c9
      have k10 := HK2.out.2.c10
      have k11 := HK2.out.2.c11
      go_wp2_with fail
      go_ret
      exact ⟨rfl, HK2.out.1⟩
    by_cases c5 : 10 < tn
    · have HR := HZ.out
      rw [if_pos (.inr c5)] at HR
      rw [← HR]
      clear HR HZ
      go_enter Tryz.func32, Tryz.ntmps32
      go_wp2_with fail
      refine (HI.out _).mono ?_
      rintro r w1 ⟨rfl, rfl⟩
      have q2 := HK.out.2.c2
      go_wp2_with fail
      refine (HH.out _ HK.out.1).mono ?_
      rintro r w2 ⟨rfl, hb2⟩
      have HK2 : Hid (Below w.heap.size w w2 ∧ E13 w2 w.heap.size (.string key) (.int .i64 200) (.slice ha hl hc) (.slice ba bn bc) (.int .i64 t) (.int .i64 g) (.int .i64 l) (.int .i64 s) (.int .i64 e) (.bool b1) (.bool b2) (.slice ta tn tc) (.int .i64 pins)) := ⟨HK.out.1.trans (hb2.mono HK.out.1.size), HK.out.2.keep hb2⟩
      clear hb2
      have k3 := HK2.out.2.c3
      have k4 := HK2.out.2.c4
      have k5 := HK2.out.2.c5
      have k6 := HK2.out.2.c6
      have k7 := HK2.out.2.c7
      have k8 := HK2.out.2.c8
      have k9 := HK2.out.2.c9
      have k10 := HK2.out.2.c10
      have k11 := HK2.out.2.c11
      go_wp2_with fail
      go_ret
      exact ⟨rfl, HK2.out.1⟩
    rw [if_neg (by omega)] at HZ
    · rw [← HZ.out]
      clear HZ
      go_enter Tryz.func32, Tryz.ntmps32
      go_wp2_with fail
      refine (HI.out _).mono ?_
      rintro r w1 ⟨rfl, rfl⟩
      have q2 := HK.out.2.c2
      go_wp2_with fail
      refine (HH.out _ HK.out.1).mono ?_
      rintro r w2 ⟨rfl, hb2⟩
      have HK2 : Hid (Below w.heap.size w w2 ∧ E13 w2 w.heap.size (.string key) (.int .i64 200) (.slice ha hl hc) (.slice ba bn bc) (.int .i64 t) (.int .i64 g) (.int .i64 l) (.int .i64 s) (.int .i64 e) (.bool b1) (.bool b2) (.slice ta tn tc) (.int .i64 pins)) := ⟨HK.out.1.trans (hb2.mono HK.out.1.size), HK.out.2.keep hb2⟩
      clear hb2
      have k3 := HK2.out.2.c3
      have k4 := HK2.out.2.c4
      have k5 := HK2.out.2.c5
      have k6 := HK2.out.2.c6
      have k7 := HK2.out.2.c7
      have k8 := HK2.out.2.c8
      have k9 := HK2.out.2.c9
      have k10 := HK2.out.2.c10
      have k11 := HK2.out.2.c11
      go_wp2_with fail
      refine (HM.out _).mono ?_
      rintro r w3 ⟨rfl, hb3⟩
      have HB3 : Hid (Below w.heap.size w w3) := HK2.out.1.trans (hb3.mono HK2.out.1.size)
      clear hb3
      go_wp2_with fail
      go_ret
      exact ⟨rfl, HB3.out⟩
  · subst h
    cases pb
    · have HR := HZ.out
      rw [if_pos rfl] at HR
      rw [← HR]
      clear HR HZ
      go_enter Tryz.func32, Tryz.ntmps32
      go_wp2_with fail
      refine (HI.out _).mono ?_
      rintro r w1 ⟨rfl, rfl⟩
      go_wp2_with fail
      go_ret
      exact ⟨rfl, HK.out.1⟩
    rw [if_neg (by decide)] at HZ
    have HE : Hid (∀ X, Below w.heap.size w X → Calls Tryz.prog 100 #[.slice ha hl hc] X fun e w' => e = .returned (.int .i64 hcd) ∧ Below X.heap.size X w') := HH
    by_cases c3 : hcd ≠ 0
    · have HR := HZ.out
      rw [if_pos c3] at HR
      rw [← HR]
      clear HR HZ
      go_enter Tryz.func32, Tryz.ntmps32
      go_wp2_with fail
      refine (HI.out _).mono ?_
      rintro r w1 ⟨rfl, rfl⟩
      have q2 := HK.out.2.c2
      go_wp2_with fail
      refine (HH.out _ HK.out.1).mono ?_
      rintro r w2 ⟨rfl, hb2⟩
      have HB2 : Hid (Below w.heap.size w w2) := HK.out.1.trans (hb2.mono HK.out.1.size)
      clear hb2
      go_wp2_with fail
      go_ret
      exact ⟨rfl, HB2.out⟩
    rw [if_neg c3] at HZ
    have c3' : hcd = 0 := by omega
    subst c3'
    clear c3 HE
    by_cases c4 : 2000 < bn
    · have HR := HZ.out
      rw [if_pos (.inl c4)] at HR
      rw [← HR]
      clear HR HZ
      go_enter Tryz.func32, Tryz.ntmps32
      go_wp2_with fail
      refine (HI.out _).mono ?_
      rintro r w1 ⟨rfl, rfl⟩
      have q2 := HK.out.2.c2
      go_wp2_with fail
      refine (HH.out _ HK.out.1).mono ?_
      rintro r w2 ⟨rfl, hb2⟩
      have HK2 : Hid (Below w.heap.size w w2 ∧ E13 w2 w.heap.size (.string key) (.int .i64 404) (.slice ha hl hc) (.slice ba bn bc) (.int .i64 t) (.int .i64 g) (.int .i64 l) (.int .i64 s) (.int .i64 e) (.bool b1) (.bool b2) (.slice ta tn tc) (.int .i64 pins)) := ⟨HK.out.1.trans (hb2.mono HK.out.1.size), HK.out.2.keep hb2⟩
      clear hb2
      have k3 := HK2.out.2.c3
      have k4 := HK2.out.2.c4
      have k5 := HK2.out.2.c5
      have k6 := HK2.out.2.c6
      have k7 := HK2.out.2.c7
      have k8 := HK2.out.2.c8
      have k9 := HK2.out.2.c9
      have k10 := HK2.out.2.c10
      have k11 := HK2.out.2.c11
      go_wp2_with fail
      go_ret
      exact ⟨rfl, HK2.out.1⟩
    by_cases c5 : 10 < tn
    · have HR := HZ.out
      rw [if_pos (.inr c5)] at HR
      rw [← HR]
      clear HR HZ
      go_enter Tryz.func32, Tryz.ntmps32
      go_wp2_with fail
      refine (HI.out _).mono ?_
      rintro r w1 ⟨rfl, rfl⟩
      have q2 := HK.out.2.c2
      go_wp2_with fail
      refine (HH.out _ HK.out.1).mono ?_
      rintro r w2 ⟨rfl, hb2⟩
      have HK2 : Hid (Below w.heap.size w w2 ∧ E13 w2 w.heap.size (.string key) (.int .i64 404) (.slice ha hl hc) (.slice ba bn bc) (.int .i64 t) (.int .i64 g) (.int .i64 l) (.int .i64 s) (.int .i64 e) (.bool b1) (.bool b2) (.slice ta tn tc) (.int .i64 pins)) := ⟨HK.out.1.trans (hb2.mono HK.out.1.size), HK.out.2.keep hb2⟩
      clear hb2
      have k3 := HK2.out.2.c3
      have k4 := HK2.out.2.c4
      have k5 := HK2.out.2.c5
      have k6 := HK2.out.2.c6
      have k7 := HK2.out.2.c7
      have k8 := HK2.out.2.c8
      have k9 := HK2.out.2.c9
      have k10 := HK2.out.2.c10
      have k11 := HK2.out.2.c11
      go_wp2_with fail
      go_ret
      exact ⟨rfl, HK2.out.1⟩
    rw [if_neg (by omega)] at HZ
    · rw [← HZ.out]
      clear HZ
      go_enter Tryz.func32, Tryz.ntmps32
      go_wp2_with fail
      refine (HI.out _).mono ?_
      rintro r w1 ⟨rfl, rfl⟩
      have q2 := HK.out.2.c2
      go_wp2_with fail
      refine (HH.out _ HK.out.1).mono ?_
      rintro r w2 ⟨rfl, hb2⟩
      have HK2 : Hid (Below w.heap.size w w2 ∧ E13 w2 w.heap.size (.string key) (.int .i64 404) (.slice ha hl hc) (.slice ba bn bc) (.int .i64 t) (.int .i64 g) (.int .i64 l) (.int .i64 s) (.int .i64 e) (.bool b1) (.bool b2) (.slice ta tn tc) (.int .i64 pins)) := ⟨HK.out.1.trans (hb2.mono HK.out.1.size), HK.out.2.keep hb2⟩
      clear hb2
      have k3 := HK2.out.2.c3
      have k4 := HK2.out.2.c4
      have k5 := HK2.out.2.c5
      have k6 := HK2.out.2.c6
      have k7 := HK2.out.2.c7
      have k8 := HK2.out.2.c8
      have k9 := HK2.out.2.c9
      have k10 := HK2.out.2.c10
      have k11 := HK2.out.2.c11
      go_wp2_with fail
      refine (HM.out _).mono ?_
      rintro r w3 ⟨rfl, hb3⟩
      have HB3 : Hid (Below w.heap.size w w3) := HK2.out.1.trans (hb3.mono HK2.out.1.size)
      clear hb3
      go_wp2_with fail
      go_ret
      exact ⟨rfl, HB3.out⟩
  · subst h
    cases pb
    · have HR := HZ.out
      rw [if_pos rfl] at HR
      rw [← HR]
      clear HR HZ
      go_enter Tryz.func32, Tryz.ntmps32
      go_wp2_with fail
      refine (HI.out _).mono ?_
      rintro r w1 ⟨rfl, rfl⟩
      go_wp2_with fail
      go_ret
      exact ⟨rfl, HK.out.1⟩
    rw [if_neg (by decide)] at HZ
    have HE : Hid (∀ X, Below w.heap.size w X → Calls Tryz.prog 100 #[.slice ha hl hc] X fun e w' => e = .returned (.int .i64 hcd) ∧ Below X.heap.size X w') := HH
    by_cases c3 : hcd ≠ 0
    · have HR := HZ.out
      rw [if_pos c3] at HR
      rw [← HR]
      clear HR HZ
      go_enter Tryz.func32, Tryz.ntmps32
      go_wp2_with fail
      refine (HI.out _).mono ?_
      rintro r w1 ⟨rfl, rfl⟩
      have q2 := HK.out.2.c2
      go_wp2_with fail
      refine (HH.out _ HK.out.1).mono ?_
      rintro r w2 ⟨rfl, hb2⟩
      have HB2 : Hid (Below w.heap.size w w2) := HK.out.1.trans (hb2.mono HK.out.1.size)
      clear hb2
      go_wp2_with fail
      go_ret
      exact ⟨rfl, HB2.out⟩
    rw [if_neg c3] at HZ
    have c3' : hcd = 0 := by omega
    subst c3'
    clear c3 HE
    by_cases c4 : 2000 < bn
    · have HR := HZ.out
      rw [if_pos (.inl c4)] at HR
      rw [← HR]
      clear HR HZ
      go_enter Tryz.func32, Tryz.ntmps32
      go_wp2_with fail
      refine (HI.out _).mono ?_
      rintro r w1 ⟨rfl, rfl⟩
      have q2 := HK.out.2.c2
      go_wp2_with fail
      refine (HH.out _ HK.out.1).mono ?_
      rintro r w2 ⟨rfl, hb2⟩
      have HK2 : Hid (Below w.heap.size w w2 ∧ E13 w2 w.heap.size (.string key) (.int .i64 410) (.slice ha hl hc) (.slice ba bn bc) (.int .i64 t) (.int .i64 g) (.int .i64 l) (.int .i64 s) (.int .i64 e) (.bool b1) (.bool b2) (.slice ta tn tc) (.int .i64 pins)) := ⟨HK.out.1.trans (hb2.mono HK.out.1.size), HK.out.2.keep hb2⟩
      clear hb2
      have k3 := HK2.out.2.c3
      have k4 := HK2.out.2.c4
      have k5 := HK2.out.2.c5
      have k6 := HK2.out.2.c6
      have k7 := HK2.out.2.c7
      have k8 := HK2.out.2.c8
      have k9 := HK2.out.2.c9
      have k10 := HK2.out.2.c10
      have k11 := HK2.out.2.c11
      go_wp2_with fail
      go_ret
      exact ⟨rfl, HK2.out.1⟩
    by_cases c5 : 10 < tn
    · have HR := HZ.out
      rw [if_pos (.inr c5)] at HR
      rw [← HR]
      clear HR HZ
      go_enter Tryz.func32, Tryz.ntmps32
      go_wp2_with fail
      refine (HI.out _).mono ?_
      rintro r w1 ⟨rfl, rfl⟩
      have q2 := HK.out.2.c2
      go_wp2_with fail
      refine (HH.out _ HK.out.1).mono ?_
      rintro r w2 ⟨rfl, hb2⟩
      have HK2 : Hid (Below w.heap.size w w2 ∧ E13 w2 w.heap.size (.string key) (.int .i64 410) (.slice ha hl hc) (.slice ba bn bc) (.int .i64 t) (.int .i64 g) (.int .i64 l) (.int .i64 s) (.int .i64 e) (.bool b1) (.bool b2) (.slice ta tn tc) (.int .i64 pins)) := ⟨HK.out.1.trans (hb2.mono HK.out.1.size), HK.out.2.keep hb2⟩
      clear hb2
      have k3 := HK2.out.2.c3
      have k4 := HK2.out.2.c4
      have k5 := HK2.out.2.c5
      have k6 := HK2.out.2.c6
      have k7 := HK2.out.2.c7
      have k8 := HK2.out.2.c8
      have k9 := HK2.out.2.c9
      have k10 := HK2.out.2.c10
      have k11 := HK2.out.2.c11
      go_wp2_with fail
      go_ret
      exact ⟨rfl, HK2.out.1⟩
    rw [if_neg (by omega)] at HZ
    · rw [← HZ.out]
      clear HZ
      go_enter Tryz.func32, Tryz.ntmps32
      go_wp2_with fail
      refine (HI.out _).mono ?_
      rintro r w1 ⟨rfl, rfl⟩
      have q2 := HK.out.2.c2
      go_wp2_with fail
      refine (HH.out _ HK.out.1).mono ?_
      rintro r w2 ⟨rfl, hb2⟩
      have HK2 : Hid (Below w.heap.size w w2 ∧ E13 w2 w.heap.size (.string key) (.int .i64 410) (.slice ha hl hc) (.slice ba bn bc) (.int .i64 t) (.int .i64 g) (.int .i64 l) (.int .i64 s) (.int .i64 e) (.bool b1) (.bool b2) (.slice ta tn tc) (.int .i64 pins)) := ⟨HK.out.1.trans (hb2.mono HK.out.1.size), HK.out.2.keep hb2⟩
      clear hb2
      have k3 := HK2.out.2.c3
      have k4 := HK2.out.2.c4
      have k5 := HK2.out.2.c5
      have k6 := HK2.out.2.c6
      have k7 := HK2.out.2.c7
      have k8 := HK2.out.2.c8
      have k9 := HK2.out.2.c9
      have k10 := HK2.out.2.c10
      have k11 := HK2.out.2.c11
      go_wp2_with fail
      refine (HM.out _).mono ?_
      rintro r w3 ⟨rfl, hb3⟩
      have HB3 : Hid (Below w.heap.size w w3) := HK2.out.1.trans (hb3.mono HK2.out.1.size)
      clear hb3
      go_wp2_with fail
      go_ret
      exact ⟨rfl, HB3.out⟩
end Go.Proofs.YtdooopkpnanekaaGreatDoor
/-
  Head lines read from a text, plainly. No Go in sight.
-/
namespace Go.Proofs.YtdooopkpnanekaaGreatDoor
/-- Where the first bytes 13 and 10 stand; the length where there are none. -/
def crAt : List UInt8 → Nat
  | [] => 0
  | [_] => 1
  | c :: d :: r => if c = 13 ∧ d = 10 then 0 else 1 + crAt (d :: r)
theorem crAt_le : ∀ l : List UInt8, crAt l ≤ l.length
  | [] => Nat.le_refl _
  | [_] => Nat.le_refl _
  | c :: d :: r => by
    have := crAt_le (d :: r)
    rw [crAt]
    split
    · exact Nat.zero_le _
    · simp only [List.length_cons] at this ⊢; omega
theorem crAt_room : ∀ l : List UInt8, crAt l < l.length → crAt l + 2 ≤ l.length
  | [], h => by simp [crAt] at h
  | [_], h => by simp [crAt] at h
  | c :: d :: r, h => by
    rw [crAt] at h ⊢
    by_cases e : c = 13 ∧ d = 10
    · rw [if_pos e]; simp only [List.length_cons]; omega
    · rw [if_neg e] at h ⊢
      have := crAt_room (d :: r) (by simp only [List.length_cons] at h ⊢; omega)
      simp only [List.length_cons] at this ⊢; omega
theorem crAt_on : ∀ (l : List UInt8) (k : Nat), k ≤ crAt l → (h : k + 1 < l.length) → (l[k] = 13 ∧ l[k + 1] = 10 → crAt l = k) ∧ (¬ (l[k] = 13 ∧ l[k + 1] = 10) → k + 1 ≤ crAt l)
  | [], k, _, h => by simp at h
  | [_], k, _, h => by simp at h
  | c :: d :: r, 0, _, h => by
    refine ⟨fun e => ?_, fun e => ?_⟩
    · rw [crAt, if_pos (by simpa using e)]
    · rw [crAt, if_neg (by simpa using e)]; omega
  | c :: d :: r, k + 1, hk, h => by
    rw [crAt] at hk ⊢
    by_cases e : c = 13 ∧ d = 10
    · rw [if_pos e] at hk; omega
    · rw [if_neg e] at hk ⊢
      have ih := crAt_on (d :: r) k (by omega) (by simp only [List.length_cons] at h ⊢; omega)
      refine ⟨fun x => ?_, fun x => ?_⟩
      · have := ih.1 (by simpa using x); omega
      · have := ih.2 (by simpa using x); omega
theorem crAt_end (l : List UInt8) (k : Nat) (hk : k ≤ crAt l) (h : ¬ k + 1 < l.length) : crAt l = l.length := by
  have h1 := crAt_le l
  by_cases c : crAt l < l.length
  · have := crAt_room l c; omega
  · omega
theorem crAt_is : ∀ l : List UInt8, crAt l < l.length → ([13, 10] : List UInt8).isPrefixOf (l.drop (crAt l)) = true
  | [], h => by simp [crAt] at h
  | [_], h => by simp [crAt] at h
  | c :: d :: r, h => by
    rw [crAt] at h ⊢
    by_cases e : c = 13 ∧ d = 10
    · rw [if_pos e]; simp [e.1, e.2, List.isPrefixOf]
    · rw [if_neg e] at h ⊢
      have := crAt_is (d :: r) (by simp only [List.length_cons] at h ⊢; omega)
      rw [show 1 + crAt (d :: r) = crAt (d :: r) + 1 from by omega, List.drop_succ_cons]
      exact this
theorem crAt_not : ∀ (l : List UInt8) (j : Nat), j < crAt l → ([13, 10] : List UInt8).isPrefixOf (l.drop j) = false
  | [], j, h => by simp [crAt] at h
  | [x], j, h => by
    have : j = 0 := by simp [crAt] at h; omega
    subst this
    simp [List.isPrefixOf]
  | c :: d :: r, j, h => by
    rw [crAt] at h
    by_cases e : c = 13 ∧ d = 10
    · rw [if_pos e] at h; omega
    · rw [if_neg e] at h
      cases j with
      | zero =>
        simp only [List.drop_zero, List.isPrefixOf, Bool.and_true]
        by_cases e1 : c = 13
        · have e2 : ¬ d = 10 := fun x => e ⟨e1, x⟩
          have : ((10 : UInt8) == d) = false := by rw [beq_eq_false_iff_ne]; exact fun x => e2 x.symm
          rw [this, Bool.and_false]
        · have : ((13 : UInt8) == c) = false := by rw [beq_eq_false_iff_ne]; exact fun x => e1 x.symm
          rw [this, Bool.false_and]
      | succ j => rw [List.drop_succ_cons]; exact crAt_not (d :: r) j (by omega)
theorem index_cr (l : List UInt8) : Lib.index l [13, 10] = if crAt l < l.length then (crAt l : Int) else -1 := by
  by_cases h : crAt l < l.length
  · rw [if_pos h]
    exact Lib.index_first (Nat.le_of_lt h) (crAt_is l h) (fun j hj => crAt_not l j hj)
  · rw [if_neg h]
    have e : crAt l = l.length := by have := crAt_le l; omega
    refine Lib.index_none fun j hj => ?_
    by_cases c : j < crAt l
    · exact crAt_not l j c
    · have : j = l.length := by omega
      subst this
      simp [Lib.occAt]
theorem cut_cr {l : List UInt8} (h : crAt l < l.length) : Lib.cut l [13, 10] = (l.take (crAt l), l.drop (crAt l + 2), true) := by
  unfold Lib.cut
  rw [index_cr, if_pos h, if_pos (by omega)]
  rfl
/-- Where the first colon stands; the length where there is none. -/
def clAt : List UInt8 → Nat
  | [] => 0
  | c :: r => if c = 58 then 0 else 1 + clAt r
theorem clAt_le : ∀ l : List UInt8, clAt l ≤ l.length
  | [] => Nat.le_refl _
  | c :: r => by
    have := clAt_le r
    rw [clAt]
    split
    · exact Nat.zero_le _
    · simp only [List.length_cons]; omega
theorem clAt_on : ∀ (l : List UInt8) (k : Nat), k ≤ clAt l → (h : k < l.length) → (l[k] = 58 → clAt l = k) ∧ (¬ l[k] = 58 → k + 1 ≤ clAt l)
  | [], k, _, h => by simp at h
  | c :: r, 0, _, h => by
    refine ⟨fun e => ?_, fun e => ?_⟩
    · rw [clAt, if_pos (by simpa using e)]
    · rw [clAt, if_neg (by simpa using e)]; omega
  | c :: r, k + 1, hk, h => by
    rw [clAt] at hk ⊢
    by_cases e : c = 58
    · rw [if_pos e] at hk; omega
    · rw [if_neg e] at hk ⊢
      have ih := clAt_on r k (by omega) (by simp only [List.length_cons] at h; omega)
      refine ⟨fun x => ?_, fun x => ?_⟩
      · have := ih.1 (by simpa using x); omega
      · have := ih.2 (by simpa using x); omega
theorem index_cl : ∀ l : List UInt8, Lib.index l [58] = if clAt l < l.length then (clAt l : Int) else -1
  | [] => by simp [Lib.index, clAt]
  | c :: r => by
    have ih := index_cl r
    rw [Lib.index, clAt]
    by_cases h : c = 58
    · rw [if_pos (by simp [List.isPrefixOf, h]), if_pos h]; simp
    · have h2 : ([58] : List UInt8).isPrefixOf (c :: r) = false := by
        simp only [List.isPrefixOf, Bool.and_true, beq_eq_false_iff_ne]
        exact fun x => h x.symm
      rw [h2, if_neg h, ih]
      by_cases q : clAt r < r.length
      · have q2 : 1 + clAt r < (c :: r).length := by simp only [List.length_cons]; omega
        have e1 : ((clAt r : Int) == -1) = false := by rw [beq_eq_false_iff_ne]; omega
        simp only [Bool.false_eq_true, if_false, if_pos q, if_pos q2, e1]
        omega
      · have q2 : ¬ 1 + clAt r < (c :: r).length := by simp only [List.length_cons]; omega
        simp only [Bool.false_eq_true, if_false, if_neg q, if_neg q2]
        rfl
theorem cut_cl {l : List UInt8} (h : clAt l < l.length) : Lib.cut l [58] = (l.take (clAt l), l.drop (clAt l + 1), true) := by
  unfold Lib.cut
  rw [index_cl, if_pos h, if_pos (by omega)]
  rfl
theorem cut_cl_no {l : List UInt8} (h : ¬ clAt l < l.length) : Lib.cut l [58] = (l, [], false) := by
  unfold Lib.cut
  rw [index_cl, if_neg h, if_neg (by omega)]
def hmk (p : List UInt8) : ByteArray := ⟨p.toArray⟩
theorem hmk_size (p : List UInt8) : (hmk p).size = p.length := by simp [hmk, ByteArray.size]
theorem hmk_list (p : List UInt8) : (hmk p).data.toList = p := by simp [hmk]
def lineOf (p : List UInt8) : Hdr := ⟨hmk (p.take (clAt p)), trimT (hmk (p.drop (clAt p + 1)))⟩
def lineR (p : List UInt8) : Option Hdr := if clAt p < p.length then some (lineOf p) else none
theorem lineR_yes {p : List UInt8} (h : clAt p < p.length) : lineR p = some (lineOf p) := by unfold lineR; rw [if_pos h]
theorem lineR_no {p : List UInt8} (h : ¬ clAt p < p.length) : lineR p = none := by unfold lineR; rw [if_neg h]
/-- The lines that the bytes 13 and 10 end; none: the last one is not ended. -/
def linesO (l : List UInt8) : Option (List (List UInt8)) :=
  if _h : l = [] then some [] else if crAt l < l.length then (linesO (l.drop (crAt l + 2))).map (l.take (crAt l) :: ·) else none
termination_by l.length
decreasing_by
  have := List.length_pos_iff.2 _h
  simp only [List.length_drop]; omega
theorem linesO_nil : linesO [] = some [] := by rw [linesO]; simp
theorem linesO_cut {l : List UInt8} (h : crAt l < l.length) : linesO l = (linesO (l.drop (crAt l + 2))).map (l.take (crAt l) :: ·) := by
  have h0 : ¬ l = [] := fun e => by subst e; simp [crAt] at h
  rw [linesO, dif_neg h0, if_pos h]
theorem linesO_bad {l : List UInt8} (h0 : ¬ l = []) (h : ¬ crAt l < l.length) : linesO l = none := by
  rw [linesO, dif_neg h0, if_neg h]
theorem linesO_len : ∀ (n : Nat) (l : List UInt8) (P : List (List UInt8)), l.length ≤ n → linesO l = some P → P.length ≤ l.length ∧ ∀ p ∈ P, p.length ≤ l.length := by
  intro n
  induction n with
  | zero =>
    intro l P hn h
    have : l = [] := List.eq_nil_of_length_eq_zero (by omega)
    subst this
    rw [linesO_nil] at h
    obtain rfl := Option.some.inj h
    simp
  | succ n ih =>
    intro l P hn h
    by_cases h0 : l = []
    · subst h0
      rw [linesO_nil] at h
      obtain rfl := Option.some.inj h
      simp
    · by_cases hc : crAt l < l.length
      · rw [linesO_cut hc] at h
        obtain ⟨Q, hQ, rfl⟩ := Option.map_eq_some_iff.1 h
        have hl := List.length_pos_iff.2 h0
        have := ih _ Q (by simp only [List.length_drop]; omega) hQ
        simp only [List.length_drop] at this
        refine ⟨by simp only [List.length_cons]; omega, fun p hp => ?_⟩
        rcases List.mem_cons.1 hp with rfl | hp
        · simp only [List.length_take]; omega
        · have := this.2 p hp; omega
      · rw [linesO_bad h0 hc] at h; cases h
theorem suffix_far {a b : UInt8} {p r : List UInt8} (h : 2 ≤ r.length) : ([a, b].isSuffixOf (p ++ r)) = ([a, b].isSuffixOf r) := by
  rw [Bool.eq_iff_iff, List.isSuffixOf_iff_suffix, List.isSuffixOf_iff_suffix]
  constructor
  · intro hs
    exact List.suffix_of_suffix_length_le hs (List.suffix_append _ _) (by simpa using h)
  · intro hs
    exact hs.trans (List.suffix_append _ _)
theorem linesO_suffix : ∀ (n : Nat) (l : List UInt8), l.length ≤ n → ¬ l = [] → (linesO l).isSome = ([13, 10] : List UInt8).isSuffixOf l := by
  intro n
  induction n with
  | zero => intro l hn h0; exact absurd (List.eq_nil_of_length_eq_zero (by omega)) h0
  | succ n ih =>
    intro l hn h0
    by_cases hc : crAt l < l.length
    · have hr := crAt_room l hc
      have hi := crAt_is l hc
      rw [linesO_cut hc, Option.isSome_map]
      have e : l = l.take (crAt l) ++ ([13, 10] ++ l.drop (crAt l + 2)) := by
        have h1 := (List.take_append_drop (crAt l) l).symm
        obtain ⟨t, ht⟩ := List.isPrefixOf_iff_prefix.1 hi
        have h2 : t = l.drop (crAt l + 2) := by
          have := congrArg (List.drop 2) ht
          simp only [List.drop_drop] at this
          simpa using this
        rw [← h2, ht]
        exact h1
      by_cases h3 : l.drop (crAt l + 2) = []
      · rw [h3, linesO_nil]
        rw [h3] at e
        symm
        rw [Option.isSome_some, List.isSuffixOf_iff_suffix, e]
        exact List.suffix_append _ _
      · rw [ih _ (by simp only [List.length_drop]; have := List.length_pos_iff.2 h0; omega) h3]
        generalize l.drop (crAt l + 2) = r at *
        generalize l.take (crAt l) = p at *
        subst e
        by_cases h4 : 2 ≤ r.length
        · rw [← List.append_assoc, suffix_far h4]
        · match r, h3, h4 with
          | [x], _, _ =>
            rw [Bool.eq_iff_iff, List.isSuffixOf_iff_suffix, List.isSuffixOf_iff_suffix]
            constructor
            · intro hs; have := hs.length_le; simp at this
            · rintro ⟨q, hq⟩
              have hq2 : (q ++ [13]) ++ [10] = (p ++ [13]) ++ ([10] ++ [x]) := by simpa using hq
              have h5 := congrArg List.reverse hq2
              simp at h5
          | _ :: _ :: _, _, h4 => exact absurd (by simp) h4
    · rw [linesO_bad h0 hc]
      symm
      rw [Option.isSome_none]
      cases hs : ([13, 10] : List UInt8).isSuffixOf l
      · rfl
      · obtain ⟨q, hq⟩ := List.isSuffixOf_iff_suffix.1 hs
        have hl : l.length = q.length + 2 := by rw [← hq]; simp
        have := crAt_le l
        have hn2 := crAt_not l q.length (by omega)
        rw [← hq] at hn2
        simp [List.isPrefixOf] at hn2
/-- All lines read. -/
def readLs : List (List UInt8) → Option (List Hdr)
  | [] => some []
  | p :: ps => match lineR p with
    | none => none
    | some r => (readLs ps).map (r :: ·)
theorem readLs_bad {p : List UInt8} {ps : List (List UInt8)} (h : ¬ clAt p < p.length) : readLs (p :: ps) = none := by rw [readLs, lineR_no h]
theorem readLs_take {p : List UInt8} {ps : List (List UInt8)} (h : clAt p < p.length) : readLs (p :: ps) = (readLs ps).map (lineOf p :: ·) := by rw [readLs, lineR_yes h]
def readT (l : List UInt8) : Option (List Hdr) := (linesO l).bind readLs
theorem readT_nil : readT [] = some [] := by unfold readT; rw [linesO_nil]; rfl
theorem readT_bad {l : List UInt8} (h : crAt l < l.length) (h2 : ¬ clAt (l.take (crAt l)) < (l.take (crAt l)).length) : readT l = none := by
  unfold readT
  rw [linesO_cut h]
  cases linesO (l.drop (crAt l + 2)) with
  | none => rfl
  | some P => simp only [Option.map_some, Option.bind_some]; rw [readLs_bad h2]
theorem readT_take {l : List UInt8} (h : crAt l < l.length) (h2 : clAt (l.take (crAt l)) < (l.take (crAt l)).length) : readT l = (readT (l.drop (crAt l + 2))).map (lineOf (l.take (crAt l)) :: ·) := by
  unfold readT
  rw [linesO_cut h]
  cases linesO (l.drop (crAt l + 2)) with
  | none => rfl
  | some P => simp only [Option.map_some, Option.bind_some]; rw [readLs_take h2]
def readHC (s : ByteArray) : Int := if 6000 < s.size then 2 else match readT s.data.toList with
  | none => 5
  | some L => headsC L
def readHL (s : ByteArray) : List Hdr := if 6000 < s.size then [] else match readT s.data.toList with
  | none => []
  | some L => if headsC L = 0 then L else []
theorem readH_long {s : ByteArray} (h : 6000 < s.size) : readHC s = 2 ∧ readHL s = [] := by unfold readHC readHL; rw [if_pos h, if_pos h]; exact ⟨rfl, rfl⟩
theorem readH_bad {s : ByteArray} (h : ¬ 6000 < s.size) (hr : readT s.data.toList = none) : readHC s = 5 ∧ readHL s = [] := by unfold readHC readHL; rw [if_neg h, if_neg h, hr]; exact ⟨rfl, rfl⟩
theorem readH_fault {s : ByteArray} {L : List Hdr} (h : ¬ 6000 < s.size) (hr : readT s.data.toList = some L) (hL : headsC L ≠ 0) : readHC s = headsC L ∧ readHL s = [] := by
  unfold readHC readHL; rw [if_neg h, if_neg h, hr]; exact ⟨rfl, if_neg hL⟩
theorem readH_ok {s : ByteArray} {L : List Hdr} (h : ¬ 6000 < s.size) (hr : readT s.data.toList = some L) (hL : headsC L = 0) : readHC s = 0 ∧ readHL s = L := by
  unfold readHC readHL; rw [if_neg h, if_neg h, hr]; exact ⟨hL, if_pos hL⟩
theorem readHL_len (s : ByteArray) : (readHL s).length ≤ 20 := by
  unfold readHL
  by_cases h : 6000 < s.size
  · rw [if_pos h]; exact Nat.zero_le _
  · rw [if_neg h]
    split
    · exact Nat.zero_le _
    · split
      · rename_i hc; exact (headsC_zero hc).1
      · exact Nat.zero_le _
end Go.Proofs.YtdooopkpnanekaaGreatDoor
/-
  Head lines that were packed are read back, plainly. No Go in sight.
-/
namespace Go.Proofs.YtdooopkpnanekaaGreatDoor
theorem trim_space {v : List UInt8} (h : Lib.trimS v [32, 9] = v) : Lib.trimS (32 :: v) [32, 9] = v := by
  unfold Lib.trimS Lib.trimLeftS Lib.trimRightS at *
  have p32 : ([32, 9] : List UInt8).contains 32 = true := by decide
  generalize hp : (fun x => ([32, 9] : List UInt8).contains x) = p at *
  have q32 : p 32 = true := by rw [← hp]; exact p32
  have l1 : ((v.reverse.dropWhile p).reverse.dropWhile p).length ≤ (v.reverse.dropWhile p).reverse.length := (List.dropWhile_sublist p).length_le
  have l2 : (v.reverse.dropWhile p).length ≤ v.reverse.length := (List.dropWhile_sublist p).length_le
  rw [h] at l1
  rw [List.length_reverse] at l1
  have e1 : v.reverse.dropWhile p = v.reverse := (List.dropWhile_sublist p).eq_of_length (by rw [List.length_reverse] at l2 ⊢; omega)
  rw [e1, List.reverse_reverse] at h
  cases hv : v.reverse with
  | nil =>
    have : v = [] := by simpa using hv
    subst this
    simp [q32]
  | cons x t =>
    rw [hv] at e1
    have hx : p x = false := by
      cases hpx : p x with
      | false => rfl
      | true =>
        rw [List.dropWhile_cons_of_pos hpx] at e1
        have := (List.dropWhile_sublist p (l := t)).length_le
        rw [e1, List.length_cons] at this
        omega
    have e2 : (32 :: v).reverse.dropWhile p = (32 :: v).reverse := by
      rw [List.reverse_cons, hv, List.cons_append, List.dropWhile_cons_of_neg (by rw [hx]; decide)]
    rw [e2, List.reverse_reverse, List.dropWhile_cons_of_pos q32]
    exact h
theorem crAt_line : ∀ (b r : List UInt8), (∀ c ∈ b, c ≠ 13) → crAt (b ++ 13 :: 10 :: r) = b.length
  | [], r, _ => by simp [crAt]
  | c :: b, r, h => by
    have ih := crAt_line b r (fun c hc => h c (by simp [hc]))
    obtain ⟨d, t, e⟩ : ∃ d t, b ++ 13 :: 10 :: r = d :: t := by cases b <;> simp
    rw [List.cons_append, e, crAt, if_neg (fun x => h c (by simp) x.1), ← e, ih]
    simp only [List.length_cons]; omega
theorem clAt_line : ∀ (n t : List UInt8), (∀ c ∈ n, c ≠ 58) → clAt (n ++ 58 :: t) = n.length
  | [], t, _ => by simp [clAt]
  | c :: n, t, h => by
    have ih := clAt_line n t (fun c hc => h c (by simp [hc]))
    rw [List.cons_append, clAt, if_neg (h c (by simp)), ih]
    simp only [List.length_cons]; omega
theorem word_mem {s : ByteArray} (h : wordS s = true) : ∀ c ∈ s.data.toList, c ≠ 58 ∧ c ≠ 13 := by
  have h2 : allW s.data.toList = true := by
    simp only [wordS, Bool.and_eq_true] at h
    exact h.2
  intro c hc
  have := List.all_eq_true.1 h2 c hc
  refine ⟨fun e => ?_, fun e => ?_⟩ <;> subst e <;> revert this <;> decide +kernel
theorem plain_mem {l : List UInt8} (h : plainL l = true) : ∀ c ∈ l, c ≠ 13 := by
  intro c hc e
  have := List.all_eq_true.1 h c hc
  subst e
  revert this
  decide
theorem lineOf_back {r : Hdr} (h : faultH r = 0) : lineOf (r.name.data.toList ++ 58 :: 32 :: r.value.data.toList) = r := by
  obtain ⟨hw, _, _, ht⟩ := faultH_zero h
  have hc := clAt_line r.name.data.toList (32 :: r.value.data.toList) (fun c hc => (word_mem hw c hc).1)
  unfold lineOf
  rw [hc, List.take_left]
  have e2 : (r.name.data.toList ++ 58 :: 32 :: r.value.data.toList).drop (r.name.data.toList.length + 1) = 32 :: r.value.data.toList := by
    rw [← List.drop_drop, List.drop_left]; rfl
  rw [e2]
  obtain ⟨n, v⟩ := r
  simp only at *
  have hn : hmk n.data.toList = n := (hof_list rfl).symm
  have hvv : trimT (hmk (32 :: v.data.toList)) = v := by
    have hv : Lib.trimS v.data.toList [32, 9] = v.data.toList := by
      have := congrArg (fun b : ByteArray => b.data.toList) ht
      simpa [trimT] using this
    unfold trimT
    rw [hmk_list, trim_space hv]
  rw [hn, hvv]
theorem read_pack : ∀ l : List Hdr, (∀ r ∈ l, faultH r = 0) → readT (packL l) = some l
  | [], _ => readT_nil
  | r :: l, h => by
    have ih := read_pack l (fun q hq => h q (by simp [hq]))
    have h0 := h r (by simp)
    obtain ⟨hw, hz, hp, ht⟩ := faultH_zero h0
    have hb := lineOf_back h0
    have hcl := clAt_line r.name.data.toList (32 :: r.value.data.toList) (fun c hc => (word_mem hw c hc).1)
    have e : packL (r :: l) = (r.name.data.toList ++ 58 :: 32 :: r.value.data.toList) ++ 13 :: 10 :: packL l := by simp [packL, lineL]
    have h13 : ∀ c ∈ r.name.data.toList ++ 58 :: 32 :: r.value.data.toList, c ≠ 13 := by
      intro c hc
      simp only [List.mem_append, List.mem_cons] at hc
      rcases hc with hc | rfl | rfl | hc
      · exact (word_mem hw c hc).2
      · decide
      · decide
      · exact plain_mem hp c hc
    have hlt : clAt (r.name.data.toList ++ 58 :: 32 :: r.value.data.toList) < (r.name.data.toList ++ 58 :: 32 :: r.value.data.toList).length := by rw [hcl]; simp only [List.length_append, List.length_cons]; omega
    rw [e]
    generalize r.name.data.toList ++ 58 :: 32 :: r.value.data.toList = b at *
    have hc := crAt_line b (packL l) h13
    have t1 : (b ++ 13 :: 10 :: packL l).take b.length = b := List.take_left
    have t2 : (b ++ 13 :: 10 :: packL l).drop (b.length + 2) = packL l := by rw [← List.drop_drop, List.drop_left]; rfl
    rw [readT_take (by rw [hc]; simp only [List.length_append, List.length_cons]; omega) (by rw [hc, t1]; exact hlt), hc, t1, t2, ih, hb]
    rfl
theorem packL_len4 : ∀ l : List Hdr, (∀ r ∈ l, faultH r = 0) → (packL l).length ≤ l.length * 268
  | [], _ => by simp [packL]
  | r :: l, h => by
    have ih := packL_len4 l (fun q hq => h q (by simp [hq]))
    have := lineL_len (h r (by simp))
    have e : packL (r :: l) = lineL r ++ packL l := by simp [packL]
    rw [e, List.length_append, List.length_cons]
    omega
theorem heads_mem {l : List Hdr} (h : headsC l = 0) : l.length ≤ 20 ∧ ∀ r ∈ l, faultH r = 0 := by
  obtain ⟨h1, h2⟩ := headsC_zero h
  refine ⟨h1, fun r hr => ?_⟩
  obtain ⟨i, hi⟩ := List.mem_iff_getElem?.1 hr
  exact h2 i r hi
theorem heads_of {l : List Hdr} (h1 : l.length ≤ 20) (h2 : ∀ r ∈ l, faultH r = 0) : headsC l = 0 := by rw [headsC_few (by omega)]; exact faultHL_of l h2
theorem pack_read {l : List Hdr} (h : headsC l = 0) : readHC (packT l) = 0 ∧ readHL (packT l) = l := by
  obtain ⟨h1, h2⟩ := heads_mem h
  have hl := packL_len4 l h2
  have hr := read_pack l h2
  rw [packT_ok h]
  exact readH_ok (by show ¬ 6000 < (packL l).toArray.size; rw [List.size_toArray]; omega) hr h
theorem read_heads {s : ByteArray} (h : readHC s = 0) : headsC (readHL s) = 0 := by
  by_cases c : 6000 < s.size
  · rw [(readH_long c).1] at h; omega
  · cases hr : readT s.data.toList with
    | none => rw [(readH_bad c hr).1] at h; omega
    | some L =>
      by_cases hL : headsC L = 0
      · rw [(readH_ok c hr hL).2]; exact hL
      · rw [(readH_fault c hr hL).1] at h; exact absurd h hL
end Go.Proofs.YtdooopkpnanekaaGreatDoor
/-
  What an entry costs, by the specification.
-/
namespace Go.Proofs.YtdooopkpnanekaaGreatDoor
open Go.ChangeShapes Go.WideShapes Go.ChangeAt Go.RowKit Go.Sort
/-- What an entry costs that has no fault. -/
def costN (key : ByteArray) (hs : List Hdr) (bn : Nat) : Int := 50 + ((key.size : Int) + ((packL hs).length : Int) + (bn : Int))
set_option maxHeartbeats 2000000 in
theorem l8Cost_at (w : World) (b off : Nat) (key : ByteArray) (ha : Option Addr) (hc : Nat) (hs : List Hdr) (ba : Option Addr) (bn bc : Nat)
    (h0 : w.cell? ⟨b, off, none⟩ = some (.string key)) (h2 : w.cell? ⟨b, off + 2, none⟩ = some (.slice ha hs.length hc)) (h3 : w.cell? ⟨b, off + 3, none⟩ = some (.slice ba bn bc))
    (hk : key.size ≤ 500) (hb : bn ≤ 2000) (hh : headsC hs = 0) (hH : HdsIn w ha hs) :
    Calls Tryz.prog 143 #[.pointer (some ⟨b, off, none⟩)] w fun r w' => r = .returned (.int .i64 (costN key hs bn)) ∧ Below w.heap.size w w' := by
  obtain ⟨h20, hfl⟩ := headsC_zero hh
  have hlen := packL_len4 hs (fun r hr => by obtain ⟨i, hi⟩ := List.mem_iff_getElem?.1 hr; exact hfl i r hi)
  have HC : Hid (∀ X, Below w.heap.size w X → Calls Tryz.prog 183 #[.slice ha hs.length hc] X fun e w' => e = .returned (.string ⟨(packL hs).toArray⟩) ∧ Below X.heap.size X w') := fun X hX => l4Pack_any X ha hc hs (by omega) (fun i r hr => by obtain ⟨x1, x2, _⟩ := faultH_zero (hfl i r hr); exact ⟨Nat.le_trans (hword_max x1) (by omega), by omega⟩) (hH.keep hX)
  have hsz : ((⟨(packL hs).toArray⟩ : ByteArray).size : Int) = ((packL hs).length : Int) := by simp [ByteArray.size]
  unfold costN
  have hlt : b < w.heap.size := block_lt_of_cell h0
  have HKS : Hid (∀ X, Below w.heap.size w X → X.cell? ⟨b, off, none⟩ = some (.string key) ∧ X.cell? ⟨b, off + 2, none⟩ = some (.slice ha hs.length hc) ∧ X.cell? ⟨b, off + 3, none⟩ = some (.slice ba bn bc)) := fun X hX => ⟨by rw [hX.cell (p := ⟨b, off, none⟩) hlt]; exact h0, by rw [hX.cell (p := ⟨b, off + 2, none⟩) hlt]; exact h2, by rw [hX.cell (p := ⟨b, off + 3, none⟩) hlt]; exact h3⟩
  generalize hP : (⟨(packL hs).toArray⟩ : ByteArray) = pk at *
  rw [← hsz]
  have hpk : pk.size ≤ 5360 := by omega
  clear hH hfl hlen hsz hh hP h20 h2 h3
  generalize hs.length = hl at *
  have B0 : Hid (Below w.heap.size w w.drew) := (Below.refl _ _).drew
  go_enter Tryz.func143, Tryz.ntmps143
  go_wp2_with fail
  go_region_held3 (fun X => X.cell? ⟨b, off, none⟩ = some (.string key) ∧ X.cell? ⟨b, off + 2, none⟩ = some (.slice ha hl hc) ∧ X.cell? ⟨b, off + 3, none⟩ = some (.slice ba bn bc))
    (first | exact HKS.out _ BA.out | exact HKS.out _ B0.out)
    (first | (go_at_call 183; refine (HC.out _ B0.out).mono ?_; rintro e0 wa ⟨rfl, hba⟩; have BA : Hid (Below w.heap.size w wa) := B0.out.trans (hba.mono B0.out.size); clear hba))
  all_goals
    have e1 : IntKind.i64.wrap ((key.size : Int) + (pk.size : Int)) = (key.size : Int) + (pk.size : Int) := by
      unfold IntKind.wrap; simp [IntKind.signed, IntKind.bits]; omega
    have e2 : IntKind.i64.wrap ((key.size : Int) + (pk.size : Int) + (bn : Int)) = (key.size : Int) + (pk.size : Int) + (bn : Int) := by
      unfold IntKind.wrap; simp [IntKind.signed, IntKind.bits]; omega
    have e3 : IntKind.i64.wrap (50 + ((key.size : Int) + (pk.size : Int) + (bn : Int))) = 50 + ((key.size : Int) + (pk.size : Int) + (bn : Int)) := by
      unfold IntKind.wrap; simp [IntKind.signed, IntKind.bits]; omega
    go_wp2_with fail
    rw [e1, e2, e3]
    go_ret
    exact ⟨rfl, BA.out⟩
end Go.Proofs.YtdooopkpnanekaaGreatDoor
/-
  What is kept with an answer: ages and phases, on both sides.
-/
namespace Go.Proofs.YtdooopkpnanekaaGreatDoor
open Go.ChangeShapes Go.WideShapes Go.ChangeAt Go.RowKit Go.Sort
theorem meta_ir (w w1 : World) (t g l s e : Int) (b1 b2 : Bool) (hb : Below (w.heap.size + 2) ((w.alloc (.cells #[.int .i64 t, .int .i64 g, .int .i64 l, .int .i64 s, .int .i64 e, .bool b1, .bool b2] 50)).alloc (.cells #[.int .i64 0, .int .i64 0] 69)) w1) : Below w.heap.size w w1 ∧ MetaAt w1 w.heap.size t g l s e b1 b2 ∧ IR w1 (w.heap.size + 1) (.int .i64 0) (.int .i64 0) := by
  obtain ⟨u, hu⟩ : ∃ X, X = w.alloc (.cells #[.int .i64 t, .int .i64 g, .int .i64 l, .int .i64 s, .int .i64 e, .bool b1, .bool b2] 50) := ⟨_, rfl⟩
  have a1 : Below w.heap.size w u := by rw [hu]; exact (Below.refl _ _).alloc (Nat.le_refl _) _
  have p1 : MetaAt u w.heap.size t g l s e b1 b2 := by rw [hu]; exact MetaAt.new w t g l s e b1 b2 _
  have ez : u.heap.size = w.heap.size + 1 := by rw [hu]; simp
  rw [← hu] at hb
  have i1 := IR.new u (.int .i64 0) (.int .i64 0) 69
  have a2 : Below u.heap.size u (u.alloc (.cells #[.int .i64 0, .int .i64 0] 69)) := (Below.refl _ _).alloc (Nat.le_refl _) _
  have hb' : Below (u.alloc (.cells #[.int .i64 0, .int .i64 0] 69)).heap.size (u.alloc (.cells #[.int .i64 0, .int .i64 0] 69)) w1 := by
    have : (u.alloc (.cells #[.int .i64 0, .int .i64 0] 69)).heap.size = w.heap.size + 2 := by simp [ez]
    rw [this]; exact hb
  refine ⟨a1.trans ((a2.mono a1.size).trans (hb.mono (by omega))), (p1.keep a2).keep hb', ?_⟩
  rw [← ez]
  exact i1.keep hb'
def firstP (b1 b2 : Bool) : Int := if b2 = true then 3 else if b1 = true then 2 else 1
end Go.Proofs.YtdooopkpnanekaaGreatDoor
/-
  CostOf, by the specification.
-/
namespace Go.Proofs.YtdooopkpnanekaaGreatDoor
open Go.ChangeShapes Go.WideShapes Go.ChangeAt Go.RowKit Go.Sort
theorem entryC_zero {key : ByteArray} {st pins : Int} {hs : List Hdr} {bn tn : Nat} {t g l s e : Int} (h : entryC key st pins hs bn tn t g l s e = 0) : (1 ≤ key.size ∧ key.size ≤ 500) ∧ stB st = true ∧ pinB pins = true ∧ headsC hs = 0 ∧ bn ≤ 2000 ∧ tn ≤ 10 ∧ metaC t g l s e = 0 := by
  unfold entryC at h
  split at h
  · omega
  split at h
  · omega
  split at h
  · contradiction
  split at h
  · omega
  rename_i c1 c2 c3 c4
  have hb : stB st = true ∧ pinB pins = true := by cases x : stB st <;> cases y : pinB pins <;> simp_all
  exact ⟨by omega, hb.1, hb.2, by omega, by omega, by omega, h⟩
end Go.Proofs.YtdooopkpnanekaaGreatDoor
/-
  What a store's fault is, plainly; what entries cost, by the model.
-/
namespace Go.Proofs.YtdooopkpnanekaaGreatDoor
open Go.ChangeShapes Go.WideShapes Go.ChangeAt Go.RowKit Go.Sort
def entC (x : Ent) : Int := entryC x.key x.st x.pins x.hs x.bl.length x.ts.length x.t x.g x.l x.s x.e
def entN (x : Ent) : Int := costN x.key x.hs x.bl.length
def faultE : List Ent → Int
  | [] => 0
  | x :: l => if entC x ≠ 0 then entC x else faultE l
def costsE : List Ent → Int
  | [] => 0
  | x :: l => entN x + costsE l
def keysE (l : List Ent) : List (List UInt8) := l.map (fun x => x.key.toList)
def dupE (l : List Ent) : Bool := !decide (keysE l).Nodup
def storeC (bu gu : Int) (tl kl : List Ent) : Int :=
  if bu < 0 ∨ 1000000 < bu ∨ gu < 0 ∨ bu < gu then 3 else
  if 40 < tl.length + kl.length then 2 else
  if faultE (tl ++ kl) ≠ 0 then faultE (tl ++ kl) else
  if dupE (tl ++ kl) = true then 6 else
  if bu < costsE (tl ++ kl) ∨ gu < costsE kl then 7 else 0
theorem faultE_zero : ∀ {l : List Ent}, faultE l = 0 → ∀ x ∈ l, entC x = 0
  | [], _, x, hx => by simp at hx
  | y :: l, h, x, hx => by
    unfold faultE at h
    by_cases c : entC y = 0
    · rw [if_neg (by simpa using c)] at h
      rcases List.mem_cons.1 hx with rfl | hx
      · exact c
      · exact faultE_zero h x hx
    · rw [if_pos c] at h; exact absurd h c
theorem faultE_app (l m : List Ent) (h : faultE (l ++ m) = 0) : faultE l = 0 ∧ faultE m = 0 := by
  induction l with
  | nil => exact ⟨rfl, h⟩
  | cons x l ih =>
    simp only [List.cons_append, faultE] at h ⊢
    by_cases c : entC x = 0
    · rw [if_neg (by simpa using c)] at h ⊢; exact ih h
    · rw [if_pos c] at h; exact absurd h c
theorem entN_le {x : Ent} (h : entC x = 0) : 0 ≤ entN x ∧ entN x ≤ 8000 := by
  obtain ⟨z1, _, _, z4, z5, _, _⟩ := entryC_zero h
  obtain ⟨h20, hfl⟩ := headsC_zero z4
  have hlen := packL_len4 x.hs (fun r hr => by obtain ⟨i, hi⟩ := List.mem_iff_getElem?.1 hr; exact hfl i r hi)
  unfold entN costN
  omega
theorem costsE_le : ∀ (l : List Ent), (∀ x ∈ l, entC x = 0) → 0 ≤ costsE l ∧ costsE l ≤ 8000 * l.length
  | [], _ => ⟨by simp [costsE], by simp [costsE]⟩
  | x :: l, h => by
    have a := entN_le (h x (by simp))
    have b := costsE_le l (fun y hy => h y (by simp [hy]))
    simp only [costsE, List.length_cons]
    omega
theorem costsE_app (l m : List Ent) : costsE (l ++ m) = costsE l + costsE m := by
  induction l with
  | nil => simp [costsE]
  | cons x l ih => simp only [List.cons_append, costsE, ih]; omega
set_option maxRecDepth 100000 in
set_option maxHeartbeats 4000000 in
theorem l8Costs_any (w : World) (a : Option Addr) (cap : Nat) (l : List (Ent × EntR)) (hl : l.length ≤ 40) (hi : EntsIn w a l) (hz : ∀ q ∈ l, entC q.1 = 0) :
    Calls Tryz.prog 95 #[.slice a l.length cap] w fun e w' => e = .returned (.int .i64 (costsE (l.map Prod.fst))) ∧ Below w.heap.size w w' := by
  have HI : Hid (EntsIn w a l) := hi
  have HZ : Hid (∀ q ∈ l, entC q.1 = 0) := hz
  clear hi hz
  obtain ⟨S, hS⟩ : ∃ S, Hid (costsE (l.map Prod.fst) = S) := ⟨_, rfl⟩
  rw [hS.out]
  generalize hn : l.length = n at *
  have HN : Hid (l.length = n) := hn
  clear hn
  go_enter Tryz.func95, Tryz.ntmps95
  go_wp2_with fail
  go_loopw [3, 4] (fun x i wr => ∃ (k : Nat) (c : Int), k ≤ n ∧ i = .int .i64 k ∧ x = .int .i64 c ∧ 0 ≤ c ∧ c ≤ 8000 * k ∧ S = c + costsE ((l.map Prod.fst).drop k) ∧ Below w.heap.size w wr) (fun _ i _ => n - (intOf i).toNat)
  case atStart => exact ⟨0, 0, Nat.zero_le _, rfl, rfl, by omega, by omega, by rw [← hS.out]; simp, Below.refl _ _⟩
  case round =>
    obtain ⟨k, c, hk, rfl, rfl, c2, c3, hs, hb⟩ := hrel
    have HS : Hid (S = c + costsE ((l.map Prod.fst).drop k)) := hs
    clear hs hS
    by_cases hlt : k < n
    · obtain ⟨q, hr⟩ : ∃ r, l[k]? = some r := ⟨l[k]'(by have := HN.out; omega), List.getElem?_eq_getElem _⟩
      rcases HI.out with h | ⟨b, off, rfl, hat⟩
      · subst h; simp at hr
      have PC := (hat.keep hb).cells hr
      have hin := (hat.keep hb).in hr
      have h0 := HZ.out q (List.mem_of_getElem? hr)
      have hle := entN_le h0
      have HS2 : Hid (S = c + entN q.1 + costsE ((l.map Prod.fst).drop (k + 1))) := by
        show _ = _
        obtain ⟨hk2, hr2⟩ := List.getElem?_eq_some_iff.1 hr
        rw [HS.out, List.drop_eq_getElem_cons (i := k) (by simpa using hk2), costsE]
        simp [hr2]
        omega
      have C : Hid (Calls Tryz.prog 143 #[.pointer (some ⟨b, off + k * 13, none⟩)] wr fun r w' => r = .returned (.int .i64 (entN q.1)) ∧ Below wr.heap.size wr w') := by
        obtain ⟨z1, _, _, z4, z5, _, _⟩ := entryC_zero h0
        exact l8Cost_at wr b (off + k * 13) q.1.key q.2.ha q.2.hc q.1.hs q.2.ba q.1.bl.length q.2.bc PC.1 PC.2.2.1 PC.2.2.2.1 z1.2 z5 z4 hin.h
      have g : (k : Int) < n := by omega
      have g0 : (0 : Int) ≤ k := by omega
      clear HS hr hat HI HZ PC hin h0
      generalize entN q.1 = en at *
      have e1 : IntKind.i64.wrap (c + en) = c + en := by
        unfold IntKind.wrap; simp [IntKind.signed, IntKind.bits]; omega
      go_wp2_with fail
      refine C.out.mono ?_
      rintro r w2 ⟨rfl, hb2⟩
      have HB2 : Hid (Below w.heap.size w w2) := hb.trans (hb2.mono hb.size)
      clear hb2 C hb
      go_wp2_with fail
      go_roundw
      case rel => exact ⟨k + 1, c + en, by omega, by go_num, by first | rfl | rw [e1], by omega, by omega, HS2.out, HB2.out⟩
      case measure => simp [intOf]; omega
    · have HF : Hid (S = c) := by
        show _ = _
        rw [HS.out, List.drop_of_length_le (by have := HN.out; simp; omega), costsE]
        omega
      clear HS
      go_wp2_with fail
      go_ret
      exact ⟨ret_int HF.out.symm, hb⟩
end Go.Proofs.YtdooopkpnanekaaGreatDoor
/-
  Is it a key? The program's answer.
-/
namespace Go.Proofs.YtdooopkpnanekaaGreatDoor
open Go.ChangeShapes Go.WideShapes Go.ChangeAt Go.RowKit Go.Sort
set_option maxHeartbeats 2000000 in
theorem isKey_one (key : ByteArray) (b : Bool) (hb : decide (1 ≤ key.size ∧ key.size ≤ 500) = b) (w : World) : Calls Tryz.prog 96 #[.string key] w fun r w' => r = .returned (.bool b) ∧ w' = w := by
  by_cases c1 : key.size < 1
  · have e : b = false := by rw [← hb]; simp; omega
    subst e
    clear hb
    go_enter Tryz.func96, Tryz.ntmps96
    go_wp2_with fail
    go_ret
    exact ⟨rfl, rfl⟩
  · by_cases c2 : 500 < key.size
    · have e : b = false := by rw [← hb]; simp; omega
      subst e
      clear hb
      go_enter Tryz.func96, Tryz.ntmps96
      go_wp2_with fail
      go_ret
      have d : decide ((key.size : Int) ≤ 500) = false := by simp; omega
      exact ⟨by simp [d], rfl⟩
    · have e : b = true := by rw [← hb]; simp; omega
      subst e
      clear hb
      go_enter Tryz.func96, Tryz.ntmps96
      go_wp2_with fail
      go_ret
      have d : decide ((key.size : Int) ≤ 500) = true := by simp; omega
      exact ⟨by simp [d], rfl⟩
end Go.Proofs.YtdooopkpnanekaaGreatDoor
/-
  Is it an entry? The program's answer.
-/
namespace Go.Proofs.YtdooopkpnanekaaGreatDoor
open Go.ChangeShapes Go.WideShapes Go.ChangeAt Go.RowKit Go.Sort
set_option maxHeartbeats 8000000 in
theorem implEntry_any (w : World) (key : ByteArray) (st : Int) (ha : Option Addr) (hc : Nat) (ba : Option Addr) (bc : Nat) (t g l s e : Int) (b1 b2 : Bool) (ta : Option Addr) (tc : Nat) (pins : Int) (hs : List Hdr) (bn tn : Nat) (hk : key.size ≤ maxLen) (hhl : hs.length ≤ 1048576) (hbn : bn ≤ maxLen) (htn : tn ≤ maxLen) (hset : SetIs w) (hH : HdsIn w ha hs) :
    Calls Tryz.prog 31 #[.agg #[.string key, .int .i64 st, .slice ha hs.length hc, .slice ba bn bc, .int .i64 t, .int .i64 g, .int .i64 l, .int .i64 s, .int .i64 e, .bool b1, .bool b2, .slice ta tn tc, .int .i64 pins]] w fun r w' => r = .returned (.int .i64 (entryC key st pins hs bn tn t g l s e)) ∧ Below w.heap.size w w' := by
  have HK : Hid (Below w.heap.size w (w.alloc (.cells #[.string key, .int .i64 st, .slice ha hs.length hc, .slice ba bn bc, .int .i64 t, .int .i64 g, .int .i64 l, .int .i64 s, .int .i64 e, .bool b1, .bool b2, .slice ta tn tc, .int .i64 pins] 52)) ∧ E13 (w.alloc (.cells #[.string key, .int .i64 st, .slice ha hs.length hc, .slice ba bn bc, .int .i64 t, .int .i64 g, .int .i64 l, .int .i64 s, .int .i64 e, .bool b1, .bool b2, .slice ta tn tc, .int .i64 pins] 52)) w.heap.size (.string key) (.int .i64 st) (.slice ha hs.length hc) (.slice ba bn bc) (.int .i64 t) (.int .i64 g) (.int .i64 l) (.int .i64 s) (.int .i64 e) (.bool b1) (.bool b2) (.slice ta tn tc) (.int .i64 pins)) := ⟨(Below.refl _ _).alloc (Nat.le_refl _) _, E13.new w _ _ _ _ _ _ _ _ _ _ _ _ _ _⟩
  have HI : Hid (∀ w, Calls Tryz.prog 97 #[.int .i64 st] w fun r w' => r = .returned (.bool (stB st)) ∧ w' = w) := mayKeep_any st
  have HH : Hid (∀ X, Below w.heap.size w X → Calls Tryz.prog 98 #[.slice ha hs.length hc] X fun e w' => e = .returned (.int .i64 (headsC hs)) ∧ Below X.heap.size X w') := fun X hb => implHFault_any X ha hc hs hhl (hset.below hb) (hH.keep hb)
  have HM : Hid (∀ X, Calls Tryz.prog 99 #[.agg #[.int .i64 t, .int .i64 g, .int .i64 l, .int .i64 s, .int .i64 e, .bool b1, .bool b2]] X fun r w' => r = .returned (.int .i64 (metaC t g l s e)) ∧ Below X.heap.size X w') := fun X => implMeta_any t g l s e b1 b2 X
  obtain ⟨Z, hZ⟩ : ∃ Z, entryC key st pins hs bn tn t g l s e = Z := ⟨_, rfl⟩
  rw [hZ]
  unfold entryC at hZ
  obtain ⟨hcd, hhc⟩ : ∃ x, headsC hs = x := ⟨_, rfl⟩
  obtain ⟨mcd, hmc⟩ : ∃ x, metaC t g l s e = x := ⟨_, rfl⟩
  obtain ⟨sb, hsb⟩ : ∃ x, stB st = x := ⟨_, rfl⟩
  rw [hhc] at HH hZ
  rw [hmc] at HM hZ
  rw [hsb] at HI hZ
  clear hhc hmc hsb hH hhl hset
  generalize hs.length = hl at *
  unfold maxLen at hk hbn htn
  have HZ : Hid (_ = Z) := hZ
  clear hZ
  by_cases c1 : key.size < 1
  · have HIK : Hid (∀ w, Calls Tryz.prog 96 #[.string key] w fun r w' => r = .returned (.bool false) ∧ w' = w) := fun w => isKey_one key false (by simp; omega) w
    have HR := HZ.out
    rw [if_pos (.inl c1)] at HR
    rw [← HR]
    clear HR HZ
    go_enter Tryz.func31, Tryz.ntmps31
    go_wp2_with fail
    refine (HIK.out _).mono ?_
    rintro r wk ⟨rfl, rfl⟩
    go_wp2_with fail
    go_ret
    exact ⟨rfl, HK.out.1⟩
  by_cases c2 : 500 < key.size
  · have HIK : Hid (∀ w, Calls Tryz.prog 96 #[.string key] w fun r w' => r = .returned (.bool false) ∧ w' = w) := fun w => isKey_one key false (by simp; omega) w
    have HR := HZ.out
    rw [if_pos (.inr c2)] at HR
    rw [← HR]
    clear HR HZ
    go_enter Tryz.func31, Tryz.ntmps31
    go_wp2_with fail
    refine (HIK.out _).mono ?_
    rintro r wk ⟨rfl, rfl⟩
    go_wp2_with fail
    go_ret
    exact ⟨rfl, HK.out.1⟩
  have HIK : Hid (∀ w, Calls Tryz.prog 96 #[.string key] w fun r w' => r = .returned (.bool true) ∧ w' = w) := fun w => isKey_one key true (by simp; omega) w
  rw [if_neg (by omega)] at HZ
  cases sb
  · have HR := HZ.out
    rw [if_pos (Bool.false_and _)] at HR
    rw [← HR]
    clear HR HZ
    go_enter Tryz.func31, Tryz.ntmps31
    go_wp2_with fail
    refine (HIK.out _).mono ?_
    rintro r wk ⟨rfl, rfl⟩
    go_wp2_with fail
    refine (HI.out _).mono ?_
    rintro r w1 ⟨rfl, rfl⟩
    go_wp2_with fail
    go_ret
    exact ⟨rfl, HK.out.1⟩
  rw [Bool.true_and] at HZ
  by_cases p1 : pins < 0
  · have HR := HZ.out
    rw [if_pos (by unfold pinB; simp; omega)] at HR
    rw [← HR]
    clear HR HZ
    go_enter Tryz.func31, Tryz.ntmps31
    go_wp2_with fail
    refine (HIK.out _).mono ?_
    rintro r wk ⟨rfl, rfl⟩
    go_wp2_with fail
    refine (HI.out _).mono ?_
    rintro r w1 ⟨rfl, rfl⟩
    have q12 := HK.out.2.c12
    go_wp2_with fail
    go_ret
    exact ⟨rfl, HK.out.1⟩
  by_cases p2 : 20 < pins
  · have HR := HZ.out
    rw [if_pos (by unfold pinB; simp; omega)] at HR
    rw [← HR]
    clear HR HZ
    go_enter Tryz.func31, Tryz.ntmps31
    go_wp2_with fail
    refine (HIK.out _).mono ?_
    rintro r wk ⟨rfl, rfl⟩
    go_wp2_with fail
    refine (HI.out _).mono ?_
    rintro r w1 ⟨rfl, rfl⟩
    have q12 := HK.out.2.c12
    go_wp2_with fail
    go_ret
    exact ⟨rfl, HK.out.1⟩
  rw [if_neg (by unfold pinB; simp; omega)] at HZ
  by_cases c3 : hcd ≠ 0
  · have HR := HZ.out
    rw [if_pos c3] at HR
    rw [← HR]
    clear HR HZ
    go_enter Tryz.func31, Tryz.ntmps31
    go_wp2_with fail
    refine (HIK.out _).mono ?_
    rintro r wk ⟨rfl, rfl⟩
    go_wp2_with fail
    refine (HI.out _).mono ?_
    rintro r w1 ⟨rfl, rfl⟩
    have q12 := HK.out.2.c12
    have q2 := HK.out.2.c2
    go_wp2_with fail
    refine (HH.out _ HK.out.1).mono ?_
    rintro r w2 ⟨rfl, hb2⟩
    have HB2 : Hid (Below w.heap.size w w2) := HK.out.1.trans (hb2.mono HK.out.1.size)
    clear hb2
    go_wp2_with fail
    go_ret
    exact ⟨rfl, HB2.out⟩
  rw [if_neg c3] at HZ
  have c3' : hcd = 0 := by omega
  subst c3'
  clear c3
  by_cases c4 : 2000 < bn
  · have HR := HZ.out
    rw [if_pos (.inl c4)] at HR
    rw [← HR]
    clear HR HZ
    go_enter Tryz.func31, Tryz.ntmps31
    go_wp2_with fail
    refine (HIK.out _).mono ?_
    rintro r wk ⟨rfl, rfl⟩
    go_wp2_with fail
    refine (HI.out _).mono ?_
    rintro r w1 ⟨rfl, rfl⟩
    have q12 := HK.out.2.c12
    have q2 := HK.out.2.c2
    go_wp2_with fail
    refine (HH.out _ HK.out.1).mono ?_
    rintro r w2 ⟨rfl, hb2⟩
    have HK2 : Hid (Below w.heap.size w w2 ∧ E13 w2 w.heap.size (.string key) (.int .i64 st) (.slice ha hl hc) (.slice ba bn bc) (.int .i64 t) (.int .i64 g) (.int .i64 l) (.int .i64 s) (.int .i64 e) (.bool b1) (.bool b2) (.slice ta tn tc) (.int .i64 pins)) := ⟨HK.out.1.trans (hb2.mono HK.out.1.size), HK.out.2.keep hb2⟩
    clear hb2
    have k3 := HK2.out.2.c3
    have k4 := HK2.out.2.c4
    have k5 := HK2.out.2.c5
    have k6 := HK2.out.2.c6
    have k7 := HK2.out.2.c7
    have k8 := HK2.out.2.c8
    have k9 := HK2.out.2.c9
    have k10 := HK2.out.2.c10
    have k11 := HK2.out.2.c11
    go_wp2_with fail
    go_ret
    exact ⟨rfl, HK2.out.1⟩
  by_cases c5 : 10 < tn
  · have HR := HZ.out
    rw [if_pos (.inr c5)] at HR
    rw [← HR]
    clear HR HZ
    go_enter Tryz.func31, Tryz.ntmps31
    go_wp2_with fail
    refine (HIK.out _).mono ?_
    rintro r wk ⟨rfl, rfl⟩
    go_wp2_with fail
    refine (HI.out _).mono ?_
    rintro r w1 ⟨rfl, rfl⟩
    have q12 := HK.out.2.c12
    have q2 := HK.out.2.c2
    go_wp2_with fail
    refine (HH.out _ HK.out.1).mono ?_
    rintro r w2 ⟨rfl, hb2⟩
    have HK2 : Hid (Below w.heap.size w w2 ∧ E13 w2 w.heap.size (.string key) (.int .i64 st) (.slice ha hl hc) (.slice ba bn bc) (.int .i64 t) (.int .i64 g) (.int .i64 l) (.int .i64 s) (.int .i64 e) (.bool b1) (.bool b2) (.slice ta tn tc) (.int .i64 pins)) := ⟨HK.out.1.trans (hb2.mono HK.out.1.size), HK.out.2.keep hb2⟩
    clear hb2
    have k3 := HK2.out.2.c3
    have k4 := HK2.out.2.c4
    have k5 := HK2.out.2.c5
    have k6 := HK2.out.2.c6
    have k7 := HK2.out.2.c7
    have k8 := HK2.out.2.c8
    have k9 := HK2.out.2.c9
    have k10 := HK2.out.2.c10
    have k11 := HK2.out.2.c11
    go_wp2_with fail
    go_ret
    exact ⟨rfl, HK2.out.1⟩
  rw [if_neg (by omega)] at HZ
  · rw [← HZ.out]
    clear HZ
    go_enter Tryz.func31, Tryz.ntmps31
    go_wp2_with fail
    refine (HIK.out _).mono ?_
    rintro r wk ⟨rfl, rfl⟩
    go_wp2_with fail
    refine (HI.out _).mono ?_
    rintro r w1 ⟨rfl, rfl⟩
    have q12 := HK.out.2.c12
    have q2 := HK.out.2.c2
    go_wp2_with fail
    refine (HH.out _ HK.out.1).mono ?_
    rintro r w2 ⟨rfl, hb2⟩
    have HK2 : Hid (Below w.heap.size w w2 ∧ E13 w2 w.heap.size (.string key) (.int .i64 st) (.slice ha hl hc) (.slice ba bn bc) (.int .i64 t) (.int .i64 g) (.int .i64 l) (.int .i64 s) (.int .i64 e) (.bool b1) (.bool b2) (.slice ta tn tc) (.int .i64 pins)) := ⟨HK.out.1.trans (hb2.mono HK.out.1.size), HK.out.2.keep hb2⟩
    clear hb2
    have k3 := HK2.out.2.c3
    have k4 := HK2.out.2.c4
    have k5 := HK2.out.2.c5
    have k6 := HK2.out.2.c6
    have k7 := HK2.out.2.c7
    have k8 := HK2.out.2.c8
    have k9 := HK2.out.2.c9
    have k10 := HK2.out.2.c10
    have k11 := HK2.out.2.c11
    go_wp2_with fail
    refine (HM.out _).mono ?_
    rintro r w3 ⟨rfl, hb3⟩
    have HB3 : Hid (Below w.heap.size w w3) := HK2.out.1.trans (hb3.mono HK2.out.1.size)
    clear hb3
    go_wp2_with fail
    go_ret
    exact ⟨rfl, HB3.out⟩
end Go.Proofs.YtdooopkpnanekaaGreatDoor
/-
  What an entry costs, by the program.
-/
namespace Go.Proofs.YtdooopkpnanekaaGreatDoor
open Go.ChangeShapes Go.WideShapes Go.ChangeAt Go.RowKit Go.Sort
theorem cfield_text (c : Int) (t : ByteArray) (w : World) : (Instr.field 177 (.agg #[.int .i64 c, .string t]) 1).run Tryz.prog w = .ok (.string t) w := by kernel_rfl
set_option maxRecDepth 100000 in
set_option maxHeartbeats 4000000 in
theorem costOne_at (w : World) (b off : Nat) (key : ByteArray) (ha : Option Addr) (hc : Nat) (hs : List Hdr) (ba : Option Addr) (bn bc : Nat) (hset : SetIs w)
    (h0 : w.cell? ⟨b, off, none⟩ = some (.string key)) (h2 : w.cell? ⟨b, off + 2, none⟩ = some (.slice ha hs.length hc)) (h3 : w.cell? ⟨b, off + 3, none⟩ = some (.slice ba bn bc))
    (hk : key.size ≤ 500) (hb : bn ≤ 2000) (hh : headsC hs = 0) (hH : HdsIn w ha hs) :
    Calls Tryz.prog 92 #[.pointer (some ⟨b, off, none⟩)] w fun r w' => r = .returned (.int .i64 (costN key hs bn)) ∧ Below w.heap.size w w' := by
  obtain ⟨h20, hfl⟩ := headsC_zero hh
  have hlen := packL_len4 hs (fun r hr => by obtain ⟨i, hi⟩ := List.mem_iff_getElem?.1 hr; exact hfl i r hi)
  have HC : Hid (∀ X, Below w.heap.size w X → Calls Tryz.prog 142 #[.slice ha hs.length hc] X fun e w' => e = .returned (.agg #[.int .i64 0, .string ⟨(packL hs).toArray⟩]) ∧ Below X.heap.size X w') := fun X hX => by
    have := implPack_any X ha hc hs (by omega) (hset.below hX) (hH.keep hX)
    rw [hh, show packT hs = ⟨(packL hs).toArray⟩ from by unfold packT; rw [if_pos hh]] at this
    exact this
  have hsz : ((⟨(packL hs).toArray⟩ : ByteArray).size : Int) = ((packL hs).length : Int) := by simp [ByteArray.size]
  unfold costN
  have hlt : b < w.heap.size := block_lt_of_cell h0
  have HKS : Hid (∀ X, Below w.heap.size w X → X.cell? ⟨b, off, none⟩ = some (.string key) ∧ X.cell? ⟨b, off + 2, none⟩ = some (.slice ha hs.length hc) ∧ X.cell? ⟨b, off + 3, none⟩ = some (.slice ba bn bc)) := fun X hX => ⟨by rw [hX.cell (p := ⟨b, off, none⟩) hlt]; exact h0, by rw [hX.cell (p := ⟨b, off + 2, none⟩) hlt]; exact h2, by rw [hX.cell (p := ⟨b, off + 3, none⟩) hlt]; exact h3⟩
  generalize hP : (⟨(packL hs).toArray⟩ : ByteArray) = pk at *
  rw [← hsz]
  have hpk : pk.size ≤ 5360 := by omega
  clear hH hfl hlen hsz hh hP h20 h2 h3 hset
  generalize hs.length = hl at *
  have hfd := cfield_text
  have e1 : IntKind.i64.wrap (50 + (key.size : Int)) = 50 + (key.size : Int) := by
    unfold IntKind.wrap; simp [IntKind.signed, IntKind.bits]; omega
  have e2 : IntKind.i64.wrap (50 + (key.size : Int) + (pk.size : Int)) = 50 + (key.size : Int) + (pk.size : Int) := by
    unfold IntKind.wrap; simp [IntKind.signed, IntKind.bits]; omega
  have e3 : IntKind.i64.wrap (50 + (key.size : Int) + (pk.size : Int) + (bn : Int)) = 50 + (key.size : Int) + (pk.size : Int) + (bn : Int) := by
    unfold IntKind.wrap; simp [IntKind.signed, IntKind.bits]; omega
  have B0 : Hid (Below w.heap.size w w.drew) := (Below.refl _ _).drew
  go_enter Tryz.func92, Tryz.ntmps92
  go_wp2_with fail
  go_region_held3 (fun X => X.cell? ⟨b, off, none⟩ = some (.string key) ∧ X.cell? ⟨b, off + 2, none⟩ = some (.slice ha hl hc) ∧ X.cell? ⟨b, off + 3, none⟩ = some (.slice ba bn bc))
    (first | exact HKS.out _ BA.out | exact HKS.out _ B0.out)
    (first | (go_at_call 142; refine (HC.out _ B0.out).mono ?_; rintro e0 wa ⟨rfl, hba⟩; have BA : Hid (Below w.heap.size w wa) := B0.out.trans (hba.mono B0.out.size); clear hba))
  all_goals
    go_wp2_with fail
    go_ret
    exact ⟨ret_int (by omega), BA.out⟩
set_option maxHeartbeats 8000000 in
theorem implCost_any (w : World) (key : ByteArray) (st : Int) (ha : Option Addr) (hc : Nat) (ba : Option Addr) (bc : Nat) (t g l s e : Int) (b1 b2 : Bool) (ta : Option Addr) (tc : Nat) (pins : Int) (hs : List Hdr) (bn tn : Nat) (hk : key.size ≤ maxLen) (hhl : hs.length ≤ 1048576) (hbn : bn ≤ maxLen) (htn : tn ≤ maxLen) (hset : SetIs w) (hH : HdsIn w ha hs) :
    Calls Tryz.prog 36 #[.agg #[.string key, .int .i64 st, .slice ha hs.length hc, .slice ba bn bc, .int .i64 t, .int .i64 g, .int .i64 l, .int .i64 s, .int .i64 e, .bool b1, .bool b2, .slice ta tn tc, .int .i64 pins]] w fun r w' => r = .returned (.agg #[.int .i64 (entryC key st pins hs bn tn t g l s e), .int .i64 (if entryC key st pins hs bn tn t g l s e = 0 then costN key hs bn else 0)]) ∧ Below w.heap.size w w' := by
  have HF : Hid (∀ X, Below w.heap.size w X → Calls Tryz.prog 31 #[.agg #[.string key, .int .i64 st, .slice ha hs.length hc, .slice ba bn bc, .int .i64 t, .int .i64 g, .int .i64 l, .int .i64 s, .int .i64 e, .bool b1, .bool b2, .slice ta tn tc, .int .i64 pins]] X fun r w' => r = .returned (.int .i64 (entryC key st pins hs bn tn t g l s e)) ∧ Below X.heap.size X w') := fun X hb => implEntry_any X key st ha hc ba bc t g l s e b1 b2 ta tc pins hs bn tn hk hhl hbn htn (hset.below hb) (hH.keep hb)
  have HC : Hid (entryC key st pins hs bn tn t g l s e = 0 → ∀ X, Below w.heap.size w X → E13 X w.heap.size (.string key) (.int .i64 st) (.slice ha hs.length hc) (.slice ba bn bc) (.int .i64 t) (.int .i64 g) (.int .i64 l) (.int .i64 s) (.int .i64 e) (.bool b1) (.bool b2) (.slice ta tn tc) (.int .i64 pins) → Calls Tryz.prog 92 #[.pointer (some ⟨w.heap.size, 0, none⟩)] X fun r w' => r = .returned (.int .i64 (costN key hs bn)) ∧ Below X.heap.size X w') := fun h0 X hb k => by
    obtain ⟨z1, _, _, z4, z5, _, _⟩ := entryC_zero h0
    exact costOne_at X w.heap.size 0 key ha hc hs ba bn bc (hset.below hb) k.c0 k.c2 k.c3 z1.2 z5 z4 (hH.keep hb)
  have K0 : Hid (Below w.heap.size w ((w.alloc (.cells #[.string key, .int .i64 st, .slice ha hs.length hc, .slice ba bn bc, .int .i64 t, .int .i64 g, .int .i64 l, .int .i64 s, .int .i64 e, .bool b1, .bool b2, .slice ta tn tc, .int .i64 pins] 52)).alloc (.cells #[.int .i64 0, .int .i64 0] 69)) ∧ E13 ((w.alloc (.cells #[.string key, .int .i64 st, .slice ha hs.length hc, .slice ba bn bc, .int .i64 t, .int .i64 g, .int .i64 l, .int .i64 s, .int .i64 e, .bool b1, .bool b2, .slice ta tn tc, .int .i64 pins] 52)).alloc (.cells #[.int .i64 0, .int .i64 0] 69)) w.heap.size (.string key) (.int .i64 st) (.slice ha hs.length hc) (.slice ba bn bc) (.int .i64 t) (.int .i64 g) (.int .i64 l) (.int .i64 s) (.int .i64 e) (.bool b1) (.bool b2) (.slice ta tn tc) (.int .i64 pins) ∧ IR ((w.alloc (.cells #[.string key, .int .i64 st, .slice ha hs.length hc, .slice ba bn bc, .int .i64 t, .int .i64 g, .int .i64 l, .int .i64 s, .int .i64 e, .bool b1, .bool b2, .slice ta tn tc, .int .i64 pins] 52)).alloc (.cells #[.int .i64 0, .int .i64 0] 69)) (w.heap.size + 1) (.int .i64 0) (.int .i64 0)) := by
    have b0 : Below w.heap.size w ((w.alloc (.cells #[.string key, .int .i64 st, .slice ha hs.length hc, .slice ba bn bc, .int .i64 t, .int .i64 g, .int .i64 l, .int .i64 s, .int .i64 e, .bool b1, .bool b2, .slice ta tn tc, .int .i64 pins] 52)).alloc (.cells #[.int .i64 0, .int .i64 0] 69)) := ((Below.refl _ _).alloc (Nat.le_refl _) _).alloc (by simp) _
    refine ⟨b0, (E13.new w _ _ _ _ _ _ _ _ _ _ _ _ _ _).keep ((Below.refl _ _).alloc (Nat.le_refl _) _), ?_⟩
    refine ⟨by simp, by simp, fun o => by simp, by simp⟩
  clear hH hk hbn htn hhl hset
  obtain ⟨fc, hfc⟩ : ∃ x, entryC key st pins hs bn tn t g l s e = x := ⟨_, rfl⟩
  rw [hfc] at HF HC ⊢
  clear hfc
  generalize hs.length = hl at *
  generalize costN key hs bn = cn at *
  by_cases c0 : fc = 0
  · subst c0
    have HC0 := HC.out rfl
    have HC1 : Hid (∀ X, Below w.heap.size w X → E13 X w.heap.size (.string key) (.int .i64 st) (.slice ha hl hc) (.slice ba bn bc) (.int .i64 t) (.int .i64 g) (.int .i64 l) (.int .i64 s) (.int .i64 e) (.bool b1) (.bool b2) (.slice ta tn tc) (.int .i64 pins) → Calls Tryz.prog 92 #[.pointer (some ⟨w.heap.size, 0, none⟩)] X fun r w' => r = .returned (.int .i64 cn) ∧ Below X.heap.size X w') := HC0
    clear HC HC0
    rw [if_pos rfl]
    go_enter Tryz.func36, Tryz.ntmps36
    go_wp2_with fail
    refine (HF.out _ K0.out.1).mono ?_
    rintro r w1 ⟨rfl, hb1⟩
    have K1 : Hid (Below w.heap.size w w1 ∧ E13 w1 w.heap.size (.string key) (.int .i64 st) (.slice ha hl hc) (.slice ba bn bc) (.int .i64 t) (.int .i64 g) (.int .i64 l) (.int .i64 s) (.int .i64 e) (.bool b1) (.bool b2) (.slice ta tn tc) (.int .i64 pins) ∧ IR w1 (w.heap.size + 1) (.int .i64 0) (.int .i64 0)) := ⟨K0.out.1.trans (hb1.mono K0.out.1.size), K0.out.2.1.keep hb1, K0.out.2.2.keep hb1⟩
    clear hb1 K0 HF
    go_wp2_with fail
    refine (HC1.out _ K1.out.1 K1.out.2.1).mono ?_
    rintro r w2 ⟨rfl, hb2⟩
    have K2 : Hid (Below w.heap.size w w2 ∧ E13 w2 w.heap.size (.string key) (.int .i64 st) (.slice ha hl hc) (.slice ba bn bc) (.int .i64 t) (.int .i64 g) (.int .i64 l) (.int .i64 s) (.int .i64 e) (.bool b1) (.bool b2) (.slice ta tn tc) (.int .i64 pins) ∧ IR w2 (w.heap.size + 1) (.int .i64 0) (.int .i64 0)) := ⟨K1.out.1.trans (hb2.mono K1.out.1.size), K1.out.2.1.keep hb2, K1.out.2.2.keep hb2⟩
    clear hb2 K1 HC1
    obtain ⟨r0, r1, rf, _⟩ := K2.out.2.2
    have rf0 := rf 0
    have rf1 := rf 1
    clear rf
    go_wp2_with fail
    refine bodyPost_ret (v := .agg #[.int .i64 0, .int .i64 cn]) ?_ rfl ⟨rfl, (K2.out.1.setCell (by simp) _).setCell (by simp) _⟩
    simp [results, Tryz.results36, go_sem, r0, r1]
  · rw [if_neg c0]
    clear HC
    go_enter Tryz.func36, Tryz.ntmps36
    go_wp2_with fail
    refine (HF.out _ K0.out.1).mono ?_
    rintro r w1 ⟨rfl, hb1⟩
    have K1 : Hid (Below w.heap.size w w1 ∧ E13 w1 w.heap.size (.string key) (.int .i64 st) (.slice ha hl hc) (.slice ba bn bc) (.int .i64 t) (.int .i64 g) (.int .i64 l) (.int .i64 s) (.int .i64 e) (.bool b1) (.bool b2) (.slice ta tn tc) (.int .i64 pins) ∧ IR w1 (w.heap.size + 1) (.int .i64 0) (.int .i64 0)) := ⟨K0.out.1.trans (hb1.mono K0.out.1.size), K0.out.2.1.keep hb1, K0.out.2.2.keep hb1⟩
    clear hb1 K0 HF
    obtain ⟨r0, r1, rf, _⟩ := K1.out.2.2
    have rf0 := rf 0
    have rf1 := rf 1
    clear rf
    go_wp2_with fail
    refine bodyPost_ret (v := .agg #[.int .i64 fc, .int .i64 0]) ?_ rfl ⟨rfl, (K1.out.1.setCell (by simp) _).setCell (by simp) _⟩
    simp [results, Tryz.results36, go_sem, r0, r1]
end Go.Proofs.YtdooopkpnanekaaGreatDoor
/-
  What the entries of a shelf cost together, by the program.
-/
namespace Go.Proofs.YtdooopkpnanekaaGreatDoor
open Go.ChangeShapes Go.WideShapes Go.ChangeAt Go.RowKit Go.Sort
theorem costOne_h (w : World) (h : Hdl) (hset : SetIs w) (ht : HThere w h) (h0 : entC h.x = 0) :
    Calls Tryz.prog 92 #[.pointer (some ⟨h.b, h.o, none⟩)] w fun r w' => r = .returned (.int .i64 (entN h.x)) ∧ Below w.heap.size w w' := by
  obtain ⟨z1, _, _, z4, z5, _, _⟩ := entryC_zero h0
  have c := ht.cells
  exact costOne_at w h.b h.o h.x.key h.r.ha h.r.hc h.x.hs h.r.ba h.x.bl.length h.r.bc hset c.1 c.2.2.1 c.2.2.2.1 z1.2 z5 z4 ht.2.h
set_option maxRecDepth 100000 in
set_option maxHeartbeats 8000000 in
theorem shSum_any (w : World) (v : Value) (base : Nat) (l : List Hdl) (ho : OwnP w base v l) (hset : SetIs w) (hl : l.length ≤ 41) (hth : ∀ h ∈ l, HThere w h) (hz : ∀ h ∈ l, entC h.x = 0) :
    Calls Tryz.prog 91 #[.agg #[v], .func (.func 92) #[] #[]] w fun e w' => e = .returned (.int .i64 (costsE (l.map Hdl.x))) ∧ Below w.heap.size w w' := by
  obtain ⟨va, vc, rfl, _, hf⟩ := ho.form
  have HC : Hid (∀ (k : Nat) h, l[k]? = some h → ∃ g, va = some ⟨g, 0, none⟩ ∧ g < w.heap.size ∧ w.cell? ⟨g, k, none⟩ = some (.pointer (some ⟨h.b, h.o, none⟩))) := fun k h hk => by
    rcases hf with rfl | ⟨g, e, _, hg, hc⟩
    · simp at hk
    · exact ⟨g, e, hg, hc k h hk⟩
  have HT : Hid (∀ X, Below w.heap.size w X → ∀ h ∈ l, Calls Tryz.prog 92 #[.pointer (some ⟨h.b, h.o, none⟩)] X fun r w' => r = .returned (.int .i64 (entN h.x)) ∧ Below X.heap.size X w') := fun X hX h hh => costOne_h X h (hset.below hX) ((hth h hh).keep hX) (hz h hh)
  have HZ : Hid (∀ h ∈ l, entC h.x = 0) := hz
  clear hf ho hth hz hset
  obtain ⟨S, hS⟩ : ∃ S, Hid (costsE (l.map Hdl.x) = S) := ⟨_, rfl⟩
  rw [hS.out]
  generalize hn : l.length = n at *
  have HN : Hid (l.length = n) := hn
  clear hn
  have B0 : Hid (Below w.heap.size w (w.alloc (.cells #[.slice va n vc] 96))) := (Below.refl _ _).alloc (Nat.le_refl _) _
  go_enter Tryz.func91, Tryz.ntmps91
  go_wp2_with fail
  go_loopw [5, 11] (fun x i wr => ∃ (k : Nat) (c : Int), k ≤ n ∧ i = .int .i64 k ∧ x = .int .i64 c ∧ 0 ≤ c ∧ c ≤ 8000 * k ∧ S = c + costsE ((l.map Hdl.x).drop k) ∧ Below w.heap.size w wr) (fun _ i _ => n - (intOf i).toNat)
  case atStart => exact ⟨0, 0, Nat.zero_le _, rfl, rfl, by omega, by omega, by rw [← hS.out]; simp, B0.out⟩
  case round =>
    obtain ⟨k, c, hk, rfl, rfl, c2, c3, hs, hb⟩ := hrel
    have HS : Hid (S = c + costsE ((l.map Hdl.x).drop k)) := hs
    clear hs hS B0
    by_cases hlt : k < n
    · obtain ⟨q, hr⟩ : ∃ r, l[k]? = some r := ⟨l[k]'(by have := HN.out; omega), List.getElem?_eq_getElem _⟩
      obtain ⟨g', rfl, hg, hc⟩ := HC.out k q hr
      have p1 : wr.cell? ⟨g', k, none⟩ = some (.pointer (some ⟨q.b, q.o, none⟩)) := by rw [hb.cell (p := ⟨g', k, none⟩) hg]; exact hc
      have hle := entN_le (HZ.out q (List.mem_of_getElem? hr))
      have HS2 : Hid (S = c + entN q.x + costsE ((l.map Hdl.x).drop (k + 1))) := by
        show _ = _
        obtain ⟨hk2, hr2⟩ := List.getElem?_eq_some_iff.1 hr
        rw [HS.out, List.drop_eq_getElem_cons (i := k) (by simpa using hk2), costsE]
        simp [hr2]
        omega
      have C : Hid (Calls Tryz.prog 92 #[.pointer (some ⟨q.b, q.o, none⟩)] wr fun r w' => r = .returned (.int .i64 (entN q.x)) ∧ Below wr.heap.size wr w') := HT.out wr hb q (List.mem_of_getElem? hr)
      have g : (k : Int) < n := by omega
      have g0 : (0 : Int) ≤ k := by omega
      have HB : Hid (Below w.heap.size w wr) := hb
      clear HS hr hc hb HC HT HZ hg
      generalize entN q.x = en at *
      have e1 : IntKind.i64.wrap (c + en) = c + en := by
        unfold IntKind.wrap; simp [IntKind.signed, IntKind.bits]; omega
      go_wp2_with fail
      refine C.out.mono ?_
      rintro r w2 ⟨rfl, hb2⟩
      have HB2 : Hid (Below w.heap.size w w2) := HB.out.trans (hb2.mono HB.out.size)
      clear hb2 C HB p1
      go_wp2_with fail
      go_roundw
      case rel => exact ⟨k + 1, c + en, by omega, by go_num, by first | rfl | rw [e1], by omega, by omega, HS2.out, HB2.out⟩
      case measure => simp [intOf]; omega
    · have HF : Hid (S = c) := by
        show _ = _
        rw [HS.out, List.drop_of_length_le (by have := HN.out; simp; omega), costsE]
        omega
      clear HS
      go_wp2_with fail
      go_ret
      exact ⟨ret_int HF.out.symm, hb⟩
set_option maxRecDepth 100000 in
set_option maxHeartbeats 8000000 in
theorem shCost_any (w : World) (v1 v2 : Value) (base : Nat) (l1 l2 : List Hdl) (h : TwoP w base v1 v2 l1 l2) (hset : SetIs w) (hl : l1.length + l2.length ≤ 41) (hth : ∀ h ∈ l1 ++ l2, HThere w h) (hz : ∀ h ∈ l1 ++ l2, entC h.x = 0) :
    Calls Tryz.prog 90 #[.agg #[v1, v2]] w fun e w' => e = .returned (.int .i64 (costsE ((l1 ++ l2).map Hdl.x))) ∧ Below w.heap.size w w' := by
  obtain ⟨a1, k1, e1, _⟩ := h.a.form
  obtain ⟨a2, k2, e2, _⟩ := h.b.form
  obtain ⟨W, hW⟩ : ∃ W, W = w.alloc (.cells #[v1, v2] 98) := ⟨_, rfl⟩
  have HW : Hid (W = w.alloc (.cells #[v1, v2] 98)) := hW
  have bW : Below w.heap.size w W := by rw [hW]; exact (Below.refl _ _).alloc (Nat.le_refl _) _
  have q0 := cell_regrown (show W.cell? ⟨w.heap.size, 0, none⟩ = some v1 by rw [hW]; simp)
  have q1 := cell_regrown (show W.cell? ⟨w.heap.size, 1, none⟩ = some v2 by rw [hW]; simp)
  have cA : ∀ d os, Calls Tryz.prog 91 #[.agg #[v1], .func (.func 92) #[] #[]] (grow (redrawn W d) os) fun e w'' => e = .returned (.int .i64 (costsE (l1.map Hdl.x))) ∧ ∃ p : Regrown, w'' = grow (redrawn W p.d) p.os := fun d os => by
    have b := bW.trans ((below_regrown W d os).mono bW.size)
    exact Calls.regrown_of (shSum_any _ v1 base l1 (h.a.below b) (hset.below b) (by omega) (fun x hx => (hth x (List.mem_append_left _ hx)).keep b) (fun x hx => hz x (List.mem_append_left _ hx)))
  have cB : ∀ d os, Calls Tryz.prog 91 #[.agg #[v2], .func (.func 92) #[] #[]] (grow (redrawn W d) os) fun e w'' => e = .returned (.int .i64 (costsE (l2.map Hdl.x))) ∧ ∃ p : Regrown, w'' = grow (redrawn W p.d) p.os := fun d os => by
    have b := bW.trans ((below_regrown W d os).mono bW.size)
    exact Calls.regrown_of (shSum_any _ v2 base l2 (h.b.below b) (hset.below b) (by omega) (fun x hx => (hth x (List.mem_append_right _ hx)).keep b) (fun x hx => hz x (List.mem_append_right _ hx)))
  have n1 := costsE_le (l1.map Hdl.x) (fun x hx => by obtain ⟨y, hy, rfl⟩ := List.mem_map.1 hx; exact hz y (List.mem_append_left _ hy))
  have n2 := costsE_le (l2.map Hdl.x) (fun x hx => by obtain ⟨y, hy, rfl⟩ := List.mem_map.1 hx; exact hz y (List.mem_append_right _ hy))
  rw [List.length_map] at n1 n2
  rw [List.map_append, costsE_app]
  have HB : Hid (Below w.heap.size w W) := bW
  clear hW bW h hth hz hset
  generalize costsE (l1.map Hdl.x) = s1 at *
  generalize costsE (l2.map Hdl.x) = s2 at *
  have ew : IntKind.i64.wrap (s1 + s2) = s1 + s2 := by
    unfold IntKind.wrap; simp [IntKind.signed, IntKind.bits]; omega
  subst e1
  subst e2
  go_enter Tryz.func90, Tryz.ntmps90
  go_wp2_with fail
  rw [← HW.out]
  refine wp_region_quiet_below (by kernel_rfl) (by kernel_rfl) ?_
  repeat (go_big_quiet_step (first | (go_at_call 91; with_reducible exact cA _ _) | (go_at_call 91; with_reducible exact cB _ _)))
  refine wpQuiet_nil ?_
  intro w2 hw2
  have hbb : Below w.heap.size w w2 := by
    obtain ⟨⟨d, os⟩, rfl⟩ := hw2
    exact HB.out.trans ((below_regrown W d os).mono HB.out.size)
  clear hw2 cA cB q0 q1 HW
  go_wp2_with fail
  go_ret
  exact ⟨rfl, hbb⟩
end Go.Proofs.YtdooopkpnanekaaGreatDoor
/-
  Has a key come twice? By the program, with a map.
-/
namespace Go.Proofs.YtdooopkpnanekaaGreatDoor
open Go.ChangeShapes Go.WideShapes Go.ChangeAt Go.RowKit Go.Maps
open Go.WideMaps (keyOf_string_mk)
/-- Block B is a map that has just the keys K. -/
def KeyMap (w : World) (B : Nat) (K : List ByteArray) : Prop :=
  ∃ D : DataW Unit, w.ownsMap Tryz.prog 9 (plainElem Tryz.prog 3) B K.length D ∧ (∀ x : ByteArray, Maps.has D (keyL x) = true ↔ x ∈ K) ∧ (K.Nodup → Maps.size D = K.length) ∧ (¬ K.Nodup → Maps.size D < K.length)
theorem KeyMap.lt {w : World} {B : Nat} {K : List ByteArray} (h : KeyMap w B K) : B < w.heap.size := by
  obtain ⟨D, h, _⟩ := h
  exact h.lt
theorem KeyMap.below {w w' : World} {B : Nat} {K : List ByteArray} (h : KeyMap w B K) (hb : Below w.heap.size w w') : KeyMap w' B K := by
  have hl := h.lt
  obtain ⟨D, ⟨es, clock, hh, r⟩, h2⟩ := h
  exact ⟨D, ⟨es, clock, by rw [hb.block B hl]; exact hh, r⟩, h2⟩
theorem KeyMap.made (w : World) : KeyMap (w.alloc (.map #[] 0)) w.heap.size [] :=
  ⟨.map [], World.ownsMap_made w _ _ _, fun x => by simp [Maps.has], fun _ => rfl, fun h => absurd List.nodup_nil h⟩
section
variable {ops : Array Oper} {rest : List Oper} {o : Oper} {a : Act} {Q : Exit → Act → World → Prop}
theorem wpList_putK (w : World) (hg : o.guard = none) (m x v : Operand) (hop : o.op = Op.mapUpdate 175 m x v) (B : Nat) (K : List ByteArray)
    (hm : a.eval m = .map (some B)) (hown : KeyMap w B K) (hn : K.length ≤ 1048576) (key : ByteArray) (hx : a.eval x = .string key) (hk : key.size ≤ maxLen) (i : Nat) (hi : i ≤ 1048576) (hv : a.eval v = .int .i64 (i : Int)) (base : Nat) (hbase : base ≤ B)
    (hK : ∀ w', KeyMap w' B (K ++ [key]) → Below base w w' → wpList Tryz.prog ops Q rest (a.put o.dst undef) w') : wpList Tryz.prog ops Q (o :: rest) a w := by
  obtain ⟨D, hD, hat, hs1, hs2⟩ := hown
  refine wpList_mapUpdate_in w hg m x v 175 hop 9 3 hkeyed Tryz.underlying175 _ B K.length D hm hD (by unfold maxLen; omega) _ _ (keyL key) hx hv (keyOf_string_mk Tryz.underlying9 hk) (.lit (.int .i64 (i : Int))) [] (plainElem_int Tryz.underlying3 (WalkArith.wf_i64 (by omega))) ?_
  intro w' hD' ht
  have hsz := size_put (k := keyL key) (hD.tidy hkeyed) (.lit (.int .i64 (i : Int)))
  have hle := hD.size_le
  have hlen : (K ++ [key]).length = K.length + 1 := by simp
  refine hK w' ⟨_, by rw [hlen]; exact hD', fun y => ?_, fun hnd => ?_, fun hnd => ?_⟩ (turned_below ht hbase)
  · rcases Classical.em (y = key) with e | e
    · subst e
      rw [has_put_same (k := keyL y) hD.isMap (isKeyL y) _]
      simp
    · rw [has_put_other (keyL_ne e), hat y]
      simp [e]
  · have h2 := List.nodup_append.1 hnd
    have hnot : ¬ key ∈ K := fun hmem => h2.2.2 key hmem key (by simp) rfl
    have hf : Maps.has D (keyL key) = false := by
      cases c : Maps.has D (keyL key)
      · rfl
      · exact absurd ((hat key).1 c) hnot
    rw [hsz, hf, hs1 h2.1, hlen]
    rfl
  · rw [hsz, hlen]
    rcases Classical.em (key ∈ K) with hmem | hmem
    · rw [(hat key).2 hmem]
      simp only [if_true]
      omega
    · have hf : Maps.has D (keyL key) = false := by
        cases c : Maps.has D (keyL key)
        · rfl
        · exact absurd ((hat key).1 c) hmem
      rw [hf]
      have hn2 : ¬ K.Nodup := fun hnk => hnd (List.nodup_append.2 ⟨hnk, by simp, fun a ha b hb => by simp only [List.mem_singleton] at hb; subst hb; exact fun e => hmem (e ▸ ha)⟩)
      have := hs2 hn2
      simp only [Bool.false_eq_true, if_false]
      omega
end
theorem keys_nodup (l : List Ent) : (l.map Ent.key).Nodup ↔ (keysE l).Nodup := by
  have e : keysE l = (l.map Ent.key).map ByteArray.toList := by simp [keysE]
  rw [e]
  have inj : ∀ a b : ByteArray, a.toList = b.toList → a = b := fun a b h => by
    rw [ByteArray.toList_eq, ByteArray.toList_eq] at h
    exact ByteArray.ext (Array.ext' h)
  constructor
  · intro h
    exact List.Pairwise.map _ (fun a b hab hc => hab (inj a b hc)) h
  · intro h
    exact List.Pairwise.of_map _ (fun a b hab hc => hab (by rw [hc])) h
set_option maxHeartbeats 1000000 in
theorem keyOf_one (w : World) (b o : Nat) (k : ByteArray) (h : w.cell? ⟨b, o, none⟩ = some (.string k)) :
    Calls Tryz.prog 89 #[.pointer (some ⟨b, o, none⟩)] w fun e w' => e = .returned (.string k) ∧ Below w.heap.size w w' := by
  go_enter Tryz.func89, Tryz.ntmps89
  go_wp2_with fail
  go_ret
  exact ⟨rfl, Below.refl _ _⟩
set_option maxRecDepth 100000 in
set_option maxHeartbeats 8000000 in
theorem keyTwice_any (w : World) (v : Value) (base : Nat) (l : List Hdl) (ho : OwnP w base v l) (hl : l.length ≤ 1000000) (hth : ∀ h ∈ l, HThere w h) (hz : ∀ h ∈ l, h.x.key.size ≤ maxLen) :
    Calls Tryz.prog 88 #[v, .func (.func 89) #[] #[]] w fun e w' => e = .returned (.bool (dupE (l.map Hdl.x))) ∧ Below w.heap.size w w' := by
  obtain ⟨va, vc, rfl, _, hf⟩ := ho.form
  have HC : Hid (∀ X, Below w.heap.size w X → ∀ (k : Nat) h, l[k]? = some h → ∃ g, va = some ⟨g, 0, none⟩ ∧ X.cell? ⟨g, k, none⟩ = some (.pointer (some ⟨h.b, h.o, none⟩)) ∧ X.cell? ⟨h.b, h.o, none⟩ = some (.string h.x.key) ∧ h.x.key.size ≤ maxLen) := fun X hX k h hk => by
    rcases hf with rfl | ⟨g, e, _, hg, hc⟩
    · simp at hk
    · have t := ((hth h (List.mem_of_getElem? hk)).keep hX).cells.1
      exact ⟨g, e, by rw [hX.cell (p := ⟨g, k, none⟩) hg]; exact hc k h hk, t, hz h (List.mem_of_getElem? hk)⟩
  clear hf ho hth hz
  obtain ⟨S, hS⟩ : ∃ S, Hid (dupE (l.map Hdl.x) = S) := ⟨_, rfl⟩
  rw [hS.out]
  generalize hn : l.length = n at *
  have HN : Hid (l.length = n) := hn
  clear hn
  have B0 : Hid (Below w.heap.size w (w.alloc (.map #[] 0))) := (Below.refl _ _).alloc (Nat.le_refl _) _
  have M0 : Hid (KeyMap (w.alloc (.map #[] 0)) w.heap.size []) := KeyMap.made w
  have hmm := @run_makeMap Tryz.prog
  go_enter Tryz.func88, Tryz.ntmps88
  go_wp2_with fail
  go_loopw [11] (fun i wr => ∃ k : Nat, k ≤ n ∧ i = .int .i64 k ∧ KeyMap wr w.heap.size ((l.map (fun h => h.x.key)).take k) ∧ Below w.heap.size w wr) (fun i _ => n - (intOf i).toNat)
  case atStart => exact ⟨0, Nat.zero_le _, rfl, M0.out, B0.out⟩
  case round =>
    obtain ⟨k, hk, rfl, hm, hb⟩ := hrel
    have HM : Hid (KeyMap wr w.heap.size ((l.map (fun h => h.x.key)).take k)) := hm
    clear hm M0 B0
    have HB : Hid (Below w.heap.size w wr) := hb
    by_cases hlt : k < n
    · obtain ⟨q, hr⟩ : ∃ r, l[k]? = some r := ⟨l[k]'(by have := HN.out; omega), List.getElem?_eq_getElem _⟩
      obtain ⟨g', rfl, hc, hc2, hks⟩ := HC.out _ hb k q hr
      have HK2 : Hid ((l.map (fun h => h.x.key)).take k ++ [q.x.key] = (l.map (fun h => h.x.key)).take (k + 1)) := by
        show _ = _
        obtain ⟨hk2, hr2⟩ := List.getElem?_eq_some_iff.1 hr
        rw [List.take_succ_eq_append_getElem (by simpa using hk2)]
        simp [hr2]
      have HLN : Hid (((l.map (fun h => h.x.key)).take k).length ≤ 1048576) := by
        show _ ≤ _
        rw [List.length_take, List.length_map, HN.out]
        omega
      have g : (k : Int) < n := by omega
      have g0 : (0 : Int) ≤ k := by omega
      clear hr hb HC
      generalize q.x.key = qk at *
      have C := keyOf_one wr q.b q.o qk hc2
      go_wp2_with fail
      refine C.mono ?_
      rintro e w2 ⟨rfl, hb2⟩
      have HM2 : Hid (KeyMap w2 w.heap.size ((l.map (fun h => h.x.key)).take k)) := HM.out.below hb2
      have HB2 : Hid (Below w.heap.size w w2) := HB.out.trans (hb2.mono HB.out.size)
      clear C hb2 HM HB hc hc2
      go_wp2_with (at_mapUpdate; refine wpList_putK _ rfl (.tmp 16) (.tmp 19) (.tmp 20) rfl w.heap.size _ rfl HM2.out HLN.out qk rfl hks k (by omega) rfl w.heap.size (Nat.le_refl _) ?_; intro w' hm' hb')
      rw [HK2.out] at hm'
      go_wp2_with fail
      go_roundw
      case rel => exact ⟨k + 1, by omega, by go_num, hm', HB2.out.trans hb'⟩
      case measure => simp [intOf]; omega
    · have hkn : k = n := by omega
      subst hkn
      obtain ⟨D, hD, _, hs1, hs2⟩ := HM.out
      have e : (l.map (fun h => h.x.key)).take k = (l.map Hdl.x).map Ent.key := by
        rw [List.take_of_length_le (by have := HN.out; simp; omega)]
        simp
      rw [e] at hs1 hs2
      have hlen : ((l.map Hdl.x).map Ent.key).length = k := by have := HN.out; simp; exact this
      have HE : Hid (decide (Maps.size D < k) = S) := by
        show _ = _
        rw [← hS.out]
        unfold dupE
        by_cases hd : (keysE (l.map Hdl.x)).Nodup
        · have := hs1 ((keys_nodup _).2 hd)
          rw [decide_eq_true hd]
          simp
          omega
        · have := hs2 (fun h => hd ((keys_nodup _).1 h))
          rw [decide_eq_false hd]
          simp
          omega
      have HD : Hid (wr.ownsMap Tryz.prog 9 (plainElem Tryz.prog 3) w.heap.size ((l.map (fun h => h.x.key)).take k).length D) := hD
      clear hD hs1 hs2 e HM hb
      go_wp2_with (at_len; refine wpList_len_own _ rfl (.tmp 22) 175 rfl 9 3 Tryz.underlying175 _ w.heap.size _ D rfl HD.out ?_)
      go_ret
      exact ⟨ret_bool HE.out, HB.out⟩
end Go.Proofs.YtdooopkpnanekaaGreatDoor
/-
  All entries of a store, by the model.
-/
namespace Go.Proofs.YtdooopkpnanekaaGreatDoor
open Go.ChangeShapes Go.WideShapes Go.ChangeAt Go.RowKit Go.Sort
set_option maxRecDepth 100000 in
set_option maxHeartbeats 8000000 in
theorem l8All_any (w : World) (S o : Nat) (ta ka : Option Addr) (tc kc : Nat) (tl kl : List (Ent × EntR)) (c2 : w.cell? ⟨S, o + 2, none⟩ = some (.slice ta tl.length tc)) (c3 : w.cell? ⟨S, o + 3, none⟩ = some (.slice ka kl.length kc)) (hl : tl.length + kl.length ≤ 1000000) (ht : EntsIn w ta tl) (hk : EntsIn w ka kl) :
    Calls Tryz.prog 94 #[.pointer (some ⟨S, o, none⟩)] w fun e w' => (∃ v, e = .returned v ∧ OwnE w' w.heap.size v (tl ++ kl)) ∧ Below w.heap.size w w' := by
  have hlt : S < w.heap.size := block_lt_of_cell c2
  have HKS : Hid (∀ X, Below w.heap.size w X → X.cell? ⟨S, o + 2, none⟩ = some (.slice ta tl.length tc) ∧ X.cell? ⟨S, o + 3, none⟩ = some (.slice ka kl.length kc)) := fun X hX => ⟨by rw [hX.cell (p := ⟨S, o + 2, none⟩) hlt]; exact c2, by rw [hX.cell (p := ⟨S, o + 3, none⟩) hlt]; exact c3⟩
  have HI : Hid (∀ X, Below w.heap.size w X → EntsIn X ta tl ∧ EntsIn X ka kl) := fun X hX => ⟨ht.keep hX, hk.keep hX⟩
  have B0 : Hid (Below w.heap.size w w.drew) := (Below.refl _ _).drew
  have B1 : Hid (Below w.heap.size w (w.drew.alloc (.cells #[] 52))) := ((Below.refl _ _).drew).alloc (Nat.le_refl _) _
  have O1 : Hid (OwnE (w.drew.alloc (.cells #[] 52)) w.heap.size (.slice (some ⟨w.heap.size, 0, none⟩) 0 0) []) := OwnE.made0 w.drew w.heap.size (Nat.le_refl _)
  clear c2 c3 ht hk
  obtain ⟨tn, htn⟩ : ∃ n, Hid (tl.length = n) := ⟨_, rfl⟩
  obtain ⟨kn, hkn⟩ : ∃ n, Hid (kl.length = n) := ⟨_, rfl⟩
  rw [htn.out, hkn.out] at HKS hl
  go_enter Tryz.func94, Tryz.ntmps94
  go_wp2_with fail
  go_region_held3 (fun X => X.cell? ⟨S, o + 2, none⟩ = some (.slice ta tn tc) ∧ X.cell? ⟨S, o + 3, none⟩ = some (.slice ka kn kc))
    (first | exact HKS.out _ BB.out | exact HKS.out _ BA.out | exact HKS.out _ B1.out | exact HKS.out _ B0.out)
    (first
    | (refine step_append_entsIn _ (by rfl) _ _ (by rfl) w.heap.size _ tl ka kc kn kl hkn.out (by rfl) OA.out (by rfl) (HI.out _ BA.out).2 (by rw [htn.out]; exact hl) BA.out.size ?_; intro v2 w2 ho2 hb2; have BB : Hid (Below w.heap.size w w2) := BA.out.trans hb2; have OB : Hid (OwnE w2 w.heap.size v2 (tl ++ kl)) := ho2; clear ho2 hb2)
    | (refine step_append_entsIn _ (by rfl) _ _ (by rfl) w.heap.size _ [] ta tc tn tl htn.out (by rfl) O1.out (by rfl) (HI.out _ B1.out).1 (by simp; omega) B1.out.size ?_; intro v1 w1 ho1 hb1; have BA : Hid (Below w.heap.size w w1) := B1.out.trans hb1; have OA : Hid (OwnE w1 w.heap.size v1 tl) := ho1; clear ho1 hb1))
  all_goals
    go_wp2_with fail
    go_ret
    exact ⟨⟨_, rfl, OB.out⟩, BB.out⟩
end Go.Proofs.YtdooopkpnanekaaGreatDoor
/-
  Is it a store? The specification's answer.
-/
namespace Go.Proofs.YtdooopkpnanekaaGreatDoor
open Go.ChangeShapes Go.WideShapes Go.ChangeAt Go.RowKit Go.Sort
/-- An entry that fits, its key too. -/
structure EntOk (x : Ent) : Prop where
  key : x.key.size ≤ maxLen
  h : x.hs.length ≤ 1048576
  b : x.bl.length ≤ maxLen
  t : x.ts.length ≤ maxLen
theorem specEntry_q (w : World) (q : Ent × EntR) (ho : EntOk q.1) (hi : EntIn w q.1 q.2) :
    Calls Tryz.prog 32 #[.agg #[.string q.1.key, .int .i64 q.1.st, .slice q.2.ha q.1.hs.length q.2.hc, .slice q.2.ba q.1.bl.length q.2.bc, .int .i64 q.1.t, .int .i64 q.1.g, .int .i64 q.1.l, .int .i64 q.1.s, .int .i64 q.1.e, .bool q.1.b1, .bool q.1.b2, .slice q.2.ta q.1.ts.length q.2.tc, .int .i64 q.1.pins]] w fun r w' => r = .returned (.int .i64 (entC q.1)) ∧ Below w.heap.size w w' :=
  specEntry_any w _ _ _ _ _ _ _ _ _ _ _ _ _ _ _ _ _ _ _ ho.key ho.h ho.b ho.t hi.h
theorem faultE_drop {l : List (Ent × EntR)} {k : Nat} {q : Ent × EntR} (h : l[k]? = some q) : faultE ((l.map Prod.fst).drop k) = if entC q.1 ≠ 0 then entC q.1 else faultE ((l.map Prod.fst).drop (k + 1)) := by
  obtain ⟨hk, rfl⟩ := List.getElem?_eq_some_iff.1 h
  rw [List.drop_eq_getElem_cons (i := k) (by simpa using hk), faultE]
  simp
theorem keys_at {l : List (Ent × EntR)} {k : Nat} {q : Ent × EntR} (h : l[k]? = some q) : (keysE (l.map Prod.fst))[k]? = some q.1.key.toList := by
  unfold keysE
  rw [List.getElem?_map, List.getElem?_map, h]
  rfl
theorem nodup_succ {K : List (List UInt8)} {k : Nat} {x : List UInt8} (h : (K.take k).Nodup) (hk : K[k]? = some x) (hn : ∀ (j : Nat) y, j < k → K[j]? = some y → ¬ x = y) : (K.take (k + 1)).Nodup := by
  obtain ⟨hlt, rfl⟩ := List.getElem?_eq_some_iff.1 hk
  rw [List.take_succ_eq_append_getElem hlt]
  refine List.nodup_append.2 ⟨h, by simp, ?_⟩
  intro a ha b hb
  simp only [List.mem_singleton] at hb
  subst hb
  obtain ⟨j, hj⟩ := List.mem_iff_getElem?.1 ha
  have hjk : j < k := by
    have := (List.getElem?_eq_some_iff.1 hj).1
    simp at this; omega
  rw [List.getElem?_take_of_lt hjk] at hj
  exact fun e => hn j a hjk hj e.symm
theorem dup_of {l : List (Ent × EntR)} {j k : Nat} {p q : Ent × EntR} (hjk : j < k) (hj : l[j]? = some p) (hk : l[k]? = some q) (e : q.1.key.toList = p.1.key.toList) : dupE (l.map Prod.fst) = true := by
  unfold dupE
  rw [Bool.not_eq_true', decide_eq_false_iff_not]
  intro hn
  have a := keys_at hj
  have b := keys_at hk
  rw [e] at b
  obtain ⟨h1, e1⟩ := List.getElem?_eq_some_iff.1 a
  obtain ⟨h2, e2⟩ := List.getElem?_eq_some_iff.1 b
  have := List.pairwise_iff_getElem.1 hn j k h1 h2 hjk
  rw [e1, e2] at this
  exact this rfl
set_option maxRecDepth 100000 in
set_option maxHeartbeats 16000000 in
theorem specSto_any (w : World) (bu gu : Int) (ta ka : Option Addr) (tc kc : Nat) (tl kl : List (Ent × EntR)) (hl : tl.length ≤ 1048576) (hk : kl.length ≤ 1048576) (hto : ∀ q ∈ tl ++ kl, EntOk q.1) (ht : EntsIn w ta tl) (hq : EntsIn w ka kl) :
    Calls Tryz.prog 30 #[.agg #[.int .i64 bu, .int .i64 gu, .slice ta tl.length tc, .slice ka kl.length kc]] w fun r w' => r = .returned (.int .i64 (storeC bu gu (tl.map Prod.fst) (kl.map Prod.fst))) ∧ Below w.heap.size w w' := by
  obtain ⟨W, hW⟩ : ∃ W, W = w.alloc (.cells #[.int .i64 bu, .int .i64 gu, .slice ta tl.length tc, .slice ka kl.length kc] 28) := ⟨_, rfl⟩
  have HW : Hid (W = w.alloc (.cells #[.int .i64 bu, .int .i64 gu, .slice ta tl.length tc, .slice ka kl.length kc] 28)) := hW
  have K0 : Hid (Below w.heap.size w W ∧ S4 W w.heap.size (.int .i64 bu) (.int .i64 gu) (.slice ta tl.length tc) (.slice ka kl.length kc)) := by
    rw [hW]; exact ⟨(Below.refl _ _).alloc (Nat.le_refl _) _, S4.new w _ _ _ _ _⟩
  have HI1 : Hid (∀ w, Calls Tryz.prog 93 #[.int .i64 bu, .int .i64 0, .int .i64 1000000] w fun r w' => r = .returned (.bool (decide (0 ≤ bu) && decide (bu ≤ 1000000))) ∧ w' = w) := l1In_all bu 0 1000000
  have HI2 : Hid (∀ w, Calls Tryz.prog 93 #[.int .i64 gu, .int .i64 0, .int .i64 bu] w fun r w' => r = .returned (.bool (decide (0 ≤ gu) && decide (gu ≤ bu))) ∧ w' = w) := l1In_all gu 0 bu
  obtain ⟨Z, hZ⟩ : ∃ Z, storeC bu gu (tl.map Prod.fst) (kl.map Prod.fst) = Z := ⟨_, rfl⟩
  rw [hZ]
  unfold storeC at hZ
  rw [← List.map_append, List.length_map, List.length_map] at hZ
  have HZ : Hid (_ = Z) := hZ
  have HALL : Hid (tl.length + kl.length ≤ 40 → Calls Tryz.prog 94 #[.pointer (some ⟨w.heap.size, 0, none⟩)] W fun e w' => (∃ v, e = .returned v ∧ OwnE w' W.heap.size v (tl ++ kl)) ∧ Below W.heap.size W w') := fun h40 => l8All_any W w.heap.size 0 ta ka tc kc tl kl K0.out.2.c2 K0.out.2.c3 (by omega) (ht.keep K0.out.1) (hq.keep K0.out.1)
  have HIN : Hid (∀ X, Below w.heap.size w X → (∀ q ∈ tl ++ kl, EntIn X q.1 q.2) ∧ EntsIn X ka kl) := fun X hX => by
    refine ⟨fun q hq' => ?_, hq.keep hX⟩
    rcases List.mem_append.1 hq' with h | h
    · rcases ht.keep hX with e | ⟨b, off, _, hat⟩
      · subst e; simp at h
      · obtain ⟨i, hi⟩ := List.mem_iff_getElem?.1 h; exact hat.in hi
    · rcases hq.keep hX with e | ⟨b, off, _, hat⟩
      · subst e; simp at h
      · obtain ⟨i, hi⟩ := List.mem_iff_getElem?.1 h; exact hat.in hi
  have HOK : Hid (∀ q ∈ tl ++ kl, EntOk q.1) := hto
  clear hZ hW ht hq hto
  have hlen : (tl ++ kl).length = tl.length + kl.length := by simp
  have HKL : Hid (∀ q ∈ kl, q ∈ tl ++ kl) := fun q hq => List.mem_append_right _ hq
  obtain ⟨al, hal⟩ : ∃ al, Hid (tl ++ kl = al) := ⟨_, rfl⟩
  rw [hal.out] at HALL HIN HOK HKL hlen
  rw [hal.out] at HZ
  clear hal
  obtain ⟨tn, htn⟩ : ∃ n, Hid (tl.length = n) := ⟨_, rfl⟩
  obtain ⟨kn, hkn⟩ : ∃ n, Hid (kl.length = n) := ⟨_, rfl⟩
  rw [htn.out, hkn.out] at K0 HZ HALL HW hlen
  rw [htn.out] at hl
  rw [hkn.out] at hk
  rw [htn.out, hkn.out]
  have HLN : Hid (al.length = tn + kn) := hlen
  clear hlen htn
  by_cases c1 : bu < 0 ∨ 1000000 < bu
  · have HR : Hid (3 = Z) := by have := HZ.out; rw [if_pos (by omega)] at this; exact this
    have e1 : (decide (0 ≤ bu) && decide (bu ≤ 1000000)) = false := by simp; omega
    rw [e1] at HI1
    clear HZ HALL HIN HOK
    go_enter Tryz.func30, Tryz.ntmps30
    go_wp2_with fail
    refine (HI1.out _).mono ?_
    rintro r w1 ⟨rfl, rfl⟩
    go_wp2_with fail
    go_ret
    exact ⟨ret_int HR.out, HW.out ▸ K0.out.1⟩
  have e1 : (decide (0 ≤ bu) && decide (bu ≤ 1000000)) = true := by simp; omega
  rw [e1] at HI1
  clear e1
  by_cases c2 : gu < 0 ∨ bu < gu
  · have HR : Hid (3 = Z) := by have := HZ.out; rw [if_pos (by omega)] at this; exact this
    have e1 : (decide (0 ≤ gu) && decide (gu ≤ bu)) = false := by simp; omega
    rw [e1] at HI2
    clear HZ HALL HIN HOK
    go_enter Tryz.func30, Tryz.ntmps30
    go_wp2_with fail
    refine (HI1.out _).mono ?_
    rintro r w1 ⟨rfl, rfl⟩
    go_wp2_with fail
    refine (HI2.out _).mono ?_
    rintro r w1 ⟨rfl, rfl⟩
    go_wp2_with fail
    go_ret
    exact ⟨ret_int HR.out, HW.out ▸ K0.out.1⟩
  have e1 : (decide (0 ≤ gu) && decide (gu ≤ bu)) = true := by simp; omega
  rw [e1] at HI2
  clear e1
  rw [if_neg (by omega)] at HZ
  have ew : IntKind.i64.wrap ((tn : Int) + (kn : Int)) = (tn : Int) + (kn : Int) := by
    unfold IntKind.wrap; simp [IntKind.signed, IntKind.bits]; omega
  by_cases c3 : 40 < tn + kn
  · have HR : Hid (2 = Z) := by have := HZ.out; rw [if_pos c3] at this; exact this
    have g3 : (40 : Int) < (tn : Int) + (kn : Int) := by omega
    clear HZ HALL HIN HOK
    go_enter Tryz.func30, Tryz.ntmps30
    go_wp2_with fail
    refine (HI1.out _).mono ?_
    rintro r w1 ⟨rfl, rfl⟩
    go_wp2_with fail
    refine (HI2.out _).mono ?_
    rintro r w1 ⟨rfl, rfl⟩
    go_wp2_with fail
    go_ret
    exact ⟨ret_int HR.out, HW.out ▸ K0.out.1⟩
  have HZ2 : Hid ((if faultE (al.map Prod.fst) ≠ 0 then faultE (al.map Prod.fst) else if dupE (al.map Prod.fst) = true then 6 else if bu < costsE (al.map Prod.fst) ∨ gu < costsE (kl.map Prod.fst) then 7 else 0) = Z) := by have := HZ.out; rw [if_neg c3] at this; exact this
  have g3 : ¬ (40 : Int) < (tn : Int) + (kn : Int) := by omega
  clear HZ
  have C0 := HALL.out (by omega)
  have CA : Hid (Calls Tryz.prog 94 #[.pointer (some ⟨w.heap.size, 0, none⟩)] W fun e w' => (∃ v, e = .returned v ∧ OwnE w' W.heap.size v al) ∧ Below W.heap.size W w') := C0
  clear HALL C0
  go_enter Tryz.func30, Tryz.ntmps30
  go_wp2_with fail
  refine (HI1.out _).mono ?_
  rintro r w1 ⟨rfl, rfl⟩
  go_wp2_with fail
  refine (HI2.out _).mono ?_
  rintro r w1 ⟨rfl, rfl⟩
  go_wp2_with fail
  rw [← HW.out]
  refine CA.out.mono ?_
  rintro r w1 ⟨⟨v, rfl, hown⟩, hb1⟩
  have hb1' := K0.out.1.trans (hb1.mono K0.out.1.size)
  obtain ⟨aa, ac, rfl, _, hae⟩ := hown.at (HIN.out _ hb1').1
  have K1 : Hid (Below w.heap.size w w1 ∧ S4 w1 w.heap.size (.int .i64 bu) (.int .i64 gu) (.slice ta tn tc) (.slice ka kn kc)) := ⟨hb1', K0.out.2.keep hb1⟩
  have HAE : Hid (EntsIn w1 aa al) := hae
  have HKI : Hid (EntsIn w1 ka kl) := (HIN.out _ hb1').2
  clear hb1 hb1' hown K0 HW CA HIN hae
  rw [HLN.out]
  obtain ⟨n, hn⟩ : ∃ n, tn + kn = n := ⟨_, rfl⟩
  rw [hn] at HLN ⊢
  have hn40 : n ≤ 40 := by omega
  have HSUM : Hid (tn + kn = n) := hn
  clear hn
  go_wp2_with fail
  go_loopw [4] (fun i wr => ∃ k : Nat, k ≤ n ∧ i = .int .i64 k ∧ faultE (al.map Prod.fst) = faultE ((al.map Prod.fst).drop k) ∧ Below w1.heap.size w1 wr) (fun i _ => n - (intOf i).toNat)
  case atStart => exact ⟨0, Nat.zero_le _, rfl, rfl, Below.refl _ _⟩
  case round =>
    obtain ⟨k, hk, rfl, hs, hb⟩ := hrel
    have HS : Hid (faultE (al.map Prod.fst) = faultE ((al.map Prod.fst).drop k)) := hs
    clear hs
    by_cases hlt : k < n
    · obtain ⟨q, hr⟩ : ∃ r, al[k]? = some r := ⟨al[k]'(by have := HLN.out; omega), List.getElem?_eq_getElem _⟩
      rcases HAE.out with h | ⟨b, off, rfl, hat⟩
      · subst h; simp at hr
      have PC := (hat.keep hb).cells hr
      have C : Hid (∀ X, Below w1.heap.size w1 X → Calls Tryz.prog 32 #[.agg #[.string q.1.key, .int .i64 q.1.st, .slice q.2.ha q.1.hs.length q.2.hc, .slice q.2.ba q.1.bl.length q.2.bc, .int .i64 q.1.t, .int .i64 q.1.g, .int .i64 q.1.l, .int .i64 q.1.s, .int .i64 q.1.e, .bool q.1.b1, .bool q.1.b2, .slice q.2.ta q.1.ts.length q.2.tc, .int .i64 q.1.pins]] X fun r w' => r = .returned (.int .i64 (entC q.1)) ∧ Below X.heap.size X w') := fun X hX => specEntry_q X q (HOK.out q (List.mem_of_getElem? hr)) ((hat.keep hX).in hr)
      have HD : Hid (faultE (al.map Prod.fst) = if entC q.1 ≠ 0 then entC q.1 else faultE ((al.map Prod.fst).drop (k + 1))) := by show _ = _; rw [HS.out, faultE_drop hr]
      have g : (k : Int) < n := by omega
      have g0 : (0 : Int) ≤ k := by omega
      have HB : Hid (Below w1.heap.size w1 wr) := hb
      have p0 := PC.1
      have p1 := PC.2.1
      have p2 := PC.2.2.1
      have p3 := PC.2.2.2.1
      have p4 := PC.2.2.2.2.1
      have p5 := PC.2.2.2.2.2.1
      have p6 := PC.2.2.2.2.2.2.1
      have p7 := PC.2.2.2.2.2.2.2.1
      have p8 := PC.2.2.2.2.2.2.2.2.1
      have p9 := PC.2.2.2.2.2.2.2.2.2.1
      have p10 := PC.2.2.2.2.2.2.2.2.2.2.1
      have p11 := PC.2.2.2.2.2.2.2.2.2.2.2.1
      have p12 := PC.2.2.2.2.2.2.2.2.2.2.2.2
      clear PC hr hat HS hb
      generalize entC q.1 = ec at *
      go_wp2_with fail
      refine (C.out _ HB.out).mono ?_
      rintro r w2 ⟨rfl, hb2⟩
      have HB2 : Hid (Below w1.heap.size w1 w2) := HB.out.trans (hb2.mono HB.out.size)
      clear hb2 C HB p0 p1 p2 p3 p4 p5 p6 p7 p8 p9 p10 p11 p12
      by_cases ce : ec = 0
      · have HE : Hid (faultE (al.map Prod.fst) = faultE ((al.map Prod.fst).drop (k + 1))) := by show _ = _; rw [HD.out, if_neg (by simpa using ce)]
        clear HD
        subst ce
        go_wp2_with fail
        go_roundw
        case rel => exact ⟨k + 1, by omega, by go_num, HE.out, HB2.out⟩
        case measure => simp [intOf]; omega
      · have HE : Hid (ec = Z) := by
          show _ = _
          have := HZ2.out
          rw [HD.out, if_pos ce, if_pos ce] at this
          exact this
        clear HD
        go_wp2_with fail
        go_ret
        exact ⟨ret_int HE.out, K1.out.1.trans (HB2.out.mono K1.out.1.size)⟩
    · have HF0 : faultE (al.map Prod.fst) = 0 := by
        rw [HS.out, List.drop_of_length_le (by have := HLN.out; simp; omega), faultE]
      have HZ3 : Hid ((if dupE (al.map Prod.fst) = true then 6 else if bu < costsE (al.map Prod.fst) ∨ gu < costsE (kl.map Prod.fst) then 7 else 0) = Z) := by
        show _ = _
        have := HZ2.out
        rw [HF0] at this
        simpa using this
      have HEC : Hid (∀ q ∈ al, entC q.1 = 0) := fun q hq => faultE_zero HF0 q.1 (List.mem_map_of_mem hq)
      have HB1 : Hid (Below w1.heap.size w1 wr) := hb
      clear HS HF0 HZ2 HOK hb
      go_wp2_with fail
      obtain ⟨wo, rfl⟩ : ∃ wo : World, wo = wr := ⟨_, rfl⟩
      go_loopw [6] (fun i wr => ∃ k : Nat, k ≤ n ∧ i = .int .i64 k ∧ ((keysE (al.map Prod.fst)).take k).Nodup ∧ Below w1.heap.size w1 wr) (fun i _ => n - (intOf i).toNat)
      case atStart => exact ⟨0, Nat.zero_le _, rfl, by simp, HB1.out⟩
      case round =>
        obtain ⟨i, hi, rfl, hnd, hbi⟩ := hrel
        have HND : Hid (((keysE (al.map Prod.fst)).take i).Nodup) := hnd
        have HBI : Hid (Below w1.heap.size w1 wr) := hbi
        clear hnd hbi HB1
        by_cases hli : i < n
        · obtain ⟨q, hr⟩ : ∃ r, al[i]? = some r := ⟨al[i]'(by have := HLN.out; omega), List.getElem?_eq_getElem _⟩
          have HQ : Hid (al[i]? = some q) := hr
          clear hr
          have gi : (i : Int) < n := by omega
          go_wp2_with fail
          obtain ⟨wp, rfl⟩ : ∃ wp : World, wp = wr := ⟨_, rfl⟩
          go_loopw [7] (fun x wr => ∃ j : Nat, j ≤ i ∧ x = .int .i64 j ∧ (∀ (j' : Nat) y, j' < j → (keysE (al.map Prod.fst))[j']? = some y → ¬ q.1.key.toList = y) ∧ Below w1.heap.size w1 wr) (fun x _ => i - (intOf x).toNat)
          case atStart => exact ⟨0, Nat.zero_le _, rfl, fun j' y h => absurd h (by omega), HBI.out⟩
          case round =>
            obtain ⟨j, hj, rfl, hne, hbj⟩ := hrel
            have HNE : Hid (∀ (j' : Nat) y, j' < j → (keysE (al.map Prod.fst))[j']? = some y → ¬ q.1.key.toList = y) := hne
            have HBJ : Hid (Below w1.heap.size w1 wr) := hbj
            clear hne HBI
            by_cases hlj : j < i
            · obtain ⟨p, hp⟩ : ∃ r, al[j]? = some r := ⟨al[j]'(by have := HLN.out; omega), List.getElem?_eq_getElem _⟩
              rcases HAE.out with h | ⟨b, off, rfl, hat⟩
              · subst h; simp at hp
              have a1 := cell_regrown ((hat.keep hbj).cells HQ.out).1
              have a2 := cell_regrown ((hat.keep hbj).cells hp).1
              have HP : Hid (al[j]? = some p) := hp
              have gj : (j : Int) < i := by omega
              have gj0 : (0 : Int) ≤ j := by omega
              have gi0 : (0 : Int) ≤ i := by omega
              have gjn : (j : Int) < n := by omega
              clear hp hat hbj
              by_cases he : q.1.key.toList = p.1.key.toList
              · have HE : Hid (6 = Z) := by
                  show _ = _
                  have := HZ3.out
                  rw [if_pos (dup_of hlj HP.out HQ.out he)] at this
                  exact this
                have e1 : (q.1.key.toList == p.1.key.toList) = true := by simp [he]
                clear he HNE
                generalize q.1.key = qk at *
                generalize p.1.key = pk at *
                go_wp2_with fail
                refine wp_region_quiet_below (by kernel_rfl) (by kernel_rfl) ?_
                repeat (go_big_quiet_step (fail))
                refine wpQuiet_nil ?_
                intro w2 hw2
                have hbb : Below w1.heap.size w1 w2 := by
                  obtain ⟨⟨d, os⟩, rfl⟩ := hw2
                  exact HBJ.out.trans ((below_regrown wr d os).mono HBJ.out.size)
                clear a1 a2 hw2
                go_wp2_with fail
                go_ret
                exact ⟨ret_int HE.out, K1.out.1.trans (hbb.mono K1.out.1.size)⟩
              · have e1 : (q.1.key.toList == p.1.key.toList) = false := by simp [he]
                have HN2 : Hid (∀ (j' : Nat) y, j' < j + 1 → (keysE (al.map Prod.fst))[j']? = some y → ¬ q.1.key.toList = y) := by
                  intro j' y h1 h2
                  by_cases e : j' = j
                  · subst e
                    rw [keys_at HP.out] at h2
                    obtain rfl := Option.some.inj h2
                    exact he
                  · exact HNE.out j' y (by omega) h2
                clear he HNE
                obtain ⟨qk, hqk⟩ : ∃ k, q.1.key = k := ⟨_, rfl⟩
                obtain ⟨pk, hpk⟩ : ∃ k, p.1.key = k := ⟨_, rfl⟩
                rw [hqk] at a1 e1
                rw [hpk] at a2 e1
                go_wp2_with fail
                refine wp_region_quiet_below (by kernel_rfl) (by kernel_rfl) ?_
                repeat (go_big_quiet_step (fail))
                refine wpQuiet_nil ?_
                intro w2 hw2
                have hbb : Below w1.heap.size w1 w2 := by
                  obtain ⟨⟨d, os⟩, rfl⟩ := hw2
                  exact HBJ.out.trans ((below_regrown wr d os).mono HBJ.out.size)
                clear a1 a2 hw2
                go_wp2_with fail
                go_roundw
                case rel => exact ⟨j + 1, by omega, by go_num, HN2.out, hbb⟩
                case measure => simp [intOf]; omega
            · have hji : j = i := by omega
              subst hji
              have HN2 : Hid (((keysE (al.map Prod.fst)).take (j + 1)).Nodup) := nodup_succ HND.out (keys_at HQ.out) HNE.out
              clear HNE hbj
              go_wp2_with fail
              go_roundw
              case rel => exact ⟨j + 1, by omega, by go_num, HN2.out, HBJ.out⟩
              case measure => simp [intOf]; omega
        · have hd : dupE (al.map Prod.fst) = false := by
            have := HND.out
            rw [List.take_of_length_le (by have := HLN.out; unfold keysE; simp; omega)] at this
            unfold dupE
            simp [this]
          have HZ4 : Hid ((if bu < costsE (al.map Prod.fst) ∨ gu < costsE (kl.map Prod.fst) then 7 else 0) = Z) := by
            show _ = _
            have := HZ3.out
            rw [hd] at this
            simpa using this
          have hbi := HBI.out
          have KK := K1.out.2.keep hbi
          have cA : ∀ d os, Calls Tryz.prog 95 #[.slice aa n ac] (grow (redrawn wr d) os) fun e w'' => e = .returned (.int .i64 (costsE (al.map Prod.fst))) ∧ ∃ p : Regrown, w'' = grow (redrawn wr p.d) p.os := fun d os => Calls.regrown_of (by
            have := l8Costs_any (grow (redrawn wr d) os) aa ac al (by rw [HLN.out]; exact hn40) (HAE.out.keep (hbi.trans ((below_regrown wr d os).mono hbi.size))) HEC.out
            rw [HLN.out] at this
            exact this)
          have cK : ∀ d os, Calls Tryz.prog 95 #[.slice ka kn kc] (grow (redrawn wr d) os) fun e w'' => e = .returned (.int .i64 (costsE (kl.map Prod.fst))) ∧ ∃ p : Regrown, w'' = grow (redrawn wr p.d) p.os := fun d os => Calls.regrown_of (by
            have hsum := HSUM.out
            have := l8Costs_any (grow (redrawn wr d) os) ka kc kl (by rw [hkn.out]; omega) (HKI.out.keep (hbi.trans ((below_regrown wr d os).mono hbi.size))) (fun q hq => HEC.out q (HKL.out q hq))
            rw [hkn.out] at this
            exact this)
          have a0 := cell_regrown KK.c0
          have a1 := cell_regrown KK.c1
          have a3 := cell_regrown KK.c3
          have HBW : Hid (Below w.heap.size w wr) := K1.out.1.trans (hbi.mono K1.out.1.size)
          clear hd HZ3 HND HBI HEC KK hbi HAE HKI HKL K1 HI1 HI2
          generalize costsE (al.map Prod.fst) = ca at *
          generalize costsE (kl.map Prod.fst) = ck at *
          by_cases d1 : bu < ca
          · have HE : Hid (7 = Z) := by have := HZ4.out; rw [if_pos (.inl d1)] at this; exact this
            clear HZ4
            go_wp2_with fail
            refine wp_region_quiet_below (by kernel_rfl) (by kernel_rfl) ?_
            repeat (go_big_quiet_step (first | (go_at_call 95; exact cA _ _)))
            refine wpQuiet_nil ?_
            intro w2 hw2
            have hbb : Below w.heap.size w w2 := by
              obtain ⟨⟨d, os⟩, rfl⟩ := hw2
              exact HBW.out.trans ((below_regrown wr d os).mono HBW.out.size)
            clear a0 a1 a3 hw2 cA cK
            go_wp2_with fail
            go_ret
            exact ⟨ret_int HE.out, hbb⟩
          have dd1 : decide (bu < ca) = false := decide_eq_false (by omega)
          by_cases d2 : gu < ck
          · have dd2 : decide (gu < ck) = true := decide_eq_true d2
            have HE : Hid (7 = Z) := by have := HZ4.out; rw [if_pos (.inr d2)] at this; exact this
            clear HZ4
            go_wp2_with fail
            refine wp_region_quiet_below (by kernel_rfl) (by kernel_rfl) ?_
            repeat (go_big_quiet_step (first | (go_at_call 95; with_reducible exact cA _ _) | (go_at_call 95; with_reducible exact cK _ _)))
            refine wpQuiet_nil ?_
            intro w2 hw2
            have hbb : Below w.heap.size w w2 := by
              obtain ⟨⟨d, os⟩, rfl⟩ := hw2
              exact HBW.out.trans ((below_regrown wr d os).mono HBW.out.size)
            clear a0 a1 a3 hw2 cA cK
            go_wp2_with fail
            go_ret
            exact ⟨ret_int HE.out, hbb⟩
          · have dd2 : decide (gu < ck) = false := decide_eq_false d2
            have HE : Hid (0 = Z) := by have := HZ4.out; rw [if_neg (by omega)] at this; exact this
            clear HZ4
            go_wp2_with fail
            refine wp_region_quiet_below (by kernel_rfl) (by kernel_rfl) ?_
            repeat (go_big_quiet_step (first | (go_at_call 95; with_reducible exact cA _ _) | (go_at_call 95; with_reducible exact cK _ _)))
            refine wpQuiet_nil ?_
            intro w2 hw2
            have hbb : Below w.heap.size w w2 := by
              obtain ⟨⟨d, os⟩, rfl⟩ := hw2
              exact HBW.out.trans ((below_regrown wr d os).mono HBW.out.size)
            clear a0 a1 a3 hw2 cA cK
            go_wp2_with fail
            go_ret
            exact ⟨ret_int HE.out, hbb⟩
end Go.Proofs.YtdooopkpnanekaaGreatDoor
