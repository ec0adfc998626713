/-
  The draws of items.
-/
import Derived.Test.YtibomkcbopkpkaaDoorDrawHeap
namespace Go.Proofs.YtibomkcbopkpkaaDoor
open Go.ChangeShapes Go.WideShapes Go.ChangeAt Go.RowKit
/-- An item in memory. -/
structure RecAtB (w : World) (b : Nat) (n : ByteArray) (h : Bool) (v : ByteArray) : Prop where
  c0 : w.cell? ⟨b, 0, none⟩ = some (.string n)
  c1 : w.cell? ⟨b, 1, none⟩ = some (.bool h)
  c2 : w.cell? ⟨b, 2, none⟩ = some (.string v)
  fr : ∀ o, w.frozen? ⟨b, o, none⟩ = false
theorem RecAtB.lt {w : World} {b : Nat} {n v : ByteArray} {h : Bool} (k : RecAtB w b n h v) : b < w.heap.size := block_lt_of_cell k.c0
theorem RecAtB.keep {w w' : World} {b : Nat} {n v : ByteArray} {h : Bool} (k : RecAtB w b n h v) (hb : Below w.heap.size w w') : RecAtB w' b n h v :=
  ⟨by rw [hb.cell (p := ⟨b, 0, none⟩) k.lt, k.c0], by rw [hb.cell (p := ⟨b, 1, none⟩) k.lt, k.c1], by rw [hb.cell (p := ⟨b, 2, none⟩) k.lt, k.c2], fun o => by rw [hb.frozen (p := ⟨b, o, none⟩) k.lt, k.fr]⟩
theorem RecAtB.apart {B : Nat} {w w' : World} {b : Nat} {n v : ByteArray} {h : Bool} (k : RecAtB w b n h v) (ha : Apart B w w') (hn : b ≠ B) : RecAtB w' b n h v :=
  ⟨by rw [ha.cell _ _ k.lt hn, k.c0], by rw [ha.cell _ _ k.lt hn, k.c1], by rw [ha.cell _ _ k.lt hn, k.c2], fun o => by rw [ha.frozen _ _ k.lt hn, k.fr]⟩
theorem recAtB_new (w : World) (n : ByteArray) (h : Bool) (v : ByteArray) (t : TypeId) : RecAtB (w.alloc (.cells #[.string n, .bool h, .string v] t)) w.heap.size n h v := ⟨by simp, by simp, by simp, fun o => by simp⟩
theorem set_getR {w : World} {B o o' : Nat} {u v : Value} (h : w.cell? ⟨B, o, none⟩ = some u) : (w.setCell ⟨B, o', none⟩ v).cell? ⟨B, o, none⟩ = some (if o = o' then v else u) := by
  by_cases e : o = o'
  · subst e; rw [World.cell?_setCell_same _ _ _ h]; simp
  · rw [World.cell?_setCell_other _ _ _ _ (by intro h; have := congrArg Addr.off h; simp at this; omega), h]; simp [e]
theorem RecAtB.set0 {w : World} {b : Nat} {n v : ByteArray} {h : Bool} (k : RecAtB w b n h v) (x : ByteArray) : RecAtB (w.setCell ⟨b, 0, none⟩ (.string x)) b x h v :=
  ⟨by rw [set_getR k.c0]; rfl, by rw [set_getR k.c1]; rfl, by rw [set_getR k.c2]; rfl, fun o => by rw [World.frozen?_setCell, k.fr]⟩
theorem RecAtB.set1 {w : World} {b : Nat} {n v : ByteArray} {h : Bool} (k : RecAtB w b n h v) (x : Bool) : RecAtB (w.setCell ⟨b, 1, none⟩ (.bool x)) b n x v :=
  ⟨by rw [set_getR k.c0]; rfl, by rw [set_getR k.c1]; rfl, by rw [set_getR k.c2]; rfl, fun o => by rw [World.frozen?_setCell, k.fr]⟩
theorem RecAtB.set2 {w : World} {b : Nat} {n v : ByteArray} {h : Bool} (k : RecAtB w b n h v) (x : ByteArray) : RecAtB (w.setCell ⟨b, 2, none⟩ (.string x)) b n h x :=
  ⟨by rw [set_getR k.c0]; rfl, by rw [set_getR k.c1]; rfl, by rw [set_getR k.c2]; rfl, fun o => by rw [World.frozen?_setCell, k.fr]⟩
theorem RecAtB.other {w : World} {b b' o' : Nat} {u : Value} {n v : ByteArray} {h : Bool} (k : RecAtB w b n h v) (hn : b ≠ b') : RecAtB (w.setCell ⟨b', o', none⟩ u) b n h v := by
  have e : ∀ o, (w.setCell ⟨b', o', none⟩ u).cell? ⟨b, o, none⟩ = w.cell? ⟨b, o, none⟩ := fun o => World.cell?_setCell_other _ _ _ _ (by intro h; have := congrArg Addr.block h; simp at this; omega)
  exact ⟨by rw [e, k.c0], by rw [e, k.c1], by rw [e, k.c2], fun o => by rw [World.frozen?_setCell, k.fr]⟩
theorem ApartH.fresh {B : Nat} {w w' : World} {b o : Nat} {v : Value} (h : ApartH B w w') (hb : w.heap.size ≤ b) : ApartH B w (w'.setCell ⟨b, o, none⟩ v) :=
  ⟨by have := h.size; simpa using this, fun c hc hn => by rw [setCell_block (by show c ≠ b; omega)]; exact h.block c hc hn⟩
/-- A drawn item, its texts not long. -/
def SomeItem (e : Ending) : Prop := ∃ n h v, n.size ≤ 2000 ∧ v.size ≤ 2000 ∧ e = .returned (.agg #[.string n, .bool h, .string v])
set_option maxRecDepth 100000 in
set_option maxHeartbeats 4000000 in
theorem drawItem_any (w : World) (B : Nat) (a : Option Addr) (len cap k : Nat) (hs : Src w B a len cap k) (hk : k ≤ 50000) (hl2 : len ≤ 1048576) :
    Calls Tryd.prog 117 #[.pointer (some ⟨B, 0, none⟩)] w fun e w' => SomeItem e ∧ (∃ k', k' ≤ k + 3 ∧ Src w' B a len cap k') ∧ Below B w w' ∧ ApartH B w w' := by
  have HS : Hid (Src w B a len cap k) := hs
  have hlt := hs.lt
  clear hs
  have H0 := l1Word_h (w.alloc (.cells #[.string ⟨#[]⟩, .bool false, .string ⟨#[]⟩] 80)) B a len cap k (HS.out.alloc _) ([⟨#[109, 97, 120, 45, 97, 103, 101]⟩, ⟨#[110, 111, 45, 99, 97, 99, 104, 101]⟩, ⟨#[80, 114, 105, 118, 97, 116, 101]⟩, ⟨#[115, 45, 109, 97, 120, 97, 103, 101]⟩, ⟨#[120]⟩, ⟨#[115, 116, 97, 108, 101, 45, 105, 102, 45, 101, 114, 114, 111, 114]⟩, ⟨#[97, 49]⟩] : List ByteArray) 7 rfl (by omega) (by omega) (by omega) hl2
  rw [World.size_alloc] at H0
  simp only [List.map_cons, List.map_nil] at H0
  go_enter Tryd.func117, Tryd.ntmps117
  go_wp2_with fail
  refine H0.mono ?_
  rintro e w1 ⟨⟨n, hn, rfl⟩, hs1, hb1, ha1⟩
  have hnz : n.size ≤ 2000 := by
    simp only [List.mem_cons, List.not_mem_nil, or_false] at hn
    rcases hn with rfl | rfl | rfl | rfl | rfl | rfl | rfl <;> decide
  have HS1 : Hid (Src w1 B a len cap (k + 1)) := hs1
  have HB1 : Hid (Below B w w1) := ((Below.refl _ _).alloc (by omega) _).trans hb1
  have HA1 : Hid (ApartH B w w1) := (ApartH.alloc B w _).trans ha1
  have HR1 : Hid (RecAtB w1 w.heap.size ⟨#[]⟩ false ⟨#[]⟩) := (recAtB_new w ⟨#[]⟩ false ⟨#[]⟩ 80).apart ha1.cells (by omega)
  clear hs1 hb1 ha1 HS hn
  go_wp2_with fail
  refine (l1Chance_h _ B a len cap (k + 1) 2 (HS1.out.alloc _) (by omega) (by omega) (by omega) hl2).mono ?_
  rintro e w2 ⟨⟨b, rfl⟩, hs2, hb2, ha2⟩
  have HS2 : Hid (Src w2 B a len cap (k + 2)) := hs2
  have hlt1 := HS1.out.lt
  have hlt0 : w.heap.size < w1.heap.size := HR1.out.lt
  have HB2 : Hid (Below B w w2) := HB1.out.trans (((Below.refl _ _).alloc (by omega) _).trans hb2)
  have HA2 : Hid (ApartH B w w2) := HA1.out.trans ((ApartH.alloc B w1 _).trans ha2)
  have HR2 : Hid (RecAtB w2 w.heap.size ⟨#[]⟩ false ⟨#[]⟩) := (HR1.out.keep ((Below.refl _ _).alloc (Nat.le_refl _) _)).apart ha2.cells (by omega)
  have HI2 : Hid (RecAtB w2 w1.heap.size n false ⟨#[]⟩) := (recAtB_new w1 n false ⟨#[]⟩ 80).apart ha2.cells (by omega)
  clear hs2 hb2 ha2 HS1 HB1 HA1 HR1
  generalize w1.heap.size = Bi at *
  clear w1
  cases b
  · obtain ⟨c0, c1, c2, cf⟩ := HI2.out
    obtain ⟨r0, r1, r2, rf⟩ := HR2.out
    have rf0 := rf 0
    have rf1 := rf 1
    have rf2 := rf 2
    clear rf cf
    go_wp2_with fail
    have kz : (⟨#[]⟩ : ByteArray).size ≤ 2000 := by simp [ByteArray.size]
    refine bodyPost_ret (v := .agg #[.string n, .bool false, .string ⟨#[]⟩]) ?_ rfl ⟨⟨n, false, _, hnz, kz, rfl⟩, ⟨k + 2, by omega, HS2.out.below ((((Below.refl (B + 1) _).setCell (by simp; omega) _).setCell (by simp; omega) _).setCell (by simp; omega) _)⟩, ((HB2.out.setCell (by simp; omega) _).setCell (by simp; omega) _).setCell (by simp; omega) _, ((HA2.out.fresh (Nat.le_refl _)).fresh (Nat.le_refl _)).fresh (Nat.le_refl _)⟩
    simp [results, Tryd.results117, go_sem, r0, r1, r2]
  · obtain ⟨c0, c1, c2, cf⟩ := HI2.out
    have cf1 := cf 1
    have HSx : Hid (Src (w2.setCell ⟨Bi, 1, none⟩ (.bool true)) B a len cap (k + 2)) := HS2.out.below ((Below.refl (B + 1) _).setCell (by simp; omega) _)
    have HIx : Hid (RecAtB (w2.setCell ⟨Bi, 1, none⟩ (.bool true)) Bi n true ⟨#[]⟩) := HI2.out.set1 true
    have HRx : Hid (RecAtB (w2.setCell ⟨Bi, 1, none⟩ (.bool true)) w.heap.size ⟨#[]⟩ false ⟨#[]⟩) := HR2.out.other (by omega)
    have HBx : Hid (Below B w (w2.setCell ⟨Bi, 1, none⟩ (.bool true))) := HB2.out.setCell (by simp; omega) _
    have HAx : Hid (ApartH B w (w2.setCell ⟨Bi, 1, none⟩ (.bool true))) := HA2.out.fresh (by omega)
    clear cf
    have H1 := l1Word_h (w2.setCell ⟨Bi, 1, none⟩ (.bool true)) B a len cap (k + 2) HSx.out ([⟨#[53]⟩, ⟨#[54, 48]⟩, ⟨#[97, 98, 99]⟩, ⟨#[97, 32, 98]⟩, ⟨#[]⟩, ⟨#[97, 34, 98]⟩, ⟨#[120, 44, 121]⟩, ⟨#[92]⟩] : List ByteArray) 8 rfl (by omega) (by omega) (by omega) hl2
    rw [World.size_setCell] at H1
    simp only [List.map_cons, List.map_nil] at H1
    go_wp2_with fail
    refine H1.mono ?_
    rintro e w3 ⟨⟨v, hv, rfl⟩, hs3, hb3, ha3⟩
    have hvz : v.size ≤ 2000 := by
      simp only [List.mem_cons, List.not_mem_nil, or_false] at hv
      rcases hv with rfl | rfl | rfl | rfl | rfl | rfl | rfl | rfl <;> decide
    have HS3 : Hid (Src w3 B a len cap (k + 3)) := hs3
    have HB3 : Hid (Below B w w3) := HBx.out.trans hb3
    have HA3 : Hid (ApartH B w w3) := HAx.out.trans ha3
    have HI3 : Hid (RecAtB w3 Bi n true ⟨#[]⟩) := HIx.out.apart ha3.cells (by omega)
    have HR3 : Hid (RecAtB w3 w.heap.size ⟨#[]⟩ false ⟨#[]⟩) := HRx.out.apart ha3.cells (by omega)
    clear hs3 hb3 ha3 hv HSx HIx HRx HBx HAx HS2 HB2 HA2 HR2 HI2 c0 c1 c2 cf1
    obtain ⟨c0, c1, c2, cf⟩ := HI3.out
    have cf2 := cf 2
    obtain ⟨r0, r1, r2, rf⟩ := HR3.out
    have rf0 := rf 0
    have rf1 := rf 1
    have rf2 := rf 2
    clear rf cf
    have hne : ¬ w.heap.size = Bi := by omega
    go_wp2_with fail
    refine bodyPost_ret (v := .agg #[.string n, .bool true, .string v]) ?_ rfl ⟨⟨n, true, v, hnz, hvz, rfl⟩, ⟨k + 3, by omega, HS3.out.below (((((Below.refl (B + 1) _).setCell (by simp; omega) _).setCell (by simp; omega) _).setCell (by simp; omega) _).setCell (by simp; omega) _)⟩, (((HB3.out.setCell (by simp; omega) _).setCell (by simp; omega) _).setCell (by simp; omega) _).setCell (by simp; omega) _, (((HA3.out.fresh (by omega)).fresh (Nat.le_refl _)).fresh (Nat.le_refl _)).fresh (Nat.le_refl _)⟩
    simp [results, Tryd.results117, go_sem, r0, r1, r2]
end Go.Proofs.YtibomkcbopkpkaaDoor
