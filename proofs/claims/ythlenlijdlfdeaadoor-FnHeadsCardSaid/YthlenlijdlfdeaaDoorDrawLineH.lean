/-
  The draw of a head line.
-/
import Derived.Test.YthlenlijdlfdeaaDoorDrawHeapH
namespace Go.Proofs.YthlenlijdlfdeaaDoor
open Go.ChangeShapes Go.WideShapes Go.ChangeAt Go.RowKit
/-- A head line in memory. -/
structure HdrAtB (w : World) (b : Nat) (n v : ByteArray) : Prop where
  c0 : w.cell? ⟨b, 0, none⟩ = some (.string n)
  c1 : w.cell? ⟨b, 1, none⟩ = some (.string v)
  fr : ∀ o, w.frozen? ⟨b, o, none⟩ = false
theorem HdrAtB.lt {w : World} {b : Nat} {n v : ByteArray} (k : HdrAtB w b n v) : b < w.heap.size := block_lt_of_cell k.c0
theorem HdrAtB.apart {B : Nat} {w w' : World} {b : Nat} {n v : ByteArray} (k : HdrAtB w b n v) (ha : Apart B w w') (hn : b ≠ B) : HdrAtB w' b n v :=
  ⟨by rw [ha.cell _ _ k.lt hn, k.c0], by rw [ha.cell _ _ k.lt hn, k.c1], fun o => by rw [ha.frozen _ _ k.lt hn, k.fr]⟩
theorem hdrAtB_new (w : World) (n v : ByteArray) (t : TypeId) : HdrAtB (w.alloc (.cells #[.string n, .string v] t)) w.heap.size n v := ⟨by simp, by simp, fun o => by simp⟩
theorem ApartH.hfresh {B : Nat} {w w' : World} {b o : Nat} {v : Value} (h : ApartH B w w') (hb : w.heap.size ≤ b) : ApartH B w (w'.setCell ⟨b, o, none⟩ v) :=
  ⟨by have := h.size; simpa using this, fun c hc hn => by rw [setCell_block (by show c ≠ b; omega)]; exact h.block c hc hn⟩
theorem smallH_of {xs : List ByteArray} {v : ByteArray} (h : v ∈ xs) (hx : xs.all (fun x => decide (x.size ≤ 1100)) = true) : v.size ≤ 1100 := by
  have := List.all_eq_true.1 hx v h
  simpa using this
/-- A drawn line, its texts not long. -/
def SomeHead (e : Ending) : Prop := ∃ n v, n.size ≤ 1100 ∧ v.size ≤ 1100 ∧ e = .returned (.agg #[.string n, .string v])
set_option maxRecDepth 100000 in
set_option maxHeartbeats 8000000 in
theorem l4DrawLine_any (w : World) (B : Nat) (a : Option Addr) (len cap k : Nat) (hs : Src w B a len cap k) (hk : k ≤ 50000) (hl2 : len ≤ 1048576) :
    Calls Tryd.prog 69 #[.pointer (some ⟨B, 0, none⟩)] w fun e w' => SomeHead e ∧ (∃ k', k' ≤ k + 3 ∧ Src w' B a len cap k') ∧ Below B w w' ∧ ApartH B w w' := by
  have HS : Hid (Src w B a len cap k) := hs
  have hlt := hs.lt
  clear hs
  have H0 := l1Next_h (w.alloc (.cells #[.string ⟨#[]⟩, .string ⟨#[]⟩] 56)) B a len cap k 9 (HS.out.alloc _) (by omega) (by omega) (by omega) hl2
  go_enter Tryd.func69, Tryd.ntmps69
  go_wp2_with fail
  refine H0.mono ?_
  rintro e w1 ⟨⟨x, hx0, hx1, rfl⟩, hs1, hb1, ha1⟩
  have HS1 : Hid (Src w1 B a len cap (k + 1)) := hs1
  have HB1 : Hid (Below B w w1) := ((Below.refl _ _).alloc (by omega) _).trans hb1
  have HA1 : Hid (ApartH B w w1) := (ApartH.alloc B w _).trans ha1
  have HR1 : Hid (HdrAtB w1 w.heap.size ⟨#[]⟩ ⟨#[]⟩) := (hdrAtB_new w ⟨#[]⟩ ⟨#[]⟩ 56).apart ha1.cells (by omega)
  clear hs1 hb1 ha1 HS H0
  have hxs : x = 0 ∨ x = 1 ∨ x = 2 ∨ x = 3 ∨ x = 4 ∨ x = 5 ∨ x = 6 ∨ 7 ≤ x := by omega
  rcases hxs with rfl | rfl | rfl | rfl | rfl | rfl | rfl | hx7
  · skip
    have H2 := l1Word_h w1 B a len cap (k + 1) HS1.out ([⟨#[67, 97, 99, 104, 101, 45, 67, 111, 110, 116, 114, 111, 108]⟩, ⟨#[99, 97, 99, 104, 101, 45, 99, 111, 110, 116, 114, 111, 108]⟩] : List ByteArray) 2 rfl (by omega) (by omega) (by omega) hl2
    simp only [List.map_cons, List.map_nil] at H2
    go_wp2_with fail
    refine H2.mono ?_
    rintro e w2 ⟨⟨n, hn, rfl⟩, hs2, hb2, ha2⟩
    have hnz := smallH_of hn (by decide)
    have HS2 : Hid (Src w2 B a len cap (k + 2)) := hs2
    have HB2 : Hid (Below B w w2) := HB1.out.trans hb2
    have HA2 : Hid (ApartH B w w2) := HA1.out.trans ha2
    have HR2 : Hid (HdrAtB w2 w.heap.size ⟨#[]⟩ ⟨#[]⟩) := HR1.out.apart ha2.cells (by omega)
    clear hs2 hb2 ha2 H2 hn HS1 HB1 HA1 HR1
    have H3 := l1Word_h w2 B a len cap (k + 2) HS2.out ([⟨#[109, 97, 120, 45, 97, 103, 101, 61, 53]⟩, ⟨#[109, 97, 120, 45, 97, 103, 101, 61, 50, 44, 32, 115, 116, 97, 108, 101, 45, 119, 104, 105, 108, 101, 45, 114, 101, 118, 97, 108, 105, 100, 97, 116, 101, 61, 51]⟩, ⟨#[115, 45, 109, 97, 120, 97, 103, 101, 61, 49, 44, 32, 115, 116, 97, 108, 101, 45, 105, 102, 45, 101, 114, 114, 111, 114, 61, 57]⟩, ⟨#[110, 111, 45, 115, 116, 111, 114, 101]⟩, ⟨#[110, 111, 45, 99, 97, 99, 104, 101]⟩, ⟨#[112, 114, 105, 118, 97, 116, 101]⟩, ⟨#[109, 97, 120, 45, 97, 103, 101, 61, 48, 44, 32, 109, 117, 115, 116, 45, 114, 101, 118, 97, 108, 105, 100, 97, 116, 101]⟩, ⟨#[109, 97, 120, 45, 97, 103, 101, 61, 120]⟩, ⟨#[112, 117, 98, 108, 105, 99]⟩, ⟨#[109, 97, 120, 45, 97, 103, 101, 61, 54, 48, 44, 32, 115, 116, 97, 108, 101, 45, 119, 104, 105, 108, 101, 45, 114, 101, 118, 97, 108, 105, 100, 97, 116, 101, 61, 54, 48, 44, 32, 115, 116, 97, 108, 101, 45, 105, 102, 45, 101, 114, 114, 111, 114, 61, 54, 48]⟩] : List ByteArray) 10 rfl (by omega) (by omega) (by omega) hl2
    simp only [List.map_cons, List.map_nil] at H3
    go_wp2_with fail
    refine H3.mono ?_
    rintro e w3 ⟨⟨v, hv, rfl⟩, hs3, hb3, ha3⟩
    have hvz := smallH_of hv (by decide)
    have HS3 : Hid (Src w3 B a len cap (k + 3)) := hs3
    have HB3 : Hid (Below B w w3) := HB2.out.trans hb3
    have HA3 : Hid (ApartH B w w3) := HA2.out.trans ha3
    have HR3 : Hid (HdrAtB w3 w.heap.size ⟨#[]⟩ ⟨#[]⟩) := HR2.out.apart ha3.cells (by omega)
    clear hs3 hb3 ha3 H3 hv HS2 HB2 HA2 HR2
    obtain ⟨r0, r1, rf⟩ := HR3.out
    have rf0 := rf 0
    have rf1 := rf 1
    clear rf
    go_wp2_with fail
    refine bodyPost_ret (v := .agg #[.string n, .string v]) ?_ rfl ⟨⟨_, v, hnz, hvz, rfl⟩, ⟨k + 3, by omega, HS3.out.below (((Below.refl (B + 1) _).setCell (by simp; omega) _).setCell (by simp; omega) _)⟩, (HB3.out.setCell (by simp; omega) _).setCell (by simp; omega) _, (HA3.out.hfresh (Nat.le_refl _)).hfresh (Nat.le_refl _)⟩
    simp [results, Tryd.results69, go_sem, r0, r1]
  · skip
    have H2 := l1Word_h w1 B a len cap (k + 1) HS1.out ([⟨#[67, 97, 99, 104, 101, 45, 67, 111, 110, 116, 114, 111, 108]⟩, ⟨#[99, 97, 99, 104, 101, 45, 99, 111, 110, 116, 114, 111, 108]⟩] : List ByteArray) 2 rfl (by omega) (by omega) (by omega) hl2
    simp only [List.map_cons, List.map_nil] at H2
    go_wp2_with fail
    refine H2.mono ?_
    rintro e w2 ⟨⟨n, hn, rfl⟩, hs2, hb2, ha2⟩
    have hnz := smallH_of hn (by decide)
    have HS2 : Hid (Src w2 B a len cap (k + 2)) := hs2
    have HB2 : Hid (Below B w w2) := HB1.out.trans hb2
    have HA2 : Hid (ApartH B w w2) := HA1.out.trans ha2
    have HR2 : Hid (HdrAtB w2 w.heap.size ⟨#[]⟩ ⟨#[]⟩) := HR1.out.apart ha2.cells (by omega)
    clear hs2 hb2 ha2 H2 hn HS1 HB1 HA1 HR1
    have H3 := l1Word_h w2 B a len cap (k + 2) HS2.out ([⟨#[109, 97, 120, 45, 97, 103, 101, 61, 53]⟩, ⟨#[109, 97, 120, 45, 97, 103, 101, 61, 50, 44, 32, 115, 116, 97, 108, 101, 45, 119, 104, 105, 108, 101, 45, 114, 101, 118, 97, 108, 105, 100, 97, 116, 101, 61, 51]⟩, ⟨#[115, 45, 109, 97, 120, 97, 103, 101, 61, 49, 44, 32, 115, 116, 97, 108, 101, 45, 105, 102, 45, 101, 114, 114, 111, 114, 61, 57]⟩, ⟨#[110, 111, 45, 115, 116, 111, 114, 101]⟩, ⟨#[110, 111, 45, 99, 97, 99, 104, 101]⟩, ⟨#[112, 114, 105, 118, 97, 116, 101]⟩, ⟨#[109, 97, 120, 45, 97, 103, 101, 61, 48, 44, 32, 109, 117, 115, 116, 45, 114, 101, 118, 97, 108, 105, 100, 97, 116, 101]⟩, ⟨#[109, 97, 120, 45, 97, 103, 101, 61, 120]⟩, ⟨#[112, 117, 98, 108, 105, 99]⟩, ⟨#[109, 97, 120, 45, 97, 103, 101, 61, 54, 48, 44, 32, 115, 116, 97, 108, 101, 45, 119, 104, 105, 108, 101, 45, 114, 101, 118, 97, 108, 105, 100, 97, 116, 101, 61, 54, 48, 44, 32, 115, 116, 97, 108, 101, 45, 105, 102, 45, 101, 114, 114, 111, 114, 61, 54, 48]⟩] : List ByteArray) 10 rfl (by omega) (by omega) (by omega) hl2
    simp only [List.map_cons, List.map_nil] at H3
    go_wp2_with fail
    refine H3.mono ?_
    rintro e w3 ⟨⟨v, hv, rfl⟩, hs3, hb3, ha3⟩
    have hvz := smallH_of hv (by decide)
    have HS3 : Hid (Src w3 B a len cap (k + 3)) := hs3
    have HB3 : Hid (Below B w w3) := HB2.out.trans hb3
    have HA3 : Hid (ApartH B w w3) := HA2.out.trans ha3
    have HR3 : Hid (HdrAtB w3 w.heap.size ⟨#[]⟩ ⟨#[]⟩) := HR2.out.apart ha3.cells (by omega)
    clear hs3 hb3 ha3 H3 hv HS2 HB2 HA2 HR2
    obtain ⟨r0, r1, rf⟩ := HR3.out
    have rf0 := rf 0
    have rf1 := rf 1
    clear rf
    go_wp2_with fail
    refine bodyPost_ret (v := .agg #[.string n, .string v]) ?_ rfl ⟨⟨_, v, hnz, hvz, rfl⟩, ⟨k + 3, by omega, HS3.out.below (((Below.refl (B + 1) _).setCell (by simp; omega) _).setCell (by simp; omega) _)⟩, (HB3.out.setCell (by simp; omega) _).setCell (by simp; omega) _, (HA3.out.hfresh (Nat.le_refl _)).hfresh (Nat.le_refl _)⟩
    simp [results, Tryd.results69, go_sem, r0, r1]
  · skip
    have hnz : (⟨#[69, 84, 97, 103]⟩ : ByteArray).size ≤ 1100 := by decide
    have H2 := l1Word_h w1 B a len cap (k + 1) HS1.out ([⟨#[34, 118, 49, 34]⟩, ⟨#[34, 118, 50, 34]⟩, ⟨#[87, 47, 34, 118, 49, 34]⟩] : List ByteArray) 3 rfl (by omega) (by omega) (by omega) hl2
    simp only [List.map_cons, List.map_nil] at H2
    go_wp2_with fail
    refine H2.mono ?_
    rintro e w2 ⟨⟨v, hv, rfl⟩, hs2, hb2, ha2⟩
    have hvz := smallH_of hv (by decide)
    have HS2 : Hid (Src w2 B a len cap (k + 2)) := hs2
    have HB2 : Hid (Below B w w2) := HB1.out.trans hb2
    have HA2 : Hid (ApartH B w w2) := HA1.out.trans ha2
    have HR2 : Hid (HdrAtB w2 w.heap.size ⟨#[]⟩ ⟨#[]⟩) := HR1.out.apart ha2.cells (by omega)
    clear hs2 hb2 ha2 H2 hv HS1 HB1 HA1 HR1
    obtain ⟨r0, r1, rf⟩ := HR2.out
    have rf0 := rf 0
    have rf1 := rf 1
    clear rf
    go_wp2_with fail
    refine bodyPost_ret (v := .agg #[.string ⟨#[69, 84, 97, 103]⟩, .string v]) ?_ rfl ⟨⟨_, v, hnz, hvz, rfl⟩, ⟨k + 2, by omega, HS2.out.below (((Below.refl (B + 1) _).setCell (by simp; omega) _).setCell (by simp; omega) _)⟩, (HB2.out.setCell (by simp; omega) _).setCell (by simp; omega) _, (HA2.out.hfresh (Nat.le_refl _)).hfresh (Nat.le_refl _)⟩
    simp [results, Tryd.results69, go_sem, r0, r1]
  · skip
    have hnz : (⟨#[86, 97, 114, 121]⟩ : ByteArray).size ≤ 1100 := by decide
    have H2 := l1Word_h w1 B a len cap (k + 1) HS1.out ([⟨#[65, 99, 99, 101, 112, 116]⟩, ⟨#[97, 99, 99, 101, 112, 116, 45, 108, 97, 110, 103, 117, 97, 103, 101]⟩, ⟨#[42]⟩, ⟨#[65, 99, 99, 101, 112, 116, 44, 32, 88, 45, 65]⟩] : List ByteArray) 4 rfl (by omega) (by omega) (by omega) hl2
    simp only [List.map_cons, List.map_nil] at H2
    go_wp2_with fail
    refine H2.mono ?_
    rintro e w2 ⟨⟨v, hv, rfl⟩, hs2, hb2, ha2⟩
    have hvz := smallH_of hv (by decide)
    have HS2 : Hid (Src w2 B a len cap (k + 2)) := hs2
    have HB2 : Hid (Below B w w2) := HB1.out.trans hb2
    have HA2 : Hid (ApartH B w w2) := HA1.out.trans ha2
    have HR2 : Hid (HdrAtB w2 w.heap.size ⟨#[]⟩ ⟨#[]⟩) := HR1.out.apart ha2.cells (by omega)
    clear hs2 hb2 ha2 H2 hv HS1 HB1 HA1 HR1
    obtain ⟨r0, r1, rf⟩ := HR2.out
    have rf0 := rf 0
    have rf1 := rf 1
    clear rf
    go_wp2_with fail
    refine bodyPost_ret (v := .agg #[.string ⟨#[86, 97, 114, 121]⟩, .string v]) ?_ rfl ⟨⟨_, v, hnz, hvz, rfl⟩, ⟨k + 2, by omega, HS2.out.below (((Below.refl (B + 1) _).setCell (by simp; omega) _).setCell (by simp; omega) _)⟩, (HB2.out.setCell (by simp; omega) _).setCell (by simp; omega) _, (HA2.out.hfresh (Nat.le_refl _)).hfresh (Nat.le_refl _)⟩
    simp [results, Tryd.results69, go_sem, r0, r1]
  · skip
    have hnz : (⟨#[65, 103, 101]⟩ : ByteArray).size ≤ 1100 := by decide
    have H2 := l1Word_h w1 B a len cap (k + 1) HS1.out ([⟨#[48]⟩, ⟨#[49]⟩, ⟨#[51]⟩, ⟨#[120]⟩] : List ByteArray) 4 rfl (by omega) (by omega) (by omega) hl2
    simp only [List.map_cons, List.map_nil] at H2
    go_wp2_with fail
    refine H2.mono ?_
    rintro e w2 ⟨⟨v, hv, rfl⟩, hs2, hb2, ha2⟩
    have hvz := smallH_of hv (by decide)
    have HS2 : Hid (Src w2 B a len cap (k + 2)) := hs2
    have HB2 : Hid (Below B w w2) := HB1.out.trans hb2
    have HA2 : Hid (ApartH B w w2) := HA1.out.trans ha2
    have HR2 : Hid (HdrAtB w2 w.heap.size ⟨#[]⟩ ⟨#[]⟩) := HR1.out.apart ha2.cells (by omega)
    clear hs2 hb2 ha2 H2 hv HS1 HB1 HA1 HR1
    obtain ⟨r0, r1, rf⟩ := HR2.out
    have rf0 := rf 0
    have rf1 := rf 1
    clear rf
    go_wp2_with fail
    refine bodyPost_ret (v := .agg #[.string ⟨#[65, 103, 101]⟩, .string v]) ?_ rfl ⟨⟨_, v, hnz, hvz, rfl⟩, ⟨k + 2, by omega, HS2.out.below (((Below.refl (B + 1) _).setCell (by simp; omega) _).setCell (by simp; omega) _)⟩, (HB2.out.setCell (by simp; omega) _).setCell (by simp; omega) _, (HA2.out.hfresh (Nat.le_refl _)).hfresh (Nat.le_refl _)⟩
    simp [results, Tryd.results69, go_sem, r0, r1]
  · skip
    have H2 := l1Word_h w1 B a len cap (k + 1) HS1.out ([⟨#[69, 120, 112, 105, 114, 101, 115]⟩, ⟨#[68, 97, 116, 101]⟩] : List ByteArray) 2 rfl (by omega) (by omega) (by omega) hl2
    simp only [List.map_cons, List.map_nil] at H2
    go_wp2_with fail
    refine H2.mono ?_
    rintro e w2 ⟨⟨n, hn, rfl⟩, hs2, hb2, ha2⟩
    have hnz := smallH_of hn (by decide)
    have HS2 : Hid (Src w2 B a len cap (k + 2)) := hs2
    have HB2 : Hid (Below B w w2) := HB1.out.trans hb2
    have HA2 : Hid (ApartH B w w2) := HA1.out.trans ha2
    have HR2 : Hid (HdrAtB w2 w.heap.size ⟨#[]⟩ ⟨#[]⟩) := HR1.out.apart ha2.cells (by omega)
    clear hs2 hb2 ha2 H2 hn HS1 HB1 HA1 HR1
    have H3 := l1Word_h w2 B a len cap (k + 2) HS2.out ([⟨#[84, 104, 117, 44, 32, 48, 49, 32, 74, 97, 110, 32, 49, 57, 55, 48, 32, 48, 48, 58, 48, 48, 58, 48, 53, 32, 71, 77, 84]⟩, ⟨#[84, 104, 117, 44, 32, 48, 49, 32, 74, 97, 110, 32, 49, 57, 55, 48, 32, 48, 48, 58, 48, 48, 58, 48, 57, 32, 71, 77, 84]⟩, ⟨#[48]⟩] : List ByteArray) 3 rfl (by omega) (by omega) (by omega) hl2
    simp only [List.map_cons, List.map_nil] at H3
    go_wp2_with fail
    refine H3.mono ?_
    rintro e w3 ⟨⟨v, hv, rfl⟩, hs3, hb3, ha3⟩
    have hvz := smallH_of hv (by decide)
    have HS3 : Hid (Src w3 B a len cap (k + 3)) := hs3
    have HB3 : Hid (Below B w w3) := HB2.out.trans hb3
    have HA3 : Hid (ApartH B w w3) := HA2.out.trans ha3
    have HR3 : Hid (HdrAtB w3 w.heap.size ⟨#[]⟩ ⟨#[]⟩) := HR2.out.apart ha3.cells (by omega)
    clear hs3 hb3 ha3 H3 hv HS2 HB2 HA2 HR2
    obtain ⟨r0, r1, rf⟩ := HR3.out
    have rf0 := rf 0
    have rf1 := rf 1
    clear rf
    go_wp2_with fail
    refine bodyPost_ret (v := .agg #[.string n, .string v]) ?_ rfl ⟨⟨_, v, hnz, hvz, rfl⟩, ⟨k + 3, by omega, HS3.out.below (((Below.refl (B + 1) _).setCell (by simp; omega) _).setCell (by simp; omega) _)⟩, (HB3.out.setCell (by simp; omega) _).setCell (by simp; omega) _, (HA3.out.hfresh (Nat.le_refl _)).hfresh (Nat.le_refl _)⟩
    simp [results, Tryd.results69, go_sem, r0, r1]
  · skip
    have hnz : (⟨#[83, 117, 114, 114, 111, 103, 97, 116, 101, 45, 75, 101, 121]⟩ : ByteArray).size ≤ 1100 := by decide
    have H2 := l1Word_h w1 B a len cap (k + 1) HS1.out ([⟨#[97, 32, 98]⟩, ⟨#[97]⟩, ⟨#[98, 32, 99]⟩] : List ByteArray) 3 rfl (by omega) (by omega) (by omega) hl2
    simp only [List.map_cons, List.map_nil] at H2
    go_wp2_with fail
    refine H2.mono ?_
    rintro e w2 ⟨⟨v, hv, rfl⟩, hs2, hb2, ha2⟩
    have hvz := smallH_of hv (by decide)
    have HS2 : Hid (Src w2 B a len cap (k + 2)) := hs2
    have HB2 : Hid (Below B w w2) := HB1.out.trans hb2
    have HA2 : Hid (ApartH B w w2) := HA1.out.trans ha2
    have HR2 : Hid (HdrAtB w2 w.heap.size ⟨#[]⟩ ⟨#[]⟩) := HR1.out.apart ha2.cells (by omega)
    clear hs2 hb2 ha2 H2 hv HS1 HB1 HA1 HR1
    obtain ⟨r0, r1, rf⟩ := HR2.out
    have rf0 := rf 0
    have rf1 := rf 1
    clear rf
    go_wp2_with fail
    refine bodyPost_ret (v := .agg #[.string ⟨#[83, 117, 114, 114, 111, 103, 97, 116, 101, 45, 75, 101, 121]⟩, .string v]) ?_ rfl ⟨⟨_, v, hnz, hvz, rfl⟩, ⟨k + 2, by omega, HS2.out.below (((Below.refl (B + 1) _).setCell (by simp; omega) _).setCell (by simp; omega) _)⟩, (HB2.out.setCell (by simp; omega) _).setCell (by simp; omega) _, (HA2.out.hfresh (Nat.le_refl _)).hfresh (Nat.le_refl _)⟩
    simp [results, Tryd.results69, go_sem, r0, r1]
  · skip
    have n0 : ¬ x = 0 := by omega
    have n1 : ¬ x = 1 := by omega
    have n2 : ¬ x = 2 := by omega
    have n3 : ¬ x = 3 := by omega
    have n4 : ¬ x = 4 := by omega
    have n5 : ¬ x = 5 := by omega
    have n6 : ¬ x = 6 := by omega
    have H2 := l1Word_h w1 B a len cap (k + 1) HS1.out ([⟨#[65, 99, 99, 101, 112, 116]⟩, ⟨#[88, 45, 65]⟩, ⟨#[65, 99, 99, 101, 112, 116, 45, 76, 97, 110, 103, 117, 97, 103, 101]⟩, ⟨#[83, 101, 114, 118, 101, 114]⟩] : List ByteArray) 4 rfl (by omega) (by omega) (by omega) hl2
    simp only [List.map_cons, List.map_nil] at H2
    go_wp2_with fail
    refine H2.mono ?_
    rintro e w2 ⟨⟨n, hn, rfl⟩, hs2, hb2, ha2⟩
    have hnz := smallH_of hn (by decide)
    have HS2 : Hid (Src w2 B a len cap (k + 2)) := hs2
    have HB2 : Hid (Below B w w2) := HB1.out.trans hb2
    have HA2 : Hid (ApartH B w w2) := HA1.out.trans ha2
    have HR2 : Hid (HdrAtB w2 w.heap.size ⟨#[]⟩ ⟨#[]⟩) := HR1.out.apart ha2.cells (by omega)
    clear hs2 hb2 ha2 H2 hn HS1 HB1 HA1 HR1
    have H3 := l1Word_h w2 B a len cap (k + 2) HS2.out ([⟨#[120]⟩, ⟨#[121]⟩, ⟨#[]⟩, ⟨#[116, 101, 120, 116, 47, 104, 116, 109, 108]⟩] : List ByteArray) 4 rfl (by omega) (by omega) (by omega) hl2
    simp only [List.map_cons, List.map_nil] at H3
    go_wp2_with fail
    refine H3.mono ?_
    rintro e w3 ⟨⟨v, hv, rfl⟩, hs3, hb3, ha3⟩
    have hvz := smallH_of hv (by decide)
    have HS3 : Hid (Src w3 B a len cap (k + 3)) := hs3
    have HB3 : Hid (Below B w w3) := HB2.out.trans hb3
    have HA3 : Hid (ApartH B w w3) := HA2.out.trans ha3
    have HR3 : Hid (HdrAtB w3 w.heap.size ⟨#[]⟩ ⟨#[]⟩) := HR2.out.apart ha3.cells (by omega)
    clear hs3 hb3 ha3 H3 hv HS2 HB2 HA2 HR2
    obtain ⟨r0, r1, rf⟩ := HR3.out
    have rf0 := rf 0
    have rf1 := rf 1
    clear rf
    go_wp2_with fail
    refine bodyPost_ret (v := .agg #[.string n, .string v]) ?_ rfl ⟨⟨_, v, hnz, hvz, rfl⟩, ⟨k + 3, by omega, HS3.out.below (((Below.refl (B + 1) _).setCell (by simp; omega) _).setCell (by simp; omega) _)⟩, (HB3.out.setCell (by simp; omega) _).setCell (by simp; omega) _, (HA3.out.hfresh (Nat.le_refl _)).hfresh (Nat.le_refl _)⟩
    simp [results, Tryd.results69, go_sem, r0, r1]
end Go.Proofs.YthlenlijdlfdeaaDoor
