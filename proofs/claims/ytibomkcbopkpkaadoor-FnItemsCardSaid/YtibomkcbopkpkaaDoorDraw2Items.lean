/-
  The draws of chapter 2's laws: lists, texts, an item that may be at fault.
-/
import Derived.Test.YtibomkcbopkpkaaDoorDrawItems
import Derived.Test.YtibomkcbopkpkaaDoorItemsTextSpec
namespace Go.Proofs.YtibomkcbopkpkaaDoor
open Go.ChangeShapes Go.WideShapes Go.ChangeAt Go.RowKit
theorem small_of {xs : List ByteArray} {v : ByteArray} (h : v ∈ xs) (hx : xs.all (fun x => decide (x.size ≤ 2000)) = true) : v.size ≤ 2000 := by
  have := List.all_eq_true.1 hx v h
  simpa using this
theorem textT_size (l : List Rec) : (textT l).size ≤ 1000 := by
  by_cases h1 : 20 < l.length
  · rw [(textC_many h1).2]; simp [ByteArray.size]
  by_cases h2 : faultL l = 0
  · by_cases h3 : 1000 < (joinL l).length
    · rw [(textC_long h1 h2 h3).2]; simp [ByteArray.size]
    · rw [(textC_ok h1 h2 h3).2]
      show (joinL l).toArray.size ≤ 1000
      simpa using h3
  · rw [(textC_fault h1 h2).2]; simp [ByteArray.size]
def SomeFind (base : Nat) (e : Ending) (w : World) : Prop := ∃ va vc L name, e = .returned (.tuple #[.slice va (List.length L) vc, .string name]) ∧ OwnI w base (.slice va (List.length L) vc) L ∧ L.length ≤ 21 ∧ SmallR L ∧ name.size ≤ 2000
set_option maxRecDepth 100000 in
set_option maxHeartbeats 2000000 in
theorem drawFindItem_any (w : World) (a : Option Addr) (len cap : Nat) (hc : CodeRow w w.heap.size a len) (hl2 : len ≤ 1048576) :
    Calls Tryd.prog 31 #[.slice a len cap] w fun e w' => SomeFind w.heap.size e w' ∧ Below w.heap.size w w' := by
  have HC : Hid (∀ W, Below w.heap.size w W → CodeRow W W.heap.size a len) := fun W hb => (hc.below hb).mono hb.size
  clear hc
  go_enter Tryd.func31, Tryd.ntmps31
  go_wp2_with fail
  refine (l1Source_any w a len cap (HC.out _ (Below.refl _ _))).mono ?_
  rintro e w1 ⟨rfl, hs1, hb1⟩
  have HS1 : Hid (Src w1 w.heap.size a len cap 0) := hs1
  have HB1 : Hid (Below w.heap.size w w1) := hb1
  have hlt := hs1.lt
  clear hs1 hb1
  go_wp2_with fail
  refine (drawItems_any w1 w.heap.size a len cap 0 HS1.out (by omega) hl2).mono ?_
  rintro e w2 ⟨⟨v2, L, rfl, ho2, hL2, hr2⟩, ⟨k2, hk2, hs2⟩, hb2, ha2⟩
  obtain ⟨va, vc, rfl, hin2⟩ := ho2.at
  clear ha2 hin2
  have HO2 : Hid (OwnI w2 w1.heap.size (.slice va L.length vc) L) := ho2
  have HR2 : Hid (SmallR L) := hr2
  have HS2 : Hid (Src w2 w.heap.size a len cap k2) := hs2
  have HB2 : Hid (Below w.heap.size w w2) := HB1.out.trans hb2
  clear ho2 hr2 hs2 hb2 HS1 HB1
  generalize w1.heap.size = X1 at *
  clear w1
  have H1 := l1Word_h w2 w.heap.size a len cap k2 HS2.out ([⟨#[109, 97, 120, 45, 97, 103, 101]⟩, ⟨#[77, 65, 88, 45, 65, 71, 69]⟩, ⟨#[112, 114, 105, 118, 97, 116, 101]⟩, ⟨#[120]⟩, ⟨#[122, 122]⟩, ⟨#[]⟩, ⟨#[97, 32, 98]⟩] : List ByteArray) 7 rfl (by omega) (by omega) (by omega) hl2
  simp only [List.map_cons, List.map_nil] at H1
  go_wp2_with fail
  refine H1.mono ?_
  rintro e w3 ⟨⟨n, hn, rfl⟩, _, hb3, ha3⟩
  have hnz := small_of hn (by decide)
  have HB3 : Hid (Below w.heap.size w w3) := HB2.out.trans hb3
  have HO3 : Hid (OwnI w3 X1 (.slice va L.length vc) L) := HO2.out.apart ha3 hlt
  clear hn hb3 ha3 H1 HS2 HB2 HO2
  go_wp2_with fail
  go_ret2
  exact ⟨⟨va, vc, L, n, rfl, HO3.out.lower (by omega), hL2, HR2.out, hnz⟩, HB3.out⟩
set_option maxRecDepth 100000 in
set_option maxHeartbeats 2000000 in
theorem drawParseItems_any (w : World) (a : Option Addr) (len cap : Nat) (hc : CodeRow w w.heap.size a len) (hl2 : len ≤ 1048576) :
    Calls Tryd.prog 29 #[.slice a len cap] w fun e w' => (∃ t : ByteArray, e = .returned (.string t)) ∧ Below w.heap.size w w' := by
  have HC : Hid (∀ W, Below w.heap.size w W → CodeRow W W.heap.size a len) := fun W hb => (hc.below hb).mono hb.size
  clear hc
  go_enter Tryd.func29, Tryd.ntmps29
  go_wp2_with fail
  refine (l1Source_any w a len cap (HC.out _ (Below.refl _ _))).mono ?_
  rintro e w1 ⟨rfl, hs1, hb1⟩
  have HS1 : Hid (Src w1 w.heap.size a len cap 0) := hs1
  have HB1 : Hid (Below w.heap.size w w1) := hb1
  have hlt := hs1.lt
  clear hs1 hb1
  go_wp2_with fail
  refine (drawItems_any w1 w.heap.size a len cap 0 HS1.out (by omega) hl2).mono ?_
  rintro e w2 ⟨⟨v2, L, rfl, ho2, hL2, hr2⟩, ⟨k2, hk2, hs2⟩, hb2, ha2⟩
  obtain ⟨va, vc, rfl, hin2⟩ := ho2.at
  clear ha2 hin2
  have HO2 : Hid (OwnI w2 w1.heap.size (.slice va L.length vc) L) := ho2
  have HR2 : Hid (SmallR L) := hr2
  have HS2 : Hid (Src w2 w.heap.size a len cap k2) := hs2
  have HB2 : Hid (Below w.heap.size w w2) := HB1.out.trans hb2
  clear ho2 hr2 hs2 hb2 HS1 HB1
  generalize w1.heap.size = X1 at *
  clear w1
  have H1 := specText_any w2 va vc L (by omega) (by obtain ⟨a', c', e', hi⟩ := HO2.out.at; simp only [Value.slice.injEq] at e'; rw [e'.1]; exact hi)
  have hzt := textT_size L
  generalize textT L = t at *
  generalize textC L = c at *
  have hft : ∀ (c : Int) (t : ByteArray) (w : World), (Instr.field 26 (.agg #[.int .i64 c, .string t]) 1).run Tryd.prog w = .ok (.string t) w := fun c t w => by kernel_rfl
  go_wp2_with fail
  refine H1.mono ?_
  rintro e w3 ⟨rfl, hb3⟩
  have HS3 : Hid (Src w3 w.heap.size a len cap k2) := HS2.out.below (hb3.mono HS2.out.lt)
  have HB3 : Hid (Below w.heap.size w w3) := HB2.out.trans (hb3.mono HB2.out.size)
  clear hb3 H1 HS2 HB2 HO2 HR2
  go_wp2_with fail
  refine (l1Next_h _ w.heap.size a len cap k2 9 HS3.out (by omega) (by omega) (by omega) hl2).mono ?_
  rintro e w4 ⟨⟨x, hx0, hx1, rfl⟩, hs4, hb4, _⟩
  have HS4 : Hid (Src w4 w.heap.size a len cap (k2 + 1)) := hs4
  have HB4 : Hid (Below w.heap.size w w4) := HB3.out.trans hb4
  clear hs4 hb4 HS3 HB3
  have hxs : x = 0 ∨ x = 1 ∨ x = 2 ∨ 3 ≤ x := by omega
  rcases hxs with rfl | rfl | rfl | hx3
  · have H2 := l1Word_h w4 w.heap.size a len cap (k2 + 1) HS4.out ([⟨#[44, 44, 97]⟩, ⟨#[97, 61]⟩, ⟨#[97, 61, 34, 98]⟩, ⟨#[97, 32, 98]⟩, ⟨#[97, 61, 34, 98, 44, 99, 34, 44, 32, 100]⟩, ⟨#[61, 97]⟩, ⟨#[97, 61, 98, 61, 99]⟩, ⟨#[32, 97, 32, 44, 32, 44, 98, 61, 34, 34, 32]⟩, ⟨#[97, 61, 34, 120, 92, 34, 121, 34]⟩, ⟨#[34, 97, 44, 98, 34]⟩, ⟨#[97, 61, 98, 32, 99]⟩] : List ByteArray) 11 rfl (by omega) (by omega) (by omega) hl2
    simp only [List.map_cons, List.map_nil] at H2
    go_wp2_with fail
    refine H2.mono ?_
    rintro e w5 ⟨⟨r, _, rfl⟩, _, hb5, _⟩
    have HB5 : Hid (Below w.heap.size w w5) := HB4.out.trans hb5
    clear hb5 H2
    go_wp2_with fail
    go_ret
    exact ⟨⟨_, rfl⟩, HB5.out⟩
  · have H2 := l1Word_h w4 w.heap.size a len cap (k2 + 1) HS4.out ([⟨#[44]⟩, ⟨#[32, 44, 120]⟩, ⟨#[44, 32, 61]⟩, ⟨#[34]⟩, ⟨#[92]⟩] : List ByteArray) 5 rfl (by omega) (by omega) (by omega) hl2
    simp only [List.map_cons, List.map_nil] at H2
    go_wp2_with fail
    refine H2.mono ?_
    rintro e w5 ⟨⟨r, hr, rfl⟩, _, hb5, _⟩
    have hrz := small_of hr (by decide)
    have HB5 : Hid (Below w.heap.size w w5) := HB4.out.trans hb5
    clear hb5 H2 hr
    have hadd := fun w => run_string_add_sum (P := Tryd.prog) (w := w) t r (by omega)
    go_wp2_with fail
    go_ret
    exact ⟨⟨_, rfl⟩, HB5.out⟩
  · go_wp2_with fail
    refine (l1Long_h _ w.heap.size a len cap (k2 + 1) HS4.out t (by omega) (by omega) hl2).mono ?_
    rintro e w5 ⟨⟨r, _, _, rfl⟩, _, hb5, _⟩
    have HB5 : Hid (Below w.heap.size w w5) := HB4.out.trans hb5
    clear hb5
    go_wp2_with fail
    go_ret
    exact ⟨⟨_, rfl⟩, HB5.out⟩
  · have n0 : ¬ x = 0 := by omega
    have n1 : ¬ x = 1 := by omega
    have n2 : ¬ x = 2 := by omega
    go_wp2_with fail
    go_ret
    exact ⟨⟨_, rfl⟩, HB4.out⟩
set_option maxRecDepth 100000 in
set_option maxHeartbeats 4000000 in
theorem drawItemFault_any (w : World) (a : Option Addr) (len cap : Nat) (hc : CodeRow w w.heap.size a len) (hl2 : len ≤ 1048576) :
    Calls Tryd.prog 74 #[.slice a len cap] w fun e w' => SomeItem e ∧ Below w.heap.size w w' := by
  have H0 := l1Source_any (w.alloc (.cells #[.string ⟨#[]⟩, .bool false, .string ⟨#[]⟩] 80)) a len cap ((hc.below ((Below.refl _ _).alloc (Nat.le_refl _) _)).mono (by simp))
  rw [World.size_alloc] at H0
  clear hc
  go_enter Tryd.func74, Tryd.ntmps74
  go_wp2_with fail
  refine H0.mono ?_
  rintro e w1 ⟨rfl, hs1, hb1⟩
  have HS1 : Hid (Src w1 (w.heap.size + 1) a len cap 0) := hs1
  have HR1 : Hid (RecAtB w1 w.heap.size ⟨#[]⟩ false ⟨#[]⟩) := (recAtB_new w ⟨#[]⟩ false ⟨#[]⟩ 80).keep (by rw [World.size_alloc]; exact hb1)
  have HB1 : Hid (Below w.heap.size w w1) := ((Below.refl _ _).alloc (Nat.le_refl _) _).trans (hb1.mono (Nat.le_succ _))
  clear hs1 hb1 H0
  go_wp2_with fail
  refine (drawItem_any _ (w.heap.size + 1) a len cap 0 HS1.out (by omega) hl2).mono ?_
  rintro e w2 ⟨⟨n, h, v, hn, hv, rfl⟩, ⟨k2, hk2, hs2⟩, hb2, ha2⟩
  have HS2 : Hid (Src w2 (w.heap.size + 1) a len cap k2) := hs2
  have HB2 : Hid (Below w.heap.size w w2) := HB1.out.trans (hb2.mono (Nat.le_succ _))
  have HR2 : Hid (RecAtB w2 w.heap.size ⟨#[]⟩ false ⟨#[]⟩) := HR1.out.apart ha2.cells (by omega)
  clear hs2 hb2 ha2 HS1 HB1 HR1
  clear w1
  have hlt2 := HS2.out.lt
  have al : Below w2.heap.size w2 (w2.alloc (.cells #[.string n, .bool h, .string v] 80)) := (Below.refl _ _).alloc (Nat.le_refl _) _
  have HN := l1Next_h (w2.alloc (.cells #[.string n, .bool h, .string v] 80)) (w.heap.size + 1) a len cap k2 9 (HS2.out.alloc _) (by omega) (by omega) (by omega) hl2
  have HRa : Hid (RecAtB (w2.alloc (.cells #[.string n, .bool h, .string v] 80)) w.heap.size ⟨#[]⟩ false ⟨#[]⟩) := HR2.out.keep al
  clear al
  go_wp2_with fail
  refine HN.mono ?_
  rintro e w3 ⟨⟨x, hx0, hx1, rfl⟩, hs3, hb3, ha3⟩
  have HS3 : Hid (Src w3 (w.heap.size + 1) a len cap (k2 + 1)) := hs3
  have HB3 : Hid (Below w.heap.size w w3) := (HB2.out.alloc HB2.out.size _).trans (hb3.mono (Nat.le_succ _))
  have HR3 : Hid (RecAtB w3 w.heap.size ⟨#[]⟩ false ⟨#[]⟩) := HRa.out.apart ha3.cells (by omega)
  have HI3 : Hid (RecAtB w3 w2.heap.size n h v) := (recAtB_new w2 n h v 80).apart ha3.cells (by omega)
  clear hs3 hb3 ha3 HS2 HB2 HR2 HRa HN
  generalize w2.heap.size = Bi at *
  clear w2
  have z0 : (⟨#[]⟩ : ByteArray).size ≤ 2000 := by decide
  have z1 : (⟨#[1]⟩ : ByteArray).size ≤ 2000 := by decide
  have hxs : x = 0 ∨ x = 1 ∨ x = 2 ∨ x = 3 ∨ 4 ≤ x := by omega
  rcases hxs with rfl | rfl | rfl | rfl | hx4
  · have H2 := l1Word_h w3 (w.heap.size + 1) a len cap (k2 + 1) HS3.out ([⟨#[]⟩, ⟨#[97, 32, 98]⟩, ⟨#[97, 61]⟩] : List ByteArray) 3 rfl (by omega) (by omega) (by omega) hl2
    simp only [List.map_cons, List.map_nil] at H2
    go_wp2_with fail
    refine H2.mono ?_
    rintro e w4 ⟨⟨r, hr, rfl⟩, _, hb4, ha4⟩
    have hrz := small_of hr (by decide)
    have HB4 : Hid (Below w.heap.size w w4) := HB3.out.trans (hb4.mono (Nat.le_succ _))
    have HR4 : Hid (RecAtB w4 w.heap.size ⟨#[]⟩ false ⟨#[]⟩) := HR3.out.apart ha4.cells (by omega)
    have HI4 : Hid (RecAtB w4 Bi n h v) := HI3.out.apart ha4.cells (by omega)
    clear hr hb4 ha4 H2 HS3 HB3 HR3 HI3
    obtain ⟨c0, c1, c2, cf⟩ := HI4.out
    obtain ⟨r0, r1, r2, rf⟩ := HR4.out
    have rf0 := rf 0
    have rf1 := rf 1
    have rf2 := rf 2
    clear rf
    have hne : ¬ w.heap.size = Bi := by omega
    have cf0 := cf 0
    go_wp2_with fail
    refine bodyPost_ret (v := .agg #[.string r, .bool h, .string v]) ?_ rfl ⟨⟨_, _, _, hrz, hv, rfl⟩, (((HB4.out.setCell (by simp; omega) _).setCell (Nat.le_refl _) _).setCell (Nat.le_refl _) _).setCell (Nat.le_refl _) _⟩
    simp [results, Tryd.results74, go_sem, r0, r1, r2]
  · skip
    obtain ⟨c0, c1, c2, cf⟩ := HI3.out
    obtain ⟨r0, r1, r2, rf⟩ := HR3.out
    have rf0 := rf 0
    have rf1 := rf 1
    have rf2 := rf 2
    clear rf
    have hne : ¬ w.heap.size = Bi := by omega
    have cf1 := cf 1
    go_wp2_with fail
    refine bodyPost_ret (v := .agg #[.string n, .bool false, .string v]) ?_ rfl ⟨⟨_, _, _, hn, hv, rfl⟩, (((HB3.out.setCell (by simp; omega) _).setCell (Nat.le_refl _) _).setCell (Nat.le_refl _) _).setCell (Nat.le_refl _) _⟩
    simp [results, Tryd.results74, go_sem, r0, r1, r2]
  · skip
    obtain ⟨c0, c1, c2, cf⟩ := HI3.out
    obtain ⟨r0, r1, r2, rf⟩ := HR3.out
    have rf0 := rf 0
    have rf1 := rf 1
    have rf2 := rf 2
    clear rf
    have hne : ¬ w.heap.size = Bi := by omega
    have cf2 := cf 2
    go_wp2_with fail
    refine bodyPost_ret (v := .agg #[.string n, .bool h, .string ⟨#[1]⟩]) ?_ rfl ⟨⟨_, _, _, hn, z1, rfl⟩, (((HB3.out.setCell (by simp; omega) _).setCell (Nat.le_refl _) _).setCell (Nat.le_refl _) _).setCell (Nat.le_refl _) _⟩
    simp [results, Tryd.results74, go_sem, r0, r1, r2]
  · go_wp2_with fail
    refine (l1Long_h _ (w.heap.size + 1) a len cap (k2 + 1) HS3.out ⟨#[120]⟩ (by decide) (by omega) hl2).mono ?_
    rintro e w4 ⟨⟨r, _, hr, rfl⟩, _, hb4, ha4⟩
    have hrz : r.size ≤ 2000 := by omega
    have HB4 : Hid (Below w.heap.size w w4) := HB3.out.trans (hb4.mono (Nat.le_succ _))
    have HR4 : Hid (RecAtB w4 w.heap.size ⟨#[]⟩ false ⟨#[]⟩) := HR3.out.apart ha4.cells (by omega)
    have HI4 : Hid (RecAtB w4 Bi n h v) := HI3.out.apart ha4.cells (by omega)
    clear hr hb4 ha4 HS3 HB3 HR3 HI3
    obtain ⟨c0, c1, c2, cf⟩ := HI4.out
    obtain ⟨r0, r1, r2, rf⟩ := HR4.out
    have rf0 := rf 0
    have rf1 := rf 1
    have rf2 := rf 2
    clear rf
    have hne : ¬ w.heap.size = Bi := by omega
    have cf2 := cf 2
    go_wp2_with fail
    refine bodyPost_ret (v := .agg #[.string n, .bool h, .string r]) ?_ rfl ⟨⟨_, _, _, hn, hrz, rfl⟩, (((HB4.out.setCell (by simp; omega) _).setCell (Nat.le_refl _) _).setCell (Nat.le_refl _) _).setCell (Nat.le_refl _) _⟩
    simp [results, Tryd.results74, go_sem, r0, r1, r2]
  · have n0 : ¬ x = 0 := by omega
    have n1 : ¬ x = 1 := by omega
    have n2 : ¬ x = 2 := by omega
    have n3 : ¬ x = 3 := by omega
    obtain ⟨c0, c1, c2, cf⟩ := HI3.out
    obtain ⟨r0, r1, r2, rf⟩ := HR3.out
    have rf0 := rf 0
    have rf1 := rf 1
    have rf2 := rf 2
    clear rf
    have hne : ¬ w.heap.size = Bi := by omega
    clear cf
    go_wp2_with fail
    refine bodyPost_ret (v := .agg #[.string n, .bool h, .string v]) ?_ rfl ⟨⟨_, _, _, hn, hv, rfl⟩, ((HB3.out.setCell (Nat.le_refl _) _).setCell (Nat.le_refl _) _).setCell (Nat.le_refl _) _⟩
    simp [results, Tryd.results74, go_sem, r0, r1, r2]
end Go.Proofs.YtibomkcbopkpkaaDoor
