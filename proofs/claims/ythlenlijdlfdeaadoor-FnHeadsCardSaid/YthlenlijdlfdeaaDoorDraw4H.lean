/-
  The draws of chapter 4's law: head lines with a name and a value; a text.
-/
import Derived.Test.YthlenlijdlfdeaaDoorDrawBentH
import Derived.Test.YthlenlijdlfdeaaDoorHPackFns
import Derived.Deep.RegionWith
import Derived.OwnWalk
namespace Go.Proofs.YthlenlijdlfdeaaDoor
open Go.ChangeShapes Go.WideShapes Go.ChangeAt Go.RowKit
theorem packL_small : ∀ l : List Hdr, SmallH l → (packL l).length ≤ l.length * 2204
  | [], _ => by simp [packL]
  | r :: l, h => by
    have ih := packL_small l (fun q hq => h q (by simp [hq]))
    obtain ⟨h1, h2⟩ := h r (by simp)
    have e1 : r.name.data.toList.length = r.name.size := by simp
    have e2 : r.value.data.toList.length = r.value.size := by simp
    have e : packL (r :: l) = lineL r ++ packL l := by simp [packL]
    rw [e, List.length_append, List.length_cons]
    simp only [lineL, List.length_append, List.length_cons, List.length_nil]
    omega
def SomeSet (base : Nat) (e : Ending) (w : World) : Prop := ∃ va vc L name value, e = .returned (.tuple #[.slice va (List.length L) vc, .string name, .string value]) ∧ OwnH w base (.slice va (List.length L) vc) L ∧ L.length ≤ 21 ∧ SmallH L ∧ name.size ≤ 1100 ∧ value.size ≤ 1100
set_option maxRecDepth 100000 in
set_option maxHeartbeats 2000000 in
theorem l4Name_any (w : World) (B : Nat) (a : Option Addr) (len cap k : Nat) (hs : Src w B a len cap k) (hk : k ≤ 50000) (hl2 : len ≤ 1048576) :
    Calls Tryd.prog 37 #[.pointer (some ⟨B, 0, none⟩)] w fun e w' => (∃ n : ByteArray, n.size ≤ 1100 ∧ e = .returned (.string n)) ∧ Src w' B a len cap (k + 1) ∧ Below B w w' ∧ ApartH B w w' := by
  have H1 := l1Word_h w B a len cap k hs ([⟨#[67, 97, 99, 104, 101, 45, 67, 111, 110, 116, 114, 111, 108]⟩, ⟨#[99, 97, 99, 104, 101, 45, 99, 111, 110, 116, 114, 111, 108]⟩, ⟨#[69, 84, 65, 71]⟩, ⟨#[86, 97, 114, 121]⟩, ⟨#[120]⟩, ⟨#[65, 99, 99, 101, 112, 116]⟩, ⟨#[88, 45, 97]⟩, ⟨#[68, 97, 116, 101]⟩, ⟨#[]⟩, ⟨#[97, 32, 98]⟩] : List ByteArray) 10 rfl (by omega) (by omega) (by omega) hl2
  simp only [List.map_cons, List.map_nil] at H1
  clear hs
  go_enter Tryd.func37, Tryd.ntmps37
  go_wp2_with fail
  refine H1.mono ?_
  rintro e w3 ⟨⟨n, hn, rfl⟩, hs3, hb3, ha3⟩
  have hnz := smallH_of hn (by decide)
  have K : Hid (Src w3 B a len cap (k + 1) ∧ Below B w w3 ∧ ApartH B w w3) := ⟨hs3, hb3, ha3⟩
  clear hs3 hb3 ha3 hn H1
  go_wp2_with fail
  go_ret
  exact ⟨⟨n, hnz, rfl⟩, K.out⟩
set_option maxRecDepth 100000 in
set_option maxHeartbeats 2000000 in
theorem drawSetHeader_any (w : World) (a : Option Addr) (len cap : Nat) (hc : CodeRow w w.heap.size a len) (hl2 : len ≤ 1048576) :
    Calls Tryd.prog 11 #[.slice a len cap] w fun e w' => SomeSet w.heap.size e w' ∧ Below w.heap.size w w' := by
  have HC : Hid (CodeRow w w.heap.size a len) := hc
  clear hc
  go_enter Tryd.func11, Tryd.ntmps11
  go_wp2_with fail
  refine (l1Source_any w a len cap HC.out).mono ?_
  rintro e w1 ⟨rfl, hs1, hb1⟩
  have HS1 : Hid (Src w1 w.heap.size a len cap 0) := hs1
  have HB1 : Hid (Below w.heap.size w w1) := hb1
  have hlt := hs1.lt
  clear hs1 hb1 HC
  go_wp2_with fail
  refine (l4Bent_any w1 w.heap.size a len cap 0 HS1.out (by omega) hl2).mono ?_
  rintro e w2 ⟨⟨v2, L, rfl, ho2, hL2, hr2⟩, ⟨k2, hk2, hs2⟩, hb2, ha2⟩
  obtain ⟨va, vc, rfl⟩ := own_len ho2
  have HO2 : Hid (OwnH w2 w1.heap.size (.slice va L.length vc) L) := ho2
  have HR2 : Hid (SmallH L) := hr2
  have HS2 : Hid (Src w2 w.heap.size a len cap k2) := hs2
  have HB2 : Hid (Below w.heap.size w w2) := HB1.out.trans hb2
  clear ho2 hr2 hs2 hb2 ha2 HS1 HB1
  generalize w1.heap.size = X1 at *
  clear w1
  go_wp2_with fail
  refine (l4Name_any w2 w.heap.size a len cap k2 HS2.out (by omega) hl2).mono ?_
  rintro e w3 ⟨⟨n, hn, rfl⟩, hs3, hb3, ha3⟩
  have HS3 : Hid (Src w3 w.heap.size a len cap (k2 + 1)) := hs3
  have HB3 : Hid (Below w.heap.size w w3) := HB2.out.trans hb3
  have HO3 : Hid (OwnH w3 X1 (.slice va L.length vc) L) := HO2.out.apart ha3 hlt
  clear hs3 hb3 ha3 HS2 HB2 HO2
  clear w2
  have H1 := l1Word_h w3 w.heap.size a len cap (k2 + 1) HS3.out ([⟨#[118]⟩, ⟨#[]⟩, ⟨#[97, 32, 98]⟩, ⟨#[32, 118]⟩, ⟨#[127]⟩, ⟨#[109, 97, 120, 45, 97, 103, 101, 61, 49]⟩] : List ByteArray) 6 rfl (by omega) (by omega) (by omega) hl2
  simp only [List.map_cons, List.map_nil] at H1
  go_wp2_with fail
  refine H1.mono ?_
  rintro e w4 ⟨⟨v, hv, rfl⟩, _, hb4, ha4⟩
  have hvz := smallH_of hv (by decide)
  have HB4 : Hid (Below w.heap.size w w4) := HB3.out.trans hb4
  have HO4 : Hid (OwnH w4 X1 (.slice va L.length vc) L) := HO3.out.apart ha4 hlt
  clear hv hb4 ha4 H1 HS3 HB3 HO3
  go_wp2_with fail
  go_ret3
  exact ⟨⟨va, vc, L, n, v, rfl, HO4.out.lower (by omega), hL2, HR2.out, hn, hvz⟩, HB4.out⟩
set_option maxRecDepth 100000 in
set_option maxHeartbeats 8000000 in
theorem drawReadHeaders_any (w : World) (a : Option Addr) (len cap : Nat) (hc : CodeRow w w.heap.size a len) (hl2 : len ≤ 1048576) :
    Calls Tryd.prog 15 #[.slice a len cap] w fun e w' => (∃ t : ByteArray, e = .returned (.string t)) ∧ Below w.heap.size w w' := by
  have HC : Hid (CodeRow w w.heap.size a len) := hc
  clear hc
  go_enter Tryd.func15, Tryd.ntmps15
  go_wp2_with fail
  refine (l1Source_any w a len cap HC.out).mono ?_
  rintro e w1 ⟨rfl, hs1, hb1⟩
  have HS1 : Hid (Src w1 w.heap.size a len cap 0) := hs1
  have HB1 : Hid (Below w.heap.size w w1) := hb1
  clear hs1 hb1 HC
  go_wp2_with fail
  refine (l4Bent_any w1 w.heap.size a len cap 0 HS1.out (by omega) hl2).mono ?_
  rintro e w2 ⟨⟨v2, L, rfl, ho2, hL2, hr2⟩, ⟨k2, hk2, hs2⟩, hb2, ha2⟩
  obtain ⟨va, vc, rfl, hin2⟩ := ho2.at
  have HS2 : Hid (Src w2 w.heap.size a len cap k2) := hs2
  have HB2 : Hid (Below w.heap.size w w2) := HB1.out.trans hb2
  have H1 := l4Pack_any w2 va vc L (by omega) (fun i r hr => hr2 r (List.mem_of_getElem? hr)) hin2
  have hzt : (⟨(packL L).toArray⟩ : ByteArray).size ≤ 50000 := by
    have := packL_small L hr2
    show (packL L).toArray.size ≤ _
    rw [List.size_toArray]
    omega
  clear ho2 hr2 hs2 hb2 ha2 HS1 HB1 hin2
  clear w1
  generalize (⟨(packL L).toArray⟩ : ByteArray) = t at *
  generalize L.length = ln at *
  go_wp2_with fail
  refine H1.mono ?_
  rintro e w3 ⟨rfl, hb3⟩
  have HS3 : Hid (Src w3 w.heap.size a len cap k2) := HS2.out.below (hb3.mono HS2.out.lt)
  have HB3 : Hid (Below w.heap.size w w3) := HB2.out.trans (hb3.mono HB2.out.size)
  clear hb3 H1 HS2 HB2
  clear w2
  go_wp2_with fail
  refine (l1Next_h _ w.heap.size a len cap k2 9 HS3.out (by omega) (by omega) (by omega) hl2).mono ?_
  rintro e w4 ⟨⟨x, hx0, hx1, rfl⟩, hs4, hb4, _⟩
  have HS4 : Hid (Src w4 w.heap.size a len cap (k2 + 1)) := hs4
  have HB4 : Hid (Below w.heap.size w w4) := HB3.out.trans hb4
  clear hs4 hb4 HS3 HB3
  have hxs : x = 0 ∨ x = 1 ∨ x = 2 ∨ 3 ≤ x := by omega
  rcases hxs with rfl | rfl | rfl | hx3
  · have H2 := l1Word_h w4 w.heap.size a len cap (k2 + 1) HS4.out ([⟨#[97, 58, 98, 13, 10]⟩, ⟨#[97, 13, 10]⟩, ⟨#[97, 58, 32, 98]⟩, ⟨#[13, 10]⟩, ⟨#[97, 58, 13, 10]⟩, ⟨#[58, 32, 120, 13, 10]⟩, ⟨#[97, 58, 32, 32, 98, 32, 9, 13, 10, 99, 58, 32, 100, 13, 10]⟩, ⟨#[97, 58, 32, 98, 13, 13, 10]⟩, ⟨#[97, 58, 32, 98, 10]⟩, ⟨#[97, 58, 32, 98, 58, 99, 13, 10]⟩] : List ByteArray) 10 rfl (by omega) (by omega) (by omega) hl2
    simp only [List.map_cons, List.map_nil] at H2
    go_wp2_with fail
    refine H2.mono ?_
    rintro e w5 ⟨⟨r, _, rfl⟩, _, hb5, _⟩
    have HB5 : Hid (Below w.heap.size w w5) := HB4.out.trans hb5
    clear hb5 H2
    go_wp2_with fail
    go_ret
    exact ⟨⟨_, rfl⟩, HB5.out⟩
  · by_cases h0 : 0 < t.size
    · have g0 : 0 < (t.size : Int) := by omega
      go_wp2_with fail
      refine (l1Next_h _ w.heap.size a len cap (k2 + 1) (t.size : Int) HS4.out (by omega) (by omega) (by omega) hl2).mono ?_
      rintro e w5 ⟨⟨p, hp0, hp1, rfl⟩, hs5, hb5, _⟩
      have HS5 : Hid (Src w5 w.heap.size a len cap (k2 + 1 + 1)) := hs5
      have HB5 : Hid (Below w.heap.size w w5) := HB4.out.trans hb5
      clear hs5 hb5 HS4 HB4
      have hq1 : (t.extract 0 p.toNat).size ≤ 50000 := by rw [ByteArray.size_extract]; omega
      have hq2 : (t.extract p.toNat t.size).size ≤ 50000 := by rw [ByteArray.size_extract]; omega
      have hs1 := fun w => run_slice_string_h (P := Tryd.prog) w 9 t Tryd.underlying9 .i64 p (by omega) (by omega)
      have hs2 := fun w => run_slice_string_l (P := Tryd.prog) w 9 t Tryd.underlying9 .i64 p (by omega) (by omega)
      generalize t.extract 0 p.toNat = q1 at *
      generalize t.extract p.toNat t.size = q2 at *
      have HSD : Hid (Src w5.drew w.heap.size a len cap (k2 + 1 + 1)) := HS5.out.below ((Below.refl _ _).drew)
      have HBD : Hid (Below w.heap.size w w5.drew) := HB5.out.trans ((Below.refl _ _).drew)
      have H2 := l1Word_h w5.drew w.heap.size a len cap (k2 + 1 + 1) HSD.out ([⟨#[13, 10]⟩, ⟨#[58]⟩, ⟨#[32]⟩, ⟨#[10]⟩] : List ByteArray) 4 rfl (by omega) (by omega) (by omega) hl2
      simp only [List.map_cons, List.map_nil] at H2
      have H2' : Hid (Calls Tryd.prog 38 #[.pointer (some ⟨w.heap.size, 0, none⟩), .slice (some ⟨w5.drew.heap.size, 0, none⟩) 4 4] (w5.drew.alloc (.cells [Value.string ⟨#[13, 10]⟩, Value.string ⟨#[58]⟩, Value.string ⟨#[32]⟩, Value.string ⟨#[10]⟩].toArray 9)) fun e w' => (∃ v : ByteArray, v.size ≤ 1100 ∧ e = .returned (.string v)) ∧ Below w.heap.size w w') := H2.mono fun _ _ ⟨⟨v, hv, he⟩, _, hb, _⟩ => ⟨⟨v, smallH_of hv (by decide), he⟩, HBD.out.trans hb⟩
      clear H2
      go_wp2_with fail
      go_region_with (go_at_call 38; refine H2'.out.mono ?_; rintro e w6 ⟨⟨r, hr, rfl⟩, hb6⟩; have HB6 : Hid (Below w.heap.size w w6) := hb6; clear hb6; have ha1 := fun w => run_string_add_sum (P := Tryd.prog) (w := w) q1 r (by omega); have ha2 := fun w => run_string_add_sum (P := Tryd.prog) (w := w) (q1 ++ r) q2 (by rw [ByteArray.size_append]; omega))
      all_goals (go_wp2_with fail; go_ret; exact ⟨⟨_, rfl⟩, HB6.out⟩)
    · have g0 : ¬ 0 < (t.size : Int) := by omega
      go_wp2_with fail
      go_ret
      exact ⟨⟨_, rfl⟩, HB4.out⟩
  · go_wp2_with fail
    refine (l1Chance_h _ w.heap.size a len cap (k2 + 1) 4 HS4.out (by omega) (by omega) (by omega) hl2).mono ?_
    rintro e w5 ⟨⟨b, rfl⟩, hs5, hb5, _⟩
    have HS5 : Hid (Src w5 w.heap.size a len cap (k2 + 2)) := hs5
    have HB5 : Hid (Below w.heap.size w w5) := HB4.out.trans hb5
    clear hs5 hb5 HS4 HB4
    cases b
    · go_wp2_with fail
      go_ret
      exact ⟨⟨_, rfl⟩, HB5.out⟩
    · go_wp2_with fail
      go_loopw [4] (fun x wr => ∃ (r : ByteArray) (j : Nat), x = .string r ∧ r.size = t.size + j ∧ j ≤ 6001 ∧ Src wr w.heap.size a len cap (k2 + 2 + j) ∧ Below w.heap.size w wr) (fun x _ => 6001 - hstrZ x)
      case atStart => exact ⟨t, 0, rfl, rfl, Nat.zero_le _, HS5.out, HB5.out⟩
      case round =>
        obtain ⟨r, j, rfl, hr1, hr2, hsr, hb⟩ := hrel
        have HR : Hid (Src wr w.heap.size a len cap (k2 + 2 + j)) := hsr
        have HJ : Hid (r.size = t.size + j) := hr1
        have HB : Hid (Below w.heap.size w wr) := hb
        have hrz : r.size ≤ 60000 := by omega
        clear hsr hr1 hb HS5 HB5
        have HP := l1Pick_h wr w.heap.size a len cap (k2 + 2 + j) HR.out [6000, 6001] 2 rfl (by omega) (by omega) (by omega) hl2
        simp only [List.map_cons, List.map_nil] at HP
        go_wp2_with fail
        refine HP.mono ?_
        rintro e w6 ⟨⟨v, hv, rfl⟩, hs6, hb6, _⟩
        have HS6 : Hid (Src w6 w.heap.size a len cap (k2 + 2 + j + 1)) := hs6
        have HB6 : Hid (Below w.heap.size w w6) := HB.out.trans hb6
        have hv1 : 6000 ≤ v ∧ v ≤ 6001 := by simp at hv; omega
        obtain ⟨v0, v1⟩ := hv1
        clear hs6 hb6 HR HB hv HP
        by_cases hlt : (r.size : Int) < v
        · have hadd := fun w => run_string_add_sum (P := Tryd.prog) (w := w) r ⟨#[32]⟩ (by have : (⟨#[32]⟩ : ByteArray).size = 1 := rfl; omega)
          have HZ : Hid ((r ++ (⟨#[32]⟩ : ByteArray)).size = r.size + 1) := by show _ = _; simp [ByteArray.size_append]; rfl
          generalize r ++ (⟨#[32]⟩ : ByteArray) = r' at *
          go_wp2_with fail
          go_roundw
          case rel => exact ⟨r', j + 1, rfl, by have := HZ.out; have := HJ.out; omega, by have := HJ.out; omega, HS6.out, HB6.out⟩
          case measure => have := HZ.out; simp [hstrZ]; omega
        · go_wp2_with fail
          go_ret
          exact ⟨⟨r, rfl⟩, HB6.out⟩
  · have n0 : ¬ x = 0 := by omega
    have n1 : ¬ x = 1 := by omega
    have n2 : ¬ x = 2 := by omega
    go_wp2_with fail
    go_ret
    exact ⟨⟨_, rfl⟩, HB4.out⟩
end Go.Proofs.YthlenlijdlfdeaaDoor
