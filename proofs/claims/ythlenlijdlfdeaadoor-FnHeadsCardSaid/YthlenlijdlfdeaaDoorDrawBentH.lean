/-
  The draw of head lines that may be at fault.
-/
import Derived.Test.YthlenlijdlfdeaaDoorDrawListH
namespace Go.Proofs.YthlenlijdlfdeaaDoor
open Go.ChangeShapes Go.WideShapes Go.ChangeAt Go.RowKit
def hstrZ : Value → Nat
  | .string r => r.size
  | _ => 0
def hslcN : Value → Nat
  | .slice _ n _ => n
  | _ => 0
theorem own_len {w : World} {base : Nat} {v : Value} {L : List Hdr} (h : OwnH w base v L) : ∃ a c, v = .slice a L.length c := by
  obtain ⟨a, c, e, _⟩ := h.at
  exact ⟨a, c, e⟩
set_option maxRecDepth 100000 in
set_option maxHeartbeats 8000000 in
theorem l4Bent_any (w : World) (B : Nat) (a : Option Addr) (len cap k : Nat) (hs : Src w B a len cap k) (hk : k ≤ 100) (hl2 : len ≤ 1048576) :
    Calls Tryd.prog 36 #[.pointer (some ⟨B, 0, none⟩)] w fun e w' => SomeHeads w.heap.size 21 e w' ∧ (∃ k', k' ≤ k + 3000 ∧ Src w' B a len cap k') ∧ Below B w w' ∧ ApartH B w w' := by
  have HS : Hid (Src w B a len cap k) := hs
  have hlt := hs.lt
  clear hs
  have H0 := l1Pick_h w B a len cap k HS.out [0, 1, 2, 3, 5] 5 rfl (by omega) (by omega) (by omega) hl2
  simp only [List.map_cons, List.map_nil] at H0
  go_enter Tryd.func36, Tryd.ntmps36
  go_wp2_with fail
  refine H0.mono ?_
  rintro e w1 ⟨⟨n1, hn1, rfl⟩, hs1, hb1, ha1⟩
  obtain ⟨j1, rfl, hj1⟩ : ∃ j : Nat, n1 = (j : Int) ∧ j ≤ 5 := ⟨n1.toNat, by simp at hn1; omega, by simp at hn1; omega⟩
  have HS1 : Hid (Src w1 B a len cap (k + 1)) := hs1
  have HB1 : Hid (Below B w w1) := hb1
  have HA1 : Hid (ApartH B w w1) := ha1
  clear hs1 hb1 ha1 hn1 HS H0
  go_wp2_with fail
  refine (l4Draw_any w1 B a len cap (k + 1) j1 hj1 HS1.out (by omega) hl2).mono ?_
  rintro e w2 ⟨⟨v2, L, rfl, ho2, hL2, hr2⟩, ⟨k2, hk2, hs2⟩, hb2, ha2⟩
  obtain ⟨va, vc, rfl⟩ := own_len ho2
  have HO2 : Hid (OwnH w2 w.heap.size (.slice va L.length vc) L) := ho2.lower HA1.out.size
  have HR2 : Hid (SmallH L) := hr2
  have HS2 : Hid (Src w2 B a len cap k2) := hs2
  have HB2 : Hid (Below B w w2) := HB1.out.trans hb2
  have HA2 : Hid (ApartH B w w2) := HA1.out.trans ha2
  clear ho2 hr2 hs2 hb2 ha2 HS1 HB1 HA1
  clear w1
  go_wp2_with fail
  refine (l1Next_h _ B a len cap k2 20 HS2.out (by omega) (by omega) (by omega) hl2).mono ?_
  rintro e w3 ⟨⟨x, hx0, hx1, rfl⟩, hs3, hb3, ha3⟩
  have HS3 : Hid (Src w3 B a len cap (k2 + 1)) := hs3
  have HB3 : Hid (Below B w w3) := HB2.out.trans hb3
  have HA3 : Hid (ApartH B w w3) := HA2.out.trans ha3
  have HO3 : Hid (OwnH w3 w.heap.size (.slice va L.length vc) L) := HO2.out.apart ha3 hlt
  clear hs3 hb3 ha3 HS2 HB2 HA2 HO2
  clear w2
  have hxs : x = 0 ∨ x = 1 ∨ x = 2 ∨ x = 3 ∨ x = 4 ∨ 5 ≤ x := by omega
  rcases hxs with rfl | rfl | rfl | rfl | rfl | hx5
  · have H1 := l1Word_h w3 B a len cap (k2 + 1) HS3.out ([⟨#[]⟩, ⟨#[97, 32, 98]⟩, ⟨#[120, 58]⟩] : List ByteArray) 3 rfl (by omega) (by omega) (by omega) hl2
    simp only [List.map_cons, List.map_nil] at H1
    go_wp2_with fail
    refine H1.mono ?_
    rintro e w4 ⟨⟨n, hn, rfl⟩, hs4, hb4, ha4⟩
    have hnz := smallH_of hn (by decide)
    have HS4 : Hid (Src w4 B a len cap (k2 + 2)) := hs4
    have HB4 : Hid (Below B w w4) := HB3.out.trans hb4
    have HA4 : Hid (ApartH B w w4) := HA3.out.trans ha4
    have HO4 : Hid (OwnH w4 w.heap.size (.slice va L.length vc) L) := HO3.out.apart ha4 hlt
    have hz4 : w.heap.size ≤ w4.heap.size := HA4.out.size
    have HR4 : Hid (SmallH (L ++ [⟨n, ⟨#[118]⟩⟩])) := HR2.out.snoc hnz (by show (⟨#[118]⟩ : ByteArray).size ≤ 1100; decide)
    clear hs4 hb4 ha4 H1 hn HS3 HB3 HA3 HO3
    go_wp2_with (at_builtin; refine wpList_append_hdr _ rfl (.tmp 16) (.tmp 21) rfl w.heap.size _ L n ⟨#[118]⟩ rfl (by simp [go_sem]) HO4.out (by omega) hz4 ?_; intro v6 w6 HO6 hb6 hz6 hk6)
    go_ret
    exact ⟨⟨_, _, rfl, HO6, by simp; omega, HR4.out⟩, ⟨k2 + 2, by omega, HS4.out.below (hb6.mono (by omega))⟩, HB4.out.trans (hb6.mono (by omega)), ⟨Nat.le_trans HA4.out.size hz6, fun b hb hn => by rw [hb6.block b hb]; exact HA4.out.block b hb hn⟩⟩
  · have H1 := l1Word_h w3 B a len cap (k2 + 1) HS3.out ([⟨#[32, 118]⟩, ⟨#[118, 9]⟩, ⟨#[1]⟩, ⟨#[10]⟩] : List ByteArray) 4 rfl (by omega) (by omega) (by omega) hl2
    simp only [List.map_cons, List.map_nil] at H1
    go_wp2_with fail
    refine H1.mono ?_
    rintro e w4 ⟨⟨n, hn, rfl⟩, hs4, hb4, ha4⟩
    have hnz := smallH_of hn (by decide)
    have HS4 : Hid (Src w4 B a len cap (k2 + 2)) := hs4
    have HB4 : Hid (Below B w w4) := HB3.out.trans hb4
    have HA4 : Hid (ApartH B w w4) := HA3.out.trans ha4
    have HO4 : Hid (OwnH w4 w.heap.size (.slice va L.length vc) L) := HO3.out.apart ha4 hlt
    have hz4 : w.heap.size ≤ w4.heap.size := HA4.out.size
    have HR4 : Hid (SmallH (L ++ [⟨⟨#[120]⟩, n⟩])) := HR2.out.snoc (by show (⟨#[120]⟩ : ByteArray).size ≤ 1100; decide) hnz
    clear hs4 hb4 ha4 H1 hn HS3 HB3 HA3 HO3
    go_wp2_with (at_builtin; refine wpList_append_hdr _ rfl (.tmp 25) (.tmp 30) rfl w.heap.size _ L ⟨#[120]⟩ n rfl (by simp [go_sem]) HO4.out (by omega) hz4 ?_; intro v6 w6 HO6 hb6 hz6 hk6)
    go_ret
    exact ⟨⟨_, _, rfl, HO6, by simp; omega, HR4.out⟩, ⟨k2 + 2, by omega, HS4.out.below (hb6.mono (by omega))⟩, HB4.out.trans (hb6.mono (by omega)), ⟨Nat.le_trans HA4.out.size hz6, fun b hb hn => by rw [hb6.block b hb]; exact HA4.out.block b hb hn⟩⟩
  · go_wp2_with fail
    refine (l1Long_h _ B a len cap (k2 + 1) HS3.out ⟨#[118]⟩ (by decide) (by omega) hl2).mono ?_
    rintro e w4 ⟨⟨r2, hr20, hr21, rfl⟩, ⟨k4, hk4, hs4⟩, hb4, ha4⟩
    have HS4 : Hid (Src w4 B a len cap k4) := hs4
    have HB4 : Hid (Below B w w4) := HB3.out.trans hb4
    have HA4 : Hid (ApartH B w w4) := HA3.out.trans ha4
    have HO4 : Hid (OwnH w4 w.heap.size (.slice va L.length vc) L) := HO3.out.apart ha4 hlt
    clear hs4 hb4 ha4 HS3 HB3 HA3 HO3
    have HPK := l1Pick_h w4 B a len cap k4 HS4.out [200, 201] 2 rfl (by omega) (by omega) (by omega) hl2
    simp only [List.map_cons, List.map_nil] at HPK
    go_wp2_with fail
    refine HPK.mono ?_
    rintro e w5 ⟨⟨p, hp, rfl⟩, hs5, hb5, ha5⟩
    have hpb : 200 ≤ p ∧ p ≤ 201 := by simp at hp; omega
    obtain ⟨hp0, hp1⟩ := hpb
    have HS5 : Hid (Src w5 B a len cap (k4 + 1)) := hs5
    have HB5 : Hid (Below B w w5) := HB4.out.trans hb5
    have HA5 : Hid (ApartH B w w5) := HA4.out.trans ha5
    have HO5 : Hid (OwnH w5 w.heap.size (.slice va L.length vc) L) := HO4.out.apart ha5 hlt
    have hz5 : w.heap.size ≤ w5.heap.size := HA5.out.size
    clear hs5 hb5 ha5 hp HPK HS4 HB4 HA4 HO4
    have hq : (r2.extract 0 p.toNat).size ≤ 201 := by rw [ByteArray.size_extract]; omega
    have g5 : p ≤ (r2.size : Int) := by omega
    have hsl := fun w => run_slice_string_h (P := Tryd.prog) w 9 r2 Tryd.underlying9 .i64 p (by omega) g5
    have h1z : (⟨#[118]⟩ : ByteArray).size = 1 := rfl
    have hadd := fun w => run_string_add_sum (P := Tryd.prog) (w := w) (r2.extract 0 p.toNat) ⟨#[118]⟩ (by omega)
    have hzz : (r2.extract 0 p.toNat ++ (⟨#[118]⟩ : ByteArray)).size ≤ 1100 := by rw [ByteArray.size_append]; omega
    have HR5 : Hid (SmallH (L ++ [⟨⟨#[120]⟩, r2.extract 0 p.toNat ++ ⟨#[118]⟩⟩])) := HR2.out.snoc (by show (⟨#[120]⟩ : ByteArray).size ≤ 1100; decide) hzz
    clear h1z
    generalize r2.extract 0 p.toNat = q at *
    generalize q ++ (⟨#[118]⟩ : ByteArray) = q2 at *
    go_wp2_with (at_builtin; refine wpList_append_hdr _ rfl (.tmp 34) (.tmp 43) rfl w.heap.size _ L ⟨#[120]⟩ q2 rfl (by simp [go_sem]) HO5.out (by omega) hz5 ?_; intro v6 w6 HO6 hb6 hz6 hk6)
    go_ret
    exact ⟨⟨_, _, rfl, HO6, by simp; omega, HR5.out⟩, ⟨k4 + 1, by omega, HS5.out.below (hb6.mono (by omega))⟩, HB5.out.trans (hb6.mono (by omega)), ⟨Nat.le_trans HA5.out.size hz6, fun b hb hn => by rw [hb6.block b hb]; exact HA5.out.block b hb hn⟩⟩
  · have HPK := l1Pick_h w3 B a len cap (k2 + 1) HS3.out [20, 21] 2 rfl (by omega) (by omega) (by omega) hl2
    simp only [List.map_cons, List.map_nil] at HPK
    go_wp2_with fail
    refine HPK.mono ?_
    rintro e w4 ⟨⟨p, hp, rfl⟩, hs4, hb4, ha4⟩
    have hpb : 20 ≤ p ∧ p ≤ 21 := by simp at hp; omega
    obtain ⟨hp0, hp1⟩ := hpb
    have HS4 : Hid (Src w4 B a len cap (k2 + 2)) := hs4
    have HB4 : Hid (Below B w w4) := HB3.out.trans hb4
    have HA4 : Hid (ApartH B w w4) := HA3.out.trans ha4
    have HO4 : Hid (OwnH w4 w.heap.size (.slice va L.length vc) L) := HO3.out.apart ha4 hlt
    clear hs4 hb4 ha4 hp HPK HS3 HB3 HA3 HO3
    go_wp2_with fail
    go_loopw [3] (fun v wr => ∃ (M : List Hdr) (k' : Nat), M.length ≤ 21 ∧ SmallH M ∧ OwnH wr w.heap.size v M ∧ k' ≤ k2 + 2 + 3 * M.length ∧ Src wr B a len cap k' ∧ Below B w wr ∧ ApartH B w wr) (fun v _ => 21 - hslcN v)
    case atStart => exact ⟨L, k2 + 2, by omega, HR2.out, HO4.out, by omega, HS4.out, HB4.out, HA4.out⟩
    case round =>
      obtain ⟨M, k', hM, hR, hO, hk', hS, hB, hA⟩ := hrel
      obtain ⟨ma, mc, rfl⟩ := own_len hO
      have KO : Hid (OwnH wr w.heap.size (.slice ma M.length mc) M) := hO
      have KL : Hid (SmallH M) := hR
      have KS : Hid (Src wr B a len cap k') := hS
      have KB : Hid (Below B w wr) := hB
      have KA : Hid (ApartH B w wr) := hA
      clear hO hR hS hB hA HS4 HB4 HA4 HO4 HR2
      by_cases hj0 : (M.length : Int) < p
      · go_wp2_with fail
        refine (l4DrawLine_any _ B a len cap k' KS.out (by omega) hl2).mono ?_
        rintro e w5 ⟨⟨rn, rv, hrn, hrv, rfl⟩, ⟨k3, hk3, hs5⟩, hb5, ha5⟩
        have KO5 : Hid (OwnH w5 w.heap.size (.slice ma M.length mc) M) := KO.out.apart ha5 hlt
        have KS5 : Hid (Src w5 B a len cap k3) := hs5
        have KB5 : Hid (Below B w w5) := KB.out.trans hb5
        have KA5 : Hid (ApartH B w w5) := KA.out.trans ha5
        have KL5 : Hid (SmallH (M ++ [⟨rn, rv⟩])) := KL.out.snoc hrn hrv
        have hz5 : w.heap.size ≤ w5.heap.size := KA5.out.size
        clear hs5 hb5 ha5 KO KS KB KA KL hrn hrv
        go_wp2_with (at_builtin; refine wpList_append_hdr _ rfl (.tmp 54) (.tmp 57) rfl w.heap.size _ M rn rv rfl (by simp [go_sem]) KO5.out (by omega) hz5 ?_; intro v6 w6 HO6 hb6 hz6 hk6)
        go_roundw
        case rel => exact ⟨M ++ [⟨rn, rv⟩], k3, by simp; omega, KL5.out, HO6, by simp; omega, KS5.out.below (hb6.mono (by omega)), KB5.out.trans (hb6.mono (by omega)), ⟨Nat.le_trans KA5.out.size hz6, fun b hb hn => by rw [hb6.block b hb]; exact KA5.out.block b hb hn⟩⟩
        case measure =>
          obtain ⟨a7, c7, rfl⟩ := own_len HO6
          simp [hslcN]; omega
      · go_wp2_with fail
        go_ret
        exact ⟨⟨_, M, rfl, KO.out, by omega, KL.out⟩, ⟨k', by omega, KS.out⟩, KB.out, KA.out⟩
  · have HPK := l1Pick_h w3 B a len cap (k2 + 1) HS3.out [200, 201] 2 rfl (by omega) (by omega) (by omega) hl2
    simp only [List.map_cons, List.map_nil] at HPK
    go_wp2_with fail
    refine HPK.mono ?_
    rintro e w4 ⟨⟨p, hp, rfl⟩, hs4, hb4, ha4⟩
    have hpb : 200 ≤ p ∧ p ≤ 201 := by simp at hp; omega
    obtain ⟨hp0, hp1⟩ := hpb
    have HS4 : Hid (Src w4 B a len cap (k2 + 2)) := hs4
    have HB4 : Hid (Below B w w4) := HB3.out.trans hb4
    have HA4 : Hid (ApartH B w w4) := HA3.out.trans ha4
    have HO4 : Hid (OwnH w4 w.heap.size (.slice va L.length vc) L) := HO3.out.apart ha4 hlt
    have hz4 : w.heap.size ≤ w4.heap.size := HA4.out.size
    clear hs4 hb4 ha4 hp HPK HS3 HB3 HA3 HO3
    go_wp2_with fail
    go_loop [5] (fun v => ∃ r : ByteArray, v = .string r ∧ r.size ≤ 201) (fun v => 201 - hstrZ v)
    case atStart => exact ⟨_, rfl, by decide⟩
    case round =>
      obtain ⟨r, rfl, hr⟩ := hrel
      by_cases hlt2 : (r.size : Int) < p
      · have hadd := fun w => run_string_add_sum (P := Tryd.prog) (w := w) r ⟨#[119]⟩ (by have : (⟨#[119]⟩ : ByteArray).size = 1 := rfl; omega)
        have HZ : Hid ((r ++ (⟨#[119]⟩ : ByteArray)).size = r.size + 1) := by show _ = _; simp [ByteArray.size_append]; rfl
        generalize r ++ (⟨#[119]⟩ : ByteArray) = r' at *
        go_wp2_with fail
        go_round
        case rel => exact ⟨r', rfl, by have := HZ.out; omega⟩
        case measure => have := HZ.out; simp [hstrZ]; omega
      · have HR5 : Hid (SmallH (L ++ [⟨⟨#[120]⟩, r⟩])) := HR2.out.snoc (by show (⟨#[120]⟩ : ByteArray).size ≤ 1100; decide) (by show r.size ≤ 1100; omega)
        go_wp2_with (at_builtin; refine wpList_append_hdr _ rfl (.tmp 70) (.tmp 73) rfl w.heap.size _ L ⟨#[120]⟩ r rfl (by simp [go_sem]) HO4.out (by omega) hz4 ?_; intro v6 w6 HO6 hb6 hz6 hk6)
        go_ret
        exact ⟨⟨_, _, rfl, HO6, by simp; omega, HR5.out⟩, ⟨k2 + 2, by omega, HS4.out.below (hb6.mono (by omega))⟩, HB4.out.trans (hb6.mono (by omega)), ⟨Nat.le_trans HA4.out.size hz6, fun b hb hn => by rw [hb6.block b hb]; exact HA4.out.block b hb hn⟩⟩
  · have n0 : ¬ x = 0 := by omega
    have n1 : ¬ x = 1 := by omega
    have n2 : ¬ x = 2 := by omega
    have n3 : ¬ x = 3 := by omega
    have n4 : ¬ x = 4 := by omega
    go_wp2_with fail
    go_ret
    exact ⟨⟨_, L, rfl, HO3.out, by omega, HR2.out⟩, ⟨k2 + 1, by omega, HS3.out⟩, HB3.out, HA3.out⟩
end Go.Proofs.YthlenlijdlfdeaaDoor
