/-
  The draws of lists of items.
-/
import Derived.Test.YtibomkcbopkpkaaDoorDrawItem
namespace Go.Proofs.YtibomkcbopkpkaaDoor
open Go.ChangeShapes Go.WideShapes Go.ChangeAt Go.RowKit
def SmallR (L : List Rec) : Prop := ∀ r ∈ L, r.name.size ≤ 2000 ∧ r.value.size ≤ 2000
theorem SmallR.nil : SmallR [] := fun r h => by simp at h
theorem SmallR.snoc {L : List Rec} {r : Rec} (h : SmallR L) (h1 : r.name.size ≤ 2000) (h2 : r.value.size ≤ 2000) : SmallR (L ++ [r]) := fun q hq => by
  rcases List.mem_append.1 hq with hq | hq
  · exact h q hq
  · simp only [List.mem_singleton] at hq; subst hq; exact ⟨h1, h2⟩
/-- A list of its own, not long. -/
def SomeList (base m : Nat) (e : Ending) (w : World) : Prop := ∃ v L, e = .returned v ∧ OwnI w base v L ∧ L.length ≤ m ∧ SmallR L
set_option maxRecDepth 100000 in
set_option maxHeartbeats 4000000 in
theorem drawItems_any (w : World) (B : Nat) (a : Option Addr) (len cap k : Nat) (hs : Src w B a len cap k) (hk : k ≤ 1000) (hl2 : len ≤ 1048576) :
    Calls Tryd.prog 73 #[.pointer (some ⟨B, 0, none⟩)] w fun e w' => SomeList w.heap.size 21 e w' ∧ (∃ k', k' ≤ k + 100 ∧ Src w' B a len cap k') ∧ Below B w w' ∧ ApartH B w w' := by
  have HS : Hid (Src w B a len cap k) := hs
  have hlt := hs.lt
  clear hs
  have H0 := l1Pick_h (w.alloc (.cells #[] 80)) B a len cap k (HS.out.alloc _) [0, 1, 2, 3, 5] 5 rfl (by omega) (by omega) (by omega) hl2
  rw [World.size_alloc] at H0
  simp only [List.map_cons, List.map_nil] at H0
  go_enter Tryd.func73, Tryd.ntmps73
  go_wp2_with fail
  refine H0.mono ?_
  rintro e w1 ⟨⟨n1, hn1, rfl⟩, hs1, hb1, ha1⟩
  have hn1b : 0 ≤ n1 ∧ n1 ≤ 21 := by simp at hn1; omega
  obtain ⟨hn10, hn11⟩ := hn1b
  have HS1 : Hid (Src w1 B a len cap (k + 1)) := hs1
  have HB1 : Hid (Below B w w1) := ((Below.refl _ _).alloc (by omega) _).trans hb1
  have HA1 : Hid (ApartH B w w1) := (ApartH.alloc B w _).trans ha1
  have HO1 : Hid (OwnI w1 w.heap.size (.slice (some ⟨w.heap.size, 0, none⟩) 0 0) []) := (OwnI.made0 w w.heap.size (Nat.le_refl _)).apart ha1 hlt
  clear hs1 hb1 ha1 hn1 HS
  go_wp2_with fail
  refine (l1Chance_h _ B a len cap (k + 1) 25 HS1.out (by omega) (by omega) (by omega) hl2).mono ?_
  rintro e w2 ⟨⟨b, rfl⟩, hs2, hb2, ha2⟩
  have HS2 : Hid (Src w2 B a len cap (k + 2)) := hs2
  have HB2 : Hid (Below B w w2) := HB1.out.trans hb2
  have HA2 : Hid (ApartH B w w2) := HA1.out.trans ha2
  have HO2 : Hid (OwnI w2 w.heap.size (.slice (some ⟨w.heap.size, 0, none⟩) 0 0) []) := HO1.out.apart ha2 hlt
  clear hs2 hb2 ha2 HS1 HB1 HA1 HO1
  clear w1
  cases b
  · have HST : Hid (∃ j : Nat, n1 = (j : Int) ∧ j ≤ 21) := ⟨n1.toNat, by omega, by omega⟩
    go_wp2_with fail
    go_loopw [3, 4] (fun v x wr => ∃ (j : Nat) (L : List Rec) (k' : Nat), x = .int .i64 (j : Int) ∧ L.length + j ≤ 21 ∧ SmallR L ∧ OwnI wr w.heap.size v L ∧ k' ≤ k + 3 + 3 * L.length ∧ Src wr B a len cap k' ∧ Below B w wr ∧ ApartH B w wr) (fun _ x _ => (intOf x).toNat)
    case atStart =>
      obtain ⟨j, hj, hj2⟩ := HST.out
      exact ⟨j, [], k + 2, by rw [hj], by simpa using hj2, SmallR.nil, HO2.out, by simp, HS2.out, HB2.out, HA2.out⟩
    case round =>
      obtain ⟨j, L, k', rfl, hj, hL, hO, hk', hS, hB, hA⟩ := hrel
      have KO : Hid (OwnI wr w.heap.size u3 L) := hO
      have KL : Hid (SmallR L) := hL
      have KS : Hid (Src wr B a len cap k') := hS
      have KB : Hid (Below B w wr) := hB
      have KA : Hid (ApartH B w wr) := hA
      clear hO hL hS hB hA HST
      by_cases hj0 : 0 < j
      · have g : 0 < (j : Int) := by omega
        go_wp2_with fail
        refine (drawItem_any _ B a len cap k' KS.out (by omega) hl2).mono ?_
        rintro e w5 ⟨⟨rn, rh, rv, hrn, hrv, rfl⟩, ⟨k2, hk2, hs5⟩, hb5, ha5⟩
        have KO5 : Hid (OwnI w5 w.heap.size u3 L) := KO.out.apart ha5 hlt
        have KS5 : Hid (Src w5 B a len cap k2) := hs5
        have KB5 : Hid (Below B w w5) := KB.out.trans hb5
        have KA5 : Hid (ApartH B w w5) := KA.out.trans ha5
        have KL5 : Hid (SmallR (L ++ [⟨rn, rh, rv⟩])) := KL.out.snoc hrn hrv
        have hz5 : w.heap.size ≤ w5.heap.size := KA5.out.size
        clear hs5 hb5 ha5 KO KS KB KA KL hrn hrv
        go_wp2_with (at_builtin; refine wpList_append_item _ rfl (.tmp 18) (.tmp 21) rfl w.heap.size _ L rn rh rv rfl (by simp [go_sem]) KO5.out (by omega) hz5 ?_; intro v6 w6 HO6 hb6 hz6 hk6)
        go_roundw
        case rel => exact ⟨j - 1, L ++ [⟨rn, rh, rv⟩], k2, by congr 1; omega, by simp; omega, KL5.out, HO6, by simp; omega, KS5.out.below (hb6.mono (by omega)), KB5.out.trans (hb6.mono (by omega)), ⟨Nat.le_trans KA5.out.size hz6, fun b hb hn => by rw [hb6.block b hb]; exact KA5.out.block b hb hn⟩⟩
        case measure => simp [intOf]; omega
      · obtain rfl : j = 0 := by omega
        go_wp2_with fail
        go_ret
        exact ⟨⟨_, L, rfl, KO.out, by omega, KL.out⟩, ⟨k', by omega, KS.out⟩, KB.out, KA.out⟩
  · have H1 := l1Pick_h w2 B a len cap (k + 2) HS2.out [20, 21] 2 rfl (by omega) (by omega) (by omega) hl2
    simp only [List.map_cons, List.map_nil] at H1
    go_wp2_with fail
    refine H1.mono ?_
    rintro e w3 ⟨⟨n2, hn2, rfl⟩, hs3, hb3, ha3⟩
    have hn2b : 0 ≤ n2 ∧ n2 ≤ 21 := by simp at hn2; omega
    obtain ⟨hn20, hn21⟩ := hn2b
    have HS3 : Hid (Src w3 B a len cap (k + 3)) := hs3
    have HB3 : Hid (Below B w w3) := HB2.out.trans hb3
    have HA3 : Hid (ApartH B w w3) := HA2.out.trans ha3
    have HO3 : Hid (OwnI w3 w.heap.size (.slice (some ⟨w.heap.size, 0, none⟩) 0 0) []) := HO2.out.apart ha3 hlt
    clear hs3 hb3 ha3 hn2 HS2 HB2 HA2 HO2 H1
    have HST : Hid (∃ j : Nat, n2 = (j : Int) ∧ j ≤ 21) := ⟨n2.toNat, by omega, by omega⟩
    go_wp2_with fail
    go_loopw [3, 4] (fun v x wr => ∃ (j : Nat) (L : List Rec) (k' : Nat), x = .int .i64 (j : Int) ∧ L.length + j ≤ 21 ∧ SmallR L ∧ OwnI wr w.heap.size v L ∧ k' ≤ k + 3 + 3 * L.length ∧ Src wr B a len cap k' ∧ Below B w wr ∧ ApartH B w wr) (fun _ x _ => (intOf x).toNat)
    case atStart =>
      obtain ⟨j, hj, hj2⟩ := HST.out
      exact ⟨j, [], k + 3, by rw [hj], by simpa using hj2, SmallR.nil, HO3.out, by simp, HS3.out, HB3.out, HA3.out⟩
    case round =>
      obtain ⟨j, L, k', rfl, hj, hL, hO, hk', hS, hB, hA⟩ := hrel
      have KO : Hid (OwnI wr w.heap.size u3 L) := hO
      have KL : Hid (SmallR L) := hL
      have KS : Hid (Src wr B a len cap k') := hS
      have KB : Hid (Below B w wr) := hB
      have KA : Hid (ApartH B w wr) := hA
      clear hO hL hS hB hA HST
      by_cases hj0 : 0 < j
      · have g : 0 < (j : Int) := by omega
        go_wp2_with fail
        refine (drawItem_any _ B a len cap k' KS.out (by omega) hl2).mono ?_
        rintro e w5 ⟨⟨rn, rh, rv, hrn, hrv, rfl⟩, ⟨k2, hk2, hs5⟩, hb5, ha5⟩
        have KO5 : Hid (OwnI w5 w.heap.size u3 L) := KO.out.apart ha5 hlt
        have KS5 : Hid (Src w5 B a len cap k2) := hs5
        have KB5 : Hid (Below B w w5) := KB.out.trans hb5
        have KA5 : Hid (ApartH B w w5) := KA.out.trans ha5
        have KL5 : Hid (SmallR (L ++ [⟨rn, rh, rv⟩])) := KL.out.snoc hrn hrv
        have hz5 : w.heap.size ≤ w5.heap.size := KA5.out.size
        clear hs5 hb5 ha5 KO KS KB KA KL hrn hrv
        go_wp2_with (at_builtin; refine wpList_append_item _ rfl (.tmp 18) (.tmp 21) rfl w.heap.size _ L rn rh rv rfl (by simp [go_sem]) KO5.out (by omega) hz5 ?_; intro v6 w6 HO6 hb6 hz6 hk6)
        go_roundw
        case rel => exact ⟨j - 1, L ++ [⟨rn, rh, rv⟩], k2, by congr 1; omega, by simp; omega, KL5.out, HO6, by simp; omega, KS5.out.below (hb6.mono (by omega)), KB5.out.trans (hb6.mono (by omega)), ⟨Nat.le_trans KA5.out.size hz6, fun b hb hn => by rw [hb6.block b hb]; exact KA5.out.block b hb hn⟩⟩
        case measure => simp [intOf]; omega
      · obtain rfl : j = 0 := by omega
        go_wp2_with fail
        go_ret
        exact ⟨⟨_, L, rfl, KO.out, by omega, KL.out⟩, ⟨k', by omega, KS.out⟩, KB.out, KA.out⟩
end Go.Proofs.YtibomkcbopkpkaaDoor
