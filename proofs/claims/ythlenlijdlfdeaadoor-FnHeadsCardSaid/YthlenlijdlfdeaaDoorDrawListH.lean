/-
  The draws of head lines.
-/
import Derived.Test.YthlenlijdlfdeaaDoorDrawLineH
namespace Go.Proofs.YthlenlijdlfdeaaDoor
open Go.ChangeShapes Go.WideShapes Go.ChangeAt Go.RowKit
def SmallH (L : List Hdr) : Prop := ∀ r ∈ L, r.name.size ≤ 1100 ∧ r.value.size ≤ 1100
theorem SmallH.nil : SmallH [] := fun r h => by simp at h
theorem SmallH.snoc {L : List Hdr} {r : Hdr} (h : SmallH L) (h1 : r.name.size ≤ 1100) (h2 : r.value.size ≤ 1100) : SmallH (L ++ [r]) := fun q hq => by
  rcases List.mem_append.1 hq with hq | hq
  · exact h q hq
  · simp only [List.mem_singleton] at hq; subst hq; exact ⟨h1, h2⟩
/-- A list of its own, not long. -/
def SomeHeads (base m : Nat) (e : Ending) (w : World) : Prop := ∃ v L, e = .returned v ∧ OwnH w base v L ∧ L.length ≤ m ∧ SmallH L
set_option maxRecDepth 100000 in
set_option maxHeartbeats 4000000 in
theorem l4Draw_any (w : World) (B : Nat) (a : Option Addr) (len cap k : Nat) (n : Nat) (hn : n ≤ 5) (hs : Src w B a len cap k) (hk : k ≤ 1000) (hl2 : len ≤ 1048576) :
    Calls Tryd.prog 67 #[.pointer (some ⟨B, 0, none⟩), .int .i64 (n : Int)] w fun e w' => SomeHeads w.heap.size 5 e w' ∧ (∃ k', k' ≤ k + 100 ∧ Src w' B a len cap k') ∧ Below B w w' ∧ ApartH B w w' := by
  have HS : Hid (Src (w.alloc (.cells #[] 56)) B a len cap k) := hs.alloc _
  have hlt := hs.lt
  have HB : Hid (Below B w (w.alloc (.cells #[] 56))) := (Below.refl _ _).alloc (by omega) _
  have HA : Hid (ApartH B w (w.alloc (.cells #[] 56))) := ApartH.alloc B w _
  have HO : Hid (OwnH (w.alloc (.cells #[] 56)) w.heap.size (.slice (some ⟨w.heap.size, 0, none⟩) 0 0) []) := OwnH.made0 w w.heap.size (Nat.le_refl _)
  clear hs
  go_enter Tryd.func67, Tryd.ntmps67
  go_wp2_with fail
  go_loopw [1, 5] (fun x v wr => ∃ (j : Nat) (L : List Hdr) (k' : Nat), x = .int .i64 (j : Int) ∧ L.length + j ≤ 5 ∧ SmallH L ∧ OwnH wr w.heap.size v L ∧ k' ≤ k + 3 * L.length ∧ Src wr B a len cap k' ∧ Below B w wr ∧ ApartH B w wr) (fun x _ _ => (intOf x).toNat)
  case atStart => exact ⟨n, [], k, rfl, by simpa using hn, SmallH.nil, HO.out, by simp, HS.out, HB.out, HA.out⟩
  case round =>
    obtain ⟨j, L, k', rfl, hj, hL, hO, hk', hS, hB, hA⟩ := hrel
    have KO : Hid (OwnH wr w.heap.size u5 L) := hO
    have KL : Hid (SmallH L) := hL
    have KS : Hid (Src wr B a len cap k') := hS
    have KB : Hid (Below B w wr) := hB
    have KA : Hid (ApartH B w wr) := hA
    clear hO hL hS hB hA HS HB HA HO
    by_cases hj0 : 0 < j
    · have g : 0 < (j : Int) := by omega
      go_wp2_with fail
      refine (l4DrawLine_any _ B a len cap k' KS.out (by omega) hl2).mono ?_
      rintro e w5 ⟨⟨rn, rv, hrn, hrv, rfl⟩, ⟨k2, hk2, hs5⟩, hb5, ha5⟩
      have KO5 : Hid (OwnH w5 w.heap.size u5 L) := KO.out.apart ha5 hlt
      have KS5 : Hid (Src w5 B a len cap k2) := hs5
      have KB5 : Hid (Below B w w5) := KB.out.trans hb5
      have KA5 : Hid (ApartH B w w5) := KA.out.trans ha5
      have KL5 : Hid (SmallH (L ++ [⟨rn, rv⟩])) := KL.out.snoc hrn hrv
      have hz5 : w.heap.size ≤ w5.heap.size := KA5.out.size
      clear hs5 hb5 ha5 KO KS KB KA KL hrn hrv
      go_wp2_with (at_builtin; refine wpList_append_hdr _ rfl (.tmp 11) (.tmp 14) rfl w.heap.size _ L rn rv rfl (by simp [go_sem]) KO5.out (by omega) hz5 ?_; intro v6 w6 HO6 hb6 hz6 hk6)
      go_roundw
      case rel => exact ⟨j - 1, L ++ [⟨rn, rv⟩], k2, by congr 1; omega, by simp; omega, KL5.out, HO6, by simp; omega, KS5.out.below (hb6.mono (by omega)), KB5.out.trans (hb6.mono (by omega)), ⟨Nat.le_trans KA5.out.size hz6, fun b hb hn => by rw [hb6.block b hb]; exact KA5.out.block b hb hn⟩⟩
      case measure => simp [intOf]; omega
    · obtain rfl : j = 0 := by omega
      go_wp2_with fail
      go_ret
      exact ⟨⟨_, L, rfl, KO.out, by omega, KL.out⟩, ⟨k', by omega, KS.out⟩, KB.out, KA.out⟩
end Go.Proofs.YthlenlijdlfdeaaDoor
