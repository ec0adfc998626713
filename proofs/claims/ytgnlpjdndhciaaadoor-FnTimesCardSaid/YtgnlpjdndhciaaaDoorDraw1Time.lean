/-
  What DrawAddTime, DrawDeltaOf and DrawNumberText do: some times, some text; nothing old turned.
-/
import Derived.Test.YtgnlpjdndhciaaaDoorDrawText
namespace Go.Proofs.YtgnlpjdndhciaaaDoor
open Go.ChangeShapes Go.WideShapes Go.ChangeAt Go.RowKit
set_option maxHeartbeats 1000000 in
theorem drawTime_any (w : World) (B : Nat) (a : Option Addr) (len cap k : Nat) (hs : Src w B a len cap k) (hk : k ≤ 1000) (hl2 : len ≤ 1048576) :
    Calls Tryd.prog 37 #[.pointer (some ⟨B, 0, none⟩)] w fun e w' => (∃ v : Int, e = .returned (.int .i64 v)) ∧ Src w' B a len cap (k + 3) ∧ Below B w w' := by
  have HS : Hid (Src w B a len cap k) := hs
  clear hs
  go_enter Tryd.func37, Tryd.ntmps37
  go_wp2_with fail
  refine (l1Next_s _ B a len cap k 5000 HS.out (by omega) (by omega) (by omega) hl2).mono ?_
  rintro e w1 ⟨⟨x, _, _, rfl⟩, hs1, hb1⟩
  have HS1 : Hid (Src w1 B a len cap (k + 1)) := hs1
  clear hs1
  go_wp2_with fail
  refine (l1Next_s _ B a len cap (k + 1) 900000 HS1.out (by omega) (by omega) (by omega) hl2).mono ?_
  rintro e w2 ⟨⟨y, _, _, rfl⟩, hs2, hb2⟩
  have HS2 : Hid (Src w2 B a len cap (k + 2)) := hs2
  clear hs2
  go_wp2_with fail
  refine (l1Pick_s _ B a len cap (k + 2) HS2.out [0, 1, 1000, x, y, 1000000000000000, 999999999999999, 500000000000000, 500000000000001] 9 rfl (by omega) (by omega) (by omega) hl2).mono ?_
  rintro e w3 ⟨⟨v, _, rfl⟩, hs3, hb3⟩
  have HS3 : Hid (Src w3 B a len cap (k + 3)) := hs3
  clear hs3
  go_wp2_with fail
  go_ret
  exact ⟨⟨v, rfl⟩, HS3.out, hb1.trans (hb2.trans hb3)⟩
set_option maxHeartbeats 2000000 in
theorem drawAddTime_any (w : World) (a : Option Addr) (len cap : Nat) (hc : CodeRow w w.heap.size a len) (hl2 : len ≤ 1048576) :
    Calls Tryd.prog 14 #[.slice a len cap] w fun e w' => (∃ x y : Int, e = .returned (.tuple #[.int .i64 x, .int .i64 y])) ∧ Below w.heap.size w w' := by
  have HC : Hid (CodeRow w w.heap.size a len) := hc
  clear hc
  go_enter Tryd.func14, Tryd.ntmps14
  go_wp2_with fail
  refine (l1Source_any w a len cap HC.out).mono ?_
  rintro e w0 ⟨rfl, hs0, hBw0⟩
  have HSw0 : Hid (Src w0 w.heap.size a len cap 0) := hs0
  clear hs0 HC
  go_wp2_with fail
  refine (drawTime_any _ w.heap.size a len cap 0 HSw0.out (by omega) hl2).mono ?_
  rintro e wx1 ⟨⟨x1, rfl⟩, hsx1, hbx1⟩
  have HSwx1 : Hid (Src wx1 w.heap.size a len cap 3) := hsx1
  have hBwx1 : Below w.heap.size w wx1 := hBw0.trans hbx1
  clear hsx1 hbx1 HSw0 hBw0
  go_wp2_with fail
  refine (drawTime_any _ w.heap.size a len cap 3 HSwx1.out (by omega) hl2).mono ?_
  rintro e wx2 ⟨⟨x2, rfl⟩, hsx2, hbx2⟩
  have HSwx2 : Hid (Src wx2 w.heap.size a len cap 6) := hsx2
  have hBwx2 : Below w.heap.size w wx2 := hBwx1.trans hbx2
  clear hsx2 hbx2 HSwx1 hBwx1
  go_wp2_with fail
  refine (drawTime_any _ w.heap.size a len cap 6 HSwx2.out (by omega) hl2).mono ?_
  rintro e wx3 ⟨⟨x3, rfl⟩, hsx3, hbx3⟩
  have HSwx3 : Hid (Src wx3 w.heap.size a len cap 9) := hsx3
  have hBwx3 : Below w.heap.size w wx3 := hBwx2.trans hbx3
  clear hsx3 hbx3 HSwx2 hBwx2
  go_wp2_with fail
  refine (drawTime_any _ w.heap.size a len cap 9 HSwx3.out (by omega) hl2).mono ?_
  rintro e wx4 ⟨⟨x4, rfl⟩, hsx4, hbx4⟩
  have HSwx4 : Hid (Src wx4 w.heap.size a len cap 12) := hsx4
  have hBwx4 : Below w.heap.size w wx4 := hBwx3.trans hbx4
  clear hsx4 hbx4 HSwx3 hBwx3
  go_wp2_with fail
  refine (l1Pick_s _ w.heap.size a len cap 12 HSwx4.out [x1, x2, x3, x4, -1, 1000000000000001] 6 rfl (by omega) (by omega) (by omega) hl2).mono ?_
  rintro e wy1 ⟨⟨y1, _, rfl⟩, hsy1, hby1⟩
  have HSwy1 : Hid (Src wy1 w.heap.size a len cap 13) := hsy1
  have hBwy1 : Below w.heap.size w wy1 := hBwx4.trans hby1
  clear hsy1 hby1 HSwx4 hBwx4
  go_wp2_with fail
  refine (drawTime_any _ w.heap.size a len cap 13 HSwy1.out (by omega) hl2).mono ?_
  rintro e wx5 ⟨⟨x5, rfl⟩, hsx5, hbx5⟩
  have HSwx5 : Hid (Src wx5 w.heap.size a len cap 16) := hsx5
  have hBwx5 : Below w.heap.size w wx5 := hBwy1.trans hbx5
  clear hsx5 hbx5 HSwy1 hBwy1
  go_wp2_with fail
  refine (drawTime_any _ w.heap.size a len cap 16 HSwx5.out (by omega) hl2).mono ?_
  rintro e wx6 ⟨⟨x6, rfl⟩, hsx6, hbx6⟩
  have HSwx6 : Hid (Src wx6 w.heap.size a len cap 19) := hsx6
  have hBwx6 : Below w.heap.size w wx6 := hBwx5.trans hbx6
  clear hsx6 hbx6 HSwx5 hBwx5
  go_wp2_with fail
  refine (drawTime_any _ w.heap.size a len cap 19 HSwx6.out (by omega) hl2).mono ?_
  rintro e wx7 ⟨⟨x7, rfl⟩, hsx7, hbx7⟩
  have HSwx7 : Hid (Src wx7 w.heap.size a len cap 22) := hsx7
  have hBwx7 : Below w.heap.size w wx7 := hBwx6.trans hbx7
  clear hsx7 hbx7 HSwx6 hBwx6
  go_wp2_with fail
  refine (l1Pick_s _ w.heap.size a len cap 22 HSwx7.out [x5, x6, x7, -1] 4 rfl (by omega) (by omega) (by omega) hl2).mono ?_
  rintro e wy2 ⟨⟨y2, _, rfl⟩, hsy2, hby2⟩
  have HSwy2 : Hid (Src wy2 w.heap.size a len cap 23) := hsy2
  have hBwy2 : Below w.heap.size w wy2 := hBwx7.trans hby2
  clear hsy2 hby2 HSwx7 hBwx7
  go_wp2_with fail
  go_ret2
  exact ⟨⟨y1, y2, rfl⟩, hBwy2⟩
set_option maxHeartbeats 2000000 in
theorem drawNumberText_any (w : World) (a : Option Addr) (len cap : Nat) (hc : CodeRow w w.heap.size a len) (hl2 : len ≤ 1048576) :
    Calls Tryd.prog 19 #[.slice a len cap] w fun e w' => (∃ x : Int, e = .returned (.int .i64 x)) ∧ Below w.heap.size w w' := by
  have HC : Hid (CodeRow w w.heap.size a len) := hc
  clear hc
  go_enter Tryd.func19, Tryd.ntmps19
  go_wp2_with fail
  refine (l1Source_any w a len cap HC.out).mono ?_
  rintro e w0 ⟨rfl, hs0, hBw0⟩
  have HSw0 : Hid (Src w0 w.heap.size a len cap 0) := hs0
  clear hs0 HC
  go_wp2_with fail
  refine (drawTime_any _ w.heap.size a len cap 0 HSw0.out (by omega) hl2).mono ?_
  rintro e wx1 ⟨⟨x1, rfl⟩, hsx1, hbx1⟩
  have HSwx1 : Hid (Src wx1 w.heap.size a len cap 3) := hsx1
  have hBwx1 : Below w.heap.size w wx1 := hBw0.trans hbx1
  clear hsx1 hbx1 HSw0 hBw0
  go_wp2_with fail
  refine (drawTime_any _ w.heap.size a len cap 3 HSwx1.out (by omega) hl2).mono ?_
  rintro e wx2 ⟨⟨x2, rfl⟩, hsx2, hbx2⟩
  have HSwx2 : Hid (Src wx2 w.heap.size a len cap 6) := hsx2
  have hBwx2 : Below w.heap.size w wx2 := hBwx1.trans hbx2
  clear hsx2 hbx2 HSwx1 hBwx1
  go_wp2_with fail
  refine (drawTime_any _ w.heap.size a len cap 6 HSwx2.out (by omega) hl2).mono ?_
  rintro e wx3 ⟨⟨x3, rfl⟩, hsx3, hbx3⟩
  have HSwx3 : Hid (Src wx3 w.heap.size a len cap 9) := hsx3
  have hBwx3 : Below w.heap.size w wx3 := hBwx2.trans hbx3
  clear hsx3 hbx3 HSwx2 hBwx2
  go_wp2_with fail
  refine (l1Pick_s _ w.heap.size a len cap 9 HSwx3.out [x1, x2, x3, -1, 1000000000000001] 5 rfl (by omega) (by omega) (by omega) hl2).mono ?_
  rintro e wy1 ⟨⟨y1, _, rfl⟩, hsy1, hby1⟩
  have HSwy1 : Hid (Src wy1 w.heap.size a len cap 10) := hsy1
  have hBwy1 : Below w.heap.size w wy1 := hBwx3.trans hby1
  clear hsy1 hby1 HSwx3 hBwx3
  go_wp2_with fail
  go_ret
  exact ⟨⟨y1, rfl⟩, hBwy1⟩
set_option maxHeartbeats 1000000 in
theorem drawDeltaOf_any (w : World) (a : Option Addr) (len cap : Nat) (hc : CodeRow w w.heap.size a len) (hl2 : len ≤ 1048576) :
    Calls Tryd.prog 17 #[.slice a len cap] w fun e w' => (∃ t : ByteArray, t.size ≤ 1001 ∧ e = .returned (.string t)) ∧ Below w.heap.size w w' := by
  have HC : Hid (CodeRow w w.heap.size a len) := hc
  clear hc
  go_enter Tryd.func17, Tryd.ntmps17
  go_wp2_with fail
  refine (l1Source_any w a len cap HC.out).mono ?_
  rintro e w2 ⟨rfl, hs2, hb2⟩
  have HS2 : Hid (Src w2 w.heap.size a len cap 0) := hs2
  clear hs2
  go_wp2_with fail
  refine (l1Word_s w2 w.heap.size a len cap 0 HS2.out ([⟨#[48]⟩, ⟨#[53]⟩, ⟨#[54, 48]⟩, ⟨#[48, 48, 55]⟩, ⟨#[50, 49, 52, 55, 52, 56, 51, 54, 52, 55]⟩, ⟨#[50, 49, 52, 55, 52, 56, 51, 54, 52, 56]⟩, ⟨#[50, 49, 52, 55, 52, 56, 51, 54, 52, 57]⟩, ⟨#[]⟩, ⟨#[45, 49]⟩, ⟨#[53, 120]⟩, ⟨#[32, 53]⟩, ⟨#[57, 57, 57, 57, 57, 57, 57, 57, 57, 57, 57, 57, 57, 57, 57, 57, 57, 57, 57, 57, 57, 57, 57]⟩] : List ByteArray) 12 rfl (by omega) (by omega) (by omega) hl2).mono ?_
  rintro e w3 ⟨⟨t, ht, rfl⟩, hs3, hb3⟩
  have HS3 : Hid (Src w3 w.heap.size a len cap 1) := hs3
  have htz : t.size ≤ 65 := by
    simp only [List.mem_cons, List.not_mem_nil, or_false] at ht
    rcases ht with rfl | rfl | rfl | rfl | rfl | rfl | rfl | rfl | rfl | rfl | rfl | rfl
    all_goals decide
  clear hs3 ht
  go_wp2_with fail
  refine (l1Chance_s w3 w.heap.size a len cap 1 15 HS3.out (by omega) (by omega) (by omega) hl2).mono ?_
  rintro e w4 ⟨⟨b, rfl⟩, hs4, hb4⟩
  have HS4 : Hid (Src w4 w.heap.size a len cap 2) := hs4
  clear hs4
  have hbs : Below w.heap.size w w4 := hb2.trans (hb3.trans hb4)
  clear hb2 hb3 hb4
  cases b
  · go_wp2_with fail
    go_ret
    exact ⟨⟨t, by omega, rfl⟩, hbs⟩
  · go_wp2_with fail
    go_loopw [4] (fun x wr => ∃ (r : ByteArray) (j : Nat), x = .string r ∧ r.size = t.size + j ∧ r.size ≤ 65 ∧ Src wr w.heap.size a len cap (2 + j) ∧ Below w.heap.size w wr) (fun x _ => 65 - (match x with | .string r => r.size | _ => 0))
    case atStart => exact ⟨t, 0, rfl, rfl, htz, HS4.out, hbs⟩
    case round =>
      obtain ⟨r, j, rfl, hr1, hr2, hsr, hb⟩ := hrel
      have HR : Hid (Src wr w.heap.size a len cap (2 + j)) := hsr
      have HJ : Hid (r.size = t.size + j) := hr1
      have hj : j ≤ 65 := by omega
      clear hsr HS4 hr1 hbs
      go_wp2_with fail
      refine (l1Pick_s _ w.heap.size a len cap (2 + j) HR.out [64, 65] 2 rfl (by omega) (by omega) (by omega) hl2).mono ?_
      rintro e w5 ⟨⟨v, hv, rfl⟩, hs5, hb5⟩
      have HS5 : Hid (Src w5 w.heap.size a len cap (2 + j + 1)) := hs5
      have hv1 : 64 ≤ v ∧ v ≤ 65 := by simp at hv; omega
      obtain ⟨v0, v1⟩ := hv1
      clear hs5 HR hv
      by_cases hlt : (r.size : Int) < v
      · have hadd := fun w => run_string_add_sum (P := Tryd.prog) (w := w) r ⟨#[48]⟩ (by have : (⟨#[48]⟩ : ByteArray).size = 1 := rfl; omega)
        have HZ : Hid ((r ++ (⟨#[48]⟩ : ByteArray)).size = r.size + 1) := by show _ = _; simp [ByteArray.size_append]; rfl
        generalize r ++ (⟨#[48]⟩ : ByteArray) = r' at *
        go_wp2_with fail
        go_roundw
        case rel => exact ⟨r', j + 1, rfl, by have := HZ.out; have := HJ.out; omega, by have := HZ.out; omega, HS5.out, hb.trans hb5⟩
        case measure => have := HZ.out; simp; omega
      · go_wp2_with fail
        go_ret
        exact ⟨⟨r, by omega, rfl⟩, hb.trans hb5⟩
end Go.Proofs.YtgnlpjdndhciaaaDoor
