/-
  What DrawLowerText and DrawIsWord do: some text, nothing old turned.
-/
import Derived.Test.YtgnlpjdndhciaaaDoorDrawSome
namespace Go.Proofs.YtgnlpjdndhciaaaDoor
open Go.ChangeShapes Go.WideShapes Go.ChangeAt Go.RowKit
/-- A slice of bytes of the call's own, as a text. -/
theorem own_text {w : World} {base n : Nat} {v : Value} {l : List UInt8} (h : w.ownsRow base 5 1 v n (bytesV l)) (hl : l.length = n) (hv : v ≠ .slice none 0 0) :
    (convert 22 9 v).run Tryd.prog w = .ok (.string ⟨l.toArray⟩) w := by
  have h0 := h
  obtain ⟨_, h | ⟨g, c, cur, rfl, hg, _⟩⟩ := h
  · exact absurd h.1 hv
  · subst hl
    refine run_convert_bytes_back w 22 9 5 ⟨g, 0, none⟩ c l Tryd.underlying22 Tryd.underlying5 Tryd.underlying9 ?_
    intro j hj
    have := h0.cellAt j (by omega)
    have e : (⟨g, 0, none⟩ : Addr).add j = ⟨g, j, none⟩ := by unfold Addr.add; split <;> simp_all
    rw [e, this]
    simp [bytesV, hj]
set_option maxHeartbeats 1000000 in
theorem drawLowerText_any (w : World) (a : Option Addr) (len cap : Nat) (hc : CodeRow w w.heap.size a len) (hl2 : len ≤ 1048576) :
    Calls Tryd.prog 6 #[.slice a len cap] w fun e w' => (∃ t : ByteArray, t.size ≤ 1001 ∧ e = .returned (.string t)) ∧ Below w.heap.size w w' := by
  have HC : Hid (CodeRow w w.heap.size a len) := hc
  clear hc
  go_enter Tryd.func6, Tryd.ntmps6
  go_wp2_with fail
  refine (l1Source_any w a len cap HC.out).mono ?_
  rintro e w1 ⟨rfl, hs1, hb1⟩
  have HS1 : Hid (Src w1 w.heap.size a len cap 0) := hs1
  clear hs1
  go_wp2_with fail
  refine (l1Some_any w1 w.heap.size a len cap 0 HS1.out 6 (by omega) (by omega) hl2).mono ?_
  rintro e w2 ⟨⟨v, l, hll, hown, hv, rfl⟩, hs2, hb2⟩
  have hcv := own_text hown hll hv
  have HS2 : Hid (Src w2 w.heap.size a len cap 6) := hs2
  have HL : Hid (l.length = 6) := hll
  clear hs2 hown hll hv
  have HZ : Hid ((⟨l.toArray⟩ : ByteArray).size = 6) := by show _ = _; simp [ByteArray.size, HL.out]
  generalize (⟨l.toArray⟩ : ByteArray) = r at *
  go_wp2_with fail
  refine (l1Word_s w2 w.heap.size a len cap 6 HS2.out ([⟨#[65, 66, 67]⟩, ⟨#[77, 97, 120, 45, 65, 71, 69, 61, 53]⟩, ⟨#[]⟩, ⟨#[32, 120, 32]⟩, ⟨#[9, 32, 97, 9]⟩, ⟨#[90]⟩, ⟨#[32, 32]⟩, r] : List ByteArray) 8 rfl (by omega) (by omega) (by omega) hl2).mono ?_
  rintro e w3 ⟨⟨t, ht, rfl⟩, hs3, hb3⟩
  have HS3 : Hid (Src w3 w.heap.size a len cap 7) := hs3
  have htz : t.size ≤ 1001 := by
    have hr := HZ.out
    simp only [List.mem_cons, List.not_mem_nil, or_false] at ht
    rcases ht with rfl | rfl | rfl | rfl | rfl | rfl | rfl | rfl
    all_goals first | (rw [hr]; omega) | decide
  clear hs3 ht
  go_wp2_with fail
  refine (l1Chance_s w3 w.heap.size a len cap 7 20 HS3.out (by omega) (by omega) (by omega) hl2).mono ?_
  rintro e w4 ⟨⟨b, rfl⟩, hs4, hb4⟩
  have HS4 : Hid (Src w4 w.heap.size a len cap 8) := hs4
  clear hs4
  have hbs : Below w.heap.size w w4 := hb1.trans (hb2.trans (hb3.trans hb4))
  clear hb1 hb2 hb3 hb4
  cases b
  · go_wp2_with fail
    go_ret
    exact ⟨⟨t, htz, rfl⟩, hbs⟩
  · go_wp2_with fail
    refine (l1Long_any w4 w.heap.size a len cap 8 HS4.out t htz (by omega) hl2).mono ?_
    rintro e w5 ⟨⟨r5, hr5, rfl⟩, ⟨_, _, _⟩, hb5⟩
    go_wp2_with fail
    go_ret
    exact ⟨⟨r5, hr5, rfl⟩, hbs.trans hb5⟩
set_option maxHeartbeats 1000000 in
theorem drawIsWord_any (w : World) (a : Option Addr) (len cap : Nat) (hc : CodeRow w w.heap.size a len) (hl2 : len ≤ 1048576) :
    Calls Tryd.prog 9 #[.slice a len cap] w fun e w' => (∃ t : ByteArray, t.size ≤ 1001 ∧ e = .returned (.string t)) ∧ Below w.heap.size w w' := by
  have HC : Hid (CodeRow w w.heap.size a len) := hc
  clear hc
  go_enter Tryd.func9, Tryd.ntmps9
  go_wp2_with fail
  refine (l1Source_any w a len cap HC.out).mono ?_
  rintro e w2 ⟨rfl, hs2, hb2⟩
  have HS2 : Hid (Src w2 w.heap.size a len cap 0) := hs2
  clear hs2
  go_wp2_with fail
  refine (l1Word_s w2 w.heap.size a len cap 0 HS2.out ([⟨#[97, 98, 99]⟩, ⟨#[109, 97, 120, 45, 97, 103, 101]⟩, ⟨#[88, 95, 49]⟩, ⟨#[]⟩, ⟨#[97, 32, 98]⟩, ⟨#[97, 44, 98]⟩, ⟨#[110, 111, 45, 99, 97, 99, 104, 101]⟩, ⟨#[97, 34]⟩, ⟨#[126, 33, 42]⟩, ⟨#[68, 97, 116, 101]⟩, ⟨#[97, 9, 98]⟩, ⟨#[122]⟩] : List ByteArray) 12 rfl (by omega) (by omega) (by omega) hl2).mono ?_
  rintro e w3 ⟨⟨t, ht, rfl⟩, hs3, hb3⟩
  have HS3 : Hid (Src w3 w.heap.size a len cap 1) := hs3
  have htz : t.size ≤ 65 := by
    simp only [List.mem_cons, List.not_mem_nil, or_false] at ht
    rcases ht with rfl | rfl | rfl | rfl | rfl | rfl | rfl | rfl | rfl | rfl | rfl | rfl
    all_goals decide
  clear hs3 ht
  go_wp2_with fail
  refine (l1Chance_s w3 w.heap.size a len cap 1 15 HS3.out (by omega) (by omega) (by omega) hl2).mono ?_
  rintro e w4 ⟨⟨b, rfl⟩, hs4, hb4⟩
  have HS4 : Hid (Src w4 w.heap.size a len cap 2) := hs4
  clear hs4
  have hbs : Below w.heap.size w w4 := hb2.trans (hb3.trans hb4)
  clear hb2 hb3 hb4
  cases b
  · go_wp2_with fail
    go_ret
    exact ⟨⟨t, by omega, rfl⟩, hbs⟩
  · go_wp2_with fail
    go_loopw [4] (fun x wr => ∃ (r : ByteArray) (j : Nat), x = .string r ∧ r.size = t.size + j ∧ r.size ≤ 65 ∧ Src wr w.heap.size a len cap (2 + j) ∧ Below w.heap.size w wr) (fun x _ => 65 - (match x with | .string r => r.size | _ => 0))
    case atStart => exact ⟨t, 0, rfl, rfl, htz, HS4.out, hbs⟩
    case round =>
      obtain ⟨r, j, rfl, hr1, hr2, hsr, hb⟩ := hrel
      have HR : Hid (Src wr w.heap.size a len cap (2 + j)) := hsr
      have HJ : Hid (r.size = t.size + j) := hr1
      have hj : j ≤ 65 := by omega
      clear hsr HS4 hr1 hbs
      go_wp2_with fail
      refine (l1Pick_s _ w.heap.size a len cap (2 + j) HR.out [64, 65] 2 rfl (by omega) (by omega) (by omega) hl2).mono ?_
      rintro e w5 ⟨⟨v, hv, rfl⟩, hs5, hb5⟩
      have HS5 : Hid (Src w5 w.heap.size a len cap (2 + j + 1)) := hs5
      have hv1 : 64 ≤ v ∧ v ≤ 65 := by simp at hv; omega
      obtain ⟨v0, v1⟩ := hv1
      clear hs5 HR hv
      by_cases hlt : (r.size : Int) < v
      · have hadd := fun w => run_string_add_sum (P := Tryd.prog) (w := w) r ⟨#[113]⟩ (by have : (⟨#[113]⟩ : ByteArray).size = 1 := rfl; omega)
        have HZ : Hid ((r ++ (⟨#[113]⟩ : ByteArray)).size = r.size + 1) := by show _ = _; simp [ByteArray.size_append]; rfl
        generalize r ++ (⟨#[113]⟩ : ByteArray) = r' at *
        go_wp2_with fail
        go_roundw
        case rel => exact ⟨r', j + 1, rfl, by have := HZ.out; have := HJ.out; omega, by have := HZ.out; omega, HS5.out, hb.trans hb5⟩
        case measure => have := HZ.out; simp; omega
      · go_wp2_with fail
        go_ret
        exact ⟨⟨r, by omega, rfl⟩, hb.trans hb5⟩
end Go.Proofs.YtgnlpjdndhciaaaDoor
