/-
  What DrawQuoteText and DrawUnquoteText do: some text, nothing old turned.
-/
import Derived.Test.YtfclbkjigihcnaaDrawText
import Derived.Test.YtfclbkjigihcnaaQuoteTotal
namespace Go.Proofs.Ytfclbkjigihcnaa
open Go.ChangeShapes Go.WideShapes Go.ChangeAt Go.RowKit
set_option maxHeartbeats 1000000 in
theorem drawQuoteText_any (w : World) (a : Option Addr) (len cap : Nat) (hc : CodeRow w w.heap.size a len) (hl2 : len ≤ 1048576) :
    Calls Try.prog 5 #[.slice a len cap] w fun e w' => (∃ t : ByteArray, t.size ≤ 1001 ∧ e = .returned (.string t)) ∧ Below w.heap.size w w' := by
  have HC : Hid (CodeRow w w.heap.size a len) := hc
  clear hc
  go_enter Try.func5, Try.ntmps5
  go_wp2_with fail
  refine (l1Source_any w a len cap HC.out).mono ?_
  rintro e w2 ⟨rfl, hs2, hb2⟩
  have HS2 : Hid (Src w2 w.heap.size a len cap 0) := hs2
  clear hs2
  go_wp2_with fail
  refine (l1Word_s w2 w.heap.size a len cap 0 HS2.out ([⟨#[97, 98, 99]⟩, ⟨#[97, 34, 98]⟩, ⟨#[97, 92, 98]⟩, ⟨#[]⟩, ⟨#[120, 32, 121]⟩, ⟨#[127]⟩, ⟨#[9]⟩, ⟨#[92, 34]⟩, ⟨#[97, 44, 98]⟩, ⟨#[10]⟩] : List ByteArray) 10 rfl (by omega) (by omega) (by omega) hl2).mono ?_
  rintro e w3 ⟨⟨t, ht, rfl⟩, hs3, hb3⟩
  have HS3 : Hid (Src w3 w.heap.size a len cap 1) := hs3
  have htz : t.size ≤ 1001 := by
    simp only [List.mem_cons, List.not_mem_nil, or_false] at ht
    rcases ht with rfl | rfl | rfl | rfl | rfl | rfl | rfl | rfl | rfl | rfl
    all_goals decide
  clear hs3 ht
  go_wp2_with fail
  refine (l1Chance_s w3 w.heap.size a len cap 1 20 HS3.out (by omega) (by omega) (by omega) hl2).mono ?_
  rintro e w4 ⟨⟨b, rfl⟩, hs4, hb4⟩
  have HS4 : Hid (Src w4 w.heap.size a len cap 2) := hs4
  clear hs4
  have hbs : Below w.heap.size w w4 := hb2.trans (hb3.trans hb4)
  clear hb2 hb3 hb4
  cases b
  · go_wp2_with fail
    go_ret
    exact ⟨⟨t, htz, rfl⟩, hbs⟩
  · go_wp2_with fail
    refine (l1Long_any w4 w.heap.size a len cap 2 HS4.out t htz (by omega) hl2).mono ?_
    rintro e w5 ⟨⟨r5, hr5, rfl⟩, ⟨_, _, _⟩, hb5⟩
    go_wp2_with fail
    go_ret
    exact ⟨⟨r5, hr5, rfl⟩, hbs.trans hb5⟩
set_option maxHeartbeats 1000000 in
theorem drawUnquoteText_any (w : World) (a : Option Addr) (len cap : Nat) (hc : CodeRow w w.heap.size a len) (hl2 : len ≤ 1048576) :
    Calls Try.prog 7 #[.slice a len cap] w fun e w' => (∃ t : ByteArray, t.size ≤ 2005 ∧ e = .returned (.string t)) ∧ Below w.heap.size w w' := by
  have HC : Hid (CodeRow w w.heap.size a len) := hc
  clear hc
  go_enter Try.func7, Try.ntmps7
  go_wp2_with fail
  refine (l1Source_any w a len cap HC.out).mono ?_
  rintro e w1 ⟨rfl, hs1, hb1⟩
  have HS1 : Hid (Src w1 w.heap.size a len cap 0) := hs1
  have HC1 : Hid (CodeRow w1 w1.heap.size a len) := (HC.out.below hb1).mono hb1.size
  clear hs1
  go_wp2_with fail
  refine (drawQuoteText_any w1 a len cap HC1.out hl2).mono ?_
  rintro e w2 ⟨⟨t, ht, rfl⟩, hb2⟩
  have HS2 : Hid (Src w2 w.heap.size a len cap 0) := HS1.out.below (hb2.mono HS1.out.lt)
  have hb12 : Below w.heap.size w w2 := hb1.trans (hb2.mono hb1.size)
  clear HS1 HC1 hb1 hb2
  go_wp2_with fail
  refine (l2Quote_any t _ (by omega)).mono ?_
  rintro e w3 ⟨rfl, hb3⟩
  have HS3 : Hid (Src w3 w.heap.size a len cap 0) := HS2.out.below (hb3.mono HS2.out.lt)
  have hb13 : Below w.heap.size w w3 := hb12.trans (hb3.mono hb12.size)
  obtain ⟨z1, z2⟩ := quoteT_size t
  clear HS2 hb12 hb3
  generalize quoteT t = q at *
  go_wp2_with fail
  refine (l1Next_s w3 w.heap.size a len cap 0 6 HS3.out (by omega) (by omega) (by omega) hl2).mono ?_
  rintro e w4 ⟨⟨v, v0, v1, rfl⟩, hs4, hb4⟩
  have HS4 : Hid (Src w4 w.heap.size a len cap 1) := hs4
  have hb14 : Below w.heap.size w w4 := hb13.trans hb4
  clear HS3 hb13 hb4 hs4
  by_cases e0 : v = 0
  · subst e0
    go_wp2_with fail
    go_ret
    exact ⟨⟨_, by simp [ByteArray.size_extract]; omega, rfl⟩, hb14⟩
  by_cases e1 : v = 1
  · subst e1
    have hadd := fun w => run_string_add_sum (P := Try.prog) (w := w) q ⟨#[120]⟩ (by have : (⟨#[120]⟩ : ByteArray).size = 1 := rfl; omega)
    have HZ : Hid ((q ++ (⟨#[120]⟩ : ByteArray)).size = q.size + 1) := by show _ = _; simp [ByteArray.size_append]; rfl
    generalize q ++ (⟨#[120]⟩ : ByteArray) = q' at *
    go_wp2_with fail
    go_ret
    exact ⟨⟨q', by have := HZ.out; omega, rfl⟩, hb14⟩
  have d0 : (v == 0) = false := by simpa using e0
  have d1 : (v == 1) = false := by simpa using e1
  by_cases e2 : v = 2
  · subst e2
    clear e0 e1
    go_wp2_with fail
    refine (l1Word_s w4 w.heap.size a len cap 1 HS4.out ([⟨#[34, 97, 92]⟩, ⟨#[34]⟩, ⟨#[34, 97, 92, 34]⟩, ⟨#[97, 34]⟩, ⟨#[34, 92, 120, 34]⟩, ⟨#[34, 97, 34, 98, 34]⟩] : List ByteArray) 6 rfl (by omega) (by omega) (by omega) hl2).mono ?_
    rintro e w5 ⟨⟨u, hu, rfl⟩, _, hb5⟩
    have huz : u.size ≤ 2005 := by
      simp only [List.mem_cons, List.not_mem_nil, or_false] at hu
      rcases hu with rfl | rfl | rfl | rfl | rfl | rfl
      all_goals decide
    clear hu
    go_wp2_with fail
    go_ret
    exact ⟨⟨u, huz, rfl⟩, hb14.trans hb5⟩
  · have d2 : (v == 2) = false := by simpa using e2
    clear e0 e1 e2
    go_wp2_with fail
    go_ret
    exact ⟨⟨q, by omega, rfl⟩, hb14⟩
end Go.Proofs.Ytfclbkjigihcnaa
