/-
  The law of quotes, out of contracts: what impl answers is taken as a hypothesis.
-/
import Derived.Test.YtfclbkjigihcnaaDraw2Text
import Derived.Test.YtfclbkjigihcnaaQuoteFns
import Derived.Lib.QuietBelow
import Derived.Deep.RegionWith
namespace Go.Proofs.Ytfclbkjigihcnaa
open Go.ChangeShapes Go.WideShapes Go.ChangeAt Go.RowKit Go.Sort
theorem q_field_code (c : Int) (s : ByteArray) (w : World) : (Instr.field 26 (.agg #[.int .i64 c, .string s]) 0).run Try.prog w = .ok (.int .i64 c) w := by kernel_rfl
theorem q_field_text (c : Int) (s : ByteArray) (w : World) : (Instr.field 26 (.agg #[.int .i64 c, .string s]) 1).run Try.prog w = .ok (.string s) w := by kernel_rfl
theorem q_keep {W W' : World} (hb : Below W.heap.size W W') {p : Addr} {v : Value} (h : W.cell? p = some v) : W'.cell? p = some v := by
  rw [hb.cell (block_lt_of_cell h)]; exact h
theorem q_keepA {W : World} {p : Addr} {v : Value} (o : Obj) (h : W.cell? p = some v) : (W.alloc o).cell? p = some v := q_keep ((Below.refl _ _).alloc (Nat.le_refl _) _) h
set_option maxRecDepth 100000 in
set_option maxHeartbeats 4000000 in
theorem fnQuotes_walk (iq : TextFn 6 qC qT) (iu : TextFn 8 uC uT) (w : World) (a : Option Addr) (len cap : Nat) (hc : CodeRow w w.heap.size a len) :
    Calls Try.prog 3 #[.slice a len cap] w fun e w' => e = .returned (.bool true) ∧ Below w.heap.size w w' := by
  have HC : Hid (CodeRow w w.heap.size a len) := hc
  have IQ : Hid (TextFn 6 qC qT) := iq
  have IU : Hid (TextFn 8 uC uT) := iu
  clear hc iq iu
  by_cases hbig : (1048576 : Int) < len
  · go_enter Try.func3, Try.ntmps3
    go_wp2
    go_ret
    exact ⟨rfl, Below.refl _ _⟩
  have hl2 : len ≤ 1048576 := by omega
  go_enter Try.func3, Try.ntmps3
  go_wp2_with (go_at_call 4; go_in)
  refine (drawQuoteText_any w a len cap HC.out hl2).mono ?_
  rintro e w1 ⟨⟨t, _, rfl⟩, hb1⟩
  go_wp2_with fail
  refine (IQ.out t _).mono ?_
  rintro e w2 ⟨rfl, hb2⟩
  have HQ : Hid (qC t = 0 → uC (qT t) = 0 ∧ uT (qT t) = t ∧ t.size + 2 ≤ (qT t).size) := uC_quote t
  have SQ : Hid (∀ w, Calls Try.prog 9 #[.string t] w fun e w' => e = .returned (.agg #[.int .i64 (qC t), .string (qT t)]) ∧ Below w.heap.size w w') := specQuote_fn t
  generalize qC t = c at *
  generalize qT t = q at *
  have K2 : Hid (Below w.heap.size w (w2.alloc (.cells #[.int .i64 c, .string q] 26)) ∧ (w2.alloc (.cells #[.int .i64 c, .string q] 26)).cell? ⟨w2.heap.size, 0, none⟩ = some (.int .i64 c) ∧ (w2.alloc (.cells #[.int .i64 c, .string q] 26)).cell? ⟨w2.heap.size, 1, none⟩ = some (.string q)) := ⟨(hb1.trans (hb2.mono hb1.size)).alloc (Nat.le_trans hb1.size hb2.size) _, by simp, by simp⟩
  have HC2 : Hid (CodeRow (w2.alloc (.cells #[.int .i64 c, .string q] 26)) (w2.alloc (.cells #[.int .i64 c, .string q] 26)).heap.size a len) := (HC.out.below K2.out.1).mono K2.out.1.size
  clear hb1 hb2 HC IQ
  go_wp2_with fail
  refine (drawUnquoteText_any _ a len cap HC2.out hl2).mono ?_
  rintro e w3 ⟨⟨u, _, rfl⟩, hb3⟩
  have K3 : Hid (Below w.heap.size w w3 ∧ w3.cell? ⟨w2.heap.size, 0, none⟩ = some (.int .i64 c) ∧ w3.cell? ⟨w2.heap.size, 1, none⟩ = some (.string q)) := by
    obtain ⟨b, c1, c2⟩ := K2.out
    exact ⟨b.trans (hb3.mono b.size), q_keep hb3 c1, q_keep hb3 c2⟩
  clear K2 HC2 hb3
  generalize w2.heap.size = Lq at *
  clear w2
  go_wp2_with fail
  refine (IU.out u _).mono ?_
  rintro e w4 ⟨rfl, hb4⟩
  have SU : Hid (∀ w, Calls Try.prog 10 #[.string u] w fun e w' => e = .returned (.agg #[.int .i64 (uC u), .string (uT u)]) ∧ Below w.heap.size w w') := specUnquote_fn u
  generalize uC u = d at *
  generalize uT u = r at *
  obtain ⟨W, hW⟩ : ∃ W, W = w4.alloc (.cells #[.int .i64 d, .string r] 26) := ⟨_, rfl⟩
  have K4 : Hid (Below w.heap.size w W ∧ W.cell? ⟨Lq, 0, none⟩ = some (.int .i64 c) ∧ W.cell? ⟨Lq, 1, none⟩ = some (.string q) ∧ W.cell? ⟨w4.heap.size, 0, none⟩ = some (.int .i64 d) ∧ W.cell? ⟨w4.heap.size, 1, none⟩ = some (.string r)) := by
    obtain ⟨b, c1, c2⟩ := K3.out
    have b4 := b.trans (hb4.mono b.size)
    subst hW
    exact ⟨b4.alloc b4.size _, q_keepA _ (q_keep hb4 c1), q_keepA _ (q_keep hb4 c2), by simp, by simp⟩
  have HWW : Hid (W = w4.alloc (.cells #[.int .i64 d, .string r] 26)) := hW
  clear hW K3 hb4
  go_wp2_with fail
  rw [← HWW.out]
  clear HWW
  generalize w4.heap.size = Lr at *
  clear w4
  obtain ⟨kB, c1, c2, c3, c4⟩ := K4.out
  have KB : Hid (Below w.heap.size w W) := kB
  clear K4 kB
  have q1 := cell_regrown c1
  have q2 := cell_regrown c2
  have q3 := cell_regrown c3
  have q4 := cell_regrown c4
  have cSQ : ∀ d' os, Calls Try.prog 9 #[.string t] (grow (redrawn W d') os) fun e w'' => e = .returned (.agg #[.int .i64 c, .string q]) ∧ ∃ p : Regrown, w'' = grow (redrawn W p.d) p.os := fun d' os => Calls.regrown_of (SQ.out _)
  have cSU : ∀ d' os, Calls Try.prog 10 #[.string u] (grow (redrawn W d') os) fun e w'' => e = .returned (.agg #[.int .i64 d, .string r]) ∧ ∃ p : Regrown, w'' = grow (redrawn W p.d) p.os := fun d' os => Calls.regrown_of (SU.out _)
  have hf1 := q_field_code
  have hf2 := q_field_text
  refine wp_region_quiet_below (by kernel_rfl) (by kernel_rfl) ?_
  repeat (go_big_quiet_step (first | (go_at_call 9; exact cSQ _ _) | (go_at_call 10; exact cSU _ _)))
  refine wpQuiet_nil ?_
  intro W2 hW2
  have hbW2 : Below W.heap.size W W2 := by
    obtain ⟨⟨d, os⟩, rfl⟩ := hW2
    exact below_regrown W d os
  have KB2 : Hid (Below w.heap.size w W2) := KB.out.trans (hbW2.mono KB.out.size)
  have p1 := q_keep hbW2 c1
  have p2 := q_keep hbW2 c2
  clear hW2 hbW2 cSQ cSU q1 q2 q3 q4 c1 c2 c3 c4 KB SQ SU
  by_cases h0 : c = 0
  · subst h0
    obtain ⟨b1, b2, b3⟩ := HQ.out rfl
    have IB : Hid (∀ w, Calls Try.prog 8 #[.string q] w fun e w' => e = .returned (.agg #[.int .i64 0, .string t]) ∧ Below w.heap.size w w') := by
      have := IU.out q
      rw [b1, b2] at this
      exact this
    have hge : (t.size : Int) + 2 ≤ (q.size : Int) := by omega
    have hgd : decide ((t.size : Int) + 2 ≤ (q.size : Int)) = true := by simpa using hge
    clear HQ IU b1 b2 b3
    go_wp2_with fail
    refine (IB.out _).mono ?_
    rintro e w5 ⟨rfl, hb5⟩
    have p1' := q_keep hb5 p1
    have p2' := q_keep hb5 p2
    have KB5 : Hid (Below w.heap.size w w5) := KB2.out.trans (hb5.mono KB2.out.size)
    have hLq : Lq < w5.heap.size := block_lt_of_cell p1'
    clear p1 p2 KB2 hb5
    go_wp2_with fail
    go_ret
    exact ⟨rfl, KB5.out.alloc KB5.out.size _⟩
  · have e0 : (c != 0) = true := by simpa using h0
    clear HQ h0
    go_wp2_with fail
    go_ret
    exact ⟨rfl, KB2.out⟩
end Go.Proofs.Ytfclbkjigihcnaa
