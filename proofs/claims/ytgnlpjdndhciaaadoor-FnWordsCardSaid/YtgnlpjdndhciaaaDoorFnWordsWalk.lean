/-
  The law of words, out of contracts.
-/
import Derived.Test.YtgnlpjdndhciaaaDoorDraw1Text
import Derived.Test.YtgnlpjdndhciaaaDoorLowI
import Derived.Test.YtgnlpjdndhciaaaDoorTrimImpl
import Derived.Test.YtgnlpjdndhciaaaDoorWordLaid
import Derived.Test.YtgnlpjdndhciaaaDoorFnWordsPlain
import Derived.Lib.QuietBelow
import Derived.Deep.RegionWith
namespace Go.Proofs.YtgnlpjdndhciaaaDoor
open Go.ChangeShapes Go.WideShapes Go.ChangeAt Go.RowKit Go.Sort
theorem same_below {P : Program} {f : FuncId} {args : Array Value} {w : World} {v : Value} (h : Calls P f args w fun e w' => e = .returned v ∧ w' = w) : Calls P f args w fun e w' => e = .returned v ∧ Below w.heap.size w w' :=
  h.mono fun _ _ ⟨he, hw⟩ => ⟨he, hw ▸ Below.refl _ _⟩
theorem SetIs.regrown {w : World} (h : SetIs w) (d : Nat) (os : Array Obj) : SetIs (grow (redrawn w d) os) := h.below (below_regrown w d os)
theorem field_code (c : Int) (s : ByteArray) (w : World) : (Instr.field 26 (.agg #[.int .i64 c, .string s]) 0).run Tryd.prog w = .ok (.int .i64 c) w := by kernel_rfl
theorem field_text (c : Int) (s : ByteArray) (w : World) : (Instr.field 26 (.agg #[.int .i64 c, .string s]) 1).run Tryd.prog w = .ok (.string s) w := by kernel_rfl
/-- What LowerText and TrimText answer to t: a code, a text each. -/
structure Told (t l r : ByteArray) (c : Int) : Prop where
  sl : ∀ w, Calls Tryd.prog 10 #[.string t] w fun e w' => e = .returned (.agg #[.int .i64 c, .string l]) ∧ Below w.heap.size w w'
  il : ∀ w, Calls Tryd.prog 7 #[.string t] w fun e w' => e = .returned (.agg #[.int .i64 c, .string l]) ∧ Below w.heap.size w w'
  st : ∀ w, Calls Tryd.prog 11 #[.string t] w fun e w' => e = .returned (.agg #[.int .i64 c, .string r]) ∧ Below w.heap.size w w'
  it : ∀ w, Calls Tryd.prog 8 #[.string t] w fun e w' => e = .returned (.agg #[.int .i64 c, .string r]) ∧ Below w.heap.size w w'
theorem told_long (t : ByteArray) (h : 1000 < t.size) : Told t ⟨#[]⟩ ⟨#[]⟩ 2 :=
  ⟨fun w => specLower_long t w h, fun w => implLower_long t w h, fun w => specTrim_long t w h, fun w => implTrim_long t w h⟩
theorem told_short (t : ByteArray) (h : t.size ≤ 1000) : Told t (lowS t) (trimT t) 0 :=
  ⟨fun w => specLower_any t w h, fun w => implLower_any t w h, fun w => specTrim_any t w h, fun w => implTrim_any t w h⟩
set_option maxRecDepth 100000 in
set_option maxHeartbeats 4000000 in
theorem fnWords_walk (w : World) (a : Option Addr) (len cap : Nat) (hc : CodeRow w w.heap.size a len) (hset : SetIs w) :
    Calls Tryd.prog 3 #[.slice a len cap] w fun e w' => e = .returned (.bool true) ∧ Below w.heap.size w w' := by
  have HC : Hid (CodeRow w w.heap.size a len) := hc
  have HSET : Hid (SetIs w) := hset
  clear hc hset
  by_cases hbig : (1048576 : Int) < len
  · go_enter Tryd.func3, Tryd.ntmps3
    go_wp2
    go_ret
    exact ⟨rfl, Below.refl _ _⟩
  have hl2 : len ≤ 1048576 := by omega
  go_enter Tryd.func3, Tryd.ntmps3
  go_wp2_with (go_at_call 5; go_in)
  refine (drawLowerText_any w a len cap HC.out hl2).mono ?_
  rintro e w1 ⟨⟨t, ht, rfl⟩, hb1⟩
  obtain ⟨l, r, c, HT, HW⟩ : ∃ l r c, Hid (Told t l r c) ∧ Hid (c = 2 ∨ (c = 0 ∧ l = lowS t ∧ r = trimT t ∧ t.size ≤ 1000)) := by
    by_cases h : 1000 < t.size
    · exact ⟨_, _, _, told_long t h, .inl rfl⟩
    · exact ⟨_, _, _, told_short t (by omega), .inr ⟨rfl, rfl, rfl, by omega⟩⟩
  go_wp2_with fail
  refine (HT.out.il _).mono ?_
  rintro e w2 ⟨rfl, hb2⟩
  go_wp2_with fail
  refine (HT.out.it _).mono ?_
  rintro e w3 ⟨rfl, hb3⟩
  have z1 := hb1.size
  have z2 := hb2.size
  have z3 := hb3.size
  simp only [World.size_alloc] at hb3 z3
  have k3 : Below w.heap.size w (w3.alloc (.cells #[.int .i64 c, .string r] 26)) := ((hb1.trans (hb2.mono z1)).alloc (by omega) _ |>.trans (hb3.mono (by omega))).alloc (by omega) _
  have HC3 : Hid (CodeRow (w3.alloc (.cells #[.int .i64 c, .string r] 26)) (w3.alloc (.cells #[.int .i64 c, .string r] 26)).heap.size a len) := (HC.out.below k3).mono k3.size
  go_wp2_with fail
  refine (drawIsWord_any _ a len cap HC3.out hl2).mono ?_
  rintro e w4 ⟨⟨u, hu, rfl⟩, hb4⟩
  go_wp2_with fail
  simp only [World.size_alloc] at hb4
  have z4 := hb4.size
  simp only [World.size_alloc] at z4
  have p40 : w4.cell? ⟨w2.heap.size, 0, none⟩ = some (.int .i64 c) := by
    rw [hb4.cell (p := ⟨w2.heap.size, 0, none⟩) (by show w2.heap.size < w3.heap.size + 1; omega), World.cell?_alloc_lt _ _ _ (by show w2.heap.size < w3.heap.size; omega), hb3.cell (p := ⟨w2.heap.size, 0, none⟩) (by show w2.heap.size < w2.heap.size + 1; omega)]
    simp
  have p41 : w4.cell? ⟨w2.heap.size, 1, none⟩ = some (.string l) := by
    rw [hb4.cell (p := ⟨w2.heap.size, 1, none⟩) (by show w2.heap.size < w3.heap.size + 1; omega), World.cell?_alloc_lt _ _ _ (by show w2.heap.size < w3.heap.size; omega), hb3.cell (p := ⟨w2.heap.size, 1, none⟩) (by show w2.heap.size < w2.heap.size + 1; omega)]
    simp
  have p50 : w4.cell? ⟨w3.heap.size, 0, none⟩ = some (.int .i64 c) := by
    rw [hb4.cell (p := ⟨w3.heap.size, 0, none⟩) (by show w3.heap.size < w3.heap.size + 1; omega)]
    simp
  have p51 : w4.cell? ⟨w3.heap.size, 1, none⟩ = some (.string r) := by
    rw [hb4.cell (p := ⟨w3.heap.size, 1, none⟩) (by show w3.heap.size < w3.heap.size + 1; omega)]
    simp
  have k4 : Below w.heap.size w w4 := k3.trans (hb4.mono (by omega))
  have HSET4 : Hid (SetIs w4) := HSET.out.below k4
  generalize w2.heap.size = L4 at *
  generalize w3.heap.size = L5 at *
  clear hb1 hb2 hb3 hb4 z1 z2 z3 z4 k3 HC3 HC HSET
  have q40 := cell_regrown p40
  have q41 := cell_regrown p41
  have q50 := cell_regrown p50
  have q51 := cell_regrown p51
  have cSL : ∀ d os, Calls Tryd.prog 10 #[.string t] (grow (redrawn w4 d) os) fun e w'' => e = .returned (.agg #[.int .i64 c, .string l]) ∧ ∃ p : Regrown, w'' = grow (redrawn w4 p.d) p.os := fun d os => Calls.regrown_of (HT.out.sl _)
  have cST : ∀ d os, Calls Tryd.prog 11 #[.string t] (grow (redrawn w4 d) os) fun e w'' => e = .returned (.agg #[.int .i64 c, .string r]) ∧ ∃ p : Regrown, w'' = grow (redrawn w4 p.d) p.os := fun d os => Calls.regrown_of (HT.out.st _)
  have cIW : ∀ d os, Calls Tryd.prog 12 #[.string u] (grow (redrawn w4 d) os) fun e w'' => e = .returned (.bool (wordS u)) ∧ ∃ p : Regrown, w'' = grow (redrawn w4 p.d) p.os := fun d os => Calls.regrown_of (implIsWord_set u _ (HSET4.out.regrown d os))
  have cSW : ∀ d os, Calls Tryd.prog 13 #[.string u] (grow (redrawn w4 d) os) fun e w'' => e = .returned (.bool (wordS u)) ∧ ∃ p : Regrown, w'' = grow (redrawn w4 p.d) p.os := fun d os => Calls.regrown_of (same_below (specIsWord_any u _))
  have hfc := field_code
  have hft := field_text
  refine wp_region_quiet_below (by kernel_rfl) (by kernel_rfl) ?_
  repeat (go_big_quiet_step (first | (go_at_call 10; exact cSL _ _) | (go_at_call 11; exact cST _ _) | (go_at_call 12; exact cIW _ _) | (go_at_call 13; exact cSW _ _)))
  refine wpQuiet_nil ?_
  intro w5 hw5
  have hb5 : Below w4.heap.size w4 w5 := by
    obtain ⟨⟨d, os⟩, rfl⟩ := hw5
    exact below_regrown w4 d os
  have HB : Hid (Below w.heap.size w w5) := k4.trans (hb5.mono k4.size)
  have HSET5 : Hid (SetIs w5) := HSET4.out.below hb5
  have s40 : w5.cell? ⟨L4, 0, none⟩ = some (.int .i64 c) := by rw [hb5.cell (p := ⟨L4, 0, none⟩) (block_lt_of_cell p40)]; exact p40
  have s41 : w5.cell? ⟨L4, 1, none⟩ = some (.string l) := by rw [hb5.cell (p := ⟨L4, 1, none⟩) (block_lt_of_cell p41)]; exact p41
  have s51 : w5.cell? ⟨L5, 1, none⟩ = some (.string r) := by rw [hb5.cell (p := ⟨L5, 1, none⟩) (block_lt_of_cell p51)]; exact p51
  clear hw5 hb5 cSL cST cIW cSW q40 q41 q50 q51 p40 p41 p50 p51 k4 HSET4 HT
  rcases HW.out with rfl | ⟨rfl, hl, hr, hts⟩
  · go_wp2_with fail
    go_ret
    exact ⟨rfl, HB.out⟩
  · have e1 : l.size = t.size := by rw [hl]; exact lowS_size t
    have HIL : Hid (∀ w, Calls Tryd.prog 7 #[.string l] w fun e w' => e = .returned (.agg #[.int .i64 0, .string l]) ∧ Below w.heap.size w w') := by
      have := implLower_any l
      rw [show lowS l = l from by rw [hl]; exact lowS_twice t] at this
      exact fun w => this w (by omega)
    have HIT : Hid (∀ w, Calls Tryd.prog 8 #[.string r] w fun e w' => e = .returned (.agg #[.int .i64 0, .string r]) ∧ Below w.heap.size w w') := by
      have := implTrim_any r
      rw [show trimT r = r from by rw [hr]; exact trimT_twice t] at this
      exact fun w => this w (by rw [hr]; exact Nat.le_trans (trimT_size t) hts)
    clear HW hl hr
    go_wp2_with fail
    have q40 := cell_regrown s40
    have q41 := cell_regrown s41
    have q51 := cell_regrown s51
    have cIL : ∀ d os, Calls Tryd.prog 7 #[.string l] (grow (redrawn w5 d) os) fun e w'' => e = .returned (.agg #[.int .i64 0, .string l]) ∧ ∃ p : Regrown, w'' = grow (redrawn w5 p.d) p.os := fun d os => Calls.regrown_of (HIL.out _)
    have cIT : ∀ d os, Calls Tryd.prog 8 #[.string r] (grow (redrawn w5 d) os) fun e w'' => e = .returned (.agg #[.int .i64 0, .string r]) ∧ ∃ p : Regrown, w'' = grow (redrawn w5 p.d) p.os := fun d os => Calls.regrown_of (HIT.out _)
    have cIW : ∀ d os, Calls Tryd.prog 12 #[.string u] (grow (redrawn w5 d) os) fun e w'' => e = .returned (.bool (wordS u)) ∧ ∃ p : Regrown, w'' = grow (redrawn w5 p.d) p.os := fun d os => Calls.regrown_of (implIsWord_set u _ (HSET5.out.regrown d os))
    cases hwu : wordS u
    · rw [hwu] at cIW
      clear hwu
      refine wp_region_quiet_below (by kernel_rfl) (by kernel_rfl) ?_
      repeat (go_big_quiet_step (first | (go_at_call 7; exact cIL _ _) | (go_at_call 8; exact cIT _ _) | (go_at_call 12; exact cIW _ _)))
      refine wpQuiet_nil ?_
      intro w6 hw6
      have hb6 : Below w.heap.size w w6 := by
        obtain ⟨⟨d, os⟩, rfl⟩ := hw6
        exact HB.out.trans ((below_regrown w5 d os).mono HB.out.size)
      clear cIL cIT cIW q40 q41 q51
      go_wp2_with fail
      go_ret
      exact ⟨rfl, hb6⟩
    · rw [hwu] at cIW
      have hu64 : (u.size : Int) ≤ 64 := by have := word_size u hwu; omega
      have cIU : ∀ d os, Calls Tryd.prog 8 #[.string u] (grow (redrawn w5 d) os) fun e w'' => e = .returned (.agg #[.int .i64 0, .string u]) ∧ ∃ p : Regrown, w'' = grow (redrawn w5 p.d) p.os := fun d os => by
        have := implTrim_any u (grow (redrawn w5 d) os) (by omega)
        rw [word_trim u hwu] at this
        exact Calls.regrown_of this
      clear hwu
      refine wp_region_quiet_below (by kernel_rfl) (by kernel_rfl) ?_
      repeat (go_big_quiet_step (first | (go_at_call 7; exact cIL _ _) | (go_at_call_of 8 (Value.string r); exact cIT _ _) | (go_at_call_of 8 (Value.string u); exact cIU _ _) | (go_at_call 12; exact cIW _ _)))
      refine wpQuiet_nil ?_
      intro w6 hw6
      have hb6 : Below w.heap.size w w6 := by
        obtain ⟨⟨d, os⟩, rfl⟩ := hw6
        exact HB.out.trans ((below_regrown w5 d os).mono HB.out.size)
      clear cIL cIT cIW cIU q40 q41 q51
      go_wp2_with fail
      go_ret
      exact ⟨rfl, hb6⟩
end Go.Proofs.YtgnlpjdndhciaaaDoor
