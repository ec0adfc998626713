/-
  markHeaderS and heldHeaderS.
-/
import Derived.Test.YtjdkkfbijneedaaHMarks
namespace Go.Proofs.Ytjdkkfbijneedaa
open Go.ChangeShapes Go.WideShapes Go.ChangeAt Go.RowKit Go.Sort
set_option maxRecDepth 100000 in
set_option maxHeartbeats 4000000 in
theorem markHeaderS_any (w : World) (g off cap n k : Nat) (l : List Hdr) (hn : l.length = n) (hn2 : n ≤ 1048576) (hk0 : 1 ≤ k) (hk1 : k ≤ 100000000000000) (hi : HeadsAt w g off l) (hf : ∀ o, w.frozen? ⟨g, o, none⟩ = false) (hg : g < w.heap.size) :
    Calls Try.prog 18 #[.slice (some ⟨g, off, none⟩) n cap, .int .i64 (k : Int)] w fun e w' => e = .returned (.int .i64 ((k + 2 * n : Nat) : Int)) ∧ HeadsAt w' g off (mkHL k n) ∧ Apart g w w' ∧ Below g w w' ∧ ∀ o, w'.frozen? ⟨g, o, none⟩ = false := by
  have HST : Hid (HMarked w g off k n 0 l w) := ⟨hn, fun i h => by omega, hi, hf, .refl _ _, Below.refl _ _, hg⟩
  clear hi hf hg hn
  go_enter Try.func18, Try.ntmps18
  go_wp2_with fail
  go_loopw [1, 5] (fun x i wr => ∃ (j : Nat) (L : List Hdr), j ≤ n ∧ i = .int .i64 (j : Int) ∧ x = .int .i64 ((k + 2 * j : Nat) : Int) ∧ HMarked w g off k n j L wr) (fun _ i _ => n - (intOf i).toNat)
  case atStart => exact ⟨0, l, Nat.zero_le _, rfl, rfl, HST.out⟩
  case round =>
    obtain ⟨j, L, hj, rfl, rfl, hm⟩ := hrel
    have HM : Hid (HMarked w g off k n j L wr) := hm
    clear hm HST
    by_cases hlt : j < n
    · obtain ⟨r, hr⟩ : ∃ r, L[j]? = some r := ⟨L[j]'(by have := HM.out.len; omega), List.getElem?_eq_getElem _⟩
      have HR : Hid (L[j]? = some r) := hr
      clear hr
      have g0 : (0 : Int) ≤ j := by omega
      have g1 : (j : Int) < n := by omega
      have HT1 : Hid (∀ w, Calls Try.prog 24 #[.int .i64 ((k + 2 * j : Nat) : Int)] w fun e w' => e = .returned (.string (mkT (k + 2 * j))) ∧ Below w.heap.size w w') := markText_any (k + 2 * j) (by omega) (by omega)
      go_wp2_with fail
      refine (HT1.out _).mono ?_
      rintro e w1 ⟨rfl, hb1⟩
      have HM1 : Hid (HMarked w g off k n j L w1) := HM.out.below hb1
      clear hb1 HM
      obtain ⟨p1, p3⟩ := HM1.out.items j r HR.out
      have f1 := HM1.out.thaw (off + j * 2)
      have HT2 : Hid (∀ w, Calls Try.prog 24 #[.int .i64 ((k : Int) + 2 * j + 1)] w fun e w' => e = .returned (.string (mkT (k + 2 * j + 1))) ∧ Below w.heap.size w w') := by
        have := markText_any (k + 2 * j + 1) (by omega) (by omega)
        rw [show ((k + 2 * j + 1 : Nat) : Int) = (k : Int) + 2 * j + 1 by omega] at this
        exact this
      have hl : Hid (j < L.length) := (List.getElem?_eq_some_iff.1 HR.out).1
      have HM2 := HM1.out.set (L' := L.set j { r with name := mkT (k + 2 * j) }) (by simp) (fun i hi => by rw [List.getElem?_set_ne (by omega)]) (hput_name HM1.out.items HR.out (mkT (k + 2 * j)))
      have HM4 : Hid _ := HM2
      clear HM2 HM1
      go_wp2_with fail
      refine (HT2.out _).mono ?_
      rintro e w2 ⟨rfl, hb2⟩
      have HM5 : Hid (HMarked w g off k n j (L.set j { r with name := mkT (k + 2 * j) }) w2) := HM4.out.below hb2
      clear hb2 HM4 p1 p3 f1
      have hr5 : (L.set j { r with name := mkT (k + 2 * j) })[j]? = some { r with name := mkT (k + 2 * j) } := List.getElem?_set_self hl.out
      obtain ⟨p1, p3⟩ := HM5.out.items j _ hr5
      have f3 := HM5.out.thaw (off + j * 2 + 1)
      have HM6 := HM5.out.set (L' := (L.set j { r with name := mkT (k + 2 * j) }).set j (mkHR k j)) (by simp) (fun i hi => by rw [List.getElem?_set_ne (by omega)]) (by
        have := hput_value HM5.out.items hr5 (mkT (k + 2 * j + 1))
        exact this)
      have HM7 : Hid _ := HM6
      clear HM6 hr5 HM5
      go_wp2_with fail
      go_roundw
      case rel => exact ⟨j + 1, _, by omega, by go_num, by congr 1, HM7.out.len, fun i hi => by
        by_cases e : i = j
        · subst e; exact List.getElem?_set_self (by simpa using hl.out)
        · exact HM7.out.done i (by omega), HM7.out.items, HM7.out.thaw, HM7.out.apart, HM7.out.low, HM7.out.lt⟩
      case measure => simp [intOf]; omega
    · obtain rfl : j = n := by omega
      have HX : Hid (HeadsAt wr g off (mkHL k j)) := by
        have e : L = mkHL k j := by
          apply List.ext_getElem?
          intro i
          by_cases hi : i < j
          · rw [HM.out.done i hi, mkHL_get hi]
          · rw [List.getElem?_eq_none (by have := HM.out.len; omega), List.getElem?_eq_none (by rw [mkHL_len]; omega)]
        show HeadsAt _ _ _ _
        rw [← e]
        exact HM.out.items
      go_wp2_with fail
      go_ret
      exact ⟨rfl, HX.out, HM.out.apart, HM.out.low, HM.out.thaw⟩
set_option maxRecDepth 100000 in
set_option maxHeartbeats 4000000 in
theorem heldHeaderS_any (w : World) (g off cap n k : Nat) (hn2 : n ≤ 1048576) (hk0 : 1 ≤ k) (hk1 : k ≤ 100000000000000) (hi : HeadsAt w g off (mkHL k n)) :
    Calls Try.prog 20 #[.slice (some ⟨g, off, none⟩) n cap, .int .i64 (k : Int)] w fun e w' => e = .returned (.int .i64 ((k + 2 * n : Nat) : Int)) ∧ Below w.heap.size w w' := by
  have HI : Hid (HeadsAt w g off (mkHL k n)) := hi
  clear hi
  go_enter Try.func20, Try.ntmps20
  go_wp2_with fail
  go_loopw [1, 5] (fun x i wr => ∃ (j : Nat), j ≤ n ∧ i = .int .i64 (j : Int) ∧ x = .int .i64 ((k + 2 * j : Nat) : Int) ∧ Below w.heap.size w wr) (fun _ i _ => n - (intOf i).toNat)
  case atStart => exact ⟨0, Nat.zero_le _, rfl, rfl, Below.refl _ _⟩
  case round =>
    obtain ⟨j, hj, rfl, rfl, hb⟩ := hrel
    have KB : Hid (Below w.heap.size w wr) := hb
    clear hb
    by_cases hlt : j < n
    · obtain ⟨p1, p3⟩ := (HI.out.keep KB.out) j _ (mkHL_get hlt)
      have q1 : wr.cell? ⟨g, off + j * 2, none⟩ = some (.string (mkT (k + 2 * j))) := p1
      have q3 : wr.cell? ⟨g, off + j * 2 + 1, none⟩ = some (.string (mkT (k + 2 * j + 1))) := p3
      clear p1 p3
      have g0 : (0 : Int) ≤ j := by omega
      have g1 : (j : Int) < n := by omega
      have HT1 : Hid (∀ w, Calls Try.prog 24 #[.int .i64 ((k : Int) + 2 * j)] w fun e w' => e = .returned (.string (mkT (k + 2 * j))) ∧ Below w.heap.size w w') := by
        have := markText_any (k + 2 * j) (by omega) (by omega)
        rw [show ((k + 2 * j : Nat) : Int) = (k : Int) + 2 * j by omega] at this
        exact this
      have HT2 : Hid (∀ w, Calls Try.prog 24 #[.int .i64 ((k : Int) + 2 * j + 1)] w fun e w' => e = .returned (.string (mkT (k + 2 * j + 1))) ∧ Below w.heap.size w w') := by
        have := markText_any (k + 2 * j + 1) (by omega) (by omega)
        rw [show ((k + 2 * j + 1 : Nat) : Int) = (k : Int) + 2 * j + 1 by omega] at this
        exact this
      have KC : Hid (wr.cell? ⟨g, off + j * 2 + 1, none⟩ = some (.string (mkT (k + 2 * j + 1)))) := q3
      clear q3
      generalize mkT (k + 2 * j) = t1 at *
      generalize mkT (k + 2 * j + 1) = t2 at *
      have x1 := cell_regrown q1
      clear q1
      have cE : ∀ d os, Calls Try.prog 24 #[.int .i64 ((k : Int) + 2 * j)] (grow (redrawn wr d) os) fun e w'' => e = .returned (.string t1) ∧ ∃ p : Regrown, w'' = grow (redrawn wr p.d) p.os := fun d os => Calls.regrown_of (HT1.out _)
      go_wp2_with fail
      refine wp_region_quiet_below (by kernel_rfl) (by kernel_rfl) ?_
      repeat (go_big_quiet_step ((go_at_call 24; exact cE _ _)))
      refine wpQuiet_nil ?_
      intro w2 hw2
      have hb2 : Below wr.heap.size wr w2 := by
        obtain ⟨⟨d, os⟩, rfl⟩ := hw2
        exact below_regrown wr d os
      have KB2 : Hid (Below w.heap.size w w2) := KB.out.trans (hb2.mono KB.out.size)
      have y3 : w2.cell? ⟨g, off + j * 2 + 1, none⟩ = some (.string t2) := by rw [hb2.cell (block_lt_of_cell KC.out), KC.out]
      have x3 := cell_regrown y3
      clear x1 cE hw2 hb2 KB KC y3
      have cF : ∀ d os, Calls Try.prog 24 #[.int .i64 ((k : Int) + 2 * j + 1)] (grow (redrawn w2 d) os) fun e w'' => e = .returned (.string t2) ∧ ∃ p : Regrown, w'' = grow (redrawn w2 p.d) p.os := fun d os => Calls.regrown_of (HT2.out _)
      go_wp2_with fail
      refine wp_region_quiet_below (by kernel_rfl) (by kernel_rfl) ?_
      repeat (go_big_quiet_step ((go_at_call 24; exact cF _ _)))
      refine wpQuiet_nil ?_
      intro w3 hw3
      have KB3 : Hid (Below w.heap.size w w3) := by
        obtain ⟨⟨d, os⟩, rfl⟩ := hw3
        exact KB2.out.trans ((below_regrown w2 d os).mono KB2.out.size)
      clear x3 cF hw3 KB2
      go_wp2_with fail
      go_roundw
      case rel => exact ⟨j + 1, by omega, by go_num, by congr 1, KB3.out⟩
      case measure => simp [intOf]; omega
    · obtain rfl : j = n := by omega
      go_wp2_with fail
      go_ret
      exact ⟨rfl, KB.out⟩
end Go.Proofs.Ytjdkkfbijneedaa
