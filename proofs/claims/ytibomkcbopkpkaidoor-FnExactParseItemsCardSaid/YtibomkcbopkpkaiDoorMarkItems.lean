/-
  markItemS and heldItemS.
-/
import Derived.Test.YtibomkcbopkpkaiDoorMarks
namespace Go.Proofs.YtibomkcbopkpkaiDoor
open Go.ChangeShapes Go.WideShapes Go.ChangeAt Go.RowKit Go.Sort
set_option maxRecDepth 100000 in
set_option maxHeartbeats 4000000 in
theorem markItemS_any (w : World) (g off cap n k : Nat) (l : List Rec) (hn : l.length = n) (hn2 : n ≤ 1000) (hk0 : 1 ≤ k) (hk1 : k ≤ 1000) (hi : ItemsAt w g off l) (hf : ∀ o, w.frozen? ⟨g, o, none⟩ = false) (hg : g < w.heap.size) :
    Calls Tryd.prog 31 #[.slice (some ⟨g, off, none⟩) n cap, .int .i64 (k : Int)] w fun e w' => e = .returned (.int .i64 ((k + 3 * n : Nat) : Int)) ∧ ItemsAt w' g off (mkL k n) ∧ Apart g w w' ∧ Below g w w' ∧ ∀ o, w'.frozen? ⟨g, o, none⟩ = false := by
  have HST : Hid (Marked w g off k n 0 l w) := ⟨hn, fun i h => by omega, hi, hf, .refl _ _, Below.refl _ _, hg⟩
  clear hi hf hg hn
  go_enter Tryd.func31, Tryd.ntmps31
  go_wp2_with fail
  go_loopw [1, 5] (fun x i wr => ∃ (j : Nat) (L : List Rec), j ≤ n ∧ i = .int .i64 (j : Int) ∧ x = .int .i64 ((k + 3 * j : Nat) : Int) ∧ Marked w g off k n j L wr) (fun _ i _ => n - (intOf i).toNat)
  case atStart => exact ⟨0, l, Nat.zero_le _, rfl, rfl, HST.out⟩
  case round =>
    obtain ⟨j, L, hj, rfl, rfl, hm⟩ := hrel
    have HM : Hid (Marked w g off k n j L wr) := hm
    clear hm HST
    by_cases hlt : j < n
    · obtain ⟨r, hr⟩ : ∃ r, L[j]? = some r := ⟨L[j]'(by have := HM.out.len; omega), List.getElem?_eq_getElem _⟩
      have HR : Hid (L[j]? = some r) := hr
      clear hr
      have g0 : (0 : Int) ≤ j := by omega
      have g1 : (j : Int) < n := by omega
      have HT1 : Hid (∀ w, Calls Tryd.prog 51 #[.int .i64 ((k + 3 * j : Nat) : Int)] w fun e w' => e = .returned (.string (mkT (k + 3 * j))) ∧ Below w.heap.size w w') := markText_any (k + 3 * j) (by omega) (by omega)
      go_wp2_with fail
      refine (HT1.out _).mono ?_
      rintro e w1 ⟨rfl, hb1⟩
      have HM1 : Hid (Marked w g off k n j L w1) := HM.out.below hb1
      clear hb1 HM
      obtain ⟨p1, p2, p3⟩ := HM1.out.items j r HR.out
      have f1 := HM1.out.thaw (off + j * 3)
      have f2 := HM1.out.thaw (off + j * 3 + 1)
      have HT2 : Hid (∀ w, Calls Tryd.prog 51 #[.int .i64 ((k : Int) + 3 * j + 1 + 1)] w fun e w' => e = .returned (.string (mkT (k + 3 * j + 2))) ∧ Below w.heap.size w w') := by
        have := markText_any (k + 3 * j + 2) (by omega) (by omega)
        rw [show ((k + 3 * j + 2 : Nat) : Int) = (k : Int) + 3 * j + 1 + 1 by omega] at this
        exact this
      have HBo : Hid ((((k : Int) + 3 * j + 1) % 3 == 0) = decide ((k + 3 * j + 1) % 3 = 0)) := by
        show _ = _
        rw [Bool.eq_iff_iff]
        simp
        omega
      have hl : Hid (j < L.length) := (List.getElem?_eq_some_iff.1 HR.out).1
      have HM2 := HM1.out.set (L' := L.set j { r with name := mkT (k + 3 * j) }) (by simp) (fun i hi => by rw [List.getElem?_set_ne (by omega)]) (put_name HM1.out.items HR.out (mkT (k + 3 * j)))
      have hr2 : (L.set j { r with name := mkT (k + 3 * j) })[j]? = some { r with name := mkT (k + 3 * j) } := List.getElem?_set_self hl.out
      have HM3 := HM2.set (L' := (L.set j { r with name := mkT (k + 3 * j) }).set j { r with name := mkT (k + 3 * j), has := (((k : Int) + 3 * j + 1) % 3 == 0) }) (by simp) (fun i hi => by rw [List.getElem?_set_ne (by omega)]) (put_has HM2.items hr2 (((k : Int) + 3 * j + 1) % 3 == 0))
      have HM4 : Hid _ := HM3
      clear HM2 HM3 hr2 HM1
      go_wp2_with fail
      refine (HT2.out _).mono ?_
      rintro e w2 ⟨rfl, hb2⟩
      have HM5 : Hid (Marked w g off k n j ((L.set j { r with name := mkT (k + 3 * j) }).set j { r with name := mkT (k + 3 * j), has := (((k : Int) + 3 * j + 1) % 3 == 0) }) w2) := HM4.out.below hb2
      clear hb2 HM4 p1 p2 p3 f1 f2
      have hr5 : ((L.set j { r with name := mkT (k + 3 * j) }).set j { r with name := mkT (k + 3 * j), has := (((k : Int) + 3 * j + 1) % 3 == 0) })[j]? = some { r with name := mkT (k + 3 * j), has := (((k : Int) + 3 * j + 1) % 3 == 0) } := List.getElem?_set_self (by simpa using hl.out)
      obtain ⟨p1, p2, p3⟩ := HM5.out.items j _ hr5
      have f3 := HM5.out.thaw (off + j * 3 + 2)
      have HM6 := HM5.out.set (L' := ((L.set j { r with name := mkT (k + 3 * j) }).set j { r with name := mkT (k + 3 * j), has := (((k : Int) + 3 * j + 1) % 3 == 0) }).set j (mkR k j)) (by simp) (fun i hi => by rw [List.getElem?_set_ne (by omega)]) (by
        have := put_value HM5.out.items hr5 (mkT (k + 3 * j + 2))
        have e : mkR k j = { name := mkT (k + 3 * j), has := (((k : Int) + 3 * j + 1) % 3 == 0), value := mkT (k + 3 * j + 2) } := by
          unfold mkR
          rw [HBo.out]
        rw [e]
        exact this)
      have HM7 : Hid _ := HM6
      clear HM6 hr5 HM5
      go_wp2_with fail
      go_roundw
      case rel => exact ⟨j + 1, _, by omega, by go_num, by congr 1, HM7.out.len, fun i hi => by
        by_cases e : i = j
        · subst e; exact List.getElem?_set_self (by simpa using hl.out)
        · exact HM7.out.done i (by omega), HM7.out.items, HM7.out.thaw, HM7.out.apart, HM7.out.low, HM7.out.lt⟩
      case measure => simp [intOf]; omega
    · obtain rfl : j = n := by omega
      go_wp2_with fail
      go_ret
      refine ⟨rfl, ?_, HM.out.apart, HM.out.low, HM.out.thaw⟩
      have e : L = mkL k j := by
        apply List.ext_getElem?
        intro i
        by_cases hi : i < j
        · rw [HM.out.done i hi, mkL_get hi]
        · rw [List.getElem?_eq_none (by rw [HM.out.len]; omega), List.getElem?_eq_none (by rw [mkL_len]; omega)]
      rw [← e]
      exact HM.out.items
set_option maxRecDepth 100000 in
set_option maxHeartbeats 4000000 in
theorem heldItemS_any (w : World) (g off cap n k : Nat) (hn2 : n ≤ 1000) (hk0 : 1 ≤ k) (hk1 : k ≤ 1000) (hi : ItemsAt w g off (mkL k n)) :
    Calls Tryd.prog 32 #[.slice (some ⟨g, off, none⟩) n cap, .int .i64 (k : Int)] w fun e w' => e = .returned (.int .i64 ((k + 3 * n : Nat) : Int)) ∧ Below w.heap.size w w' := by
  have HI : Hid (ItemsAt w g off (mkL k n)) := hi
  clear hi
  go_enter Tryd.func32, Tryd.ntmps32
  go_wp2_with fail
  go_loopw [1, 5] (fun x i wr => ∃ (j : Nat), j ≤ n ∧ i = .int .i64 (j : Int) ∧ x = .int .i64 ((k + 3 * j : Nat) : Int) ∧ Below w.heap.size w wr) (fun _ i _ => n - (intOf i).toNat)
  case atStart => exact ⟨0, Nat.zero_le _, rfl, rfl, Below.refl _ _⟩
  case round =>
    obtain ⟨j, hj, rfl, rfl, hb⟩ := hrel
    have KB : Hid (Below w.heap.size w wr) := hb
    clear hb
    by_cases hlt : j < n
    · obtain ⟨p1, p2, p3⟩ := (HI.out.keep KB.out) j _ (mkL_get hlt)
      have HBo : (((k : Int) + 3 * j + 1) % 3 == 0) = decide ((k + 3 * j + 1) % 3 = 0) := by
        rw [Bool.eq_iff_iff]
        simp
        omega
      have q2 : wr.cell? ⟨g, off + j * 3 + 1, none⟩ = some (.bool (((k : Int) + 3 * j + 1) % 3 == 0)) := by rw [p2, HBo]; rfl
      have q1 : wr.cell? ⟨g, off + j * 3, none⟩ = some (.string (mkT (k + 3 * j))) := p1
      have q3 : wr.cell? ⟨g, off + j * 3 + 2, none⟩ = some (.string (mkT (k + 3 * j + 2))) := p3
      clear p1 p2 p3 HBo
      have g0 : (0 : Int) ≤ j := by omega
      have g1 : (j : Int) < n := by omega
      have HT1 : Hid (∀ w, Calls Tryd.prog 51 #[.int .i64 ((k : Int) + 3 * j)] w fun e w' => e = .returned (.string (mkT (k + 3 * j))) ∧ Below w.heap.size w w') := by
        have := markText_any (k + 3 * j) (by omega) (by omega)
        rw [show ((k + 3 * j : Nat) : Int) = (k : Int) + 3 * j by omega] at this
        exact this
      have HT2 : Hid (∀ w, Calls Tryd.prog 51 #[.int .i64 ((k : Int) + 3 * j + 1 + 1)] w fun e w' => e = .returned (.string (mkT (k + 3 * j + 2))) ∧ Below w.heap.size w w') := by
        have := markText_any (k + 3 * j + 2) (by omega) (by omega)
        rw [show ((k + 3 * j + 2 : Nat) : Int) = (k : Int) + 3 * j + 1 + 1 by omega] at this
        exact this
      have KC : Hid (wr.cell? ⟨g, off + j * 3 + 1, none⟩ = some (.bool (((k : Int) + 3 * j + 1) % 3 == 0)) ∧ wr.cell? ⟨g, off + j * 3 + 2, none⟩ = some (.string (mkT (k + 3 * j + 2)))) := ⟨q2, q3⟩
      clear q2 q3
      generalize mkT (k + 3 * j) = t1 at *
      generalize mkT (k + 3 * j + 2) = t2 at *
      have x1 := cell_regrown q1
      clear q1
      have cE : ∀ d os, Calls Tryd.prog 51 #[.int .i64 ((k : Int) + 3 * j)] (grow (redrawn wr d) os) fun e w'' => e = .returned (.string t1) ∧ ∃ p : Regrown, w'' = grow (redrawn wr p.d) p.os := fun d os => Calls.regrown_of (HT1.out _)
      go_wp2_with fail
      refine wp_region_quiet_below (by kernel_rfl) (by kernel_rfl) ?_
      repeat (go_big_quiet_step ((go_at_call 51; exact cE _ _)))
      refine wpQuiet_nil ?_
      intro w2 hw2
      have hb2 : Below wr.heap.size wr w2 := by
        obtain ⟨⟨d, os⟩, rfl⟩ := hw2
        exact below_regrown wr d os
      have KB2 : Hid (Below w.heap.size w w2) := KB.out.trans (hb2.mono KB.out.size)
      have y2 : w2.cell? ⟨g, off + j * 3 + 1, none⟩ = some (.bool (((k : Int) + 3 * j + 1) % 3 == 0)) := by rw [hb2.cell (block_lt_of_cell KC.out.1), KC.out.1]
      have y3 : w2.cell? ⟨g, off + j * 3 + 2, none⟩ = some (.string t2) := by rw [hb2.cell (block_lt_of_cell KC.out.2), KC.out.2]
      have x3 := cell_regrown y3
      clear x1 cE hw2 hb2 KB KC y3
      have cF : ∀ d os, Calls Tryd.prog 51 #[.int .i64 ((k : Int) + 3 * j + 1 + 1)] (grow (redrawn w2 d) os) fun e w'' => e = .returned (.string t2) ∧ ∃ p : Regrown, w'' = grow (redrawn w2 p.d) p.os := fun d os => Calls.regrown_of (HT2.out _)
      go_wp2_with fail
      refine wp_region_quiet_below (by kernel_rfl) (by kernel_rfl) ?_
      repeat (go_big_quiet_step ((go_at_call 51; exact cF _ _)))
      refine wpQuiet_nil ?_
      intro w3 hw3
      have KB3 : Hid (Below w.heap.size w w3) := by
        obtain ⟨⟨d, os⟩, rfl⟩ := hw3
        exact KB2.out.trans ((below_regrown w2 d os).mono KB2.out.size)
      clear x3 cF hw3 KB2 y2
      go_wp2_with fail
      go_roundw
      case rel => exact ⟨j + 1, by omega, by go_num, by congr 1, KB3.out⟩
      case measure => simp [intOf]; omega
    · obtain rfl : j = n := by omega
      go_wp2_with fail
      go_ret
      exact ⟨rfl, KB.out⟩
end Go.Proofs.YtibomkcbopkpkaiDoor
