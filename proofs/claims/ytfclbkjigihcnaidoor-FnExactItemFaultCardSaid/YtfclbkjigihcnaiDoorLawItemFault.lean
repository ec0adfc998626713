/-
  The law of ItemFault.
-/
import Derived.Test.YtfclbkjigihcnaiDoorItemFaultImpl
namespace Go.Proofs.YtfclbkjigihcnaiDoor
open Go.ChangeShapes Go.WideShapes Go.ChangeAt Go.RowKit
theorem item_keep {w w1 : World} {n : ByteArray} {h : Bool} {v : ByteArray} {b : Nat} (hb : Below w.heap.size w w1) (hc : w.cell? ⟨b, 0, none⟩ = some (.string n) ∧ w.cell? ⟨b, 1, none⟩ = some (.bool h) ∧ w.cell? ⟨b, 2, none⟩ = some (.string v)) :
    w1.cell? ⟨b, 0, none⟩ = some (.string n) ∧ w1.cell? ⟨b, 1, none⟩ = some (.bool h) ∧ w1.cell? ⟨b, 2, none⟩ = some (.string v) :=
  ⟨by rw [hb.cell (block_lt_of_cell hc.1)]; exact hc.1, by rw [hb.cell (block_lt_of_cell hc.2.1)]; exact hc.2.1, by rw [hb.cell (block_lt_of_cell hc.2.2)]; exact hc.2.2⟩
set_option maxHeartbeats 1000000 in
theorem lawItemFault (r : Rec) (w : World) (hset : SetIs w) (z1 : r.name.size ≤ maxLen) (z2 : r.value.size ≤ maxLen) :
    Calls Tryd.prog 3 #[.agg #[.string r.name, .bool r.has, .string r.value]] w fun e w' => e = .returned (.bool true) ∧ Below w.heap.size w w' := by
  have HZ : Hid (∀ w, Calls Tryd.prog 7 #[.agg #[.string r.name, .bool r.has, .string r.value], .int .i64 1048576] w fun e w' => e = .returned (.int .i64 (szR 1048576 r)) ∧ Below w.heap.size w w') := fun w => szItem_any r 1048576 w (by omega) (by omega) z1 z2
  have HT : Hid (∀ w, Calls Tryd.prog 9 #[.agg #[.string r.name, .bool r.has, .string r.value]] w fun e w' => e = .returned (.agg #[.string r.name, .bool r.has, .string r.value]) ∧ Below w.heap.size w w') := fun w => toItem_any r w
  have HS : Hid (∀ w, Calls Tryd.prog 8 #[.agg #[.string r.name, .bool r.has, .string r.value]] w fun e w' => e = .returned (.int .i64 (faultR r)) ∧ Below w.heap.size w w') := fun w => specFault_any r w
  have HI : Hid (∀ w, SetIs w → Calls Tryd.prog 10 #[.agg #[.string r.name, .bool r.has, .string r.value]] w fun e w' => e = .returned (.int .i64 (faultR r)) ∧ Below w.heap.size w w') := fun w h => implFault_any r w h
  have H0 : Hid (SetIs w) := hset
  generalize szR 1048576 r = z at *
  generalize faultR r = f at *
  obtain ⟨n, h, v⟩ := r
  simp only at HZ HT HS HI ⊢
  clear hset z1 z2
  go_enter Tryd.func3, Tryd.ntmps3
  go_wp2_with fail
  refine (HZ.out _).mono ?_
  rintro e w1 ⟨rfl, hb1⟩
  obtain ⟨hz1, p0, p1, p2, kb1⟩ := item_room hb1
  clear hb1
  by_cases c : z < 0
  · go_wp2_with fail
    go_ret
    exact ⟨rfl, kb1⟩
  go_wp2_with fail
  refine (HT.out _).mono ?_
  rintro e w2 ⟨rfl, hb2⟩
  obtain ⟨p0, p1, p2⟩ := item_keep hb2 ⟨p0, p1, p2⟩
  have kb2 := kb1.trans (hb2.mono kb1.size)
  clear hb2 kb1
  go_wp2_with fail
  refine (HS.out _).mono ?_
  rintro e w3 ⟨rfl, hb3⟩
  obtain ⟨p0, p1, p2⟩ := item_keep hb3 ⟨p0, p1, p2⟩
  have kb3 := kb2.trans (hb3.mono kb2.size)
  clear hb3 kb2
  go_wp2_with fail
  refine (HT.out _).mono ?_
  rintro e w4 ⟨rfl, hb4⟩
  have kb4 := kb3.trans (hb4.mono kb3.size)
  clear hb4 kb3
  go_wp2_with fail
  refine (HI.out _ (H0.out.below kb4)).mono ?_
  rintro e w5 ⟨rfl, hb5⟩
  have kb5 := kb4.trans (hb5.mono kb4.size)
  clear hb5 kb4
  go_wp2_with fail
  go_ret
  exact ⟨rfl, kb5⟩
end Go.Proofs.YtfclbkjigihcnaiDoor
