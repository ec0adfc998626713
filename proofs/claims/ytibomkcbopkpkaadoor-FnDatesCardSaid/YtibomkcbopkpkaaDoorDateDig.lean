/-
  digitsIn and monthIn: what they read, or that they die.
-/
import Derived.Test.YtibomkcbopkpkaaDoorDeltaI
import Derived.Test.YtibomkcbopkpkaaDoorDateClock
namespace Go.Proofs.YtibomkcbopkpkaaDoor
open Go.ChangeShapes Go.WideShapes Go.ChangeAt Go.RowKit Go.Sort
/-- A call that dies of a value that is not nil. -/
def Dies (e : Ending) : Prop := ∃ u pv, e = .panicked [{ v := .iface u pv, recovered := false }]
theorem str_neB {a b : ByteArray} (h : a ≠ b) : (a.toList == b.toList) = false := by
  rw [beq_eq_false_iff_ne]
  intro e
  rw [ByteArray.toList_eq, ByteArray.toList_eq] at e
  exact h (ByteArray.ext (Array.ext' e))
set_option maxHeartbeats 1000000 in
theorem digitsIn_yes (t : ByteArray) (w : World) (h : okD t = true) :
    Calls Tryd.prog 132 #[.string t] w fun e w' => e = .returned (.int .i64 (numD t)) ∧ Below w.heap.size w w' := by
  have H := implDelta t w
  rw [dC_yes h, dV_yes h] at H
  rw [numD_yes t h]
  clear h
  generalize valD t.data.toList = v at *
  go_enter Tryd.func132, Tryd.ntmps132
  go_wp2_with fail
  refine H.mono ?_
  rintro e w1 ⟨rfl, hb⟩
  have KB : Hid (Below w.heap.size w w1) := hb
  clear hb H
  go_wp2_with fail
  go_ret
  exact ⟨rfl, KB.out.alloc KB.out.size _⟩
set_option maxHeartbeats 1000000 in
theorem digitsIn_no (t : ByteArray) (w : World) (h : okD t = false) :
    Calls Tryd.prog 132 #[.string t] w fun e w' => Dies e ∧ Below w.heap.size w w' := by
  have H := implDelta t w
  rw [dC_no h, dV_no h] at H
  clear h
  go_enter Tryd.func132, Tryd.ntmps132
  go_wp2_with fail
  refine H.mono ?_
  rintro e w1 ⟨rfl, hb⟩
  have KB : Hid (Below w.heap.size w w1) := hb
  clear hb H
  go_wp2_with fail
  exact ⟨rfl, ⟨_, _, rfl⟩, KB.out.alloc KB.out.size _⟩
/-- What monthIn does with a name. -/
def MonthOr (name : ByteArray) (e : Ending) : Prop := (∃ k : Int, 1 ≤ k ∧ k ≤ 12 ∧ moT k = name ∧ e = .returned (.int .i64 k)) ∨ (Dies e ∧ ∀ j : Int, 1 ≤ j → j ≤ 12 → moT j ≠ name)
set_option maxHeartbeats 2000000 in
theorem monthIn_any (name : ByteArray) (w : World) :
    Calls Tryd.prog 133 #[.string name] w fun e w' => MonthOr name e ∧ w' = w := by
  have HM : Hid (∀ p w, 0 ≤ p → p ≤ 11 → Calls Tryd.prog 101 #[.string monNames, .int .i64 p] w fun e w' => e = .returned (.string (moT (p + 1))) ∧ w' = w) := fun p w a b => nameAt_mon p a b w
  unfold monNames at HM
  go_enter Tryd.func133, Tryd.ntmps133
  go_wp2
  go_loop [3] (fun x => ∃ k : Int, 1 ≤ k ∧ k ≤ 13 ∧ x = .int .i64 k ∧ ∀ j : Int, 1 ≤ j → j < k → moT j ≠ name) (fun x => (13 - intOf x).toNat)
  case atStart => exact ⟨1, by omega, by omega, rfl, fun j h1 h2 => by omega⟩
  case round =>
    obtain ⟨k, hk0, hk1, rfl, hno⟩ := hrel
    have HNO : Hid (∀ j : Int, 1 ≤ j → j < k → moT j ≠ name) := hno
    clear hno
    by_cases hlt : k ≤ 12
    · go_wp2_with fail
      refine (HM.out (k - 1) _ (by omega) (by omega)).mono ?_
      rintro e w1 ⟨rfl, rfl⟩
      rw [show k - 1 + 1 = k by omega]
      by_cases heq : moT k = name
      · have HQ : Hid (moT k = name) := heq
        rw [heq]
        clear heq
        go_wp2_with fail
        go_ret
        exact ⟨.inl ⟨k, hk0, hlt, HQ.out, rfl⟩, rfl⟩
      · have HQ : Hid (moT k ≠ name) := heq
        have hne := str_neB heq
        clear heq
        obtain ⟨q, hq⟩ : ∃ q, Hid (moT k = q) := ⟨_, rfl⟩
        rw [hq.out] at hne ⊢
        go_wp2_with fail
        go_round
        case rel => exact ⟨k + 1, by omega, by omega, by go_num, fun j h1 h2 => by
          by_cases hj : j = k
          · subst hj; exact HQ.out
          · exact HNO.out j h1 (by omega)⟩
        case measure => simp [intOf]; omega
    · obtain rfl : k = 13 := by omega
      go_wp2_with fail
      exact ⟨rfl, .inr ⟨⟨_, _, rfl⟩, fun j h1 h2 => HNO.out j h1 (by omega)⟩, rfl⟩
end Go.Proofs.YtibomkcbopkpkaaDoor
