/-
  IsTagged, on both sides, and its law.
-/
import Derived.Test.YtbandckkgdnlpaaTextRows
namespace Go.Proofs.Ytbandckkgdnlpaa
open Go.ChangeShapes Go.WideShapes Go.ChangeAt Go.RowKit
theorem tag_ne {a b : ByteArray} (h : a ≠ b) : (a.toList == b.toList) = false := by
  rw [beq_eq_false_iff_ne]
  intro e
  rw [ByteArray.toList_eq, ByteArray.toList_eq] at e
  exact h (ByteArray.ext (Array.ext' e))
def tagB (l : List ByteArray) (t : ByteArray) : Bool := l.any fun x => decide (x = t)
theorem tagB_yes {l : List ByteArray} {k : Nat} {t : ByteArray} (h : l[k]? = some t) : tagB l t = true :=
  List.any_eq_true.2 ⟨t, List.mem_of_getElem? h, by simp⟩
theorem tagB_no {l : List ByteArray} {t : ByteArray} (h : ∀ (j : Nat) x, l[j]? = some x → x ≠ t) : tagB l t = false := by
  rw [← Bool.not_eq_true]
  intro e
  obtain ⟨x, hx, hd⟩ := List.any_eq_true.1 e
  obtain ⟨j, hj⟩ := List.getElem?_of_mem hx
  exact h j x hj (by simpa using hd)
theorem tret_bool {a b : Bool} (h : a = b) : Ending.returned (.bool a) = Ending.returned (.bool b) := by rw [h]
theorem tret_int {a b : Int} (h : a = b) : Ending.returned (.int .i64 a) = Ending.returned (.int .i64 b) := by rw [h]
set_option maxHeartbeats 2000000 in
theorem specTagged_any (w : World) (a : Option Addr) (cap : Nat) (l : List ByteArray) (t : ByteArray) (hl : l.length ≤ 1048576) (hi : TIn w a l) :
    Calls Try.prog 13 #[.slice a l.length cap, .string t] w fun e w' => e = .returned (.bool (tagB l t)) ∧ w' = w := by
  have HI : Hid (TIn w a l) := hi
  clear hi
  generalize hnn : l.length = n at *
  have HN : Hid (l.length = n) := hnn
  clear hnn
  go_enter Try.func13, Try.ntmps13
  go_wp2_with fail
  go_loopw [5] (fun i wr => ∃ k : Nat, k ≤ n ∧ i = .int .i64 k ∧ (∀ (j : Nat) x, j < k → l[j]? = some x → x ≠ t) ∧ wr = w) (fun i _ => n - (intOf i).toNat)
  case atStart => exact ⟨0, Nat.zero_le _, rfl, fun j x hj _ => absurd hj (by omega), rfl⟩
  case round =>
    obtain ⟨k, hk, rfl, hw, rfl⟩ := hrel
    have HW : Hid (∀ (j : Nat) x, j < k → l[j]? = some x → x ≠ t) := hw
    clear hw
    by_cases hlt : k < n
    · obtain ⟨x, hx⟩ : ∃ r, l[k]? = some r := ⟨l[k]'(by have := HN.out; omega), List.getElem?_eq_getElem _⟩
      rcases HI.out with h | ⟨b, off, rfl, hat⟩
      · subst h; simp at hx
      have p1 := hat k x hx
      have HX : Hid (l[k]? = some x) := hx
      have gk : (k : Int) < n := by omega
      clear hx hat
      by_cases e : x = t
      · subst e
        have HE : Hid (tagB l x = true) := tagB_yes HX.out
        have hbe : (x.toList == x.toList) = true := by simp
        go_wp2_with fail
        go_ret
        exact ⟨tret_bool HE.out.symm, rfl⟩
      · have hbe := tag_ne e
        have HXE : Hid (x ≠ t) := e
        clear e
        go_wp2_with fail
        go_roundw
        case rel =>
          refine ⟨k + 1, by omega, by go_num, fun j y hj hy => ?_, by trivial⟩
          by_cases e : j = k
          · subst e
            rw [HX.out] at hy
            obtain rfl := Option.some.inj hy
            exact HXE.out
          · exact HW.out j y (by omega) hy
        case measure => simp [intOf]; omega
    · have HE : Hid (tagB l t = false) := tagB_no fun j x hx => HW.out j x (by have := (List.getElem?_eq_some_iff.1 hx).1; have := HN.out; omega) hx
      go_wp2_with fail
      go_ret
      exact ⟨tret_bool HE.out.symm, rfl⟩
/-- Where a text stands first, or -1. -/
def TagAt (l : List ByteArray) (t : ByteArray) (e : Ending) : Prop := ∃ i : Int, e = .returned (.int .i64 i) ∧ -1 ≤ i ∧ decide (0 ≤ i) = tagB l t
set_option maxHeartbeats 2000000 in
theorem slicesIndex_any (w : World) (a : Option Addr) (cap : Nat) (l : List ByteArray) (t : ByteArray) (hl : l.length ≤ 1048576) (hi : TIn w a l) :
    Calls Try.prog 23 #[.slice a l.length cap, .string t] w fun e w' => TagAt l t e ∧ w' = w := by
  have HI : Hid (TIn w a l) := hi
  clear hi
  generalize hnn : l.length = n at *
  have HN : Hid (l.length = n) := hnn
  clear hnn
  go_enter Try.func23, Try.ntmps23
  go_wp2_with fail
  go_loopw [8] (fun i wr => ∃ k : Nat, k ≤ n ∧ i = .int .i64 k ∧ (∀ (j : Nat) x, j < k → l[j]? = some x → x ≠ t) ∧ wr = w) (fun i _ => n - (intOf i).toNat)
  case atStart => exact ⟨0, Nat.zero_le _, rfl, fun j x hj _ => absurd hj (by omega), rfl⟩
  case round =>
    obtain ⟨k, hk, rfl, hw, rfl⟩ := hrel
    have HW : Hid (∀ (j : Nat) x, j < k → l[j]? = some x → x ≠ t) := hw
    clear hw
    by_cases hlt : k < n
    · obtain ⟨x, hx⟩ : ∃ r, l[k]? = some r := ⟨l[k]'(by have := HN.out; omega), List.getElem?_eq_getElem _⟩
      rcases HI.out with h | ⟨b, off, rfl, hat⟩
      · subst h; simp at hx
      have p1 := hat k x hx
      have HX : Hid (l[k]? = some x) := hx
      have gk : (k : Int) < n := by omega
      clear hx hat
      by_cases e : x = t
      · subst e
        have HE : Hid (tagB l x = true) := tagB_yes HX.out
        have hbe : (x.toList == x.toList) = true := by simp
        go_wp2_with fail
        go_ret
        exact ⟨⟨_, rfl, by omega, by rw [HE.out]; simp⟩, rfl⟩
      · have hbe := tag_ne (Ne.symm e)
        have HXE : Hid (x ≠ t) := e
        clear e
        go_wp2_with fail
        go_roundw
        case rel =>
          refine ⟨k + 1, by omega, by go_num, fun j y hj hy => ?_, by trivial⟩
          by_cases e : j = k
          · subst e
            rw [HX.out] at hy
            obtain rfl := Option.some.inj hy
            exact HXE.out
          · exact HW.out j y (by omega) hy
        case measure => simp [intOf]; omega
    · have HE : Hid (tagB l t = false) := tagB_no fun j x hx => HW.out j x (by have := (List.getElem?_eq_some_iff.1 hx).1; have := HN.out; omega) hx
      go_wp2_with fail
      go_ret
      exact ⟨⟨-1, rfl, by omega, by rw [HE.out]; simp⟩, rfl⟩
set_option maxHeartbeats 1000000 in
theorem implTagged_any (w : World) (a : Option Addr) (cap : Nat) (l : List ByteArray) (t : ByteArray) (hl : l.length ≤ 1048576) (hi : TIn w a l) :
    Calls Try.prog 15 #[.slice a l.length cap, .string t] w fun e w' => e = .returned (.bool (tagB l t)) ∧ w' = w := by
  have HI : Hid (Calls Try.prog 23 #[.slice a l.length cap, .string t] w fun e w' => TagAt l t e ∧ w' = w) := slicesIndex_any w a cap l t hl hi
  have HC : Hid (Calls Try.prog 22 #[.slice a l.length cap, .string t] w fun e w' => e = .returned (.bool (tagB l t)) ∧ w' = w) := by
    clear hi
    generalize l.length = n at *
    show Calls _ _ _ _ _
    go_enter Try.func22, Try.ntmps22
    go_wp2_with fail
    refine HI.out.mono ?_
    rintro e w1 ⟨⟨i, rfl, _, hi⟩, rfl⟩
    have HD : Hid (decide (0 ≤ i) = tagB l t) := hi
    clear hi
    go_wp2_with fail
    go_ret
    exact ⟨tret_bool HD.out, rfl⟩
  clear hi HI
  generalize l.length = n at *
  go_enter Try.func15, Try.ntmps15
  go_wp2_with fail
  refine HC.out.mono ?_
  rintro e w1 ⟨rfl, rfl⟩
  go_wp2_with fail
  go_ret
  exact ⟨rfl, rfl⟩
end Go.Proofs.Ytbandckkgdnlpaa
