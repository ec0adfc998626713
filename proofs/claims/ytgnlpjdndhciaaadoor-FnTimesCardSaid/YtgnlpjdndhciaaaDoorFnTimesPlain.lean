/-
  Sums and products that stay at their greatest; numbers read back from their digits: plainly.
-/
import Derived.Test.YtgnlpjdndhciaaaDoorDeltaI
import Derived.Test.YtgnlpjdndhciaaaDoorAddW
import Derived.Test.YtgnlpjdndhciaaaDoorMulW
import Derived.Test.YtgnlpjdndhciaaaDoorNumImpl
namespace Go.Proofs.YtgnlpjdndhciaaaDoor
open Go.RowKit
def badT (a b : Int) : Bool := decide (a < 0) || decide (1000000000000000 < a) || decide (b < 0) || decide (1000000000000000 < b)
def addV (a b : Int) : Int := if 1000000000000000 ≤ a + b then 1000000000000000 else a + b
def mulV (a b : Int) : Int := if 1000000000000000 < a * b then 1000000000000000 else a * b
theorem badT_comm (a b : Int) : badT b a = badT a b := by
  unfold badT
  cases decide (a < 0) <;> cases decide (1000000000000000 < a) <;> cases decide (b < 0) <;> cases decide (1000000000000000 < b) <;> rfl
theorem addV_comm (a b : Int) : addV b a = addV a b := by unfold addV; rw [Int.add_comm]
theorem mulV_comm (a b : Int) : mulV b a = mulV a b := by unfold mulV; rw [Int.mul_comm]
theorem badT_yes {a b : Int} (h : badT a b = true) : a < 0 ∨ 1000000000000000 < a ∨ b < 0 ∨ 1000000000000000 < b := by
  simp [badT] at h; omega
theorem badT_no {a b : Int} (h : badT a b = false) : 0 ≤ a ∧ a ≤ 1000000000000000 ∧ 0 ≤ b ∧ b ≤ 1000000000000000 := by
  simp [badT] at h; omega
abbrev IRes (f : FuncId) (args : Array Value) (c v : Int) : Prop := ∀ w, Calls Tryd.prog f args w fun e w' => e = .returned (.agg #[.int .i64 c, .int .i64 v]) ∧ Below w.heap.size w w'
theorem implAdd_no (a b : Int) (h : badT a b = false) : IRes 15 #[.int .i64 a, .int .i64 b] 0 (addV a b) := by
  obtain ⟨h0, h1, h2, h3⟩ := badT_no h
  intro w
  unfold addV
  split
  · exact implAdd_over a b h0 h1 h2 h3 (by assumption) w
  · exact implAdd_under a b h0 h1 h2 h3 (by omega) w
theorem specAdd_no (a b : Int) (h : badT a b = false) : IRes 21 #[.int .i64 a, .int .i64 b] 0 (addV a b) := by
  obtain ⟨h0, h1, h2, h3⟩ := badT_no h
  intro w
  unfold addV
  split
  · exact specAdd_over a b h0 h1 h2 h3 (by assumption) w
  · exact specAdd_under a b h0 h1 h2 h3 (by omega) w
theorem implMul_no (a b : Int) (h : badT a b = false) : IRes 16 #[.int .i64 a, .int .i64 b] 0 (mulV a b) := by
  obtain ⟨h0, h1, h2, h3⟩ := badT_no h
  intro w
  by_cases z : b = 0
  · subst z
    rw [show mulV a 0 = 0 from by simp [mulV]]
    exact implMul_zero a h0 h1 w
  · have hb : 0 < b := by omega
    have key : 1000000000000000 / b < a ↔ 1000000000000000 < a * b := Int.ediv_lt_iff_lt_mul hb
    unfold mulV
    split
    · exact implMul_over a b h0 h1 hb h3 (key.2 (by assumption)) w
    · rename_i hn
      exact implMul_under a b h0 h1 hb h3 (fun k => hn (key.1 k)) (Int.mul_nonneg h0 h2) (by omega) w
theorem specMul_no (a b : Int) (h : badT a b = false) : IRes 22 #[.int .i64 a, .int .i64 b] 0 (mulV a b) := by
  obtain ⟨h0, h1, h2, h3⟩ := badT_no h
  intro w
  by_cases z : b = 0
  · subst z
    rw [show mulV a 0 = 0 from by simp [mulV]]
    exact specMul_zero a h0 h1 w
  · have hb : 0 < b := by omega
    have key : 1000000000000000 / b < a ↔ 1000000000000000 < a * b := Int.ediv_lt_iff_lt_mul hb
    unfold mulV
    split
    · exact specMul_over a b h0 h1 hb h3 (key.2 (by assumption)) w
    · rename_i hn
      exact specMul_under a b h0 h1 hb h3 (fun k => hn (key.1 k)) (Int.mul_nonneg h0 h2) (by omega) w
/-- What is told of a and b: sum and product, whichever comes first. -/
structure Reckoned (a b c s m : Int) : Prop where
  ia : IRes 15 #[.int .i64 a, .int .i64 b] c s
  ib : IRes 15 #[.int .i64 b, .int .i64 a] c s
  sa : IRes 21 #[.int .i64 a, .int .i64 b] c s
  ma : IRes 16 #[.int .i64 a, .int .i64 b] c m
  mb : IRes 16 #[.int .i64 b, .int .i64 a] c m
  ms : IRes 22 #[.int .i64 a, .int .i64 b] c m
theorem reckoned (a b : Int) : ∃ c s m, Reckoned a b c s m ∧ (c = 3 ∨ (c = 0 ∧ s = addV a b ∧ 0 ≤ a ∧ a ≤ 1000000000000000 ∧ 0 ≤ b ∧ b ≤ 1000000000000000)) := by
  cases h : badT a b
  · have h' : badT b a = false := by rw [badT_comm]; exact h
    refine ⟨0, addV a b, mulV a b, ⟨implAdd_no a b h, ?_, specAdd_no a b h, implMul_no a b h, ?_, specMul_no a b h⟩, .inr ⟨rfl, rfl, badT_no h⟩⟩
    · rw [← addV_comm]; exact implAdd_no b a h'
    · rw [← mulV_comm]; exact implMul_no b a h'
  · have h' : badT b a = true := by rw [badT_comm]; exact h
    exact ⟨3, 0, 0, ⟨implAdd_bad a b (badT_yes h), implAdd_bad b a (badT_yes h'), specAdd_bad a b (badT_yes h), implMul_bad a b (badT_yes h), implMul_bad b a (badT_yes h'), specMul_bad a b (badT_yes h)⟩, .inl rfl⟩
theorem dC_or (s : ByteArray) : dC s = 5 ∨ (dC s = 0 ∧ 0 ≤ dV s ∧ dV s ≤ 2147483648) := by
  cases h : okD s
  · exact .inl (dC_no h)
  · refine .inr ⟨dC_yes h, ?_⟩
    rw [dV_yes h]
    exact okD_bd s h
theorem dig_toNat (d : Nat) (h : d < 10) : ((UInt8.ofNat (48 + d)).toNat : Int) = 48 + (d : Int) := num.dig_nat d h
theorem allD_dec (k : Nat) : ∀ u : Nat, u < 10 ^ k → allD (Lib.decDigits u) = true := by
  induction k with
  | zero => intro u h; rw [Lib.decDigits_one (by simp at h; omega)]; simp only [allD, List.all_cons, List.all_nil, Bool.and_true, digB]; rw [dig_toNat u (by simp at h; omega)]; simp at h; simp; omega
  | succ k ih =>
    intro u h
    by_cases c : u < 10
    · rw [Lib.decDigits_one c]; simp only [allD, List.all_cons, List.all_nil, Bool.and_true, digB]; rw [dig_toNat u c]; simp; omega
    · rw [show Lib.decDigits u = Lib.decDigits (u / 10) ++ [UInt8.ofNat (48 + u % 10)] from by rw [Lib.decDigits, dif_neg c], allD_snoc, ih (u / 10) (by rw [Nat.pow_succ] at h; omega), Bool.true_and]
      simp only [digB]; rw [dig_toNat (u % 10) (by omega)]; simp; omega
theorem valD_dec (k : Nat) : ∀ u : Nat, u < 10 ^ k → u ≤ 2147483648 → valD (Lib.decDigits u) = (u : Int) := by
  induction k with
  | zero => intro u h _; rw [Lib.decDigits_one (by simp at h; omega)]; simp only [valD, List.foldl_cons, List.foldl_nil, accD]; rw [dig_toNat u (by simp at h; omega)]; simp at h; rw [if_pos (by omega)]; omega
  | succ k ih =>
    intro u h hm
    by_cases c : u < 10
    · rw [Lib.decDigits_one c]; simp only [valD, List.foldl_cons, List.foldl_nil, accD]; rw [dig_toNat u c, if_pos (by omega)]; omega
    · rw [show Lib.decDigits u = Lib.decDigits (u / 10) ++ [UInt8.ofNat (48 + u % 10)] from by rw [Lib.decDigits, dif_neg c], valD_snoc, ih (u / 10) (by rw [Nat.pow_succ] at h; omega) (by omega)]
      unfold accD
      rw [dig_toNat (u % 10) (by omega)]
      split <;> omega
theorem delta_num (n : Int) (h0 : 0 ≤ n) (h1 : n ≤ 2147483648) : dC (num.numT n) = 0 ∧ dV (num.numT n) = n := by
  obtain ⟨u, rfl⟩ := Int.eq_ofNat_of_zero_le h0
  have hl := Lib.itoa_length_le (u : Int) (by omega) (by omega)
  rw [Lib.itoa_nonneg] at hl
  have hp : 1 ≤ (Lib.decDigits u).length := by
    rw [Lib.decDigits]
    split <;> simp
  have e : (num.numT (u : Int)).data.toList = Lib.decDigits u := by simp [num.numT, Lib.itoa_nonneg]
  have ez : (num.numT (u : Int)).size = (Lib.decDigits u).length := by simp [num.numT, Lib.itoa_nonneg, ByteArray.size]
  have ok : okD (num.numT (u : Int)) = true := okD_yes _ (by omega) (by omega) (by rw [e]; exact allD_dec 10 u (by omega))
  refine ⟨dC_yes ok, ?_⟩
  rw [dV_yes ok, e]
  exact valD_dec 10 u (by omega) (by omega)
end Go.Proofs.YtgnlpjdndhciaaaDoor
