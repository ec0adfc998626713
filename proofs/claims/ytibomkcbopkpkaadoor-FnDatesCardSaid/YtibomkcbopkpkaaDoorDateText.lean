/-
  Plain: the text of a date.
-/
import Derived.Test.YtibomkcbopkpkaaDoorDateTuple
import Derived.Lib.ItoaNum
import Derived.Lib.ItoaLen
namespace Go.Proofs.YtibomkcbopkpkaaDoor
def dayNames : ByteArray := ⟨#[83, 117, 110, 77, 111, 110, 84, 117, 101, 87, 101, 100, 84, 104, 117, 70, 114, 105, 83, 97, 116]⟩
def monNames : ByteArray := ⟨#[74, 97, 110, 70, 101, 98, 77, 97, 114, 65, 112, 114, 77, 97, 121, 74, 117, 110, 74, 117, 108, 65, 117, 103, 83, 101, 112, 79, 99, 116, 78, 111, 118, 68, 101, 99]⟩
def wdT (x : Int) : ByteArray := dayNames.extract (3 * x).toNat (3 * x + 3).toNat
def moT (m : Int) : ByteArray := monNames.extract (3 * m - 3).toNat (3 * m).toNat
def dg (x : Int) : UInt8 := UInt8.ofNat (48 + x.toNat)
def two (n : Int) : ByteArray := ⟨#[dg (n / 10 % 10), dg (n % 10)]⟩
theorem wdT_size {x : Int} (h0 : 0 ≤ x) (h1 : x < 7) : (wdT x).size = 3 := by
  have e : dayNames.size = 21 := rfl
  unfold wdT
  rw [ByteArray.size_extract, e]
  omega
theorem moT_size {m : Int} (h0 : 1 ≤ m) (h1 : m ≤ 12) : (moT m).size = 3 := by
  have e : monNames.size = 36 := rfl
  unfold moT
  rw [ByteArray.size_extract, e]
  omega
theorem two_size (n : Int) : (two n).size = 2 := rfl
/-- The text of a date. -/
def dateText (x y m d h i s : Int) : ByteArray :=
  wdT x ++ ⟨#[44, 32]⟩ ++ two d ++ ⟨#[32]⟩ ++ moT m ++ ⟨#[32]⟩ ++ two (y / 100) ++ two y ++ ⟨#[32]⟩ ++ two h ++ ⟨#[58]⟩ ++ two i ++ ⟨#[58]⟩ ++ two s ++ ⟨#[32, 71, 77, 84]⟩
noncomputable def fmtT (n : Int) : ByteArray := dateText ((n / 86400 + 4) % 7) (dY n) (dM n) (dD n) (dH n) (dI n) (dS n)
def numTx (n : Int) : ByteArray := ⟨(Lib.itoa n).toArray⟩
theorem dec_one (u : Nat) (h : u < 10) : Lib.decDigits u = [UInt8.ofNat (48 + u)] := Lib.decDigits_one h
theorem dec_more (u : Nat) (h : ¬ u < 10) : Lib.decDigits u = Lib.decDigits (u / 10) ++ [UInt8.ofNat (48 + u % 10)] := by rw [Lib.decDigits, dif_neg h]
theorem num_one {n : Int} (h0 : 0 ≤ n) (h1 : n < 10) : (⟨#[48]⟩ : ByteArray) ++ numTx n = two n := by
  obtain ⟨u, rfl⟩ := Int.eq_ofNat_of_zero_le h0
  have e1 : ((u : Int) / 10 % 10).toNat = 0 := by omega
  have e2 : ((u : Int) % 10).toNat = u := by omega
  unfold numTx two dg
  rw [Lib.itoa_nonneg, dec_one u (by omega), e1, e2]
  apply ByteArray.ext
  simp
theorem num_two {n : Int} (h0 : 10 ≤ n) (h1 : n < 100) : numTx n = two n := by
  obtain ⟨u, rfl⟩ := Int.eq_ofNat_of_zero_le (show 0 ≤ n by omega)
  have e1 : ((u : Int) / 10 % 10).toNat = u / 10 := by omega
  have e2 : ((u : Int) % 10).toNat = u % 10 := by omega
  unfold numTx two dg
  rw [Lib.itoa_nonneg, dec_more u (by omega), dec_one (u / 10) (by omega), e1, e2]
  rfl
theorem num_year {n : Int} (h0 : 1000 ≤ n) (h1 : n < 10000) : numTx n = two (n / 100) ++ two n := by
  obtain ⟨u, rfl⟩ := Int.eq_ofNat_of_zero_le (show 0 ≤ n by omega)
  have e1 : ((u : Int) / 100 / 10 % 10).toNat = u / 10 / 10 / 10 := by omega
  have e2 : ((u : Int) / 100 % 10).toNat = u / 10 / 10 % 10 := by omega
  have e3 : ((u : Int) / 10 % 10).toNat = u / 10 % 10 := by omega
  have e4 : ((u : Int) % 10).toNat = u % 10 := by omega
  unfold numTx two dg
  rw [Lib.itoa_nonneg, dec_more u (by omega), dec_more (u / 10) (by omega), dec_more (u / 10 / 10) (by omega), dec_one (u / 10 / 10 / 10) (by omega), e1, e2, e3, e4]
  apply ByteArray.ext
  simp
theorem numTx_size {n : Int} (h0 : 0 ≤ n) (h1 : n < 10000) : (numTx n).size ≤ 4 := by
  by_cases c : n < 10
  · have := congrArg ByteArray.size (num_one h0 c)
    rw [ByteArray.size_append, two_size] at this
    omega
  by_cases c2 : n < 100
  · rw [num_two (by omega) c2, two_size]; omega
  by_cases c3 : n < 1000
  · obtain ⟨u, rfl⟩ := Int.eq_ofNat_of_zero_le h0
    unfold numTx
    rw [Lib.itoa_nonneg, dec_more u (by omega), dec_more (u / 10) (by omega), dec_one (u / 10 / 10) (by omega)]
    show (3 : Nat) ≤ 4
    omega
  · rw [num_year (by omega) h1, ByteArray.size_append, two_size, two_size]; omega
end Go.Proofs.YtibomkcbopkpkaaDoor
