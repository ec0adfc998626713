/-
  What TrimText and its model answer; the law of TrimText out of them.
-/
import Derived.Test.YtelbddgdaibolaaDoorBase
import Derived.Test.YtelbddgdaibolaaDoorTrimSpec
import Derived.Test.YtelbddgdaibolaaDoorShelf
namespace Go.Proofs.YtelbddgdaibolaaDoor
open Go.ChangeShapes Go.WideShapes Go.ChangeAt Go.RowKit
theorem trimT_size (s : ByteArray) : (trimT s).size ≤ s.size := by
  have h : (Lib.trimS s.data.toList [32, 9]).length ≤ s.data.toList.length := by
    unfold Lib.trimS Lib.trimLeftS Lib.trimRightS
    refine Nat.le_trans (List.dropWhile_sublist _).length_le ?_
    rw [List.length_reverse]
    refine Nat.le_trans (List.dropWhile_sublist _).length_le ?_
    rw [List.length_reverse]
    exact Nat.le_refl _
  have e : (trimT s).size = (Lib.trimS s.data.toList [32, 9]).length := by simp [trimT, ByteArray.size]
  rw [e]
  simpa using h
theorem trim_lib (s : ByteArray) (w : World) (hs : s.size ≤ 1000) :
    Calls Tryd.prog 77 #[.string s, .string ⟨#[32, 9]⟩] w fun e w' => e = .returned (.string (trimT s)) ∧ Below w.heap.size w w' :=
  Any.strings_Trim_laid Tryd.lays160 (by kernel_rfl) s ⟨#[32, 9]⟩ w (by omega) (by decide) (ascii_of_all (by decide))
theorem trim_big (s : ByteArray) (w : World) (hs : s.size ≤ 1048576) :
    Calls Tryd.prog 77 #[.string s, .string ⟨#[32, 9]⟩] w fun e w' => e = .returned (.string (trimT s)) ∧ Below w.heap.size w w' :=
  Any.strings_Trim_laid Tryd.lays160 (by kernel_rfl) s ⟨#[32, 9]⟩ w (by omega) (by decide) (ascii_of_all (by decide))
end Go.Proofs.YtelbddgdaibolaaDoor
