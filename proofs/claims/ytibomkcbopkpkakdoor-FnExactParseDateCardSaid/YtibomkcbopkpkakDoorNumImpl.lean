/-
  What NumberText and its model answer; the law of NumberText out of them.
-/
import Derived.Test.YtibomkcbopkpkakDoorBase
import Derived.Test.YtibomkcbopkpkakDoorNumSpec
import Derived.Test.YtibomkcbopkpkakDoorShelf
import Derived.Lib.LaidTab
import Derived.Lib.AppendIntMem
import Derived.WalkSmall
namespace Go.Proofs.YtibomkcbopkpkakDoor
open Go.ChangeShapes Go.WideShapes Go.ChangeAt Go.RowKit
namespace num
/-- The library's table of powers of ten lies in memory. -/
def PowIs (w : World) : Prop := Lib.TabIs Tryd.prog w "internal/strconv.uint64pow10" .u64 Lib.pow10Tab
theorem powNamed : Tryd.prog.globalNamed "internal/strconv.uint64pow10" = some 0 := by kernel_rfl
theorem PowIs.below {w w' : World} (h : PowIs w) (hb : Below w.heap.size w w') : PowIs w' := by
  unfold PowIs Lib.TabIs at h ⊢
  refine var?_below hb powNamed ?_ h
  unfold World.var? at h
  rw [powNamed] at h
  simp only [Option.bind_some] at h
  cases hh : w.heap[0]? with
  | none => rw [hh] at h; cases h
  | some o => exact (Array.getElem?_eq_some_iff.1 hh).1
def numT (n : Int) : ByteArray := ⟨(Lib.itoa n).toArray⟩
theorem format_lib (n : Int) (h0 : 0 ≤ n) (h1 : n ≤ 1000000000000000) (w : World) (h : PowIs w) :
    Calls Tryd.prog 17 #[.int .i64 n, .int .i64 10] w fun e w' => e = .returned (.string (numT n)) ∧ Below w.heap.size w w' := by
  refine (Any.strconv_FormatInt_10 Tryd.laysM173 n (by omega) (by omega) w h).mono ?_
  rintro e w' ⟨rfl, k, os, rfl⟩
  exact ⟨rfl, Lib.below_grow _ _ (Nat.le_refl _) _ _⟩
end num
end Go.Proofs.YtibomkcbopkpkakDoor
