/-
  What the row's list gives of the table of powers of ten.
-/
import Derived.Test.YtibomkcbopkpkaaDoorNumImpl
import Derived.MakeChecks
import Derived.Stop.LaidErr
namespace Go.Proofs.YtibomkcbopkpkaaDoor
namespace num
theorem powType : (Tryd.prog.globals[1]?).map (·.type) = some 147 := by kernel_rfl
theorem powTab {H : Type} : (Rows.laid_internal_strconv_uint64pow10 : DataW H) = Lib.tabData .u64 Lib.pow10Tab := by kernel_rfl
theorem pow_of {w : World} {rest : List (String × DataW Unit)} (h : laidMet Tryd.prog (("internal/strconv.uint64pow10", Rows.laid_internal_strconv_uint64pow10) :: rest) w) : PowIs w := by
  rw [powTab] at h
  exact Lib.tabIs_of_head powNamed powType Tryd.underlying147 Tryd.underlying134 (by kernel_rfl) (by kernel_rfl) h
end num
end Go.Proofs.YtibomkcbopkpkaaDoor
