/-
  Two entries, and two lists of them, held against each other.
-/
import Derived.Test.YtapnjbdlljnnhaaStoRows
import Derived.Test.YtapnjbdlljnnhaaSameTxt
import Derived.Test.YtapnjbdlljnnhaaSameHFns
import Derived.Test.YtapnjbdlljnnhaaSameResp
namespace Go.Proofs.Ytapnjbdlljnnhaa
open Go.ChangeShapes Go.WideShapes Go.ChangeAt Go.RowKit Go.Sort
def sameM (tx gx lx swx ex : Int) (px qx : Bool) (ty gy ly swy ey : Int) (py qy : Bool) : Bool := decide (tx = ty) && decide (gx = gy) && decide (lx = ly) && decide (swx = swy) && decide (ex = ey) && (px == py) && (qx == qy)
theorem guardMeta (op : BinOp) (a b : Operand) (x y : Array Value) (w : World) : (eqGuard op 39 a b (.agg x) (.agg y)).run Try.prog w = .ok () w := run_eqGuard_agg w op 39 a b x y (by kernel_rfl)
theorem eqlMeta (tx gx lx swx ex : Int) (px qx : Bool) (ty gy ly swy ey : Int) (py qy : Bool) (w : World) : (binOp .eql 39 (.agg #[.int .i64 tx, .int .i64 gx, .int .i64 lx, .int .i64 swx, .int .i64 ex, .bool px, .bool qx]) (.agg #[.int .i64 ty, .int .i64 gy, .int .i64 ly, .int .i64 swy, .int .i64 ey, .bool py, .bool qy])).run Try.prog w = .ok (.bool (sameM tx gx lx swx ex px qx ty gy ly swy ey py qy)) w := by
  have u9 := Try.underlying2
  have a9 := Try.isAgg2
  have z9 := Try.sizeOf2
  have u8 := Try.underlying4
  have a8 := Try.isAgg4
  have z8 := Try.sizeOf4
  have hS : Try.prog.underlying 39 = some (.struct (Try.prog.fieldsOf 39)) := by kernel_rfl
  have hp : Try.prog.stoodInHeld 39 = false := by kernel_rfl
  simp only [sameM]
  rw [run_eql_struct, show (10000 : Nat) = 9999 + 1 from rfl, run_equalIn_agg w 9999 39 _ _ hS hp]
  simp only [Program.fieldsOf, Try.underlying39]
  go_simp
  by_cases e1 : tx = ty <;> by_cases e2 : gx = gy <;> by_cases e3 : lx = ly <;> by_cases e4 : swx = swy <;> by_cases e5 : ex = ey <;> simp [e1, e2, e3, e4, e5] <;> cases px <;> cases py <;> cases qx <;> cases qy <;> simp
end Go.Proofs.Ytapnjbdlljnnhaa
