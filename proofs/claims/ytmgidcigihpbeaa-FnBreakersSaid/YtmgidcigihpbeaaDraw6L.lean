/-
  A later source of draws; the draws of StoreLife's arguments.
-/
import Derived.Test.YtmgidcigihpbeaaDraw6P
namespace Go.Proofs.Ytmgidcigihpbeaa
open Go.ChangeShapes Go.WideShapes Go.ChangeAt Go.RowKit Go.Sort
set_option maxHeartbeats 400000 in
theorem l1Later_any (w : World) (a : Option Addr) (len cap : Nat) (j : Nat) (hj : j ≤ 10) (hc : CodeRow w w.heap.size a len) :
    Calls Try.prog 72 #[.slice a len cap, .int .i64 (j : Int)] w fun e w' => e = .returned (.pointer (some ⟨w.heap.size, 0, none⟩)) ∧ Src w' w.heap.size a len cap (5 + 7 * j) ∧ Below w.heap.size w w' := by
  have HC : Hid (CodeRow w w.heap.size a len) := hc
  clear hc
  have e1 : (((5 + 7 * j : Nat)) : Int) = 5 + 7 * (j : Int) := by omega
  have g0 : (0 : Int) ≤ (j : Int) := by omega
  have g1 : (j : Int) ≤ 10 := by omega
  go_enter Try.func72, Try.ntmps72
  go_wp2
  go_ret
  have hb : Below w.heap.size w (w.alloc (.cells #[.slice a len cap, .int .i64 (5 + 7 * (j : Int))] 128)) := (Below.refl _ _).alloc (Nat.le_refl _) _
  refine ⟨rfl, ⟨by simp, by rw [e1]; simp, by simp, HC.out.below hb⟩, hb⟩
def SomeP2 (r : Ending) : Prop := ∃ (b0 b1 b2 : Bool) (l s e g : Int) (st ng : Int), r = .returned (.tuple #[.agg #[.bool b0, .bool b1, .bool b2, .int .i64 l, .int .i64 s, .int .i64 e, .int .i64 g], .int .i64 st, .int .i64 ng])
end Go.Proofs.Ytmgidcigihpbeaa
