/-
  What ParseItems answers.
-/
import Derived.Test.YtibomkcbopkpkaaDoorIterItems
import Derived.Maps.AppendAt
namespace Go.Proofs.YtibomkcbopkpkaaDoor
open Go.ChangeShapes Go.WideShapes Go.ChangeAt Go.RowKit Go.Shelf
attribute [local go_sem] Oper.semAt_some
set_option maxHeartbeats 1000000 in
theorem itemsOf_any (s : ByteArray) (w : World) :
    Calls Tryd.prog 79 #[.string s] w fun e w' => e = .returned (.func (.func 123) #[] #[.pointer (some ⟨w.heap.size, 0, none⟩)]) ∧ w' = w.alloc (.cells #[.string s] 9) := by
  go_enter Tryd.func79, Tryd.ntmps79
  go_wp2
  go_ret
  exact ⟨rfl, rfl⟩
theorem tell_stops (n : Nat) (hn : 1 ≤ n) (Bt n₀ : Nat) (s : ByteArray) (hs : s.size ≤ 1000) (hG : 0 < n₀) (w : World) (hBt : Bt < w.heap.size) (hc : w.cell? ⟨Bt, 0, none⟩ = some (.string s)) (hset : SetIs w) :
    SeqStopsK Fence.wide n Tryd.prog 123 #[.pointer (some ⟨Bt, 0, none⟩)] encX (KeepT n₀ Bt s) (fun ys => AllTell (trims (pcs false [] s.data.toList)) ys) (fun pre => ∃ d, d <+: trims (pcs false [] s.data.toList) ∧ AllTell d pre) 1002 w := fun l J Jx W hW hJ _ hY h0 =>
  tell_in n hn l Bt n₀ s hs hG J Jx (fun pre W1 W2 h hg => hJ pre W1 W2 none h hg (fun r e => by cases e)) hY W ((hW.cell (p := ⟨Bt, 0, none⟩) hBt).trans hc) (hset.below hW) h0
theorem keepT_t {n₀ Bt : Nat} {s : ByteArray} {A B C : World} (h : KeepT n₀ Bt s A B) (k : KeepT n₀ Bt s B C) : KeepT n₀ Bt s A C := ⟨h.1.trans k.1, fun x => k.2 (h.2 x)⟩
theorem keepT_b {n₀ Bt : Nat} {s : ByteArray} {w : World} (hn : n₀ ≤ w.heap.size) (W : World) (l : Nat) (o o' : Obj) (hl : w.heap.size ≤ l) (ho : W.heap[l]? = some o) (h1 : o.isCells = false) (h2 : o.isWalk = false) : KeepT n₀ Bt s W (W.putObj l o') := by
  refine ⟨belowK_b hn W l o o' hl ho h1 h2, fun hc => ?_⟩
  exact cell_kept hc (grownBy_putObj' W l o') (fun r e => by cases e; exact ⟨_, ho, h1⟩)
end Go.Proofs.YtibomkcbopkpkaaDoor
