/-
  Picks out of lists, by the source of draws.
-/
import Derived.Test.YtmgidcigihpbeaaDrawNext
namespace Go.Proofs.Ytmgidcigihpbeaa
open Go.ChangeShapes Go.WideShapes Go.ChangeAt Go.RowKit
set_option maxHeartbeats 1000000 in
theorem l1Chance_any (w : World) (B : Nat) (a : Option Addr) (len cap k : Nat) (n : Int) (hs : Src w B a len cap k)
    (hk : k ≤ 1000000) (hn : 1 ≤ n) (hn2 : n ≤ 1000000) (hl2 : len ≤ 1048577) :
    Calls Try.prog 56 #[.pointer (some ⟨B, 0, none⟩), .int .i64 n] w fun e w' => (∃ b : Bool, e = .returned (.bool b)) ∧ ∃ m, w' = (w.setCell ⟨B, 1, none⟩ (.int .i64 ((k : Int) + 1))).drewN m := by
  have HN : Hid (Calls Try.prog 57 #[.pointer (some ⟨B, 0, none⟩), .int .i64 n] w fun e w' => (∃ v : Int, 0 ≤ v ∧ v < n ∧ e = .returned (.int .i64 v)) ∧ ∃ m, w' = (w.setCell ⟨B, 1, none⟩ (.int .i64 ((k : Int) + 1))).drewN m) := l1Next_any w B a len cap k n hs hk hn hn2 hl2
  clear hs
  go_enter Try.func56, Try.ntmps56
  go_wp2_with fail
  refine HN.out.mono ?_
  rintro e w' ⟨⟨v, _, _, rfl⟩, m, rfl⟩
  go_wp2
  go_ret
  exact ⟨⟨_, rfl⟩, _, rfl⟩
set_option maxHeartbeats 1000000 in
theorem l1Pick_any (w : World) (B : Nat) (a : Option Addr) (len cap k : Nat) (hs : Src w B a len cap k) (L : Nat) (xs : List Int) (hL : L ≠ B)
    (n : Nat) (hn : xs.length = n) (hx : ∀ i x, xs[i]? = some x → w.cell? ⟨L, i, none⟩ = some (.int .i64 x)) (hpos : 0 < n) (hlen : n ≤ 1000)
    (hk : k ≤ 1000000) (hl2 : len ≤ 1048577) :
    Calls Try.prog 39 #[.pointer (some ⟨B, 0, none⟩), .slice (some ⟨L, 0, none⟩) n n] w fun e w' => (∃ v : Int, v ∈ xs ∧ e = .returned (.int .i64 v)) ∧ ∃ m, w' = (w.setCell ⟨B, 1, none⟩ (.int .i64 ((k : Int) + 1))).drewN m := by
  have HN : Hid (Calls Try.prog 57 #[.pointer (some ⟨B, 0, none⟩), .int .i64 (n : Int)] w fun e w' => (∃ v : Int, 0 ≤ v ∧ v < (n : Int) ∧ e = .returned (.int .i64 v)) ∧ ∃ m, w' = (w.setCell ⟨B, 1, none⟩ (.int .i64 ((k : Int) + 1))).drewN m) := l1Next_any w B a len cap k n hs hk (by omega) (by omega) hl2
  have HX : Hid (∀ i x, xs[i]? = some x → w.cell? ⟨L, i, none⟩ = some (.int .i64 x)) := hx
  have HNN : Hid (xs.length = n) := hn
  clear hs hx hn
  go_enter Try.func39, Try.ntmps39
  go_wp2_with fail
  refine HN.out.mono ?_
  rintro e w' ⟨⟨v, v0, v1, rfl⟩, m, rfl⟩
  obtain ⟨u, rfl⟩ := Int.eq_ofNat_of_zero_le v0
  have hu : u < n := by omega
  have hul : u < xs.length := by have := HNN.out; omega
  have hc : (w.setCell ⟨B, 1, none⟩ (.int .i64 ((k : Int) + 1))).cell? ⟨L, u, none⟩ = some (.int .i64 xs[u]) := by
    rw [World.cell?_setCell_other _ _ _ _ (by intro h; exact hL (congrArg Addr.block h).symm)]
    exact HX.out u _ (List.getElem?_eq_getElem hul)
  have HM : Hid (xs[u] ∈ xs) := List.getElem_mem hul
  generalize xs[u] = x at *
  go_wp2
  go_ret
  exact ⟨⟨_, HM.out, rfl⟩, _, rfl⟩
end Go.Proofs.Ytmgidcigihpbeaa
