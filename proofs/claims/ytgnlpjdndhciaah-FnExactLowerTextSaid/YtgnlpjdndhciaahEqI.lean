/-
  laws.eqIntResult at two alike structs answers true.
-/
import Derived.Test.YtgnlpjdndhciaahRows
import Derived.WalkKit
import Derived.ProofKit
import Derived.OpenShut
import Derived.Below
namespace Go.Proofs.Ytgnlpjdndhciaah
open Go.ChangeShapes Go.WideShapes Go.ChangeAt Go.RowKit
theorem bcell {W w1 : World} (hb : Below W.heap.size W w1) : (∀ b o, b < W.heap.size → w1.cell? ⟨b, o, none⟩ = W.cell? ⟨b, o, none⟩) ∧ (∀ b o, b < W.heap.size → w1.frozen? ⟨b, o, none⟩ = W.frozen? ⟨b, o, none⟩) :=
  ⟨fun b o h => hb.cell (p := ⟨b, o, none⟩) h, fun b o h => hb.frozen (p := ⟨b, o, none⟩) h⟩
theorem two_set {w : World} {B : Nat} {u0 u1 v0 v1 : Value} (p0 : w.cell? ⟨B, 0, none⟩ = some u0) (p1 : w.cell? ⟨B, 1, none⟩ = some u1) :
    ((w.setCell ⟨B, 0, none⟩ v0).setCell ⟨B, 1, none⟩ v1).cell? ⟨B, 0, none⟩ = some v0 ∧ ((w.setCell ⟨B, 0, none⟩ v0).setCell ⟨B, 1, none⟩ v1).cell? ⟨B, 1, none⟩ = some v1 := by
  constructor
  · rw [World.cell?_setCell_other _ _ _ _ (by intro h; have := congrArg Addr.off h; simp at this), World.cell?_setCell_same _ _ _ p0]
  · refine World.cell?_setCell_same _ _ _ (u := u1) ?_
    rw [World.cell?_setCell_other _ _ _ _ (by intro h; have := congrArg Addr.off h; simp at this), p1]
set_option maxHeartbeats 400000 in
theorem eqInt_same (c v : Int) (w : World) :
    Calls Try.prog 12 #[.agg #[.int .i64 c, .int .i64 v], .agg #[.int .i64 c, .int .i64 v]] w fun e w' => e = .returned (.bool true) ∧ Below w.heap.size w w' := by
  go_enter Try.func12, Try.ntmps12
  go_wp2
  go_ret
  exact ⟨rfl, ((Below.refl _ _).alloc (Nat.le_refl _) _).alloc (by simp) _⟩
set_option maxHeartbeats 400000 in
theorem law4 (a b c v : Int) (w : World)
    (h10 : Hid (∀ w, Calls Try.prog 10 #[.int .i64 a, .int .i64 b] w fun e w' => e = .returned (.agg #[.int .i64 c, .int .i64 v]) ∧ Below w.heap.size w w'))
    (h11 : Hid (∀ w, Calls Try.prog 11 #[.int .i64 a, .int .i64 b] w fun e w' => e = .returned (.agg #[.int .i64 c, .int .i64 v]) ∧ Below w.heap.size w w')) :
    Calls Try.prog 4 #[.int .i64 a, .int .i64 b] w fun e w' => e = .returned (.bool true) ∧ Below w.heap.size w w' := by
  go_enter Try.func4, Try.ntmps4
  go_wp2_with fail
  refine (h10.out _).mono ?_
  rintro e w1 ⟨rfl, hb1⟩
  have hz1 := hb1.size
  go_wp2_with fail
  refine (h11.out _).mono ?_
  rintro e w2 ⟨rfl, hb2⟩
  have hz2 := hb2.size
  obtain ⟨hc2, hf2⟩ := bcell hb2
  simp only [World.size_alloc] at hz2
  have hz3 : w1.heap.size < w2.heap.size := by omega
  go_wp2_with fail
  refine (eqInt_same _ _ _).mono ?_
  rintro e w3 ⟨rfl, hb3⟩
  have hz4 := hb3.size
  simp only [World.size_alloc] at hz4
  go_wp2
  go_ret
  refine ⟨rfl, ?_⟩
  have k1 : Below w.heap.size w (w1.alloc (.cells #[.int .i64 c, .int .i64 v] 28)) := hb1.alloc hz1 _
  have k2 : Below w.heap.size w w2 := k1.trans (hb2.mono (by simp; omega))
  have k3 : Below w.heap.size w (w2.alloc (.cells #[.int .i64 c, .int .i64 v] 28)) := k2.alloc (by omega) _
  exact k3.trans (hb3.mono (by simp; omega))
end Go.Proofs.Ytgnlpjdndhciaah
