/-
  A date, and a code with a number, in memory.
-/
import Derived.Test.YtibomkcbopkpkaaDoorBase
namespace Go.Proofs.YtibomkcbopkpkaaDoor
open Go.ChangeShapes Go.WideShapes Go.ChangeAt Go.RowKit
/-- A date in memory. -/
structure DateAtB (w : World) (b : Nat) (y m d h i s : Int) : Prop where
  c0 : w.cell? ⟨b, 0, none⟩ = some (.int .i64 y)
  c1 : w.cell? ⟨b, 1, none⟩ = some (.int .i64 m)
  c2 : w.cell? ⟨b, 2, none⟩ = some (.int .i64 d)
  c3 : w.cell? ⟨b, 3, none⟩ = some (.int .i64 h)
  c4 : w.cell? ⟨b, 4, none⟩ = some (.int .i64 i)
  c5 : w.cell? ⟨b, 5, none⟩ = some (.int .i64 s)
  fr : ∀ o, w.frozen? ⟨b, o, none⟩ = false
theorem DateAtB.keep {w w' : World} {b : Nat} {y m d h i s : Int} (k : DateAtB w b y m d h i s) (hb : Below w.heap.size w w') : DateAtB w' b y m d h i s := by
  obtain ⟨c0, c1, c2, c3, c4, c5, fr⟩ := k
  have hl := block_lt_of_cell c0
  exact ⟨by rw [hb.cell (p := ⟨b, 0, none⟩) hl, c0], by rw [hb.cell (p := ⟨b, 1, none⟩) hl, c1], by rw [hb.cell (p := ⟨b, 2, none⟩) hl, c2], by rw [hb.cell (p := ⟨b, 3, none⟩) hl, c3], by rw [hb.cell (p := ⟨b, 4, none⟩) hl, c4], by rw [hb.cell (p := ⟨b, 5, none⟩) hl, c5], fun o => by rw [hb.frozen (p := ⟨b, o, none⟩) hl, fr]⟩
theorem set_get {w : World} {B o o' : Nat} {u v : Value} (h : w.cell? ⟨B, o, none⟩ = some u) : (w.setCell ⟨B, o', none⟩ v).cell? ⟨B, o, none⟩ = some (if o = o' then v else u) := by
  by_cases e : o = o'
  · subst e; rw [World.cell?_setCell_same _ _ _ h]; simp
  · rw [World.cell?_setCell_other _ _ _ _ (by intro h; have := congrArg Addr.off h; simp at this; omega), h]; simp [e]
theorem DateAtB.set0 {w : World} {b : Nat} {y m d h i s : Int} (k : DateAtB w b y m d h i s) (x : Int) : DateAtB (w.setCell ⟨b, 0, none⟩ (.int .i64 x)) b x m d h i s :=
  ⟨by rw [set_get k.c0]; rfl, by rw [set_get k.c1]; rfl, by rw [set_get k.c2]; rfl, by rw [set_get k.c3]; rfl, by rw [set_get k.c4]; rfl, by rw [set_get k.c5]; rfl, fun o => by rw [World.frozen?_setCell, k.fr]⟩
theorem DateAtB.set1 {w : World} {b : Nat} {y m d h i s : Int} (k : DateAtB w b y m d h i s) (x : Int) : DateAtB (w.setCell ⟨b, 1, none⟩ (.int .i64 x)) b y x d h i s :=
  ⟨by rw [set_get k.c0]; rfl, by rw [set_get k.c1]; rfl, by rw [set_get k.c2]; rfl, by rw [set_get k.c3]; rfl, by rw [set_get k.c4]; rfl, by rw [set_get k.c5]; rfl, fun o => by rw [World.frozen?_setCell, k.fr]⟩
theorem DateAtB.set2 {w : World} {b : Nat} {y m d h i s : Int} (k : DateAtB w b y m d h i s) (x : Int) : DateAtB (w.setCell ⟨b, 2, none⟩ (.int .i64 x)) b y m x h i s :=
  ⟨by rw [set_get k.c0]; rfl, by rw [set_get k.c1]; rfl, by rw [set_get k.c2]; rfl, by rw [set_get k.c3]; rfl, by rw [set_get k.c4]; rfl, by rw [set_get k.c5]; rfl, fun o => by rw [World.frozen?_setCell, k.fr]⟩
theorem DateAtB.set3 {w : World} {b : Nat} {y m d h i s : Int} (k : DateAtB w b y m d h i s) (x : Int) : DateAtB (w.setCell ⟨b, 3, none⟩ (.int .i64 x)) b y m d x i s :=
  ⟨by rw [set_get k.c0]; rfl, by rw [set_get k.c1]; rfl, by rw [set_get k.c2]; rfl, by rw [set_get k.c3]; rfl, by rw [set_get k.c4]; rfl, by rw [set_get k.c5]; rfl, fun o => by rw [World.frozen?_setCell, k.fr]⟩
theorem DateAtB.set4 {w : World} {b : Nat} {y m d h i s : Int} (k : DateAtB w b y m d h i s) (x : Int) : DateAtB (w.setCell ⟨b, 4, none⟩ (.int .i64 x)) b y m d h x s :=
  ⟨by rw [set_get k.c0]; rfl, by rw [set_get k.c1]; rfl, by rw [set_get k.c2]; rfl, by rw [set_get k.c3]; rfl, by rw [set_get k.c4]; rfl, by rw [set_get k.c5]; rfl, fun o => by rw [World.frozen?_setCell, k.fr]⟩
theorem DateAtB.set5 {w : World} {b : Nat} {y m d h i s : Int} (k : DateAtB w b y m d h i s) (x : Int) : DateAtB (w.setCell ⟨b, 5, none⟩ (.int .i64 x)) b y m d h i x :=
  ⟨by rw [set_get k.c0]; rfl, by rw [set_get k.c1]; rfl, by rw [set_get k.c2]; rfl, by rw [set_get k.c3]; rfl, by rw [set_get k.c4]; rfl, by rw [set_get k.c5]; rfl, fun o => by rw [World.frozen?_setCell, k.fr]⟩
theorem DateAtB.other {w : World} {b b' o' : Nat} {v : Value} {y m d h i s : Int} (k : DateAtB w b y m d h i s) (hn : b ≠ b') : DateAtB (w.setCell ⟨b', o', none⟩ v) b y m d h i s := by
  have e : ∀ o, (w.setCell ⟨b', o', none⟩ v).cell? ⟨b, o, none⟩ = w.cell? ⟨b, o, none⟩ := fun o => World.cell?_setCell_other _ _ _ _ (by intro h; have := congrArg Addr.block h; simp at this; omega)
  exact ⟨by rw [e, k.c0], by rw [e, k.c1], by rw [e, k.c2], by rw [e, k.c3], by rw [e, k.c4], by rw [e, k.c5], fun o => by rw [World.frozen?_setCell, k.fr]⟩
theorem dateAtB_new (w : World) (y m d h i s : Int) (t : TypeId) : DateAtB (w.alloc (.cells #[.int .i64 y, .int .i64 m, .int .i64 d, .int .i64 h, .int .i64 i, .int .i64 s] t)) w.heap.size y m d h i s :=
  ⟨by simp, by simp, by simp, by simp, by simp, by simp, fun o => by simp⟩
theorem ifield_val (c v : Int) (w : World) : (Instr.field 32 (.agg #[.int .i64 c, .int .i64 v]) 1).run Tryd.prog w = .ok (.int .i64 v) w := by kernel_rfl
/-- A code and a number in memory. -/
structure Room2 (w : World) (b : Nat) (c v : Int) : Prop where
  c0 : w.cell? ⟨b, 0, none⟩ = some (.int .i64 c)
  c1 : w.cell? ⟨b, 1, none⟩ = some (.int .i64 v)
  f0 : w.frozen? ⟨b, 0, none⟩ = false
  f1 : w.frozen? ⟨b, 1, none⟩ = false
theorem Room2.keep {w w' : World} {b : Nat} {c v : Int} (h : Room2 w b c v) (hb : Below w.heap.size w w') : Room2 w' b c v :=
  ⟨by rw [hb.cell (p := ⟨b, 0, none⟩) (block_lt_of_cell h.c0), h.c0], by rw [hb.cell (p := ⟨b, 1, none⟩) (block_lt_of_cell h.c1), h.c1], by rw [hb.frozen (p := ⟨b, 0, none⟩) (block_lt_of_cell h.c0), h.f0], by rw [hb.frozen (p := ⟨b, 1, none⟩) (block_lt_of_cell h.c1), h.f1]⟩
theorem room2_new (w : World) (c v : Int) (t : TypeId) : Room2 (w.alloc (.cells #[.int .i64 c, .int .i64 v] t)) w.heap.size c v := ⟨by simp, by simp, by simp, by simp⟩
end Go.Proofs.YtibomkcbopkpkaaDoor
