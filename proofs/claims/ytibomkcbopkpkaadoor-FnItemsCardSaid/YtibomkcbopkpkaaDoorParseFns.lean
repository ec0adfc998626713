/-
  ParseItems on both sides, for every text.
-/
import Derived.Test.YtibomkcbopkpkaaDoorParseBody
import Derived.Test.YtibomkcbopkpkaaDoorParseSpec
import Derived.Test.YtibomkcbopkpkaaDoorListVal
namespace Go.Proofs.YtibomkcbopkpkaaDoor
open Go.ChangeShapes Go.WideShapes Go.ChangeAt Go.RowKit Go.Sort
theorem parseL_len (s : ByteArray) : (parseL s).length ≤ 20 := by
  unfold parseL
  split
  · simp
  · split
    · simp
    · split
      · simp
      · omega
set_option maxHeartbeats 1000000 in
theorem specParse_fn (s : ByteArray) (w : World) :
    Calls Tryd.prog 34 #[.string s] w fun e w' => ParseOut s w.heap.size e w' ∧ Below w.heap.size w w' := by
  by_cases hs : 1000 < s.size
  · have hh : (1000 : Int) < s.size := by omega
    have HL : Hid (parseC s = 2 ∧ parseL s = []) := parse_long hs
    go_enter Tryd.func34, Tryd.ntmps34
    go_wp2
    exact bodyPost_ret (v := .agg #[.int .i64 2, .slice none 0 0]) (by simp [results, Tryd.results34, go_sem]) rfl ⟨ParseOut.mk HL.out (OwnI.nil _ _), (Below.refl _ _).alloc (Nat.le_refl _) _⟩
  have hh : ¬ (1000 : Int) < s.size := by omega
  have HP : Hid (∀ W, Calls Tryd.prog 82 #[.string s] W fun e w' => ParseRes s W.heap.size e w' ∧ Below W.heap.size W w') := fun W => l2Parse_any s W hs
  clear hs
  go_enter Tryd.func34, Tryd.ntmps34
  go_wp2_with fail
  refine (HP.out _).mono ?_
  rintro e w1 ⟨⟨v, rfl, ho⟩, hb⟩
  have p0 : w1.cell? ⟨w.heap.size, 0, none⟩ = some (.int .i64 0) := by rw [hb.cell (p := ⟨w.heap.size, 0, none⟩) (by simp)]; simp
  have p1 : w1.cell? ⟨w.heap.size, 1, none⟩ = some (.slice none 0 0) := by rw [hb.cell (p := ⟨w.heap.size, 1, none⟩) (by simp)]; simp
  have f0 : w1.frozen? ⟨w.heap.size, 0, none⟩ = false := by rw [hb.frozen (p := ⟨w.heap.size, 0, none⟩) (by simp)]; simp
  have f1 : w1.frozen? ⟨w.heap.size, 1, none⟩ = false := by rw [hb.frozen (p := ⟨w.heap.size, 1, none⟩) (by simp)]; simp
  have KB : Hid (Below w.heap.size w w1) := ((Below.refl _ _).alloc (Nat.le_refl _) _).trans (hb.mono (by simp))
  have ho2 : OwnI w1 (w.heap.size + 1) v (parseL s) := by simpa using ho
  obtain ⟨va, vc, hv, _⟩ := ho2.at
  generalize hn : (parseL s).length = vn at hv
  subst hv
  have KO : Hid (OwnI w1 (w.heap.size + 1) (.slice va vn vc) (parseL s)) := ho2
  clear hb ho HP ho2 hn
  obtain ⟨c, hc⟩ : ∃ c, Hid (parseC s = c) := ⟨_, rfl⟩
  rw [hc.out]
  obtain ⟨q0, q1⟩ := two_set (v0 := .int .i64 c) (v1 := .slice va vn vc) p0 p1
  go_wp2_with fail
  refine bodyPost_ret (v := .agg #[.int .i64 c, .slice va vn vc]) (by simp [results, Tryd.results34, go_sem, q0, q1]) rfl ⟨ParseOut.mk ⟨hc.out, rfl⟩ ?_, (KB.out.setCell (Nat.le_refl _) _).setCell (Nat.le_refl _) _⟩
  exact ((own_set (own_set KO.out (Nat.lt_succ_self _)) (Nat.lt_succ_self _))).lower (Nat.le_succ _)
set_option maxHeartbeats 1000000 in
theorem implParse_fn (s : ByteArray) (w : World) (hset : SetIs w) :
    Calls Tryd.prog 30 #[.string s] w fun e w' => ParseOut s w.heap.size e w' ∧ Below w.heap.size w w' := by
  by_cases hs : 1000 < s.size
  · have hh : (1000 : Int) < s.size := by omega
    have HL : Hid (parseC s = 2 ∧ parseL s = []) := parse_long hs
    clear hset
    go_enter Tryd.func30, Tryd.ntmps30
    go_wp2
    exact bodyPost_ret (v := .agg #[.int .i64 2, .slice none 0 0]) (by simp [results, Tryd.results30, go_sem]) rfl ⟨ParseOut.mk HL.out (OwnI.nil _ _), (Below.refl _ _).alloc (Nat.le_refl _) _⟩
  · exact implParse_loop s w (by omega) hset
end Go.Proofs.YtibomkcbopkpkaaDoor
