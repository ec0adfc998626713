/-
  ParseDate, both its ways; its law.
-/
import Derived.Test.YtibomkcbopkpkaaDoorDateSin
import Derived.Test.YtibomkcbopkpkaaDoorDateParC
import Derived.Test.YtibomkcbopkpkaaDoorDateParS
namespace Go.Proofs.YtibomkcbopkpkaaDoor
open Go.ChangeShapes Go.WideShapes Go.ChangeAt Go.RowKit Go.Sort
open num
set_option maxHeartbeats 2000000 in
theorem implParseDate (s : ByteArray) (w : World) (hp : PowIs w) :
    Calls Tryd.prog 43 #[.string s] w fun e w' => e = .returned (.agg #[.int .i64 (pdC s), .int .i64 (pdV s)]) ∧ Below w.heap.size w w' := by
  have hmf : ∀ (fn : Fn) (first cap : Array Value) (w : World), (Instr.makeFunc fn first cap).run Tryd.prog w = .ok (.func fn first cap) w := fun _ _ _ _ => rfl
  have HS : Hid (∀ W, Below w.heap.size w W → Calls Tryd.prog 94 #[.string s] W fun e w' => SecOr s e ∧ Below W.heap.size W w') := fun W hb => secondsIn_any s W (hp.below hb)
  clear hp
  go_enter_defers Tryd.func43, Tryd.ntmps43
  go_wp2_with fail
  refine (HS.out _ ((Below.refl _ _).alloc (Nat.le_refl _) _)).mono ?_
  rintro e w1 ⟨h, hb⟩
  have KR : Hid (Room2 w1 w.heap.size 0 0) := (room2_new w 0 0 32).keep hb
  have KB : Hid (Below w.heap.size w w1) := ((Below.refl _ _).alloc (Nat.le_refl _) _).trans (hb.mono (by simp))
  clear hb
  obtain ⟨r0, r1, rf0, rf1⟩ := KR.out
  rcases h with ⟨hz, m, hc, rfl⟩ | ⟨⟨u, pv, rfl⟩, hno⟩
  · have E : Hid (pdC s = 0 ∧ pdV s = parS s m) := pd_yes hz hc
    generalize parS s m = v at *
    clear hc hz
    obtain ⟨z0, z1⟩ := two_set (v0 := .int .i64 0) (v1 := .int .i64 v) r0 r1
    go_wp2_with fail
    refine leaves_cons (f := 93) (args := #[.pointer (some ⟨w.heap.size, 0, none⟩)]) (by simp) (by simp [go_sem]) ?_
    refine (catch_idle ⟨w.heap.size, 0, none⟩ _).mono ?_
    rintro e u' w'' ⟨rfl, rfl, rfl⟩
    simp [Leaves, settle, results, Tryd.results43, go_sem, z0, z1, E.out.1, E.out.2]
    exact (KB.out.setCell (Nat.le_refl _) _).setCell (Nat.le_refl _) _
  · have E : Hid (pdC s = 5 ∧ pdV s = 0) := pd_no hno
    clear hno
    obtain ⟨z0, z1⟩ := two_set (v0 := .int .i64 5) (v1 := .int .i64 0) r0 r1
    go_wp2_with fail
    refine leaves_cons (f := 93) (args := #[.pointer (some ⟨w.heap.size, 0, none⟩)]) (by simp) (by simp [go_sem]) ?_
    refine (catch_panicking w.heap.size 0 0 u pv [] _ KR.out).mono ?_
    rintro e u' w'' ⟨rfl, rfl, rfl⟩
    simp [Leaves, settle, results, Tryd.results43, go_sem, z0, z1, E.out.1, E.out.2]
    exact (KB.out.setCell (Nat.le_refl _) _).setCell (Nat.le_refl _) _
set_option maxHeartbeats 1000000 in
theorem specParseDate (s : ByteArray) (w : World) :
    Calls Tryd.prog 47 #[.string s] w fun e w' => e = .returned (.agg #[.int .i64 (pdC s), .int .i64 (pdV s)]) ∧ Below w.heap.size w w' := by
  have H : Hid (∀ W, Calls Tryd.prog 100 #[.string s] W fun e w' => e = .returned (.int .i64 (parI s)) ∧ Below W.heap.size W w') := l3Parse_any s
  have HC : Hid (pdC s = if parI s < 0 then 5 else 0) := rfl
  have HV : Hid (pdV s = if parI s < 0 then 0 else parI s) := rfl
  generalize parI s = n at *
  go_enter Tryd.func47, Tryd.ntmps47
  go_wp2_with fail
  refine (H.out _).mono ?_
  rintro e w1 ⟨rfl, hb⟩
  have KR : Hid (Room2 w1 w.heap.size 0 0) := (room2_new w 0 0 32).keep hb
  have KB : Hid (Below w.heap.size w w1) := ((Below.refl _ _).alloc (Nat.le_refl _) _).trans (hb.mono (by simp))
  clear hb H
  obtain ⟨r0, r1, rf0, rf1⟩ := KR.out
  by_cases hn : n < 0
  · obtain ⟨z0, z1⟩ := two_set (v0 := .int .i64 5) (v1 := .int .i64 0) r0 r1
    go_wp2
    exact bodyPost_ret (v := .agg #[.int .i64 5, .int .i64 0]) (by simp [results, Tryd.results47, go_sem, z0, z1]) rfl ⟨by rw [HC.out, HV.out, if_pos hn, if_pos hn], (KB.out.setCell (Nat.le_refl _) _).setCell (Nat.le_refl _) _⟩
  · obtain ⟨z0, z1⟩ := two_set (v0 := .int .i64 0) (v1 := .int .i64 n) r0 r1
    go_wp2
    exact bodyPost_ret (v := .agg #[.int .i64 0, .int .i64 n]) (by simp [results, Tryd.results47, go_sem, z0, z1]) rfl ⟨by rw [HC.out, HV.out, if_neg (by omega), if_neg (by omega)], (KB.out.setCell (Nat.le_refl _) _).setCell (Nat.le_refl _) _⟩
end Go.Proofs.YtibomkcbopkpkaaDoor
