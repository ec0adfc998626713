/-
  Conditions of a breaker, by the program.
-/
import Derived.Test.YtmgidcigihpbeaaGB
import Derived.Deep.RegionHeld3
import Derived.Lib.SliceRun
namespace Go.Proofs.Ytmgidcigihpbeaa
open Go.ChangeShapes Go.WideShapes Go.ChangeAt Go.RowKit Go.Sort
theorem asOO (v : Value) (w : World) : (Instr.typeAssert (.iface 134 v) 100 134 true).run Try.prog w = .ok (.tuple #[v, .bool true]) w := by kernel_rfl
theorem asOH (v : Value) (w : World) : (Instr.typeAssert (.iface 134 v) 100 136 true).run Try.prog w = .ok (.tuple #[.agg #[.int .i64 0, .int .i64 0], .bool false]) w := by kernel_rfl
theorem asOC (v : Value) (w : World) : (Instr.typeAssert (.iface 134 v) 100 139 true).run Try.prog w = .ok (.tuple #[.agg #[.int .i64 0, .slice none 0 0], .bool false]) w := by kernel_rfl
theorem asHO (v : Value) (w : World) : (Instr.typeAssert (.iface 136 v) 100 134 true).run Try.prog w = .ok (.tuple #[.agg #[.int .i64 0], .bool false]) w := by kernel_rfl
theorem asHH (v : Value) (w : World) : (Instr.typeAssert (.iface 136 v) 100 136 true).run Try.prog w = .ok (.tuple #[v, .bool true]) w := by kernel_rfl
theorem asHC (v : Value) (w : World) : (Instr.typeAssert (.iface 136 v) 100 139 true).run Try.prog w = .ok (.tuple #[.agg #[.int .i64 0, .slice none 0 0], .bool false]) w := by kernel_rfl
theorem asCO (v : Value) (w : World) : (Instr.typeAssert (.iface 139 v) 100 134 true).run Try.prog w = .ok (.tuple #[.agg #[.int .i64 0], .bool false]) w := by kernel_rfl
theorem asCH (v : Value) (w : World) : (Instr.typeAssert (.iface 139 v) 100 136 true).run Try.prog w = .ok (.tuple #[.agg #[.int .i64 0, .int .i64 0], .bool false]) w := by kernel_rfl
theorem asCC (v : Value) (w : World) : (Instr.typeAssert (.iface 139 v) 100 139 true).run Try.prog w = .ok (.tuple #[v, .bool true]) w := by kernel_rfl
def MkRes (w : World) (base : Nat) (l : List Mk) (e : Ending) : Prop := ∃ a c, e = .returned (.slice a l.length c) ∧ MkNew w base (.slice a l.length c) l
theorem MkRes.of {w : World} {base : Nat} {l : List Mk} {v : Value} (h : MkNew w base v l) : MkRes w base l (.returned v) := by
  obtain ⟨a, c, rfl, _⟩ := h.in
  exact ⟨a, c, rfl, h⟩
set_option maxRecDepth 100000 in
set_option maxHeartbeats 1000000 in
theorem cloneMk_any (w : World) (a : Option Addr) (cap : Nat) (l : List Mk) (hl : l.length ≤ 1048576) (hi : MkIn w a l) :
    Calls Try.prog 89 #[.slice a l.length cap] w fun e w' => MkRes w' w.heap.size l e ∧ Below w.heap.size w w' := by
  cases a with
  | none =>
    have e : l = [] := by
      rcases hi with h | ⟨b, off, h, _⟩
      · exact h
      · cases h
    subst e
    have hq : ∀ W : World, (binOp .eql 49 (.slice none 0 cap) (.slice none 0 0)).run Try.prog W = .ok (.bool true) W := fun W => Go.Lib.run_eql_slice_nil W _ _ none 0 cap 0 0 Try.underlying49
    simp only [List.length_nil]
    go_enter Try.func89, Try.ntmps89
    go_wp2
    go_ret
    exact ⟨MkRes.of (MkNew.nil _ _ _ _), Below.refl _ _⟩
  | some ad =>
    have HI : Hid (MkIn w (some ad) l) := hi
    clear hi
    have HO0 : Hid (OwnMk (w.alloc (.cells #[] 112)) w.heap.size (.slice (some ⟨w.heap.size, 0, none⟩) 0 0) []) := OwnMk.made0 w w.heap.size (Nat.le_refl _)
    have HB0 : Hid (Below w.heap.size w (w.alloc (.cells #[] 112))) := (Below.refl _ _).alloc (Nat.le_refl _) _
    obtain ⟨n, hn⟩ : ∃ n, l.length = n := ⟨_, rfl⟩
    have HN : Hid (l.length = n) := hn
    rw [hn] at hl ⊢
    clear hn
    have hq : ∀ W : World, (binOp .eql 49 (.slice (some ad) n cap) (.slice none 0 0)).run Try.prog W = .ok (.bool false) W := fun W => Go.Lib.run_eql_slice_nil W _ _ (some ad) n cap 0 0 Try.underlying49
    go_enter Try.func89, Try.ntmps89
    go_wp2_with (at_builtin; refine wpList_appendInMk _ rfl (.tmp 5) (.tmp 6) rfl w.heap.size _ [] l (some ad) cap rfl (by rw [HN.out]; rfl) HO0.out (HI.out.keep HB0.out) (by simp; have := HN.out; omega) (by simp) ?_; intro v1 w1 ho1 hb1)
    go_ret
    exact ⟨MkRes.of ho1.new, HB0.out.trans hb1⟩
theorem breakO (t : Int) (w : World) : Calls Try.prog 113 #[.agg #[.int .i64 t]] w fun e w' => e = .returned (.agg #[.int .i64 1, .int .i64 t, .int .i64 0, .slice none 0 0]) ∧ Below w.heap.size w w' := by
  go_enter Try.func113, Try.ntmps113
  go_wp2
  exact bodyPost_ret (v := .agg #[.int .i64 1, .int .i64 t, .int .i64 0, .slice none 0 0]) (by simp [results, Try.results113, go_sem]) rfl ⟨rfl, ((Below.refl w.heap.size w).alloc (Nat.le_refl _) _).alloc (by simp) _⟩
theorem breakH (t o : Int) (w : World) : Calls Try.prog 114 #[.agg #[.int .i64 t, .int .i64 o]] w fun e w' => e = .returned (.agg #[.int .i64 2, .int .i64 t, .int .i64 o, .slice none 0 0]) ∧ Below w.heap.size w w' := by
  go_enter Try.func114, Try.ntmps114
  go_wp2
  exact bodyPost_ret (v := .agg #[.int .i64 2, .int .i64 t, .int .i64 o, .slice none 0 0]) (by simp [results, Try.results114, go_sem]) rfl ⟨rfl, ((Below.refl w.heap.size w).alloc (Nat.le_refl _) _).alloc (by simp) _⟩
theorem breakC (t : Int) (a : Option Addr) (n cap : Nat) (w : World) : Calls Try.prog 115 #[.agg #[.int .i64 t, .slice a n cap]] w fun e w' => e = .returned (.agg #[.int .i64 0, .int .i64 t, .int .i64 0, .slice a n cap]) ∧ Below w.heap.size w w' := by
  go_enter Try.func115, Try.ntmps115
  go_wp2
  exact bodyPost_ret (v := .agg #[.int .i64 0, .int .i64 t, .int .i64 0, .slice a n cap]) (by simp [results, Try.results115, go_sem]) rfl ⟨rfl, ((Below.refl w.heap.size w).alloc (Nat.le_refl _) _).alloc (by simp) _⟩
def CondR (w : World) (base : Nat) (t : Int) (l : List Mk) (e : Ending) : Prop := ∃ a c, e = .returned (.iface 139 (.agg #[.int .i64 t, .slice a l.length c])) ∧ MkNew w base (.slice a l.length c) l
theorem condO (t o : Int) (a : Option Addr) (n cap : Nat) (w : World) : Calls Try.prog 64 #[.agg #[.int .i64 1, .int .i64 t, .int .i64 o, .slice a n cap]] w fun e w' => e = .returned (.iface 134 (.agg #[.int .i64 t])) ∧ Below w.heap.size w w' := by
  go_enter Try.func64, Try.ntmps64
  go_wp2
  go_ret
  exact ⟨rfl, (Below.refl _ _).alloc (Nat.le_refl _) _⟩
theorem condH (t o : Int) (a : Option Addr) (n cap : Nat) (w : World) : Calls Try.prog 64 #[.agg #[.int .i64 2, .int .i64 t, .int .i64 o, .slice a n cap]] w fun e w' => e = .returned (.iface 136 (.agg #[.int .i64 t, .int .i64 o])) ∧ Below w.heap.size w w' := by
  go_enter Try.func64, Try.ntmps64
  go_wp2
  go_ret
  exact ⟨rfl, (Below.refl _ _).alloc (Nat.le_refl _) _⟩
set_option maxRecDepth 100000 in
set_option maxHeartbeats 4000000 in
theorem condC (t o : Int) (a : Option Addr) (cap : Nat) (l : List Mk) (hl : l.length ≤ 1048576) (w : World) (hi : MkIn w a l) : Calls Try.prog 64 #[.agg #[.int .i64 0, .int .i64 t, .int .i64 o, .slice a l.length cap]] w fun e w' => CondR w' w.heap.size t l e ∧ Below w.heap.size w w' := by
  obtain ⟨W, hW⟩ : ∃ W, W = w.alloc (.cells #[.int .i64 0, .int .i64 t, .int .i64 o, .slice a l.length cap] 51) := ⟨_, rfl⟩
  have HW : Hid (W = w.alloc (.cells #[.int .i64 0, .int .i64 t, .int .i64 o, .slice a l.length cap] 51)) := hW
  have bW : Below w.heap.size w W := by rw [hW]; exact (Below.refl _ _).alloc (Nat.le_refl _) _
  have f0 : S4 W w.heap.size (.int .i64 0) (.int .i64 t) (.int .i64 o) (.slice a l.length cap) := by rw [hW]; exact S4.new _ _ _ _ _ _
  have HC : Hid (∀ X, Below W.heap.size W X → Calls Try.prog 89 #[.slice a l.length cap] X fun e w' => MkRes w' X.heap.size l e ∧ Below X.heap.size X w') := fun X hX => cloneMk_any X a cap l hl ((hi.keep bW).keep hX)
  have HKS : Hid (∀ X, Below W.heap.size W X → X.cell? ⟨w.heap.size, 1, none⟩ = some (.int .i64 t) ∧ X.cell? ⟨w.heap.size, 3, none⟩ = some (.slice a l.length cap)) := fun X hX => ⟨(f0.keep hX).c1, (f0.keep hX).c3⟩
  have HBW : Hid (Below w.heap.size w W) := bW
  have B0 : Hid (Below W.heap.size W W.drew) := (Below.refl _ _).drew
  clear hi hl hW bW f0
  obtain ⟨n, hn⟩ : ∃ n, l.length = n := ⟨_, rfl⟩
  have HN : Hid (l.length = n) := hn
  rw [hn] at HC HKS HW ⊢
  clear hn
  go_enter Try.func64, Try.ntmps64
  go_wp2_with fail
  rw [← HW.out]
  go_region_held3 (fun X => X.cell? ⟨w.heap.size, 1, none⟩ = some (.int .i64 t) ∧ X.cell? ⟨w.heap.size, 3, none⟩ = some (.slice a n cap))
    (first | exact HKS.out _ BA.out | exact HKS.out _ B0.out)
    (first
    | (go_at_call 89; refine (HC.out _ B0.out).mono ?_; rintro r0 wa ⟨⟨va, vc, rfl, ma⟩, hba⟩; rw [HN.out] at ma ⊢; have BA : Hid (Below W.heap.size W wa) := B0.out.trans (hba.mono B0.out.size); have MA : Hid (MkNew wa w.heap.size (.slice va n vc) l) := ma.lower (Nat.le_trans HBW.out.size B0.out.size); clear hba ma))
  all_goals
    have KZ : Hid (Below w.heap.size w wa) := HBW.out.trans (BA.out.mono HBW.out.size)
    clear HKS B0 BA HC HW HBW
    go_wp2_with fail
    go_ret
    exact ⟨⟨va, vc, by rw [HN.out]; rfl, by rw [HN.out]; exact MA.out⟩, KZ.out⟩
set_option maxHeartbeats 1000000 in
theorem askO_no (t : Int) (a0 a1 a2 a3 a4 now : Int) (ht : 0 ≤ t ∧ t ≤ now ∧ now ≤ 1000000000000000) (hx : now - t < a3) (w : World) : Calls Try.prog 63 #[.iface 134 (.agg #[.int .i64 t]), .agg #[.int .i64 a0, .int .i64 a1, .int .i64 a2, .int .i64 a3, .int .i64 a4], .int .i64 now] w fun e w' => e = .returned (.tuple #[.iface 134 (.agg #[.int .i64 t]), .bool false]) ∧ Below w.heap.size w w' := by
  have q1 := asOO
  go_enter Try.func63, Try.ntmps63
  go_wp2
  exact bodyPost_ret (v := .tuple #[.iface 134 (.agg #[.int .i64 t]), .bool false]) (by simp [results, Try.results63, go_sem]) rfl ⟨rfl, by first | exact ((Below.refl _ _).alloc (Nat.le_refl _) _).alloc (by simp) _ | exact (Below.refl _ _).alloc (Nat.le_refl _) _⟩
set_option maxHeartbeats 1000000 in
theorem askO_yes (t : Int) (a0 a1 a2 a3 a4 now : Int) (ht : 0 ≤ t ∧ t ≤ now ∧ now ≤ 1000000000000000) (hx : ¬ now - t < a3) (w : World) : Calls Try.prog 63 #[.iface 134 (.agg #[.int .i64 t]), .agg #[.int .i64 a0, .int .i64 a1, .int .i64 a2, .int .i64 a3, .int .i64 a4], .int .i64 now] w fun e w' => e = .returned (.tuple #[.iface 136 (.agg #[.int .i64 t, .int .i64 1]), .bool true]) ∧ Below w.heap.size w w' := by
  have q1 := asOO
  go_enter Try.func63, Try.ntmps63
  go_wp2
  exact bodyPost_ret (v := .tuple #[.iface 136 (.agg #[.int .i64 t, .int .i64 1]), .bool true]) (by simp [results, Try.results63, go_sem]) rfl ⟨rfl, by first | exact ((Below.refl _ _).alloc (Nat.le_refl _) _).alloc (by simp) _ | exact (Below.refl _ _).alloc (Nat.le_refl _) _⟩
set_option maxHeartbeats 1000000 in
theorem askH_no (t o : Int) (a0 a1 a2 a3 a4 now : Int) (hx : a4 ≤ o) (w : World) : Calls Try.prog 63 #[.iface 136 (.agg #[.int .i64 t, .int .i64 o]), .agg #[.int .i64 a0, .int .i64 a1, .int .i64 a2, .int .i64 a3, .int .i64 a4], .int .i64 now] w fun e w' => e = .returned (.tuple #[.iface 136 (.agg #[.int .i64 t, .int .i64 o]), .bool false]) ∧ Below w.heap.size w w' := by
  have q1 := asHO
  have q2 := asHH
  go_enter Try.func63, Try.ntmps63
  go_wp2
  exact bodyPost_ret (v := .tuple #[.iface 136 (.agg #[.int .i64 t, .int .i64 o]), .bool false]) (by simp [results, Try.results63, go_sem]) rfl ⟨rfl, by first | exact ((Below.refl _ _).alloc (Nat.le_refl _) _).alloc (by simp) _ | exact (Below.refl _ _).alloc (Nat.le_refl _) _⟩
set_option maxHeartbeats 1000000 in
theorem askH_yes (t o : Int) (a0 a1 a2 a3 a4 now : Int) (ho : 0 ≤ o ∧ o ≤ 5) (hx : ¬ a4 ≤ o) (w : World) : Calls Try.prog 63 #[.iface 136 (.agg #[.int .i64 t, .int .i64 o]), .agg #[.int .i64 a0, .int .i64 a1, .int .i64 a2, .int .i64 a3, .int .i64 a4], .int .i64 now] w fun e w' => e = .returned (.tuple #[.iface 136 (.agg #[.int .i64 t, .int .i64 (o + 1)]), .bool true]) ∧ Below w.heap.size w w' := by
  have q1 := asHO
  have q2 := asHH
  go_enter Try.func63, Try.ntmps63
  go_wp2
  exact bodyPost_ret (v := .tuple #[.iface 136 (.agg #[.int .i64 t, .int .i64 (o + 1)]), .bool true]) (by simp [results, Try.results63, go_sem]) rfl ⟨rfl, by first | exact ((Below.refl _ _).alloc (Nat.le_refl _) _).alloc (by simp) _ | exact (Below.refl _ _).alloc (Nat.le_refl _) _⟩
set_option maxHeartbeats 1000000 in
theorem askC_all (v : Value) (a0 a1 a2 a3 a4 now : Int)  (w : World) : Calls Try.prog 63 #[.iface 139 v, .agg #[.int .i64 a0, .int .i64 a1, .int .i64 a2, .int .i64 a3, .int .i64 a4], .int .i64 now] w fun e w' => e = .returned (.tuple #[.iface 139 v, .bool true]) ∧ Below w.heap.size w w' := by
  have q1 := asCO
  have q2 := asCH
  go_enter Try.func63, Try.ntmps63
  go_wp2
  exact bodyPost_ret (v := .tuple #[.iface 139 v, .bool true]) (by simp [results, Try.results63, go_sem]) rfl ⟨rfl, by first | exact ((Below.refl _ _).alloc (Nat.le_refl _) _).alloc (by simp) _ | exact (Below.refl _ _).alloc (Nat.le_refl _) _⟩
end Go.Proofs.Ytmgidcigihpbeaa
