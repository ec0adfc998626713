/-
  Texts of one claim, one behind the other.
-/
import Derived.ChangeArms
import Derived.Deep.RegionHeld3
import Derived.LaidEql
import Derived.MakeChecks
import Derived.RowKitTokens
import Derived.Stop.Asserts
import Derived.Stop.LaidErr
import Derived.Test.YtojcjpdgjohldaaDoorMrA
/-
  errors.Is at a sentinel: the same one, none, another one.
-/
namespace Go.Proofs.YtojcjpdgjohldaaDoor
open Go.RowKit Go.Extern.Stop Go.Stop Go.Extern
theorem erTypeOf (v : Value) (w : World) : (Extern.ReflectliteType.typeOf #[.iface 133 v]).run Tryd.prog w = .ok (.iface 91 (.agg #[.pointer (some ⟨8, 133, none⟩)])) w := by kernel_rfl
noncomputable def erM (t : TypeId) : Sem Value := do Go.Extern.Rtype.noPackHeld "Comparable" t; pure (.bool (← typeInfo t).comparable)
theorem erComparable (w : World) : (Extern.ReflectliteType.method erM #[.agg #[.pointer (some ⟨8, 133, none⟩)]]).run Tryd.prog w = .ok (.bool true) w := by kernel_rfl
theorem erMethod (v : Value) (w : World) : (Go.method 268 91 v "Comparable").run Tryd.prog w = .ok (114, v) w := by kernel_rfl
theorem erComp : (Tryd.prog.info? 133).map (·.comparable) = some true := by kernel_rfl
theorem erSize : (Tryd.prog.info? 157).map (·.size) = some 1 := by kernel_rfl
theorem erNoIs (v : Value) (xT : TypeId) (w : World) : (Instr.typeAssert (.iface 133 v) xT 93 true).run Tryd.prog w = .ok (.tuple #[.nilIface, .bool false]) w := run_typeAssert_lacksB Tryd.underlying93 (by kernel_rfl) (by kernel_rfl) v xT w
theorem erNoUnwrap (v : Value) (xT : TypeId) (w : World) : (Instr.typeAssert (.iface 133 v) xT 96 true).run Tryd.prog w = .ok (.tuple #[.nilIface, .bool false]) w := run_typeAssert_lacksB Tryd.underlying96 (by kernel_rfl) (by kernel_rfl) v xT w
theorem erNoUnwraps (v : Value) (xT : TypeId) (w : World) : (Instr.typeAssert (.iface 133 v) xT 98 true).run Tryd.prog w = .ok (.tuple #[.nilIface, .bool false]) w := run_typeAssert_lacksB Tryd.underlying98 (by kernel_rfl) (by kernel_rfl) v xT w
set_option maxRecDepth 100000 in
theorem is_same (a : Addr) (w : World) :
    Calls Tryd.prog 36 #[.iface 133 (.pointer (some a)), .iface 133 (.pointer (some a))] w fun e w' => e = .returned (.bool true) ∧ w' = w := by
  obtain ⟨i, hi, hcmp⟩ := Option.map_eq_some_iff.1 erComp
  obtain ⟨j, hj, hjs⟩ := Option.map_eq_some_iff.1 erSize
  have h8 := @run_callFunc_extern Tryd.prog 48 _ Extern.ReflectliteType.typeOf Tryd.func48 (by kernel_rfl) (by kernel_rfl) (by kernel_rfl) (by kernel_rfl)
  have h32 := @run_callFunc_extern Tryd.prog 114 _ (Extern.ReflectliteType.method erM) Tryd.func114 (by kernel_rfl) (by kernel_rfl) (by kernel_rfl) (by kernel_rfl)
  have tT := erTypeOf
  have cT := erComparable
  have mR := erMethod
  have heq := run_eql_iface_ptr_same (P := Tryd.prog) w a Tryd.underlying51 Tryd.underlying133 hi hcmp hj
  go_enter Tryd.func36, Tryd.ntmps36
  go_wp2
  refine wp_loop_rounds 1 ?_
  rw [rounds_succ]
  go_wp2
  go_ret
  exact ⟨rfl, rfl⟩
set_option maxRecDepth 100000 in
theorem is_other (a b : Addr) (ca cb : Array Value) (ta tb : TypeId) (w : World) (hne : a ≠ b) (ha : w.heap[a.block]? = some (.cells ca ta (0, 0))) (hb : w.heap[b.block]? = some (.cells cb tb (0, 0))) :
    Calls Tryd.prog 36 #[.iface 133 (.pointer (some a)), .iface 133 (.pointer (some b))] w fun e w' => e = .returned (.bool false) ∧ w' = w := by
  obtain ⟨i, hi, hcmp⟩ := Option.map_eq_some_iff.1 erComp
  obtain ⟨j, hj, hjs⟩ := Option.map_eq_some_iff.1 erSize
  have h8 := @run_callFunc_extern Tryd.prog 48 _ Extern.ReflectliteType.typeOf Tryd.func48 (by kernel_rfl) (by kernel_rfl) (by kernel_rfl) (by kernel_rfl)
  have h32 := @run_callFunc_extern Tryd.prog 114 _ (Extern.ReflectliteType.method erM) Tryd.func114 (by kernel_rfl) (by kernel_rfl) (by kernel_rfl) (by kernel_rfl)
  have tT := erTypeOf
  have cT := erComparable
  have mR := erMethod
  have nE := erNoIs
  have uE := erNoUnwrap
  have vE := erNoUnwraps
  have heq := run_eql_iface_ptr_other (P := Tryd.prog) w Tryd.underlying51 Tryd.underlying133 hi hcmp hj (by rw [hjs]; decide) hne ha hb
  go_enter Tryd.func36, Tryd.ntmps36
  go_wp2
  refine wp_loop_rounds 1 ?_
  rw [rounds_succ]
  go_wp2
  go_ret
  exact ⟨rfl, rfl⟩
end Go.Proofs.YtojcjpdgjohldaaDoor
/-
  The four errors of chapter 5 in memory: what the row's list gives of them; codeOf.
-/
namespace Go.Proofs.YtojcjpdgjohldaaDoor
open Go.ChangeShapes Go.WideShapes Go.ChangeAt Go.RowKit
theorem laid_sentinels4 {P : Program} {n0 n1 n2 n3 nm : String} {x0 x1 x2 x3 : List UInt8} {r : List (String × DataW Unit)} {W : World} {g0 g1 g2 g3 : Nat} {ti tp te ts : TypeId} {ms : Array (String × TypeId)} {f : Field}
    (h : laidMet P ((n0, .iface nm (.ptr (.agg [.lit (.string x0)]))) :: (n1, .iface nm (.ptr (.agg [.lit (.string x1)]))) :: (n2, .iface nm (.ptr (.agg [.lit (.string x2)]))) :: (n3, .iface nm (.ptr (.agg [.lit (.string x3)]))) :: r) W)
    (hg0 : P.globalNamed n0 = some g0) (ht0 : (P.globals[g0]?).map (·.type) = some ti) (hg1 : P.globalNamed n1 = some g1) (ht1 : (P.globals[g1]?).map (·.type) = some ti) (hg2 : P.globalNamed n2 = some g2) (ht2 : (P.globals[g2]?).map (·.type) = some ti) (hg3 : P.globalNamed n3 = some g3) (ht3 : (P.globals[g3]?).map (·.type) = some ti)
    (hi : P.underlying ti = some (.interface ms)) (hrow : ∀ u, P.typeName? 3 u = some nm → u = tp) (hp : P.underlying tp = some (.pointer te)) (he : P.underlying te = some (.struct #[f])) (hft : f.type = ts) (hfo : f.offset = 0) (hs : P.underlying ts = some .string) (hc : P.cellsOf te = 1) (hcs : P.cellsOf ts = 1) :
    ∃ a0 a1 a2 a3 : Addr, (W.var? P n0 = some #[.iface tp (.pointer (some a0))] ∧ W.var? P n1 = some #[.iface tp (.pointer (some a1))] ∧ W.var? P n2 = some #[.iface tp (.pointer (some a2))] ∧ W.var? P n3 = some #[.iface tp (.pointer (some a3))]) ∧
      (a0 ≠ a1 ∧ a0 ≠ a2 ∧ a0 ≠ a3 ∧ a1 ≠ a2 ∧ a1 ≠ a3 ∧ a2 ≠ a3) ∧
      (∃ c t, W.heap[a0.block]? = some (.cells c t (0, 0))) ∧ (∃ c t, W.heap[a1.block]? = some (.cells c t (0, 0))) ∧ (∃ c t, W.heap[a2.block]? = some (.cells c t (0, 0))) ∧ (∃ c t, W.heap[a3.block]? = some (.cells c t (0, 0))) := by
  obtain ⟨ps, ⟨g0', t0', cs0, f0, p0, q0, hg0', ht0', hv0, hd0, ⟨g1', t1', cs1, f1, p1, q1, hg1', ht1', hv1, hd1, ⟨g2', t2', cs2, f2, p2, q2, hg2', ht2', hv2, hd2, ⟨g3', t3', cs3, f3, p3, q3, hg3', ht3', hv3, hd3, _, e3⟩, e2⟩, e1⟩, e0⟩, hnd, hrows⟩ := h
  obtain rfl := Option.some.inj (hg0.symm.trans hg0')
  obtain rfl := Option.some.inj (hg1.symm.trans hg1')
  obtain rfl := Option.some.inj (hg2.symm.trans hg2')
  obtain rfl := Option.some.inj (hg3.symm.trans hg3')
  obtain rfl := Option.some.inj (ht0.symm.trans ht0')
  obtain rfl := Option.some.inj (ht1.symm.trans ht1')
  obtain rfl := Option.some.inj (ht2.symm.trans ht2')
  obtain rfl := Option.some.inj (ht3.symm.trans ht3')
  subst e3
  subst e2
  subst e1
  subst e0
  obtain ⟨l0⟩ := cs0
  obtain ⟨l1⟩ := cs1
  obtain ⟨l2⟩ := cs2
  obtain ⟨l3⟩ := cs3
  have ok0 : ∀ u v, l0 = [.iface u v] → Value.okWide P W .any 0 u v := fun u v e => by
    subst e
    exact (hrows g0 0 (by simp [MemPlace.row])).2 u v (by simpa using World.var?_cell hg0' hv0 0)
  have ok1 : ∀ u v, l1 = [.iface u v] → Value.okWide P W .any 0 u v := fun u v e => by
    subst e
    exact (hrows g1 0 (by simp [MemPlace.row])).2 u v (by simpa using World.var?_cell hg1' hv1 0)
  have ok2 : ∀ u v, l2 = [.iface u v] → Value.okWide P W .any 0 u v := fun u v e => by
    subst e
    exact (hrows g2 0 (by simp [MemPlace.row])).2 u v (by simpa using World.var?_cell hg2' hv2 0)
  have ok3 : ∀ u v, l3 = [.iface u v] → Value.okWide P W .any 0 u v := fun u v e => by
    subst e
    exact (hrows g3 0 (by simp [MemPlace.row])).2 u v (by simpa using World.var?_cell hg3' hv3 0)
  obtain ⟨a0, s0, rfl, hc0, hs0, hz0, rfl⟩ := errorString_of_trod hi hrow hp he hft hfo hs hc hcs hd0 ok0
  obtain ⟨a1, s1, rfl, hc1, hs1, hz1, rfl⟩ := errorString_of_trod hi hrow hp he hft hfo hs hc hcs hd1 ok1
  obtain ⟨a2, s2, rfl, hc2, hs2, hz2, rfl⟩ := errorString_of_trod hi hrow hp he hft hfo hs hc hcs hd2 ok2
  obtain ⟨a3, s3, rfl, hc3, hs3, hz3, rfl⟩ := errorString_of_trod hi hrow hp he hft hfo hs hc hcs hd3 ok3
  have b0 := (hrows a0.block a0.off (by simp [MemPlace.row])).1
  have b1 := (hrows a1.block a1.off (by simp [MemPlace.row])).1
  have b2 := (hrows a2.block a2.off (by simp [MemPlace.row])).1
  have b3 := (hrows a3.block a3.off (by simp [MemPlace.row])).1
  refine ⟨a0, a1, a2, a3, ⟨hv0, hv1, hv2, hv3⟩, ⟨?_, ?_, ?_, ?_, ?_, ?_⟩, b0, b1, b2, b3⟩
  all_goals (rintro rfl; simp [MemPlace.row] at hnd)
structure Errs where
  u : Addr
  m : Addr
  b : Addr
  d : Addr
/-- The four variables hold pointers to four errors of errors.New's make. -/
structure ErrsIs (w : World) (E : Errs) : Prop where
  gU : w.cell? ⟨3, 0, none⟩ = some (.iface 133 (.pointer (some E.u)))
  gM : w.cell? ⟨0, 0, none⟩ = some (.iface 133 (.pointer (some E.m)))
  gB : w.cell? ⟨1, 0, none⟩ = some (.iface 133 (.pointer (some E.b)))
  gD : w.cell? ⟨2, 0, none⟩ = some (.iface 133 (.pointer (some E.d)))
  ne : E.u ≠ E.m ∧ E.u ≠ E.b ∧ E.u ≠ E.d ∧ E.m ≠ E.b ∧ E.m ≠ E.d ∧ E.b ≠ E.d
  hU : ∃ c t, w.heap[E.u.block]? = some (.cells c t (0, 0))
  hM : ∃ c t, w.heap[E.m.block]? = some (.cells c t (0, 0))
  hB : ∃ c t, w.heap[E.b.block]? = some (.cells c t (0, 0))
  hD : ∃ c t, w.heap[E.d.block]? = some (.cells c t (0, 0))
theorem ErrsIs.below {w w' : World} {E : Errs} (h : ErrsIs w E) (hb : Below w.heap.size w w') : ErrsIs w' E := by
  have hc : ∀ {g : Nat} {v : Value}, w.cell? ⟨g, 0, none⟩ = some v → w'.cell? ⟨g, 0, none⟩ = some v := fun {g v} e => by rw [hb.cell (block_lt_of_cell e)]; exact e
  have hh : ∀ {a : Addr}, (∃ c t, w.heap[a.block]? = some (.cells c t (0, 0))) → ∃ c t, w'.heap[a.block]? = some (.cells c t (0, 0)) := fun {a} ⟨c, t, e⟩ => ⟨c, t, by rw [hb.block a.block (Array.getElem?_eq_some_iff.1 e).1]; exact e⟩
  exact ⟨hc h.gU, hc h.gM, hc h.gB, hc h.gD, h.ne, hh h.hU, hh h.hM, hh h.hB, hh h.hD⟩
theorem erRow (u : TypeId) (h : Tryd.prog.typeName? 3 u = some "*errors.errorString") : u = 133 :=
  typeName_ptr_named (nm := "errors.errorString") (by rw [show "*" ++ "errors.errorString" = "*errors.errorString" from by decide]; kernel_rfl) (by kernel_rfl) (by decide) u (by rw [show "*" ++ "errors.errorString" = "*errors.errorString" from by decide]; exact h)
theorem erNamedU : Tryd.prog.globalNamed "loop.example/g00665/impl.errUnread" = some 3 := by kernel_rfl
theorem erTypeU : (Tryd.prog.globals[3]?).map (·.type) = some 51 := by kernel_rfl
theorem erNamedM : Tryd.prog.globalNamed "loop.example/g00665/impl.errTooMany" = some 0 := by kernel_rfl
theorem erTypeM : (Tryd.prog.globals[0]?).map (·.type) = some 51 := by kernel_rfl
theorem erNamedB : Tryd.prog.globalNamed "loop.example/g00665/impl.errBeyond" = some 1 := by kernel_rfl
theorem erTypeB : (Tryd.prog.globals[1]?).map (·.type) = some 51 := by kernel_rfl
theorem erNamedD : Tryd.prog.globalNamed "loop.example/g00665/impl.errDouble" = some 2 := by kernel_rfl
theorem erTypeD : (Tryd.prog.globals[2]?).map (·.type) = some 51 := by kernel_rfl
theorem errsIs_of {w : World} {rest : List (String × DataW Unit)} (h : laidMet Tryd.prog (("loop.example/g00665/impl.errUnread", Rows.laid_loop_example_g00665_impl_errUnread) :: ("loop.example/g00665/impl.errTooMany", Rows.laid_loop_example_g00665_impl_errTooMany) :: ("loop.example/g00665/impl.errBeyond", Rows.laid_loop_example_g00665_impl_errBeyond) :: ("loop.example/g00665/impl.errDouble", Rows.laid_loop_example_g00665_impl_errDouble) :: rest) w) : ∃ E, ErrsIs w E := by
  obtain ⟨a0, a1, a2, a3, ⟨v0, v1, v2, v3⟩, hne, h0, h1, h2, h3⟩ := laid_sentinels4 h erNamedU erTypeU erNamedM erTypeM erNamedB erTypeB erNamedD erTypeD Tryd.underlying51 erRow Tryd.underlying133 Tryd.underlying157 rfl rfl Tryd.underlying9 (by kernel_rfl) (by kernel_rfl)
  exact ⟨⟨a0, a1, a2, a3⟩, by simpa using World.var?_cell erNamedU v0 0, by simpa using World.var?_cell erNamedM v1 0, by simpa using World.var?_cell erNamedB v2 0, by simpa using World.var?_cell erNamedD v3 0, hne, h0, h1, h2, h3⟩
/-- The error of a code. -/
def errV (E : Errs) (c : Int) : Value := if c = 0 then .nilIface else if c = 2 then .iface 133 (.pointer (some E.m)) else if c = 3 then .iface 133 (.pointer (some E.b)) else if c = 6 then .iface 133 (.pointer (some E.d)) else .iface 133 (.pointer (some E.u))
theorem errV0 (E : Errs) : errV E 0 = .nilIface := rfl
theorem errV2 (E : Errs) : errV E 2 = .iface 133 (.pointer (some E.m)) := rfl
theorem errV3 (E : Errs) : errV E 3 = .iface 133 (.pointer (some E.b)) := rfl
theorem errV5 (E : Errs) : errV E 5 = .iface 133 (.pointer (some E.u)) := rfl
theorem errV6 (E : Errs) : errV E 6 = .iface 133 (.pointer (some E.d)) := rfl
end Go.Proofs.YtojcjpdgjohldaaDoor
/-
  codeOf and headError.
-/
namespace Go.Proofs.YtojcjpdgjohldaaDoor
open Go.ChangeShapes Go.WideShapes Go.ChangeAt Go.RowKit
set_option maxHeartbeats 1000000 in
theorem codeOf_any (E : Errs) (c : Int) (w : World) (hE : ErrsIs w E) (hc : c = 0 ∨ c = 2 ∨ c = 3 ∨ c = 5 ∨ c = 6) :
    Calls Tryd.prog 21 #[errV E c] w fun e w' => e = .returned (.int .i64 c) ∧ w' = w := by
  obtain ⟨gU, gM, gB, gD, ⟨n1, n2, n3, n4, n5, n6⟩, ⟨cu, tu, hU⟩, ⟨cm, tm, hM⟩, ⟨cb, tb, hB⟩, ⟨cd, td, hD⟩⟩ := hE
  rcases hc with rfl | rfl | rfl | rfl | rfl
  · rw [errV0]
    go_enter Tryd.func21, Tryd.ntmps21
    go_wp2_with fail
    go_ret
    exact ⟨rfl, rfl⟩
  · rw [errV2]
    have I1 := is_same E.m w
    go_enter Tryd.func21, Tryd.ntmps21
    go_wp2_with fail
    refine I1.mono ?_
    rintro e w' ⟨rfl, rfl⟩
    go_wp2_with fail
    go_ret
    exact ⟨rfl, rfl⟩
  · rw [errV3]
    have I1 := is_other E.b E.m cb cm tb tm w (Ne.symm n4) hB hM
    have I2 := is_same E.b w
    go_enter Tryd.func21, Tryd.ntmps21
    go_wp2_with fail
    refine I1.mono ?_
    rintro e w' ⟨rfl, rfl⟩
    go_wp2_with fail
    refine I2.mono ?_
    rintro e w' ⟨rfl, rfl⟩
    go_wp2_with fail
    go_ret
    exact ⟨rfl, rfl⟩
  · rw [errV5]
    have I1 := is_other E.u E.m cu cm tu tm w n1 hU hM
    have I2 := is_other E.u E.b cu cb tu tb w n2 hU hB
    have I3 := is_other E.u E.d cu cd tu td w n3 hU hD
    go_enter Tryd.func21, Tryd.ntmps21
    go_wp2_with fail
    refine I1.mono ?_
    rintro e w' ⟨rfl, rfl⟩
    go_wp2_with fail
    refine I2.mono ?_
    rintro e w' ⟨rfl, rfl⟩
    go_wp2_with fail
    refine I3.mono ?_
    rintro e w' ⟨rfl, rfl⟩
    go_wp2_with fail
    go_ret
    exact ⟨rfl, rfl⟩
  · rw [errV6]
    have I1 := is_other E.d E.m cd cm td tm w (Ne.symm n5) hD hM
    have I2 := is_other E.d E.b cd cb td tb w (Ne.symm n6) hD hB
    have I3 := is_same E.d w
    go_enter Tryd.func21, Tryd.ntmps21
    go_wp2_with fail
    refine I1.mono ?_
    rintro e w' ⟨rfl, rfl⟩
    go_wp2_with fail
    refine I2.mono ?_
    rintro e w' ⟨rfl, rfl⟩
    go_wp2_with fail
    refine I3.mono ?_
    rintro e w' ⟨rfl, rfl⟩
    go_wp2_with fail
    go_ret
    exact ⟨rfl, rfl⟩
set_option maxHeartbeats 1000000 in
theorem headError_any (E : Errs) (c : Int) (w : World) (hE : ErrsIs w E) (hc : c = 0 ∨ c = 2 ∨ c = 5) :
    Calls Tryd.prog 39 #[.int .i64 c] w fun e w' => e = .returned (errV E c) ∧ w' = w := by
  have gM := hE.gM
  have gU := hE.gU
  rcases hc with rfl | rfl | rfl
  · rw [errV0]
    go_enter Tryd.func39, Tryd.ntmps39
    go_wp2
    go_ret
    exact ⟨rfl, rfl⟩
  · rw [errV2]
    go_enter Tryd.func39, Tryd.ntmps39
    go_wp2
    go_ret
    exact ⟨rfl, rfl⟩
  · rw [errV5]
    go_enter Tryd.func39, Tryd.ntmps39
    go_wp2
    go_ret
    exact ⟨rfl, rfl⟩
end Go.Proofs.YtojcjpdgjohldaaDoor
/-
  What JoinHeader answers.
-/
namespace Go.Proofs.YtojcjpdgjohldaaDoor
open Go.ChangeShapes Go.WideShapes Go.ChangeAt Go.RowKit Go.Sort
theorem HeadsAt.drop {w : World} {b off : Nat} {l : List Hdr} (h : HeadsAt w b off l) (i : Nat) : HeadsAt w b (off + i * 2) (l.drop i) := by
  intro j r hr
  rw [List.getElem?_drop] at hr
  obtain ⟨a, c⟩ := h (i + j) r hr
  rw [show off + (i + j) * 2 = off + i * 2 + j * 2 from by omega] at a c
  exact ⟨a, c⟩
theorem hjoinL_len (vs : List ByteArray) (h : ∀ v ∈ vs, v.size ≤ 200) : (hjoinL vs).length ≤ vs.length * 202 := by
  unfold hjoinL
  cases vs with
  | nil => simp [Lib.join, List.intercalate]
  | cons x r =>
    rw [List.map_cons, Lib.join_length]
    have hl : ∀ (l : List ByteArray), (∀ v ∈ l, v.size ≤ 200) → Lib.lens (l.map (·.data.toList)) ≤ l.length * 200 := by
      intro l
      induction l with
      | nil => intro _; simp [Lib.lens]
      | cons y l ih =>
        intro hy
        have h1 := ih fun v hv => hy v (by simp [hv])
        have h2 := hy y (by simp)
        have h3 : y.data.toList.length = y.size := by simp
        simp only [List.map_cons, Lib.lens, List.length_cons, List.sum_cons] at h1 ⊢
        omega
    have := hl (x :: r) h
    rw [List.map_cons] at this
    simp only [List.length_cons, List.length_map, List.length_nil] at this ⊢
    omega
theorem valsOf_mem {x : ByteArray} {l : List Hdr} (hz : ∀ (i : Nat) r, l[i]? = some r → r.name.size ≤ 64 ∧ r.value.size ≤ 200) : ∀ v ∈ valsOf x l, v.size ≤ 200 := by
  intro v hv
  obtain ⟨r, hr, rfl⟩ := List.mem_map.1 hv
  obtain ⟨i, hi⟩ := List.getElem?_of_mem (List.mem_filter.1 hr).1
  exact (hz i r hi).2
theorem valsOf_len (x : ByteArray) (l : List Hdr) : (valsOf x l).length ≤ l.length := by
  unfold valsOf
  rw [List.length_map]
  exact List.length_filter_le _ _
set_option maxRecDepth 100000 in
set_option maxHeartbeats 8000000 in
theorem implJoin_found (w : World) (b off cap : Nat) (l : List Hdr) (name : ByteArray) (i : Nat) (h0 : askC l name = 0) (hf : firstAt (lowS name) l = some i) (hcap : l.length ≤ cap) (hset : SetIs w) (hat : HeadsAt w b off l) :
    Calls Tryd.prog 41 #[.slice (some ⟨b, off, none⟩) l.length cap, .string name] w fun e w' => e = .returned (.agg #[.int .i64 0, .string ⟨(hjoinL (valsOf (lowS name) l)).toArray⟩]) ∧ Below w.heap.size w w' := by
  obtain ⟨h20, hz, hnm⟩ := asked h0
  have hi : HdsIn w (some ⟨b, off, none⟩) l := .inr ⟨b, off, rfl, hat⟩
  have HA : Hid (∀ W, Below w.heap.size w W → Calls Tryd.prog 55 #[.slice (some ⟨b, off, none⟩) l.length cap, .string name] W fun e w' => e = .returned (.int .i64 0) ∧ Below W.heap.size W w') := fun W hb => by
    have := namedFault_any W (some ⟨b, off, none⟩) cap l name (by omega) (hset.below hb) (hi.keep hb)
    rw [h0] at this
    exact this
  have HP : Hid (∀ W, Below w.heap.size w W → Calls Tryd.prog 57 #[.slice (some ⟨b, off, none⟩) l.length cap] W fun e w' => e = .returned (.map (some W.heap.size)) ∧ NamesMap w' W.heap.size 20 (fun x => firstAt x l) ∧ Below W.heap.size W w') := fun W hb => firstPlaces_any W _ cap l h20 (fun i r hr => (hz i r hr).1) (hi.keep hb)
  have HS : Hid (∀ W, Calls Tryd.prog 56 #[.string name] W fun e w' => e = .returned (.string (lowS name)) ∧ Below W.heap.size W w') := fun W => smallName_any name W (by omega)
  have hil := firstAt_lt hf
  have HV : Hid (valsOf (lowS name) (l.drop i) = valsOf (lowS name) l) := (valsOf_drop hf).1
  have HD : Hid (HeadsAt w b (off + i * 2) (l.drop i)) := hat.drop i
  have HZ : Hid (∀ (j : Nat) r, (l.drop i)[j]? = some r → r.name.size ≤ 64 ∧ r.value.size ≤ 200) := fun j r hr => by
    rw [List.getElem?_drop] at hr
    exact hz _ r hr
  have HF : Hid (firstAt (lowS name) l = some i) := hf
  have sz := lowS_size name
  have hJL : (hjoinL (valsOf (lowS name) l)).length ≤ 4040 := by
    have h1 := hjoinL_len _ (valsOf_mem (x := lowS name) hz)
    have h2 := valsOf_len (lowS name) l
    have h3 : (valsOf (lowS name) l).length * 202 ≤ 20 * 202 := Nat.mul_le_mul_right _ (by omega)
    omega
  have hVL : (valsOf (lowS name) l).length ≤ 20 := Nat.le_trans (valsOf_len _ _) h20
  generalize hM : l.drop i = M at *
  have hMl : M.length = l.length - i := by rw [← hM, List.length_drop]
  clear hi hz h0 hset hat hf hM
  generalize lowS name = q at *
  have hni : i < l.length := hil
  generalize hn : l.length = n at *
  have HN : Hid (M.length = n - i) := hMl
  clear hMl hil hn
  go_enter Tryd.func41, Tryd.ntmps41
  go_wp2_with fail
  refine (HA.out _ ((Below.refl _ _).alloc (Nat.le_refl _) _)).mono ?_
  rintro e w1 ⟨rfl, hb1⟩
  rw [World.size_alloc] at hb1
  have HB1 : Hid (Below (w.heap.size + 1) (w.alloc (.cells #[.int .i64 0, .string ⟨#[]⟩] 70)) w1) := hb1
  have hz1 : w.heap.size + 1 ≤ w1.heap.size := by have := hb1.size; rwa [World.size_alloc] at this
  clear hb1 HA
  go_wp2_with fail
  refine (HS.out _).mono ?_
  rintro e w2 ⟨rfl, hb2⟩
  have HB2 : Hid (Below (w.heap.size + 1) (w.alloc (.cells #[.int .i64 0, .string ⟨#[]⟩] 70)) w2) := HB1.out.trans (hb2.mono hz1)
  have hz2 : w.heap.size + 1 ≤ w2.heap.size := Nat.le_trans hz1 hb2.size
  clear hb2 HB1 HS hz1
  go_wp2_with fail
  refine (HP.out _ (text_room HB2.out).2.2.2.2.2).mono ?_
  rintro e w3 ⟨rfl, hm3, hb3⟩
  have HB3 : Hid (Below (w.heap.size + 1) (w.alloc (.cells #[.int .i64 0, .string ⟨#[]⟩] 70)) w3) := HB2.out.trans (hb3.mono hz2)
  have hz3 : w.heap.size + 1 ≤ w3.heap.size := Nat.le_trans hz2 hb3.size
  have HM3 : Hid (NamesMap w3 w2.heap.size 20 (fun x => firstAt x l)) := hm3
  clear hb3 HB2 hm3 HP hz2
  generalize w2.heap.size = B at *
  try clear w2
  have gi0 : (0 : Int) ≤ (i : Int) := by omega
  have gi1 : (i : Int) ≤ (n : Int) := by omega
  have gi2 : (n : Int) ≤ (cap : Int) := by omega
  go_wp2_with (at_lookup; refine wpList_look_some _ rfl _ _ rfl B 20 _ rfl HM3.out q rfl (by omega) i HF.out ?_)
  clear HM3
  have hm20 : n - i ≤ 20 := by omega
  generalize n - i = m at *
  go_loopw [9, 35] (fun v j wr => ∃ (k : Nat), k ≤ m ∧ j = .int .i64 k ∧ OwnS wr (w.heap.size + 1) v (valsOf q (M.take k)) ∧ Below (w.heap.size + 1) (w.alloc (.cells #[.int .i64 0, .string ⟨#[]⟩] 70)) wr) (fun _ j _ => m - (intOf j).toNat)
  case atStart => exact ⟨0, Nat.zero_le _, rfl, OwnS.nil _ _, HB3.out⟩
  case round =>
    obtain ⟨k, hk, rfl, ho, hb⟩ := hrel
    have HO : Hid (OwnS wr (w.heap.size + 1) u9 (valsOf q (M.take k))) := ho
    have hz : w.heap.size + 1 ≤ wr.heap.size := by have := hb.size; rwa [World.size_alloc] at this
    have hwr : Below w.heap.size w wr := ((Below.refl _ _).alloc (Nat.le_refl _) _).trans (hb.mono (Nat.le_succ _))
    clear ho HB3
    by_cases hlt : k < m
    · obtain ⟨r, hr⟩ : ∃ r, M[k]? = some r := ⟨M[k]'(by have := HN.out; omega), List.getElem?_eq_getElem _⟩
      obtain ⟨p1, p3⟩ := (HD.out.keep hwr) k r hr
      obtain ⟨z1, z2⟩ := HZ.out k r hr
      have HK : Hid (M.take (k + 1) = M.take k ++ [r]) := take_hdr hr
      have hlk : (valsOf q (M.take k)).length ≤ 20 := Nat.le_trans (valsOf_len _ _) (by rw [List.length_take]; omega)
      have gk : (k : Int) < m := by omega
      clear hr HD HZ hwr
      have KY := @valsOf_yes q r (M.take k)
      have KN := @valsOf_no q r (M.take k)
      obtain ⟨rn, rv⟩ := r
      simp only at p1 p3 z1 z2 KY KN
      have SN := fun w => smallName_any rn w (by omega)
      have HSN : Hid (∀ w, Calls Tryd.prog 56 #[.string rn] w fun e w' => e = .returned (.string (lowS rn)) ∧ Below w.heap.size w w') := SN
      clear SN
      by_cases he : lowS rn = q
      · have HX : Hid (valsOf q (M.take (k + 1)) = valsOf q (M.take k) ++ [rv]) := by show _ = _; rw [HK.out]; exact KY he
        rw [he] at HSN
        clear KY KN HK he
        generalize valsOf q (M.take k) = L at *
        go_wp2_with fail
        refine (HSN.out _).mono ?_
        rintro e w4 ⟨rfl, hb4⟩
        obtain ⟨hz4, c0, c1, kb⟩ := hdr_room hb4
        have HO4 : Hid (OwnS w4 (w.heap.size + 1) u9 L) := HO.out.below kb
        have HB4 : Hid (Below (w.heap.size + 1) (w.alloc (.cells #[.int .i64 0, .string ⟨#[]⟩] 70)) w4) := hb.trans (kb.mono hz)
        have hz5 : w.heap.size + 1 ≤ w4.heap.size := Nat.le_trans hz kb.size
        clear hb4 kb hb HO p1 p3
        go_wp2_with (at_builtin; refine wpList_append_str _ rfl (.tmp 44) (.tmp 47) rfl (w.heap.size + 1) _ L rv rfl rfl HO4.out (by omega) hz5 ?_; intro v6 w6 HO6 hb6 hz6)
        go_roundw
        case rel => exact ⟨k + 1, by omega, by go_num, by rw [HX.out]; exact HO6, HB4.out.trans hb6⟩
        case measure => simp [intOf]; omega
      · have HX : Hid (valsOf q (M.take (k + 1)) = valsOf q (M.take k)) := by show _ = _; rw [HK.out]; exact KN he
        have hq := hstr_ne he
        clear KY KN HK he
        generalize lowS rn = q2 at *
        generalize valsOf q (M.take k) = L at *
        go_wp2_with fail
        refine (HSN.out _).mono ?_
        rintro e w4 ⟨rfl, hb4⟩
        obtain ⟨hz4, c0, c1, kb⟩ := hdr_room hb4
        have HO4 : Hid (OwnS w4 (w.heap.size + 1) u9 L) := HO.out.below kb
        have HB4 : Hid (Below (w.heap.size + 1) (w.alloc (.cells #[.int .i64 0, .string ⟨#[]⟩] 70)) w4) := hb.trans (kb.mono hz)
        clear hb4 kb hb HO p1 p3
        go_wp2_with fail
        go_roundw
        case rel => exact ⟨k + 1, by omega, by go_num, by rw [HX.out]; exact HO4.out, HB4.out⟩
        case measure => simp [intOf]; omega
    · have ek : M.take k = M := List.take_of_length_le (by have := HN.out; omega)
      have HO2 := HO.out
      rw [ek, HV.out] at HO2
      have HJ := join_own wr _ u9 _ HO2 (by omega) (by show (hjoinL (valsOf q l)).length ≤ _; omega)
      have HT : Hid ((⟨(hjoinL (valsOf q l)).toArray⟩ : ByteArray).size ≤ 4040) := by show _ ≤ _; simpa [ByteArray.size] using hJL
      have HJ2 : Hid (Calls Tryd.prog 59 #[u9, .string ⟨#[44, 32]⟩] wr fun e w' => e = .returned (.string ⟨(hjoinL (valsOf q l)).toArray⟩) ∧ Below wr.heap.size wr w') := HJ
      obtain ⟨jt, HJT⟩ : ∃ jt, Hid ((⟨(hjoinL (valsOf q l)).toArray⟩ : ByteArray) = jt) := ⟨_, rfl⟩
      rw [HJT.out] at HT HJ2
      have hjt := HT.out
      have HBr : Hid (Below (w.heap.size + 1) (w.alloc (.cells #[.int .i64 0, .string ⟨#[]⟩] 70)) wr) := hb
      clear HT HJ HO2 HO ek hwr hb HD HZ
      go_wp2_with fail
      refine HJ2.out.mono ?_
      rintro e w4 ⟨rfl, hb4⟩
      go_wp2_with fail
      refine (hclone_any jt _ (by omega)).mono ?_
      rintro e w5 ⟨rfl, hb5⟩
      obtain ⟨hz6, q0, q1, f0, f1, kb⟩ := text_room (HBr.out.trans ((hb4.trans (hb5.mono hb4.size)).mono hz))
      obtain ⟨r0, r1⟩ := two_set (v0 := .int .i64 0) (v1 := .string jt) q0 q1
      clear hb4 hb5 HJ2 HBr
      go_wp2_with fail
      exact bodyPost_ret (v := .agg #[.int .i64 0, .string jt]) (by simp [results, Tryd.results41, go_sem, r0, r1]) rfl ⟨by rw [HJT.out], (kb.setCell (Nat.le_refl _) _).setCell (Nat.le_refl _) _⟩
set_option maxRecDepth 100000 in
set_option maxHeartbeats 4000000 in
theorem implJoin_any (w : World) (a : Option Addr) (cap : Nat) (l : List Hdr) (name : ByteArray) (hl : l.length ≤ 1048576) (hcap : l.length ≤ cap) (hset : SetIs w) (hi : HdsIn w a l) :
    Calls Tryd.prog 41 #[.slice a l.length cap, .string name] w fun e w' => e = .returned (.agg #[.int .i64 (joinC l name), .string (joinT l name)]) ∧ Below w.heap.size w w' := by
  have HA : Hid (∀ W, Below w.heap.size w W → Calls Tryd.prog 55 #[.slice a l.length cap, .string name] W fun e w' => e = .returned (.int .i64 (askC l name)) ∧ Below W.heap.size W w') := fun W hb => namedFault_any W a cap l name hl (hset.below hb) (hi.keep hb)
  by_cases h0 : askC l name = 0
  · cases hf : firstAt (lowS name) l with
    | some i =>
      have hv : ¬ valsOf (lowS name) l = [] := fun e => by rw [valsOf_first.1 e] at hf; cases hf
      rw [(join_some h0 hv).1, (join_some h0 hv).2]
      have hil := firstAt_lt hf
      rcases hi with h | ⟨b, off, rfl, hat⟩
      · subst h; simp at hil
      · exact implJoin_found w b off cap l name i h0 hf hcap hset hat
    | none =>
      have hv : valsOf (lowS name) l = [] := valsOf_first.2 hf
      rw [(join_none h0 hv).1, (join_none h0 hv).2]
      obtain ⟨h20, hz, hnm⟩ := asked h0
      have HP : Hid (∀ W, Below w.heap.size w W → Calls Tryd.prog 57 #[.slice a l.length cap] W fun e w' => e = .returned (.map (some W.heap.size)) ∧ NamesMap w' W.heap.size 20 (fun x => firstAt x l) ∧ Below W.heap.size W w') := fun W hb => firstPlaces_any W a cap l h20 (fun i r hr => (hz i r hr).1) (hi.keep hb)
      have HS : Hid (∀ W, Calls Tryd.prog 56 #[.string name] W fun e w' => e = .returned (.string (lowS name)) ∧ Below W.heap.size W w') := fun W => smallName_any name W (by omega)
      have HF : Hid (firstAt (lowS name) l = none) := hf
      have sz := lowS_size name
      rw [h0] at HA
      clear hi hz h0 h20 hset hf hv
      generalize l.length = n at *
      generalize lowS name = q at *
      go_enter Tryd.func41, Tryd.ntmps41
      go_wp2_with fail
      refine (HA.out _ ((Below.refl _ _).alloc (Nat.le_refl _) _)).mono ?_
      rintro e w1 ⟨rfl, hb1⟩
      rw [World.size_alloc] at hb1
      have HB1 : Hid (Below (w.heap.size + 1) (w.alloc (.cells #[.int .i64 0, .string ⟨#[]⟩] 70)) w1) := hb1
      have hz1 : w.heap.size + 1 ≤ w1.heap.size := by have := hb1.size; rwa [World.size_alloc] at this
      clear hb1 HA
      go_wp2_with fail
      refine (HS.out _).mono ?_
      rintro e w2 ⟨rfl, hb2⟩
      have HB2 : Hid (Below (w.heap.size + 1) (w.alloc (.cells #[.int .i64 0, .string ⟨#[]⟩] 70)) w2) := HB1.out.trans (hb2.mono hz1)
      have hz2 : w.heap.size + 1 ≤ w2.heap.size := Nat.le_trans hz1 hb2.size
      clear hb2 HB1 HS hz1
      go_wp2_with fail
      refine (HP.out _ (text_room HB2.out).2.2.2.2.2).mono ?_
      rintro e w3 ⟨rfl, hm3, hb3⟩
      obtain ⟨hz3, q0, q1, f0, f1, kb⟩ := text_room (HB2.out.trans (hb3.mono hz2))
      obtain ⟨r0, r1⟩ := two_set (v0 := .int .i64 4) (v1 := .string ⟨#[]⟩) q0 q1
      have HM3 : Hid (NamesMap w3 w2.heap.size 20 (fun x => firstAt x l)) := hm3
      clear hb3 HB2 hm3 HP hz2
      generalize w2.heap.size = B at *
      try clear w2
      go_wp2_with (at_lookup; refine wpList_look_none _ rfl _ _ rfl B 20 _ rfl HM3.out q rfl (by omega) HF.out ?_)
      exact bodyPost_ret (v := .agg #[.int .i64 4, .string ⟨#[]⟩]) (by simp [results, Tryd.results41, go_sem, r0, r1]) rfl ⟨rfl, (kb.setCell (Nat.le_refl _) _).setCell (Nat.le_refl _) _⟩
  · rw [(join_bad h0).1, (join_bad h0).2]
    clear hi hset
    generalize askC l name = fc at *
    generalize l.length = n at *
    go_enter Tryd.func41, Tryd.ntmps41
    go_wp2_with fail
    refine (HA.out _ ((Below.refl _ _).alloc (Nat.le_refl _) _)).mono ?_
    rintro e w1 ⟨rfl, hb1⟩
    rw [World.size_alloc] at hb1
    obtain ⟨hz2, q0, q1, f0, f1, kb⟩ := text_room hb1
    obtain ⟨r0, r1⟩ := two_set (v0 := .int .i64 fc) (v1 := .string ⟨#[]⟩) q0 q1
    clear hb1 HA
    go_wp2_with fail
    exact bodyPost_ret (v := .agg #[.int .i64 fc, .string ⟨#[]⟩]) (by simp [results, Tryd.results41, go_sem, r0, r1]) rfl ⟨rfl, (kb.setCell (Nat.le_refl _) _).setCell (Nat.le_refl _) _⟩
end Go.Proofs.YtojcjpdgjohldaaDoor
/-
  Requests and responses as bytes, plainly. No Go in sight.
-/
namespace Go.Proofs.YtojcjpdgjohldaaDoor
def hostT : ByteArray := ⟨#[72, 111, 115, 116]⟩
theorem hostT_low : lowS hostT = hostN := by decide +kernel
theorem hostN_low : lowS hostN = hostN := by decide +kernel
theorem hostT_word : wordS hostT = true := by decide +kernel
theorem trim_plain (s : ByteArray) (h : ∀ c ∈ s.data.toList, blankI (c.toNat : Int) = false) : trimT s = s := by
  have e := trim_between s.data.toList 0 s.data.toList.length (Nat.zero_le _) (Nat.le_refl _) (fun j b hj _ => absurd hj (by omega)) (fun b _ hb => h b (List.mem_of_getElem? hb))
    (fun j b hj hb => absurd (List.getElem?_eq_some_iff.1 hb).1 (by omega)) (fun b _ hb => h b (List.mem_of_getElem? hb))
  unfold trimT
  rw [e, List.take_length, List.drop_zero]
theorem hostI_plain (c : Int) (h : hostI c = true) : blankI c = false ∧ plainI c = true := by
  simp only [hostI, Bool.or_eq_true, Bool.and_eq_true, decide_eq_true_eq] at h
  constructor
  · simp [blankI]; omega
  · simp [plainI]; omega
theorem hostS_true {h : ByteArray} (hs : hostS h = true) : 1 ≤ h.size ∧ h.size ≤ 60 ∧ ∀ c ∈ h.data.toList, hostI (c.toNat : Int) = true := by
  simp only [hostS, Bool.and_eq_true, decide_eq_true_eq] at hs
  exact ⟨hs.1.1, hs.1.2, allP_mem hs.2⟩
theorem host_line {h : ByteArray} (hs : hostS h = true) : faultH ⟨hostT, h⟩ = 0 := by
  obtain ⟨h1, h2, h3⟩ := hostS_true hs
  unfold faultH
  rw [if_neg (by rw [hostT_word]; decide), if_neg (by simp only; omega), if_neg ?_, if_pos ?_]
  · exact trim_plain h fun c hc => (hostI_plain _ (h3 c hc)).1
  · have : plainL h.data.toList = true := List.all_eq_true.2 fun c hc => (hostI_plain _ (h3 c hc)).2
    simp only [this]; decide
theorem host_heads {h : ByteArray} {l : List Hdr} (hs : hostS h = true) (h0 : headsC l = 0) (hl : l.length < 20) : headsC (⟨hostT, h⟩ :: l) = 0 := by
  rw [headsC_few (by simp only [List.length_cons]; omega), faultHL_ok (host_line hs)]
  rw [headsC_few (by omega)] at h0
  exact h0
def verL : List UInt8 := [72, 84, 84, 80, 47, 49, 46, 49]
def reqL (m h p : ByteArray) (l : List Hdr) : List UInt8 := m.data.toList ++ [32] ++ p.data.toList ++ [32] ++ verL ++ [13, 10] ++ packL (⟨hostT, h⟩ :: l) ++ [13, 10]
def reqB (m h p : ByteArray) (l : List Hdr) : List UInt8 := if reqC m h p l = 0 then reqL m h p l else []
theorem packL_len {l : List Hdr} (h : headsC l = 0) : (packL l).length ≤ 268 * l.length := by
  have h2 := (headsC_zero h).2
  have : ∀ l : List Hdr, (∀ r ∈ l, faultH r = 0) → (packL l).length ≤ 268 * l.length := fun l => by
    induction l with
    | nil => intro _; simp [packL]
    | cons r l ih =>
      intro hh
      have a := lineL_len (hh r (by simp))
      have b := ih fun x hx => hh x (by simp [hx])
      simp only [packL, List.flatMap_cons, List.length_append, List.length_cons] at b ⊢
      omega
  refine this l fun r hr => ?_
  obtain ⟨i, hi⟩ := List.getElem?_of_mem hr
  exact h2 i r hi
theorem packL_cons (r : Hdr) (l : List Hdr) : packL (r :: l) = lineL r ++ packL l := by simp [packL]
end Go.Proofs.YtojcjpdgjohldaaDoor
/-
  What RequestFault and its model answer.
-/
namespace Go.Proofs.YtojcjpdgjohldaaDoor
open Go.ChangeShapes Go.WideShapes Go.ChangeAt Go.RowKit
theorem heads_sizes {l : List Hdr} (h : headsC l = 0) : l.length ≤ 20 ∧ ∀ (i : Nat) r, l[i]? = some r → r.name.size ≤ 64 ∧ r.value.size ≤ 200 := by
  obtain ⟨h1, h2⟩ := headsC_zero h
  refine ⟨h1, fun i r hr => ?_⟩
  obtain ⟨a, b, _⟩ := faultH_zero (h2 i r hr)
  exact ⟨hword_max a, b⟩
theorem lit_ne {m : ByteArray} {l : List UInt8} (h : ¬ m = ⟨l.toArray⟩) : (m.toList == l) = false := by
  rw [beq_eq_false_iff_ne, ByteArray.toList_eq]
  intro e
  apply h
  rw [← e]
theorem anyV_nil {vs : List ByteArray} (h : vs = []) : anyV vs = false := by subst h; rfl
theorem anyV_some {vs : List ByteArray} (h : vs ≠ []) : anyV vs = true := by simpa [anyV] using h
/-- A request, boxed. -/
def rqV (m h p : ByteArray) (a : Option Addr) (n cap : Nat) : Value := .agg #[.string m, .string h, .string p, .slice a n cap]
theorem reqJoin {l : List Hdr} (h : headsC l = 0) : (valsOf hostN l ≠ [] → joinC l ⟨#[72, 111, 115, 116]⟩ = 0) ∧ (valsOf hostN l = [] → joinC l ⟨#[72, 111, 115, 116]⟩ = 4) := by
  have e0 : askC l hostT = 0 := askC_word h hostT_word
  refine ⟨fun hv => ?_, fun hv => ?_⟩
  · exact (join_some e0 (by rw [hostT_low]; exact hv)).1
  · exact (join_none e0 (by rw [hostT_low]; exact hv)).1
set_option maxHeartbeats 4000000 in
theorem specReq_get (w : World) (h p : ByteArray) (a : Option Addr) (cap : Nat) (l : List Hdr) (hl : l.length ≤ 1048576) (hi : HdsIn w a l) :
    Calls Tryd.prog 6 #[.agg #[.string ⟨#[71, 69, 84]⟩, .string h, .string p, .slice a l.length cap]] w fun e w' => e = .returned (.int .i64 (reqC ⟨#[71, 69, 84]⟩ h p l)) ∧ Below w.heap.size w w' := by
  have HM : methS ⟨#[71, 69, 84]⟩ = true := by decide +kernel
  have CH := fun W => l5Host_any h W
  have CP := fun W => l5Path_any p W
  have bW : Below w.heap.size w (w.alloc (.cells #[.string ⟨#[71, 69, 84]⟩, .string h, .string p, .slice a l.length cap] 29)) := (Below.refl _ _).alloc (Nat.le_refl _) _
  cases ch : hostS h
  · have HE : Hid (reqC ⟨#[71, 69, 84]⟩ h p l = 5) := reqC_bad (by simp [lineS, ch])
    simp only [ch] at CH
    have HB : Hid (Below w.heap.size w (w.alloc (.cells #[.string ⟨#[71, 69, 84]⟩, .string h, .string p, .slice a l.length cap] 29))) := bW
    clear bW HM hi ch CP
    go_enter Tryd.func6, Tryd.ntmps6
    go_wp2_with (go_at_call 16; refine (CH _).mono ?_; rintro e w' ⟨rfl, rfl⟩)
    go_ret
    exact ⟨ret_int HE.out.symm, HB.out⟩
  simp only [ch] at CH
  cases cp : pathS p
  · have HE : Hid (reqC ⟨#[71, 69, 84]⟩ h p l = 5) := reqC_bad (by simp [lineS, cp])
    simp only [cp] at CP
    have HB : Hid (Below w.heap.size w (w.alloc (.cells #[.string ⟨#[71, 69, 84]⟩, .string h, .string p, .slice a l.length cap] 29))) := bW
    clear bW HM hi ch cp
    go_enter Tryd.func6, Tryd.ntmps6
    go_wp2_with (first | (go_at_call 16; refine (CH _).mono ?_; rintro e w' ⟨rfl, rfl⟩) | (go_at_call 17; refine (CP _).mono ?_; rintro e w' ⟨rfl, rfl⟩))
    go_ret
    exact ⟨ret_int HE.out.symm, HB.out⟩
  simp only [cp] at CP
  have hls : lineS ⟨#[71, 69, 84]⟩ h p = true := by simp [lineS, HM, ch, cp]
  have HR : Hid (reqC ⟨#[71, 69, 84]⟩ h p l = restC l) := reqC_ok hls
  obtain ⟨W, hW⟩ : ∃ W, W = w.alloc (.cells #[.string ⟨#[71, 69, 84]⟩, .string h, .string p, .slice a l.length cap] 29) := ⟨_, rfl⟩
  have HW : Hid (W = w.alloc (.cells #[.string ⟨#[71, 69, 84]⟩, .string h, .string p, .slice a l.length cap] 29)) := hW
  have hc3 : W.cell? ⟨w.heap.size, 3, none⟩ = some (.slice a l.length cap) := by rw [hW, World.cell?_alloc_mark]; rfl
  rw [← hW] at bW
  have hlt : w.heap.size < W.heap.size := by rw [hW]; simp
  have CF := specHFault_any W a cap l hl (hi.keep bW)
  have HI : Hid (HdsIn w a l) := hi
  have HB : Hid (Below w.heap.size w W) := bW
  clear hi bW hW ch cp hls HM
  go_enter Tryd.func6, Tryd.ntmps6
  go_wp2_with (first | (go_at_call 16; refine (CH _).mono ?_; rintro e w' ⟨rfl, rfl⟩) | (go_at_call 17; refine (CP _).mono ?_; rintro e w' ⟨rfl, rfl⟩))
  rw [← HW.out]
  refine CF.mono ?_
  rintro e w1 ⟨rfl, hb1⟩
  clear CF CH CP HW
  have hc3' : w1.cell? ⟨w.heap.size, 3, none⟩ = some (.slice a l.length cap) := by rw [hb1.cell (p := ⟨w.heap.size, 3, none⟩) hlt]; exact hc3
  have HB1 : Hid (Below w.heap.size w w1) := HB.out.trans (hb1.mono HB.out.size)
  have hlt1 : w.heap.size < w1.heap.size := Nat.lt_of_lt_of_le hlt hb1.size
  clear hb1 hc3 hlt HB
  by_cases c0 : headsC l = 0
  · obtain ⟨s1, s2⟩ := heads_sizes c0
    have CJ := l4Join_any w1 a cap l hostN s1 s2 (by decide) (HI.out.keep HB1.out)
    rw [hostN_low] at CJ
    have HJ : Hid (Calls Tryd.prog 19 #[.slice a l.length cap, .string ⟨#[104, 111, 115, 116]⟩] w1 fun e w' => e = .returned (.tuple #[.string ⟨(hjoinL (valsOf hostN l)).toArray⟩, .bool (anyV (valsOf hostN l))]) ∧ Below w1.heap.size w1 w') := CJ
    have HE1 : Hid (valsOf hostN l ≠ [] → restC l = 6) := fun hv => restC_host c0 hv
    have HE2 : Hid (valsOf hostN l = [] → 20 ≤ l.length → restC l = 2) := fun hv hn => restC_many c0 hv hn
    have HE3 : Hid (valsOf hostN l = [] → ¬ 20 ≤ l.length → restC l = 0) := fun hv hn => restC_ok c0 hv hn
    rw [c0]
    clear c0 s2 CJ HI
    generalize (⟨(hjoinL (valsOf hostN l)).toArray⟩ : ByteArray) = t at *
    go_wp2_with fail
    refine HJ.out.mono ?_
    rintro e w2 ⟨rfl, hb2⟩
    have hc4 : w2.cell? ⟨w.heap.size, 3, none⟩ = some (.slice a l.length cap) := by rw [hb2.cell (p := ⟨w.heap.size, 3, none⟩) hlt1]; exact hc3'
    have HB2 : Hid (Below w.heap.size w w2) := HB1.out.trans (hb2.mono HB1.out.size)
    clear hb2 HJ hc3' hlt1
    by_cases cv : valsOf hostN l = []
    · rw [anyV_nil cv]
      by_cases cn : 20 ≤ l.length
      · have HE : Hid (reqC ⟨#[71, 69, 84]⟩ h p l = 2) := by show _ = _; rw [HR.out]; exact HE2.out cv cn
        have cn' : (20 : Int) ≤ l.length := by omega
        clear HE1 HE2 HE3 HR cv cn
        generalize l.length = n at *
        go_wp2_with fail
        go_ret
        exact ⟨ret_int HE.out.symm, HB2.out⟩
      · have HE : Hid (reqC ⟨#[71, 69, 84]⟩ h p l = 0) := by show _ = _; rw [HR.out]; exact HE3.out cv cn
        have cn' : ¬ (20 : Int) ≤ l.length := by omega
        clear HE1 HE2 HE3 HR cv cn
        generalize l.length = n at *
        go_wp2_with fail
        go_ret
        exact ⟨ret_int HE.out.symm, HB2.out⟩
    · rw [anyV_some cv]
      have HE : Hid (reqC ⟨#[71, 69, 84]⟩ h p l = 6) := by show _ = _; rw [HR.out]; exact HE1.out cv
      clear HE1 HE2 HE3 HR cv
      go_wp2_with fail
      go_ret
      exact ⟨ret_int HE.out.symm, HB2.out⟩
  · have HE : Hid (reqC ⟨#[71, 69, 84]⟩ h p l = headsC l) := by show _ = _; rw [HR.out]; exact restC_heads c0
    clear HR HI
    generalize headsC l = c at *
    go_wp2_with fail
    go_ret
    exact ⟨ret_int HE.out.symm, HB1.out⟩
set_option maxHeartbeats 4000000 in
theorem specReq_head (w : World) (h p : ByteArray) (a : Option Addr) (cap : Nat) (l : List Hdr) (hl : l.length ≤ 1048576) (hi : HdsIn w a l) :
    Calls Tryd.prog 6 #[.agg #[.string ⟨#[72, 69, 65, 68]⟩, .string h, .string p, .slice a l.length cap]] w fun e w' => e = .returned (.int .i64 (reqC ⟨#[72, 69, 65, 68]⟩ h p l)) ∧ Below w.heap.size w w' := by
  have HM : methS ⟨#[72, 69, 65, 68]⟩ = true := by decide +kernel
  have CH := fun W => l5Host_any h W
  have CP := fun W => l5Path_any p W
  have bW : Below w.heap.size w (w.alloc (.cells #[.string ⟨#[72, 69, 65, 68]⟩, .string h, .string p, .slice a l.length cap] 29)) := (Below.refl _ _).alloc (Nat.le_refl _) _
  cases ch : hostS h
  · have HE : Hid (reqC ⟨#[72, 69, 65, 68]⟩ h p l = 5) := reqC_bad (by simp [lineS, ch])
    simp only [ch] at CH
    have HB : Hid (Below w.heap.size w (w.alloc (.cells #[.string ⟨#[72, 69, 65, 68]⟩, .string h, .string p, .slice a l.length cap] 29))) := bW
    clear bW HM hi ch CP
    go_enter Tryd.func6, Tryd.ntmps6
    go_wp2_with (go_at_call 16; refine (CH _).mono ?_; rintro e w' ⟨rfl, rfl⟩)
    go_ret
    exact ⟨ret_int HE.out.symm, HB.out⟩
  simp only [ch] at CH
  cases cp : pathS p
  · have HE : Hid (reqC ⟨#[72, 69, 65, 68]⟩ h p l = 5) := reqC_bad (by simp [lineS, cp])
    simp only [cp] at CP
    have HB : Hid (Below w.heap.size w (w.alloc (.cells #[.string ⟨#[72, 69, 65, 68]⟩, .string h, .string p, .slice a l.length cap] 29))) := bW
    clear bW HM hi ch cp
    go_enter Tryd.func6, Tryd.ntmps6
    go_wp2_with (first | (go_at_call 16; refine (CH _).mono ?_; rintro e w' ⟨rfl, rfl⟩) | (go_at_call 17; refine (CP _).mono ?_; rintro e w' ⟨rfl, rfl⟩))
    go_ret
    exact ⟨ret_int HE.out.symm, HB.out⟩
  simp only [cp] at CP
  have hls : lineS ⟨#[72, 69, 65, 68]⟩ h p = true := by simp [lineS, HM, ch, cp]
  have HR : Hid (reqC ⟨#[72, 69, 65, 68]⟩ h p l = restC l) := reqC_ok hls
  obtain ⟨W, hW⟩ : ∃ W, W = w.alloc (.cells #[.string ⟨#[72, 69, 65, 68]⟩, .string h, .string p, .slice a l.length cap] 29) := ⟨_, rfl⟩
  have HW : Hid (W = w.alloc (.cells #[.string ⟨#[72, 69, 65, 68]⟩, .string h, .string p, .slice a l.length cap] 29)) := hW
  have hc3 : W.cell? ⟨w.heap.size, 3, none⟩ = some (.slice a l.length cap) := by rw [hW, World.cell?_alloc_mark]; rfl
  rw [← hW] at bW
  have hlt : w.heap.size < W.heap.size := by rw [hW]; simp
  have CF := specHFault_any W a cap l hl (hi.keep bW)
  have HI : Hid (HdsIn w a l) := hi
  have HB : Hid (Below w.heap.size w W) := bW
  clear hi bW hW ch cp hls HM
  go_enter Tryd.func6, Tryd.ntmps6
  go_wp2_with (first | (go_at_call 16; refine (CH _).mono ?_; rintro e w' ⟨rfl, rfl⟩) | (go_at_call 17; refine (CP _).mono ?_; rintro e w' ⟨rfl, rfl⟩))
  rw [← HW.out]
  refine CF.mono ?_
  rintro e w1 ⟨rfl, hb1⟩
  clear CF CH CP HW
  have hc3' : w1.cell? ⟨w.heap.size, 3, none⟩ = some (.slice a l.length cap) := by rw [hb1.cell (p := ⟨w.heap.size, 3, none⟩) hlt]; exact hc3
  have HB1 : Hid (Below w.heap.size w w1) := HB.out.trans (hb1.mono HB.out.size)
  have hlt1 : w.heap.size < w1.heap.size := Nat.lt_of_lt_of_le hlt hb1.size
  clear hb1 hc3 hlt HB
  by_cases c0 : headsC l = 0
  · obtain ⟨s1, s2⟩ := heads_sizes c0
    have CJ := l4Join_any w1 a cap l hostN s1 s2 (by decide) (HI.out.keep HB1.out)
    rw [hostN_low] at CJ
    have HJ : Hid (Calls Tryd.prog 19 #[.slice a l.length cap, .string ⟨#[104, 111, 115, 116]⟩] w1 fun e w' => e = .returned (.tuple #[.string ⟨(hjoinL (valsOf hostN l)).toArray⟩, .bool (anyV (valsOf hostN l))]) ∧ Below w1.heap.size w1 w') := CJ
    have HE1 : Hid (valsOf hostN l ≠ [] → restC l = 6) := fun hv => restC_host c0 hv
    have HE2 : Hid (valsOf hostN l = [] → 20 ≤ l.length → restC l = 2) := fun hv hn => restC_many c0 hv hn
    have HE3 : Hid (valsOf hostN l = [] → ¬ 20 ≤ l.length → restC l = 0) := fun hv hn => restC_ok c0 hv hn
    rw [c0]
    clear c0 s2 CJ HI
    generalize (⟨(hjoinL (valsOf hostN l)).toArray⟩ : ByteArray) = t at *
    go_wp2_with fail
    refine HJ.out.mono ?_
    rintro e w2 ⟨rfl, hb2⟩
    have hc4 : w2.cell? ⟨w.heap.size, 3, none⟩ = some (.slice a l.length cap) := by rw [hb2.cell (p := ⟨w.heap.size, 3, none⟩) hlt1]; exact hc3'
    have HB2 : Hid (Below w.heap.size w w2) := HB1.out.trans (hb2.mono HB1.out.size)
    clear hb2 HJ hc3' hlt1
    by_cases cv : valsOf hostN l = []
    · rw [anyV_nil cv]
      by_cases cn : 20 ≤ l.length
      · have HE : Hid (reqC ⟨#[72, 69, 65, 68]⟩ h p l = 2) := by show _ = _; rw [HR.out]; exact HE2.out cv cn
        have cn' : (20 : Int) ≤ l.length := by omega
        clear HE1 HE2 HE3 HR cv cn
        generalize l.length = n at *
        go_wp2_with fail
        go_ret
        exact ⟨ret_int HE.out.symm, HB2.out⟩
      · have HE : Hid (reqC ⟨#[72, 69, 65, 68]⟩ h p l = 0) := by show _ = _; rw [HR.out]; exact HE3.out cv cn
        have cn' : ¬ (20 : Int) ≤ l.length := by omega
        clear HE1 HE2 HE3 HR cv cn
        generalize l.length = n at *
        go_wp2_with fail
        go_ret
        exact ⟨ret_int HE.out.symm, HB2.out⟩
    · rw [anyV_some cv]
      have HE : Hid (reqC ⟨#[72, 69, 65, 68]⟩ h p l = 6) := by show _ = _; rw [HR.out]; exact HE1.out cv
      clear HE1 HE2 HE3 HR cv
      go_wp2_with fail
      go_ret
      exact ⟨ret_int HE.out.symm, HB2.out⟩
  · have HE : Hid (reqC ⟨#[72, 69, 65, 68]⟩ h p l = headsC l) := by show _ = _; rw [HR.out]; exact restC_heads c0
    clear HR HI
    generalize headsC l = c at *
    go_wp2_with fail
    go_ret
    exact ⟨ret_int HE.out.symm, HB1.out⟩
set_option maxHeartbeats 1000000 in
theorem specReq_any (w : World) (m h p : ByteArray) (a : Option Addr) (cap : Nat) (l : List Hdr) (hl : l.length ≤ 1048576) (hi : HdsIn w a l) :
    Calls Tryd.prog 6 #[.agg #[.string m, .string h, .string p, .slice a l.length cap]] w fun e w' => e = .returned (.int .i64 (reqC m h p l)) ∧ Below w.heap.size w w' := by
  by_cases c1 : m = ⟨#[71, 69, 84]⟩
  · subst c1; exact specReq_get w h p a cap l hl hi
  by_cases c2 : m = ⟨#[72, 69, 65, 68]⟩
  · subst c2; exact specReq_head w h p a cap l hl hi
  have HE : Hid (reqC m h p l = 5) := reqC_bad (by
    have : methS m = false := by simp only [methS, getT, headT, c1, c2, decide_false]; rfl
    simp [lineS, this])
  have d1 : (m.toList == [71, 69, 84]) = false := lit_ne c1
  have d2 : (m.toList == [72, 69, 65, 68]) = false := lit_ne c2
  clear c1 c2
  clear hi
  go_enter Tryd.func6, Tryd.ntmps6
  go_wp2_with fail
  go_ret
  exact ⟨ret_int HE.out.symm, (Below.refl _ _).alloc (Nat.le_refl _) _⟩
set_option maxHeartbeats 8000000 in
theorem implReq_get (E : Errs) (w : World) (h p : ByteArray) (a : Option Addr) (cap : Nat) (l : List Hdr) (hl : l.length ≤ 1048576) (hcap : l.length ≤ cap) (hps : p.size ≤ 1048576) (hset : SetIs w) (hE : ErrsIs w E) (hi : HdsIn w a l) :
    Calls Tryd.prog 22 #[.agg #[.string ⟨#[71, 69, 84]⟩, .string h, .string p, .slice a l.length cap]] w fun e w' => e = .returned (errV E (reqC ⟨#[71, 69, 84]⟩ h p l)) ∧ Below w.heap.size w w' := by
  have HM : methS ⟨#[71, 69, 84]⟩ = true := by decide +kernel
  obtain ⟨W, hW⟩ : ∃ W, W = w.alloc (.cells #[.string ⟨#[71, 69, 84]⟩, .string h, .string p, .slice a l.length cap] 29) := ⟨_, rfl⟩
  have bW : Below w.heap.size w W := by rw [hW]; exact (Below.refl _ _).alloc (Nat.le_refl _) _
  have HW : Hid (W = w.alloc (.cells #[.string ⟨#[71, 69, 84]⟩, .string h, .string p, .slice a l.length cap] 29)) := hW
  have hlt : w.heap.size < W.heap.size := by rw [hW]; simp
  have hc2 : W.cell? ⟨w.heap.size, 2, none⟩ = some (.string p) := by rw [hW, World.cell?_alloc_mark]; rfl
  have hc3 : W.cell? ⟨w.heap.size, 3, none⟩ = some (.slice a l.length cap) := by rw [hW, World.cell?_alloc_mark]; rfl
  clear hW
  have CH := isHost_any h W
  have HI : Hid (∀ X, Below w.heap.size w X → HdsIn X a l) := fun X hb => hi.keep hb
  have HS : Hid (∀ X, Below w.heap.size w X → SetIs X) := fun X hb => hset.below hb
  have HE0 : Hid (∀ X, Below w.heap.size w X → ErrsIs X E) := fun X hb => hE.below hb
  have HB : Hid (Below w.heap.size w W) := bW
  clear hi hset hE bW
  cases ch : hostS h
  · have HE : Hid (errV E (reqC ⟨#[71, 69, 84]⟩ h p l) = .iface 133 (.pointer (some E.u))) := by show _ = _; rw [reqC_bad (by simp [lineS, ch])]; rfl
    simp only [ch] at CH
    clear HM ch hc2 hc3 hlt
    go_enter Tryd.func22, Tryd.ntmps22
    go_wp2_with fail
    rw [← HW.out]
    refine CH.mono ?_
    rintro e w1 ⟨rfl, hb1⟩
    have HB1 : Hid (Below w.heap.size w w1) := HB.out.trans (hb1.mono HB.out.size)
    have gU := (HE0.out _ HB1.out).gU
    clear CH HW hb1 HB HE0
    go_wp2_with fail
    go_ret
    exact ⟨congrArg Ending.returned HE.out.symm, HB1.out⟩
  simp only [ch] at CH
  have CP : Hid (∀ X, Below w.heap.size w X → Calls Tryd.prog 38 #[.string p] X fun e w' => e = .returned (.bool (pathS p)) ∧ Below X.heap.size X w') := fun X hb => isPath_any p X (HS.out X hb) hps
  cases cp : pathS p
  · have HE : Hid (errV E (reqC ⟨#[71, 69, 84]⟩ h p l) = .iface 133 (.pointer (some E.u))) := by show _ = _; rw [reqC_bad (by simp [lineS, cp])]; rfl
    rw [cp] at CP
    clear HM ch cp hc3 hps
    go_enter Tryd.func22, Tryd.ntmps22
    go_wp2_with fail
    rw [← HW.out]
    refine CH.mono ?_
    rintro e w1 ⟨rfl, hb1⟩
    have HB1 : Hid (Below w.heap.size w w1) := HB.out.trans (hb1.mono HB.out.size)
    have hc2' : w1.cell? ⟨w.heap.size, 2, none⟩ = some (.string p) := by rw [hb1.cell (p := ⟨w.heap.size, 2, none⟩) hlt]; exact hc2
    clear CH HW hb1 HB hc2 hlt
    have C2 := CP.out w1 HB1.out
    go_wp2_with fail
    refine C2.mono ?_
    rintro e w2 ⟨rfl, hb2⟩
    have HB2 : Hid (Below w.heap.size w w2) := HB1.out.trans (hb2.mono HB1.out.size)
    have gU := (HE0.out _ HB2.out).gU
    clear C2 CP hb2 HB1 HE0 hc2'
    go_wp2_with fail
    go_ret
    exact ⟨congrArg Ending.returned HE.out.symm, HB2.out⟩
  rw [cp] at CP
  have hls : lineS ⟨#[71, 69, 84]⟩ h p = true := by simp [lineS, HM, ch, cp]
  have HR : Hid (reqC ⟨#[71, 69, 84]⟩ h p l = restC l) := reqC_ok hls
  have HK := headsC_codes l
  have CF : Hid (∀ X, Below w.heap.size w X → Calls Tryd.prog 40 #[.slice a l.length cap] X fun e w' => e = .returned (.int .i64 (headsC l)) ∧ Below X.heap.size X w') := fun X hb => implHFault_any X a cap l hl (HS.out X hb) (HI.out X hb)
  clear hls HM ch cp hps
  go_enter Tryd.func22, Tryd.ntmps22
  go_wp2_with fail
  rw [← HW.out]
  refine CH.mono ?_
  rintro e w1 ⟨rfl, hb1⟩
  have HB1 : Hid (Below w.heap.size w w1) := HB.out.trans (hb1.mono HB.out.size)
  have hc2' : w1.cell? ⟨w.heap.size, 2, none⟩ = some (.string p) := by rw [hb1.cell (p := ⟨w.heap.size, 2, none⟩) hlt]; exact hc2
  have hc3' : w1.cell? ⟨w.heap.size, 3, none⟩ = some (.slice a l.length cap) := by rw [hb1.cell (p := ⟨w.heap.size, 3, none⟩) hlt]; exact hc3
  have hlt1 : w.heap.size < w1.heap.size := Nat.lt_of_lt_of_le hlt hb1.size
  clear CH HW hb1 HB hc2 hc3 hlt
  have C2 := CP.out w1 HB1.out
  go_wp2_with fail
  refine C2.mono ?_
  rintro e w2 ⟨rfl, hb2⟩
  have HB2 : Hid (Below w.heap.size w w2) := HB1.out.trans (hb2.mono HB1.out.size)
  have hc3 : w2.cell? ⟨w.heap.size, 3, none⟩ = some (.slice a l.length cap) := by rw [hb2.cell (p := ⟨w.heap.size, 3, none⟩) hlt1]; exact hc3'
  have hlt2 : w.heap.size < w2.heap.size := Nat.lt_of_lt_of_le hlt1 hb2.size
  clear C2 CP hb2 HB1 hc2' hc3' hlt1
  have C3 := CF.out w2 HB2.out
  go_wp2_with fail
  refine C3.mono ?_
  rintro e w3 ⟨rfl, hb3⟩
  have HB3 : Hid (Below w.heap.size w w3) := HB2.out.trans (hb3.mono HB2.out.size)
  have hc3' : w3.cell? ⟨w.heap.size, 3, none⟩ = some (.slice a l.length cap) := by rw [hb3.cell (p := ⟨w.heap.size, 3, none⟩) hlt2]; exact hc3
  have hlt3 : w.heap.size < w3.heap.size := Nat.lt_of_lt_of_le hlt2 hb3.size
  clear C3 CF hb3 HB2 hc3 hlt2
  have C4 := headError_any E (headsC l) w3 (HE0.out _ HB3.out) HK
  by_cases c0 : headsC l = 0
  · rw [c0] at C4
    rw [errV0] at C4
    rw [c0]
    have CJ : Calls Tryd.prog 41 #[.slice a l.length cap, .string ⟨#[72, 111, 115, 116]⟩] w3 fun e w' => e = .returned (.agg #[.int .i64 (joinC l ⟨#[72, 111, 115, 116]⟩), .string (joinT l ⟨#[72, 111, 115, 116]⟩)]) ∧ Below w3.heap.size w3 w' := implJoin_any w3 a cap l ⟨#[72, 111, 115, 116]⟩ hl hcap (HS.out _ HB3.out) (HI.out _ HB3.out)
    obtain ⟨hj1, hj2⟩ := reqJoin c0
    have HJ : Hid (Calls Tryd.prog 41 #[.slice a l.length cap, .string ⟨#[72, 111, 115, 116]⟩] w3 fun e w' => e = .returned (.agg #[.int .i64 (joinC l ⟨#[72, 111, 115, 116]⟩), .string (joinT l ⟨#[72, 111, 115, 116]⟩)]) ∧ Below w3.heap.size w3 w') := CJ
    clear CJ
    generalize joinT l ⟨#[72, 111, 115, 116]⟩ = jt at *
    by_cases cv : valsOf hostN l = []
    · rw [hj2 cv] at HJ
      have HN := (headsC_zero c0).1
      clear hj1 hj2 HI HS HK
      by_cases cn : 20 ≤ l.length
      · have HE : Hid (errV E (reqC ⟨#[71, 69, 84]⟩ h p l) = .iface 133 (.pointer (some E.m))) := by show _ = _; rw [HR.out, restC_many c0 cv cn]; rfl
        have cn' : (l.length : Int) = 20 := by omega
        have cb : ((l.length : Int) == 20) = true := by rw [cn']; rfl
        clear HR cv cn cn' c0
        generalize l.length = n at *
        go_wp2_with fail
        refine C4.mono ?_
        rintro e w4 ⟨rfl, hw⟩
        obtain rfl := hw.symm
        clear C4 hw
        go_wp2_with fail
        refine HJ.out.mono ?_
        rintro e w5 ⟨rfl, hb5⟩
        have hc5 : w5.cell? ⟨w.heap.size, 3, none⟩ = some (.slice a n cap) := by rw [hb5.cell (p := ⟨w.heap.size, 3, none⟩) hlt3]; exact hc3'
        have HB5 : Hid (Below w.heap.size w w5) := HB3.out.trans (hb5.mono HB3.out.size)
        have gM := (HE0.out _ HB5.out).gM
        clear hb5 HJ hc3' hlt3 HB3 HE0
        have hfc := f_field_code
        go_wp2_with fail
        go_ret
        exact ⟨congrArg Ending.returned HE.out.symm, HB5.out⟩
      · have HE : Hid (errV E (reqC ⟨#[71, 69, 84]⟩ h p l) = .nilIface) := by show _ = _; rw [HR.out, restC_ok c0 cv cn]; rfl
        have cb : ((l.length : Int) == 20) = false := by rw [beq_eq_false_iff_ne]; omega
        clear HR cv cn c0 HE0
        generalize l.length = n at *
        go_wp2_with fail
        refine C4.mono ?_
        rintro e w4 ⟨rfl, hw⟩
        obtain rfl := hw.symm
        clear C4 hw
        go_wp2_with fail
        refine HJ.out.mono ?_
        rintro e w5 ⟨rfl, hb5⟩
        have hc5 : w5.cell? ⟨w.heap.size, 3, none⟩ = some (.slice a n cap) := by rw [hb5.cell (p := ⟨w.heap.size, 3, none⟩) hlt3]; exact hc3'
        have HB5 : Hid (Below w.heap.size w w5) := HB3.out.trans (hb5.mono HB3.out.size)
        clear hb5 HJ hc3' hlt3 HB3
        have hfc := f_field_code
        go_wp2_with fail
        go_ret
        exact ⟨congrArg Ending.returned HE.out.symm, HB5.out⟩
    · rw [hj1 cv] at HJ
      have HE : Hid (errV E (reqC ⟨#[71, 69, 84]⟩ h p l) = .iface 133 (.pointer (some E.d))) := by show _ = _; rw [HR.out, restC_host c0 cv]; rfl
      clear hj1 hj2 HI HS HK HR cv c0
      generalize l.length = n at *
      go_wp2_with fail
      refine C4.mono ?_
      rintro e w4 ⟨rfl, hw⟩
      obtain rfl := hw.symm
      clear C4 hw
      go_wp2_with fail
      refine HJ.out.mono ?_
      rintro e w5 ⟨rfl, hb5⟩
      have HB5 : Hid (Below w.heap.size w w5) := HB3.out.trans (hb5.mono HB3.out.size)
      have gD := (HE0.out _ HB5.out).gD
      clear hb5 HJ hc3' hlt3 HB3 HE0
      have hfc := f_field_code
      go_wp2_with fail
      go_ret
      exact ⟨congrArg Ending.returned HE.out.symm, HB5.out⟩
  · have HE : Hid (errV E (reqC ⟨#[71, 69, 84]⟩ h p l) = errV E (headsC l)) := by show _ = _; rw [HR.out, restC_heads c0]
    have hv : ∃ x, errV E (headsC l) = .iface 133 (.pointer (some x)) := by
      rcases HK with e | e | e
      · exact absurd e c0
      · rw [e]; exact ⟨_, rfl⟩
      · rw [e]; exact ⟨_, rfl⟩
    obtain ⟨x, hx⟩ := hv
    rw [hx] at C4 HE
    clear HR HI HS HK HE0 c0 hx
    generalize headsC l = c at *
    generalize l.length = n at *
    go_wp2_with fail
    refine C4.mono ?_
    rintro e w4 ⟨rfl, hw⟩
    obtain rfl := hw.symm
    clear C4 hw
    go_wp2_with fail
    go_ret
    exact ⟨congrArg Ending.returned HE.out.symm, HB3.out⟩
set_option maxHeartbeats 8000000 in
theorem implReq_head (E : Errs) (w : World) (h p : ByteArray) (a : Option Addr) (cap : Nat) (l : List Hdr) (hl : l.length ≤ 1048576) (hcap : l.length ≤ cap) (hps : p.size ≤ 1048576) (hset : SetIs w) (hE : ErrsIs w E) (hi : HdsIn w a l) :
    Calls Tryd.prog 22 #[.agg #[.string ⟨#[72, 69, 65, 68]⟩, .string h, .string p, .slice a l.length cap]] w fun e w' => e = .returned (errV E (reqC ⟨#[72, 69, 65, 68]⟩ h p l)) ∧ Below w.heap.size w w' := by
  have HM : methS ⟨#[72, 69, 65, 68]⟩ = true := by decide +kernel
  obtain ⟨W, hW⟩ : ∃ W, W = w.alloc (.cells #[.string ⟨#[72, 69, 65, 68]⟩, .string h, .string p, .slice a l.length cap] 29) := ⟨_, rfl⟩
  have bW : Below w.heap.size w W := by rw [hW]; exact (Below.refl _ _).alloc (Nat.le_refl _) _
  have HW : Hid (W = w.alloc (.cells #[.string ⟨#[72, 69, 65, 68]⟩, .string h, .string p, .slice a l.length cap] 29)) := hW
  have hlt : w.heap.size < W.heap.size := by rw [hW]; simp
  have hc2 : W.cell? ⟨w.heap.size, 2, none⟩ = some (.string p) := by rw [hW, World.cell?_alloc_mark]; rfl
  have hc3 : W.cell? ⟨w.heap.size, 3, none⟩ = some (.slice a l.length cap) := by rw [hW, World.cell?_alloc_mark]; rfl
  clear hW
  have CH := isHost_any h W
  have HI : Hid (∀ X, Below w.heap.size w X → HdsIn X a l) := fun X hb => hi.keep hb
  have HS : Hid (∀ X, Below w.heap.size w X → SetIs X) := fun X hb => hset.below hb
  have HE0 : Hid (∀ X, Below w.heap.size w X → ErrsIs X E) := fun X hb => hE.below hb
  have HB : Hid (Below w.heap.size w W) := bW
  clear hi hset hE bW
  cases ch : hostS h
  · have HE : Hid (errV E (reqC ⟨#[72, 69, 65, 68]⟩ h p l) = .iface 133 (.pointer (some E.u))) := by show _ = _; rw [reqC_bad (by simp [lineS, ch])]; rfl
    simp only [ch] at CH
    clear HM ch hc2 hc3 hlt
    go_enter Tryd.func22, Tryd.ntmps22
    go_wp2_with fail
    rw [← HW.out]
    refine CH.mono ?_
    rintro e w1 ⟨rfl, hb1⟩
    have HB1 : Hid (Below w.heap.size w w1) := HB.out.trans (hb1.mono HB.out.size)
    have gU := (HE0.out _ HB1.out).gU
    clear CH HW hb1 HB HE0
    go_wp2_with fail
    go_ret
    exact ⟨congrArg Ending.returned HE.out.symm, HB1.out⟩
  simp only [ch] at CH
  have CP : Hid (∀ X, Below w.heap.size w X → Calls Tryd.prog 38 #[.string p] X fun e w' => e = .returned (.bool (pathS p)) ∧ Below X.heap.size X w') := fun X hb => isPath_any p X (HS.out X hb) hps
  cases cp : pathS p
  · have HE : Hid (errV E (reqC ⟨#[72, 69, 65, 68]⟩ h p l) = .iface 133 (.pointer (some E.u))) := by show _ = _; rw [reqC_bad (by simp [lineS, cp])]; rfl
    rw [cp] at CP
    clear HM ch cp hc3 hps
    go_enter Tryd.func22, Tryd.ntmps22
    go_wp2_with fail
    rw [← HW.out]
    refine CH.mono ?_
    rintro e w1 ⟨rfl, hb1⟩
    have HB1 : Hid (Below w.heap.size w w1) := HB.out.trans (hb1.mono HB.out.size)
    have hc2' : w1.cell? ⟨w.heap.size, 2, none⟩ = some (.string p) := by rw [hb1.cell (p := ⟨w.heap.size, 2, none⟩) hlt]; exact hc2
    clear CH HW hb1 HB hc2 hlt
    have C2 := CP.out w1 HB1.out
    go_wp2_with fail
    refine C2.mono ?_
    rintro e w2 ⟨rfl, hb2⟩
    have HB2 : Hid (Below w.heap.size w w2) := HB1.out.trans (hb2.mono HB1.out.size)
    have gU := (HE0.out _ HB2.out).gU
    clear C2 CP hb2 HB1 HE0 hc2'
    go_wp2_with fail
    go_ret
    exact ⟨congrArg Ending.returned HE.out.symm, HB2.out⟩
  rw [cp] at CP
  have hls : lineS ⟨#[72, 69, 65, 68]⟩ h p = true := by simp [lineS, HM, ch, cp]
  have HR : Hid (reqC ⟨#[72, 69, 65, 68]⟩ h p l = restC l) := reqC_ok hls
  have HK := headsC_codes l
  have CF : Hid (∀ X, Below w.heap.size w X → Calls Tryd.prog 40 #[.slice a l.length cap] X fun e w' => e = .returned (.int .i64 (headsC l)) ∧ Below X.heap.size X w') := fun X hb => implHFault_any X a cap l hl (HS.out X hb) (HI.out X hb)
  clear hls HM ch cp hps
  go_enter Tryd.func22, Tryd.ntmps22
  go_wp2_with fail
  rw [← HW.out]
  refine CH.mono ?_
  rintro e w1 ⟨rfl, hb1⟩
  have HB1 : Hid (Below w.heap.size w w1) := HB.out.trans (hb1.mono HB.out.size)
  have hc2' : w1.cell? ⟨w.heap.size, 2, none⟩ = some (.string p) := by rw [hb1.cell (p := ⟨w.heap.size, 2, none⟩) hlt]; exact hc2
  have hc3' : w1.cell? ⟨w.heap.size, 3, none⟩ = some (.slice a l.length cap) := by rw [hb1.cell (p := ⟨w.heap.size, 3, none⟩) hlt]; exact hc3
  have hlt1 : w.heap.size < w1.heap.size := Nat.lt_of_lt_of_le hlt hb1.size
  clear CH HW hb1 HB hc2 hc3 hlt
  have C2 := CP.out w1 HB1.out
  go_wp2_with fail
  refine C2.mono ?_
  rintro e w2 ⟨rfl, hb2⟩
  have HB2 : Hid (Below w.heap.size w w2) := HB1.out.trans (hb2.mono HB1.out.size)
  have hc3 : w2.cell? ⟨w.heap.size, 3, none⟩ = some (.slice a l.length cap) := by rw [hb2.cell (p := ⟨w.heap.size, 3, none⟩) hlt1]; exact hc3'
  have hlt2 : w.heap.size < w2.heap.size := Nat.lt_of_lt_of_le hlt1 hb2.size
  clear C2 CP hb2 HB1 hc2' hc3' hlt1
  have C3 := CF.out w2 HB2.out
  go_wp2_with fail
  refine C3.mono ?_
  rintro e w3 ⟨rfl, hb3⟩
  have HB3 : Hid (Below w.heap.size w w3) := HB2.out.trans (hb3.mono HB2.out.size)
  have hc3' : w3.cell? ⟨w.heap.size, 3, none⟩ = some (.slice a l.length cap) := by rw [hb3.cell (p := ⟨w.heap.size, 3, none⟩) hlt2]; exact hc3
  have hlt3 : w.heap.size < w3.heap.size := Nat.lt_of_lt_of_le hlt2 hb3.size
  clear C3 CF hb3 HB2 hc3 hlt2
  have C4 := headError_any E (headsC l) w3 (HE0.out _ HB3.out) HK
  by_cases c0 : headsC l = 0
  · rw [c0] at C4
    rw [errV0] at C4
    rw [c0]
    have CJ : Calls Tryd.prog 41 #[.slice a l.length cap, .string ⟨#[72, 111, 115, 116]⟩] w3 fun e w' => e = .returned (.agg #[.int .i64 (joinC l ⟨#[72, 111, 115, 116]⟩), .string (joinT l ⟨#[72, 111, 115, 116]⟩)]) ∧ Below w3.heap.size w3 w' := implJoin_any w3 a cap l ⟨#[72, 111, 115, 116]⟩ hl hcap (HS.out _ HB3.out) (HI.out _ HB3.out)
    obtain ⟨hj1, hj2⟩ := reqJoin c0
    have HJ : Hid (Calls Tryd.prog 41 #[.slice a l.length cap, .string ⟨#[72, 111, 115, 116]⟩] w3 fun e w' => e = .returned (.agg #[.int .i64 (joinC l ⟨#[72, 111, 115, 116]⟩), .string (joinT l ⟨#[72, 111, 115, 116]⟩)]) ∧ Below w3.heap.size w3 w') := CJ
    clear CJ
    generalize joinT l ⟨#[72, 111, 115, 116]⟩ = jt at *
    by_cases cv : valsOf hostN l = []
    · rw [hj2 cv] at HJ
      have HN := (headsC_zero c0).1
      clear hj1 hj2 HI HS HK
      by_cases cn : 20 ≤ l.length
      · have HE : Hid (errV E (reqC ⟨#[72, 69, 65, 68]⟩ h p l) = .iface 133 (.pointer (some E.m))) := by show _ = _; rw [HR.out, restC_many c0 cv cn]; rfl
        have cn' : (l.length : Int) = 20 := by omega
        have cb : ((l.length : Int) == 20) = true := by rw [cn']; rfl
        clear HR cv cn cn' c0
        generalize l.length = n at *
        go_wp2_with fail
        refine C4.mono ?_
        rintro e w4 ⟨rfl, hw⟩
        obtain rfl := hw.symm
        clear C4 hw
        go_wp2_with fail
        refine HJ.out.mono ?_
        rintro e w5 ⟨rfl, hb5⟩
        have hc5 : w5.cell? ⟨w.heap.size, 3, none⟩ = some (.slice a n cap) := by rw [hb5.cell (p := ⟨w.heap.size, 3, none⟩) hlt3]; exact hc3'
        have HB5 : Hid (Below w.heap.size w w5) := HB3.out.trans (hb5.mono HB3.out.size)
        have gM := (HE0.out _ HB5.out).gM
        clear hb5 HJ hc3' hlt3 HB3 HE0
        have hfc := f_field_code
        go_wp2_with fail
        go_ret
        exact ⟨congrArg Ending.returned HE.out.symm, HB5.out⟩
      · have HE : Hid (errV E (reqC ⟨#[72, 69, 65, 68]⟩ h p l) = .nilIface) := by show _ = _; rw [HR.out, restC_ok c0 cv cn]; rfl
        have cb : ((l.length : Int) == 20) = false := by rw [beq_eq_false_iff_ne]; omega
        clear HR cv cn c0 HE0
        generalize l.length = n at *
        go_wp2_with fail
        refine C4.mono ?_
        rintro e w4 ⟨rfl, hw⟩
        obtain rfl := hw.symm
        clear C4 hw
        go_wp2_with fail
        refine HJ.out.mono ?_
        rintro e w5 ⟨rfl, hb5⟩
        have hc5 : w5.cell? ⟨w.heap.size, 3, none⟩ = some (.slice a n cap) := by rw [hb5.cell (p := ⟨w.heap.size, 3, none⟩) hlt3]; exact hc3'
        have HB5 : Hid (Below w.heap.size w w5) := HB3.out.trans (hb5.mono HB3.out.size)
        clear hb5 HJ hc3' hlt3 HB3
        have hfc := f_field_code
        go_wp2_with fail
        go_ret
        exact ⟨congrArg Ending.returned HE.out.symm, HB5.out⟩
    · rw [hj1 cv] at HJ
      have HE : Hid (errV E (reqC ⟨#[72, 69, 65, 68]⟩ h p l) = .iface 133 (.pointer (some E.d))) := by show _ = _; rw [HR.out, restC_host c0 cv]; rfl
      clear hj1 hj2 HI HS HK HR cv c0
      generalize l.length = n at *
      go_wp2_with fail
      refine C4.mono ?_
      rintro e w4 ⟨rfl, hw⟩
      obtain rfl := hw.symm
      clear C4 hw
      go_wp2_with fail
      refine HJ.out.mono ?_
      rintro e w5 ⟨rfl, hb5⟩
      have HB5 : Hid (Below w.heap.size w w5) := HB3.out.trans (hb5.mono HB3.out.size)
      have gD := (HE0.out _ HB5.out).gD
      clear hb5 HJ hc3' hlt3 HB3 HE0
      have hfc := f_field_code
      go_wp2_with fail
      go_ret
      exact ⟨congrArg Ending.returned HE.out.symm, HB5.out⟩
  · have HE : Hid (errV E (reqC ⟨#[72, 69, 65, 68]⟩ h p l) = errV E (headsC l)) := by show _ = _; rw [HR.out, restC_heads c0]
    have hv : ∃ x, errV E (headsC l) = .iface 133 (.pointer (some x)) := by
      rcases HK with e | e | e
      · exact absurd e c0
      · rw [e]; exact ⟨_, rfl⟩
      · rw [e]; exact ⟨_, rfl⟩
    obtain ⟨x, hx⟩ := hv
    rw [hx] at C4 HE
    clear HR HI HS HK HE0 c0 hx
    generalize headsC l = c at *
    generalize l.length = n at *
    go_wp2_with fail
    refine C4.mono ?_
    rintro e w4 ⟨rfl, hw⟩
    obtain rfl := hw.symm
    clear C4 hw
    go_wp2_with fail
    go_ret
    exact ⟨congrArg Ending.returned HE.out.symm, HB3.out⟩
set_option maxHeartbeats 1000000 in
theorem implReqE_any (E : Errs) (w : World) (m h p : ByteArray) (a : Option Addr) (cap : Nat) (l : List Hdr) (hl : l.length ≤ 1048576) (hcap : l.length ≤ cap) (hps : p.size ≤ 1048576) (hset : SetIs w) (hE : ErrsIs w E) (hi : HdsIn w a l) :
    Calls Tryd.prog 22 #[.agg #[.string m, .string h, .string p, .slice a l.length cap]] w fun e w' => e = .returned (errV E (reqC m h p l)) ∧ Below w.heap.size w w' := by
  by_cases c1 : m = ⟨#[71, 69, 84]⟩
  · subst c1; exact implReq_get E w h p a cap l hl hcap hps hset hE hi
  by_cases c2 : m = ⟨#[72, 69, 65, 68]⟩
  · subst c2; exact implReq_head E w h p a cap l hl hcap hps hset hE hi
  have HE : Hid (errV E (reqC m h p l) = .iface 133 (.pointer (some E.u))) := by
    show _ = _
    rw [reqC_bad (by
      have : methS m = false := by simp only [methS, getT, headT, c1, c2, decide_false]; rfl
      simp [lineS, this])]
    rfl
  have d1 : (m.toList == [71, 69, 84]) = false := lit_ne c1
  have d2 : (m.toList == [72, 69, 65, 68]) = false := lit_ne c2
  clear c1 c2
  have HB : Hid (Below w.heap.size w (w.alloc (.cells #[.string m, .string h, .string p, .slice a l.length cap] 29))) := (Below.refl _ _).alloc (Nat.le_refl _) _
  have gU := (hE.below HB.out).gU
  clear hi hset hE
  generalize l.length = n at *
  go_enter Tryd.func22, Tryd.ntmps22
  go_wp2_with fail
  go_ret
  exact ⟨congrArg Ending.returned HE.out.symm, HB.out⟩
set_option maxHeartbeats 1000000 in
theorem implReq_any (E : Errs) (w : World) (m h p : ByteArray) (a : Option Addr) (cap : Nat) (l : List Hdr) (hl : l.length ≤ 1048576) (hcap : l.length ≤ cap) (hps : p.size ≤ 1048576) (hset : SetIs w) (hE : ErrsIs w E) (hi : HdsIn w a l) :
    Calls Tryd.prog 8 #[.agg #[.string m, .string h, .string p, .slice a l.length cap]] w fun e w' => e = .returned (.int .i64 (reqC m h p l)) ∧ Below w.heap.size w w' := by
  have bW : Below w.heap.size w (w.alloc (.cells #[.string m, .string h, .string p, .slice a l.length cap] 29)) := (Below.refl _ _).alloc (Nat.le_refl _) _
  have C1 := implReqE_any E _ m h p a cap l hl hcap hps (hset.below bW) (hE.below bW) (hi.keep bW)
  have HK := reqC_codes m h p l
  have C2 : Hid (∀ X, ErrsIs X E → Calls Tryd.prog 21 #[errV E (reqC m h p l)] X fun e w' => e = .returned (.int .i64 (reqC m h p l)) ∧ w' = X) := fun X hX => codeOf_any E _ X hX (by omega)
  have HE0 : Hid (∀ X, Below w.heap.size w X → ErrsIs X E) := fun X hb => hE.below hb
  have HB : Hid (Below w.heap.size w (w.alloc (.cells #[.string m, .string h, .string p, .slice a l.length cap] 29))) := bW
  clear hi hset hE HK bW
  generalize reqC m h p l = c at *
  generalize l.length = n at *
  generalize errV E c = ev at *
  go_enter Tryd.func8, Tryd.ntmps8
  go_wp2_with fail
  refine C1.mono ?_
  rintro e w1 ⟨rfl, hb1⟩
  have HB1 : Hid (Below w.heap.size w w1) := HB.out.trans (hb1.mono HB.out.size)
  have C3 := C2.out w1 (HE0.out _ HB1.out)
  clear hb1 HB C1 C2 HE0
  go_wp2_with fail
  refine C3.mono ?_
  rintro e w2 ⟨rfl, hw⟩
  obtain rfl := hw.symm
  clear hw C3
  go_wp2_with fail
  go_ret
  exact ⟨rfl, HB1.out⟩
end Go.Proofs.YtojcjpdgjohldaaDoor
/-
  What ResponseFault and its model answer.
-/
namespace Go.Proofs.YtojcjpdgjohldaaDoor
open Go.ChangeShapes Go.WideShapes Go.ChangeAt Go.RowKit
set_option maxHeartbeats 400000 in
theorem rIn_any (s : Int) (w : World) (b : Bool) (hb : b = (decide (200 ≤ s) && decide (s ≤ 599))) :
    Calls Tryd.prog 25 #[.int .i64 s, .int .i64 200, .int .i64 599] w fun e w' => e = .returned (.bool b) ∧ w' = w := by
  have HE : Hid (b = (decide (200 ≤ s) && decide (s ≤ 599))) := hb
  clear hb
  by_cases c1 : (200 : Int) ≤ s
  · by_cases c2 : s ≤ 599
    · have HV : Hid (b = true) := by show _ = _; rw [HE.out]; simp [c1, c2]
      have d : decide (s ≤ 599) = true := by simpa using c2
      go_enter Tryd.func25, Tryd.ntmps25
      go_wp2
      go_ret
      exact ⟨ret_bool HV.out.symm, rfl⟩
    · have HV : Hid (b = false) := by show _ = _; rw [HE.out]; simp [c2]
      have d : decide (s ≤ 599) = false := by simpa using c2
      go_enter Tryd.func25, Tryd.ntmps25
      go_wp2
      go_ret
      exact ⟨ret_bool HV.out.symm, rfl⟩
  · have HV : Hid (b = false) := by show _ = _; rw [HE.out]; simp [c1]
    go_enter Tryd.func25, Tryd.ntmps25
    go_wp2
    go_ret
    exact ⟨ret_bool HV.out.symm, rfl⟩
set_option maxHeartbeats 4000000 in
theorem specResp_any (w : World) (s : Int) (a : Option Addr) (cap : Nat) (l : List Hdr) (bp : Option Addr) (bn bc : Nat) (hl : l.length ≤ 1048576) (hbn : bn ≤ 1048576) (hi : HdsIn w a l) :
    Calls Tryd.prog 11 #[.agg #[.int .i64 s, .slice a l.length cap, .slice bp bn bc]] w fun e w' => e = .returned (.int .i64 (respC s l bn)) ∧ Below w.heap.size w w' := by
  obtain ⟨W, hW⟩ : ∃ W, W = w.alloc (.cells #[.int .i64 s, .slice a l.length cap, .slice bp bn bc] 39) := ⟨_, rfl⟩
  have HW : Hid (W = w.alloc (.cells #[.int .i64 s, .slice a l.length cap, .slice bp bn bc] 39)) := hW
  have bW : Below w.heap.size w W := by rw [hW]; exact (Below.refl _ _).alloc (Nat.le_refl _) _
  have hlt : w.heap.size < W.heap.size := by rw [hW]; simp
  have hc1 : W.cell? ⟨w.heap.size, 1, none⟩ = some (.slice a l.length cap) := by rw [hW, World.cell?_alloc_mark]; rfl
  have hc2 : W.cell? ⟨w.heap.size, 2, none⟩ = some (.slice bp bn bc) := by rw [hW, World.cell?_alloc_mark]; rfl
  have HB : Hid (Below w.heap.size w W) := bW
  have CF := specHFault_any W a cap l hl (hi.keep bW)
  have CI := rIn_any s W _ rfl
  clear hW bW hi
  by_cases c0 : s < 200 ∨ 599 < s
  · have HE : Hid (respC s l bn = 3) := respC_range c0
    rw [show (decide (200 ≤ s) && decide (s ≤ 599)) = false from by simp; omega] at CI
    clear CF hc1 hc2 hlt c0
    generalize l.length = n at *
    go_enter Tryd.func11, Tryd.ntmps11
    go_wp2_with fail
    rw [← HW.out]
    refine CI.mono ?_
    rintro e w1 ⟨rfl, hw⟩
    obtain rfl := hw.symm
    clear CI HW hw
    go_wp2_with fail
    go_ret
    exact ⟨ret_int HE.out.symm, HB.out⟩
  rw [show (decide (200 ≤ s) && decide (s ≤ 599)) = true from by simp; omega] at CI
  have HE1 : Hid (headsC l ≠ 0 → respC s l bn = headsC l) := fun h => respC_heads c0 h
  have HE2 : Hid (headsC l = 0 → 2000 < bn → respC s l bn = 2) := fun h h2 => respC_many c0 h h2
  have HE3 : Hid (headsC l = 0 → ¬ 2000 < bn → respC s l bn = 0) := fun h h2 => respC_ok c0 h h2
  clear c0
  generalize respC s l bn = rc at *
  generalize headsC l = c at *
  generalize l.length = n at *
  go_enter Tryd.func11, Tryd.ntmps11
  go_wp2_with fail
  rw [← HW.out]
  refine CI.mono ?_
  rintro e w1 ⟨rfl, hw⟩
  obtain rfl := hw.symm
  clear CI HW hw
  go_wp2_with fail
  refine CF.mono ?_
  rintro e w2 ⟨rfl, hb2⟩
  have HB2 : Hid (Below w.heap.size w w2) := HB.out.trans (hb2.mono HB.out.size)
  have hc2' : w2.cell? ⟨w.heap.size, 2, none⟩ = some (.slice bp bn bc) := by rw [hb2.cell (p := ⟨w.heap.size, 2, none⟩) hlt]; exact hc2
  clear CF hb2 HB hc1 hc2 hlt
  by_cases c1 : c = 0
  · subst c1
    by_cases c2 : 2000 < bn
    · have HE : Hid (rc = 2) := HE2.out rfl c2
      have g : (2000 : Int) < bn := by omega
      clear HE1 HE2 HE3 c2
      go_wp2_with fail
      go_ret
      exact ⟨ret_int HE.out.symm, HB2.out⟩
    · have HE : Hid (rc = 0) := HE3.out rfl c2
      have g : ¬ (2000 : Int) < bn := by omega
      clear HE1 HE2 HE3 c2
      go_wp2_with fail
      go_ret
      exact ⟨ret_int HE.out.symm, HB2.out⟩
  · have HE : Hid (rc = c) := HE1.out c1
    clear HE1 HE2 HE3 hc2'
    go_wp2_with fail
    go_ret
    exact ⟨ret_int HE.out.symm, HB2.out⟩
set_option maxHeartbeats 4000000 in
theorem implRespE_any (E : Errs) (w : World) (s : Int) (a : Option Addr) (cap : Nat) (l : List Hdr) (bp : Option Addr) (bn bc : Nat) (hl : l.length ≤ 1048576) (hbn : bn ≤ 1048576) (hset : SetIs w) (hE : ErrsIs w E) (hi : HdsIn w a l) :
    Calls Tryd.prog 27 #[.agg #[.int .i64 s, .slice a l.length cap, .slice bp bn bc]] w fun e w' => e = .returned (errV E (respC s l bn)) ∧ Below w.heap.size w w' := by
  obtain ⟨W, hW⟩ : ∃ W, W = w.alloc (.cells #[.int .i64 s, .slice a l.length cap, .slice bp bn bc] 39) := ⟨_, rfl⟩
  have HW : Hid (W = w.alloc (.cells #[.int .i64 s, .slice a l.length cap, .slice bp bn bc] 39)) := hW
  have bW : Below w.heap.size w W := by rw [hW]; exact (Below.refl _ _).alloc (Nat.le_refl _) _
  have hlt : w.heap.size < W.heap.size := by rw [hW]; simp
  have hc2 : W.cell? ⟨w.heap.size, 2, none⟩ = some (.slice bp bn bc) := by rw [hW, World.cell?_alloc_mark]; rfl
  have HB : Hid (Below w.heap.size w W) := bW
  have CF := implHFault_any W a cap l hl (hset.below bW) (hi.keep bW)
  have HE0 : Hid (∀ X, Below w.heap.size w X → ErrsIs X E) := fun X hb => hE.below hb
  have HK := headsC_codes l
  have gB0 := (hE.below bW).gB
  rw [hW] at gB0
  clear hW bW hi hset hE
  by_cases c0 : s < 200 ∨ 599 < s
  · have HE : Hid (errV E (respC s l bn) = .iface 133 (.pointer (some E.b))) := by show _ = _; rw [respC_range c0]; rfl
    rw [HW.out] at HB
    clear CF hc2 hlt HE0 HK HW
    generalize l.length = n at *
    rcases c0 with c0 | c0
    · go_enter Tryd.func27, Tryd.ntmps27
      go_wp2_with fail
      go_ret
      exact ⟨congrArg Ending.returned HE.out.symm, HB.out⟩
    · have c1 : ¬ s < 200 := by omega
      go_enter Tryd.func27, Tryd.ntmps27
      go_wp2_with fail
      go_ret
      exact ⟨congrArg Ending.returned HE.out.symm, HB.out⟩
  have HE1 : Hid (headsC l ≠ 0 → respC s l bn = headsC l) := fun h => respC_heads c0 h
  have HE2 : Hid (headsC l = 0 → 2000 < bn → respC s l bn = 2) := fun h h2 => respC_many c0 h h2
  have HE3 : Hid (headsC l = 0 → ¬ 2000 < bn → respC s l bn = 0) := fun h h2 => respC_ok c0 h h2
  have g1 : ¬ s < 200 := by omega
  have g2 : ¬ 599 < s := by omega
  clear c0 gB0
  generalize respC s l bn = rc at *
  generalize headsC l = c at *
  generalize l.length = n at *
  go_enter Tryd.func27, Tryd.ntmps27
  go_wp2_with fail
  rw [← HW.out]
  refine CF.mono ?_
  rintro e w2 ⟨rfl, hb2⟩
  have HB2 : Hid (Below w.heap.size w w2) := HB.out.trans (hb2.mono HB.out.size)
  have hc2' : w2.cell? ⟨w.heap.size, 2, none⟩ = some (.slice bp bn bc) := by rw [hb2.cell (p := ⟨w.heap.size, 2, none⟩) hlt]; exact hc2
  clear CF hb2 HB hc2 hlt HW g1 g2
  have C4 := headError_any E c w2 (HE0.out _ HB2.out) HK
  by_cases c1 : c = 0
  · subst c1
    rw [errV0] at C4
    by_cases c2 : 2000 < bn
    · have HE : Hid (errV E rc = .iface 133 (.pointer (some E.m))) := by show _ = _; rw [HE2.out rfl c2]; rfl
      have g : (2000 : Int) < bn := by omega
      have gM := (HE0.out _ HB2.out).gM
      clear HE1 HE2 HE3 c2 HE0 HK
      go_wp2_with fail
      refine C4.mono ?_
      rintro e w4 ⟨rfl, hw⟩
      obtain rfl := hw.symm
      clear C4 hw
      go_wp2_with fail
      go_ret
      exact ⟨congrArg Ending.returned HE.out.symm, HB2.out⟩
    · have HE : Hid (errV E rc = .nilIface) := by show _ = _; rw [HE3.out rfl c2]; rfl
      have g : ¬ (2000 : Int) < bn := by omega
      clear HE1 HE2 HE3 c2 HE0 HK
      go_wp2_with fail
      refine C4.mono ?_
      rintro e w4 ⟨rfl, hw⟩
      obtain rfl := hw.symm
      clear C4 hw
      go_wp2_with fail
      go_ret
      exact ⟨congrArg Ending.returned HE.out.symm, HB2.out⟩
  · have HE : Hid (errV E rc = errV E c) := by show _ = _; rw [HE1.out c1]
    have hv : ∃ x, errV E c = .iface 133 (.pointer (some x)) := by
      rcases HK with e | e | e
      · exact absurd e c1
      · rw [e]; exact ⟨_, rfl⟩
      · rw [e]; exact ⟨_, rfl⟩
    obtain ⟨x, hx⟩ := hv
    rw [hx] at C4 HE
    clear HE1 HE2 HE3 HE0 HK hc2' hx c1
    go_wp2_with fail
    refine C4.mono ?_
    rintro e w4 ⟨rfl, hw⟩
    obtain rfl := hw.symm
    clear C4 hw
    go_wp2_with fail
    go_ret
    exact ⟨congrArg Ending.returned HE.out.symm, HB2.out⟩
set_option maxHeartbeats 1000000 in
theorem implResp_any (E : Errs) (w : World) (s : Int) (a : Option Addr) (cap : Nat) (l : List Hdr) (bp : Option Addr) (bn bc : Nat) (hl : l.length ≤ 1048576) (hbn : bn ≤ 1048576) (hset : SetIs w) (hE : ErrsIs w E) (hi : HdsIn w a l) :
    Calls Tryd.prog 13 #[.agg #[.int .i64 s, .slice a l.length cap, .slice bp bn bc]] w fun e w' => e = .returned (.int .i64 (respC s l bn)) ∧ Below w.heap.size w w' := by
  have bW : Below w.heap.size w (w.alloc (.cells #[.int .i64 s, .slice a l.length cap, .slice bp bn bc] 39)) := (Below.refl _ _).alloc (Nat.le_refl _) _
  have C1 := implRespE_any E _ s a cap l bp bn bc hl hbn (hset.below bW) (hE.below bW) (hi.keep bW)
  have HK := respC_codes s l bn
  have C2 : Hid (∀ X, ErrsIs X E → Calls Tryd.prog 21 #[errV E (respC s l bn)] X fun e w' => e = .returned (.int .i64 (respC s l bn)) ∧ w' = X) := fun X hX => codeOf_any E _ X hX (by omega)
  have HE0 : Hid (∀ X, Below w.heap.size w X → ErrsIs X E) := fun X hb => hE.below hb
  have HB : Hid (Below w.heap.size w (w.alloc (.cells #[.int .i64 s, .slice a l.length cap, .slice bp bn bc] 39))) := bW
  clear hi hset hE HK bW
  generalize respC s l bn = c at *
  generalize l.length = n at *
  generalize errV E c = ev at *
  go_enter Tryd.func13, Tryd.ntmps13
  go_wp2_with fail
  refine C1.mono ?_
  rintro e w1 ⟨rfl, hb1⟩
  have HB1 : Hid (Below w.heap.size w w1) := HB.out.trans (hb1.mono HB.out.size)
  have C3 := C2.out w1 (HE0.out _ HB1.out)
  clear hb1 HB C1 C2 HE0
  go_wp2_with fail
  refine C3.mono ?_
  rintro e w2 ⟨rfl, hw⟩
  obtain rfl := hw.symm
  clear hw C3
  go_wp2_with fail
  go_ret
  exact ⟨rfl, HB1.out⟩
end Go.Proofs.YtojcjpdgjohldaaDoor
/-
  The law of ResponseFault.
-/
namespace Go.Proofs.YtojcjpdgjohldaaDoor
open Go.ChangeShapes Go.WideShapes Go.ChangeAt Go.RowKit
set_option maxRecDepth 100000 in
set_option maxHeartbeats 8000000 in
theorem lawResponseFault (E : Errs) (w : World) (s : Int) (a : Option Addr) (cap : Nat) (l : List Hdr) (b : Option Addr) (bc : Nat) (bl : List UInt8) (hset : SetIs w) (hE : ErrsIs w E) (hl : l.length ≤ maxLen) (hz : SmallHdrs l) (hi : HdsIn w a l) (hbl : bl.length ≤ maxLen) (hib : BIn w b bl) :
    Calls Tryd.prog 4 #[.agg #[.int .i64 s, .slice a l.length cap, .slice b bl.length bc]] w fun e w' => e = .returned (.bool true) ∧ Below w.heap.size w w' := by
  obtain ⟨W, hW⟩ : ∃ W, W = w.alloc (.cells #[.int .i64 s, .slice a l.length cap, .slice b bl.length bc] 35) := ⟨_, rfl⟩
  have HW : Hid (W = w.alloc (.cells #[.int .i64 s, .slice a l.length cap, .slice b bl.length bc] 35)) := hW
  have bW : Below w.heap.size w W := by rw [hW]; exact (Below.refl _ _).alloc (Nat.le_refl _) _
  have fW : Three W w.heap.size (.int .i64 s) (.slice a l.length cap) (.slice b bl.length bc) := by rw [hW]; exact Three.new _ _ _ _ _
  have K0 : Hid (Below w.heap.size w W ∧ Three W w.heap.size (.int .i64 s) (.slice a l.length cap) (.slice b bl.length bc)) := ⟨bW, fW⟩
  have HZ := szResponse_any W s a cap l b bl.length bc hl hz (hi.keep bW) hbl 1048576 (by omega) (by omega)
  have HR : Hid (¬ szP 1048576 l bl.length < 0 → l.length ≤ 1048576 ∧ bl.length ≤ 1048576 ∧ szP 1048576 l bl.length ≤ 1048576) := szP_room (by omega)
  have HI : Hid (∀ X, Below w.heap.size w X → HdsIn X a l) := fun X hb => hi.keep hb
  have HIB : Hid (∀ X, Below w.heap.size w X → BIn X b bl) := fun X hb => hib.keep hb
  have HS : Hid (∀ X, Below w.heap.size w X → SetIs X) := fun X hb => hset.below hb
  have HE0 : Hid (∀ X, Below w.heap.size w X → ErrsIs X E) := fun X hb => hE.below hb
  generalize szP 1048576 l bl.length = z at *
  clear hW bW fW hi hset hE hz hl hbl hib
  go_enter Tryd.func4, Tryd.ntmps4
  go_wp2_with fail
  rw [← HW.out]
  refine HZ.mono ?_
  rintro e w1 ⟨rfl, hb1⟩
  have K1 : Hid (Below w.heap.size w w1 ∧ Three w1 w.heap.size (.int .i64 s) (.slice a l.length cap) (.slice b bl.length bc)) := ⟨K0.out.1.trans (hb1.mono K0.out.1.size), K0.out.2.keep hb1⟩
  clear HZ HW hb1 K0
  by_cases cz : z < 0
  · have KB := K1.out.1
    clear K1 HR HI HS HE0 HIB
    have KB' : Hid (Below w.heap.size w w1) := KB
    clear KB
    go_wp2_with fail
    go_ret
    exact ⟨rfl, KB'.out⟩
  obtain ⟨y4, y5, y6⟩ := HR.out (by omega)
  have HT : Hid (∀ X, Below w.heap.size w X → Calls Tryd.prog 12 #[.agg #[.int .i64 s, .slice a l.length cap, .slice b bl.length bc]] X fun e w' => (∃ B, e = .returned (.agg #[.int .i64 s, .slice (some ⟨X.heap.size + 3, 0, none⟩) l.length l.length, .slice (some ⟨B, 0, none⟩) bl.length bl.length]) ∧ QMine w' (X.heap.size + 3) l ∧ BMine w' B bl ∧ X.heap.size + 3 < B) ∧ Below X.heap.size X w') := fun X hb => toResponse_any X s a cap l b bc bl y4 y5 (HI.out X hb) (HIB.out X hb)
  have HF : Hid (∀ X k d, QMine X k l → Calls Tryd.prog 11 #[.agg #[.int .i64 s, .slice (some ⟨k, 0, none⟩) l.length l.length, .slice (some ⟨d, 0, none⟩) bl.length bl.length]] X fun e w' => e = .returned (.int .i64 (respC s l bl.length)) ∧ Below X.heap.size X w') := fun X k d hq => specResp_any X s _ _ l _ bl.length bl.length y4 y5 (.inr ⟨k, 0, rfl, hq.at0⟩)
  have HG : Hid (∀ X k d, Below w.heap.size w X → QMine X k l → Calls Tryd.prog 13 #[.agg #[.int .i64 s, .slice (some ⟨k, 0, none⟩) l.length l.length, .slice (some ⟨d, 0, none⟩) bl.length bl.length]] X fun e w' => e = .returned (.int .i64 (respC s l bl.length)) ∧ Below X.heap.size X w') := fun X k d hb hq => implResp_any E X s _ _ l _ bl.length bl.length y4 y5 (HS.out X hb) (HE0.out X hb) (.inr ⟨k, 0, rfl, hq.at0⟩)
  have HQ : Hid (∀ X k1 k2 d1 d2, QMine X k1 l → QMine X k2 l → BMine X d1 bl → BMine X d2 bl → Calls Tryd.prog 14 #[.agg #[.int .i64 s, .slice (some ⟨k1, 0, none⟩) l.length l.length, .slice (some ⟨d1, 0, none⟩) bl.length bl.length], .agg #[.int .i64 s, .slice (some ⟨k2, 0, none⟩) l.length l.length, .slice (some ⟨d2, 0, none⟩) bl.length bl.length]] X fun e w' => e = .returned (.bool true) ∧ Below X.heap.size X w') := fun X k1 k2 d1 d2 h1 h2 h3 h4 => eqResponse_same X s k1 k2 l d1 d2 bl y4 y5 h1.at0 h2.at0 h3 h4
  clear HR HI HS HE0 HIB y6
  generalize respC s l bl.length = c at *
  generalize l.length = n at *
  generalize bl.length = bn at *
  have C1 := HT.out w1 K1.out.1
  obtain ⟨q0, q1, q2, _, _⟩ := K1.out.2
  go_wp2_with fail
  refine C1.mono ?_
  rintro e w2 ⟨⟨d2, rfl, hm2, _, _⟩, hb2⟩
  have K2 : Hid (Below w.heap.size w w2 ∧ Three w2 w.heap.size (.int .i64 s) (.slice a n cap) (.slice b bn bc)) := ⟨K1.out.1.trans (hb2.mono K1.out.1.size), K1.out.2.keep hb2⟩
  have C2 := HF.out w2 _ d2 hm2
  clear K1 C1 q0 q1 q2 hb2 hm2 HF
  go_wp2_with fail
  refine C2.mono ?_
  rintro e w3 ⟨rfl, hb3⟩
  have K3 : Hid (Below w.heap.size w w3 ∧ Three w3 w.heap.size (.int .i64 s) (.slice a n cap) (.slice b bn bc)) := ⟨K2.out.1.trans (hb3.mono K2.out.1.size), K2.out.2.keep hb3⟩
  clear K2 C2 hb3
  try clear w2
  try clear w1
  have C3 := HT.out w3 K3.out.1
  obtain ⟨q0, q1, q2, _, _⟩ := K3.out.2
  go_wp2_with fail
  refine C3.mono ?_
  rintro e w4 ⟨⟨d4, rfl, hm4, hd4, _⟩, hb4⟩
  obtain ⟨V, hV⟩ : ∃ V, V = w4.alloc (.cells #[.int .i64 s, .slice (some ⟨w3.heap.size + 3, 0, none⟩) n n, .slice (some ⟨d4, 0, none⟩) bn bn] 39) := ⟨_, rfl⟩
  have HV : Hid (V = w4.alloc (.cells #[.int .i64 s, .slice (some ⟨w3.heap.size + 3, 0, none⟩) n n, .slice (some ⟨d4, 0, none⟩) bn bn] 39)) := hV
  have aV : Below w4.heap.size w4 V := by rw [hV]; exact (Below.refl _ _).alloc (Nat.le_refl _) _
  have fV : Three V w4.heap.size (.int .i64 s) (.slice (some ⟨w3.heap.size + 3, 0, none⟩) n n) (.slice (some ⟨d4, 0, none⟩) bn bn) := by rw [hV]; exact Three.new _ _ _ _ _
  have b4 := K3.out.1.trans (hb4.mono K3.out.1.size)
  have K4 : Hid (Below w.heap.size w V ∧ Three V w.heap.size (.int .i64 s) (.slice a n cap) (.slice b bn bc) ∧ Three V w4.heap.size (.int .i64 s) (.slice (some ⟨w3.heap.size + 3, 0, none⟩) n n) (.slice (some ⟨d4, 0, none⟩) bn bn) ∧ QMine V (w3.heap.size + 3) l ∧ BMine V d4 bl) := ⟨b4.trans (aV.mono b4.size), (K3.out.2.keep hb4).keep aV, fV, hm4.keep aV, hd4.keep aV⟩
  clear K3 C3 q0 q1 q2 hb4 hm4 hd4 hV aV fV b4
  have C4 := HG.out V _ d4 K4.out.1 K4.out.2.2.2.1
  go_wp2_with fail
  rw [← HV.out]
  refine C4.mono ?_
  rintro e w5 ⟨rfl, hb5⟩
  have K5 : Hid (Below w.heap.size w w5 ∧ Three w5 w.heap.size (.int .i64 s) (.slice a n cap) (.slice b bn bc) ∧ Three w5 w4.heap.size (.int .i64 s) (.slice (some ⟨w3.heap.size + 3, 0, none⟩) n n) (.slice (some ⟨d4, 0, none⟩) bn bn) ∧ QMine w5 (w3.heap.size + 3) l ∧ BMine w5 d4 bl) := ⟨K4.out.1.trans (hb5.mono K4.out.1.size), K4.out.2.1.keep hb5, K4.out.2.2.1.keep hb5, K4.out.2.2.2.1.keep hb5, K4.out.2.2.2.2.keep hb5⟩
  clear K4 C4 hb5 HV HG
  try clear V
  generalize w3.heap.size + 3 = bx at *
  generalize w4.heap.size = bk at *
  try clear w4
  try clear w3
  go_wp2_with fail
  have HK : Hid (∀ X, Below w5.heap.size w5 X → Below w.heap.size w X ∧ Three X w.heap.size (.int .i64 s) (.slice a n cap) (.slice b bn bc) ∧ Three X bk (.int .i64 s) (.slice (some ⟨bx, 0, none⟩) n n) (.slice (some ⟨d4, 0, none⟩) bn bn) ∧ QMine X bx l ∧ BMine X d4 bl) := fun X hb => ⟨K5.out.1.trans (hb.mono K5.out.1.size), K5.out.2.1.keep hb, K5.out.2.2.1.keep hb, K5.out.2.2.2.1.keep hb, K5.out.2.2.2.2.keep hb⟩
  clear K5
  have B0 : Hid (Below w5.heap.size w5 w5.drew) := (Below.refl _ _).drew
  have HKS : Hid (∀ X, Below w5.heap.size w5 X → (X.cell? ⟨w.heap.size, 0, none⟩ = some (.int .i64 s) ∧ X.cell? ⟨w.heap.size, 1, none⟩ = some (.slice a n cap) ∧ X.cell? ⟨w.heap.size, 2, none⟩ = some (.slice b bn bc)) ∧ X.cell? ⟨bk, 0, none⟩ = some (.int .i64 s) ∧ X.cell? ⟨bk, 1, none⟩ = some (.slice (some ⟨bx, 0, none⟩) n n) ∧ X.cell? ⟨bk, 2, none⟩ = some (.slice (some ⟨d4, 0, none⟩) bn bn)) := fun X hb => ⟨⟨(HK.out X hb).2.1.c0, (HK.out X hb).2.1.c1, (HK.out X hb).2.1.c2⟩, (HK.out X hb).2.2.1.c0, (HK.out X hb).2.2.1.c1, (HK.out X hb).2.2.1.c2⟩
  go_region_held3 (fun X => (X.cell? ⟨w.heap.size, 0, none⟩ = some (.int .i64 s) ∧ X.cell? ⟨w.heap.size, 1, none⟩ = some (.slice a n cap) ∧ X.cell? ⟨w.heap.size, 2, none⟩ = some (.slice b bn bc)) ∧ X.cell? ⟨bk, 0, none⟩ = some (.int .i64 s) ∧ X.cell? ⟨bk, 1, none⟩ = some (.slice (some ⟨bx, 0, none⟩) n n) ∧ X.cell? ⟨bk, 2, none⟩ = some (.slice (some ⟨d4, 0, none⟩) bn bn))
    (first | exact HKS.out _ BB.out | exact HKS.out _ BA.out | exact HKS.out _ B0.out)
    (first
    | (go_at_call 12; refine (HT.out _ (HK.out _ B0.out).1).mono ?_; rintro e wa ⟨⟨da, rfl, hma, hda, _⟩, hba⟩; have MA : Hid (QMine wa _ l ∧ BMine wa da bl) := ⟨hma, hda⟩; have BA : Hid (Below w5.heap.size w5 wa) := B0.out.trans (hba.mono B0.out.size); clear hba hma hda)
    | (go_at_call 14; refine (HQ.out _ _ _ _ _ (HK.out _ BA.out).2.2.2.1 MA.out.1 (HK.out _ BA.out).2.2.2.2 MA.out.2).mono ?_; rintro e wb ⟨rfl, hbb⟩; have BB : Hid (Below w5.heap.size w5 wb) := BA.out.trans (hbb.mono BA.out.size); clear hbb))
  all_goals (go_wp2_with fail; go_ret; exact ⟨rfl, (HK.out _ BB.out).1⟩)
end Go.Proofs.YtojcjpdgjohldaaDoor
/-
  Head lines that came in, opened.
-/
namespace Go.Proofs.YtojcjpdgjohldaaDoor
open Go.ChangeShapes Go.WideShapes Go.ChangeAt Go.RowKit Go.Deep
theorem headerCells : Tryd.prog.cellsOf 61 = 2 := by kernel_rfl
theorem hOneS : Tryd.prog.cellsOf 9 = 1 := by kernel_rfl
theorem hdr_of {H : Type} {enc : TypeId × Value → H} {w : World} {base : Nat} {spare : Nat → Bool} {held : Bool} {fuel : Nat} {cs : List Value} {x : DataW H × List MemPlace}
    (h : DataW.trod enc Tryd.prog w base spare held fuel 61 cs = some x) : ∃ r : Hdr, cs = [.string r.name, .string r.value] ∧ r.name.size ≤ maxLen ∧ r.value.size ≤ maxLen := by
  obtain ⟨y0, y1, n, _, hl, h0, h2⟩ := trod_struct2 Tryd.underlying61 h
  rw [headerCells] at hl
  simp only [hOneS] at h0 h2
  obtain ⟨s0, e0, _, z0⟩ := DataW.trod_string Tryd.underlying9 h0
  obtain ⟨s2, e2, _, z2⟩ := DataW.trod_string Tryd.underlying9 h2
  match cs, hl with
  | [c0, c2], _ =>
    simp only [List.drop_zero, List.take_succ_cons, List.take_zero, List.drop_succ_cons, List.cons.injEq, and_true] at e0 e2
    exact ⟨⟨s0, s2⟩, by rw [e0, e2], z0, z2⟩
theorem open_headers {H : Type} {enc : TypeId × Value → H} {w : World} {base : Nat} {spare : Nat → Bool} {held : Bool} {fuel : Nat} {a : Option Addr} {len cap : Nat} {x : DataW H × List MemPlace}
    (h : DataW.trod enc Tryd.prog w base spare held fuel 22 [.slice a len cap] = some x) :
    ∃ l : List Hdr, l.length = len ∧ len ≤ maxLen ∧ SmallHdrs l ∧ (l = [] ∨ ∃ b off, a = some ⟨b, off, none⟩ ∧ HeadsAt w b off l) := by
  rcases open_slice Tryd.underlying22 h with ⟨hcs, _⟩ | ⟨A, len', cap', m, n, D, Pl, hcs, _, hl, hm, hmm, _, hel⟩
  · simp only [List.cons.injEq, Value.slice.injEq, and_true] at hcs
    obtain ⟨_, rfl, _⟩ := hcs
    exact ⟨[], rfl, by unfold maxLen; omega, fun i r hr => by simp at hr, .inl rfl⟩
  · simp only [List.cons.injEq, Value.slice.injEq, and_true] at hcs
    obtain ⟨rfl, rfl, rfl⟩ := hcs
    have hlm : len ≤ m := by rw [hmm]; split <;> omega
    have hrec : ∀ i, i < len → ∃ r : Hdr, w.cells? base (A.add (i * 2)) 2 = some [.string r.name, .string r.value] ∧ r.name.size ≤ maxLen ∧ r.value.size ≤ maxLen := by
      intro i hi
      obtain ⟨cs', hc, ht⟩ := hel i (by omega)
      rw [headerCells] at hc
      obtain ⟨r, rfl, z⟩ := hdr_of ht
      exact ⟨r, hc, z⟩
    obtain ⟨f, hf⟩ : ∃ f : Nat → Hdr, ∀ i, i < len → w.cells? base (A.add (i * 2)) 2 = some [.string (f i).name, .string (f i).value] ∧ (f i).name.size ≤ maxLen ∧ (f i).value.size ≤ maxLen := by
      classical
      refine ⟨fun i => if hi : i < len then (hrec i hi).choose else ⟨.empty, .empty⟩, fun i hi => ?_⟩
      simp only [dif_pos hi]
      exact (hrec i hi).choose_spec
    refine ⟨(List.range len).map f, by simp, by omega, ?_, ?_⟩
    · intro i r hr
      rw [List.getElem?_map] at hr
      obtain ⟨j, hj, rfl⟩ := Option.map_eq_some_iff.1 hr
      obtain ⟨hlt, rfl⟩ := List.getElem?_eq_some_iff.1 hj
      simp at hlt
      simpa using (hf i hlt).2
    · by_cases h0 : len = 0
      · subst h0; exact .inl rfl
      · obtain ⟨b, off, spot⟩ := A
        have cells : ∀ i, i < len → ∀ j, j < 2 → w.cell? ((⟨b, off, spot⟩ : Addr).add (i * 2 + j)) = ([.string (f i).name, .string (f i).value] : List Value)[j]? := by
          intro i hi j hj
          have c := (World.cells?_some (hf i hi).1).2.2 j hj
          rw [add_add] at c
          exact c
        have hs : spot = none := by
          have c := cells 0 (by omega) 0 (by omega)
          simp only [Nat.zero_mul, Nat.add_zero, List.getElem?_cons_zero] at c
          simpa [Addr.add] using World.cell?_spot c
        subst hs
        have hadd : ∀ i, (⟨b, off, none⟩ : Addr).add i = ⟨b, off + i, none⟩ := fun i => by unfold Addr.add; split <;> simp_all
        refine .inr ⟨b, off, rfl, fun i r hr => ?_⟩
        rw [List.getElem?_map] at hr
        obtain ⟨j, hj, rfl⟩ := Option.map_eq_some_iff.1 hr
        obtain ⟨hlt, rfl⟩ := List.getElem?_eq_some_iff.1 hj
        simp only [List.length_range] at hlt
        simp only [List.getElem_range]
        have q0 := cells i hlt 0 (by omega)
        have q1 := cells i hlt 1 (by omega)
        rw [hadd] at q0 q1
        exact ⟨by simpa using q0, by simpa [Nat.add_assoc] using q1⟩
end Go.Proofs.YtojcjpdgjohldaaDoor
/-
  A request and a response that came in by value, opened.
-/
namespace Go.Proofs.YtojcjpdgjohldaaDoor
open Go.ChangeShapes Go.WideShapes Go.ChangeAt Go.RowKit Go.Deep
theorem requestCells : Tryd.prog.cellsOf 24 = 4 := by kernel_rfl
theorem headsOne : Tryd.prog.cellsOf 22 = 1 := by kernel_rfl
theorem slice_cs {H : Type} {enc : TypeId × Value → H} {w : World} {base : Nat} {spare : Nat → Bool} {held : Bool} {fuel : Nat} {cs : List Value} {t e : TypeId} {x : DataW H × List MemPlace}
    (hu : Tryd.prog.underlying t = some (.slice e)) (h : DataW.trod enc Tryd.prog w base spare held fuel t cs = some x) : ∃ a len cap, cs = [.slice a len cap] := by
  rcases open_slice hu h with ⟨hcs, _⟩ | ⟨A, len', cap', m, n, D, Pl, hcs, _⟩
  · exact ⟨_, _, _, hcs⟩
  · exact ⟨_, _, _, hcs⟩
set_option maxRecDepth 100000 in
theorem open_request {H : Type} {enc : TypeId × Value → H} {w : World} {r : Reach} {b0 base : Nat} {spare : Nat → Bool} {held : Bool} {v : Value} {d : DataW H} {p : List MemPlace}
    (hv : Value.okWide Tryd.prog w r b0 24 v) (h : DataW.Trod enc Tryd.prog w base spare held 24 v d p) :
    ∃ (m h p : ByteArray) (a : Option Addr) (cap : Nat) (l : List Hdr), v = .agg #[.string m, .string h, .string p, .slice a l.length cap] ∧ m.size ≤ maxLen ∧ h.size ≤ maxLen ∧ p.size ≤ maxLen ∧ l.length ≤ maxLen ∧ SmallHdrs l ∧ (l = [] ∨ ∃ b off, a = some ⟨b, off, none⟩ ∧ HeadsAt w b off l) := by
  obtain ⟨cs, rfl, hsz⟩ := okWide_struct Tryd.underlying24 hv
  obtain ⟨fuel, hf0⟩ := h
  obtain ⟨xs, n, _, _, hl, hlen, hf⟩ := DataW.trod_struct Tryd.underlying24 hf0
  match xs, hlen with
  | [y0, y1, y2, y3], _ =>
    have h0 : DataW.trod enc Tryd.prog w base spare held n 9 (((Value.agg cs).cells.toList.drop 0).take (Tryd.prog.cellsOf 9)) = some y0 := hf 0 _ rfl
    have h1 : DataW.trod enc Tryd.prog w base spare held n 9 (((Value.agg cs).cells.toList.drop 1).take (Tryd.prog.cellsOf 9)) = some y1 := hf 1 _ rfl
    have h2 : DataW.trod enc Tryd.prog w base spare held n 9 (((Value.agg cs).cells.toList.drop 2).take (Tryd.prog.cellsOf 9)) = some y2 := hf 2 _ rfl
    have h3 : DataW.trod enc Tryd.prog w base spare held n 22 (((Value.agg cs).cells.toList.drop 3).take (Tryd.prog.cellsOf 22)) = some y3 := hf 3 _ rfl
    rw [hOneS] at h0 h1 h2
    rw [headsOne] at h3
    obtain ⟨s0, e0, _, z0⟩ := DataW.trod_string Tryd.underlying9 h0
    obtain ⟨s1, e1, _, z1⟩ := DataW.trod_string Tryd.underlying9 h1
    obtain ⟨s2, e2, _, z2⟩ := DataW.trod_string Tryd.underlying9 h2
    obtain ⟨a, len, cap, e3⟩ := slice_cs Tryd.underlying22 h3
    rw [e3] at h3
    obtain ⟨l, rfl, m3, s3, o3⟩ := open_headers h3
    refine ⟨s0, s1, s2, a, cap, l, ?_, z0, z1, z2, m3, s3, o3⟩
    have e : cs.toList = [.string s0, .string s1, .string s2, .slice a l.length cap] := by
      simp only [Value.cells] at e0 e1 e2 e3 hl
      rw [requestCells] at hl
      match hc : cs.toList, hl with
      | [c0, c1, c2, c3], _ =>
        rw [hc] at e0 e1 e2 e3
        simp only [List.drop_zero, List.take_succ_cons, List.take_zero, List.drop_succ_cons, List.cons.injEq, and_true] at e0 e1 e2 e3
        rw [e0, e1, e2, e3]
    congr 1
    exact Array.toList_inj.1 e
end Go.Proofs.YtojcjpdgjohldaaDoor
/-
  A response, a row of bytes, a list of texts that came in, opened.
-/
namespace Go.Proofs.YtojcjpdgjohldaaDoor
open Go.ChangeShapes Go.WideShapes Go.ChangeAt Go.RowKit Go.Deep
theorem bytesOne : Tryd.prog.cellsOf 5 = 1 := by kernel_rfl
theorem open_bytes {H : Type} {enc : TypeId × Value → H} {w : World} {base : Nat} {spare : Nat → Bool} {held : Bool} {fuel : Nat} {a : Option Addr} {len cap : Nat} {x : DataW H × List MemPlace}
    (h : DataW.trod enc Tryd.prog w base spare held fuel 33 [.slice a len cap] = some x) : ∃ l : List UInt8, l.length = len ∧ len ≤ maxLen ∧ BIn w a l := by
  rcases open_ints Tryd.underlying33 Tryd.underlying5 bytesOne h with ⟨hcs, _⟩ | ⟨A, l', c', zs, hcs, _, hl, hm, hz, _, hcell, hwz⟩
  · simp only [List.cons.injEq, Value.slice.injEq, and_true] at hcs
    obtain ⟨_, rfl, _⟩ := hcs
    exact ⟨[], rfl, by unfold maxLen; omega, .inl rfl⟩
  · simp only [List.cons.injEq, Value.slice.injEq, and_true] at hcs
    obtain ⟨rfl, rfl, rfl⟩ := hcs
    have hlz : len ≤ zs.length := by rw [hz]; split <;> omega
    refine ⟨(zs.take len).map fun z => UInt8.ofNat z.toNat, by simp; omega, by omega, ?_⟩
    by_cases h0 : len = 0
    · subst h0; exact .inl rfl
    · obtain ⟨b, off, spot⟩ := A
      have hc := hcell 0 (by omega)
      have hspot : spot = none := by simpa [Addr.add] using World.cell?_spot hc
      subst hspot
      have hadd : ∀ i, (⟨b, off, none⟩ : Addr).add i = ⟨b, off + i, none⟩ := fun i => by unfold Addr.add; split <;> simp_all
      refine .inr ⟨b, off, rfl, fun i c hr => ?_⟩
      rw [List.getElem?_map] at hr
      obtain ⟨z, hz1, rfl⟩ := Option.map_eq_some_iff.1 hr
      have hi : i < len := by have := (List.getElem?_eq_some_iff.1 hz1).1; simp at this; omega
      rw [List.getElem?_take_of_lt hi] at hz1
      have h1 := hcell i (by omega)
      rw [hadd, List.getD_eq_getElem?_getD, hz1] at h1
      rw [h1]
      have hw := hwz z (List.mem_of_getElem? hz1)
      simp only [Lit.wf, Bool.and_eq_true, decide_eq_true_eq] at hw
      have w1 : 0 ≤ z := hw.1
      have w2 : z ≤ 255 := hw.2
      have e : ((UInt8.ofNat z.toNat).toNat : Int) = z := by
        rw [UInt8.toNat_ofNat']
        omega
      rw [e]; rfl
theorem responseCells : Tryd.prog.cellsOf 35 = 3 := by kernel_rfl
theorem byteSOne : Tryd.prog.cellsOf 33 = 1 := by kernel_rfl
theorem intOne : Tryd.prog.cellsOf 2 = 1 := by kernel_rfl
set_option maxRecDepth 100000 in
theorem open_response {H : Type} {enc : TypeId × Value → H} {w : World} {r : Reach} {b0 base : Nat} {spare : Nat → Bool} {held : Bool} {v : Value} {d : DataW H} {p : List MemPlace}
    (hv : Value.okWide Tryd.prog w r b0 35 v) (h : DataW.Trod enc Tryd.prog w base spare held 35 v d p) :
    ∃ (z : Int) (a : Option Addr) (cap : Nat) (l : List Hdr) (b : Option Addr) (bc : Nat) (bl : List UInt8), v = .agg #[.int .i64 z, .slice a l.length cap, .slice b bl.length bc] ∧ l.length ≤ maxLen ∧ SmallHdrs l ∧ (l = [] ∨ ∃ b off, a = some ⟨b, off, none⟩ ∧ HeadsAt w b off l) ∧ bl.length ≤ maxLen ∧ BIn w b bl := by
  obtain ⟨cs, rfl, hsz⟩ := okWide_struct Tryd.underlying35 hv
  obtain ⟨fuel, hf0⟩ := h
  obtain ⟨xs, n, _, _, hl, hlen, hf⟩ := DataW.trod_struct Tryd.underlying35 hf0
  match xs, hlen with
  | [y0, y1, y2], _ =>
    have h0 : DataW.trod enc Tryd.prog w base spare held n 2 (((Value.agg cs).cells.toList.drop 0).take (Tryd.prog.cellsOf 2)) = some y0 := hf 0 _ rfl
    have h1 : DataW.trod enc Tryd.prog w base spare held n 22 (((Value.agg cs).cells.toList.drop 1).take (Tryd.prog.cellsOf 22)) = some y1 := hf 1 _ rfl
    have h2 : DataW.trod enc Tryd.prog w base spare held n 33 (((Value.agg cs).cells.toList.drop 2).take (Tryd.prog.cellsOf 33)) = some y2 := hf 2 _ rfl
    rw [intOne] at h0
    rw [headsOne] at h1
    rw [byteSOne] at h2
    obtain ⟨s0, e0, _⟩ := DataW.trod_int Tryd.underlying2 h0
    obtain ⟨a, len, cap, e1⟩ := slice_cs Tryd.underlying22 h1
    rw [e1] at h1
    obtain ⟨l, rfl, m3, s3, o3⟩ := open_headers h1
    obtain ⟨b, bn, bc, e2⟩ := slice_cs Tryd.underlying33 h2
    rw [e2] at h2
    obtain ⟨bl, rfl, m4, o4⟩ := open_bytes h2
    refine ⟨s0, a, cap, l, b, bc, bl, ?_, m3, s3, o3, m4, o4⟩
    have e : cs.toList = [.int .i64 s0, .slice a l.length cap, .slice b bl.length bc] := by
      simp only [Value.cells] at e0 e1 e2 hl
      rw [responseCells] at hl
      match hc : cs.toList, hl with
      | [c0, c1, c2], _ =>
        rw [hc] at e0 e1 e2
        simp only [List.drop_zero, List.take_succ_cons, List.take_zero, List.drop_succ_cons, List.cons.injEq, and_true] at e0 e1 e2
        rw [e0, e1, e2]
    congr 1
    exact Array.toList_inj.1 e
end Go.Proofs.YtojcjpdgjohldaaDoor
/-
  As many variables are read as are named.
-/
namespace Go.Proofs.YtojcjpdgjohldaaDoor
theorem trodVars_len {H : Type} {enc : TypeId × Value → H} {P : Program} {W : World} {sp : Nat → Bool} : ∀ {ns : List String} {gs : List (DataW H)} {ps : List MemPlace}, DataW.TrodVars enc P W sp ns gs ps → gs.length = ns.length
  | [], [], _, _ => rfl
  | [], _ :: _, _, h => h.elim
  | _ :: _, [], _, h => h.elim
  | n :: ns, d :: ds, ps, h => by
    obtain ⟨g, t, cs, fuel, p, q, h1, h2, h3, h4, hs, e⟩ := h
    simp [trodVars_len hs]
end Go.Proofs.YtojcjpdgjohldaaDoor
