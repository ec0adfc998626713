/-
  The four errors of chapter 5 in memory: what the row's list gives of them; codeOf.
-/
import Derived.Test.YtojcjpdgjohldaaDoorErrIs
import Derived.Stop.LaidErr
import Derived.MakeChecks
namespace Go.Proofs.YtojcjpdgjohldaaDoor
open Go.ChangeShapes Go.WideShapes Go.ChangeAt Go.RowKit
theorem laid_sentinels4 {P : Program} {n0 n1 n2 n3 nm : String} {x0 x1 x2 x3 : List UInt8} {r : List (String × DataW Unit)} {W : World} {g0 g1 g2 g3 : Nat} {ti tp te ts : TypeId} {ms : Array (String × TypeId)} {f : Field}
    (h : laidMet P ((n0, .iface nm (.ptr (.agg [.lit (.string x0)]))) :: (n1, .iface nm (.ptr (.agg [.lit (.string x1)]))) :: (n2, .iface nm (.ptr (.agg [.lit (.string x2)]))) :: (n3, .iface nm (.ptr (.agg [.lit (.string x3)]))) :: r) W)
    (hg0 : P.globalNamed n0 = some g0) (ht0 : (P.globals[g0]?).map (·.type) = some ti) (hg1 : P.globalNamed n1 = some g1) (ht1 : (P.globals[g1]?).map (·.type) = some ti) (hg2 : P.globalNamed n2 = some g2) (ht2 : (P.globals[g2]?).map (·.type) = some ti) (hg3 : P.globalNamed n3 = some g3) (ht3 : (P.globals[g3]?).map (·.type) = some ti)
    (hi : P.underlying ti = some (.interface ms)) (hrow : ∀ u, P.typeName? 3 u = some nm → u = tp) (hp : P.underlying tp = some (.pointer te)) (he : P.underlying te = some (.struct #[f])) (hft : f.type = ts) (hfo : f.offset = 0) (hs : P.underlying ts = some .string) (hc : P.cellsOf te = 1) (hcs : P.cellsOf ts = 1) :
    ∃ a0 a1 a2 a3 : Addr, (W.var? P n0 = some #[.iface tp (.pointer (some a0))] ∧ W.var? P n1 = some #[.iface tp (.pointer (some a1))] ∧ W.var? P n2 = some #[.iface tp (.pointer (some a2))] ∧ W.var? P n3 = some #[.iface tp (.pointer (some a3))]) ∧
      (a0 ≠ a1 ∧ a0 ≠ a2 ∧ a0 ≠ a3 ∧ a1 ≠ a2 ∧ a1 ≠ a3 ∧ a2 ≠ a3) ∧
      (∃ c t, W.heap[a0.block]? = some (.cells c t (0, 0))) ∧ (∃ c t, W.heap[a1.block]? = some (.cells c t (0, 0))) ∧ (∃ c t, W.heap[a2.block]? = some (.cells c t (0, 0))) ∧ (∃ c t, W.heap[a3.block]? = some (.cells c t (0, 0))) := by
  obtain ⟨ps, ⟨g0', t0', cs0, f0, p0, q0, hg0', ht0', hv0, hd0, ⟨g1', t1', cs1, f1, p1, q1, hg1', ht1', hv1, hd1, ⟨g2', t2', cs2, f2, p2, q2, hg2', ht2', hv2, hd2, ⟨g3', t3', cs3, f3, p3, q3, hg3', ht3', hv3, hd3, _, e3⟩, e2⟩, e1⟩, e0⟩, hnd, hrows⟩ := h
  obtain rfl := Option.some.inj (hg0.symm.trans hg0')
  obtain rfl := Option.some.inj (hg1.symm.trans hg1')
  obtain rfl := Option.some.inj (hg2.symm.trans hg2')
  obtain rfl := Option.some.inj (hg3.symm.trans hg3')
  obtain rfl := Option.some.inj (ht0.symm.trans ht0')
  obtain rfl := Option.some.inj (ht1.symm.trans ht1')
  obtain rfl := Option.some.inj (ht2.symm.trans ht2')
  obtain rfl := Option.some.inj (ht3.symm.trans ht3')
  subst e3
  subst e2
  subst e1
  subst e0
  obtain ⟨l0⟩ := cs0
  obtain ⟨l1⟩ := cs1
  obtain ⟨l2⟩ := cs2
  obtain ⟨l3⟩ := cs3
  have ok0 : ∀ u v, l0 = [.iface u v] → Value.okWide P W .any 0 u v := fun u v e => by
    subst e
    exact (hrows g0 0 (by simp [MemPlace.row])).2 u v (by simpa using World.var?_cell hg0' hv0 0)
  have ok1 : ∀ u v, l1 = [.iface u v] → Value.okWide P W .any 0 u v := fun u v e => by
    subst e
    exact (hrows g1 0 (by simp [MemPlace.row])).2 u v (by simpa using World.var?_cell hg1' hv1 0)
  have ok2 : ∀ u v, l2 = [.iface u v] → Value.okWide P W .any 0 u v := fun u v e => by
    subst e
    exact (hrows g2 0 (by simp [MemPlace.row])).2 u v (by simpa using World.var?_cell hg2' hv2 0)
  have ok3 : ∀ u v, l3 = [.iface u v] → Value.okWide P W .any 0 u v := fun u v e => by
    subst e
    exact (hrows g3 0 (by simp [MemPlace.row])).2 u v (by simpa using World.var?_cell hg3' hv3 0)
  obtain ⟨a0, s0, rfl, hc0, hs0, hz0, rfl⟩ := errorString_of_trod hi hrow hp he hft hfo hs hc hcs hd0 ok0
  obtain ⟨a1, s1, rfl, hc1, hs1, hz1, rfl⟩ := errorString_of_trod hi hrow hp he hft hfo hs hc hcs hd1 ok1
  obtain ⟨a2, s2, rfl, hc2, hs2, hz2, rfl⟩ := errorString_of_trod hi hrow hp he hft hfo hs hc hcs hd2 ok2
  obtain ⟨a3, s3, rfl, hc3, hs3, hz3, rfl⟩ := errorString_of_trod hi hrow hp he hft hfo hs hc hcs hd3 ok3
  have b0 := (hrows a0.block a0.off (by simp [MemPlace.row])).1
  have b1 := (hrows a1.block a1.off (by simp [MemPlace.row])).1
  have b2 := (hrows a2.block a2.off (by simp [MemPlace.row])).1
  have b3 := (hrows a3.block a3.off (by simp [MemPlace.row])).1
  refine ⟨a0, a1, a2, a3, ⟨hv0, hv1, hv2, hv3⟩, ⟨?_, ?_, ?_, ?_, ?_, ?_⟩, b0, b1, b2, b3⟩
  all_goals (rintro rfl; simp [MemPlace.row] at hnd)
structure Errs where
  u : Addr
  m : Addr
  b : Addr
  d : Addr
/-- The four variables hold pointers to four errors of errors.New's make. -/
structure ErrsIs (w : World) (E : Errs) : Prop where
  gU : w.cell? ⟨3, 0, none⟩ = some (.iface 133 (.pointer (some E.u)))
  gM : w.cell? ⟨0, 0, none⟩ = some (.iface 133 (.pointer (some E.m)))
  gB : w.cell? ⟨1, 0, none⟩ = some (.iface 133 (.pointer (some E.b)))
  gD : w.cell? ⟨2, 0, none⟩ = some (.iface 133 (.pointer (some E.d)))
  ne : E.u ≠ E.m ∧ E.u ≠ E.b ∧ E.u ≠ E.d ∧ E.m ≠ E.b ∧ E.m ≠ E.d ∧ E.b ≠ E.d
  hU : ∃ c t, w.heap[E.u.block]? = some (.cells c t (0, 0))
  hM : ∃ c t, w.heap[E.m.block]? = some (.cells c t (0, 0))
  hB : ∃ c t, w.heap[E.b.block]? = some (.cells c t (0, 0))
  hD : ∃ c t, w.heap[E.d.block]? = some (.cells c t (0, 0))
theorem ErrsIs.below {w w' : World} {E : Errs} (h : ErrsIs w E) (hb : Below w.heap.size w w') : ErrsIs w' E := by
  have hc : ∀ {g : Nat} {v : Value}, w.cell? ⟨g, 0, none⟩ = some v → w'.cell? ⟨g, 0, none⟩ = some v := fun {g v} e => by rw [hb.cell (block_lt_of_cell e)]; exact e
  have hh : ∀ {a : Addr}, (∃ c t, w.heap[a.block]? = some (.cells c t (0, 0))) → ∃ c t, w'.heap[a.block]? = some (.cells c t (0, 0)) := fun {a} ⟨c, t, e⟩ => ⟨c, t, by rw [hb.block a.block (Array.getElem?_eq_some_iff.1 e).1]; exact e⟩
  exact ⟨hc h.gU, hc h.gM, hc h.gB, hc h.gD, h.ne, hh h.hU, hh h.hM, hh h.hB, hh h.hD⟩
theorem erRow (u : TypeId) (h : Tryd.prog.typeName? 3 u = some "*errors.errorString") : u = 133 :=
  typeName_ptr_named (nm := "errors.errorString") (by rw [show "*" ++ "errors.errorString" = "*errors.errorString" from by decide]; kernel_rfl) (by kernel_rfl) (by decide) u (by rw [show "*" ++ "errors.errorString" = "*errors.errorString" from by decide]; exact h)
theorem erNamedU : Tryd.prog.globalNamed "loop.example/g00665/impl.errUnread" = some 3 := by kernel_rfl
theorem erTypeU : (Tryd.prog.globals[3]?).map (·.type) = some 51 := by kernel_rfl
theorem erNamedM : Tryd.prog.globalNamed "loop.example/g00665/impl.errTooMany" = some 0 := by kernel_rfl
theorem erTypeM : (Tryd.prog.globals[0]?).map (·.type) = some 51 := by kernel_rfl
theorem erNamedB : Tryd.prog.globalNamed "loop.example/g00665/impl.errBeyond" = some 1 := by kernel_rfl
theorem erTypeB : (Tryd.prog.globals[1]?).map (·.type) = some 51 := by kernel_rfl
theorem erNamedD : Tryd.prog.globalNamed "loop.example/g00665/impl.errDouble" = some 2 := by kernel_rfl
theorem erTypeD : (Tryd.prog.globals[2]?).map (·.type) = some 51 := by kernel_rfl
theorem errsIs_of {w : World} {rest : List (String × DataW Unit)} (h : laidMet Tryd.prog (("loop.example/g00665/impl.errUnread", Rows.laid_loop_example_g00665_impl_errUnread) :: ("loop.example/g00665/impl.errTooMany", Rows.laid_loop_example_g00665_impl_errTooMany) :: ("loop.example/g00665/impl.errBeyond", Rows.laid_loop_example_g00665_impl_errBeyond) :: ("loop.example/g00665/impl.errDouble", Rows.laid_loop_example_g00665_impl_errDouble) :: rest) w) : ∃ E, ErrsIs w E := by
  obtain ⟨a0, a1, a2, a3, ⟨v0, v1, v2, v3⟩, hne, h0, h1, h2, h3⟩ := laid_sentinels4 h erNamedU erTypeU erNamedM erTypeM erNamedB erTypeB erNamedD erTypeD Tryd.underlying51 erRow Tryd.underlying133 Tryd.underlying157 rfl rfl Tryd.underlying9 (by kernel_rfl) (by kernel_rfl)
  exact ⟨⟨a0, a1, a2, a3⟩, by simpa using World.var?_cell erNamedU v0 0, by simpa using World.var?_cell erNamedM v1 0, by simpa using World.var?_cell erNamedB v2 0, by simpa using World.var?_cell erNamedD v3 0, hne, h0, h1, h2, h3⟩
/-- The error of a code. -/
def errV (E : Errs) (c : Int) : Value := if c = 0 then .nilIface else if c = 2 then .iface 133 (.pointer (some E.m)) else if c = 3 then .iface 133 (.pointer (some E.b)) else if c = 6 then .iface 133 (.pointer (some E.d)) else .iface 133 (.pointer (some E.u))
theorem errV0 (E : Errs) : errV E 0 = .nilIface := rfl
theorem errV2 (E : Errs) : errV E 2 = .iface 133 (.pointer (some E.m)) := rfl
theorem errV3 (E : Errs) : errV E 3 = .iface 133 (.pointer (some E.b)) := rfl
theorem errV5 (E : Errs) : errV E 5 = .iface 133 (.pointer (some E.u)) := rfl
theorem errV6 (E : Errs) : errV E 6 = .iface 133 (.pointer (some E.d)) := rfl
end Go.Proofs.YtojcjpdgjohldaaDoor
