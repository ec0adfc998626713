/-
  What the model's slices.Equal over those who wait answers.
-/
import Derived.Test.YtgejegmilkmiiaaWrTo
import Derived.Laws.StructEq
import Derived.Shelf.SlicesE.Kit
namespace Go.Proofs.Ytgejegmilkmiiaa
open Go.ChangeShapes Go.WideShapes Go.ChangeAt Go.RowKit Go.Sort
def sameR (x y : Wr) : Bool := (x.rq == y.rq) && (x.hd == y.hd) && (x.du == y.du) && (x.lt == y.lt)
def sameRs : List Wr → List Wr → Bool
  | [], [] => true
  | x :: l, y :: m => sameR x y && sameRs l m
  | _, _ => false
theorem guardWaiter (op : BinOp) (a b : Operand) (x y : Array Value) (w : World) : (eqGuard op 50 a b (.agg x) (.agg y)).run Try.prog w = .ok () w := run_eqGuard_agg w op 50 a b x y (by kernel_rfl)
theorem neqWaiter (x y : Wr) (w : World) : (binOp .neq 50 (.agg #[.int .i64 x.rq, .bool x.hd, .int .i64 x.du, .bool x.lt]) (.agg #[.int .i64 y.rq, .bool y.hd, .int .i64 y.du, .bool y.lt])).run Try.prog w = .ok (.bool (!sameR x y)) w := by
  have u9 := Try.underlying2
  have a9 := Try.isAgg2
  have z9 := Try.sizeOf2
  have u8 := Try.underlying4
  have a8 := Try.isAgg4
  have z8 := Try.sizeOf4
  have hS : Try.prog.underlying 50 = some (.struct (Try.prog.fieldsOf 50)) := by kernel_rfl
  have hp : Try.prog.stoodInHeld 50 = false := by kernel_rfl
  obtain ⟨n1, v1, m1, l1⟩ := x
  obtain ⟨n2, v2, m2, l2⟩ := y
  simp only [sameR]
  rw [run_neq_struct, show (10000 : Nat) = 9999 + 1 from rfl, run_equalIn_agg w 9999 50 _ _ hS hp]
  simp only [Program.fieldsOf, Try.underlying50]
  go_simp
  by_cases e1 : n1 = n2 <;> by_cases e3 : m1 = m2 <;> cases v1 <;> cases v2 <;> cases l1 <;> cases l2 <;> simp [e1, e3]
theorem sameRs_lens : ∀ (l m : List Wr), l.length ≠ m.length → sameRs l m = false
  | [], [], h => absurd rfl h
  | [], _ :: _, _ => rfl
  | _ :: _, [], _ => rfl
  | x :: l, y :: m, h => by
    rw [sameRs, sameRs_lens l m (by simpa using h), Bool.and_false]
theorem sameRs_drop {l m : List Wr} {k : Nat} {x y : Wr} (hx : l[k]? = some x) (hy : m[k]? = some y) : sameRs (l.drop k) (m.drop k) = (sameR x y && sameRs (l.drop (k + 1)) (m.drop (k + 1))) := by
  rw [dropWr l k x hx, dropWr m k y hy, sameRs]
set_option maxRecDepth 100000 in
set_option maxHeartbeats 4000000 in
theorem equalWaiters_any (w : World) (a b : Option Addr) (ca cb : Nat) (l m : List Wr) (hl : l.length ≤ 1048576) (h1 : WrIn w a l) (h2 : WrIn w b m) :
    Calls Try.prog 23 #[.slice a l.length ca, .slice b m.length cb] w fun e w' => e = .returned (.bool (sameRs l m)) ∧ Below w.heap.size w w' := by
  have H1 : Hid (WrIn w a l) := h1
  have H2 : Hid (WrIn w b m) := h2
  clear h1 h2
  by_cases hlen : l.length = m.length
  · have HM : Hid (m.length = l.length) := hlen.symm
    rw [← hlen]
    clear hlen
    generalize hn : l.length = n at *
    have HN : Hid (l.length = n) := hn
    clear hn
    go_enter Try.func23, Try.ntmps23
    go_wp2_with fail
    go_loopw [13] (fun i wr => ∃ k : Nat, k ≤ n ∧ i = .int .i64 k ∧ sameRs l m = sameRs (l.drop k) (m.drop k) ∧ Below w.heap.size w wr) (fun i _ => n - (intOf i).toNat)
    case atStart => exact ⟨0, Nat.zero_le _, rfl, rfl, Below.refl _ _⟩
    case round =>
      obtain ⟨k, hk, rfl, hs, hb⟩ := hrel
      have HS : Hid (sameRs l m = sameRs (l.drop k) (m.drop k)) := hs
      clear hs
      by_cases hlt : k < n
      · obtain ⟨x, hx⟩ : ∃ r, l[k]? = some r := ⟨l[k]'(by have := HN.out; omega), List.getElem?_eq_getElem _⟩
        obtain ⟨y, hy⟩ : ∃ r, m[k]? = some r := ⟨m[k]'(by have := HM.out; have := HN.out; omega), List.getElem?_eq_getElem _⟩
        rcases H1.out with h | ⟨b1, o1, rfl, at1⟩
        · subst h; simp at hx
        rcases H2.out with h | ⟨b2, o2, rfl, at2⟩
        · subst h; simp at hy
        obtain ⟨p0, p1, p2, p3⟩ := (at1.keep hb) k x hx
        obtain ⟨q0, q1, q2, q3⟩ := (at2.keep hb) k y hy
        have x0 := cell_regrown p0
        have x1 := cell_regrown p1
        have x2 := cell_regrown p2
        have x3 := cell_regrown p3
        have y0 := cell_regrown q0
        have y1 := cell_regrown q1
        have y2 := cell_regrown q2
        have y3 := cell_regrown q3
        have hne := neqWaiter x y
        have hgd := guardWaiter
        have HD : Hid (sameRs l m = (sameR x y && sameRs (l.drop (k + 1)) (m.drop (k + 1)))) := by show _ = _; rw [HS.out, sameRs_drop hx hy]
        have g0 : (0 : Int) ≤ k := by omega
        have g : (k : Int) < n := by omega
        clear hx hy p0 p1 p2 p3 q0 q1 q2 q3 at1 at2 HS
        generalize x.rq = xrq at *
        generalize x.hd = xhd at *
        generalize x.du = xdu at *
        generalize x.lt = xlt at *
        generalize y.rq = yrq at *
        generalize y.hd = yhd at *
        generalize y.du = ydu at *
        generalize y.lt = ylt at *
        cases hsame : sameR x y
        · rw [hsame] at hne
          have HE : Hid (sameRs l m = false) := by show _ = _; rw [HD.out, hsame, Bool.false_and]
          clear HD hsame
          simp only [Bool.not_false] at hne
          go_wp2_with fail
          refine wp_region_quiet_below (by kernel_rfl) (by kernel_rfl) ?_
          repeat (go_big_quiet_step (fail))
          refine wpQuiet_nil ?_
          intro w2 hw2
          have hbb : Below w.heap.size w w2 := by
            obtain ⟨⟨d, os⟩, rfl⟩ := hw2
            exact hb.trans ((below_regrown wr d os).mono hb.size)
          clear x0 x1 x2 x3 y0 y1 y2 y3 hne hgd hw2 hb
          go_wp2_with fail
          go_ret
          exact ⟨ret_bool HE.out.symm, hbb⟩
        · rw [hsame] at hne
          have HE : Hid (sameRs l m = sameRs (l.drop (k + 1)) (m.drop (k + 1))) := by show _ = _; rw [HD.out, hsame, Bool.true_and]
          clear HD hsame
          simp only [Bool.not_true] at hne
          go_wp2_with fail
          refine wp_region_quiet_below (by kernel_rfl) (by kernel_rfl) ?_
          repeat (go_big_quiet_step (fail))
          refine wpQuiet_nil ?_
          intro w2 hw2
          have hbb : Below w.heap.size w w2 := by
            obtain ⟨⟨d, os⟩, rfl⟩ := hw2
            exact hb.trans ((below_regrown wr d os).mono hb.size)
          clear x0 x1 x2 x3 y0 y1 y2 y3 hne hgd hw2 hb
          go_wp2_with fail
          go_roundw
          case rel => exact ⟨k + 1, by omega, by go_num, HE.out, hbb⟩
          case measure => simp [intOf]; omega
      · have HE : Hid (sameRs l m = true) := by
          show _ = _
          rw [HS.out, List.drop_of_length_le (by have := HN.out; omega), List.drop_of_length_le (by have := HM.out; have := HN.out; omega)]
          rfl
        clear HS
        go_wp2_with fail
        go_ret
        exact ⟨ret_bool HE.out.symm, hb⟩
  · have HE : Hid (sameRs l m = false) := sameRs_lens l m hlen
    have g : ¬ (l.length : Int) = (m.length : Int) := by omega
    have g2 : ((l.length : Int) != (m.length : Int)) = true := by simpa using g
    clear H1 H2
    generalize l.length = n at *
    generalize m.length = n2 at *
    go_enter Try.func23, Try.ntmps23
    go_wp2_with fail
    go_ret
    exact ⟨ret_bool HE.out.symm, Below.refl _ _⟩
set_option maxRecDepth 100000 in
set_option maxHeartbeats 4000000 in
theorem specWaiters_any (w : World) (a b : Option Addr) (ca cb : Nat) (l m : List Wr) (hl : l.length ≤ 1048576) (h1 : WrIn w a l) (h2 : WrIn w b m) :
    Calls Try.prog 11 #[.slice a l.length ca, .slice b m.length cb] w fun e w' => e = .returned (.bool (sameRs l m)) ∧ Below w.heap.size w w' := by
  have H1 : Hid (WrIn w a l) := h1
  have H2 : Hid (WrIn w b m) := h2
  clear h1 h2
  by_cases hlen : l.length = m.length
  · have HM : Hid (m.length = l.length) := hlen.symm
    rw [← hlen]
    clear hlen
    generalize hn : l.length = n at *
    have HN : Hid (l.length = n) := hn
    clear hn
    go_enter Try.func11, Try.ntmps11
    go_wp2_with fail
    go_loopw [5] (fun i wr => ∃ k : Nat, k ≤ n ∧ i = .int .i64 k ∧ sameRs l m = sameRs (l.drop k) (m.drop k) ∧ Below w.heap.size w wr) (fun i _ => n - (intOf i).toNat)
    case atStart => exact ⟨0, Nat.zero_le _, rfl, rfl, Below.refl _ _⟩
    case round =>
      obtain ⟨k, hk, rfl, hs, hb⟩ := hrel
      have HS : Hid (sameRs l m = sameRs (l.drop k) (m.drop k)) := hs
      clear hs
      by_cases hlt : k < n
      · obtain ⟨x, hx⟩ : ∃ r, l[k]? = some r := ⟨l[k]'(by have := HN.out; omega), List.getElem?_eq_getElem _⟩
        obtain ⟨y, hy⟩ : ∃ r, m[k]? = some r := ⟨m[k]'(by have := HM.out; have := HN.out; omega), List.getElem?_eq_getElem _⟩
        rcases H1.out with h | ⟨b1, o1, rfl, at1⟩
        · subst h; simp at hx
        rcases H2.out with h | ⟨b2, o2, rfl, at2⟩
        · subst h; simp at hy
        obtain ⟨p0, p1, p2, p3⟩ := (at1.keep hb) k x hx
        obtain ⟨q0, q1, q2, q3⟩ := (at2.keep hb) k y hy
        have x0 := cell_regrown p0
        have x1 := cell_regrown p1
        have x2 := cell_regrown p2
        have x3 := cell_regrown p3
        have y0 := cell_regrown q0
        have y1 := cell_regrown q1
        have y2 := cell_regrown q2
        have y3 := cell_regrown q3
        have hne := neqWaiter x y
        have hgd := guardWaiter
        have HD : Hid (sameRs l m = (sameR x y && sameRs (l.drop (k + 1)) (m.drop (k + 1)))) := by show _ = _; rw [HS.out, sameRs_drop hx hy]
        have g0 : (0 : Int) ≤ k := by omega
        have g : (k : Int) < n := by omega
        clear hx hy p0 p1 p2 p3 q0 q1 q2 q3 at1 at2 HS
        generalize x.rq = xrq at *
        generalize x.hd = xhd at *
        generalize x.du = xdu at *
        generalize x.lt = xlt at *
        generalize y.rq = yrq at *
        generalize y.hd = yhd at *
        generalize y.du = ydu at *
        generalize y.lt = ylt at *
        cases hsame : sameR x y
        · rw [hsame] at hne
          have HE : Hid (sameRs l m = false) := by show _ = _; rw [HD.out, hsame, Bool.false_and]
          clear HD hsame
          simp only [Bool.not_false] at hne
          go_wp2_with fail
          refine wp_region_quiet_below (by kernel_rfl) (by kernel_rfl) ?_
          repeat (go_big_quiet_step (fail))
          refine wpQuiet_nil ?_
          intro w2 hw2
          have hbb : Below w.heap.size w w2 := by
            obtain ⟨⟨d, os⟩, rfl⟩ := hw2
            exact hb.trans ((below_regrown wr d os).mono hb.size)
          clear x0 x1 x2 x3 y0 y1 y2 y3 hne hgd hw2 hb
          go_wp2_with fail
          go_ret
          exact ⟨ret_bool HE.out.symm, hbb⟩
        · rw [hsame] at hne
          have HE : Hid (sameRs l m = sameRs (l.drop (k + 1)) (m.drop (k + 1))) := by show _ = _; rw [HD.out, hsame, Bool.true_and]
          clear HD hsame
          simp only [Bool.not_true] at hne
          go_wp2_with fail
          refine wp_region_quiet_below (by kernel_rfl) (by kernel_rfl) ?_
          repeat (go_big_quiet_step (fail))
          refine wpQuiet_nil ?_
          intro w2 hw2
          have hbb : Below w.heap.size w w2 := by
            obtain ⟨⟨d, os⟩, rfl⟩ := hw2
            exact hb.trans ((below_regrown wr d os).mono hb.size)
          clear x0 x1 x2 x3 y0 y1 y2 y3 hne hgd hw2 hb
          go_wp2_with fail
          go_roundw
          case rel => exact ⟨k + 1, by omega, by go_num, HE.out, hbb⟩
          case measure => simp [intOf]; omega
      · have HE : Hid (sameRs l m = true) := by
          show _ = _
          rw [HS.out, List.drop_of_length_le (by have := HN.out; omega), List.drop_of_length_le (by have := HM.out; have := HN.out; omega)]
          rfl
        clear HS
        go_wp2_with fail
        go_ret
        exact ⟨ret_bool HE.out.symm, hb⟩
  · have HE : Hid (sameRs l m = false) := sameRs_lens l m hlen
    have g : ¬ (l.length : Int) = (m.length : Int) := by omega
    have g2 : ((l.length : Int) != (m.length : Int)) = true := by simpa using g
    clear H1 H2
    generalize l.length = n at *
    generalize m.length = n2 at *
    go_enter Try.func11, Try.ntmps11
    go_wp2_with fail
    go_ret
    exact ⟨ret_bool HE.out.symm, Below.refl _ _⟩
end Go.Proofs.Ytgejegmilkmiiaa
