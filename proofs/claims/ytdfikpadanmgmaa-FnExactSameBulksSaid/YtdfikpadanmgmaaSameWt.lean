/-
  What the model's slices.Equal over those who wait answers.
-/
import Derived.Test.YtdfikpadanmgmaaWtTo
import Derived.Laws.StructEq
import Derived.Shelf.SlicesE.Kit
namespace Go.Proofs.Ytdfikpadanmgmaa
open Go.ChangeShapes Go.WideShapes Go.ChangeAt Go.RowKit Go.Sort
def sameW (x y : Wt) : Bool := (x.wi == y.wi) && (x.du == y.du)
def sameWs : List Wt → List Wt → Bool
  | [], [] => true
  | x :: l, y :: m => sameW x y && sameWs l m
  | _, _ => false
theorem guardWait (op : BinOp) (a b : Operand) (x y : Array Value) (w : World) : (eqGuard op 64 a b (.agg x) (.agg y)).run Try.prog w = .ok () w := run_eqGuard_agg w op 64 a b x y (by kernel_rfl)
theorem neqWait (x y : Wt) (w : World) : (binOp .neq 64 (.agg #[.int .i64 x.wi, .int .i64 x.du]) (.agg #[.int .i64 y.wi, .int .i64 y.du])).run Try.prog w = .ok (.bool (!sameW x y)) w := by
  have u9 := Try.underlying2
  have a9 := Try.isAgg2
  have z9 := Try.sizeOf2
  have u8 := Try.underlying4
  have a8 := Try.isAgg4
  have z8 := Try.sizeOf4
  have hS : Try.prog.underlying 64 = some (.struct (Try.prog.fieldsOf 64)) := by kernel_rfl
  have hp : Try.prog.stoodInHeld 64 = false := by kernel_rfl
  obtain ⟨n1, v1⟩ := x
  obtain ⟨n2, v2⟩ := y
  simp only [sameW]
  rw [run_neq_struct, show (10000 : Nat) = 9999 + 1 from rfl, run_equalIn_agg w 9999 64 _ _ hS hp]
  simp only [Program.fieldsOf, Try.underlying64]
  go_simp
  by_cases e1 : n1 = n2 <;> by_cases e3 : v1 = v2 <;> simp [e1, e3]
theorem sameWs_lens : ∀ (l m : List Wt), l.length ≠ m.length → sameWs l m = false
  | [], [], h => absurd rfl h
  | [], _ :: _, _ => rfl
  | _ :: _, [], _ => rfl
  | x :: l, y :: m, h => by
    rw [sameWs, sameWs_lens l m (by simpa using h), Bool.and_false]
theorem sameWs_drop {l m : List Wt} {k : Nat} {x y : Wt} (hx : l[k]? = some x) (hy : m[k]? = some y) : sameWs (l.drop k) (m.drop k) = (sameW x y && sameWs (l.drop (k + 1)) (m.drop (k + 1))) := by
  rw [dropWt l k x hx, dropWt m k y hy, sameWs]
set_option maxRecDepth 100000 in
set_option maxHeartbeats 4000000 in
theorem equalWaits_any (w : World) (a b : Option Addr) (ca cb : Nat) (l m : List Wt) (hl : l.length ≤ 1048576) (h1 : WtIn w a l) (h2 : WtIn w b m) :
    Calls Try.prog 72 #[.slice a l.length ca, .slice b m.length cb] w fun e w' => e = .returned (.bool (sameWs l m)) ∧ Below w.heap.size w w' := by
  have H1 : Hid (WtIn w a l) := h1
  have H2 : Hid (WtIn w b m) := h2
  clear h1 h2
  by_cases hlen : l.length = m.length
  · have HM : Hid (m.length = l.length) := hlen.symm
    rw [← hlen]
    clear hlen
    generalize hn : l.length = n at *
    have HN : Hid (l.length = n) := hn
    clear hn
    go_enter Try.func72, Try.ntmps72
    go_wp2_with fail
    go_loopw [13] (fun i wr => ∃ k : Nat, k ≤ n ∧ i = .int .i64 k ∧ sameWs l m = sameWs (l.drop k) (m.drop k) ∧ Below w.heap.size w wr) (fun i _ => n - (intOf i).toNat)
    case atStart => exact ⟨0, Nat.zero_le _, rfl, rfl, Below.refl _ _⟩
    case round =>
      obtain ⟨k, hk, rfl, hs, hb⟩ := hrel
      have HS : Hid (sameWs l m = sameWs (l.drop k) (m.drop k)) := hs
      clear hs
      by_cases hlt : k < n
      · obtain ⟨x, hx⟩ : ∃ r, l[k]? = some r := ⟨l[k]'(by have := HN.out; omega), List.getElem?_eq_getElem _⟩
        obtain ⟨y, hy⟩ : ∃ r, m[k]? = some r := ⟨m[k]'(by have := HM.out; have := HN.out; omega), List.getElem?_eq_getElem _⟩
        rcases H1.out with h | ⟨b1, o1, rfl, at1⟩
        · subst h; simp at hx
        rcases H2.out with h | ⟨b2, o2, rfl, at2⟩
        · subst h; simp at hy
        obtain ⟨p1, p3⟩ := (at1.keep hb) k x hx
        obtain ⟨q1, q3⟩ := (at2.keep hb) k y hy
        have x1 := cell_regrown p1
        have x3 := cell_regrown p3
        have y1 := cell_regrown q1
        have y3 := cell_regrown q3
        have hne := neqWait x y
        have hgd := guardWait
        have HD : Hid (sameWs l m = (sameW x y && sameWs (l.drop (k + 1)) (m.drop (k + 1)))) := by show _ = _; rw [HS.out, sameWs_drop hx hy]
        have g0 : (0 : Int) ≤ k := by omega
        have g : (k : Int) < n := by omega
        clear hx hy p1 p3 q1 q3 at1 at2 HS
        generalize x.wi = xn at *
        generalize x.du = xv at *
        generalize y.wi = yn at *
        generalize y.du = yv at *
        cases hsame : sameW x y
        · rw [hsame] at hne
          have HE : Hid (sameWs l m = false) := by show _ = _; rw [HD.out, hsame, Bool.false_and]
          clear HD hsame
          simp only [Bool.not_false] at hne
          go_wp2_with fail
          refine wp_region_quiet_below (by kernel_rfl) (by kernel_rfl) ?_
          repeat (go_big_quiet_step (fail))
          refine wpQuiet_nil ?_
          intro w2 hw2
          have hbb : Below w.heap.size w w2 := by
            obtain ⟨⟨d, os⟩, rfl⟩ := hw2
            exact hb.trans ((below_regrown wr d os).mono hb.size)
          clear x1 x3 y1 y3 hne hgd hw2 hb
          go_wp2_with fail
          go_ret
          exact ⟨ret_bool HE.out.symm, hbb⟩
        · rw [hsame] at hne
          have HE : Hid (sameWs l m = sameWs (l.drop (k + 1)) (m.drop (k + 1))) := by show _ = _; rw [HD.out, hsame, Bool.true_and]
          clear HD hsame
          simp only [Bool.not_true] at hne
          go_wp2_with fail
          refine wp_region_quiet_below (by kernel_rfl) (by kernel_rfl) ?_
          repeat (go_big_quiet_step (fail))
          refine wpQuiet_nil ?_
          intro w2 hw2
          have hbb : Below w.heap.size w w2 := by
            obtain ⟨⟨d, os⟩, rfl⟩ := hw2
            exact hb.trans ((below_regrown wr d os).mono hb.size)
          clear x1 x3 y1 y3 hne hgd hw2 hb
          go_wp2_with fail
          go_roundw
          case rel => exact ⟨k + 1, by omega, by go_num, HE.out, hbb⟩
          case measure => simp [intOf]; omega
      · have HE : Hid (sameWs l m = true) := by
          show _ = _
          rw [HS.out, List.drop_of_length_le (by have := HN.out; omega), List.drop_of_length_le (by have := HM.out; have := HN.out; omega)]
          rfl
        clear HS
        go_wp2_with fail
        go_ret
        exact ⟨ret_bool HE.out.symm, hb⟩
  · have HE : Hid (sameWs l m = false) := sameWs_lens l m hlen
    have g : ¬ (l.length : Int) = (m.length : Int) := by omega
    have g2 : ((l.length : Int) != (m.length : Int)) = true := by simpa using g
    clear H1 H2
    generalize l.length = n at *
    generalize m.length = n2 at *
    go_enter Try.func72, Try.ntmps72
    go_wp2_with fail
    go_ret
    exact ⟨ret_bool HE.out.symm, Below.refl _ _⟩
end Go.Proofs.Ytdfikpadanmgmaa
