/-
  What the model's SameItems and slices.Equal over items answer, and SameItems.
-/
import Derived.Test.YtibomkcbopkpkaaDoorSameItems
namespace Go.Proofs.YtibomkcbopkpkaaDoor
open Go.ChangeShapes Go.WideShapes Go.ChangeAt Go.RowKit Go.Sort
theorem sameRs_lens : ∀ (l m : List Rec), l.length ≠ m.length → sameRs l m = false
  | [], [], h => absurd rfl h
  | [], _ :: _, _ => rfl
  | _ :: _, [], _ => rfl
  | x :: l, y :: m, h => by
    rw [sameRs, sameRs_lens l m (by simpa using h), Bool.and_false]
theorem sameRs_drop {l m : List Rec} {k : Nat} {x y : Rec} (hx : l[k]? = some x) (hy : m[k]? = some y) : sameRs (l.drop k) (m.drop k) = (sameR x y && sameRs (l.drop (k + 1)) (m.drop (k + 1))) := by
  rw [drop_rec l k x hx, drop_rec m k y hy, sameRs]
set_option maxRecDepth 100000 in
set_option maxHeartbeats 4000000 in
theorem specSame_any (w : World) (a b : Option Addr) (ca cb : Nat) (l m : List Rec) (hl : l.length ≤ 1048576) (h1 : ItsIn w a l) (h2 : ItsIn w b m) :
    Calls Tryd.prog 37 #[.slice a l.length ca, .slice b m.length cb] w fun e w' => e = .returned (.bool (sameRs l m)) ∧ Below w.heap.size w w' := by
  have H1 : Hid (ItsIn w a l) := h1
  have H2 : Hid (ItsIn w b m) := h2
  clear h1 h2
  by_cases hlen : l.length = m.length
  · have HM : Hid (m.length = l.length) := hlen.symm
    rw [← hlen]
    clear hlen
    generalize hn : l.length = n at *
    have HN : Hid (l.length = n) := hn
    clear hn
    go_enter Tryd.func37, Tryd.ntmps37
    go_wp2_with fail
    go_loopw [5] (fun i wr => ∃ k : Nat, k ≤ n ∧ i = .int .i64 k ∧ sameRs l m = sameRs (l.drop k) (m.drop k) ∧ Below w.heap.size w wr) (fun i _ => n - (intOf i).toNat)
    case atStart => exact ⟨0, Nat.zero_le _, rfl, rfl, Below.refl _ _⟩
    case round =>
      obtain ⟨k, hk, rfl, hs, hb⟩ := hrel
      have HS : Hid (sameRs l m = sameRs (l.drop k) (m.drop k)) := hs
      clear hs
      by_cases hlt : k < n
      · obtain ⟨x, hx⟩ : ∃ r, l[k]? = some r := ⟨l[k]'(by have := HN.out; omega), List.getElem?_eq_getElem _⟩
        obtain ⟨y, hy⟩ : ∃ r, m[k]? = some r := ⟨m[k]'(by have := HM.out; have := HN.out; omega), List.getElem?_eq_getElem _⟩
        rcases H1.out with h | ⟨b1, o1, rfl, at1⟩
        · subst h; simp at hx
        rcases H2.out with h | ⟨b2, o2, rfl, at2⟩
        · subst h; simp at hy
        obtain ⟨p1, p2, p3⟩ := (at1.keep hb) k x hx
        obtain ⟨q1, q2, q3⟩ := (at2.keep hb) k y hy
        have x1 := cell_regrown p1
        have x2 := cell_regrown p2
        have x3 := cell_regrown p3
        have y1 := cell_regrown q1
        have y2 := cell_regrown q2
        have y3 := cell_regrown q3
        have hne := neqItem x y
        have hgd := guardItem
        have HD : Hid (sameRs l m = (sameR x y && sameRs (l.drop (k + 1)) (m.drop (k + 1)))) := by show _ = _; rw [HS.out, sameRs_drop hx hy]
        have g0 : (0 : Int) ≤ k := by omega
        have g : (k : Int) < n := by omega
        clear hx hy p1 p2 p3 q1 q2 q3 at1 at2 HS
        generalize x.name = xn at *
        generalize x.has = xh at *
        generalize x.value = xv at *
        generalize y.name = yn at *
        generalize y.has = yh at *
        generalize y.value = yv at *
        cases hsame : sameR x y
        · rw [hsame] at hne
          have HE : Hid (sameRs l m = false) := by show _ = _; rw [HD.out, hsame, Bool.false_and]
          clear HD hsame
          simp only [Bool.not_false] at hne
          go_wp2_with fail
          refine wp_region_quiet_below (by kernel_rfl) (by kernel_rfl) ?_
          repeat (go_big_quiet_step (fail))
          refine wpQuiet_nil ?_
          intro w2 hw2
          have hbb : Below w.heap.size w w2 := by
            obtain ⟨⟨d, os⟩, rfl⟩ := hw2
            exact hb.trans ((below_regrown wr d os).mono hb.size)
          clear x1 x2 x3 y1 y2 y3 hne hgd hw2 hb
          go_wp2_with fail
          go_ret
          exact ⟨ret_bool HE.out.symm, hbb⟩
        · rw [hsame] at hne
          have HE : Hid (sameRs l m = sameRs (l.drop (k + 1)) (m.drop (k + 1))) := by show _ = _; rw [HD.out, hsame, Bool.true_and]
          clear HD hsame
          simp only [Bool.not_true] at hne
          go_wp2_with fail
          refine wp_region_quiet_below (by kernel_rfl) (by kernel_rfl) ?_
          repeat (go_big_quiet_step (fail))
          refine wpQuiet_nil ?_
          intro w2 hw2
          have hbb : Below w.heap.size w w2 := by
            obtain ⟨⟨d, os⟩, rfl⟩ := hw2
            exact hb.trans ((below_regrown wr d os).mono hb.size)
          clear x1 x2 x3 y1 y2 y3 hne hgd hw2 hb
          go_wp2_with fail
          go_roundw
          case rel => exact ⟨k + 1, by omega, by go_num, HE.out, hbb⟩
          case measure => simp [intOf]; omega
      · have HE : Hid (sameRs l m = true) := by
          show _ = _
          rw [HS.out, List.drop_of_length_le (by have := HN.out; omega), List.drop_of_length_le (by have := HM.out; have := HN.out; omega)]
          rfl
        clear HS
        go_wp2_with fail
        go_ret
        exact ⟨ret_bool HE.out.symm, hb⟩
  · have HE : Hid (sameRs l m = false) := sameRs_lens l m hlen
    have g : ¬ (l.length : Int) = (m.length : Int) := by omega
    have g2 : ((l.length : Int) != (m.length : Int)) = true := by simpa using g
    clear H1 H2
    generalize l.length = n at *
    generalize m.length = n2 at *
    go_enter Tryd.func37, Tryd.ntmps37
    go_wp2_with fail
    go_ret
    exact ⟨ret_bool HE.out.symm, Below.refl _ _⟩
set_option maxRecDepth 100000 in
set_option maxHeartbeats 4000000 in
theorem equalItems_any (w : World) (a b : Option Addr) (ca cb : Nat) (l m : List Rec) (hl : l.length ≤ 1048576) (h1 : ItsIn w a l) (h2 : ItsIn w b m) :
    Calls Tryd.prog 84 #[.slice a l.length ca, .slice b m.length cb] w fun e w' => e = .returned (.bool (sameRs l m)) ∧ Below w.heap.size w w' := by
  have H1 : Hid (ItsIn w a l) := h1
  have H2 : Hid (ItsIn w b m) := h2
  clear h1 h2
  by_cases hlen : l.length = m.length
  · have HM : Hid (m.length = l.length) := hlen.symm
    rw [← hlen]
    clear hlen
    generalize hn : l.length = n at *
    have HN : Hid (l.length = n) := hn
    clear hn
    go_enter Tryd.func84, Tryd.ntmps84
    go_wp2_with fail
    go_loopw [13] (fun i wr => ∃ k : Nat, k ≤ n ∧ i = .int .i64 k ∧ sameRs l m = sameRs (l.drop k) (m.drop k) ∧ Below w.heap.size w wr) (fun i _ => n - (intOf i).toNat)
    case atStart => exact ⟨0, Nat.zero_le _, rfl, rfl, Below.refl _ _⟩
    case round =>
      obtain ⟨k, hk, rfl, hs, hb⟩ := hrel
      have HS : Hid (sameRs l m = sameRs (l.drop k) (m.drop k)) := hs
      clear hs
      by_cases hlt : k < n
      · obtain ⟨x, hx⟩ : ∃ r, l[k]? = some r := ⟨l[k]'(by have := HN.out; omega), List.getElem?_eq_getElem _⟩
        obtain ⟨y, hy⟩ : ∃ r, m[k]? = some r := ⟨m[k]'(by have := HM.out; have := HN.out; omega), List.getElem?_eq_getElem _⟩
        rcases H1.out with h | ⟨b1, o1, rfl, at1⟩
        · subst h; simp at hx
        rcases H2.out with h | ⟨b2, o2, rfl, at2⟩
        · subst h; simp at hy
        obtain ⟨p1, p2, p3⟩ := (at1.keep hb) k x hx
        obtain ⟨q1, q2, q3⟩ := (at2.keep hb) k y hy
        have x1 := cell_regrown p1
        have x2 := cell_regrown p2
        have x3 := cell_regrown p3
        have y1 := cell_regrown q1
        have y2 := cell_regrown q2
        have y3 := cell_regrown q3
        have hne := neqItem x y
        have hgd := guardItem
        have HD : Hid (sameRs l m = (sameR x y && sameRs (l.drop (k + 1)) (m.drop (k + 1)))) := by show _ = _; rw [HS.out, sameRs_drop hx hy]
        have g0 : (0 : Int) ≤ k := by omega
        have g : (k : Int) < n := by omega
        clear hx hy p1 p2 p3 q1 q2 q3 at1 at2 HS
        generalize x.name = xn at *
        generalize x.has = xh at *
        generalize x.value = xv at *
        generalize y.name = yn at *
        generalize y.has = yh at *
        generalize y.value = yv at *
        cases hsame : sameR x y
        · rw [hsame] at hne
          have HE : Hid (sameRs l m = false) := by show _ = _; rw [HD.out, hsame, Bool.false_and]
          clear HD hsame
          simp only [Bool.not_false] at hne
          go_wp2_with fail
          refine wp_region_quiet_below (by kernel_rfl) (by kernel_rfl) ?_
          repeat (go_big_quiet_step (fail))
          refine wpQuiet_nil ?_
          intro w2 hw2
          have hbb : Below w.heap.size w w2 := by
            obtain ⟨⟨d, os⟩, rfl⟩ := hw2
            exact hb.trans ((below_regrown wr d os).mono hb.size)
          clear x1 x2 x3 y1 y2 y3 hne hgd hw2 hb
          go_wp2_with fail
          go_ret
          exact ⟨ret_bool HE.out.symm, hbb⟩
        · rw [hsame] at hne
          have HE : Hid (sameRs l m = sameRs (l.drop (k + 1)) (m.drop (k + 1))) := by show _ = _; rw [HD.out, hsame, Bool.true_and]
          clear HD hsame
          simp only [Bool.not_true] at hne
          go_wp2_with fail
          refine wp_region_quiet_below (by kernel_rfl) (by kernel_rfl) ?_
          repeat (go_big_quiet_step (fail))
          refine wpQuiet_nil ?_
          intro w2 hw2
          have hbb : Below w.heap.size w w2 := by
            obtain ⟨⟨d, os⟩, rfl⟩ := hw2
            exact hb.trans ((below_regrown wr d os).mono hb.size)
          clear x1 x2 x3 y1 y2 y3 hne hgd hw2 hb
          go_wp2_with fail
          go_roundw
          case rel => exact ⟨k + 1, by omega, by go_num, HE.out, hbb⟩
          case measure => simp [intOf]; omega
      · have HE : Hid (sameRs l m = true) := by
          show _ = _
          rw [HS.out, List.drop_of_length_le (by have := HN.out; omega), List.drop_of_length_le (by have := HM.out; have := HN.out; omega)]
          rfl
        clear HS
        go_wp2_with fail
        go_ret
        exact ⟨ret_bool HE.out.symm, hb⟩
  · have HE : Hid (sameRs l m = false) := sameRs_lens l m hlen
    have g : ¬ (l.length : Int) = (m.length : Int) := by omega
    have g2 : ((l.length : Int) != (m.length : Int)) = true := by simpa using g
    clear H1 H2
    generalize l.length = n at *
    generalize m.length = n2 at *
    go_enter Tryd.func84, Tryd.ntmps84
    go_wp2_with fail
    go_ret
    exact ⟨ret_bool HE.out.symm, Below.refl _ _⟩
set_option maxHeartbeats 400000 in
theorem implSame_any (w : World) (a b : Option Addr) (ca cb : Nat) (l m : List Rec) (hl : l.length ≤ 1048576) (h1 : ItsIn w a l) (h2 : ItsIn w b m) :
    Calls Tryd.prog 36 #[.slice a l.length ca, .slice b m.length cb] w fun e w' => e = .returned (.bool (sameRs l m)) ∧ Below w.heap.size w w' := by
  have HC : Hid (Calls Tryd.prog 84 #[.slice a l.length ca, .slice b m.length cb] w fun e w' => e = .returned (.bool (sameRs l m)) ∧ Below w.heap.size w w') := equalItems_any w a b ca cb l m hl h1 h2
  clear h1 h2 hl
  go_enter Tryd.func36, Tryd.ntmps36
  go_wp2_with fail
  refine HC.out.mono ?_
  rintro e w1 ⟨rfl, hb⟩
  go_wp2_with fail
  go_ret
  exact ⟨rfl, hb⟩
end Go.Proofs.YtibomkcbopkpkaaDoor
