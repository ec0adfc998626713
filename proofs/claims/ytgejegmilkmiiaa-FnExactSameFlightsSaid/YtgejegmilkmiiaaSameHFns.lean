/-
  What the model's SameHeaders and slices.Equal over head lines answer, and SameHeaders.
-/
import Derived.Test.YtgejegmilkmiiaaSameHeads
namespace Go.Proofs.Ytgejegmilkmiiaa
open Go.ChangeShapes Go.WideShapes Go.ChangeAt Go.RowKit Go.Sort
theorem sameHs_lens : ∀ (l m : List Hdr), l.length ≠ m.length → sameHs l m = false
  | [], [], h => absurd rfl h
  | [], _ :: _, _ => rfl
  | _ :: _, [], _ => rfl
  | x :: l, y :: m, h => by
    rw [sameHs, sameHs_lens l m (by simpa using h), Bool.and_false]
theorem sameHs_drop {l m : List Hdr} {k : Nat} {x y : Hdr} (hx : l[k]? = some x) (hy : m[k]? = some y) : sameHs (l.drop k) (m.drop k) = (sameH x y && sameHs (l.drop (k + 1)) (m.drop (k + 1))) := by
  rw [drop_hdr l k x hx, drop_hdr m k y hy, sameHs]
set_option maxRecDepth 100000 in
set_option maxHeartbeats 4000000 in
theorem specSameH_any (w : World) (a b : Option Addr) (ca cb : Nat) (l m : List Hdr) (hl : l.length ≤ 1048576) (h1 : HdsIn w a l) (h2 : HdsIn w b m) :
    Calls Try.prog 18 #[.slice a l.length ca, .slice b m.length cb] w fun e w' => e = .returned (.bool (sameHs l m)) ∧ Below w.heap.size w w' := by
  have H1 : Hid (HdsIn w a l) := h1
  have H2 : Hid (HdsIn w b m) := h2
  clear h1 h2
  by_cases hlen : l.length = m.length
  · have HM : Hid (m.length = l.length) := hlen.symm
    rw [← hlen]
    clear hlen
    generalize hn : l.length = n at *
    have HN : Hid (l.length = n) := hn
    clear hn
    go_enter Try.func18, Try.ntmps18
    go_wp2_with fail
    go_loopw [5] (fun i wr => ∃ k : Nat, k ≤ n ∧ i = .int .i64 k ∧ sameHs l m = sameHs (l.drop k) (m.drop k) ∧ Below w.heap.size w wr) (fun i _ => n - (intOf i).toNat)
    case atStart => exact ⟨0, Nat.zero_le _, rfl, rfl, Below.refl _ _⟩
    case round =>
      obtain ⟨k, hk, rfl, hs, hb⟩ := hrel
      have HS : Hid (sameHs l m = sameHs (l.drop k) (m.drop k)) := hs
      clear hs
      by_cases hlt : k < n
      · obtain ⟨x, hx⟩ : ∃ r, l[k]? = some r := ⟨l[k]'(by have := HN.out; omega), List.getElem?_eq_getElem _⟩
        obtain ⟨y, hy⟩ : ∃ r, m[k]? = some r := ⟨m[k]'(by have := HM.out; have := HN.out; omega), List.getElem?_eq_getElem _⟩
        rcases H1.out with h | ⟨b1, o1, rfl, at1⟩
        · subst h; simp at hx
        rcases H2.out with h | ⟨b2, o2, rfl, at2⟩
        · subst h; simp at hy
        obtain ⟨p1, p3⟩ := (at1.keep hb) k x hx
        obtain ⟨q1, q3⟩ := (at2.keep hb) k y hy
        have x1 := cell_regrown p1
        have x3 := cell_regrown p3
        have y1 := cell_regrown q1
        have y3 := cell_regrown q3
        have hne := neqHeader x y
        have hgd := guardHeader
        have HD : Hid (sameHs l m = (sameH x y && sameHs (l.drop (k + 1)) (m.drop (k + 1)))) := by show _ = _; rw [HS.out, sameHs_drop hx hy]
        have g0 : (0 : Int) ≤ k := by omega
        have g : (k : Int) < n := by omega
        clear hx hy p1 p3 q1 q3 at1 at2 HS
        generalize x.name = xn at *
        generalize x.value = xv at *
        generalize y.name = yn at *
        generalize y.value = yv at *
        cases hsame : sameH x y
        · rw [hsame] at hne
          have HE : Hid (sameHs l m = false) := by show _ = _; rw [HD.out, hsame, Bool.false_and]
          clear HD hsame
          simp only [Bool.not_false] at hne
          go_wp2_with fail
          refine wp_region_quiet_below (by kernel_rfl) (by kernel_rfl) ?_
          repeat (go_big_quiet_step (fail))
          refine wpQuiet_nil ?_
          intro w2 hw2
          have hbb : Below w.heap.size w w2 := by
            obtain ⟨⟨d, os⟩, rfl⟩ := hw2
            exact hb.trans ((below_regrown wr d os).mono hb.size)
          clear x1 x3 y1 y3 hne hgd hw2 hb
          go_wp2_with fail
          go_ret
          exact ⟨ret_bool HE.out.symm, hbb⟩
        · rw [hsame] at hne
          have HE : Hid (sameHs l m = sameHs (l.drop (k + 1)) (m.drop (k + 1))) := by show _ = _; rw [HD.out, hsame, Bool.true_and]
          clear HD hsame
          simp only [Bool.not_true] at hne
          go_wp2_with fail
          refine wp_region_quiet_below (by kernel_rfl) (by kernel_rfl) ?_
          repeat (go_big_quiet_step (fail))
          refine wpQuiet_nil ?_
          intro w2 hw2
          have hbb : Below w.heap.size w w2 := by
            obtain ⟨⟨d, os⟩, rfl⟩ := hw2
            exact hb.trans ((below_regrown wr d os).mono hb.size)
          clear x1 x3 y1 y3 hne hgd hw2 hb
          go_wp2_with fail
          go_roundw
          case rel => exact ⟨k + 1, by omega, by go_num, HE.out, hbb⟩
          case measure => simp [intOf]; omega
      · have HE : Hid (sameHs l m = true) := by
          show _ = _
          rw [HS.out, List.drop_of_length_le (by have := HN.out; omega), List.drop_of_length_le (by have := HM.out; have := HN.out; omega)]
          rfl
        clear HS
        go_wp2_with fail
        go_ret
        exact ⟨ret_bool HE.out.symm, hb⟩
  · have HE : Hid (sameHs l m = false) := sameHs_lens l m hlen
    have g : ¬ (l.length : Int) = (m.length : Int) := by omega
    have g2 : ((l.length : Int) != (m.length : Int)) = true := by simpa using g
    clear H1 H2
    generalize l.length = n at *
    generalize m.length = n2 at *
    go_enter Try.func18, Try.ntmps18
    go_wp2_with fail
    go_ret
    exact ⟨ret_bool HE.out.symm, Below.refl _ _⟩
set_option maxRecDepth 100000 in
set_option maxHeartbeats 4000000 in
theorem equalHeaders_any (w : World) (a b : Option Addr) (ca cb : Nat) (l m : List Hdr) (hl : l.length ≤ 1048576) (h1 : HdsIn w a l) (h2 : HdsIn w b m) :
    Calls Try.prog 36 #[.slice a l.length ca, .slice b m.length cb] w fun e w' => e = .returned (.bool (sameHs l m)) ∧ Below w.heap.size w w' := by
  have H1 : Hid (HdsIn w a l) := h1
  have H2 : Hid (HdsIn w b m) := h2
  clear h1 h2
  by_cases hlen : l.length = m.length
  · have HM : Hid (m.length = l.length) := hlen.symm
    rw [← hlen]
    clear hlen
    generalize hn : l.length = n at *
    have HN : Hid (l.length = n) := hn
    clear hn
    go_enter Try.func36, Try.ntmps36
    go_wp2_with fail
    go_loopw [13] (fun i wr => ∃ k : Nat, k ≤ n ∧ i = .int .i64 k ∧ sameHs l m = sameHs (l.drop k) (m.drop k) ∧ Below w.heap.size w wr) (fun i _ => n - (intOf i).toNat)
    case atStart => exact ⟨0, Nat.zero_le _, rfl, rfl, Below.refl _ _⟩
    case round =>
      obtain ⟨k, hk, rfl, hs, hb⟩ := hrel
      have HS : Hid (sameHs l m = sameHs (l.drop k) (m.drop k)) := hs
      clear hs
      by_cases hlt : k < n
      · obtain ⟨x, hx⟩ : ∃ r, l[k]? = some r := ⟨l[k]'(by have := HN.out; omega), List.getElem?_eq_getElem _⟩
        obtain ⟨y, hy⟩ : ∃ r, m[k]? = some r := ⟨m[k]'(by have := HM.out; have := HN.out; omega), List.getElem?_eq_getElem _⟩
        rcases H1.out with h | ⟨b1, o1, rfl, at1⟩
        · subst h; simp at hx
        rcases H2.out with h | ⟨b2, o2, rfl, at2⟩
        · subst h; simp at hy
        obtain ⟨p1, p3⟩ := (at1.keep hb) k x hx
        obtain ⟨q1, q3⟩ := (at2.keep hb) k y hy
        have x1 := cell_regrown p1
        have x3 := cell_regrown p3
        have y1 := cell_regrown q1
        have y3 := cell_regrown q3
        have hne := neqHeader x y
        have hgd := guardHeader
        have HD : Hid (sameHs l m = (sameH x y && sameHs (l.drop (k + 1)) (m.drop (k + 1)))) := by show _ = _; rw [HS.out, sameHs_drop hx hy]
        have g0 : (0 : Int) ≤ k := by omega
        have g : (k : Int) < n := by omega
        clear hx hy p1 p3 q1 q3 at1 at2 HS
        generalize x.name = xn at *
        generalize x.value = xv at *
        generalize y.name = yn at *
        generalize y.value = yv at *
        cases hsame : sameH x y
        · rw [hsame] at hne
          have HE : Hid (sameHs l m = false) := by show _ = _; rw [HD.out, hsame, Bool.false_and]
          clear HD hsame
          simp only [Bool.not_false] at hne
          go_wp2_with fail
          refine wp_region_quiet_below (by kernel_rfl) (by kernel_rfl) ?_
          repeat (go_big_quiet_step (fail))
          refine wpQuiet_nil ?_
          intro w2 hw2
          have hbb : Below w.heap.size w w2 := by
            obtain ⟨⟨d, os⟩, rfl⟩ := hw2
            exact hb.trans ((below_regrown wr d os).mono hb.size)
          clear x1 x3 y1 y3 hne hgd hw2 hb
          go_wp2_with fail
          go_ret
          exact ⟨ret_bool HE.out.symm, hbb⟩
        · rw [hsame] at hne
          have HE : Hid (sameHs l m = sameHs (l.drop (k + 1)) (m.drop (k + 1))) := by show _ = _; rw [HD.out, hsame, Bool.true_and]
          clear HD hsame
          simp only [Bool.not_true] at hne
          go_wp2_with fail
          refine wp_region_quiet_below (by kernel_rfl) (by kernel_rfl) ?_
          repeat (go_big_quiet_step (fail))
          refine wpQuiet_nil ?_
          intro w2 hw2
          have hbb : Below w.heap.size w w2 := by
            obtain ⟨⟨d, os⟩, rfl⟩ := hw2
            exact hb.trans ((below_regrown wr d os).mono hb.size)
          clear x1 x3 y1 y3 hne hgd hw2 hb
          go_wp2_with fail
          go_roundw
          case rel => exact ⟨k + 1, by omega, by go_num, HE.out, hbb⟩
          case measure => simp [intOf]; omega
      · have HE : Hid (sameHs l m = true) := by
          show _ = _
          rw [HS.out, List.drop_of_length_le (by have := HN.out; omega), List.drop_of_length_le (by have := HM.out; have := HN.out; omega)]
          rfl
        clear HS
        go_wp2_with fail
        go_ret
        exact ⟨ret_bool HE.out.symm, hb⟩
  · have HE : Hid (sameHs l m = false) := sameHs_lens l m hlen
    have g : ¬ (l.length : Int) = (m.length : Int) := by omega
    have g2 : ((l.length : Int) != (m.length : Int)) = true := by simpa using g
    clear H1 H2
    generalize l.length = n at *
    generalize m.length = n2 at *
    go_enter Try.func36, Try.ntmps36
    go_wp2_with fail
    go_ret
    exact ⟨ret_bool HE.out.symm, Below.refl _ _⟩
set_option maxHeartbeats 400000 in
theorem implSameH_any (w : World) (a b : Option Addr) (ca cb : Nat) (l m : List Hdr) (hl : l.length ≤ 1048576) (h1 : HdsIn w a l) (h2 : HdsIn w b m) :
    Calls Try.prog 34 #[.slice a l.length ca, .slice b m.length cb] w fun e w' => e = .returned (.bool (sameHs l m)) ∧ Below w.heap.size w w' := by
  have HC : Hid (Calls Try.prog 36 #[.slice a l.length ca, .slice b m.length cb] w fun e w' => e = .returned (.bool (sameHs l m)) ∧ Below w.heap.size w w') := equalHeaders_any w a b ca cb l m hl h1 h2
  clear h1 h2 hl
  go_enter Try.func34, Try.ntmps34
  go_wp2_with fail
  refine HC.out.mono ?_
  rintro e w1 ⟨rfl, hb⟩
  go_wp2_with fail
  go_ret
  exact ⟨rfl, hb⟩
end Go.Proofs.Ytgejegmilkmiiaa
