/-
  SameBulks, on both sides.
-/
import Derived.Test.YtdfikpadanmgmaaSameWt
import Derived.Test.YtdfikpadanmgmaaBlkPlain
namespace Go.Proofs.Ytdfikpadanmgmaa
open Go.ChangeShapes Go.WideShapes Go.ChangeAt Go.RowKit Go.Sort
def sameB (y1 : Int) (l1 : List Wt) (y2 : Int) (l2 : List Wt) : Bool := decide (y1 = y2) && sameWs l1 l2
set_option maxRecDepth 100000 in
set_option maxHeartbeats 4000000 in
theorem specSameB_any (w : World) (y1 : Int) (a1 : Option Addr) (c1 : Nat) (l1 : List Wt) (y2 : Int) (a2 : Option Addr) (c2 : Nat) (l2 : List Wt) (hl : l1.length ≤ 1048576) (h1 : WtIn w a1 l1) (h2 : WtIn w a2 l2) :
    Calls Try.prog 23 #[.agg #[.int .i64 y1, .slice a1 l1.length c1], .agg #[.int .i64 y2, .slice a2 l2.length c2]] w fun e w' => e = .returned (.bool (sameB y1 l1 y2 l2)) ∧ Below w.heap.size w w' := by
  obtain ⟨W, hW⟩ : ∃ W, W = ((w.alloc (.cells #[.int .i64 y1, .slice a1 l1.length c1] 35)).alloc (.cells #[.int .i64 y2, .slice a2 l2.length c2] 35)) := ⟨_, rfl⟩
  have HW : Hid (W = ((w.alloc (.cells #[.int .i64 y1, .slice a1 l1.length c1] 35)).alloc (.cells #[.int .i64 y2, .slice a2 l2.length c2] 35))) := hW
  have K0 : Hid (Below w.heap.size w W ∧ D2 W w.heap.size (.int .i64 y1) (.slice a1 l1.length c1) ∧ D2 W (w.heap.size + 1) (.int .i64 y2) (.slice a2 l2.length c2)) := by
    have h2 := D2.new (w.alloc (.cells #[.int .i64 y1, .slice a1 l1.length c1] 35)) (.int .i64 y2) (.slice a2 l2.length c2) 35
    rw [show (w.alloc (.cells #[.int .i64 y1, .slice a1 l1.length c1] 35)).heap.size = w.heap.size + 1 by simp] at h2
    rw [hW]
    exact ⟨((Below.refl _ _).alloc (Nat.le_refl _) _).alloc (by simp) _, (D2.new w _ _ _).keep ((Below.refl _ _).alloc (Nat.le_refl _) _), h2⟩
  clear hW
  by_cases hs : y1 = y2
  rotate_left
  · have HE : Hid (sameB y1 l1 y2 l2 = false) := by show _ = _; simp [sameB, hs]
    have g : (y1 != y2) = true := by simpa using hs
    clear h1 h2 hs
    generalize sameB y1 l1 y2 l2 = b at *
    generalize l1.length = n1 at *
    generalize l2.length = n2 at *
    go_enter Try.func23, Try.ntmps23
    go_wp2_with fail
    rw [← HW.out]
    go_ret
    exact ⟨ret_bool HE.out.symm, K0.out.1⟩
  subst hs
  by_cases hlen : l1.length = l2.length
  rotate_left
  · have HE : Hid (sameB y1 l1 y1 l2 = false) := by show _ = _; rw [sameB, sameWs_lens l1 l2 hlen, Bool.and_false]
    have g : ¬ (l1.length : Int) = (l2.length : Int) := by omega
    have g2 : ((l1.length : Int) != (l2.length : Int)) = true := by simpa using g
    clear h1 h2
    generalize sameB y1 l1 y1 l2 = b at *
    generalize l1.length = n1 at *
    generalize l2.length = n2 at *
    go_enter Try.func23, Try.ntmps23
    go_wp2_with fail
    rw [← HW.out]
    go_ret
    exact ⟨ret_bool HE.out.symm, K0.out.1⟩
  have HBE : Hid (sameB y1 l1 y1 l2 = sameWs l1 l2) := by show _ = _; simp [sameB]
  generalize sameB y1 l1 y1 l2 = b at *
  have H1 : Hid (WtIn w a1 l1) := h1
  have H2 : Hid (WtIn w a2 l2) := h2
  clear h1 h2
  have HM : Hid (l2.length = l1.length) := hlen.symm
  rw [← hlen] at HW K0 ⊢
  clear hlen
  generalize hn : l1.length = n at *
  have HN : Hid (l1.length = n) := hn
  clear hn
  go_enter Try.func23, Try.ntmps23
  go_wp2_with fail
  rw [← HW.out]
  clear HW
  go_loopw [5] (fun i wr => ∃ k : Nat, k ≤ n ∧ i = .int .i64 k ∧ sameWs l1 l2 = sameWs (l1.drop k) (l2.drop k) ∧ Below w.heap.size w wr ∧ D2 wr w.heap.size (.int .i64 y1) (.slice a1 n c1) ∧ D2 wr (w.heap.size + 1) (.int .i64 y1) (.slice a2 n c2)) (fun i _ => n - (intOf i).toNat)
  case atStart => exact ⟨0, Nat.zero_le _, rfl, rfl, K0.out⟩
  case round =>
    obtain ⟨k, hk, rfl, hs, hS⟩ := hrel
    clear K0
    have HS : Hid (sameWs l1 l2 = sameWs (l1.drop k) (l2.drop k)) := hs
    clear hs
    by_cases hlt : k < n
    · obtain ⟨x, hx⟩ : ∃ r, l1[k]? = some r := ⟨l1[k]'(by have := HN.out; omega), List.getElem?_eq_getElem _⟩
      obtain ⟨z, hz⟩ : ∃ r, l2[k]? = some r := ⟨l2[k]'(by have := HM.out; have := HN.out; omega), List.getElem?_eq_getElem _⟩
      rcases H1.out with h | ⟨b1, o1, rfl, at1⟩
      · subst h; simp at hx
      rcases H2.out with h | ⟨b2, o2, rfl, at2⟩
      · subst h; simp at hz
      obtain ⟨p1, p3⟩ := (at1.keep hS.1) k x hx
      obtain ⟨q1, q3⟩ := (at2.keep hS.1) k z hz
      have x1 := cell_regrown p1
      have x3 := cell_regrown p3
      have z1 := cell_regrown q1
      have z3 := cell_regrown q3
      have u1 := cell_regrown hS.2.1.c1
      have u2 := cell_regrown hS.2.2.c1
      have hne := neqWait x z
      have hgd := guardWait
      have HD : Hid (sameWs l1 l2 = (sameW x z && sameWs (l1.drop (k + 1)) (l2.drop (k + 1)))) := by show _ = _; rw [HS.out, sameWs_drop hx hz]
      have g0 : (0 : Int) ≤ k := by omega
      have g : (k : Int) < n := by omega
      clear hx hz p1 p3 q1 q3 at1 at2 HS
      generalize x.wi = xn at *
      generalize x.du = xv at *
      generalize z.wi = yn at *
      generalize z.du = yv at *
      have e1 := hS.2.1.c1
      cases hsame : sameW x z
      · rw [hsame] at hne
        have HE : Hid (b = false) := by show _ = _; rw [HBE.out, HD.out, hsame, Bool.false_and]
        clear HD hsame
        simp only [Bool.not_false] at hne
        go_wp2_with fail
        refine wp_region_quiet_below (by kernel_rfl) (by kernel_rfl) ?_
        repeat (go_big_quiet_step (fail))
        refine wpQuiet_nil ?_
        intro w2 hw2
        have hbb : Below w.heap.size w w2 ∧ D2 w2 w.heap.size (.int .i64 y1) (.slice (some ⟨b1, o1, none⟩) n c1) ∧ D2 w2 (w.heap.size + 1) (.int .i64 y1) (.slice (some ⟨b2, o2, none⟩) n c2) := by
          obtain ⟨⟨d, os⟩, rfl⟩ := hw2
          exact ⟨hS.1.trans ((below_regrown wr d os).mono hS.1.size), hS.2.1.keep (below_regrown wr d os), hS.2.2.keep (below_regrown wr d os)⟩
        have HBB := hid11 hbb
        clear x1 x3 z1 z3 u1 u2 hne hgd hw2 hS hbb
        go_wp2_with fail
        go_ret
        exact ⟨ret_bool HE.out.symm, HBB.out.1⟩
      · rw [hsame] at hne
        have HE : Hid (sameWs l1 l2 = sameWs (l1.drop (k + 1)) (l2.drop (k + 1))) := by show _ = _; rw [HD.out, hsame, Bool.true_and]
        clear HD hsame
        simp only [Bool.not_true] at hne
        go_wp2_with fail
        refine wp_region_quiet_below (by kernel_rfl) (by kernel_rfl) ?_
        repeat (go_big_quiet_step (fail))
        refine wpQuiet_nil ?_
        intro w2 hw2
        have hbb : Below w.heap.size w w2 ∧ D2 w2 w.heap.size (.int .i64 y1) (.slice (some ⟨b1, o1, none⟩) n c1) ∧ D2 w2 (w.heap.size + 1) (.int .i64 y1) (.slice (some ⟨b2, o2, none⟩) n c2) := by
          obtain ⟨⟨d, os⟩, rfl⟩ := hw2
          exact ⟨hS.1.trans ((below_regrown wr d os).mono hS.1.size), hS.2.1.keep (below_regrown wr d os), hS.2.2.keep (below_regrown wr d os)⟩
        have HBB := hid11 hbb
        clear x1 x3 z1 z3 u1 u2 hne hgd hw2 hS hbb
        go_wp2_with fail
        go_roundw
        case rel => exact ⟨k + 1, by omega, by go_num, HE.out, HBB.out⟩
        case measure => simp [intOf]; omega
    · have HE : Hid (b = true) := by
        show _ = _
        rw [HBE.out, HS.out, List.drop_of_length_le (by have := HN.out; omega), List.drop_of_length_le (by have := HM.out; have := HN.out; omega)]
        rfl
      have e1 := hS.2.1.c1
      have HB := hid11 hS.1
      clear HS
      go_wp2_with fail
      go_ret
      exact ⟨ret_bool HE.out.symm, HB.out⟩
set_option maxHeartbeats 4000000 in
theorem implSameB_any (w : World) (y1 : Int) (a1 : Option Addr) (c1 : Nat) (l1 : List Wt) (y2 : Int) (a2 : Option Addr) (c2 : Nat) (l2 : List Wt) (hl : l1.length ≤ 1048576) (h1 : WtIn w a1 l1) (h2 : WtIn w a2 l2) :
    Calls Try.prog 24 #[.agg #[.int .i64 y1, .slice a1 l1.length c1], .agg #[.int .i64 y2, .slice a2 l2.length c2]] w fun e w' => e = .returned (.bool (sameB y1 l1 y2 l2)) ∧ Below w.heap.size w w' := by
  have HQ : Hid (∀ X, Below w.heap.size w X → Calls Try.prog 72 #[.slice a1 l1.length c1, .slice a2 l2.length c2] X fun e w' => e = .returned (.bool (sameWs l1 l2)) ∧ Below X.heap.size X w') := fun X hb => equalWaits_any X a1 a2 c1 c2 l1 l2 hl (h1.keep hb) (h2.keep hb)
  clear h1 h2 hl
  by_cases hs : y1 = y2
  rotate_left
  · have HE : Hid (sameB y1 l1 y2 l2 = false) := by show _ = _; simp [sameB, hs]
    have g : (y1 == y2) = false := by simpa using hs
    clear HQ
    generalize sameB y1 l1 y2 l2 = b at *
    generalize l1.length = n1 at *
    generalize l2.length = n2 at *
    go_enter Try.func24, Try.ntmps24
    go_wp2_with fail
    go_ret
    exact ⟨ret_bool HE.out.symm, ((Below.refl _ _).alloc (Nat.le_refl _) _).alloc (by simp) _⟩
  subst hs
  have HE : Hid (sameB y1 l1 y1 l2 = sameWs l1 l2) := by show _ = _; simp [sameB]
  generalize sameB y1 l1 y1 l2 = b at *
  generalize sameWs l1 l2 = m at *
  generalize l1.length = n1 at *
  generalize l2.length = n2 at *
  go_enter Try.func24, Try.ntmps24
  go_wp2_with fail
  refine (HQ.out _ (((Below.refl _ _).alloc (Nat.le_refl _) _).alloc (by simp) _)).mono ?_
  rintro e w1 ⟨rfl, hb⟩
  have HB : Hid (Below w.heap.size w w1) := (((Below.refl _ _).alloc (Nat.le_refl _) _).alloc (by simp) _).trans (hb.mono (by simp; omega))
  clear hb HQ
  go_wp2_with fail
  go_ret
  exact ⟨ret_bool HE.out.symm, HB.out⟩
end Go.Proofs.Ytdfikpadanmgmaa
