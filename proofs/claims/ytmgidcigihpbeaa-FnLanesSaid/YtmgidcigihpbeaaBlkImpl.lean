/-
  BulkFault, by the program.
-/
import Derived.Test.YtmgidcigihpbeaaBlkFun
import Derived.Lib.QuietBelow
import Derived.Deep.RegionWith
import Derived.BigQuiet
namespace Go.Proofs.Ytmgidcigihpbeaa
open Go.ChangeShapes Go.WideShapes Go.ChangeAt Go.RowKit Go.Sort
set_option maxRecDepth 100000 in
set_option maxHeartbeats 4000000 in
theorem twice_any (w : World) (a : Option Addr) (cap : Nat) (l : List Wt) (hl : l.length ≤ 1048576) (hc : l.length ≤ cap) (hi : WtIn w a l) :
    Calls Try.prog 51 #[.slice a l.length cap] w fun e w' => e = .returned (.bool (!nodupW l)) ∧ Below w.heap.size w w' := by
  have HI : Hid (WtIn w a l) := hi
  clear hi
  obtain ⟨n, hn⟩ : ∃ n, l.length = n := ⟨_, rfl⟩
  rw [hn] at hl hc ⊢
  have HN : Hid (l.length = n) := hn
  clear hn
  go_enter Try.func51, Try.ntmps51
  go_wp2_with fail
  go_loopw [7] (fun i wr => ∃ k : Nat, k ≤ n ∧ i = .int .i64 k ∧ (∀ (i j : Nat) x y, i < k → j < i → l[i]? = some x → l[j]? = some y → x.wi ≠ y.wi) ∧ Below w.heap.size w wr) (fun i _ => n - (intOf i).toNat)
  case atStart => exact ⟨0, Nat.zero_le _, rfl, fun i j x y h => by omega, Below.refl _ _⟩
  case round =>
    obtain ⟨k, hk, rfl, ht, hb⟩ := hrel
    have HTT : Hid (∀ (i j : Nat) x y, i < k → j < i → l[i]? = some x → l[j]? = some y → x.wi ≠ y.wi) := ht
    clear ht
    by_cases hlt : k < n
    · obtain ⟨r, hr⟩ : ∃ r, l[k]? = some r := ⟨l[k]'(by have := HN.out; omega), List.getElem?_eq_getElem _⟩
      rcases (HI.out.keep hb) with h | ⟨b, off, rfl, hat⟩
      · subst h; simp at hr
      obtain ⟨p0, p1⟩ := hat k r hr
      have hw2 : Below wr.heap.size wr (wr.alloc (.cells #[.int .i64 r.wi, .int .i64 r.du] 40)) := (Below.refl _ _).alloc (Nat.le_refl _) _
      have CB : Hid (Below w.heap.size w (wr.alloc (.cells #[.int .i64 r.wi, .int .i64 r.du] 40))) := hb.trans (hw2.mono hb.size)
      have hkl : (l.take k).length = k := by rw [List.length_take]; have := HN.out; omega
      have cE : ∀ d os, Calls Try.prog 42 #[.slice (some ⟨b, off, none⟩) k cap, .int .i64 r.wi] (grow (redrawn (wr.alloc (.cells #[.int .i64 r.wi, .int .i64 r.du] 40)) d) os) fun e w'' => e = .returned (.bool (hasW (l.take k) r.wi)) ∧ ∃ p : Regrown, w'' = grow (redrawn (wr.alloc (.cells #[.int .i64 r.wi, .int .i64 r.du] 40)) p.d) p.os := fun d os => Calls.regrown_of (by
        have := isWaiting_any (grow (redrawn (wr.alloc (.cells #[.int .i64 r.wi, .int .i64 r.du] 40)) d) os) (some ⟨b, off, none⟩) cap (l.take k) r.wi (by omega) ((WtIn.take (HI.out.keep CB.out) k).keep (below_regrown _ d os))
        rw [hkl] at this
        exact this)
      have HYE : Hid (hasW (l.take k) r.wi = true → nodupW l = false) := fun h => by
        obtain ⟨j, x, hx, e⟩ := hasW_get h
        rw [List.getElem?_take] at hx
        split at hx
        · exact nodupW_no (by assumption) hr hx e.symm
        · cases hx
      have HNO : Hid (hasW (l.take k) r.wi = false → ∀ (i j : Nat) x y, i < k + 1 → j < i → l[i]? = some x → l[j]? = some y → x.wi ≠ y.wi) := fun h i j x y hik hji hx hy => by
        by_cases e : i = k
        · subst e
          rw [hr] at hx; obtain rfl := Option.some.inj hx
          exact fun e => hasW_none h (j := j) (r := y) (by rw [List.getElem?_take_of_lt hji]; exact hy) e.symm
        · exact HTT.out i j x y (by omega) hji hx hy
      have g0 : (0 : Int) ≤ k := by omega
      have g : (k : Int) < n := by omega
      have g2 : (k : Int) ≤ cap := by omega
      generalize hasW (l.take k) r.wi = hh at *
      clear hr hat HTT hkl hw2
      generalize r.wi = ri at *
      generalize r.du = rd at *
      have x0 : ∀ d os, (grow (redrawn (wr.alloc (.cells #[.int .i64 ri, .int .i64 rd] 40)) d) os).cell? ⟨wr.heap.size, 0, none⟩ = some (.int .i64 ri) := cell_regrown (by simp)
      go_wp2_with fail
      refine wp_region_quiet_below (by kernel_rfl) (by kernel_rfl) ?_
      repeat (go_big_quiet_step ((go_at_call 42; exact cE _ _)))
      refine wpQuiet_nil ?_
      intro w2 hw2
      have hbb : Below w.heap.size w w2 := by
        obtain ⟨⟨d, os⟩, rfl⟩ := hw2
        exact CB.out.trans ((below_regrown _ d os).mono CB.out.size)
      clear cE hw2 hb CB x0 p0 p1
      cases hh
      · have HN2 := hid11 (HNO.out rfl)
        clear HNO HYE
        go_wp2_with fail
        go_roundw
        case rel => exact ⟨k + 1, by omega, by go_num, HN2.out, hbb⟩
        case measure => simp [intOf]; omega
      · have HE : Hid (nodupW l = false) := HYE.out rfl
        clear HNO HYE
        go_wp2_with fail
        go_ret
        exact ⟨by rw [HE.out]; rfl, hbb⟩
    · have HE : Hid (nodupW l = true) := (nodupW_iff l).2 fun i j x y hji hx hy => HTT.out i j x y (by have := (List.getElem?_eq_some_iff.1 hx).1; have := HN.out; omega) hji hx hy
      have g : ¬ (k : Int) < n := by omega
      clear HTT HI HN
      go_wp2_with fail
      go_ret
      exact ⟨by rw [HE.out]; rfl, hb⟩
set_option maxRecDepth 100000 in
set_option maxHeartbeats 8000000 in
theorem implBlk_any (y : Int) (a : Option Addr) (cap : Nat) (l : List Wt) (s c t : Int) (w : World) (hc : l.length ≤ cap) (hi : WtIn w a l) :
    Calls Try.prog 11 #[.agg #[.int .i64 y, .slice a l.length cap], .agg #[.int .i64 s, .int .i64 c, .int .i64 t]] w fun r w' => r = .returned (.int .i64 (blkC y l s c t)) ∧ Below w.heap.size w w' := by
  obtain ⟨W, hW⟩ : ∃ W, W = ((w.alloc (.cells #[.int .i64 y, .slice a l.length cap] 26)).alloc (.cells #[.int .i64 s, .int .i64 c, .int .i64 t] 28)) := ⟨_, rfl⟩
  have HW : Hid (W = ((w.alloc (.cells #[.int .i64 y, .slice a l.length cap] 26)).alloc (.cells #[.int .i64 s, .int .i64 c, .int .i64 t] 28))) := hW
  have K0 : Hid (Below w.heap.size w W ∧ D2 W w.heap.size (.int .i64 y) (.slice a l.length cap) ∧ D3 W (w.heap.size + 1) (.int .i64 s) (.int .i64 c) (.int .i64 t)) := by
    have h2 := D3.new (w.alloc (.cells #[.int .i64 y, .slice a l.length cap] 26)) (.int .i64 s) (.int .i64 c) (.int .i64 t) 28
    rw [show (w.alloc (.cells #[.int .i64 y, .slice a l.length cap] 26)).heap.size = w.heap.size + 1 by simp] at h2
    rw [hW]
    exact ⟨((Below.refl _ _).alloc (Nat.le_refl _) _).alloc (by simp) _, (D2.new w _ _ _).keep ((Below.refl _ _).alloc (Nat.le_refl _) _), h2⟩
  have HL : Hid (∀ X, Calls Try.prog 13 #[.agg #[.int .i64 s, .int .i64 c, .int .i64 t]] X fun r w' => r = .returned (.int .i64 (lanesC s c t)) ∧ Below X.heap.size X w') := implLanes_any s c t
  have HT : Hid (∀ x lo hi w, Calls Try.prog 40 #[.int .i64 x, .int .i64 lo, .int .i64 hi] w fun r w' => r = .returned (.bool (inW lo hi x)) ∧ w' = w) := isWithin_all
  have HI : Hid (WtIn w a l) := hi
  clear hi hW
  cases h0 : lanesB s c t
  · rw [blkC_lanes h0]
    rw [lanesC_bad h0] at HL
    clear HI
    generalize l.length = n at *
    go_enter Try.func11, Try.ntmps11
    go_wp2_with fail
    rw [← HW.out]
    refine (HL.out _).mono ?_
    rintro r w1 ⟨rfl, hb1⟩
    have K1 : Hid (Below w.heap.size w w1 ∧ D2 w1 w.heap.size (.int .i64 y) (.slice a n cap) ∧ D3 w1 (w.heap.size + 1) (.int .i64 s) (.int .i64 c) (.int .i64 t)) := ⟨K0.out.1.trans (hb1.mono K0.out.1.size), K0.out.2.1.keep hb1, K0.out.2.2.keep hb1⟩
    clear K0 hb1 HW HL
    obtain ⟨e0, e1, ef, _⟩ := K1.out.2.1
    obtain ⟨f0, f1, f2, ff, _⟩ := K1.out.2.2
    go_wp2_with fail
    go_ret
    exact ⟨rfl, K1.out.1⟩
  rw [lanesC_ok h0] at HL
  cases h1 : inW 0 s y
  · rw [blkC_busy h0 h1]
    clear HI
    generalize l.length = n at *
    go_enter Try.func11, Try.ntmps11
    go_wp2_with fail
    rw [← HW.out]
    refine (HL.out _).mono ?_
    rintro r w1 ⟨rfl, hb1⟩
    have K1 : Hid (Below w.heap.size w w1 ∧ D2 w1 w.heap.size (.int .i64 y) (.slice a n cap) ∧ D3 w1 (w.heap.size + 1) (.int .i64 s) (.int .i64 c) (.int .i64 t)) := ⟨K0.out.1.trans (hb1.mono K0.out.1.size), K0.out.2.1.keep hb1, K0.out.2.2.keep hb1⟩
    clear K0 hb1 HW HL
    obtain ⟨e0, e1, ef, _⟩ := K1.out.2.1
    obtain ⟨f0, f1, f2, ff, _⟩ := K1.out.2.2
    go_wp2_with fail
    refine (HT.out y 0 s _).mono ?_
    rintro r w2 ⟨rfl, rfl⟩
    rw [h1]
    go_wp2_with fail
    go_ret
    exact ⟨rfl, K1.out.1⟩
  by_cases h2 : c < (l.length : Int)
  · rw [blkC_many h0 h1 h2]
    clear HI
    generalize l.length = n at *
    go_enter Try.func11, Try.ntmps11
    go_wp2_with fail
    rw [← HW.out]
    refine (HL.out _).mono ?_
    rintro r w1 ⟨rfl, hb1⟩
    have K1 : Hid (Below w.heap.size w w1 ∧ D2 w1 w.heap.size (.int .i64 y) (.slice a n cap) ∧ D3 w1 (w.heap.size + 1) (.int .i64 s) (.int .i64 c) (.int .i64 t)) := ⟨K0.out.1.trans (hb1.mono K0.out.1.size), K0.out.2.1.keep hb1, K0.out.2.2.keep hb1⟩
    clear K0 hb1 HW HL
    obtain ⟨e0, e1, ef, _⟩ := K1.out.2.1
    obtain ⟨f0, f1, f2, ff, _⟩ := K1.out.2.2
    go_wp2_with fail
    refine (HT.out y 0 s _).mono ?_
    rintro r w2 ⟨rfl, rfl⟩
    rw [h1]
    go_wp2_with fail
    go_ret
    exact ⟨rfl, K1.out.1⟩
  have HTM : Hid (waitsB l = false → blkC y l s c t = 3) := fun h => blkC_range h0 h1 h2 h
  have HSM : Hid (waitsB l = true → nodupW l = false → blkC y l s c t = 6) := fun h h3 => blkC_taken h0 h1 h2 h h3
  have HOK : Hid (waitsB l = true → nodupW l = true → blkC y l s c t = 0) := fun h h3 => blkC_ok h0 h1 h2 h h3
  have hl8 : l.length ≤ 8 := by have := (lanesB_of h0).2.1; omega
  have HU : Hid (∀ (r : Wt) w, Calls Try.prog 50 #[.agg #[.int .i64 r.wi, .int .i64 r.du]] w fun e w' => e = .returned (.bool (waitB r)) ∧ Below w.heap.size w w') := isWait_any
  have HTW : Hid (∀ X, WtIn X a l → Calls Try.prog 51 #[.slice a l.length cap] X fun e w' => e = .returned (.bool (!nodupW l)) ∧ Below X.heap.size X w') := fun X h => twice_any X a cap l (by omega) hc h
  clear hc
  generalize hn : l.length = n at *
  have HN : Hid (l.length = n) := hn
  clear hn
  generalize blkC y l s c t = q at *
  go_enter Try.func11, Try.ntmps11
  go_wp2_with fail
  rw [← HW.out]
  refine (HL.out _).mono ?_
  rintro r w1 ⟨rfl, hb1⟩
  have K1 : Hid (Below w.heap.size w w1 ∧ D2 w1 w.heap.size (.int .i64 y) (.slice a n cap) ∧ D3 w1 (w.heap.size + 1) (.int .i64 s) (.int .i64 c) (.int .i64 t)) := ⟨K0.out.1.trans (hb1.mono K0.out.1.size), K0.out.2.1.keep hb1, K0.out.2.2.keep hb1⟩
  clear K0 hb1 HW HL
  obtain ⟨e0, e1, ef, _⟩ := K1.out.2.1
  obtain ⟨f0, f1, f2, ff, _⟩ := K1.out.2.2
  go_wp2_with fail
  refine (HT.out y 0 s _).mono ?_
  rintro r w2 ⟨rfl, rfl⟩
  rw [h1]
  go_wp2_with fail
  clear e0 e1 ef f0 f1 f2 ff h0 h1 h2
  go_loopw [28] (fun i wr => ∃ k : Nat, k ≤ n ∧ i = .int .i64 k ∧ (∀ (j : Nat) x, j < k → l[j]? = some x → waitB x = true) ∧ Below w.heap.size w wr ∧ D2 wr w.heap.size (.int .i64 y) (.slice a n cap) ∧ D3 wr (w.heap.size + 1) (.int .i64 s) (.int .i64 c) (.int .i64 t)) (fun i _ => n - (intOf i).toNat)
  case atStart => exact ⟨0, Nat.zero_le _, rfl, fun j x h => by omega, K1.out⟩
  case round =>
    obtain ⟨k, hk, rfl, ht, hS⟩ := hrel
    have HTT : Hid (∀ (j : Nat) x, j < k → l[j]? = some x → waitB x = true) := ht
    have HS2 : Hid (Below w.heap.size w wr ∧ D2 wr w.heap.size (.int .i64 y) (.slice a n cap) ∧ D3 wr (w.heap.size + 1) (.int .i64 s) (.int .i64 c) (.int .i64 t)) := hS
    clear ht hS K1
    by_cases hlt : k < n
    · obtain ⟨r, hr⟩ : ∃ r, l[k]? = some r := ⟨l[k]'(by have := HN.out; omega), List.getElem?_eq_getElem _⟩
      rcases (HI.out.keep HS2.out.1) with h | ⟨b, off, rfl, hat⟩
      · subst h; simp at hr
      obtain ⟨p0, p1⟩ := hat k r hr
      have g : (k : Int) < n := by omega
      have HX : Hid (waitB r = false → q = 3) := fun h => HTM.out (waitsB_no hr h)
      have HY : Hid (waitB r = true → ∀ (j : Nat) x, j < k + 1 → l[j]? = some x → waitB x = true) := fun hx j x hj hjx => by
        by_cases e : j = k
        · subst e; rw [hr] at hjx; obtain rfl := Option.some.inj hjx; exact hx
        · exact HTT.out j x (by omega) hjx
      have C1 : Hid (∀ X, Calls Try.prog 50 #[.agg #[.int .i64 r.wi, .int .i64 r.du]] X fun e w' => e = .returned (.bool (waitB r)) ∧ Below X.heap.size X w') := HU.out r
      clear hat hr HTT
      generalize waitB r = wb at *
      generalize r.wi = ri at *
      generalize r.du = rd at *
      have bA : Below wr.heap.size wr (wr.alloc (.cells #[.int .i64 ri, .int .i64 rd] 40)) := (Below.refl _ _).alloc (Nat.le_refl _) _
      have HBA := hid11 bA
      clear bA
      go_wp2_with fail
      refine (C1.out _).mono ?_
      rintro e w2 ⟨rfl, hb2⟩
      have hb3 : Below wr.heap.size wr w2 := HBA.out.trans (hb2.mono HBA.out.size)
      have HS3 : Hid (Below w.heap.size w w2 ∧ D2 w2 w.heap.size (.int .i64 y) (.slice (some ⟨b, off, none⟩) n cap) ∧ D3 w2 (w.heap.size + 1) (.int .i64 s) (.int .i64 c) (.int .i64 t)) := ⟨HS2.out.1.trans (hb3.mono HS2.out.1.size), HS2.out.2.1.keep hb3, HS2.out.2.2.keep hb3⟩
      clear hb2 hb3 HBA HS2 p0 p1 C1
      cases wb
      · have HE : Hid (q = 3) := HX.out rfl
        clear HX HY
        go_wp2_with fail
        go_ret
        exact ⟨ret_int HE.out.symm, HS3.out.1⟩
      · have HT3 := hid11 (HY.out rfl)
        clear HX HY
        go_wp2_with fail
        go_roundw
        case rel => exact ⟨k + 1, by omega, by go_num, HT3.out, HS3.out⟩
        case measure => simp [intOf]; omega
    · have hTM : waitsB l = true := (waitsB_iff l).2 fun i x hx => HTT.out i x (by have := (List.getElem?_eq_some_iff.1 hx).1; have := HN.out; omega) hx
      have HSM2 : Hid (nodupW l = false → q = 6) := HSM.out hTM
      have HOK2 : Hid (nodupW l = true → q = 0) := HOK.out hTM
      have g : ¬ (k : Int) < n := by omega
      have e1 := HS2.out.2.1.c1
      clear hTM HTT HTM HSM HOK
      go_wp2_with fail
      refine (HTW.out _ (HI.out.keep HS2.out.1)).mono ?_
      rintro e w2 ⟨rfl, hb2⟩
      have HB2 : Hid (Below w.heap.size w w2) := HS2.out.1.trans (hb2.mono HS2.out.1.size)
      clear hb2 HS2 e1 HTW HI
      generalize nodupW l = nd at *
      cases nd
      · have HE : Hid (q = 6) := HSM2.out rfl
        clear HSM2 HOK2
        go_wp2_with fail
        go_ret
        exact ⟨ret_int HE.out.symm, HB2.out⟩
      · have HE : Hid (q = 0) := HOK2.out rfl
        clear HSM2 HOK2
        go_wp2_with fail
        go_ret
        exact ⟨ret_int HE.out.symm, HB2.out⟩
end Go.Proofs.Ytmgidcigihpbeaa
