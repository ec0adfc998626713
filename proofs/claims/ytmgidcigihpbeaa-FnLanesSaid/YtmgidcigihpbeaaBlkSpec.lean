/-
  BulkFault, by the model.
-/
import Derived.Test.YtmgidcigihpbeaaBlkPlain
import Derived.Lib.QuietBelow
import Derived.Deep.RegionWith
import Derived.BigQuiet
namespace Go.Proofs.Ytmgidcigihpbeaa
open Go.ChangeShapes Go.WideShapes Go.ChangeAt Go.RowKit Go.Sort
set_option maxRecDepth 100000 in
set_option maxHeartbeats 8000000 in
theorem specBlk_any (y : Int) (a : Option Addr) (cap : Nat) (l : List Wt) (s c t : Int) (w : World) (hi : WtIn w a l) :
    Calls Try.prog 12 #[.agg #[.int .i64 y, .slice a l.length cap], .agg #[.int .i64 s, .int .i64 c, .int .i64 t]] w fun r w' => r = .returned (.int .i64 (blkC y l s c t)) ∧ Below w.heap.size w w' := by
  have HU : Hid (∀ x w, Calls Try.prog 46 #[.int .i64 x] w fun r w' => r = .returned (.bool (timeB x)) ∧ w' = w) := l1Time_all
  obtain ⟨W, hW⟩ : ∃ W, W = ((w.alloc (.cells #[.int .i64 y, .slice a l.length cap] 26)).alloc (.cells #[.int .i64 s, .int .i64 c, .int .i64 t] 28)) := ⟨_, rfl⟩
  have HW : Hid (W = ((w.alloc (.cells #[.int .i64 y, .slice a l.length cap] 26)).alloc (.cells #[.int .i64 s, .int .i64 c, .int .i64 t] 28))) := hW
  have K0 : Hid (Below w.heap.size w W ∧ D2 W w.heap.size (.int .i64 y) (.slice a l.length cap) ∧ D3 W (w.heap.size + 1) (.int .i64 s) (.int .i64 c) (.int .i64 t)) := by
    have h2 := D3.new (w.alloc (.cells #[.int .i64 y, .slice a l.length cap] 26)) (.int .i64 s) (.int .i64 c) (.int .i64 t) 28
    rw [show (w.alloc (.cells #[.int .i64 y, .slice a l.length cap] 26)).heap.size = w.heap.size + 1 by simp] at h2
    rw [hW]
    exact ⟨((Below.refl _ _).alloc (Nat.le_refl _) _).alloc (by simp) _, (D2.new w _ _ _).keep ((Below.refl _ _).alloc (Nat.le_refl _) _), h2⟩
  have HL : Hid (∀ X, Calls Try.prog 14 #[.agg #[.int .i64 s, .int .i64 c, .int .i64 t]] X fun r w' => r = .returned (.int .i64 (lanesC s c t)) ∧ Below X.heap.size X w') := specLanes_any s c t
  have HT : Hid (∀ x lo hi w, Calls Try.prog 52 #[.int .i64 x, .int .i64 lo, .int .i64 hi] w fun r w' => r = .returned (.bool (inW lo hi x)) ∧ w' = w) := l1In_w
  have HI : Hid (WtIn w a l) := hi
  clear hi hW
  cases h0 : lanesB s c t
  · rw [blkC_lanes h0]
    rw [lanesC_bad h0] at HL
    clear HI
    generalize l.length = n at *
    go_enter Try.func12, Try.ntmps12
    go_wp2_with fail
    rw [← HW.out]
    refine (HL.out _).mono ?_
    rintro r w1 ⟨rfl, hb1⟩
    have K1 : Hid (Below w.heap.size w w1 ∧ D2 w1 w.heap.size (.int .i64 y) (.slice a n cap) ∧ D3 w1 (w.heap.size + 1) (.int .i64 s) (.int .i64 c) (.int .i64 t)) := ⟨K0.out.1.trans (hb1.mono K0.out.1.size), K0.out.2.1.keep hb1, K0.out.2.2.keep hb1⟩
    clear K0 hb1 HW HL
    obtain ⟨e0, e1, ef, _⟩ := K1.out.2.1
    obtain ⟨f0, f1, f2, ff, _⟩ := K1.out.2.2
    go_wp2_with fail
    go_ret
    exact ⟨rfl, K1.out.1⟩
  rw [lanesC_ok h0] at HL
  cases h1 : inW 0 s y
  · rw [blkC_busy h0 h1]
    clear HI
    generalize l.length = n at *
    go_enter Try.func12, Try.ntmps12
    go_wp2_with fail
    rw [← HW.out]
    refine (HL.out _).mono ?_
    rintro r w1 ⟨rfl, hb1⟩
    have K1 : Hid (Below w.heap.size w w1 ∧ D2 w1 w.heap.size (.int .i64 y) (.slice a n cap) ∧ D3 w1 (w.heap.size + 1) (.int .i64 s) (.int .i64 c) (.int .i64 t)) := ⟨K0.out.1.trans (hb1.mono K0.out.1.size), K0.out.2.1.keep hb1, K0.out.2.2.keep hb1⟩
    clear K0 hb1 HW HL
    obtain ⟨e0, e1, ef, _⟩ := K1.out.2.1
    obtain ⟨f0, f1, f2, ff, _⟩ := K1.out.2.2
    go_wp2_with fail
    refine (HT.out y 0 s _).mono ?_
    rintro r w2 ⟨rfl, rfl⟩
    rw [h1]
    go_wp2_with fail
    go_ret
    exact ⟨rfl, K1.out.1⟩
  by_cases h2 : c < (l.length : Int)
  · rw [blkC_many h0 h1 h2]
    clear HI
    generalize l.length = n at *
    go_enter Try.func12, Try.ntmps12
    go_wp2_with fail
    rw [← HW.out]
    refine (HL.out _).mono ?_
    rintro r w1 ⟨rfl, hb1⟩
    have K1 : Hid (Below w.heap.size w w1 ∧ D2 w1 w.heap.size (.int .i64 y) (.slice a n cap) ∧ D3 w1 (w.heap.size + 1) (.int .i64 s) (.int .i64 c) (.int .i64 t)) := ⟨K0.out.1.trans (hb1.mono K0.out.1.size), K0.out.2.1.keep hb1, K0.out.2.2.keep hb1⟩
    clear K0 hb1 HW HL
    obtain ⟨e0, e1, ef, _⟩ := K1.out.2.1
    obtain ⟨f0, f1, f2, ff, _⟩ := K1.out.2.2
    go_wp2_with fail
    refine (HT.out y 0 s _).mono ?_
    rintro r w2 ⟨rfl, rfl⟩
    rw [h1]
    go_wp2_with fail
    go_ret
    exact ⟨rfl, K1.out.1⟩
  have HTM : Hid (waitsB l = false → blkC y l s c t = 3) := fun h => blkC_range h0 h1 h2 h
  have HSM : Hid (waitsB l = true → nodupW l = false → blkC y l s c t = 6) := fun h h3 => blkC_taken h0 h1 h2 h h3
  have HOK : Hid (waitsB l = true → nodupW l = true → blkC y l s c t = 0) := fun h h3 => blkC_ok h0 h1 h2 h h3
  have hl8 : l.length ≤ 8 := by have := (lanesB_of h0).2.1; omega
  generalize hn : l.length = n at *
  have HN : Hid (l.length = n) := hn
  clear hn
  generalize blkC y l s c t = q at *
  go_enter Try.func12, Try.ntmps12
  go_wp2_with fail
  rw [← HW.out]
  refine (HL.out _).mono ?_
  rintro r w1 ⟨rfl, hb1⟩
  have K1 : Hid (Below w.heap.size w w1 ∧ D2 w1 w.heap.size (.int .i64 y) (.slice a n cap) ∧ D3 w1 (w.heap.size + 1) (.int .i64 s) (.int .i64 c) (.int .i64 t)) := ⟨K0.out.1.trans (hb1.mono K0.out.1.size), K0.out.2.1.keep hb1, K0.out.2.2.keep hb1⟩
  clear K0 hb1 HW HL
  obtain ⟨e0, e1, ef, _⟩ := K1.out.2.1
  obtain ⟨f0, f1, f2, ff, _⟩ := K1.out.2.2
  go_wp2_with fail
  refine (HT.out y 0 s _).mono ?_
  rintro r w2 ⟨rfl, rfl⟩
  rw [h1]
  go_wp2_with fail
  clear e0 e1 ef f0 f1 f2 ff h0 h1 h2
  go_loopw [6] (fun i wr => ∃ k : Nat, k ≤ n ∧ i = .int .i64 k ∧ (∀ (j : Nat) x, j < k → l[j]? = some x → waitB x = true) ∧ Below w.heap.size w wr ∧ D2 wr w.heap.size (.int .i64 y) (.slice a n cap) ∧ D3 wr (w.heap.size + 1) (.int .i64 s) (.int .i64 c) (.int .i64 t)) (fun i _ => n - (intOf i).toNat)
  case atStart => exact ⟨0, Nat.zero_le _, rfl, fun j x h => by omega, K1.out⟩
  case round =>
    obtain ⟨k, hk, rfl, ht, hS⟩ := hrel
    have HTT : Hid (∀ (j : Nat) x, j < k → l[j]? = some x → waitB x = true) := ht
    have HS2 : Hid (Below w.heap.size w wr ∧ D2 wr w.heap.size (.int .i64 y) (.slice a n cap) ∧ D3 wr (w.heap.size + 1) (.int .i64 s) (.int .i64 c) (.int .i64 t)) := hS
    clear ht hS K1
    obtain ⟨e0, e1, ef, _⟩ := HS2.out.2.1
    by_cases hlt : k < n
    · obtain ⟨r, hr⟩ : ∃ r, l[k]? = some r := ⟨l[k]'(by have := HN.out; omega), List.getElem?_eq_getElem _⟩
      rcases (HI.out.keep HS2.out.1) with h | ⟨b, off, rfl, hat⟩
      · subst h; simp at hr
      obtain ⟨p0, p1⟩ := hat k r hr
      have g : (k : Int) < n := by omega
      have HX : Hid (waitB r = false → q = 3) := fun h => HTM.out (waitsB_no hr h)
      have HY : Hid (waitB r = true → ∀ (j : Nat) x, j < k + 1 → l[j]? = some x → waitB x = true) := fun hx j x hj hjx => by
        by_cases e : j = k
        · subst e; rw [hr] at hjx; obtain rfl := Option.some.inj hjx; exact hx
        · exact HTT.out j x (by omega) hjx
      have hwb : waitB r = (timeB r.wi && timeB r.du) := rfl
      clear hat hr HTT
      generalize waitB r = wb at *
      generalize r.wi = ri at *
      generalize r.du = rd at *
      cases hx1 : timeB ri
      · have HE : Hid (q = 3) := HX.out (by rw [hwb, hx1]; rfl)
        clear HX HY hwb
        go_wp2_with fail
        refine (HU.out _ _).mono ?_
        rintro e w2 ⟨rfl, rfl⟩
        rw [hx1]
        go_wp2_with fail
        go_ret
        exact ⟨ret_int HE.out.symm, HS2.out.1⟩
      · cases hx2 : timeB rd
        · have HE : Hid (q = 3) := HX.out (by rw [hwb, hx1, hx2]; rfl)
          clear HX HY hwb
          go_wp2_with fail
          refine (HU.out _ _).mono ?_
          rintro e w2 ⟨rfl, rfl⟩
          rw [hx1]
          go_wp2_with fail
          refine (HU.out _ _).mono ?_
          rintro e w2 ⟨rfl, rfl⟩
          rw [hx2]
          go_wp2_with fail
          go_ret
          exact ⟨ret_int HE.out.symm, HS2.out.1⟩
        · have HT3 := hid11 (HY.out (by rw [hwb, hx1, hx2]; rfl))
          clear HX HY hwb
          go_wp2_with fail
          refine (HU.out _ _).mono ?_
          rintro e w2 ⟨rfl, rfl⟩
          rw [hx1]
          go_wp2_with fail
          refine (HU.out _ _).mono ?_
          rintro e w2 ⟨rfl, rfl⟩
          rw [hx2]
          go_wp2_with fail
          go_roundw
          case rel => exact ⟨k + 1, by omega, by go_num, HT3.out, HS2.out⟩
          case measure => simp [intOf]; omega
    · have hTM : waitsB l = true := (waitsB_iff l).2 fun i x hx => HTT.out i x (by have := (List.getElem?_eq_some_iff.1 hx).1; have := HN.out; omega) hx
      have HSM2 : Hid (nodupW l = false → q = 6) := HSM.out hTM
      have HOK2 : Hid (nodupW l = true → q = 0) := HOK.out hTM
      clear hTM HTT HTM HSM HOK
      go_wp2_with fail
      clear e0 e1 ef
      go_loopw [7] (fun i wr => ∃ k : Nat, k ≤ n ∧ i = .int .i64 k ∧ (∀ (i j : Nat) x y, i < k → j < i → l[i]? = some x → l[j]? = some y → x.wi ≠ y.wi) ∧ Below w.heap.size w wr ∧ D2 wr w.heap.size (.int .i64 y) (.slice a n cap) ∧ D3 wr (w.heap.size + 1) (.int .i64 s) (.int .i64 c) (.int .i64 t)) (fun i _ => n - (intOf i).toNat)
      case atStart => exact ⟨0, Nat.zero_le _, rfl, fun i j x y h => by omega, HS2.out⟩
      case round =>
        obtain ⟨k, hk2, rfl, ht, hS⟩ := hrel
        clear HS2
        have HTT : Hid (∀ (i j : Nat) x y, i < k → j < i → l[i]? = some x → l[j]? = some y → x.wi ≠ y.wi) := ht
        have HS3 : Hid (Below w.heap.size w wr ∧ D2 wr w.heap.size (.int .i64 y) (.slice a n cap) ∧ D3 wr (w.heap.size + 1) (.int .i64 s) (.int .i64 c) (.int .i64 t)) := hS
        clear ht hS
        obtain ⟨e0, e1, ef, _⟩ := HS3.out.2.1
        by_cases hlt : k < n
        · have g : (k : Int) < n := by omega
          go_wp2_with fail
          clear e0 e1 ef
          go_loopw [8] (fun i wr => ∃ m : Nat, m ≤ k ∧ i = .int .i64 m ∧ (∀ (j : Nat) x y, j < m → l[k]? = some x → l[j]? = some y → x.wi ≠ y.wi) ∧ Below w.heap.size w wr ∧ D2 wr w.heap.size (.int .i64 y) (.slice a n cap) ∧ D3 wr (w.heap.size + 1) (.int .i64 s) (.int .i64 c) (.int .i64 t)) (fun i _ => k - (intOf i).toNat)
          case atStart => exact ⟨0, Nat.zero_le _, rfl, fun j x y h => by omega, HS3.out⟩
          case round =>
            obtain ⟨m, hm, rfl, ht, hS⟩ := hrel
            clear HS3
            have HTU : Hid (∀ (j : Nat) x y, j < m → l[k]? = some x → l[j]? = some y → x.wi ≠ y.wi) := ht
            have HS4 : Hid (Below w.heap.size w wr ∧ D2 wr w.heap.size (.int .i64 y) (.slice a n cap) ∧ D3 wr (w.heap.size + 1) (.int .i64 s) (.int .i64 c) (.int .i64 t)) := hS
            clear ht hS
            by_cases hmk : m < k
            · obtain ⟨x, hx⟩ : ∃ r, l[k]? = some r := ⟨l[k]'(by have := HN.out; omega), List.getElem?_eq_getElem _⟩
              obtain ⟨z, hz⟩ : ∃ r, l[m]? = some r := ⟨l[m]'(by have := HN.out; omega), List.getElem?_eq_getElem _⟩
              rcases (HI.out.keep HS4.out.1) with h | ⟨b, off, rfl, hat⟩
              · subst h; simp at hx
              obtain ⟨p0, _⟩ := hat k x hx
              obtain ⟨q0, _⟩ := hat m z hz
              have P0 := cell_regrown p0
              have Q0 := cell_regrown q0
              have C1 := cell_regrown HS4.out.2.1.c1
              have g1 : (m : Int) < k := by omega
              have g2 : (m : Int) < n := by omega
              have g3 : (0 : Int) ≤ k := by omega
              have g4 : (0 : Int) ≤ m := by omega
              by_cases hxz : x.wi = z.wi
              · have HE : Hid (q = 6) := HSM2.out (nodupW_no hmk hx hz hxz)
                clear hat hx hz p0 q0 HTT HTU HSM2 HOK2 HI
                rw [hxz] at P0
                clear hxz
                generalize z.wi = xt at *
                go_wp2_with fail
                refine wp_region_quiet_below (by kernel_rfl) (by kernel_rfl) ?_
                repeat (go_big_quiet_step (fail))
                refine wpQuiet_nil ?_
                intro w2 hw2
                have hbb : Below w.heap.size w w2 := by
                  obtain ⟨⟨d, os⟩, rfl⟩ := hw2
                  exact HS4.out.1.trans ((below_regrown wr d os).mono HS4.out.1.size)
                clear P0 Q0 C1 hw2
                go_wp2_with fail
                go_ret
                exact ⟨ret_int HE.out.symm, hbb⟩
              · have HT3 : Hid (∀ (j : Nat) x y, j < m + 1 → l[k]? = some x → l[j]? = some y → x.wi ≠ y.wi) := by
                  intro j u v hj hju hjv
                  by_cases e : j = m
                  · subst e
                    rw [hx] at hju; rw [hz] at hjv
                    obtain rfl := Option.some.inj hju
                    obtain rfl := Option.some.inj hjv
                    exact hxz
                  · exact HTU.out j u v (by omega) hju hjv
                have hne : (x.wi == z.wi) = false := by simpa using hxz
                clear hat hx hz p0 q0 HTU
                generalize x.wi = xt at *
                generalize z.wi = yt at *
                go_wp2_with fail
                refine wp_region_quiet_below (by kernel_rfl) (by kernel_rfl) ?_
                repeat (go_big_quiet_step (fail))
                refine wpQuiet_nil ?_
                intro w2 hw2
                have hbb : Below w.heap.size w w2 ∧ D2 w2 w.heap.size (.int .i64 y) (.slice (some ⟨b, off, none⟩) n cap) ∧ D3 w2 (w.heap.size + 1) (.int .i64 s) (.int .i64 c) (.int .i64 t) := by
                  obtain ⟨⟨d, os⟩, rfl⟩ := hw2
                  exact ⟨HS4.out.1.trans ((below_regrown wr d os).mono HS4.out.1.size), HS4.out.2.1.keep (below_regrown wr d os), HS4.out.2.2.keep (below_regrown wr d os)⟩
                have HBB := hid11 hbb
                clear P0 Q0 C1 hw2 hbb
                go_wp2_with fail
                go_roundw
                case rel => exact ⟨m + 1, by omega, by go_num, HT3.out, HBB.out⟩
                case measure => simp [intOf]; omega
            · have HT4 : Hid (∀ (i j : Nat) x y, i < k + 1 → j < i → l[i]? = some x → l[j]? = some y → x.wi ≠ y.wi) := by
                intro i j x y hik hji hx hy
                by_cases e : i = k
                · subst e; exact HTU.out j x y (by omega) hx hy
                · exact HTT.out i j x y (by omega) hji hx hy
              have gm : ¬ (m : Int) < k := by omega
              clear HTU HTT
              go_wp2_with fail
              go_roundw
              case rel => exact ⟨k + 1, by omega, by go_num, HT4.out, HS4.out⟩
              case measure => simp [intOf]; omega
        · have HE : Hid (q = 0) := HOK2.out ((nodupW_iff l).2 fun i j x y hji hx hy => HTT.out i j x y (by have := (List.getElem?_eq_some_iff.1 hx).1; have := HN.out; omega) hji hx hy)
          have g : ¬ (k : Int) < n := by omega
          clear HTT HSM2 HOK2
          go_wp2_with fail
          go_ret
          exact ⟨ret_int HE.out.symm, HS3.out.1⟩
end Go.Proofs.Ytmgidcigihpbeaa
