/-
  The model's BreakerFault.
-/
import Derived.Test.YtmgidcigihpbeaaBrkPlain
import Derived.Lib.QuietBelow
import Derived.Deep.RegionWith
import Derived.BigQuiet
namespace Go.Proofs.Ytmgidcigihpbeaa
open Go.ChangeShapes Go.WideShapes Go.ChangeAt Go.RowKit Go.Sort
set_option maxRecDepth 100000 in
set_option maxHeartbeats 8000000 in
theorem specBrk_any (s t o : Int) (a : Option Addr) (cap : Nat) (l : List Mk) (w : World) (hi : MkIn w a l) :
    Calls Try.prog 29 #[.agg #[.int .i64 s, .int .i64 t, .int .i64 o, .slice a l.length cap]] w fun r w' => r = .returned (.int .i64 (brkC s t o l)) ∧ Below w.heap.size w w' := by
  have HT : Hid (∀ x lo hi w, Calls Try.prog 52 #[.int .i64 x, .int .i64 lo, .int .i64 hi] w fun r w' => r = .returned (.bool (inW lo hi x)) ∧ w' = w) := l1In_w
  have HU : Hid (∀ x w, Calls Try.prog 46 #[.int .i64 x] w fun r w' => r = .returned (.bool (timeB x)) ∧ w' = w) := l1Time_all
  have HI : Hid (MkIn w a l) := hi
  have HS : Hid (S4 (w.alloc (.cells #[.int .i64 s, .int .i64 t, .int .i64 o, .slice a l.length cap] 51)) w.heap.size (.int .i64 s) (.int .i64 t) (.int .i64 o) (.slice a l.length cap)) := S4.new _ _ _ _ _ _
  have HB : Hid (Below w.heap.size w (w.alloc (.cells #[.int .i64 s, .int .i64 t, .int .i64 o, .slice a l.length cap] 51))) := (Below.refl _ _).alloc (Nat.le_refl _) _
  clear hi
  cases h0 : inW 0 2 s
  · rw [brkC_head (by simp [brkHB, h0])]
    clear HI HS
    generalize l.length = n at *
    go_enter Try.func29, Try.ntmps29
    go_wp2_with fail
    refine (HT.out s 0 2 _).mono ?_
    rintro r w1 ⟨rfl, rfl⟩
    rw [h0]
    go_wp2_with fail
    go_ret
    exact ⟨rfl, HB.out⟩
  cases h1 : timeB t
  · rw [brkC_head (by simp [brkHB, h1])]
    clear HI HS
    generalize l.length = n at *
    go_enter Try.func29, Try.ntmps29
    go_wp2_with fail
    refine (HT.out s 0 2 _).mono ?_
    rintro r w1 ⟨rfl, rfl⟩
    rw [h0]
    go_wp2_with fail
    refine (HU.out t _).mono ?_
    rintro r w1 ⟨rfl, rfl⟩
    rw [h1]
    go_wp2_with fail
    go_ret
    exact ⟨rfl, HB.out⟩
  cases h2 : inW 0 5 o
  · rw [brkC_head (by simp [brkHB, h2])]
    clear HI HS
    generalize l.length = n at *
    go_enter Try.func29, Try.ntmps29
    go_wp2_with fail
    refine (HT.out s 0 2 _).mono ?_
    rintro r w1 ⟨rfl, rfl⟩
    rw [h0]
    go_wp2_with fail
    refine (HU.out t _).mono ?_
    rintro r w1 ⟨rfl, rfl⟩
    rw [h1]
    go_wp2_with fail
    refine (HT.out o 0 5 _).mono ?_
    rintro r w1 ⟨rfl, rfl⟩
    rw [h2]
    go_wp2_with fail
    go_ret
    exact ⟨rfl, HB.out⟩
  have hH : brkHB s t o = true := by simp [brkHB, h0, h1, h2]
  by_cases hm : 60 < l.length
  · rw [brkC_many hH hm]
    clear HI HS
    have hm' : (60 : Int) < (l.length : Int) := by omega
    generalize l.length = n at *
    go_enter Try.func29, Try.ntmps29
    go_wp2_with fail
    refine (HT.out s 0 2 _).mono ?_
    rintro r w1 ⟨rfl, rfl⟩
    rw [h0]
    go_wp2_with fail
    refine (HU.out t _).mono ?_
    rintro r w1 ⟨rfl, rfl⟩
    rw [h1]
    go_wp2_with fail
    refine (HT.out o 0 5 _).mono ?_
    rintro r w1 ⟨rfl, rfl⟩
    rw [h2]
    go_wp2_with fail
    go_ret
    exact ⟨rfl, HB.out⟩
  have HC : Hid (Hid (∀ c, brkC s t o l = c → brkC s t o l = c)) := fun _ h => h
  have HTM : Hid (timesM l = false → brkC s t o l = 3) := fun h => brkC_time hH hm h
  have HSM : Hid (timesM l = true → sortedM l = false → brkC s t o l = 1) := fun h h2 => brkC_form hH hm h h2
  have HST : Hid (timesM l = true → sortedM l = true → stateB s o l.length = false → brkC s t o l = 8) := fun h h2 h3 => brkC_state hH hm h h2 h3
  have HOK : Hid (timesM l = true → sortedM l = true → stateB s o l.length = true → brkC s t o l = 0) := fun h h2 h3 => brkC_ok hH hm h h2 h3
  have hm' : ¬ (60 : Int) < (l.length : Int) := by omega
  clear hm hH
  generalize hn : l.length = n at *
  have HN : Hid (l.length = n) := hn
  clear hn HC
  generalize brkC s t o l = c at *
  go_enter Try.func29, Try.ntmps29
  go_wp2_with fail
  refine (HT.out s 0 2 _).mono ?_
  rintro r w1 ⟨rfl, rfl⟩
  rw [h0]
  go_wp2_with fail
  refine (HU.out t _).mono ?_
  rintro r w1 ⟨rfl, rfl⟩
  rw [h1]
  go_wp2_with fail
  refine (HT.out o 0 5 _).mono ?_
  rintro r w1 ⟨rfl, rfl⟩
  rw [h2]
  go_wp2_with fail
  go_loopw [3] (fun i wr => ∃ k : Nat, k ≤ n ∧ i = .int .i64 k ∧ (∀ (j : Nat) x, j < k → l[j]? = some x → timeB x.tm = true) ∧ S4 wr w.heap.size (.int .i64 s) (.int .i64 t) (.int .i64 o) (.slice a n cap) ∧ Below w.heap.size w wr) (fun i _ => n - (intOf i).toNat)
  case atStart => exact ⟨0, Nat.zero_le _, rfl, fun j x h => by omega, HS.out, HB.out⟩
  case round =>
    obtain ⟨k, hk, rfl, ht, hS, hb⟩ := hrel
    have HTT : Hid (∀ (j : Nat) x, j < k → l[j]? = some x → timeB x.tm = true) := ht
    have HS2 : Hid (S4 wr w.heap.size (.int .i64 s) (.int .i64 t) (.int .i64 o) (.slice a n cap)) := hS
    obtain ⟨c0, c1, c2, c3, fr, _⟩ := hS
    clear ht HS HB
    by_cases hlt : k < n
    · obtain ⟨r, hr⟩ : ∃ r, l[k]? = some r := ⟨l[k]'(by have := HN.out; omega), List.getElem?_eq_getElem _⟩
      rcases (HI.out.keep hb) with h | ⟨b, off, rfl, hat⟩
      · subst h; simp at hr
      obtain ⟨p0, p1⟩ := hat k r hr
      have g : (k : Int) < n := by omega
      cases hx : timeB r.tm
      · have HE : Hid (c = 3) := HTM.out (timesM_no hr hx)
        clear hat hr HTM HSM HST HOK HI
        generalize r.tm = rt at *
        go_wp2_with fail
        refine (HU.out _ _).mono ?_
        rintro e w2 ⟨rfl, rfl⟩
        rw [hx]
        go_wp2_with fail
        go_ret
        exact ⟨ret_int HE.out.symm, hb⟩
      · have HT3 : Hid (∀ (j : Nat) x, j < k + 1 → l[j]? = some x → timeB x.tm = true) := by
          intro j x hj hjx
          by_cases e : j = k
          · subst e; rw [hr] at hjx; obtain rfl := Option.some.inj hjx; exact hx
          · exact HTT.out j x (by omega) hjx
        clear hat hr HTT HI
        generalize r.tm = rt at *
        go_wp2_with fail
        refine (HU.out _ _).mono ?_
        rintro e w2 ⟨rfl, rfl⟩
        rw [hx]
        go_wp2_with fail
        go_roundw
        case rel => exact ⟨k + 1, by omega, by go_num, HT3.out, HS2.out, hb⟩
        case measure => simp [intOf]; omega
    · have hTM : timesM l = true := (timesM_iff l).2 fun i x hx => HTT.out i x (by have := (List.getElem?_eq_some_iff.1 hx).1; have := HN.out; omega) hx
      have HSM2 : Hid (sortedM l = false → c = 1) := HSM.out hTM
      have HST2 : Hid (sortedM l = true → stateB s o n = false → c = 8) := HST.out hTM
      have HOK2 : Hid (sortedM l = true → stateB s o n = true → c = 0) := HOK.out hTM
      clear hTM HTT HTM HSM HST HOK
      go_wp2_with fail
      have HB3 : Hid (Below w.heap.size w wr) := hb
      clear hb c0 c1 c2 c3 fr
      go_loopw [4] (fun i wr => ∃ k : Nat, i = .int .i64 (k + 1 : Nat) ∧ k ≤ n ∧ (∀ (j : Nat) x y, j < k → l[j]? = some x → l[j + 1]? = some y → x.tm ≤ y.tm) ∧ S4 wr w.heap.size (.int .i64 s) (.int .i64 t) (.int .i64 o) (.slice a n cap) ∧ Below w.heap.size w wr) (fun i _ => n + 1 - (intOf i).toNat)
      case atStart => exact ⟨0, rfl, by omega, fun j x y h => by omega, HS2.out, HB3.out⟩
      case round =>
        obtain ⟨k, rfl, hk2, ht, hS, hb⟩ := hrel
        clear HS2 HB3
        have HTT : Hid (∀ (j : Nat) x y, j < k → l[j]? = some x → l[j + 1]? = some y → x.tm ≤ y.tm) := ht
        have HS2 : Hid (S4 wr w.heap.size (.int .i64 s) (.int .i64 t) (.int .i64 o) (.slice a n cap)) := hS
        obtain ⟨c0, c1, c2, c3, fr, lt0⟩ := hS
        clear ht
        by_cases hlt : k + 1 < n
        · obtain ⟨x, hx⟩ : ∃ r, l[k]? = some r := ⟨l[k]'(by have := HN.out; omega), List.getElem?_eq_getElem _⟩
          obtain ⟨y, hy⟩ : ∃ r, l[k + 1]? = some r := ⟨l[k + 1]'(by have := HN.out; omega), List.getElem?_eq_getElem _⟩
          rcases (HI.out.keep hb) with h | ⟨b, off, rfl, hat⟩
          · subst h; simp at hx
          obtain ⟨p0, _⟩ := hat k x hx
          obtain ⟨q0, _⟩ := hat (k + 1) y hy
          have P0 := cell_regrown p0
          have Q0 := cell_regrown q0
          have C3 := cell_regrown c3
          have g0 : (0 : Int) ≤ k := by omega
          have g : ((k + 1 : Nat) : Int) < n := by omega
          have g1 : (0 : Int) ≤ ((k + 1 : Nat) : Int) := by omega
          have g2 : IntKind.i64.wrap (((k + 1 : Nat) : Int) - 1) = (k : Int) := by rw [IntKind.wrap_i64]; omega
          have g3 : (((k + 1 : Nat) : Int) - 1) = (k : Int) := by omega
          have g4 : (k : Int) < n := by omega
          by_cases hxy : y.tm < x.tm
          · have HE : Hid (c = 1) := HSM2.out (sortedM_no hx hy hxy)
            clear hat hx hy p0 q0 HTT HSM2 HST2 HOK2 HI
            generalize x.tm = xt at *
            generalize y.tm = yt at *
            go_wp2_with fail
            refine wp_region_quiet_below (by kernel_rfl) (by kernel_rfl) ?_
            repeat (go_big_quiet_step (fail))
            refine wpQuiet_nil ?_
            intro w2 hw2
            have hbb : Below w.heap.size w w2 := by
              obtain ⟨⟨d, os⟩, rfl⟩ := hw2
              exact hb.trans ((below_regrown wr d os).mono hb.size)
            clear P0 Q0 C3 hw2 hb c0 c1 c2 c3 fr
            go_wp2_with fail
            go_ret
            exact ⟨ret_int HE.out.symm, hbb⟩
          · have HT3 : Hid (∀ (j : Nat) x y, j < k + 1 → l[j]? = some x → l[j + 1]? = some y → x.tm ≤ y.tm) := by
              intro j u v hj hju hjv
              by_cases e : j = k
              · subst e
                rw [hx] at hju; rw [hy] at hjv
                obtain rfl := Option.some.inj hju
                obtain rfl := Option.some.inj hjv
                omega
              · exact HTT.out j u v (by omega) hju hjv
            clear hat hx hy p0 q0 HTT HI
            generalize x.tm = xt at *
            generalize y.tm = yt at *
            go_wp2_with fail
            refine wp_region_quiet_below (by kernel_rfl) (by kernel_rfl) ?_
            repeat (go_big_quiet_step (fail))
            refine wpQuiet_nil ?_
            intro w2 hw2
            have hbb : Below w.heap.size w w2 ∧ S4 w2 w.heap.size (.int .i64 s) (.int .i64 t) (.int .i64 o) (.slice (some ⟨b, off, none⟩) n cap) := by
              obtain ⟨⟨d, os⟩, rfl⟩ := hw2
              exact ⟨hb.trans ((below_regrown wr d os).mono hb.size), HS2.out.keep (below_regrown wr d os)⟩
            have HBB : Hid (Below w.heap.size w w2 ∧ S4 w2 w.heap.size (.int .i64 s) (.int .i64 t) (.int .i64 o) (.slice (some ⟨b, off, none⟩) n cap)) := hbb
            clear P0 Q0 C3 hw2 hb c0 c1 c2 c3 fr hbb HS2
            go_wp2_with fail
            go_roundw
            case rel => exact ⟨k + 1, by go_num, by omega, HT3.out, HBB.out.2, HBB.out.1⟩
            case measure => simp [intOf]; omega
        · have hSM : sortedM l = true := (sortedM_iff l).2 fun i x y hx hy => HTT.out i x y (by have := (List.getElem?_eq_some_iff.1 hy).1; have := HN.out; omega) hx hy
          have HST3 : Hid (stateB s o n = false → c = 8) := HST2.out hSM
          have HOK3 : Hid (stateB s o n = true → c = 0) := HOK2.out hSM
          clear hSM HTT HSM2 HST2 HOK2 HS2 HI HN
          have g : ¬ ((k + 1 : Nat) : Int) < n := by omega
          have gn : decide ((0 : Int) < (n : Int)) = !decide (n = 0) := by by_cases e : n = 0 <;> simp [e] <;> omega
          by_cases e0 : s = 0
          · subst e0
            by_cases e1 : o = 0
            · subst e1
              have HE : Hid (c = 0) := HOK3.out (by simp [stateB])
              clear HOK3 HST3
              go_wp2_with fail
              go_ret
              exact ⟨ret_int HE.out.symm, hb⟩
            · have HE : Hid (c = 8) := HST3.out (by simp [stateB, e1])
              have n1 : (o != 0) = true := by simpa using e1
              clear HOK3 HST3
              go_wp2_with fail
              go_ret
              exact ⟨ret_int HE.out.symm, hb⟩
          · have n0 : (s != 0) = true := by simpa using e0
            by_cases en : n = 0
            · subst en
              by_cases e2 : s = 2
              · subst e2
                have HE : Hid (c = 0) := HOK3.out (by simp [stateB])
                clear HOK3 HST3
                go_wp2_with fail
                go_ret
                exact ⟨ret_int HE.out.symm, hb⟩
              · have n2 : (s != 2) = true := by simpa using e2
                by_cases e1 : o = 0
                · subst e1
                  have HE : Hid (c = 0) := HOK3.out (by simp [stateB])
                  clear HOK3 HST3
                  go_wp2_with fail
                  go_ret
                  exact ⟨ret_int HE.out.symm, hb⟩
                · have HE : Hid (c = 8) := HST3.out (by simp [stateB, e1, e2])
                  have n1 : (o != 0) = true := by simpa using e1
                  clear HOK3 HST3
                  go_wp2_with fail
                  go_ret
                  exact ⟨ret_int HE.out.symm, hb⟩
            · have HE : Hid (c = 8) := HST3.out (by simp [stateB, en, e0])
              have gp : (0 : Int) < (n : Int) := by omega
              have gp2 : decide ((0 : Int) < (n : Int)) = true := by simpa using gp
              clear HOK3 HST3
              go_wp2_with fail
              go_ret
              exact ⟨ret_int HE.out.symm, hb⟩
end Go.Proofs.Ytmgidcigihpbeaa
