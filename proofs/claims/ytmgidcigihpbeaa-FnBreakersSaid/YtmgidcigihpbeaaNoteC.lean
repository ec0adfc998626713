/-
  Which outcomes count, and whether they are too bad, by the program.
-/
import Derived.Test.YtmgidcigihpbeaaNoteP
import Derived.Test.YtmgidcigihpbeaaCondI
import Derived.Lib.QuietBelow
import Derived.BigQuiet
namespace Go.Proofs.Ytmgidcigihpbeaa
open Go.ChangeShapes Go.WideShapes Go.ChangeAt Go.RowKit Go.Sort
def CntR (w : World) (base : Nat) (l : List Mk) (e : Ending) : Prop := ∃ v, e = .returned v ∧ OwnMk w base v l
theorem CntR.mk {w : World} {base : Nat} {l m : List Mk} {v : Value} (h : OwnMk w base v m) (e : l = m) : CntR w base l (.returned v) := ⟨v, rfl, by rw [e]; exact h⟩
set_option maxRecDepth 100000 in
set_option maxHeartbeats 8000000 in
theorem counting_any (w : World) (a : Option Addr) (cap : Nat) (l : List Mk) (a0 now : Int) (hl : l.length ≤ 60) (hi : MkIn w a l) (h0 : 0 ≤ a0 ∧ a0 ≤ 1000000) (hts : ∀ (i : Nat) x, l[i]? = some x → 0 ≤ x.tm ∧ x.tm ≤ 1000000000000000) :
    Calls Try.prog 96 #[.slice a l.length cap, .int .i64 a0, .int .i64 now] w fun e w' => CntR w' w.heap.size (cntL a0 now l) e ∧ Below w.heap.size w w' := by
  have HI : Hid (MkIn w a l) := hi
  have HTS : Hid (∀ (i : Nat) x, l[i]? = some x → 0 ≤ x.tm ∧ x.tm ≤ 1000000000000000) := hts
  have HP : Hid (∀ x w, 0 ≤ x → x ≤ 1000000000000000 → Calls Try.prog 44 #[.int .i64 x, .int .i64 a0] w fun r w' => r = .returned (.int .i64 (addT x a0)) ∧ w' = w) := fun x w h1 h2 => plus_all x a0 ⟨h1, h2⟩ ⟨h0.1, by omega⟩ w
  clear hi hts h0
  obtain ⟨n, hn⟩ : ∃ n, l.length = n := ⟨_, rfl⟩
  rw [hn] at hl ⊢
  have HN : Hid (l.length = n) := hn
  clear hn
  go_enter Try.func96, Try.ntmps96
  go_wp2_with fail
  go_loopw [7, 12] (fun v i wr => ∃ k : Nat, k ≤ n ∧ i = .int .i64 k ∧ OwnMk wr w.heap.size v (cntL a0 now (l.take k)) ∧ Below w.heap.size w wr) (fun _ i _ => n - (intOf i).toNat)
  case atStart => exact ⟨0, Nat.zero_le _, rfl, OwnMk.none0 _ _, Below.refl _ _⟩
  case round =>
    obtain ⟨k, hk, rfl, ho, hb⟩ := hrel
    by_cases hlt : k < n
    · obtain ⟨r, hr⟩ : ∃ r, l[k]? = some r := ⟨l[k]'(by have := HN.out; omega), List.getElem?_eq_getElem _⟩
      rcases (HI.out.keep hb) with h | ⟨b, off, rfl, hat⟩
      · subst h; simp at hr
      obtain ⟨p0, p1⟩ := hat k r hr
      obtain ⟨t0, t1⟩ := HTS.out k r hr
      have CP := HP.out r.tm
      have HX := cntL_take a0 now hr
      have hcl : (cntL a0 now (l.take k)).length ≤ 60 := by have := cntL_le a0 now (l.take k); have := List.length_take_le k l; have := HN.out; simp at *; omega
      have gk : (k : Int) < n := by omega
      obtain ⟨X, hX⟩ : ∃ X, X = wr.alloc (.cells #[.int .i64 r.tm, .bool r.gd] 112) := ⟨_, rfl⟩
      have HXW : Hid (X = wr.alloc (.cells #[.int .i64 r.tm, .bool r.gd] 112)) := hX
      have bX : Below wr.heap.size wr X := by rw [hX]; exact (Below.refl _ _).alloc (Nat.le_refl _) _
      have HO : Hid (OwnMk X w.heap.size u7 (cntL a0 now (l.take k)) ∧ Below w.heap.size w X) := ⟨ho.below bX, hb.trans (bX.mono hb.size)⟩
      have HRR : Hid (∀ y : List Mk, y ++ [r] = y ++ [(⟨r.tm, r.gd⟩ : Mk)]) := fun y => rfl
      have hbs := hb.size
      clear hr hat ho hb HI hX bX
      cases hc : cntB a0 now r
      · rw [hc] at HX
        have HF : Hid (cntL a0 now (l.take (k + 1)) = cntL a0 now (l.take k)) := by show _ = _; rw [HX]; simp
        have gx : ¬ now < addT r.tm a0 := by simpa [cntB] using hc
        clear HX hc
        generalize hz : addT r.tm a0 = z at *
        clear hz
        generalize r.tm = rt at *
        generalize r.gd = rg at *
        go_wp2_with fail
        refine (CP _ t0 t1).mono ?_
        rintro e w2 ⟨rfl, rfl⟩
        go_wp2_with fail
        rw [← HXW.out]
        go_roundw
        case rel => exact ⟨k + 1, by omega, by go_num, by rw [HF.out]; exact HO.out.1, HO.out.2⟩
        case measure => simp [intOf]; omega
      · rw [hc] at HX
        have HF : Hid (cntL a0 now (l.take (k + 1)) = cntL a0 now (l.take k) ++ [(⟨r.tm, r.gd⟩ : Mk)]) := by show _ = _; rw [HX]; simp
        have gx : now < addT r.tm a0 := by simpa [cntB] using hc
        have hXs : w.heap.size ≤ X.heap.size := HO.out.2.size
        clear HX hc HRR
        generalize hz : addT r.tm a0 = z at *
        clear hz
        generalize r.tm = rt at *
        generalize r.gd = rg at *
        generalize cntL a0 now (l.take k) = Lk at *
        go_wp2_with fail
        refine (CP _ t0 t1).mono ?_
        rintro e w2 ⟨rfl, rfl⟩
        go_wp2_with (at_builtin; rw [← HXW.out]; refine wpList_append1Mk X rfl (.tmp 22) (.tmp 24) rfl w.heap.size _ Lk ⟨rt, rg⟩ rfl (by simp [go_sem, HXW.out]) HO.out.1 (by omega) hXs ?_; intro v4 w4 ho4 hb4 hg4)
        go_roundw
        case rel => exact ⟨k + 1, by omega, by go_num, by rw [HF.out]; exact ho4, HO.out.2.trans hb4⟩
        case measure => simp [intOf]; omega
    · have HF : Hid (cntL a0 now l = cntL a0 now (l.take k)) := by
        show _ = _
        rw [List.take_of_length_le (by have := HN.out; omega)]
      have HO : Hid (OwnMk wr w.heap.size u7 (cntL a0 now (l.take k))) := ho
      clear ho HI HTS HP
      go_wp2_with fail
      go_ret
      exact ⟨CntR.mk HO.out HF.out, hb⟩
set_option maxRecDepth 100000 in
set_option maxHeartbeats 8000000 in
theorem tooBad_any (w : World) (a : Option Addr) (cap : Nat) (l : List Mk) (a0 a1 a2 a3 a4 : Int) (hl : l.length ≤ 61) (hi : MkIn w a l) (h2 : 1 ≤ a2 ∧ a2 ≤ 1000) :
    Calls Try.prog 97 #[.slice a l.length cap, .agg #[.int .i64 a0, .int .i64 a1, .int .i64 a2, .int .i64 a3, .int .i64 a4]] w fun e w' => e = .returned (.bool (tooB l a1 a2)) ∧ Below w.heap.size w w' := by
  have mr := mul_room h2 (show l.length ≤ 100 by omega)
  have bl := badM_le l
  have w1 : IntKind.i64.wrap (1000 * (badM l : Int)) = 1000 * (badM l : Int) := by rw [IntKind.wrap_i64]; omega
  have w2 : IntKind.i64.wrap (a2 * (l.length : Int)) = a2 * (l.length : Int) := by rw [IntKind.wrap_i64]; omega
  obtain ⟨W, hW⟩ : ∃ W, W = w.alloc (.cells #[.int .i64 a0, .int .i64 a1, .int .i64 a2, .int .i64 a3, .int .i64 a4] 53) := ⟨_, rfl⟩
  have HW : Hid (W = w.alloc (.cells #[.int .i64 a0, .int .i64 a1, .int .i64 a2, .int .i64 a3, .int .i64 a4] 53)) := hW
  have bW : Below w.heap.size w W := by rw [hW]; exact (Below.refl _ _).alloc (Nat.le_refl _) _
  have f5 : S5 W w.heap.size (.int .i64 a0) (.int .i64 a1) (.int .i64 a2) (.int .i64 a3) (.int .i64 a4) := by rw [hW]; exact S5.new _ _ _ _ _ _ _
  have cB : ∀ d os, Calls Try.prog 75 #[.slice a l.length cap] (grow (redrawn W d) os) fun e w'' => e = .returned (.int .i64 (badM l : Int)) ∧ ∃ p : Regrown, w'' = grow (redrawn W p.d) p.os := fun d os => Calls.regrown_of (implBad_any _ a cap l (by omega) ((hi.keep bW).keep (below_regrown W d os)))
  have D1 := cell_regrown f5.c1
  have D2 := cell_regrown f5.c2
  have HBW : Hid (Below w.heap.size w W) := bW
  have HT : Hid (tooB l a1 a2 = (decide (a1 ≤ (l.length : Int)) && decide (a2 * (l.length : Int) ≤ 1000 * (badM l : Int)))) := rfl
  clear hi hW bW f5 bl mr
  generalize tooB l a1 a2 = tb at *
  generalize (badM l : Int) = bm at *
  generalize hnn : l.length = n at *
  have HNX : Hid (a2 * (n : Int) = a2 * (n : Int)) := rfl
  by_cases g1 : a1 ≤ (n : Int)
  · have d1 : decide (a1 ≤ (n : Int)) = true := by simpa using g1
    by_cases g2 : a2 * (n : Int) ≤ 1000 * bm
    · have HE : Hid (tb = true) := by show _ = _; rw [HT.out, d1]; simpa using g2
      have d2 : decide (a2 * (n : Int) ≤ 1000 * bm) = true := by simpa using g2
      clear HT
      go_enter Try.func97, Try.ntmps97
      go_wp2_with fail
      rw [← HW.out]
      refine wp_region_quiet_below (by kernel_rfl) (by kernel_rfl) ?_
      repeat (go_big_quiet_step ((go_at_call 75; exact cB _ _)))
      refine wpQuiet_nil ?_
      intro wq hwq
      have hbb : Below w.heap.size w wq := by
        obtain ⟨⟨d, os⟩, rfl⟩ := hwq
        exact HBW.out.trans ((below_regrown W d os).mono HBW.out.size)
      clear D1 D2 cB hwq HW
      go_wp2_with fail
      go_ret
      exact ⟨ret_bool HE.out.symm, hbb⟩
    · have HE : Hid (tb = false) := by show _ = _; rw [HT.out, d1]; simpa using g2
      have d2 : decide (a2 * (n : Int) ≤ 1000 * bm) = false := by simpa using g2
      clear HT
      go_enter Try.func97, Try.ntmps97
      go_wp2_with fail
      rw [← HW.out]
      refine wp_region_quiet_below (by kernel_rfl) (by kernel_rfl) ?_
      repeat (go_big_quiet_step ((go_at_call 75; exact cB _ _)))
      refine wpQuiet_nil ?_
      intro wq hwq
      have hbb : Below w.heap.size w wq := by
        obtain ⟨⟨d, os⟩, rfl⟩ := hwq
        exact HBW.out.trans ((below_regrown W d os).mono HBW.out.size)
      clear D1 D2 cB hwq HW
      go_wp2_with fail
      go_ret
      exact ⟨ret_bool HE.out.symm, hbb⟩
  · have HE : Hid (tb = false) := by show _ = _; rw [HT.out]; simp [g1]
    have d1 : decide (a1 ≤ (n : Int)) = false := by simpa using g1
    clear HT
    go_enter Try.func97, Try.ntmps97
    go_wp2_with fail
    rw [← HW.out]
    refine wp_region_quiet_below (by kernel_rfl) (by kernel_rfl) ?_
    repeat (go_big_quiet_step ((go_at_call 75; exact cB _ _)))
    refine wpQuiet_nil ?_
    intro wq hwq
    have hbb : Below w.heap.size w wq := by
      obtain ⟨⟨d, os⟩, rfl⟩ := hwq
      exact HBW.out.trans ((below_regrown W d os).mono HBW.out.size)
    clear D1 D2 cB hwq HW
    go_wp2_with fail
    go_ret
    exact ⟨ret_bool HE.out.symm, hbb⟩
end Go.Proofs.Ytmgidcigihpbeaa
