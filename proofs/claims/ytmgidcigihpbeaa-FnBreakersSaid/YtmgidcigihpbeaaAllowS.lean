/-
  AllowFetch, by the model.
-/
import Derived.Test.YtmgidcigihpbeaaAllowP
import Derived.Lib.QuietBelow
import Derived.BigQuiet
namespace Go.Proofs.Ytmgidcigihpbeaa
open Go.ChangeShapes Go.WideShapes Go.ChangeAt Go.RowKit Go.Sort
def CopyR (w : World) (base : Nat) (s t o : Int) (l : List Mk) (e : Ending) : Prop := ∃ a c, e = .returned (.agg #[.int .i64 s, .int .i64 t, .int .i64 o, .slice a l.length c]) ∧ MkNew w base (.slice a l.length c) l
set_option maxRecDepth 100000 in
set_option maxHeartbeats 4000000 in
theorem specCopy_any (w : World) (B : Nat) (s t o : Int) (a : Option Addr) (cap : Nat) (l : List Mk) (hl : l.length ≤ 1048576) (hB : S4 w B (.int .i64 s) (.int .i64 t) (.int .i64 o) (.slice a l.length cap)) (hi : MkIn w a l) :
    Calls Try.prog 66 #[.pointer (some ⟨B, 0, none⟩)] w fun e w' => CopyR w' w.heap.size s t o l e ∧ Below w.heap.size w w' := by
  obtain ⟨W, hW⟩ : ∃ W, W = ((w.alloc (.cells #[.int .i64 0, .int .i64 0, .int .i64 0, .slice none 0 0] 51)).alloc (.cells #[.int .i64 s, .int .i64 t, .int .i64 o, .slice a l.length cap] 51)) := ⟨_, rfl⟩
  have HW : Hid (W = ((w.alloc (.cells #[.int .i64 0, .int .i64 0, .int .i64 0, .slice none 0 0] 51)).alloc (.cells #[.int .i64 s, .int .i64 t, .int .i64 o, .slice a l.length cap] 51))) := hW
  have bW : Below w.heap.size w W := by rw [hW]; exact ((Below.refl _ _).alloc (Nat.le_refl _) _).alloc (by simp) _
  have hsz : W.heap.size = w.heap.size + 2 := by rw [hW]; simp
  have f0 : S4 W w.heap.size (.int .i64 0) (.int .i64 0) (.int .i64 0) (.slice none 0 0) := by rw [hW]; exact (S4.new w _ _ _ _ _).keep ((Below.refl _ _).alloc (Nat.le_refl _) _)
  have f1 : S4 W (w.heap.size + 1) (.int .i64 s) (.int .i64 t) (.int .i64 o) (.slice a l.length cap) := by
    have := S4.new (w.alloc (.cells #[.int .i64 0, .int .i64 0, .int .i64 0, .slice none 0 0] 51)) (.int .i64 s) (.int .i64 t) (.int .i64 o) (.slice a l.length cap) 51
    rw [hW]; simpa using this
  have K0 : Hid (Below w.heap.size w W ∧ W.heap.size = w.heap.size + 2 ∧ S4 W w.heap.size (.int .i64 0) (.int .i64 0) (.int .i64 0) (.slice none 0 0) ∧ S4 W (w.heap.size + 1) (.int .i64 s) (.int .i64 t) (.int .i64 o) (.slice a l.length cap)) := ⟨bW, hsz, f0, f1⟩
  have HO0 : Hid (OwnMk (W.alloc (.cells #[] 112)) W.heap.size (.slice (some ⟨W.heap.size, 0, none⟩) 0 0) []) := OwnMk.made0 W W.heap.size (Nat.le_refl _)
  have HB0 : Hid (Below W.heap.size W (W.alloc (.cells #[] 112))) := (Below.refl _ _).alloc (Nat.le_refl _) _
  have HI : Hid (MkIn (W.alloc (.cells #[] 112)) a l) := (hi.keep bW).keep HB0.out
  have HBB : Hid (S4 w B (.int .i64 s) (.int .i64 t) (.int .i64 o) (.slice a l.length cap)) := hB
  have cB := (hB.keep bW).keep HB0.out
  obtain ⟨b0, b1, b2, b3, bf, _⟩ := cB
  obtain ⟨y0, y1, y2, y3, yf, _⟩ := hB
  rw [hW] at b0 b1 b2 b3 bf
  obtain ⟨n, hn⟩ : ∃ n, l.length = n := ⟨_, rfl⟩
  have HN : Hid (l.length = n) := hn
  rw [hn] at hl b0 b1 b2 b3 bf HW K0 HBB y3
  clear hW bW hsz f0 f1 hi hn
  have hsz2 : ((w.alloc (.cells #[.int .i64 0, .int .i64 0, .int .i64 0, .slice none 0 0] 51)).alloc (.cells #[.int .i64 s, .int .i64 t, .int .i64 o, .slice a n cap] 51)).heap.size = w.heap.size + 2 := by simp
  rw [HW.out, hsz2] at HO0 HB0
  rw [HW.out] at HI
  go_enter Try.func66, Try.ntmps66
  go_wp2_with (at_builtin; refine wpList_appendInMk _ rfl (.tmp 7) (.tmp 11) rfl (w.heap.size + 2) _ [] l a cap rfl (by rw [HN.out]; rfl) HO0.out HI.out (by simp; have := HN.out; omega) (by simp) ?_; intro v1 w1 ho1 hb1; obtain ⟨va, vc, rfl, _, _⟩ := ho1.in; rw [List.nil_append] at ho1; simp only [List.nil_append] at ho1 ⊢; rw [HN.out] at ho1 ⊢; have HX : Hid (OwnMk w1 (w.heap.size + 2) (.slice va n vc) l ∧ Below (w.heap.size + 2) ((w.alloc (.cells #[.int .i64 0, .int .i64 0, .int .i64 0, .slice none 0 0] 51)).alloc (.cells #[.int .i64 s, .int .i64 t, .int .i64 o, .slice a n cap] 51)) w1) := ⟨ho1, HB0.out.trans hb1⟩; clear ho1 hb1 b0 b1 b2 b3 bf y0 y1 y2 y3 yf; obtain ⟨k0, k1, k2, k3, kf, _⟩ := (by have := K0.out.2.2.2; rw [HW.out] at this; exact this.low HX.out.2 (by omega) : S4 w1 (w.heap.size + 1) (.int .i64 s) (.int .i64 t) (.int .i64 o) (.slice a n cap)); obtain ⟨j0, j1, j2, j3, jf, _⟩ := (by have := K0.out.2.2.1; rw [HW.out] at this; exact this.low HX.out.2 (by omega) : S4 w1 w.heap.size (.int .i64 0) (.int .i64 0) (.int .i64 0) (.slice none 0 0)))
  have HBL : Hid (Below w.heap.size w w1) := by
    have := K0.out.1
    rw [HW.out] at this
    exact this.trans (HX.out.2.mono (by omega))
  have HM : Hid (∀ x y0 y1 y2 y3, MkNew (((((w1.setCell ⟨w.heap.size + 1, 3, none⟩ x).setCell ⟨w.heap.size, 0, none⟩ y0).setCell ⟨w.heap.size, 1, none⟩ y1).setCell ⟨w.heap.size, 2, none⟩ y2).setCell ⟨w.heap.size, 3, none⟩ y3) w.heap.size (.slice va n vc) l) := fun x y0 y1 y2 y3 => by
    have hne : ∀ G, (Value.slice va n vc).ownBlock = some G → w.heap.size + 2 ≤ G := fun G hG => row_ge HX.out.1 G hG
    refine MkNew.lower ?_ (Nat.le_add_right _ 2)
    refine MkNew.gb (g := w.heap.size) ?_ (gbSet _ _ _ _) (fun G hG => by have := hne G hG; omega)
    refine MkNew.gb (g := w.heap.size) ?_ (gbSet _ _ _ _) (fun G hG => by have := hne G hG; omega)
    refine MkNew.gb (g := w.heap.size) ?_ (gbSet _ _ _ _) (fun G hG => by have := hne G hG; omega)
    refine MkNew.gb (g := w.heap.size) ?_ (gbSet _ _ _ _) (fun G hG => by have := hne G hG; omega)
    exact MkNew.gb (g := w.heap.size + 1) HX.out.1.new (gbSet _ _ _ _) (fun G hG => by have := hne G hG; omega)
  exact bodyPost_ret (v := .agg #[.int .i64 s, .int .i64 t, .int .i64 o, .slice va n vc]) (by simp [results, Try.results66, go_sem, j0, j1, j2, j3]) rfl ⟨⟨va, vc, by rw [HN.out], by rw [HN.out]; exact HM.out _ _ _ _ _⟩, ((((HBL.out.setCell (by simp <;> omega) _).setCell (by simp <;> omega) _).setCell (by simp <;> omega) _).setCell (by simp <;> omega) _).setCell (by simp <;> omega) _⟩
set_option maxRecDepth 100000 in
set_option maxHeartbeats 4000000 in
theorem specLetIn_any (w : World) (B R : Nat) (s t o : Int) (m : Value) (a0 a1 a2 a3 a4 now : Int) (hs : s = 0 ∨ s = 1 ∨ s = 2) (ht : 0 ≤ t ∧ t ≤ now ∧ now ≤ 1000000000000000) (ho : 0 ≤ o ∧ o ≤ 5) (hB : S4 w B (.int .i64 s) (.int .i64 t) (.int .i64 o) m) (hR : S5 w R (.int .i64 a0) (.int .i64 a1) (.int .i64 a2) (.int .i64 a3) (.int .i64 a4)) :
    Calls Try.prog 67 #[.pointer (some ⟨B, 0, none⟩), .pointer (some ⟨R, 0, none⟩), .int .i64 now] w fun e w' => e = .returned (.bool (alB s t o a3 a4 now)) ∧ S4 w' B (.int .i64 (alS s t o a3 a4 now)) (.int .i64 t) (.int .i64 (alO s t o a3 a4 now)) m ∧ w.grownBy w' (some B) := by
  have HSB : Hid (S4 w B (.int .i64 s) (.int .i64 t) (.int .i64 o) m) := hB
  obtain ⟨c0, c1, c2, c3, fr, _⟩ := hB
  obtain ⟨d0, d1, d2, d3, d4, fd, _⟩ := hR
  rcases hs with rfl | rfl | rfl
  · have HE : Hid (alB 0 t o a3 a4 now = true ∧ alS 0 t o a3 a4 now = 0 ∧ alO 0 t o a3 a4 now = o) := ⟨by simp [alB], by simp [alS], by simp [alO]⟩
    rw [HE.out.1, HE.out.2.1, HE.out.2.2]
    go_enter Try.func67, Try.ntmps67
    go_wp2_with fail
    go_ret
    exact ⟨rfl, HSB.out, gbRefl _ _⟩
  · have w1 : IntKind.i64.wrap (now - t) = now - t := by rw [IntKind.wrap_i64]; omega
    have C1 := cell_regrown c1
    have D3 := cell_regrown d3
    have f2 := fr 2
    have f0 := fr 0
    by_cases hx : now - t < a3
    · have HE : Hid (alB 1 t o a3 a4 now = false ∧ alS 1 t o a3 a4 now = 1 ∧ alO 1 t o a3 a4 now = o) := ⟨by simp [alB, hx], by simp [alS, alB, hx], by simp [alO, alB, hx]⟩
      rw [HE.out.1, HE.out.2.1, HE.out.2.2]
      clear HE fr fd
      go_enter Try.func67, Try.ntmps67
      go_wp2_with fail
      refine wp_region_quiet_below (by kernel_rfl) (by kernel_rfl) ?_
      repeat (go_big_quiet_step (fail))
      refine wpQuiet_nil ?_
      intro w2 hw2
      have hbb : Below w.heap.size w w2 := by
        obtain ⟨⟨d, os⟩, rfl⟩ := hw2
        exact below_regrown w d os
      clear C1 D3 hw2
      go_wp2_with fail
      go_ret
      exact ⟨rfl, HSB.out.keep hbb, gbBelow _ hbb⟩
    · have HE : Hid (alB 1 t o a3 a4 now = true ∧ alS 1 t o a3 a4 now = 2 ∧ alO 1 t o a3 a4 now = 1) := ⟨by simp [alB, hx], by simp [alS, alB, hx], by simp [alO, alB, hx]⟩
      rw [HE.out.1, HE.out.2.1, HE.out.2.2]
      clear HE fr fd
      go_enter Try.func67, Try.ntmps67
      go_wp2_with fail
      refine wp_region_quiet_below (by kernel_rfl) (by kernel_rfl) ?_
      repeat (go_big_quiet_step (fail))
      refine wpQuiet_nil ?_
      intro w2 hw2
      have hbb : Below w.heap.size w w2 := by
        obtain ⟨⟨d, os⟩, rfl⟩ := hw2
        exact below_regrown w d os
      have HK : Hid (S4 w2 B (.int .i64 1) (.int .i64 t) (.int .i64 o) m ∧ w.grownBy w2 (some B)) := ⟨HSB.out.keep hbb, gbBelow _ hbb⟩
      obtain ⟨e0, e1, e2, e3, ef, _⟩ := HK.out.1
      have ef0 := ef 0
      have ef2 := ef 2
      clear C1 D3 hw2 hbb c0 c1 c2 c3 d0 d1 d2 d3 d4 f0 f2 ef
      go_wp2_with fail
      go_ret
      exact ⟨rfl, (HK.out.1.set0 _).set2 _, gbTrans (gbTrans HK.out.2 (gbSet _ _ _ _)) (gbSet _ _ _ _)⟩
  · have w1 : IntKind.i64.wrap (o + 1) = o + 1 := by rw [IntKind.wrap_i64]; omega
    have C2 := cell_regrown c2
    have D4 := cell_regrown d4
    by_cases hx : a4 ≤ o
    · have HE : Hid (alB 2 t o a3 a4 now = false ∧ alS 2 t o a3 a4 now = 2 ∧ alO 2 t o a3 a4 now = o) := ⟨by simp [alB, hx], by simp [alS], by simp [alO, alB, hx]⟩
      rw [HE.out.1, HE.out.2.1, HE.out.2.2]
      clear HE fr fd
      go_enter Try.func67, Try.ntmps67
      go_wp2_with fail
      refine wp_region_quiet_below (by kernel_rfl) (by kernel_rfl) ?_
      repeat (go_big_quiet_step (fail))
      refine wpQuiet_nil ?_
      intro w2 hw2
      have hbb : Below w.heap.size w w2 := by
        obtain ⟨⟨d, os⟩, rfl⟩ := hw2
        exact below_regrown w d os
      clear C2 D4 hw2
      go_wp2_with fail
      go_ret
      exact ⟨rfl, HSB.out.keep hbb, gbBelow _ hbb⟩
    · have HE : Hid (alB 2 t o a3 a4 now = true ∧ alS 2 t o a3 a4 now = 2 ∧ alO 2 t o a3 a4 now = o + 1) := ⟨by simp [alB, hx], by simp [alS], by simp [alO, alB, hx]⟩
      rw [HE.out.1, HE.out.2.1, HE.out.2.2]
      clear HE fr fd
      go_enter Try.func67, Try.ntmps67
      go_wp2_with fail
      refine wp_region_quiet_below (by kernel_rfl) (by kernel_rfl) ?_
      repeat (go_big_quiet_step (fail))
      refine wpQuiet_nil ?_
      intro w2 hw2
      have hbb : Below w.heap.size w w2 := by
        obtain ⟨⟨d, os⟩, rfl⟩ := hw2
        exact below_regrown w d os
      have HK : Hid (S4 w2 B (.int .i64 2) (.int .i64 t) (.int .i64 o) m ∧ w.grownBy w2 (some B)) := ⟨HSB.out.keep hbb, gbBelow _ hbb⟩
      obtain ⟨e0, e1, e2, e3, ef, _⟩ := HK.out.1
      have ef2 := ef 2
      clear C2 D4 hw2 hbb c0 c1 c2 c3 d0 d1 d2 d3 d4 ef
      go_wp2_with fail
      go_ret
      exact ⟨rfl, HK.out.1.set2 _, gbTrans HK.out.2 (gbSet _ _ _ _)⟩
end Go.Proofs.Ytmgidcigihpbeaa
