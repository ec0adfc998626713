/-
  The draws of lanes.
-/
import Derived.Test.YtmgidcigihpbeaaDrawTimeB
import Derived.Test.YtmgidcigihpbeaaWGB
import Derived.Deep.CutRange
namespace Go.Proofs.Ytmgidcigihpbeaa
open Go.ChangeShapes Go.WideShapes Go.ChangeAt Go.RowKit Go.Sort
theorem D2.apart {B : Nat} {w w' : World} {b : Nat} {v0 v1 : Value} (k : D2 w b v0 v1) (ha : Apart B w w') (hn : b ≠ B) : D2 w' b v0 v1 :=
  ⟨by rw [ha.cell _ _ k.lt hn]; exact k.c0, by rw [ha.cell _ _ k.lt hn]; exact k.c1, fun o => by rw [ha.frozen _ _ k.lt hn]; exact k.fr o, Nat.lt_of_lt_of_le k.lt ha.size⟩
theorem D3.apart {B : Nat} {w w' : World} {b : Nat} {v0 v1 v2 : Value} (k : D3 w b v0 v1 v2) (ha : Apart B w w') (hn : b ≠ B) : D3 w' b v0 v1 v2 :=
  ⟨by rw [ha.cell _ _ k.lt hn]; exact k.c0, by rw [ha.cell _ _ k.lt hn]; exact k.c1, by rw [ha.cell _ _ k.lt hn]; exact k.c2, fun o => by rw [ha.frozen _ _ k.lt hn]; exact k.fr o, Nat.lt_of_lt_of_le k.lt ha.size⟩
set_option maxRecDepth 100000 in
set_option maxHeartbeats 4000000 in
theorem l11Lanes_any (w : World) (B : Nat) (a : Option Addr) (len cap k : Nat) (hs : Src w B a len cap k) (hk : k ≤ 900) (hl2 : len ≤ 1048577) :
    Calls Try.prog 79 #[.pointer (some ⟨B, 0, none⟩)] w fun e w' => (∃ s c t : Int, e = .returned (.agg #[.int .i64 s, .int .i64 c, .int .i64 t])) ∧ Src w' B a len cap (k + 3) ∧ Below B w w' ∧ Apart B w w' := by
  have hlt := hs.lt
  obtain ⟨W, hW⟩ : ∃ W, W = w.alloc (.cells #[.int .i64 0, .int .i64 0, .int .i64 0] 28) := ⟨_, rfl⟩
  have HW := hid11 hW
  have HS0 : Hid (Src W B a len cap (k)) := by show Src _ _ _ _ _ _; rw [hW]; exact hs.alloc _
  have HV : Hid (Below B w W ∧ Apart B w W) := by rw [hW]; exact ⟨(Below.refl _ _).alloc (Nat.le_of_lt hlt) _, Apart.alloc _ _ _⟩
  have HM : Hid (D3 W w.heap.size (.int .i64 0) (.int .i64 0) (.int .i64 0)) := by show D3 _ _ _ _ _; rw [hW]; exact D3.new w _ _ _ _
  have HA0 : Hid (Below B W W ∧ Apart B W W) := ⟨Below.refl _ _, Apart.refl _ _⟩
  clear hs hW
  go_enter Try.func79, Try.ntmps79
  go_upto_region 1 with fail
  rw [← HW.out]
  clear HW
  go_wp2_with fail
  refine (l1Pick_a _ B a len cap (k + 0) HS0.out [1, 1, 2, 8] 4 rfl (by omega) (by omega) (by omega) hl2).mono ?_
  rintro r w1 ⟨⟨s, _, rfl⟩, hs1, hb1, ha1⟩
  have HS1 : Hid (Src w1 B a len cap (k + 1)) := hs1
  have HA1 : Hid (Below B W w1 ∧ Apart B W w1) := ⟨HA0.out.1.trans hb1, HA0.out.2.trans ha1⟩
  clear hs1 hb1 ha1 HS0 HA0
  go_wp2_with fail
  refine (l1Pick_a _ B a len cap (k + 1) HS1.out [0, 1, 2, 8] 4 rfl (by omega) (by omega) (by omega) hl2).mono ?_
  rintro r w2 ⟨⟨c, _, rfl⟩, hs1, hb1, ha1⟩
  have HS2 : Hid (Src w2 B a len cap (k + 2)) := hs1
  have HA2 : Hid (Below B W w2 ∧ Apart B W w2) := ⟨HA1.out.1.trans hb1, HA1.out.2.trans ha1⟩
  clear hs1 hb1 ha1 HS1 HA1
  go_wp2_with fail
  refine (l1Pick_a _ B a len cap (k + 2) HS2.out [0, 500, 2000] 3 rfl (by omega) (by omega) (by omega) hl2).mono ?_
  rintro r w3 ⟨⟨t, _, rfl⟩, hs1, hb1, ha1⟩
  have HS3 : Hid (Src w3 B a len cap (k + 3)) := hs1
  have HA3 : Hid (Below B W w3 ∧ Apart B W w3) := ⟨HA2.out.1.trans hb1, HA2.out.2.trans ha1⟩
  clear hs1 hb1 ha1 HS2 HA2
  obtain ⟨r0, r1, r2, rf, _⟩ := HM.out.apart HA3.out.2 (by omega)
  go_wp2_with fail
  exact bodyPost_ret (v := .agg #[.int .i64 s, .int .i64 c, .int .i64 t]) (by simp [results, Try.results79, go_sem, r0, r1, r2]) rfl ⟨⟨s, c, t, rfl⟩, src_off (src_off (src_off HS3.out hlt) hlt) hlt, (((HV.out.1.trans HA3.out.1).setCell (Nat.le_of_lt hlt) _).setCell (Nat.le_of_lt hlt) _).setCell (Nat.le_of_lt hlt) _, (((HV.out.2.trans HA3.out.2).off (Nat.le_refl _)).off (Nat.le_refl _)).off (Nat.le_refl _)⟩
set_option maxRecDepth 100000 in
set_option maxHeartbeats 8000000 in
theorem drawLanes_any (w : World) (a : Option Addr) (len cap : Nat) (hc : CodeRow w w.heap.size a len) (hl2 : len ≤ 1048577) :
    Calls Try.prog 80 #[.slice a len cap] w fun e w' => (∃ s c t : Int, e = .returned (.agg #[.int .i64 s, .int .i64 c, .int .i64 t])) ∧ Below w.heap.size w w' := by
  obtain ⟨W, hW⟩ : ∃ W, W = w.alloc (.cells #[.int .i64 0, .int .i64 0, .int .i64 0] 28) := ⟨_, rfl⟩
  have HW := hid11 hW
  have bW : Below w.heap.size w W := by rw [hW]; exact (Below.refl _ _).alloc (Nat.le_refl _) _
  have hsz : W.heap.size = w.heap.size + 1 := by rw [hW]; simp
  have HM : Hid (D3 W w.heap.size (.int .i64 0) (.int .i64 0) (.int .i64 0)) := by show D3 _ _ _ _ _; rw [hW]; exact D3.new w _ _ _ _
  have HSR : Hid (Calls Try.prog 78 #[.slice a len cap] W fun e w' => e = .returned (.pointer (some ⟨w.heap.size + 1, 0, none⟩)) ∧ Src w' (w.heap.size + 1) a len cap 0 ∧ Below (w.heap.size + 1) W w') := by
    have := l1Source_any W a len cap ((hc.below bW).mono (by omega))
    rw [hsz] at this
    exact this
  have HBW := hid11 bW
  have HZ := hid11 hsz
  clear hc hW bW hsz
  go_enter Try.func80, Try.ntmps80
  go_wp2_with fail
  rw [← HW.out]
  clear HW
  refine HSR.out.mono ?_
  rintro r w1 ⟨rfl, hs1, hb1⟩
  have HS1 := hid11 hs1
  have HB1 := hid11 (HBW.out.trans (hb1.mono (Nat.le_succ _)))
  have HR1 := hid11 (HM.out.low hb1 (by omega))
  clear hs1 hb1 HSR HM HBW HZ
  go_wp2_with fail
  refine (l11Lanes_any _ (w.heap.size + 1) a len cap 0 HS1.out (by omega) hl2).mono ?_
  rintro r w2 ⟨⟨s, c, t, rfl⟩, hs2, hb2, ha2⟩
  have HS2 : Hid (Src w2 (w.heap.size + 1) a len cap 3) := hs2
  have HB2 := hid11 (HB1.out.trans (hb2.mono (Nat.le_succ _)))
  have HR2 := hid11 (HR1.out.apart ha2 (by omega))
  clear hs2 hb2 ha2 HS1 HB1 HR1
  obtain ⟨V, hV⟩ : ∃ V, V = w2.alloc (.cells #[.int .i64 s, .int .i64 c, .int .i64 t] 28) := ⟨_, rfl⟩
  have HV := hid11 hV
  have bV : Below w2.heap.size w2 V := by rw [hV]; exact (Below.refl _ _).alloc (Nat.le_refl _) _
  have dV : D3 V w2.heap.size (.int .i64 s) (.int .i64 c) (.int .i64 t) := by rw [hV]; exact D3.new w2 _ _ _ _
  have HS3 : Hid (Src V (w.heap.size + 1) a len cap 3) := by show Src _ _ _ _ _ _; rw [hV]; exact HS2.out.alloc _
  have HB3 := hid11 (HB2.out.trans (bV.mono HB2.out.size))
  have HR3 := hid11 (HR2.out.keep bV)
  obtain ⟨L, hL⟩ : ∃ L, w2.heap.size = L := ⟨_, rfl⟩
  have HLB : Hid (w.heap.size + 2 ≤ L) := by show _ ≤ _; rw [← hL]; exact HS2.out.lt
  rw [hL] at dV
  have HL3 := hid11 dV
  clear hV bV dV HS2 HB2 HR2
  go_upto_region 3 with fail
  rw [← HV.out]
  clear HV hL
  go_wp2_with fail
  refine (l1Next_a _ (w.heap.size + 1) a len cap 3 9 HS3.out (by omega) (by omega) (by omega) hl2).mono ?_
  rintro r w4 ⟨⟨v, v0, v1, rfl⟩, hs4, hb4, ha4⟩
  have HS4 : Hid (Src w4 (w.heap.size + 1) a len cap 4) := hs4
  have HB4 := hid11 (HB3.out.trans (hb4.mono (Nat.le_succ _)))
  have HR4 := hid11 (HR3.out.apart ha4 (by omega))
  have HL4 := hid11 (HL3.out.apart ha4 (by have := HLB.out; omega))
  clear hs4 hb4 ha4 HS3 HB3 HR3 HL3
  have n0 : ¬ v = 0 → (v == 0) = false := fun h => by simpa using h
  have n1 : ¬ v = 1 → (v == 1) = false := fun h => by simpa using h
  have n2 : ¬ v = 2 → (v == 2) = false := fun h => by simpa using h
  by_cases hv0 : v = 0
  · subst hv0
    clear n0 n1 n2
    go_wp2_with fail
    refine (l1Pick_a _ (w.heap.size + 1) a len cap 4 HS4.out [0, 9] 2 rfl (by omega) (by omega) (by omega) hl2).mono ?_
    rintro r w5 ⟨⟨x, _, rfl⟩, _, hb1, ha1⟩
    have D5 := HL4.out.apart ha1 (by have := HLB.out; omega)
    have R5 := HR4.out.apart ha1 (by omega)
    have b5 := HB4.out.trans (hb1.mono (Nat.le_succ _))
    clear hb1 ha1 HS4 HL4 HR4 HB4
    have DL : Hid (D3 (w5.setCell ⟨L, 0, none⟩ (.int .i64 x)) L (.int .i64 x) (.int .i64 c) (.int .i64 t)) := by
      have ne : ∀ i j : Nat, i ≠ j → (⟨L, i, none⟩ : Addr) ≠ ⟨L, j, none⟩ := fun i j h e => h (congrArg Addr.off e)
      exact ⟨World.cell?_setCell_same _ _ _ D5.c0, by rw [World.cell?_setCell_other _ _ _ _ (ne _ _ (by decide))]; exact D5.c1, by rw [World.cell?_setCell_other _ _ _ _ (ne _ _ (by decide))]; exact D5.c2, fun o => by rw [World.frozen?_setCell]; exact D5.fr o, by simpa using D5.lt⟩
    have DR : Hid (D3 (w5.setCell ⟨L, 0, none⟩ (.int .i64 x)) w.heap.size (.int .i64 0) (.int .i64 0) (.int .i64 0)) := R5.gw (gwSet _ _ _ _) (by have := HLB.out; omega)
    have BX : Hid (Below w.heap.size w (w5.setCell ⟨L, 0, none⟩ (.int .i64 x))) := b5.setCell (by have := HLB.out; simp; omega) _
    obtain ⟨V, hV⟩ : ∃ V, V = w5.setCell ⟨L, 0, none⟩ (.int .i64 x) := ⟨_, rfl⟩
    have HV := hid11 hV
    rw [← hV] at DL DR BX
    obtain ⟨d0, d1, d2, df, _⟩ := D5
    clear R5 b5 hV
    go_upto_region 10 with fail
    rw [← HV.out]
    clear HV d0 d1 d2 df
    obtain ⟨o0, o1, o2, of, _⟩ := DL.out
    obtain ⟨r0, r1, r2, rf, _⟩ := DR.out
    go_wp2_with fail
    exact bodyPost_ret (v := .agg #[.int .i64 x, .int .i64 c, .int .i64 t]) (by simp [results, Try.results80, go_sem, r0, r1, r2]) rfl ⟨⟨_, _, _, rfl⟩, ((BX.out.setCell (Nat.le_refl _) _).setCell (Nat.le_refl _) _).setCell (Nat.le_refl _) _⟩
  by_cases hv1 : v = 1
  · subst hv1
    have z0 := n0 (by omega)
    clear n0 n1 n2
    go_wp2_with fail
    refine (l1Pick_a _ (w.heap.size + 1) a len cap 4 HS4.out [-1, 9] 2 rfl (by omega) (by omega) (by omega) hl2).mono ?_
    rintro r w5 ⟨⟨x, _, rfl⟩, _, hb1, ha1⟩
    have D5 := HL4.out.apart ha1 (by have := HLB.out; omega)
    have R5 := HR4.out.apart ha1 (by omega)
    have b5 := HB4.out.trans (hb1.mono (Nat.le_succ _))
    clear hb1 ha1 HS4 HL4 HR4 HB4
    have DL : Hid (D3 (w5.setCell ⟨L, 1, none⟩ (.int .i64 x)) L (.int .i64 s) (.int .i64 x) (.int .i64 t)) := by
      have ne : ∀ i j : Nat, i ≠ j → (⟨L, i, none⟩ : Addr) ≠ ⟨L, j, none⟩ := fun i j h e => h (congrArg Addr.off e)
      exact ⟨by rw [World.cell?_setCell_other _ _ _ _ (ne _ _ (by decide))]; exact D5.c0, World.cell?_setCell_same _ _ _ D5.c1, by rw [World.cell?_setCell_other _ _ _ _ (ne _ _ (by decide))]; exact D5.c2, fun o => by rw [World.frozen?_setCell]; exact D5.fr o, by simpa using D5.lt⟩
    have DR : Hid (D3 (w5.setCell ⟨L, 1, none⟩ (.int .i64 x)) w.heap.size (.int .i64 0) (.int .i64 0) (.int .i64 0)) := R5.gw (gwSet _ _ _ _) (by have := HLB.out; omega)
    have BX : Hid (Below w.heap.size w (w5.setCell ⟨L, 1, none⟩ (.int .i64 x))) := b5.setCell (by have := HLB.out; simp; omega) _
    obtain ⟨V, hV⟩ : ∃ V, V = w5.setCell ⟨L, 1, none⟩ (.int .i64 x) := ⟨_, rfl⟩
    have HV := hid11 hV
    rw [← hV] at DL DR BX
    obtain ⟨d0, d1, d2, df, _⟩ := D5
    clear R5 b5 hV
    go_upto_region 10 with fail
    rw [← HV.out]
    clear HV d0 d1 d2 df
    obtain ⟨o0, o1, o2, of, _⟩ := DL.out
    obtain ⟨r0, r1, r2, rf, _⟩ := DR.out
    go_wp2_with fail
    exact bodyPost_ret (v := .agg #[.int .i64 s, .int .i64 x, .int .i64 t]) (by simp [results, Try.results80, go_sem, r0, r1, r2]) rfl ⟨⟨_, _, _, rfl⟩, ((BX.out.setCell (Nat.le_refl _) _).setCell (Nat.le_refl _) _).setCell (Nat.le_refl _) _⟩
  by_cases hv2 : v = 2
  · subst hv2
    have z0 := n0 (by omega)
    have z1 := n1 (by omega)
    clear n0 n1 n2
    go_wp2_with fail
    refine (l1Pick_a _ (w.heap.size + 1) a len cap 4 HS4.out [-1, 1000001] 2 rfl (by omega) (by omega) (by omega) hl2).mono ?_
    rintro r w5 ⟨⟨x, _, rfl⟩, _, hb1, ha1⟩
    have D5 := HL4.out.apart ha1 (by have := HLB.out; omega)
    have R5 := HR4.out.apart ha1 (by omega)
    have b5 := HB4.out.trans (hb1.mono (Nat.le_succ _))
    clear hb1 ha1 HS4 HL4 HR4 HB4
    have DL : Hid (D3 (w5.setCell ⟨L, 2, none⟩ (.int .i64 x)) L (.int .i64 s) (.int .i64 c) (.int .i64 x)) := by
      have ne : ∀ i j : Nat, i ≠ j → (⟨L, i, none⟩ : Addr) ≠ ⟨L, j, none⟩ := fun i j h e => h (congrArg Addr.off e)
      exact ⟨by rw [World.cell?_setCell_other _ _ _ _ (ne _ _ (by decide))]; exact D5.c0, by rw [World.cell?_setCell_other _ _ _ _ (ne _ _ (by decide))]; exact D5.c1, World.cell?_setCell_same _ _ _ D5.c2, fun o => by rw [World.frozen?_setCell]; exact D5.fr o, by simpa using D5.lt⟩
    have DR : Hid (D3 (w5.setCell ⟨L, 2, none⟩ (.int .i64 x)) w.heap.size (.int .i64 0) (.int .i64 0) (.int .i64 0)) := R5.gw (gwSet _ _ _ _) (by have := HLB.out; omega)
    have BX : Hid (Below w.heap.size w (w5.setCell ⟨L, 2, none⟩ (.int .i64 x))) := b5.setCell (by have := HLB.out; simp; omega) _
    obtain ⟨V, hV⟩ : ∃ V, V = w5.setCell ⟨L, 2, none⟩ (.int .i64 x) := ⟨_, rfl⟩
    have HV := hid11 hV
    rw [← hV] at DL DR BX
    obtain ⟨d0, d1, d2, df, _⟩ := D5
    clear R5 b5 hV
    go_upto_region 10 with fail
    rw [← HV.out]
    clear HV d0 d1 d2 df
    obtain ⟨o0, o1, o2, of, _⟩ := DL.out
    obtain ⟨r0, r1, r2, rf, _⟩ := DR.out
    go_wp2_with fail
    exact bodyPost_ret (v := .agg #[.int .i64 s, .int .i64 c, .int .i64 x]) (by simp [results, Try.results80, go_sem, r0, r1, r2]) rfl ⟨⟨_, _, _, rfl⟩, ((BX.out.setCell (Nat.le_refl _) _).setCell (Nat.le_refl _) _).setCell (Nat.le_refl _) _⟩
  have z0 := n0 hv0
  have z1 := n1 hv1
  have z2 := n2 hv2
  clear n0 n1 n2
  have DL := HL4
  have DR := HR4
  have BX := HB4
  clear HL4 HR4 HB4 HS4
  obtain ⟨o0, o1, o2, of, _⟩ := DL.out
  obtain ⟨r0, r1, r2, rf, _⟩ := DR.out
  go_wp2_with fail
  exact bodyPost_ret (v := .agg #[.int .i64 s, .int .i64 c, .int .i64 t]) (by simp [results, Try.results80, go_sem, r0, r1, r2]) rfl ⟨⟨_, _, _, rfl⟩, ((BX.out.setCell (Nat.le_refl _) _).setCell (Nat.le_refl _) _).setCell (Nat.le_refl _) _⟩
end Go.Proofs.Ytmgidcigihpbeaa
