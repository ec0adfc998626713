/-
  The draw of a breaker that some happened to.
-/
import Derived.Test.YtmgidcigihpbeaaDraw10R
import Derived.Test.YtmgidcigihpbeaaDrawHeapT
import Derived.Test.YtmgidcigihpbeaaNoteSO
import Derived.Test.YtmgidcigihpbeaaGoodStep
import Derived.Test.YtmgidcigihpbeaaAllowS
import Derived.Test.YtmgidcigihpbeaaMkOwn
namespace Go.Proofs.Ytmgidcigihpbeaa
open Go.ChangeShapes Go.WideShapes Go.ChangeAt Go.RowKit Go.Sort
structure RulOk (a0 a1 a2 a3 a4 : Int) : Prop where
  h0 : 1 ≤ a0 ∧ a0 ≤ 1000000
  h1 : 1 ≤ a1 ∧ a1 ≤ 50
  h2 : 1 ≤ a2 ∧ a2 ≤ 1000
  h3 : 0 ≤ a3 ∧ a3 ≤ 1000000
  h4 : 1 ≤ a4 ∧ a4 ≤ 5
theorem rulQ {p : Prop} (h : p) : Hid p := h
theorem rulOk {a0 a1 a2 a3 a4 : Int} (q0 : a0 ∈ [(1000 : Int), 5000, 300]) (q1 : a1 ∈ [(1 : Int), 2, 3, 5]) (q2 : a2 ∈ [(500 : Int), 500, 1000, 1, 300]) (q3 : a3 ∈ [(0 : Int), 500, 2000]) (q4 : a4 ∈ [(1 : Int), 1, 2, 5]) : RulOk a0 a1 a2 a3 a4 := by
  simp only [List.mem_cons, List.not_mem_nil, or_false] at q0 q1 q2 q3 q4
  exact ⟨by omega, by omega, by omega, by omega, by omega⟩
set_option maxRecDepth 100000 in
set_option maxHeartbeats 4000000 in
theorem l10RulesR_any (w : World) (B : Nat) (a : Option Addr) (len cap k : Nat) (hs : Src w B a len cap k) (hk : k ≤ 900) (hl2 : len ≤ 1048577) :
    Calls Try.prog 85 #[.pointer (some ⟨B, 0, none⟩)] w fun e w' => (∃ a0 a1 a2 a3 a4 : Int, e = .returned (.agg #[.int .i64 a0, .int .i64 a1, .int .i64 a2, .int .i64 a3, .int .i64 a4]) ∧ RulOk a0 a1 a2 a3 a4) ∧ Src w' B a len cap (k + 5) ∧ Below B w w' ∧ Apart B w w' := by
  have hlt := hs.lt
  obtain ⟨W, hW⟩ : ∃ W, W = w.alloc (.cells #[.int .i64 0, .int .i64 0, .int .i64 0, .int .i64 0, .int .i64 0] 53) := ⟨_, rfl⟩
  have HW := hid12 hW
  have HS0 : Hid (Src W B a len cap (k)) := by show Src _ _ _ _ _ _; rw [hW]; exact hs.alloc _
  have HV : Hid (Below B w W ∧ Apart B w W) := by rw [hW]; exact ⟨(Below.refl _ _).alloc (Nat.le_of_lt hlt) _, Apart.alloc _ _ _⟩
  have HM : Hid (C5 W w.heap.size (.int .i64 0) (.int .i64 0) (.int .i64 0) (.int .i64 0) (.int .i64 0)) := by show C5 _ _ _ _ _ _ _; rw [hW]; exact C5.new w _ _ _ _ _ _
  have HA0 : Hid (Below B W W ∧ Apart B W W) := ⟨Below.refl _ _, Apart.refl _ _⟩
  clear hs hW
  go_enter Try.func85, Try.ntmps85
  go_upto_region 1 with fail
  rw [← HW.out]
  clear HW
  go_wp2_with fail
  refine (l1Pick_a _ B a len cap (k + 0) HS0.out [1000, 5000, 300] 3 rfl (by omega) (by omega) (by omega) hl2).mono ?_
  rintro r w1 ⟨⟨a0, q0, rfl⟩, hs1, hb1, ha1⟩
  have HQ0 := rulQ q0
  clear q0
  have HS1 : Hid (Src w1 B a len cap (k + 1)) := hs1
  have HA1 : Hid (Below B W w1 ∧ Apart B W w1) := ⟨HA0.out.1.trans hb1, HA0.out.2.trans ha1⟩
  clear hs1 hb1 ha1 HS0 HA0
  go_wp2_with fail
  refine (l1Pick_a _ B a len cap (k + 1) HS1.out [1, 2, 3, 5] 4 rfl (by omega) (by omega) (by omega) hl2).mono ?_
  rintro r w2 ⟨⟨a1, q1, rfl⟩, hs1, hb1, ha1⟩
  have HQ1 := rulQ q1
  clear q1
  have HS2 : Hid (Src w2 B a len cap (k + 2)) := hs1
  have HA2 : Hid (Below B W w2 ∧ Apart B W w2) := ⟨HA1.out.1.trans hb1, HA1.out.2.trans ha1⟩
  clear hs1 hb1 ha1 HS1 HA1
  go_wp2_with fail
  refine (l1Pick_a _ B a len cap (k + 2) HS2.out [500, 500, 1000, 1, 300] 5 rfl (by omega) (by omega) (by omega) hl2).mono ?_
  rintro r w3 ⟨⟨a2, q2, rfl⟩, hs1, hb1, ha1⟩
  have HQ2 := rulQ q2
  clear q2
  have HS3 : Hid (Src w3 B a len cap (k + 3)) := hs1
  have HA3 : Hid (Below B W w3 ∧ Apart B W w3) := ⟨HA2.out.1.trans hb1, HA2.out.2.trans ha1⟩
  clear hs1 hb1 ha1 HS2 HA2
  go_wp2_with fail
  refine (l1Pick_a _ B a len cap (k + 3) HS3.out [0, 500, 2000] 3 rfl (by omega) (by omega) (by omega) hl2).mono ?_
  rintro r w4 ⟨⟨a3, q3, rfl⟩, hs1, hb1, ha1⟩
  have HQ3 := rulQ q3
  clear q3
  have HS4 : Hid (Src w4 B a len cap (k + 4)) := hs1
  have HA4 : Hid (Below B W w4 ∧ Apart B W w4) := ⟨HA3.out.1.trans hb1, HA3.out.2.trans ha1⟩
  clear hs1 hb1 ha1 HS3 HA3
  go_wp2_with fail
  refine (l1Pick_a _ B a len cap (k + 4) HS4.out [1, 1, 2, 5] 4 rfl (by omega) (by omega) (by omega) hl2).mono ?_
  rintro r w5 ⟨⟨a4, q4, rfl⟩, hs1, hb1, ha1⟩
  have HQ4 := rulQ q4
  clear q4
  have HS5 : Hid (Src w5 B a len cap (k + 5)) := hs1
  have HA5 : Hid (Below B W w5 ∧ Apart B W w5) := ⟨HA4.out.1.trans hb1, HA4.out.2.trans ha1⟩
  clear hs1 hb1 ha1 HS4 HA4
  obtain ⟨r0, r1, r2, r3, r4, rf, _⟩ := HM.out.apart HA5.out.2 (by omega)
  go_wp2_with fail
  exact bodyPost_ret (v := .agg #[.int .i64 a0, .int .i64 a1, .int .i64 a2, .int .i64 a3, .int .i64 a4]) (by simp [results, Try.results85, go_sem, r0, r1, r2, r3, r4]) rfl ⟨⟨a0, a1, a2, a3, a4, rfl, rulOk HQ0.out HQ1.out HQ2.out HQ3.out HQ4.out⟩, src_off (src_off (src_off (src_off (src_off (HS5.out) hlt) hlt) hlt) hlt) hlt, ((((((HV.out.1.trans HA5.out.1).setCell (Nat.le_of_lt hlt) _).setCell (Nat.le_of_lt hlt) _).setCell (Nat.le_of_lt hlt) _).setCell (Nat.le_of_lt hlt) _).setCell (Nat.le_of_lt hlt) _), ((((((HV.out.2.trans HA5.out.2).off (Nat.le_refl _)).off (Nat.le_refl _)).off (Nat.le_refl _)).off (Nat.le_refl _)).off (Nat.le_refl _))⟩
theorem RulOk.good {a0 a1 a2 a3 a4 : Int} (h : RulOk a0 a1 a2 a3 a4) : Good 0 0 0 [] a0 a1 a2 a3 a4 0 := ⟨by omega, by omega, by omega, by omega, by simp, by simp, fun _ => rfl, fun _ => rfl, h.h0, h.h1, h.h2, h.h3, h.h4⟩
theorem S4.ah {B : Nat} {w w' : World} {b : Nat} {v0 v1 v2 v3 : Value} (k : S4 w b v0 v1 v2 v3) (h : ApartH B w w') (hn : b ≠ B) : S4 w' b v0 v1 v2 v3 := by
  have ha := h.cells
  exact ⟨by rw [ha.cell _ _ k.lt hn]; exact k.c0, by rw [ha.cell _ _ k.lt hn]; exact k.c1, by rw [ha.cell _ _ k.lt hn]; exact k.c2, by rw [ha.cell _ _ k.lt hn]; exact k.c3, fun o => by rw [ha.frozen _ _ k.lt hn]; exact k.fr o, Nat.lt_of_lt_of_le k.lt ha.size⟩
theorem S5.ah {B : Nat} {w w' : World} {b : Nat} {v0 v1 v2 v3 v4 : Value} (k : S5 w b v0 v1 v2 v3 v4) (h : ApartH B w w') (hn : b ≠ B) : S5 w' b v0 v1 v2 v3 v4 := by
  have ha := h.cells
  exact ⟨by rw [ha.cell _ _ k.lt hn]; exact k.c0, by rw [ha.cell _ _ k.lt hn]; exact k.c1, by rw [ha.cell _ _ k.lt hn]; exact k.c2, by rw [ha.cell _ _ k.lt hn]; exact k.c3, by rw [ha.cell _ _ k.lt hn]; exact k.c4, fun o => by rw [ha.frozen _ _ k.lt hn]; exact k.fr o, Nat.lt_of_lt_of_le k.lt ha.size⟩
theorem OwnMk.apart {B : Nat} {w w' : World} {base : Nat} {v : Value} {l : List Mk} (h : OwnMk w base v l) (ha : ApartH B w w') (hB : B < base) : OwnMk w' base v l := by
  obtain ⟨h1, h2⟩ := h
  refine ⟨h1, ?_⟩
  rcases h2 with h2 | ⟨g, c, cur, e, hg, hh, hrest⟩
  · exact .inl h2
  · exact .inr ⟨g, c, cur, e, hg, by rw [ha.block g (Array.getElem?_eq_some_iff.1 hh).1 (by omega)]; exact hh, hrest⟩
/-- What is held while a breaker is drawn: N is the block of the result, N + 1 that of the breaker. -/
structure DB (w X : World) (N SB R : Nat) (a0 a1 a2 a3 a4 : Int) (a : Option Addr) (len cap k : Nat) (s t o : Int) (va : Option Addr) (n vc : Nat) (l : List Mk) : Prop where
  sr : Src X SB a len cap k
  rl : S5 X R (.int .i64 a0) (.int .i64 a1) (.int .i64 a2) (.int .i64 a3) (.int .i64 a4)
  r0 : S4 X N (.int .i64 0) (.int .i64 0) (.int .i64 0) (.slice none 0 0)
  bb : S4 X (N + 1) (.int .i64 s) (.int .i64 t) (.int .i64 o) (.slice va n vc)
  ow : OwnMk X (N + 2) (.slice va n vc) l
  ln : l.length = n
  lo : ApartH SB w X
  bl : Below SB w X
  lt : w.heap.size = N ∧ SB < N ∧ R < N ∧ R ≠ SB
theorem DB.step {w X Y : World} {N SB R : Nat} {a0 a1 a2 a3 a4 : Int} {a : Option Addr} {len cap k k' : Nat} {s t o : Int} {va : Option Addr} {n vc : Nat} {l : List Mk} (h : DB w X N SB R a0 a1 a2 a3 a4 a len cap k s t o va n vc l) (hs : Src Y SB a len cap k') (hb : Below SB X Y) (ha : ApartH SB X Y) : DB w Y N SB R a0 a1 a2 a3 a4 a len cap k' s t o va n vc l := by
  obtain ⟨e, l1, l2, l3⟩ := h.lt
  exact ⟨hs, h.rl.ah ha l3, h.r0.ah ha (by omega), h.bb.ah ha (by omega), h.ow.apart ha (by omega), h.ln, h.lo.trans ha, h.bl.trans hb, e, l1, l2, l3⟩
theorem DB.turn {w X Y : World} {N SB R : Nat} {a0 a1 a2 a3 a4 : Int} {a : Option Addr} {len cap k : Nat} {s t o : Int} {va : Option Addr} {n vc : Nat} {l : List Mk} {s' t' o' : Int} {va' : Option Addr} {n' vc' : Nat} {l' : List Mk} (h : DB w X N SB R a0 a1 a2 a3 a4 a len cap k s t o va n vc l) (h4 : S4 Y (N + 1) (.int .i64 s') (.int .i64 t') (.int .i64 o') (.slice va' n' vc')) (ho : OwnMk Y (N + 2) (.slice va' n' vc') l') (hn : l'.length = n') (hg : X.grownBy Y (some (N + 1))) : DB w Y N SB R a0 a1 a2 a3 a4 a len cap k s' t' o' va' n' vc' l' := by
  obtain ⟨e, l1, l2, l3⟩ := h.lt
  have hx := h.bb.lt
  refine ⟨h.sr.below (gbTo hg (by omega) (by omega)), h.rl.gb hg (by omega), h.r0.gb hg (by omega), h4, ho, hn, ⟨Nat.le_trans h.lo.size hg.size, fun b hb hnb => ?_⟩, h.bl.trans (gbTo hg (by omega) (by omega)), e, l1, l2, l3⟩
  rw [hg.block b (Nat.lt_of_lt_of_le hb h.lo.size) (by simp; omega)]
  exact h.lo.block b hb hnb
theorem DB.push {w X Y : World} {N SB R : Nat} {a0 a1 a2 a3 a4 : Int} {a : Option Addr} {len cap k : Nat} {s t o : Int} {va : Option Addr} {n vc : Nat} {l : List Mk} {va' : Option Addr} {n' vc' : Nat} {l' : List Mk} (h : DB w X N SB R a0 a1 a2 a3 a4 a len cap k s t o va n vc l) (ho : OwnMk Y (N + 2) (.slice va' n' vc') l') (hn : l'.length = n') (hb : Below (N + 2) X Y) : DB w (Y.setCell ⟨N + 1, 3, none⟩ (.slice va' n' vc')) N SB R a0 a1 a2 a3 a4 a len cap k s t o va' n' vc' l' := by
  obtain ⟨e, l1, l2, l3⟩ := h.lt
  have hx := h.bb.lt
  refine ⟨src_off (h.sr.below (hb.mono (by omega))) (by omega), (h.rl.low hb (by omega)).off (by omega), (h.r0.low hb (by omega)).off (by omega), (h.bb.low hb (by omega)).set3 _, ho.offB (gbSet _ _ _ _) (by omega), hn, ⟨?_, fun b hb1 hnb => ?_⟩, (h.bl.trans (hb.mono (by omega))).setCell (by simp; omega) _, e, l1, l2, l3⟩
  · have := h.lo.size; have := hb.size; simp [World.setCell]; omega
  · rw [setCell_block (by simp; omega), hb.block b (by omega)]
    exact h.lo.block b hb1 hnb
theorem DB.fin {w X : World} {N SB R : Nat} {a0 a1 a2 a3 a4 : Int} {a : Option Addr} {len cap k : Nat} {s t o : Int} {va : Option Addr} {n vc : Nat} {l : List Mk} (h : DB w X N SB R a0 a1 a2 a3 a4 a len cap k s t o va n vc l) (y0 y1 y2 y3 : Value) : OwnMk ((((X.setCell ⟨N, 0, none⟩ y0).setCell ⟨N, 1, none⟩ y1).setCell ⟨N, 2, none⟩ y2).setCell ⟨N, 3, none⟩ y3) N (.slice va n vc) l ∧ Src ((((X.setCell ⟨N, 0, none⟩ y0).setCell ⟨N, 1, none⟩ y1).setCell ⟨N, 2, none⟩ y2).setCell ⟨N, 3, none⟩ y3) SB a len cap k ∧ Below SB w ((((X.setCell ⟨N, 0, none⟩ y0).setCell ⟨N, 1, none⟩ y1).setCell ⟨N, 2, none⟩ y2).setCell ⟨N, 3, none⟩ y3) ∧ ApartH SB w ((((X.setCell ⟨N, 0, none⟩ y0).setCell ⟨N, 1, none⟩ y1).setCell ⟨N, 2, none⟩ y2).setCell ⟨N, 3, none⟩ y3) := by
  obtain ⟨e, l1, l2, l3⟩ := h.lt
  have one : ∀ (Y : World) (i : Nat) (y : Value), OwnMk Y (N + 2) (.slice va n vc) l ∧ Src Y SB a len cap k ∧ Below SB w Y ∧ ApartH SB w Y → OwnMk (Y.setCell ⟨N, i, none⟩ y) (N + 2) (.slice va n vc) l ∧ Src (Y.setCell ⟨N, i, none⟩ y) SB a len cap k ∧ Below SB w (Y.setCell ⟨N, i, none⟩ y) ∧ ApartH SB w (Y.setCell ⟨N, i, none⟩ y) := fun Y i y ⟨h1, h2, h3, h4⟩ => ⟨h1.offB (gbSet _ _ _ _) (by omega), src_off h2 (by omega), h3.setCell (by simp; omega) _, by have := h4.size; simp [World.setCell]; omega, fun b hb hn => by rw [setCell_block (by simp; omega)]; exact h4.block b hb hn⟩
  obtain ⟨z1, z2⟩ := one _ 3 y3 (one _ 2 y2 (one _ 1 y1 (one _ 0 y0 ⟨h.ow, h.sr, h.bl, h.lo⟩)))
  exact ⟨z1.lower (by omega), z2⟩
def DrawnB (w w' : World) (N SB : Nat) (a : Option Addr) (len cap k : Nat) (e : Ending) : Prop := ∃ (s t o now : Int) (va : Option Addr) (n vc : Nat) (l : List Mk), e = .returned (.tuple #[.agg #[.int .i64 s, .int .i64 t, .int .i64 o, .slice va n vc], .int .i64 now]) ∧ l.length = n ∧ n ≤ 60 ∧ (0 ≤ now ∧ now ≤ 35000) ∧ OwnMk w' N (.slice va n vc) l ∧ (∃ k', k' ≤ k + 200 ∧ Src w' SB a len cap k') ∧ Below SB w w' ∧ ApartH SB w w'
theorem DrawnB.mk {w w' : World} {N SB : Nat} {a : Option Addr} {len cap k : Nat} {e : Ending} (h : ∃ (s t o now : Int) (va : Option Addr) (n vc : Nat) (l : List Mk), e = .returned (.tuple #[.agg #[.int .i64 s, .int .i64 t, .int .i64 o, .slice va n vc], .int .i64 now]) ∧ l.length = n ∧ n ≤ 60 ∧ (0 ≤ now ∧ now ≤ 35000) ∧ OwnMk w' N (.slice va n vc) l ∧ (∃ k', k' ≤ k + 200 ∧ Src w' SB a len cap k') ∧ Below SB w w' ∧ ApartH SB w w') : DrawnB w w' N SB a len cap k e := h
noncomputable def lenAt (X : World) (N : Nat) : Nat := match X.cell? ⟨N + 1, 3, none⟩ with
  | some (.slice _ n _) => n
  | _ => 0
theorem lenAt_eq {X : World} {N n vc : Nat} {va : Option Addr} (h : X.cell? ⟨N + 1, 3, none⟩ = some (.slice va n vc)) : lenAt X N = n := by unfold lenAt; rw [h]
set_option maxRecDepth 100000 in
set_option maxHeartbeats 16000000 in
theorem l10Draw_any (w : World) (SB R : Nat) (a0 a1 a2 a3 a4 : Int) (a : Option Addr) (len cap k : Nat) (hs : Src w SB a len cap k) (hR : S5 w R (.int .i64 a0) (.int .i64 a1) (.int .i64 a2) (.int .i64 a3) (.int .i64 a4)) (hne : R ≠ SB) (hru : RulOk a0 a1 a2 a3 a4) (hk : k ≤ 1000) (hl2 : len ≤ 1048577) (N : Nat) (hN : w.heap.size = N) :
    Calls Try.prog 86 #[.pointer (some ⟨SB, 0, none⟩), .pointer (some ⟨R, 0, none⟩)] w fun e w' => DrawnB w w' N SB a len cap k e := by
  have HRU := rulQ hru
  have J0 : Hid (DB w ((w.alloc (.cells #[.int .i64 0, .int .i64 0, .int .i64 0, .slice none 0 0] 51)).alloc (.cells #[.int .i64 0, .int .i64 0, .int .i64 0, .slice none 0 0] 51)) N SB R a0 a1 a2 a3 a4 a len cap k 0 0 0 none 0 0 []) := by
    have b1 : Below w.heap.size w (w.alloc (.cells #[.int .i64 0, .int .i64 0, .int .i64 0, .slice none 0 0] 51)) := (Below.refl _ _).alloc (Nat.le_refl _) _
    obtain ⟨w1, hw1⟩ : ∃ w1, w.alloc (.cells #[.int .i64 0, .int .i64 0, .int .i64 0, .slice none 0 0] 51) = w1 := ⟨_, rfl⟩
    have s1 : S4 w1 w.heap.size (.int .i64 0) (.int .i64 0) (.int .i64 0) (.slice none 0 0) := by rw [← hw1]; exact S4.new w _ _ _ _ _
    have z1 : w1.heap.size = w.heap.size + 1 := by rw [← hw1]; simp
    rw [hw1] at b1 ⊢
    have b2 : Below w1.heap.size w1 (w1.alloc (.cells #[.int .i64 0, .int .i64 0, .int .i64 0, .slice none 0 0] 51)) := (Below.refl _ _).alloc (Nat.le_refl _) _
    have s2 := S4.new w1 (.int .i64 0) (.int .i64 0) (.int .i64 0) (.slice none 0 0) 51
    rw [z1, hN] at s2
    rw [hN] at s1
    have b3 := b1.trans (b2.mono b1.size)
    have hlt := hs.lt
    have hr := hR.lt
    exact ⟨hs.below (b3.mono hlt), hR.keep b3, s1.keep b2, s2, OwnMk.none0 _ _, rfl, .below b3, b3.mono (Nat.le_of_lt hlt), hN, by omega, by omega, hne⟩
  obtain ⟨V1, hV1⟩ : ∃ V, V = w.alloc (.cells #[.int .i64 0, .int .i64 0, .int .i64 0, .slice none 0 0] 51) := ⟨_, rfl⟩
  rw [← hV1] at J0
  have hz1 : V1.heap.size = N + 1 := by rw [hV1, ← hN]; simp
  have HV1 := hid12 hV1
  obtain ⟨V2, hV2⟩ : ∃ V, V = V1.alloc (.cells #[.int .i64 0, .int .i64 0, .int .i64 0, .slice none 0 0] 51) := ⟨_, rfl⟩
  rw [← hV2] at J0
  have HV2 := hid12 hV2
  clear hs hR hne hru hV1 hV2
  go_enter Try.func86, Try.ntmps86
  go_upto_region 1 with fail
  rw [← HV1.out]
  clear HV1
  go_upto_region 2 with fail
  rw [← HV2.out]
  clear HV2 hz1
  generalize V2 = W0 at *
  go_wp2_with fail
  refine (l1Pick_h _ SB a len cap k J0.out.sr [0, 2, 5, 9, 14] 5 rfl (by omega) (by omega) (by omega) hl2).mono ?_
  rintro r x0 ⟨⟨c, cm, rfl⟩, hs1, hb1, ha1⟩
  have hn : 0 ≤ c ∧ c ≤ 14 := by simp only [List.mem_cons, List.not_mem_nil, or_false] at cm; omega
  clear cm
  have J1 := hid12 (J0.out.step hs1 hb1 ha1)
  clear hs1 hb1 ha1 J0
  go_wp2_with fail
  go_loopw [7, 8] (fun v i X => ∃ (M : Nat) (now s t o : Int) (va : Option Addr) (n vc : Nat) (l : List Mk) (k' : Nat), i = .int .i64 (M : Int) ∧ v = .int .i64 now ∧ n + M ≤ 14 ∧ k' + 3 * M ≤ k + 50 ∧ 0 ≤ now ∧ now + 2500 * (M : Int) ≤ 35000 ∧ Good s t o l a0 a1 a2 a3 a4 now ∧ DB w X N SB R a0 a1 a2 a3 a4 a len cap k' s t o va n vc l) (fun _ i _ => (intOf i).toNat)
  case atStart => exact ⟨c.toNat, 0, 0, 0, 0, none, 0, 0, [], k + 1, by rw [Int.toNat_of_nonneg hn.1], rfl, by omega, by omega, by omega, by omega, HRU.out.good, J1.out⟩
  case round =>
    obtain ⟨M, now, s, t, o, va, n, vc, l, k', rfl, rfl, hnM, hk', hn0, hn1, hgood, hJ⟩ := hrel
    clear J1 hn
    have J0 := hid12 hJ
    have HG : Hid (Good s t o l a0 a1 a2 a3 a4 now) := hgood
    clear hJ hgood
    cases M with
    | zero =>
      have HLN : Hid (l.length = n) := J0.out.ln
      have HL60 : Hid (n ≤ 60) := (by show n ≤ 60; omega)
      have HNOW : Hid (0 ≤ now ∧ now ≤ 35000) := (by show 0 ≤ now ∧ now ≤ 35000; omega)
      have hs012 := HG.out.hs
      go_wp2_with fail
      refine (l1Chance_h _ SB a len cap k' 25 J0.out.sr (by omega) (by omega) (by omega) hl2).mono ?_
      rintro r x1 ⟨⟨c25, rfl⟩, hs1, hb1, ha1⟩
      have J2 := hid12 (J0.out.step hs1 hb1 ha1)
      clear hs1 hb1 ha1 J0
      cases c25
      · clear hs012 HG
        obtain ⟨c0, c1, c2, c3, fr, _⟩ := J2.out.bb
        obtain ⟨r0, r1, r2, r3, rf, _⟩ := J2.out.r0
        have rf0 := rf 0
        have rf1 := rf 1
        have rf2 := rf 2
        have rf3 := rf 3
        clear rf fr
        have HOW : Hid (∀ y0 y1 y2 y3, OwnMk ((((x1.setCell ⟨N, 0, none⟩ y0).setCell ⟨N, 1, none⟩ y1).setCell ⟨N, 2, none⟩ y2).setCell ⟨N, 3, none⟩ y3) N (.slice va n vc) l ∧ Src ((((x1.setCell ⟨N, 0, none⟩ y0).setCell ⟨N, 1, none⟩ y1).setCell ⟨N, 2, none⟩ y2).setCell ⟨N, 3, none⟩ y3) SB a len cap (k' + 1) ∧ Below SB w ((((x1.setCell ⟨N, 0, none⟩ y0).setCell ⟨N, 1, none⟩ y1).setCell ⟨N, 2, none⟩ y2).setCell ⟨N, 3, none⟩ y3) ∧ ApartH SB w ((((x1.setCell ⟨N, 0, none⟩ y0).setCell ⟨N, 1, none⟩ y1).setCell ⟨N, 2, none⟩ y2).setCell ⟨N, 3, none⟩ y3)) := fun y0 y1 y2 y3 => DB.fin J2.out y0 y1 y2 y3
        have HKB : Hid ((k' + 1) ≤ k + 200) := (by show (k' + 1) ≤ k + 200; omega)
        clear J2
        go_wp2_with fail
        exact bodyPost_ret (v := .tuple #[.agg #[.int .i64 s, .int .i64 t, .int .i64 o, .slice va n vc], .int .i64 now]) (by simp [results, Try.results86, go_sem, r0, r1, r2, r3]) rfl (DrawnB.mk ⟨s, t, o, now, va, n, vc, l, rfl, HLN.out, HL60.out, HNOW.out, (HOW.out _ _ _ _).1, ⟨(k' + 1), HKB.out, (HOW.out _ _ _ _).2.1⟩, (HOW.out _ _ _ _).2.2.1, (HOW.out _ _ _ _).2.2.2⟩)
      · have K2 := J2.out.bb.c0
        rcases hs012 with rfl | rfl | rfl
        · clear K2
          obtain ⟨c0, c1, c2, c3, fr, _⟩ := J2.out.bb
          clear HG fr
          go_wp2_with fail
          refine (l1Pick_h _ SB a len cap (k' + 1) J2.out.sr [59, 60] 2 rfl (by omega) (by omega) (by omega) hl2).mono ?_
          rintro r x2 ⟨⟨m2, mm, rfl⟩, hs1, hb1, ha1⟩
          have hm2 : m2 ≤ 60 := by simp only [List.mem_cons, List.not_mem_nil, or_false] at mm; omega
          clear mm
          have J3 := hid12 (J2.out.step hs1 hb1 ha1)
          clear hs1 hb1 ha1 J2
          clear c0 c1 c2 c3
          go_wp2_with fail
          have hk2 : k' + 2 ≤ k + 52 := by omega
          go_loopw [] (fun X => ∃ (va : Option Addr) (n vc : Nat) (l : List Mk), n ≤ 60 ∧ DB w X N SB R a0 a1 a2 a3 a4 a len cap (k' + 2) 0 t o va n vc l) (fun X => 60 - lenAt X N)
          case atStart => exact ⟨va, n, vc, l, HL60.out, J3.out⟩
          case round =>
            obtain ⟨vb, nb, vd, lb, hnb, hJ⟩ := hrel
            clear J3 HLN HL60
            have J4 := hid12 hJ
            clear hJ
            obtain ⟨c0, c1, c2, c3, fr, _⟩ := J4.out.bb
            have fr3 := fr 3
            clear fr
            by_cases hlt : (nb : Int) < m2
            · have hbs : N + 2 ≤ wr.heap.size := J4.out.bb.lt
              have HE : Hid (lenAt wr N = nb) := lenAt_eq c3
              have hlb : lb.length ≤ 60 := by have := J4.out.ln; omega
              go_wp2_with (at_builtin; refine wpList_append1Mk wr rfl (.tmp 49) (.tmp 52) rfl (N + 2) _ lb ⟨now, true⟩ rfl (by simp [go_sem]) J4.out.ow (by omega) hbs ?_; intro v2 x5 h1 h2 _; obtain ⟨lc, hlc⟩ : ∃ lc, lb ++ [(⟨now, true⟩ : Mk)] = lc := ⟨_, rfl⟩; have hle : lc.length = nb + 1 := (by rw [← hlc, List.length_append, J4.out.ln]; rfl); rw [hlc] at h1; obtain ⟨g, ve, rfl, hve⟩ := h1.some (by omega); rw [hle] at h1 hve ⊢; have J5 := hid12 (J4.out.push h1 hle h2); have HC5 := hid12 (J4.out.bb.low h2 (by omega)); clear h1 h2 hlc; obtain ⟨d0, d1, d2, d3, df, _⟩ := HC5.out; have df3 := df 3; clear df c0 c1 c2 c3 fr3)
              go_roundw
              case rel => exact ⟨_, nb + 1, ve, lc, by omega, J5.out⟩
              case measure => have := HE.out; rw [lenAt_eq J5.out.bb.c3, this]; omega
            · have HLN : Hid (lb.length = nb) := J4.out.ln
              have HL60 : Hid (nb ≤ 60) := hnb
              clear c0 c1 c2 c3 fr3
              obtain ⟨c0, c1, c2, c3, fr, _⟩ := J4.out.bb
              obtain ⟨r0, r1, r2, r3, rf, _⟩ := J4.out.r0
              have rf0 := rf 0
              have rf1 := rf 1
              have rf2 := rf 2
              have rf3 := rf 3
              clear rf fr
              have HOW : Hid (∀ y0 y1 y2 y3, OwnMk ((((wr.setCell ⟨N, 0, none⟩ y0).setCell ⟨N, 1, none⟩ y1).setCell ⟨N, 2, none⟩ y2).setCell ⟨N, 3, none⟩ y3) N (.slice vb nb vd) lb ∧ Src ((((wr.setCell ⟨N, 0, none⟩ y0).setCell ⟨N, 1, none⟩ y1).setCell ⟨N, 2, none⟩ y2).setCell ⟨N, 3, none⟩ y3) SB a len cap (k' + 2) ∧ Below SB w ((((wr.setCell ⟨N, 0, none⟩ y0).setCell ⟨N, 1, none⟩ y1).setCell ⟨N, 2, none⟩ y2).setCell ⟨N, 3, none⟩ y3) ∧ ApartH SB w ((((wr.setCell ⟨N, 0, none⟩ y0).setCell ⟨N, 1, none⟩ y1).setCell ⟨N, 2, none⟩ y2).setCell ⟨N, 3, none⟩ y3)) := fun y0 y1 y2 y3 => DB.fin J4.out y0 y1 y2 y3
              have HKB : Hid ((k' + 2) ≤ k + 200) := (by show (k' + 2) ≤ k + 200; omega)
              clear J4
              go_wp2_with fail
              exact bodyPost_ret (v := .tuple #[.agg #[.int .i64 0, .int .i64 t, .int .i64 o, .slice vb nb vd], .int .i64 now]) (by simp [results, Try.results86, go_sem, r0, r1, r2, r3]) rfl (DrawnB.mk ⟨0, t, o, now, vb, nb, vd, lb, rfl, HLN.out, HL60.out, HNOW.out, (HOW.out _ _ _ _).1, ⟨(k' + 2), HKB.out, (HOW.out _ _ _ _).2.1⟩, (HOW.out _ _ _ _).2.2.1, (HOW.out _ _ _ _).2.2.2⟩)
        · clear HG K2
          obtain ⟨c0, c1, c2, c3, fr, _⟩ := J2.out.bb
          obtain ⟨r0, r1, r2, r3, rf, _⟩ := J2.out.r0
          have rf0 := rf 0
          have rf1 := rf 1
          have rf2 := rf 2
          have rf3 := rf 3
          clear rf fr
          have HOW : Hid (∀ y0 y1 y2 y3, OwnMk ((((x1.setCell ⟨N, 0, none⟩ y0).setCell ⟨N, 1, none⟩ y1).setCell ⟨N, 2, none⟩ y2).setCell ⟨N, 3, none⟩ y3) N (.slice va n vc) l ∧ Src ((((x1.setCell ⟨N, 0, none⟩ y0).setCell ⟨N, 1, none⟩ y1).setCell ⟨N, 2, none⟩ y2).setCell ⟨N, 3, none⟩ y3) SB a len cap (k' + 1) ∧ Below SB w ((((x1.setCell ⟨N, 0, none⟩ y0).setCell ⟨N, 1, none⟩ y1).setCell ⟨N, 2, none⟩ y2).setCell ⟨N, 3, none⟩ y3) ∧ ApartH SB w ((((x1.setCell ⟨N, 0, none⟩ y0).setCell ⟨N, 1, none⟩ y1).setCell ⟨N, 2, none⟩ y2).setCell ⟨N, 3, none⟩ y3)) := fun y0 y1 y2 y3 => DB.fin J2.out y0 y1 y2 y3
          have HKB : Hid ((k' + 1) ≤ k + 200) := (by show (k' + 1) ≤ k + 200; omega)
          clear J2
          go_wp2_with fail
          exact bodyPost_ret (v := .tuple #[.agg #[.int .i64 1, .int .i64 t, .int .i64 o, .slice va n vc], .int .i64 now]) (by simp [results, Try.results86, go_sem, r0, r1, r2, r3]) rfl (DrawnB.mk ⟨1, t, o, now, va, n, vc, l, rfl, HLN.out, HL60.out, HNOW.out, (HOW.out _ _ _ _).1, ⟨(k' + 1), HKB.out, (HOW.out _ _ _ _).2.1⟩, (HOW.out _ _ _ _).2.2.1, (HOW.out _ _ _ _).2.2.2⟩)
        · clear HG K2
          obtain ⟨c0, c1, c2, c3, fr, _⟩ := J2.out.bb
          obtain ⟨r0, r1, r2, r3, rf, _⟩ := J2.out.r0
          have rf0 := rf 0
          have rf1 := rf 1
          have rf2 := rf 2
          have rf3 := rf 3
          clear rf fr
          have HOW : Hid (∀ y0 y1 y2 y3, OwnMk ((((x1.setCell ⟨N, 0, none⟩ y0).setCell ⟨N, 1, none⟩ y1).setCell ⟨N, 2, none⟩ y2).setCell ⟨N, 3, none⟩ y3) N (.slice va n vc) l ∧ Src ((((x1.setCell ⟨N, 0, none⟩ y0).setCell ⟨N, 1, none⟩ y1).setCell ⟨N, 2, none⟩ y2).setCell ⟨N, 3, none⟩ y3) SB a len cap (k' + 1) ∧ Below SB w ((((x1.setCell ⟨N, 0, none⟩ y0).setCell ⟨N, 1, none⟩ y1).setCell ⟨N, 2, none⟩ y2).setCell ⟨N, 3, none⟩ y3) ∧ ApartH SB w ((((x1.setCell ⟨N, 0, none⟩ y0).setCell ⟨N, 1, none⟩ y1).setCell ⟨N, 2, none⟩ y2).setCell ⟨N, 3, none⟩ y3)) := fun y0 y1 y2 y3 => DB.fin J2.out y0 y1 y2 y3
          have HKB : Hid ((k' + 1) ≤ k + 200) := (by show (k' + 1) ≤ k + 200; omega)
          clear J2
          go_wp2_with fail
          exact bodyPost_ret (v := .tuple #[.agg #[.int .i64 2, .int .i64 t, .int .i64 o, .slice va n vc], .int .i64 now]) (by simp [results, Try.results86, go_sem, r0, r1, r2, r3]) rfl (DrawnB.mk ⟨2, t, o, now, va, n, vc, l, rfl, HLN.out, HL60.out, HNOW.out, (HOW.out _ _ _ _).1, ⟨(k' + 1), HKB.out, (HOW.out _ _ _ _).2.1⟩, (HOW.out _ _ _ _).2.2.1, (HOW.out _ _ _ _).2.2.2⟩)
    | succ M =>
      have gN : (0 : Int) < ((M + 1 : Nat) : Int) := by omega
      go_wp2_with fail
      refine (l1Pick_h _ SB a len cap k' J0.out.sr [0, 10, 100, 600, 2500] 5 rfl (by omega) (by omega) (by omega) hl2).mono ?_
      rintro r x1 ⟨⟨d, dm, rfl⟩, hs1, hb1, ha1⟩
      have hd : 0 ≤ d ∧ d ≤ 2500 := by simp only [List.mem_cons, List.not_mem_nil, or_false] at dm; omega
      clear dm
      have J1 := hid12 (J0.out.step hs1 hb1 ha1)
      clear hs1 hb1 ha1 J0
      have wn : IntKind.i64.wrap (now + d) = now + d := by rw [IntKind.wrap_i64]; omega
      go_wp2_with fail
      refine (l1Chance_h _ SB a len cap (k' + 1) 3 J1.out.sr (by omega) (by omega) (by omega) hl2).mono ?_
      rintro r x2 ⟨⟨c3, rfl⟩, hs1, hb1, ha1⟩
      have J2 := hid12 (J1.out.step hs1 hb1 ha1)
      clear hs1 hb1 ha1 J1
      have HG2 : Hid (Good s t o l a0 a1 a2 a3 a4 (now + d)) := HG.out.later (by omega) (by omega)
      clear HG
      have hwn : now + d ≤ 35000 := by omega
      cases c3
      · 
        go_wp2_with fail
        refine (l1Chance_h _ SB a len cap (k' + 2) 2 J2.out.sr (by omega) (by omega) (by omega) hl2).mono ?_
        rintro r x3 ⟨⟨c2, rfl⟩, hs1, hb1, ha1⟩
        have J3 := hid12 (J2.out.step hs1 hb1 ha1)
        clear hs1 hb1 ha1 J2
        have h59 : l.length ≤ 59 := by have := J3.out.ln; omega
        have HLN : Hid (l.length = n) := J3.out.ln
        have HST : Hid (Calls Try.prog 74 #[.pointer (some ⟨N + 1, 0, none⟩), .pointer (some ⟨R, 0, none⟩), .int .i64 (now + d), .bool c2] x3 fun e w' => e = .returned (.tuple #[]) ∧ NoteTO w' (N + 2) (N + 1) (noteV s t o l a0 a1 a2 (now + d) c2) ∧ x3.grownBy w' (some (N + 1))) := by
          have z := specTurnO_any x3 (N + 2) (N + 1) R (by omega) J3.out.bb.lt (by have := J3.out.lt; omega) s t o va vc l a0 a1 a2 a3 a4 (now + d) c2 h59 HG2.out (by rw [HLN.out]; exact J3.out.bb) J3.out.rl (by rw [HLN.out]; exact J3.out.ow)
          exact z
        have HG3 : Hid (Good (noteV s t o l a0 a1 a2 (now + d) c2).s (noteV s t o l a0 a1 a2 (now + d) c2).t (noteV s t o l a0 a1 a2 (now + d) c2).o (noteV s t o l a0 a1 a2 (now + d) c2).l a0 a1 a2 a3 a4 (now + d) ∧ (noteV s t o l a0 a1 a2 (now + d) c2).l.length ≤ n + 1) := by
          have z := HG2.out.note c2 h59
          rw [HLN.out] at z
          exact z
        clear HG2 h59 HLN
        generalize noteV s t o l a0 a1 a2 (now + d) c2 = nv at *
        go_wp2_with fail
        refine HST.out.mono ?_
        rintro r x4 ⟨rfl, ⟨vb, vd, h4, ho⟩, hg⟩
        have J4 := hid12 (J3.out.turn h4 ho rfl hg)
        clear h4 ho hg J3 HST
        obtain ⟨s2, t2, o2, l2⟩ := nv
        obtain ⟨n2, hn2⟩ : ∃ x, l2.length = x := ⟨_, rfl⟩
        have hle : n2 ≤ n + 1 := by have := HG3.out.2; simp only at this; omega
        have HG4 : Hid (Good s2 t2 o2 l2 a0 a1 a2 a3 a4 (now + d)) := HG3.out.1
        simp only [hn2] at J4
        clear HG3 hn2
        go_wp2_with fail
        go_roundw
        case rel => exact ⟨M, now + d, s2, t2, o2, vb, n2, vd, l2, k' + 3, by go_num, rfl, by omega, by omega, by omega, by omega, HG4.out, J4.out⟩
        case measure => simp [intOf]
      · have HST : Hid (Calls Try.prog 67 #[.pointer (some ⟨N + 1, 0, none⟩), .pointer (some ⟨R, 0, none⟩), .int .i64 (now + d)] x2 fun e w' => e = .returned (.bool (alB s t o a3 a4 (now + d))) ∧ S4 w' (N + 1) (.int .i64 (alS s t o a3 a4 (now + d))) (.int .i64 t) (.int .i64 (alO s t o a3 a4 (now + d))) (.slice va n vc) ∧ x2.grownBy w' (some (N + 1))) := specLetIn_any x2 (N + 1) R s t o (.slice va n vc) a0 a1 a2 a3 a4 (now + d) HG2.out.hs ⟨HG2.out.ht.1, HG2.out.ht.2, HG2.out.hnow⟩ HG2.out.ho J2.out.bb J2.out.rl
        have HG3 : Hid (Good (alS s t o a3 a4 (now + d)) t (alO s t o a3 a4 (now + d)) l a0 a1 a2 a3 a4 (now + d)) := HG2.out.allow
        clear HG2
        generalize alS s t o a3 a4 (now + d) = s2 at *
        generalize alO s t o a3 a4 (now + d) = o2 at *
        generalize alB s t o a3 a4 (now + d) = b2 at *
        go_wp2_with fail
        refine HST.out.mono ?_
        rintro r x4 ⟨rfl, h4, hg⟩
        have J4 := hid12 (J2.out.turn h4 (J2.out.ow.offB hg (by omega)) J2.out.ln hg)
        clear h4 hg J2 HST
        go_wp2_with fail
        go_roundw
        case rel => exact ⟨M, now + d, s2, t, o2, va, n, vc, l, k' + 2, by go_num, rfl, by omega, by omega, by omega, by omega, HG3.out, J4.out⟩
        case measure => simp [intOf]
end Go.Proofs.Ytmgidcigihpbeaa
